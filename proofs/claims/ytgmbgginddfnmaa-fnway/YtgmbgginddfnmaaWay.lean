/- The law on ways, step by step. -/
import Derived.Test.YtgmbgginddfnmaaCfD4
import Derived.Test.YtgmbgginddfnmaaHop
set_option linter.unusedVariables false
namespace Go.Proofs.Ytgmbgginddfnmaa
open Go Go.RowKit Draw Own

theorem big_no (a : Option Addr) (len cap : Nat) (W : World) (h : len ≤ 1048576) :
    Calls Try.prog 11 #[.slice a len cap] W fun e w' => e = .returned (.bool false) ∧ W = w' := by
  have hd : decide ((1048576 : Int) < (len : Int)) = false := by simp; omega
  go_enter Try.func11, Try.ntmps11
  go_wp2
  go_ret
  exact ⟨rfl, rfl⟩
theorem big_yes (a : Option Addr) (len cap : Nat) (W : World) (h : 1048576 < len) (h2 : len ≤ maxLen) :
    Calls Try.prog 11 #[.slice a len cap] W fun e w' => e = .returned (.bool true) ∧ W = w' := by
  unfold maxLen at h2
  have hd : decide ((1048576 : Int) < (len : Int)) = true := by simp; omega
  go_enter Try.func11, Try.ntmps11
  go_wp2
  go_ret
  exact ⟨rfl, rfl⟩
theorem nh_cases (c : Cf) (a b : Int) : (nhV c a b = -1 ∧ (confB c = true → a ≠ b → (a, b) ∉ c.L)) ∨ (∃ r : Nat, nhV c a b = (r : Int) ∧ (a, (r : Int)) ∈ c.L ∧ ((r : Int) = b ∨ nhV c (r : Int) b = b)) := by
  by_cases hc : confB c = true
  · obtain ⟨hin, _, hd⟩ := conf_links hc
    by_cases hab : (0 ≤ a ∧ a ≤ 2) ∧ (0 ≤ b ∧ b ≤ 2)
    · obtain ⟨f, rfl⟩ : ∃ f : Nat, a = (f : Int) := ⟨a.toNat, by omega⟩
      obtain ⟨t, rfl⟩ : ∃ t : Nat, b = (t : Int) := ⟨b.toNat, by omega⟩
      have hf : f < 3 := by omega
      have ht : t < 3 := by omega
      rw [nhV_in c f t hc hf ht]
      rcases hop_way hd hf ht with ⟨h1, h2⟩ | ⟨q, hq, h1, h2, h3⟩
      · left
        refine ⟨h1, fun _ hn hm => ?_⟩
        have := h2 (fun e => hn (by rw [e]))
        unfold lkH at this
        exact of_decide_eq_false this hm
      · right
        refine ⟨q, h1, of_decide_eq_true h2, ?_⟩
        rcases h3 with h3 | h3
        · left; rw [h3]
        · right; rw [nhV_in c q t hc hq ht]; exact h3
    · left
      refine ⟨?_, fun _ _ hm => hab (hin _ hm)⟩
      unfold nhV
      have : (btw a 0 2 && btw b 0 2) = false := by
        rw [Bool.and_eq_false_iff]
        by_cases h1 : 0 ≤ a ∧ a ≤ 2
        · right
          cases hb : btw b 0 2 with
          | false => rfl
          | true => exact absurd ⟨h1, (btw_iff _ _ _).1 hb⟩ hab
        · left
          cases hb : btw a 0 2 with
          | false => rfl
          | true => exact absurd ((btw_iff _ _ _).1 hb) h1
      rw [this]; simp
  · left
    refine ⟨?_, fun h => absurd h hc⟩
    unfold nhV
    rw [Bool.not_eq_true] at hc
    rw [hc]; rfl

set_option maxRecDepth 100000 in
set_option maxHeartbeats 25600000 in
theorem way_at (ad : Option Addr) (len cap : Nat) (zs : List Int) (W : World) (hl : len ≤ 1048576) (hz : CodeAt W W.heap.size ad len zs) :
    Calls Try.prog 4 #[.slice ad len cap] W fun e w' => e = .returned (.bool true) ∧ Below W.heap.size W w' := by
  have HX := drawNH ad len cap zs W hz
  clear hz
  go_enter Try.func4, Try.ntmps4
  go_wp2_with fail
  refine (big_no ad len cap W hl).mono ?_
  rintro e w0 ⟨rfl, rfl⟩
  go_wp2_with fail
  refine HX.mono ?_
  clear HX
  rintro en w1 ⟨c, a, b, rfl, ai, bi, C, K, BB⟩
  obtain ⟨w2, hw2⟩ : ∃ v, w1.alloc (.cells #[.slice c.ua c.U.length c.uc, .slice c.sa c.S.length c.sc, .slice c.la c.L.length c.lc, .slice c.xa c.X.length c.xc, .int .i64 c.k] 30) = v := ⟨_, rfl⟩
  have T2 : Blk w1.heap.size c.cells w2 := by rw [← hw2]; exact Blk.new _ _ _
  have B2 : Below W.heap.size W w2 := by rw [← hw2]; exact BB.alloc BB.size _
  have C2 : CfAt c w2 := by rw [← hw2]; exact C.later ((Below.refl _ _).alloc (Nat.le_refl _) _)
  clear C BB
  have HI := implNH_is c a b w2 C2 K
  have d0 := T2.at 0 rfl
  have d1 := T2.at 1 rfl
  have d2 := T2.at 2 rfl
  have d3 := T2.at 3 rfl
  have d4 := T2.at 4 rfl
  go_wp2_with fail
  try rw [hw2]
  refine HI.mono ?_
  clear HI d0 d1 d2 d3 d4
  rintro en w3 ⟨rfl, hb3⟩
  have T3 := T2.later hb3 T2.lt
  have B3 := B2.trans (hb3.mono B2.size)
  have C3 := C2.later hb3
  clear T2 B2 C2 hb3
  have HS := specNH_is c a b w3 C3 K
  have d0 := T3.at 0 rfl
  have d1 := T3.at 1 rfl
  have d2 := T3.at 2 rfl
  have d3 := T3.at 3 rfl
  have d4 := T3.at 4 rfl
  go_wp2_with fail
  refine HS.mono ?_
  clear HS d0 d1 d2 d3 d4 hw2
  rintro en w4 ⟨rfl, hb4⟩
  have T4 := T3.later hb4 T3.lt
  have B4 := B3.trans (hb4.mono B3.size)
  have C4 := C3.later hb4
  clear T3 B3 C3 hb4
  generalize w1.heap.size = q at T4 ⊢
  have hll := K.ll
  rcases nh_cases c a b with ⟨h1, h2⟩ | ⟨r, h1, h2, h3⟩
  · rw [h1]
    replace h2 : Hid (confB c = true → a ≠ b → (a, b) ∉ c.L) := h2
    clear h1
    go_wp2
    go_loopw [7] (fun i wr => ∃ k : Nat, k ≤ c.L.length ∧ i = .int .i64 k ∧ Blk q c.cells wr ∧ CfAt c wr ∧ Below W.heap.size W wr) (fun i _ => c.L.length - (intOf i).toNat)
    case atStart => exact ⟨0, by omega, rfl, T4, C4, B4⟩
    case round =>
      clear T4 C4 B4
      obtain ⟨k, hk, rfl, T1, C1, B1⟩ := hrel
      have d0 := T1.at 0 rfl
      have d1 := T1.at 1 rfl
      have d2 := T1.at 2 rfl
      have d3 := T1.at 3 rfl
      have d4 := T1.at 4 rfl
      by_cases hlt : k < c.L.length
      · have k2 : (k : Int) < (c.L.length : Int) := by omega
        have HO := specOk_is c wr C1 K
        go_wp2_with fail
        refine HO.mono ?_
        clear HO d0 d1 d2 d3 d4
        rintro en w5 ⟨rfl, hb5⟩
        have T5 := T1.later hb5 T1.lt
        have B5 := B1.trans (hb5.mono B1.size)
        have C5 := C1.later hb5
        clear T1 B1 C1 hb5
        by_cases hc : confB c = true
        · by_cases hab : a = b
          · have e1 : (a == b) = true := beq_iff_eq.2 hab
            have e2 : (a != b) = false := by rw [bne, e1]; rfl
            have e3 : decide (a = b) = true := decide_eq_true hab
            rw [hc]
            clear hab hc
            go_wp2
            go_roundw
            case rel =>
              have R : ∃ k' : Nat, k' ≤ c.L.length ∧ Value.int .i64 ((k : Int) + 1) = .int .i64 k' ∧ Blk q c.cells w5 ∧ CfAt c w5 ∧ Below W.heap.size W w5 := ⟨k + 1, by omega, by go_num, T5, C5, B5⟩
              first | exact R | ((repeat apply Exists.intro); exact ⟨R, rfl⟩)
            case measure => simp [intOf]; omega
          · have hno : c.L[k] ≠ (a, b) := fun e => h2.out hc hab (e ▸ List.getElem_mem hlt)
            have e1 : (a == b) = false := beq_eq_false_iff_ne.2 hab
            have e2 : (a != b) = true := by rw [bne, e1]; rfl
            have e3 : decide (a = b) = false := decide_eq_false hab
            obtain ⟨bl, off, ea, lbl, l0, l1⟩ := C5.hl k hlt
            have d2 := T5.at 2 rfl
            rw [ea] at d2
            clear ea
            rw [hc]
            by_cases x1 : c.L[k].1 = a
            · have x2 : ¬ c.L[k].2 = b := fun e => hno (Prod.ext x1 e)
              rw [x1] at l0
              generalize c.L[k].2 = y at l1 x2
              clear hno x1 hc
              go_wp2
              go_roundw
              case rel =>
                have R : ∃ k' : Nat, k' ≤ c.L.length ∧ Value.int .i64 ((k : Int) + 1) = .int .i64 k' ∧ Blk q c.cells w5 ∧ CfAt c w5 ∧ Below W.heap.size W w5 := ⟨k + 1, by omega, by go_num, T5, C5, B5⟩
                first | exact R | ((repeat apply Exists.intro); exact ⟨R, rfl⟩)
              case measure => simp [intOf]; omega
            · generalize c.L[k].1 = x at l0 x1
              generalize c.L[k].2 = y at l1
              clear hno hc
              go_wp2
              go_roundw
              case rel =>
                have R : ∃ k' : Nat, k' ≤ c.L.length ∧ Value.int .i64 ((k : Int) + 1) = .int .i64 k' ∧ Blk q c.cells w5 ∧ CfAt c w5 ∧ Below W.heap.size W w5 := ⟨k + 1, by omega, by go_num, T5, C5, B5⟩
                first | exact R | ((repeat apply Exists.intro); exact ⟨R, rfl⟩)
              case measure => simp [intOf]; omega
        · rw [Bool.not_eq_true] at hc
          rw [hc]
          go_wp2
          go_roundw
          case rel =>
            have R : ∃ k' : Nat, k' ≤ c.L.length ∧ Value.int .i64 ((k : Int) + 1) = .int .i64 k' ∧ Blk q c.cells w5 ∧ CfAt c w5 ∧ Below W.heap.size W w5 := ⟨k + 1, by omega, by go_num, T5, C5, B5⟩
            first | exact R | ((repeat apply Exists.intro); exact ⟨R, rfl⟩)
          case measure => simp [intOf]; omega
      · obtain rfl : k = c.L.length := by omega
        go_wp2
        go_ret
        exact ⟨rfl, B1⟩
  · rw [h1]
    have r0 : ¬ ((r : Int) < 0) := by omega
    have HM : Hid ((a, (r : Int)) ∈ c.L) := h2
    have HT : Hid ((r : Int) = b ∨ nhV c (r : Int) b = b) := h3
    clear h1 h2 h3
    go_wp2
    go_loopw [8, 9] (fun v i wr => ∃ k : Nat, k ≤ c.L.length ∧ i = .int .i64 k ∧ v = .bool (decide ((a, (r : Int)) ∈ c.L.take k)) ∧ Blk q c.cells wr ∧ CfAt c wr ∧ Below W.heap.size W wr) (fun _ i _ => c.L.length - (intOf i).toNat)
    case atStart => exact ⟨0, by omega, rfl, by simp, T4, C4, B4⟩
    case round =>
      clear T4 C4 B4
      obtain ⟨k, hk, rfl, rfl, T1, C1, B1⟩ := hrel
      have d2 := T1.at 2 rfl
      by_cases hlt : k < c.L.length
      · have k2 : (k : Int) < (c.L.length : Int) := by omega
        have hmt := mem_take_succ hlt (a, (r : Int))
        by_cases hm : (a, (r : Int)) ∈ c.L.take k
        · have HB : Hid (decide ((a, (r : Int)) ∈ c.L.take (k + 1)) = true) := decide_eq_true (hmt.2 (Or.inl hm))
          rw [decide_eq_true hm]
          clear hm hmt
          go_wp2
          go_roundw
          case rel =>
            have R : ∃ k' : Nat, k' ≤ c.L.length ∧ Value.int .i64 ((k : Int) + 1) = .int .i64 k' ∧ Value.bool true = .bool (decide ((a, (r : Int)) ∈ c.L.take k')) ∧ Blk q c.cells wr ∧ CfAt c wr ∧ Below W.heap.size W wr := ⟨k + 1, by omega, by go_num, by rw [HB.out], T1, C1, B1⟩
            first | exact R | ((repeat apply Exists.intro); exact ⟨R, rfl⟩)
          case measure => simp [intOf]; omega
        · rw [decide_eq_false hm]
          obtain ⟨bl, off, ea, lbl, l0, l1⟩ := C1.hl k hlt
          rw [ea] at d2
          clear ea
          by_cases he : c.L[k] = (a, (r : Int))
          · have HB : Hid (decide ((a, (r : Int)) ∈ c.L.take (k + 1)) = true) := decide_eq_true (hmt.2 (Or.inr he.symm))
            rw [he] at l0 l1
            clear hm hmt he
            go_wp2
            go_roundw
            case rel =>
              have R : ∃ k' : Nat, k' ≤ c.L.length ∧ Value.int .i64 ((k : Int) + 1) = .int .i64 k' ∧ Value.bool true = .bool (decide ((a, (r : Int)) ∈ c.L.take k')) ∧ Blk q c.cells wr ∧ CfAt c wr ∧ Below W.heap.size W wr := ⟨k + 1, by omega, by go_num, by rw [HB.out], T1, C1, B1⟩
              first | exact R | ((repeat apply Exists.intro); exact ⟨R, rfl⟩)
            case measure => simp [intOf]; omega
          · have HB : Hid (decide ((a, (r : Int)) ∈ c.L.take (k + 1)) = false) := decide_eq_false (fun h => (hmt.1 h).elim hm (fun e => he e.symm))
            by_cases x1 : c.L[k].1 = a
            · have x2 : ¬ c.L[k].2 = (r : Int) := fun e => he (Prod.ext x1 e)
              rw [x1] at l0
              generalize c.L[k].2 = y at l1 x2
              clear he x1 hm hmt
              go_wp2
              go_roundw
              case rel =>
                have R : ∃ k' : Nat, k' ≤ c.L.length ∧ Value.int .i64 ((k : Int) + 1) = .int .i64 k' ∧ Value.bool false = .bool (decide ((a, (r : Int)) ∈ c.L.take k')) ∧ Blk q c.cells wr ∧ CfAt c wr ∧ Below W.heap.size W wr := ⟨k + 1, by omega, by go_num, by rw [HB.out], T1, C1, B1⟩
                first | exact R | ((repeat apply Exists.intro); exact ⟨R, rfl⟩)
              case measure => simp [intOf]; omega
            · generalize c.L[k].1 = x at l0 x1
              generalize c.L[k].2 = y at l1
              clear he hm hmt
              go_wp2
              go_roundw
              case rel =>
                have R : ∃ k' : Nat, k' ≤ c.L.length ∧ Value.int .i64 ((k : Int) + 1) = .int .i64 k' ∧ Value.bool false = .bool (decide ((a, (r : Int)) ∈ c.L.take k')) ∧ Blk q c.cells wr ∧ CfAt c wr ∧ Below W.heap.size W wr := ⟨k + 1, by omega, by go_num, by rw [HB.out], T1, C1, B1⟩
                first | exact R | ((repeat apply Exists.intro); exact ⟨R, rfl⟩)
              case measure => simp [intOf]; omega
      · obtain rfl : k = c.L.length := by omega
        rw [List.take_length, decide_eq_true HM.out]
        clear HM
        by_cases hb : (r : Int) = b
        · subst hb
          clear HT
          go_wp2
          go_ret
          exact ⟨rfl, B1⟩
        · have hn := HT.out.resolve_left hb
          have e1 : ((r : Int) == b) = false := beq_eq_false_iff_ne.2 hb
          have e2 : decide ((r : Int) = b) = false := decide_eq_false hb
          have HI := implNH_is c (r : Int) b wr C1 K
          rw [hn] at HI
          clear hb HT hn d2
          have d0 := T1.at 0 rfl
          have d1 := T1.at 1 rfl
          have d2 := T1.at 2 rfl
          have d3 := T1.at 3 rfl
          have d4 := T1.at 4 rfl
          go_wp2_with fail
          refine HI.mono ?_
          clear HI d0 d1 d2 d3 d4
          rintro en w6 ⟨rfl, hb6⟩
          have B6 := B1.trans (hb6.mono B1.size)
          clear T1 C1 B1 hb6
          go_wp2
          go_ret
          exact ⟨rfl, B6⟩
end Go.Proofs.Ytgmbgginddfnmaa
