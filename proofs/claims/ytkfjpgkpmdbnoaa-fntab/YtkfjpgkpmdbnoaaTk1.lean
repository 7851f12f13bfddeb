/- What is kept of a table: the model. -/
import Derived.Test.YtkfjpgkpmdbnoaaTb1
import Derived.Test.YtkfjpgkpmdbnoaaTk0
import Derived.Test.YtkfjpgkpmdbnoaaRg1
import Derived.Test.YtkfjpgkpmdbnoaaAppRow
set_option linter.unusedVariables false
set_option maxRecDepth 100000
namespace Go.Proofs.Ytkfjpgkpmdbnoaa
open Go Go.RowKit Go.Joins Own Draw

theorem own_drewN {w : World} {base : Nat} {e : TypeId} {size : Nat} {v : Value} {n : Nat} {xs : List Value} (h : w.ownsRow base e size v n xs) (k : Nat) : (w.drewN k).ownsRow base e size v n xs := h
set_option maxRecDepth 100000 in
set_option maxHeartbeats 6400000 in
theorem specKeep_is (a : Option Addr) (cap : Nat) (xs : List TS) (n : Int) (w : World) (hr : FRow 3 cS w a xs) (hl : xs.length ≤ 1048576) :
    Calls Try.prog 35 #[.slice a xs.length cap, .int .i64 n] w fun e w' => ∃ (ra : Option Addr) (rc : Nat), e = .returned (.slice ra (keT xs n).length rc) ∧ FOwn 31 3 cS w.heap.size ra rc (keT xs n) w' ∧ Below w.heap.size w w' := by
  obtain ⟨i0, hi, hz0, hz1, hz2⟩ := info_parts infoS
  have H0 : FOwn 31 3 cS w.heap.size (some ⟨w.heap.size, 0, none⟩) 0 [] (w.alloc (.cells #[] 31)) := World.ownsRow_lit _ _ _ (Nat.le_refl _) (by simp [maxLen]) rfl
  have B0 : Below w.heap.size w (w.alloc (.cells #[] 31)) := (Below.refl _ _).alloc (Nat.le_refl _) _
  go_enter Try.func35, Try.ntmps35
  go_wp2
  go_loopw [5, 6] (fun ov i wr => ∃ (k : Nat) (ys : List TS) (oa : Option Addr) (oc : Nat), k ≤ xs.length ∧ i = .int .i64 k ∧ ov = .slice oa ys.length oc ∧ Hid (0 < k → tabB xs = true) ∧ Hid (keG xs n k = ys) ∧ FOwn 31 3 cS w.heap.size oa oc ys wr ∧ Below w.heap.size w wr) (fun _ i _ => xs.length - (intOf i).toNat)
  case atStart => exact ⟨0, [], _, _, by omega, rfl, rfl, fun h => absurd h (by omega), rfl, H0, B0⟩
  case round =>
    clear H0 B0
    obtain ⟨k, ys, oa, oc, hk, rfl, rfl, htb, hu, ro, BC⟩ := hrel
    by_cases hlt : k < xs.length
    · have hlt2 : (k : Int) < (xs.length : Int) := by omega
      go_wp2_with fail
      have K := specTab_is a cap xs wr (hr.later BC) hl
      refine K.mono ?_
      clear K
      rintro en wt ⟨rfl, bt⟩
      replace ro : FOwn 31 3 cS w.heap.size oa oc ys wt := own_later ro bt
      replace BC := BC.trans (bt.mono BC.size)
      clear bt
      cases ht : tabB xs with
      | false =>
        have HV : Hid (keT xs n = ys) := by
          have hk0 : k = 0 := Nat.eq_zero_of_not_pos fun h => by
            have := htb.out h
            rw [ht] at this
            cases this
          have := hu.out
          rw [hk0] at this
          exact (keT_bad ht).trans this
        clear hu hr ht htb
        go_wp2
        go_ret
        exact ⟨oa, oc, by rw [HV.out]; try rfl, by rw [HV.out]; exact ro, BC⟩
      | true =>
        have HT : Hid (0 < k + 1 → tabB xs = true) := fun _ => ht
        clear htb ht
        have HK : Hid (FOwn 31 3 cS w.heap.size oa oc ys wt ∧ Below w.heap.size w wt) := ⟨ro, BC⟩
        clear ro BC
        obtain ⟨x0, hx0⟩ : ∃ x0 : Int, xs[k].1 = x0 := ⟨_, rfl⟩
        have HX : Hid (xs[k].1 = x0) := hx0
        clear hx0
        go_wp2
        go_loopw [7, 8] (fun q i wr => ∃ (j m : Nat), k + 1 ≤ j ∧ j ≤ xs.length ∧ i = .int .i64 j ∧ q = .int .i64 m ∧ m ≤ j ∧ Hid (beG xs x0 k j = m) ∧ Hid (FOwn 31 3 cS w.heap.size oa oc ys wr ∧ Below w.heap.size w wr)) (fun _ i _ => xs.length - (intOf i).toNat)
        case atStart => exact ⟨k + 1, 0, by omega, by omega, by go_num, rfl, by omega, beG_zero xs x0 k, HK⟩
        case round =>
          clear HK
          obtain ⟨j, m, hj1, hj2, rfl, rfl, hm, hbe, HK⟩ := hrel
          obtain ⟨b1, o1, e1, l1, hc⟩ := hr k hlt
          have h0 : wr.cell? ⟨b1, o1 + k * 3, none⟩ = some (.int .i64 x0) := (HK.out.2.cell (p := ⟨b1, o1 + k * 3, none⟩) l1).trans ((hc 0 _ rfl).trans (by rw [HX.out]))
          by_cases hjl : j < xs.length
          · obtain ⟨b2, o2, e2, l2, hd⟩ := hr j hjl
            subst e1
            injection e2 with e2
            injection e2 with e2 e3
            subst e2 e3
            have f0 : wr.cell? ⟨b1, o1 + j * 3, none⟩ = some (.int .i64 xs[j].1) := (HK.out.2.cell (p := ⟨b1, o1 + j * 3, none⟩) l1).trans (hd 0 _ rfl)
            have hj3 : (j : Int) < (xs.length : Int) := by omega
            have HB := beG_at (who := x0) hjl hj1
            clear hc hd l2
            by_cases hz : xs[j].1 = x0
            · rw [if_pos hz] at HB
              have HN : Hid (beG xs x0 k (j + 1) = m + 1) := by show _ = _; rw [HB, hbe.out]
              rw [hz] at f0
              clear HB hbe hz
              go_wp2_with fail
              go_big_quiet (fail)
              go_wp2
              go_roundw
              case rel => exact ⟨j + 1, m + 1, by omega, by omega, by go_num, by go_num, by omega, HN, ⟨own_drewN HK.out.1 nq, below_drewN HK.out.2 nq⟩⟩
              case measure => simp [intOf]; omega
            · rw [if_neg hz] at HB
              have HN : Hid (beG xs x0 k (j + 1) = m) := by show _ = _; rw [HB, hbe.out, Nat.add_zero]
              have hz2 : (xs[j].1 == x0) = false := beq_eq_false_iff_ne.2 hz
              clear HB hbe hz
              generalize xs[j].1 = y0 at f0 hz2
              go_wp2_with fail
              go_big_quiet (fail)
              go_wp2
              go_roundw
              case rel => exact ⟨j + 1, m, by omega, by omega, by go_num, by go_num, by omega, HN, ⟨own_drewN HK.out.1 nq, below_drewN HK.out.2 nq⟩⟩
              case measure => simp [intOf]; omega
          · obtain rfl : j = xs.length := by omega
            subst e1
            obtain ⟨ro, BC⟩ := HK.out
            clear HK
            have h1 : wr.cell? ⟨b1, o1 + k * 3 + 1, none⟩ = some (.int .i64 xs[k].2.1) := (BC.cell (p := ⟨b1, o1 + k * 3 + 1, none⟩) l1).trans (hc 1 _ rfl)
            have h2 : wr.cell? ⟨b1, o1 + k * 3 + 2, none⟩ = some (.int .i64 xs[k].2.2) := (BC.cell (p := ⟨b1, o1 + k * 3 + 2, none⟩) l1).trans (hc 2 _ rfl)
            clear hc
            have HL : Hid (ys.length ≤ k) := by show _ ≤ _; rw [← hu.out]; exact keG_len xs n k
            by_cases hbn : (m : Int) < n
            · have HN : Hid (keG xs n (k + 1) = ys ++ [(x0, xs[k].2.1, xs[k].2.2)]) := by show _ = _; rw [keG_yes hlt (by rw [HX.out, hbe.out]; exact hbn), hu.out, ← HX.out]
              clear hu hbe HX
              generalize xs[k].2.1 = x1 at h1 HN
              generalize xs[k].2.2 = x2 at h2 HN
              clear hr
              generalize wr = wq at ro BC h0 h1 h2 ⊢
              have nw := news3 wq (.int .i64 x0) (.int .i64 x1) (.int .i64 x2) 31
              obtain ⟨U, hU⟩ : ∃ U, wq.alloc (.cells #[.int .i64 x0, .int .i64 x1, .int .i64 x2] 31) = U := ⟨_, rfl⟩
              have XA : Below wq.heap.size wq U := by rw [← hU]; exact (Below.refl _ _).alloc (Nat.le_refl _) _
              rw [hU] at nw
              replace ro := own_later ro XA
              replace BC := BC.trans (XA.mono BC.size)
              have hBU := BC.size
              have hyl : ys.length ≤ 1048577 := by have := HL.out; omega
              clear XA
              go_wp2_with (first | (at_builtin; first | refine wpList_append_row _ rfl _ _ 24 rfl w.heap.size 31 i0 (.agg #[.int .i64 0, .int .i64 0, .int .i64 0]) 3 24 Try.underlying24 hi hz0 hz1 hz2 rfl (by decide) _ _ _ rfl ro (some ⟨wq.heap.size, 0, none⟩) 1 1 [.int .i64 x0, .int .i64 x1, .int .i64 x2] rfl rfl (fun ad e => by injection e with e; subst e; exact nw) (fun u hu => by simp at hu; rcases hu with rfl | rfl | rfl <;> rfl) (by unfold maxLen; omega) (by omega) hBU (fun c => by cases c) ?_ | (rw [hU]; refine wpList_append_row _ rfl _ _ 24 rfl w.heap.size 31 i0 (.agg #[.int .i64 0, .int .i64 0, .int .i64 0]) 3 24 Try.underlying24 hi hz0 hz1 hz2 rfl (by decide) _ _ _ rfl ro (some ⟨wq.heap.size, 0, none⟩) 1 1 [.int .i64 x0, .int .i64 x1, .int .i64 x2] rfl rfl (fun ad e => by injection e with e; subst e; exact nw) (fun u hu => by simp at hu; rcases hu with rfl | rfl | rfl <;> rfl) (by unfold maxLen; omega) (by omega) hBU (fun c => by cases c) ?_)) | fail)
              intro v3 w3 ho3 hg3
              obtain ⟨na, nc, rfl, _⟩ := own_shape ho3
              have B3 : Below w.heap.size w w3 := BC.grown hg3 hBU (fun k e => (World.ownsRow.lt ro k e).1)
              have hle2 : (ys ++ [(x0, x1, x2)]).length = ys.length + 1 := by simp
              have R3 : FOwn 31 3 cS w.heap.size na nc (ys ++ [(x0, x1, x2)]) w3 := by unfold FOwn; rw [hle2, fl_snoc]; exact ho3
              clear ho3 hg3 ro BC nw hU
              clear h0 h1 h2
              have HR : ∃ (k' : Nat) (ys' : List TS) (oa' : Option Addr) (oc' : Nat), k' ≤ xs.length ∧ Value.int .i64 ((k : Int) + 1) = .int .i64 k' ∧ Value.slice na (ys.length + 1) nc = .slice oa' ys'.length oc' ∧ Hid (0 < k' → tabB xs = true) ∧ Hid (keG xs n k' = ys') ∧ FOwn 31 3 cS w.heap.size oa' oc' ys' w3 ∧ Below w.heap.size w w3 :=
                ⟨k + 1, _, na, nc, by omega, by go_num, by rw [hle2], HT, HN, R3, B3⟩
              clear HT HN R3 B3
              go_wp2
              go_roundw
              case rel => exact HR
              case measure => simp [intOf]; omega
            · have HN : Hid (keG xs n (k + 1) = ys) := by show _ = _; rw [keG_no hlt (by rw [HX.out, hbe.out]; exact hbn), hu.out]
              clear hu hbe h0 h1 h2 hr HL HX
              go_wp2
              go_roundw
              case rel => exact ⟨k + 1, ys, oa, oc, by omega, by go_num, rfl, HT, HN, ro, BC⟩
              case measure => simp [intOf]; omega
    · obtain rfl : k = xs.length := by omega
      have HV : Hid (keT xs n = ys) := by
        by_cases hz : xs.length = 0
        · have h1 := hu.out
          have h2 := keT_len xs n
          rw [hz] at h1 h2
          have h3 : ys = [] := h1.symm
          rw [h3]
          exact List.length_eq_zero_iff.1 (by omega)
        · exact (keT_ok (htb.out (by omega))).trans hu.out
      clear hu hr htb
      go_wp2
      go_ret
      exact ⟨oa, oc, by rw [HV.out]; try rfl, by rw [HV.out]; exact ro, BC⟩
end Go.Proofs.Ytkfjpgkpmdbnoaa
