/- The model's seeking and putting on rows of any length that can come up. -/
import Derived.Test.YtkekfogepdhjhaaGreatClose
set_option linter.unusedVariables false
namespace Go.Proofs.YtkekfogepdhjhaaGreat
open Go.RowKit Own Var Term

set_option maxRecDepth 100000 in
set_option maxHeartbeats 3200000 in
theorem l3InW (a : Option Addr) (cap : Nat) (xs : List ByteArray) (x : ByteArray) (w : World) (hr : RowAt Value.string w a xs) (hl : xs.length ≤ 1000000000) :
    Calls Tryz.prog 25 #[.slice a xs.length cap, .string x] w fun e w' => e = .returned (.bool (inB xs x)) ∧ w = w' := by
  go_enter Tryz.func25, Tryz.ntmps25
  go_wp2
  go_loop [5] (fun i => ∃ k : Nat, k ≤ xs.length ∧ i = .int .i64 k ∧ Hid (¬ x ∈ xs.take k)) (fun i => xs.length - (intOf i).toNat)
  case atStart => exact ⟨0, by omega, rfl, by simp [Hid]⟩
  case round =>
    obtain ⟨k, hk, rfl, hx⟩ := hrel
    by_cases hlt : k < xs.length
    · obtain ⟨b1, o1, rfl, l1, hc1⟩ := hr k hlt
      have HM : Hid (x ∈ xs.take (k + 1) ↔ x ∈ xs.take k ∨ x = xs[k]) := mem_take_succ hlt x
      have HI : Hid (xs[k] ∈ xs) := List.getElem_mem hlt
      generalize xs[k] = y at hc1 HM HI
      by_cases he : y = x
      · subst he
        have hd : (y.toList == y.toList) = true := beq_self_eq_true _
        have hT : inB xs y = true := (inB_iff _ _).2 HI.out
        go_wp2
        all_goals
          go_ret
          exact ⟨by first | rfl | (rw [hT]; rfl), rfl⟩
      · have hd := same_list he
        have HN : Hid (¬ x ∈ xs.take (k + 1)) := by
          intro h
          rcases HM.out.1 h with h | h
          · exact hx.out h
          · exact he h.symm
        go_wp2
        go_round
        case rel => exact ⟨k + 1, by omega, by go_num, HN⟩
        case measure => simp [intOf]; omega
    · have hF : inB xs x = false := by have := hx.out; rw [List.take_of_length_le (by omega)] at this; exact inB_no this
      go_wp2
      go_ret
      exact ⟨by first | rfl | (rw [hF]; rfl), rfl⟩

set_option maxRecDepth 100000 in
set_option maxHeartbeats 3200000 in
theorem l3HasW (a : Option Addr) (cap : Nat) (ks : List Int) (x : Int) (w : World) (hr : RowAt (Value.int .i64) w a ks) (hl : ks.length ≤ 1000000000) :
    Calls Tryz.prog 77 #[.slice a ks.length cap, .int .i64 x] w fun e w' => e = .returned (.bool (hasB ks x)) ∧ w = w' := by
  go_enter Tryz.func77, Tryz.ntmps77
  go_wp2
  go_loop [5] (fun i => ∃ k : Nat, k ≤ ks.length ∧ i = .int .i64 k ∧ Hid (¬ x ∈ ks.take k)) (fun i => ks.length - (intOf i).toNat)
  case atStart => exact ⟨0, by omega, rfl, by simp [Hid]⟩
  case round =>
    obtain ⟨k, hk, rfl, hx⟩ := hrel
    by_cases hlt : k < ks.length
    · obtain ⟨b1, o1, rfl, l1, hc1⟩ := hr k hlt
      have HM : Hid (x ∈ ks.take (k + 1) ↔ x ∈ ks.take k ∨ x = ks[k]) := mem_take_succ hlt x
      have HI : Hid (ks[k] ∈ ks) := List.getElem_mem hlt
      generalize ks[k] = y at hc1 HM HI
      by_cases he : y = x
      · subst he
        have hT : hasB ks y = true := (hasB_iff _ _).2 HI.out
        go_wp2
        all_goals
          go_ret
          exact ⟨by first | rfl | (rw [hT]; rfl), rfl⟩
      · have hd : (y == x) = false := by simpa using he
        have HN : Hid (¬ x ∈ ks.take (k + 1)) := by
          intro h
          rcases HM.out.1 h with h | h
          · exact hx.out h
          · exact he h.symm
        go_wp2
        go_round
        case rel => exact ⟨k + 1, by omega, by go_num, HN⟩
        case measure => simp [intOf]; omega
    · have hF : hasB ks x = false := by have := hx.out; rw [List.take_of_length_le (by omega)] at this; exact hasB_no this
      go_wp2
      go_ret
      exact ⟨by first | rfl | (rw [hF]; rfl), rfl⟩

set_option maxRecDepth 100000 in
set_option maxHeartbeats 3200000 in
theorem l3PutW_no (a : Option Addr) (cap : Nat) (ks : List Int) (x : Int) (w : World) (hr : RowAt (Value.int .i64) w a ks) (hl : ks.length ≤ 1000000000) (hH : hasB ks x = false) :
    Calls Tryz.prog 46 #[.slice a ks.length cap, .int .i64 x] w fun e w' => ∃ v, e = .returned v ∧ w'.ownsRow w.heap.size 3 1 v (putL ks x).length (intV (putL ks x)) ∧ Below w.heap.size w w' := by
  obtain ⟨i0, hi, hz0, hz1, hz2⟩ := info_parts infoInt
  have hC := l3HasW a cap ks x w hr hl
  rw [hH] at hC
  have hb0 : Below w.heap.size w (w.alloc (.cells #[] 3)) := (Below.refl _ _).alloc (Nat.le_refl _) _
  have hlit : (w.alloc (.cells #[] 3)).ownsRow w.heap.size 3 1 (.slice (some ⟨w.heap.size, 0, none⟩) 0 0) 0 (intV []) := World.ownsRow_lit _ _ _ (Nat.le_refl _) (by unfold maxLen; omega) rfl
  go_enter Tryz.func46, Tryz.ntmps46
  go_wp2_with fail
  refine hC.mono ?_
  rintro e w1 ⟨rfl, rfl⟩
  clear hC
  go_wp2
  go_loopw [5, 6, 7] (fun v p i wr => ∃ (k : Nat) (out : List Int) (b : Bool), k ≤ ks.length ∧ i = .int .i64 k ∧ p = .bool b ∧ Hid (PutAt ks x k out b) ∧ Hid (out.length ≤ k + 1) ∧ wr.ownsRow w.heap.size 3 1 v out.length (intV out) ∧ Below w.heap.size w wr) (fun _ _ i _ => ks.length - (intOf i).toNat)
  case atStart => exact ⟨0, [], false, by omega, rfl, rfl, PutAt.start ks x, by show 0 ≤ 0 + 1; omega, hlit, hb0⟩
  case round =>
    clear hlit hb0
    obtain ⟨k, out, p, hk, rfl, rfl, HP, HL, hown, hbel⟩ := hrel
    by_cases hlt : k < ks.length
    · obtain ⟨b1, o1, rfl, l1, hc⟩ := hr k hlt
      rw [← hbel.cell (p := ⟨b1, o1 + k, none⟩) l1] at hc
      have hol := HL.out
      cases p with
      | true =>
        have HP2 : Hid (PutAt ks x (k + 1) (out ++ [ks[k]]) true) := PutAt.on hlt HP.out
        have HV : Hid (intV out ++ [.int .i64 ks[k]] = intV (out ++ [ks[k]])) := intV_snoc _ _
        clear HP
        generalize ks[k] = y at hc HP2 HV
        go_wp2_with (first | (at_builtin; refine wpList_append_own _ rfl _ _ 25 rfl w.heap.size 3 i0 (.int .i64 0) 1 8 Tryz.underlying25 hi hz0 hz1 hz2 rfl (by decide) _ _ _ rfl (hown.alloc _) ⟨wr.heap.size, 0, none⟩ 1 1 [.int .i64 y] rfl rfl (cell_one_new _ _ _) ?c2 ?c3 ?c4 ?c5 ?_) | go_in)
        case c2 => first | rfl | (intro u hu; simp at hu; subst hu; rfl)
        case c3 => unfold maxLen; omega
        case c4 => omega
        case c5 => have := hbel.size; simp; omega
        intro v' w2 hown' hgrow _
        have hb3 := below_app hbel (Nat.le_refl _) hown hgrow
        rw [HV.out] at hown'
        clear hgrow hown hbel
        go_wp2
        go_roundw
        case rel =>
          have R : ∃ (k₁ : Nat) (out₁ : List Int) (b₁ : Bool), k₁ ≤ ks.length ∧ Value.int .i64 ((k : Int) + 1) = .int .i64 k₁ ∧ Value.bool true = .bool b₁ ∧ Hid (PutAt ks x k₁ out₁ b₁) ∧ Hid (out₁.length ≤ k₁ + 1) ∧ w2.ownsRow w.heap.size 3 1 v' out₁.length (intV out₁) ∧ Below w.heap.size w w2 :=
            ⟨k + 1, out ++ [y], true, by omega, by go_num, rfl, HP2, by show (out ++ [y]).length ≤ _; simp; omega, by rw [List.length_append]; exact hown', hb3⟩
          first | exact R | ((repeat apply Exists.intro); exact ⟨R, rfl⟩)
        case measure => simp [intOf]; omega
      | false =>
        by_cases hlt2 : x < ks[k]
        · have HP2 : Hid (PutAt ks x (k + 1) (out ++ [x] ++ [ks[k]]) true) := PutAt.put hlt hlt2 HP.out
          have HV : Hid (intV out ++ [.int .i64 x] = intV (out ++ [x])) := intV_snoc _ _
          have HV2 : Hid (intV (out ++ [x]) ++ [.int .i64 ks[k]] = intV (out ++ [x] ++ [ks[k]])) := intV_snoc _ _
          have hol2 : out.length ≤ k := by
            rcases HP.out with ⟨_, e, _⟩ | ⟨c, _⟩
            · rw [e, List.length_take]; omega
            · cases c
          clear HP
          generalize ks[k] = y at hc HP2 HV2 hlt2
          have hd : decide (x < y) = true := decide_eq_true hlt2
          go_wp2_with (first | (at_builtin; refine wpList_append_own _ rfl _ _ 25 rfl w.heap.size 3 i0 (.int .i64 0) 1 8 Tryz.underlying25 hi hz0 hz1 hz2 rfl (by decide) _ _ _ rfl (hown.alloc _) ⟨wr.heap.size, 0, none⟩ 1 1 [.int .i64 x] rfl rfl (cell_one_new _ _ _) ?c2 ?c3 ?c4 ?c5 ?_) | go_in)
          case c2 => first | rfl | (intro u hu; simp at hu; subst hu; rfl)
          case c3 => unfold maxLen; omega
          case c4 => omega
          case c5 => have := hbel.size; simp; omega
          intro v' w2 hown' hgrow _
          have hb3 := below_app hbel (Nat.le_refl _) hown hgrow
          rw [HV.out] at hown'
          have hc2 : w2.cell? ⟨b1, o1 + k, none⟩ = some (.int .i64 y) := (hb3.cell (p := ⟨b1, o1 + k, none⟩) l1).trans ((hbel.cell (p := ⟨b1, o1 + k, none⟩) l1).symm.trans hc)
          have hln : (out ++ [x]).length = out.length + 1 := by simp
          rw [← hln] at hown'
          have hln2 : (out ++ [x]).length ≤ 1000000001 := by omega
          clear hgrow hown hbel hc hln
          go_wp2_with (first | (at_builtin; refine wpList_append_own _ rfl _ _ 25 rfl w.heap.size 3 i0 (.int .i64 0) 1 8 Tryz.underlying25 hi hz0 hz1 hz2 rfl (by decide) _ _ _ rfl (hown'.alloc _) ⟨w2.heap.size, 0, none⟩ 1 1 [.int .i64 y] rfl rfl (cell_one_new _ _ _) ?c2 ?c3 ?c4 ?c5 ?_) | go_in)
          case c2 => first | rfl | (intro u hu; simp at hu; subst hu; rfl)
          case c3 => unfold maxLen; omega
          case c4 => omega
          case c5 => have := hb3.size; simp; omega
          intro v'' w3 hown'' hgrow2 _
          have hb4 := below_app hb3 (Nat.le_refl _) hown' hgrow2
          rw [HV2.out] at hown''
          clear hgrow2 hown' hb3
          go_wp2
          go_roundw
          case rel =>
            have R : ∃ (k₁ : Nat) (out₁ : List Int) (b₁ : Bool), k₁ ≤ ks.length ∧ Value.int .i64 ((k : Int) + 1) = .int .i64 k₁ ∧ Value.bool true = .bool b₁ ∧ Hid (PutAt ks x k₁ out₁ b₁) ∧ Hid (out₁.length ≤ k₁ + 1) ∧ w3.ownsRow w.heap.size 3 1 v'' out₁.length (intV out₁) ∧ Below w.heap.size w w3 :=
              ⟨k + 1, out ++ [x] ++ [y], true, by omega, by go_num, rfl, HP2, by show (out ++ [x] ++ [y]).length ≤ _; simp; omega, (by simp : (out ++ [x] ++ [y]).length = out.length + 1 + 1) ▸ hown'', hb4⟩
            first | exact R | ((repeat apply Exists.intro); exact ⟨R, rfl⟩)
          case measure => simp [intOf]; omega
        · have HP2 : Hid (PutAt ks x (k + 1) (out ++ [ks[k]]) false) := PutAt.pass hlt hlt2 HP.out
          have HV : Hid (intV out ++ [.int .i64 ks[k]] = intV (out ++ [ks[k]])) := intV_snoc _ _
          clear HP
          generalize ks[k] = y at hc HP2 HV hlt2
          have hd : decide (x < y) = false := decide_eq_false hlt2
          go_wp2_with (first | (at_builtin; refine wpList_append_own _ rfl _ _ 25 rfl w.heap.size 3 i0 (.int .i64 0) 1 8 Tryz.underlying25 hi hz0 hz1 hz2 rfl (by decide) _ _ _ rfl (hown.alloc _) ⟨wr.heap.size, 0, none⟩ 1 1 [.int .i64 y] rfl rfl (cell_one_new _ _ _) ?c2 ?c3 ?c4 ?c5 ?_) | go_in)
          case c2 => first | rfl | (intro u hu; simp at hu; subst hu; rfl)
          case c3 => unfold maxLen; omega
          case c4 => omega
          case c5 => have := hbel.size; simp; omega
          intro v' w2 hown' hgrow _
          have hb3 := below_app hbel (Nat.le_refl _) hown hgrow
          rw [HV.out] at hown'
          clear hgrow hown hbel
          go_wp2
          go_roundw
          case rel =>
            have R : ∃ (k₁ : Nat) (out₁ : List Int) (b₁ : Bool), k₁ ≤ ks.length ∧ Value.int .i64 ((k : Int) + 1) = .int .i64 k₁ ∧ Value.bool false = .bool b₁ ∧ Hid (PutAt ks x k₁ out₁ b₁) ∧ Hid (out₁.length ≤ k₁ + 1) ∧ w2.ownsRow w.heap.size 3 1 v' out₁.length (intV out₁) ∧ Below w.heap.size w w2 :=
              ⟨k + 1, out ++ [y], false, by omega, by go_num, rfl, HP2, by show (out ++ [y]).length ≤ _; simp; omega, by rw [List.length_append]; exact hown', hb3⟩
            first | exact R | ((repeat apply Exists.intro); exact ⟨R, rfl⟩)
          case measure => simp [intOf]; omega
    · have hol := HL.out
      cases p with
      | true =>
        have e := PutAt.done (by omega) HP.out
        clear HP
        subst e
        go_wp2
        go_ret
        exact ⟨_, rfl, hown, hbel⟩
      | false =>
        have e := PutAt.last (by omega) HP.out
        clear HP
        have HE : Hid (out ++ [x] = putL ks x) := e
        clear e
        have HV : Hid (intV out ++ [.int .i64 x] = intV (out ++ [x])) := intV_snoc _ _
        go_wp2_with (first | (at_builtin; refine wpList_append_own _ rfl _ _ 25 rfl w.heap.size 3 i0 (.int .i64 0) 1 8 Tryz.underlying25 hi hz0 hz1 hz2 rfl (by decide) _ _ _ rfl (hown.alloc _) ⟨wr.heap.size, 0, none⟩ 1 1 [.int .i64 x] rfl rfl (cell_one_new _ _ _) ?c2 ?c3 ?c4 ?c5 ?_) | go_in)
        case c2 => first | rfl | (intro u hu; simp at hu; subst hu; rfl)
        case c3 => unfold maxLen; omega
        case c4 => omega
        case c5 => have := hbel.size; simp; omega
        intro v' w2 hown' hgrow _
        have hb3 := below_app hbel (Nat.le_refl _) hown hgrow
        rw [HV.out] at hown'
        go_wp2
        go_ret
        exact ⟨_, rfl, by rw [← HE.out, List.length_append]; exact hown', hb3⟩

theorem l3PutW (B : Nat) (a : Option Addr) (cap : Nat) (ks : List Int) (x : Int) (w : World) (ho : w.ownsRow B 3 1 (.slice a ks.length cap) ks.length (intV ks)) (hl : ks.length ≤ 1000000000) (hB : B ≤ w.heap.size) :
    Calls Tryz.prog 46 #[.slice a ks.length cap, .int .i64 x] w fun e w' => ∃ v, e = .returned v ∧ w'.ownsRow B 3 1 v (putI ks x).length (intV (putI ks x)) ∧ Below w.heap.size w w' := by
  have hr : RowAt (Value.int .i64) w a ks := by
    obtain ⟨a', c', e, _, hr⟩ := own_row ho
    simp only [Value.slice.injEq] at e
    rw [e.1]; exact hr
  unfold putI
  cases hH : hasB ks x with
  | true =>
    have hC := l3HasW a cap ks x w hr hl
    rw [hH] at hC
    simp only [if_true]
    go_enter Tryz.func46, Tryz.ntmps46
    go_wp2_with fail
    refine hC.mono ?_
    rintro e w1 ⟨rfl, rfl⟩
    go_wp2
    go_ret
    exact ⟨_, rfl, ho, Below.refl _ _⟩
  | false =>
    simp only [Bool.false_eq_true, if_false]
    refine (l3PutW_no a cap ks x w hr hl hH).mono ?_
    rintro e w' ⟨v, rfl, h, hb⟩
    refine ⟨v, rfl, ⟨h.1, ?_⟩, hb⟩
    rcases h.2 with h0 | ⟨g, c, cur, e1, e2, e3⟩
    · exact Or.inl h0
    · exact Or.inr ⟨g, c, cur, e1, Nat.le_trans hB e2, e3⟩

/-- Numbers that rise stay so with one more in its place. -/
theorem putL_mem : ∀ (ks : List Int) (x y : Int), y ∈ putL ks x ↔ y = x ∨ y ∈ ks := by
  intro ks x y
  induction ks with
  | nil => simp [putL]
  | cons z r ih =>
    rw [putL]
    split
    · simp
    · rw [List.mem_cons, ih, List.mem_cons]
      constructor
      · rintro (h | h | h)
        · exact Or.inr (Or.inl h)
        · exact Or.inl h
        · exact Or.inr (Or.inr h)
      · rintro (h | h | h)
        · exact Or.inr (Or.inl h)
        · exact Or.inl h
        · exact Or.inr (Or.inr h)
theorem putL_rises : ∀ {ks : List Int} {x : Int}, ks.Pairwise (· < ·) → ¬ x ∈ ks → (putL ks x).Pairwise (· < ·) := by
  intro ks x hp hx
  induction ks with
  | nil => simp [putL]
  | cons z r ih =>
    rw [List.pairwise_cons] at hp
    have hne : x ≠ z := fun e => hx (by rw [e]; exact List.mem_cons_self ..)
    rw [putL]
    split
    · rename_i h
      rw [List.pairwise_cons]
      refine ⟨fun y hy => ?_, List.pairwise_cons.2 hp⟩
      rcases List.mem_cons.1 hy with rfl | hy
      · exact h
      · exact Int.lt_trans h (hp.1 y hy)
    · rw [List.pairwise_cons]
      refine ⟨fun y hy => ?_, ih hp.2 (fun c => hx (List.mem_cons_of_mem _ c))⟩
      rcases (putL_mem r x y).1 hy with rfl | hy
      · omega
      · exact hp.1 y hy
theorem putI_mem (ks : List Int) (x y : Int) : y ∈ putI ks x ↔ y = x ∨ y ∈ ks := by
  unfold putI
  split
  · rename_i h
    have := (hasB_iff ks x).1 h
    constructor
    · exact Or.inr
    · rintro (rfl | h)
      · exact this
      · exact h
  · exact putL_mem ks x y
theorem putI_rises {ks : List Int} {x : Int} (hp : ks.Pairwise (· < ·)) : (putI ks x).Pairwise (· < ·) := by
  unfold putI
  split
  · exact hp
  · rename_i h
    exact putL_rises hp (fun c => h ((hasB_iff ks x).2 c))
theorem putI_grow (ks : List Int) (x : Int) : putI ks x = ks ∨ ks.length < (putI ks x).length := by
  unfold putI
  split
  · exact Or.inl rfl
  · right; rw [putL_len]; omega
theorem rises_len (m : Nat) {K : List Int} (hp : K.Pairwise (· < ·)) (hr : ∀ k, k ∈ K → 1 ≤ k ∧ k ≤ (m : Int)) : K.length ≤ m := by
  have := nodup_le K ((List.range m).map fun (i : Nat) => ((i : Int) + 1)) (hp.imp (fun h => by omega)) (fun k hk => by
    have := hr k hk
    rw [List.mem_map]
    exact ⟨(k - 1).toNat, List.mem_range.2 (by omega), by omega⟩)
  simpa using this
end Go.Proofs.YtkekfogepdhjhaaGreat
