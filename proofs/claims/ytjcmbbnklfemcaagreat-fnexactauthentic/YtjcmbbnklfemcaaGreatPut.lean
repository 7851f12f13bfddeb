/- Numbers that rise, with one more: the model. -/
import Derived.Test.YtjcmbbnklfemcaaGreatNd0
import Derived.Test.YtjcmbbnklfemcaaGreatFn
import Derived.Lib.SlicesCompact
import Derived.Test.YtjcmbbnklfemcaaGreatShelf
import Derived.Sort.OwnSortedInts
set_option linter.unusedVariables false
set_option maxRecDepth 100000
namespace Go.Proofs.YtjcmbbnklfemcaaGreat.Nd
open Go Go.RowKit Go.Joins Own Draw
theorem mts {α : Type} {xs : List α} {k : Nat} (h : k < xs.length) (x : α) : x ∈ xs.take (k + 1) ↔ x ∈ xs.take k ∨ x = xs[k] := by
  rw [List.take_succ_eq_append_getElem h, List.mem_append, List.mem_singleton]
/-- x ahead of the first that is greater. -/
def putL : List Int → Int → List Int
  | [], x => [x]
  | y :: r, x => if x < y then x :: y :: r else y :: putL r x
/-- Is x among the numbers? -/
def hasB (ks : List Int) (x : Int) : Bool := ks.contains x
theorem hasB_iff (ks : List Int) (x : Int) : hasB ks x = true ↔ x ∈ ks := by unfold hasB; exact List.contains_iff_mem
theorem hasB_no {ks : List Int} {x : Int} (h : ¬ x ∈ ks) : hasB ks x = false := by
  rw [Bool.eq_false_iff]; intro hh; exact h ((hasB_iff ks x).1 hh)
/-- With x in its place, unless it is there. -/
def putI (ks : List Int) (x : Int) : List Int := if hasB ks x = true then ks else putL ks x
theorem putL_len (ks : List Int) (x : Int) : (putL ks x).length = ks.length + 1 := by
  induction ks with
  | nil => rfl
  | cons y r ih => rw [putL]; split <;> simp [ih]
theorem putI_len (ks : List Int) (x : Int) : (putI ks x).length ≤ ks.length + 1 := by
  unfold putI; split
  · omega
  · rw [putL_len]; omega
theorem putL_pass {y : Int} {r : List Int} {x : Int} (h : ¬ x < y) : putL (y :: r) x = y :: putL r x := by rw [putL, if_neg h]
theorem putL_stop {y : Int} {r : List Int} {x : Int} (h : x < y) : putL (y :: r) x = x :: y :: r := by rw [putL, if_pos h]

set_option maxRecDepth 100000 in
set_option maxHeartbeats 800000 in
theorem l3Has_is (a : Option Addr) (cap : Nat) (ks : List Int) (x : Int) (w : World) (hr : RowAt (Value.int .i64) w a ks) (hl : ks.length ≤ 1048576) :
    Calls Tryz.prog 135 #[.slice a ks.length cap, .int .i64 x] w fun e w' => e = .returned (.bool (hasB ks x)) ∧ w = w' := by
  go_enter Tryz.func135, Tryz.ntmps135
  go_wp2
  go_loop [5] (fun i => ∃ k : Nat, k ≤ ks.length ∧ i = .int .i64 k ∧ Hid (¬ x ∈ ks.take k)) (fun i => ks.length - (intOf i).toNat)
  case atStart => exact ⟨0, by omega, rfl, by simp [Hid]⟩
  case round =>
    obtain ⟨k, hk, rfl, hx⟩ := hrel
    by_cases hlt : k < ks.length
    · obtain ⟨b1, o1, rfl, l1, hc1⟩ := hr k hlt
      have HM : Hid (x ∈ ks.take (k + 1) ↔ x ∈ ks.take k ∨ x = ks[k]) := mts hlt x
      have HI : Hid (ks[k] ∈ ks) := List.getElem_mem hlt
      generalize ks[k] = y at hc1 HM HI
      by_cases he : y = x
      · subst he
        have hT : hasB ks y = true := (hasB_iff _ _).2 HI.out
        go_wp2
        all_goals
          go_ret
          exact ⟨by first | rfl | (rw [hT]; rfl), rfl⟩
      · have hd : (y == x) = false := by simpa using he
        have HN : Hid (¬ x ∈ ks.take (k + 1)) := by
          intro h
          rcases HM.out.1 h with h | h
          · exact hx.out h
          · exact he h.symm
        go_wp2
        go_round
        case rel => exact ⟨k + 1, by omega, by go_num, HN⟩
        case measure => simp [intOf]; omega
    · have hF : hasB ks x = false := by have := hx.out; rw [List.take_of_length_le (by omega)] at this; exact hasB_no this
      go_wp2
      go_ret
      exact ⟨by first | rfl | (rw [hF]; rfl), rfl⟩

/-- How far the model's loop has come: what is out so far, and has x been put? -/
def PutAt (ks : List Int) (x : Int) (k : Nat) (out : List Int) (p : Bool) : Prop :=
  (p = false ∧ out = ks.take k ∧ putL ks x = ks.take k ++ putL (ks.drop k) x) ∨ (p = true ∧ out ++ ks.drop k = putL ks x)
theorem PutAt.start (ks : List Int) (x : Int) : PutAt ks x 0 [] false := Or.inl ⟨rfl, rfl, rfl⟩
theorem drop_at {ks : List Int} {k : Nat} (h : k < ks.length) : ks.drop k = ks[k] :: ks.drop (k + 1) := List.drop_eq_getElem_cons h
theorem PutAt.pass {ks : List Int} {x : Int} {k : Nat} {out : List Int} (h : k < ks.length) (hx : ¬ x < ks[k]) (H : PutAt ks x k out false) : PutAt ks x (k + 1) (out ++ [ks[k]]) false := by
  rcases H with ⟨_, rfl, e⟩ | ⟨c, _⟩
  · refine Or.inl ⟨rfl, (List.take_succ_eq_append_getElem h).symm, ?_⟩
    rw [e, drop_at h, putL_pass hx, List.take_succ_eq_append_getElem h, List.append_assoc]
    rfl
  · cases c
theorem PutAt.put {ks : List Int} {x : Int} {k : Nat} {out : List Int} (h : k < ks.length) (hx : x < ks[k]) (H : PutAt ks x k out false) : PutAt ks x (k + 1) (out ++ [x] ++ [ks[k]]) true := by
  rcases H with ⟨_, rfl, e⟩ | ⟨c, _⟩
  · refine Or.inr ⟨rfl, ?_⟩
    rw [e, drop_at h, putL_stop hx]
    simp
  · cases c
theorem PutAt.on {ks : List Int} {x : Int} {k : Nat} {out : List Int} (h : k < ks.length) (H : PutAt ks x k out true) : PutAt ks x (k + 1) (out ++ [ks[k]]) true := by
  rcases H with ⟨c, _⟩ | ⟨_, e⟩
  · cases c
  · refine Or.inr ⟨rfl, ?_⟩
    rw [← e, drop_at h]
    simp
theorem PutAt.done {ks : List Int} {x : Int} {k : Nat} {out : List Int} (h : ks.length ≤ k) (H : PutAt ks x k out true) : out = putL ks x := by
  rcases H with ⟨c, _⟩ | ⟨_, e⟩
  · cases c
  · rw [← e, List.drop_of_length_le h, List.append_nil]
theorem PutAt.last {ks : List Int} {x : Int} {k : Nat} {out : List Int} (h : ks.length ≤ k) (H : PutAt ks x k out false) : out ++ [x] = putL ks x := by
  rcases H with ⟨_, rfl, e⟩ | ⟨c, _⟩
  · rw [e, List.drop_of_length_le h]; rfl
  · cases c
theorem intV_snoc (xs : List Int) (t : Int) : intV xs ++ [.int .i64 t] = intV (xs ++ [t]) := by unfold intV; rw [List.map_append]; rfl

set_option maxRecDepth 100000 in
set_option maxHeartbeats 3200000 in
theorem l3Put_no (a : Option Addr) (cap : Nat) (ks : List Int) (x : Int) (w : World) (hr : RowAt (Value.int .i64) w a ks) (hl : ks.length ≤ 1048576) (hH : hasB ks x = false) :
    Calls Tryz.prog 129 #[.slice a ks.length cap, .int .i64 x] w fun e w' => ∃ v, e = .returned v ∧ w'.ownsRow w.heap.size 3 1 v (putL ks x).length (intV (putL ks x)) ∧ Below w.heap.size w w' := by
  obtain ⟨i0, hi, hz0, hz1, hz2⟩ := info_parts infoInt
  have hC := l3Has_is a cap ks x w hr hl
  rw [hH] at hC
  have hb0 : Below w.heap.size w (w.alloc (.cells #[] 3)) := (Below.refl _ _).alloc (Nat.le_refl _) _
  have hlit : (w.alloc (.cells #[] 3)).ownsRow w.heap.size 3 1 (.slice (some ⟨w.heap.size, 0, none⟩) 0 0) 0 (intV []) := World.ownsRow_lit _ _ _ (Nat.le_refl _) (by unfold maxLen; omega) rfl
  go_enter Tryz.func129, Tryz.ntmps129
  go_wp2_with fail
  refine hC.mono ?_
  rintro e w1 ⟨rfl, rfl⟩
  clear hC
  go_wp2
  go_loopw [5, 6, 7] (fun v p i wr => ∃ (k : Nat) (out : List Int) (b : Bool), k ≤ ks.length ∧ i = .int .i64 k ∧ p = .bool b ∧ Hid (PutAt ks x k out b) ∧ Hid (out.length ≤ k + 1) ∧ wr.ownsRow w.heap.size 3 1 v out.length (intV out) ∧ Below w.heap.size w wr) (fun _ _ i _ => ks.length - (intOf i).toNat)
  case atStart => exact ⟨0, [], false, by omega, rfl, rfl, PutAt.start ks x, by show 0 ≤ 0 + 1; omega, hlit, hb0⟩
  case round =>
    clear hlit hb0
    obtain ⟨k, out, p, hk, rfl, rfl, HP, HL, hown, hbel⟩ := hrel
    by_cases hlt : k < ks.length
    · obtain ⟨b1, o1, rfl, l1, hc⟩ := hr k hlt
      rw [← hbel.cell (p := ⟨b1, o1 + k, none⟩) l1] at hc
      have hol := HL.out
      cases p with
      | true =>
        have HP2 : Hid (PutAt ks x (k + 1) (out ++ [ks[k]]) true) := PutAt.on hlt HP.out
        have HV : Hid (intV out ++ [.int .i64 ks[k]] = intV (out ++ [ks[k]])) := intV_snoc _ _
        clear HP
        generalize ks[k] = y at hc HP2 HV
        go_wp2_with (first | (at_builtin; refine wpList_append_own _ rfl _ _ 22 rfl w.heap.size 3 i0 (.int .i64 0) 1 8 Tryz.underlying22 hi hz0 hz1 hz2 rfl (by decide) _ _ _ rfl (hown.alloc _) ⟨wr.heap.size, 0, none⟩ 1 1 [.int .i64 y] rfl rfl (cell_one_new _ _ _) ?c2 ?c3 ?c4 ?c5 ?_) | go_in)
        case c2 => first | rfl | (intro u hu; simp at hu; subst hu; rfl)
        case c3 => unfold maxLen; omega
        case c4 => omega
        case c5 => have := hbel.size; simp; omega
        intro v' w2 hown' hgrow _
        have hb3 := below_app hbel (Nat.le_refl _) hown hgrow
        rw [HV.out] at hown'
        clear hgrow hown hbel
        go_wp2
        go_roundw
        case rel =>
          have R : ∃ (k₁ : Nat) (out₁ : List Int) (b₁ : Bool), k₁ ≤ ks.length ∧ Value.int .i64 ((k : Int) + 1) = .int .i64 k₁ ∧ Value.bool true = .bool b₁ ∧ Hid (PutAt ks x k₁ out₁ b₁) ∧ Hid (out₁.length ≤ k₁ + 1) ∧ w2.ownsRow w.heap.size 3 1 v' out₁.length (intV out₁) ∧ Below w.heap.size w w2 :=
            ⟨k + 1, out ++ [y], true, by omega, by go_num, rfl, HP2, by show (out ++ [y]).length ≤ _; simp; omega, by rw [List.length_append]; exact hown', hb3⟩
          first | exact R | ((repeat apply Exists.intro); exact ⟨R, rfl⟩)
        case measure => simp [intOf]; omega
      | false =>
        by_cases hlt2 : x < ks[k]
        · have HP2 : Hid (PutAt ks x (k + 1) (out ++ [x] ++ [ks[k]]) true) := PutAt.put hlt hlt2 HP.out
          have HV : Hid (intV out ++ [.int .i64 x] = intV (out ++ [x])) := intV_snoc _ _
          have HV2 : Hid (intV (out ++ [x]) ++ [.int .i64 ks[k]] = intV (out ++ [x] ++ [ks[k]])) := intV_snoc _ _
          have hol2 : out.length ≤ k := by
            rcases HP.out with ⟨_, e, _⟩ | ⟨c, _⟩
            · rw [e, List.length_take]; omega
            · cases c
          clear HP
          generalize ks[k] = y at hc HP2 HV2 hlt2
          have hd : decide (x < y) = true := decide_eq_true hlt2
          go_wp2_with (first | (at_builtin; refine wpList_append_own _ rfl _ _ 22 rfl w.heap.size 3 i0 (.int .i64 0) 1 8 Tryz.underlying22 hi hz0 hz1 hz2 rfl (by decide) _ _ _ rfl (hown.alloc _) ⟨wr.heap.size, 0, none⟩ 1 1 [.int .i64 x] rfl rfl (cell_one_new _ _ _) ?c2 ?c3 ?c4 ?c5 ?_) | go_in)
          case c2 => first | rfl | (intro u hu; simp at hu; subst hu; rfl)
          case c3 => unfold maxLen; omega
          case c4 => omega
          case c5 => have := hbel.size; simp; omega
          intro v' w2 hown' hgrow _
          have hb3 := below_app hbel (Nat.le_refl _) hown hgrow
          rw [HV.out] at hown'
          have hc2 : w2.cell? ⟨b1, o1 + k, none⟩ = some (.int .i64 y) := (hb3.cell (p := ⟨b1, o1 + k, none⟩) l1).trans ((hbel.cell (p := ⟨b1, o1 + k, none⟩) l1).symm.trans hc)
          have hln : (out ++ [x]).length = out.length + 1 := by simp
          rw [← hln] at hown'
          have hln2 : (out ++ [x]).length ≤ 1048577 := by omega
          clear hgrow hown hbel hc hln
          go_wp2_with (first | (at_builtin; refine wpList_append_own _ rfl _ _ 22 rfl w.heap.size 3 i0 (.int .i64 0) 1 8 Tryz.underlying22 hi hz0 hz1 hz2 rfl (by decide) _ _ _ rfl (hown'.alloc _) ⟨w2.heap.size, 0, none⟩ 1 1 [.int .i64 y] rfl rfl (cell_one_new _ _ _) ?c2 ?c3 ?c4 ?c5 ?_) | go_in)
          case c2 => first | rfl | (intro u hu; simp at hu; subst hu; rfl)
          case c3 => unfold maxLen; omega
          case c4 => omega
          case c5 => have := hb3.size; simp; omega
          intro v'' w3 hown'' hgrow2 _
          have hb4 := below_app hb3 (Nat.le_refl _) hown' hgrow2
          rw [HV2.out] at hown''
          clear hgrow2 hown' hb3
          go_wp2
          go_roundw
          case rel =>
            have R : ∃ (k₁ : Nat) (out₁ : List Int) (b₁ : Bool), k₁ ≤ ks.length ∧ Value.int .i64 ((k : Int) + 1) = .int .i64 k₁ ∧ Value.bool true = .bool b₁ ∧ Hid (PutAt ks x k₁ out₁ b₁) ∧ Hid (out₁.length ≤ k₁ + 1) ∧ w3.ownsRow w.heap.size 3 1 v'' out₁.length (intV out₁) ∧ Below w.heap.size w w3 :=
              ⟨k + 1, out ++ [x] ++ [y], true, by omega, by go_num, rfl, HP2, by show (out ++ [x] ++ [y]).length ≤ _; simp; omega, (by simp : (out ++ [x] ++ [y]).length = out.length + 1 + 1) ▸ hown'', hb4⟩
            first | exact R | ((repeat apply Exists.intro); exact ⟨R, rfl⟩)
          case measure => simp [intOf]; omega
        · have HP2 : Hid (PutAt ks x (k + 1) (out ++ [ks[k]]) false) := PutAt.pass hlt hlt2 HP.out
          have HV : Hid (intV out ++ [.int .i64 ks[k]] = intV (out ++ [ks[k]])) := intV_snoc _ _
          clear HP
          generalize ks[k] = y at hc HP2 HV hlt2
          have hd : decide (x < y) = false := decide_eq_false hlt2
          go_wp2_with (first | (at_builtin; refine wpList_append_own _ rfl _ _ 22 rfl w.heap.size 3 i0 (.int .i64 0) 1 8 Tryz.underlying22 hi hz0 hz1 hz2 rfl (by decide) _ _ _ rfl (hown.alloc _) ⟨wr.heap.size, 0, none⟩ 1 1 [.int .i64 y] rfl rfl (cell_one_new _ _ _) ?c2 ?c3 ?c4 ?c5 ?_) | go_in)
          case c2 => first | rfl | (intro u hu; simp at hu; subst hu; rfl)
          case c3 => unfold maxLen; omega
          case c4 => omega
          case c5 => have := hbel.size; simp; omega
          intro v' w2 hown' hgrow _
          have hb3 := below_app hbel (Nat.le_refl _) hown hgrow
          rw [HV.out] at hown'
          clear hgrow hown hbel
          go_wp2
          go_roundw
          case rel =>
            have R : ∃ (k₁ : Nat) (out₁ : List Int) (b₁ : Bool), k₁ ≤ ks.length ∧ Value.int .i64 ((k : Int) + 1) = .int .i64 k₁ ∧ Value.bool false = .bool b₁ ∧ Hid (PutAt ks x k₁ out₁ b₁) ∧ Hid (out₁.length ≤ k₁ + 1) ∧ w2.ownsRow w.heap.size 3 1 v' out₁.length (intV out₁) ∧ Below w.heap.size w w2 :=
              ⟨k + 1, out ++ [y], false, by omega, by go_num, rfl, HP2, by show (out ++ [y]).length ≤ _; simp; omega, by rw [List.length_append]; exact hown', hb3⟩
            first | exact R | ((repeat apply Exists.intro); exact ⟨R, rfl⟩)
          case measure => simp [intOf]; omega
    · have hol := HL.out
      cases p with
      | true =>
        have e := PutAt.done (by omega) HP.out
        clear HP
        subst e
        go_wp2
        go_ret
        exact ⟨_, rfl, hown, hbel⟩
      | false =>
        have e := PutAt.last (by omega) HP.out
        clear HP
        have HE : Hid (out ++ [x] = putL ks x) := e
        clear e
        have HV : Hid (intV out ++ [.int .i64 x] = intV (out ++ [x])) := intV_snoc _ _
        go_wp2_with (first | (at_builtin; refine wpList_append_own _ rfl _ _ 22 rfl w.heap.size 3 i0 (.int .i64 0) 1 8 Tryz.underlying22 hi hz0 hz1 hz2 rfl (by decide) _ _ _ rfl (hown.alloc _) ⟨wr.heap.size, 0, none⟩ 1 1 [.int .i64 x] rfl rfl (cell_one_new _ _ _) ?c2 ?c3 ?c4 ?c5 ?_) | go_in)
        case c2 => first | rfl | (intro u hu; simp at hu; subst hu; rfl)
        case c3 => unfold maxLen; omega
        case c4 => omega
        case c5 => have := hbel.size; simp; omega
        intro v' w2 hown' hgrow _
        have hb3 := below_app hbel (Nat.le_refl _) hown hgrow
        rw [HV.out] at hown'
        go_wp2
        go_ret
        exact ⟨_, rfl, by rw [← HE.out, List.length_append]; exact hown', hb3⟩

theorem base_le {w : World} {B B' e sz n : Nat} {v : Value} {xs : List Value} (h : w.ownsRow B e sz v n xs) (hB : B' ≤ B) : w.ownsRow B' e sz v n xs := ownsRow_le h hB
set_option maxRecDepth 100000 in
set_option maxHeartbeats 1600000 in
/-- The row with x in its place: the call's own, or the old one. -/
theorem l3Put_is (B : Nat) (v : Value) (ks : List Int) (x : Int) (w : World) (h : w.ownsRow B 3 1 v ks.length (intV ks)) (hB : B ≤ w.heap.size) (hl : ks.length ≤ 1048576) :
    Calls Tryz.prog 129 #[v, .int .i64 x] w fun e w' => ∃ v', e = .returned v' ∧ w'.ownsRow B 3 1 v' (putI ks x).length (intV (putI ks x)) ∧ Below w.heap.size w w' := by
  obtain ⟨a, cap, rfl, _⟩ := own_shape h
  have hr : RowAt (Value.int .i64) w a ks := irow_of h
  by_cases hx : hasB ks x = true
  · have hC := l3Has_is a cap ks x w hr hl
    have HE : Hid (putI ks x = ks) := by show putI ks x = ks; unfold putI; rw [if_pos hx]
    rw [hx] at hC
    clear hx
    go_enter Tryz.func129, Tryz.ntmps129
    go_wp2_with fail
    refine hC.mono ?_
    rintro e w1 ⟨rfl, rfl⟩
    clear hC
    go_wp2
    go_ret
    rw [HE.out]
    exact ⟨_, rfl, h, Below.refl _ _⟩
  · rw [Bool.not_eq_true] at hx
    have HE : putI ks x = putL ks x := by unfold putI; rw [hx]; rfl
    rw [HE]
    refine (l3Put_no a cap ks x w hr hl hx).mono ?_
    rintro e w' ⟨v', rfl, ho, hb⟩
    exact ⟨v', rfl, base_le ho hB, hb⟩
end Go.Proofs.YtjcmbbnklfemcaaGreat.Nd

set_option linter.unusedVariables false
set_option maxRecDepth 100000
namespace Go.Proofs.YtjcmbbnklfemcaaGreat.Nd
open Go Go.RowKit Go.Joins Own Draw
/-- Numbers that rise stay so with one more in its place. -/
theorem putL_mem : ∀ (ks : List Int) (x y : Int), y ∈ putL ks x ↔ y = x ∨ y ∈ ks := by
  intro ks x y
  induction ks with
  | nil => simp [putL]
  | cons z r ih =>
    rw [putL]
    split
    · simp
    · rw [List.mem_cons, ih, List.mem_cons]
      constructor
      · rintro (h | h | h)
        · exact Or.inr (Or.inl h)
        · exact Or.inl h
        · exact Or.inr (Or.inr h)
      · rintro (h | h | h)
        · exact Or.inr (Or.inl h)
        · exact Or.inl h
        · exact Or.inr (Or.inr h)
theorem putI_mem (ks : List Int) (x y : Int) : y ∈ putI ks x ↔ y = x ∨ y ∈ ks := by
  unfold putI
  split
  · rename_i h
    have := (hasB_iff ks x).1 h
    constructor
    · exact Or.inr
    · rintro (rfl | h)
      · exact this
      · exact h
  · exact putL_mem ks x y
theorem cmp_mem (d : Array Int) : ∀ m, ∀ z, z ∈ Lib.compactUpTo d m ↔ ∃ j, j < m ∧ d[j]! = z
  | 0, z => by simp [Lib.compactUpTo]
  | m + 1, z => by
    rw [Lib.compactUpTo_succ, List.mem_append, cmp_mem d m z]
    by_cases hk : Lib.keeps d m = true
    · rw [if_pos hk, List.mem_singleton]
      constructor
      · rintro (⟨j, hj, e⟩ | e)
        · exact ⟨j, by omega, e⟩
        · exact ⟨m, by omega, e.symm⟩
      · rintro ⟨j, hj, e⟩
        by_cases hm : j = m
        · subst hm; exact Or.inr e.symm
        · exact Or.inl ⟨j, by omega, e⟩
    · rw [if_neg hk]
      unfold Lib.keeps at hk
      simp only [decide_eq_true_eq, not_or, Decidable.not_not] at hk
      constructor
      · rintro (⟨j, hj, e⟩ | e)
        · exact ⟨j, by omega, e⟩
        · cases e
      · rintro ⟨j, hj, e⟩
        by_cases hm : j = m
        · subst hm; exact Or.inl ⟨j - 1, by omega, by rw [← hk.2]; exact e⟩
        · exact Or.inl ⟨j, by omega, e⟩
/-- In their order, each once. -/
def riL (ks : List Int) : List Int := Lib.compact (ks.mergeSort fun x y => decide (x ≤ y))
theorem getB (ys : List Int) (j : Nat) (h : j < ys.length) : ys.toArray[j]! = ys[j] := by simp [h]
theorem riL_mem (ks : List Int) (z : Int) : z ∈ riL ks ↔ z ∈ ks := by
  unfold riL Lib.compact
  rw [cmp_mem, ← List.mem_mergeSort (le := fun x y => decide (x ≤ y)) (l := ks)]
  generalize (ks.mergeSort fun x y => decide (x ≤ y)) = ys
  constructor
  · rintro ⟨j, hj, rfl⟩
    rw [getB ys j hj]
    exact List.getElem_mem hj
  · intro h
    obtain ⟨j, hj, e⟩ := List.getElem_of_mem h
    exact ⟨j, hj, by rw [getB ys j hj, e]⟩
theorem cmp_len (zs : List Int) : (Lib.compact zs).length ≤ zs.length := by
  unfold Lib.compact Lib.compactUpTo
  rw [List.length_map]
  exact Nat.le_trans (List.length_filter_le _ _) (by simp)
theorem riL_len (ks : List Int) : (riL ks).length ≤ ks.length := by
  unfold riL
  exact Nat.le_trans (cmp_len _) (by rw [List.length_mergeSort]; exact Nat.le_refl _)
end Go.Proofs.YtjcmbbnklfemcaaGreat.Nd

set_option linter.unusedVariables false
set_option maxRecDepth 100000
namespace Go.Proofs.YtjcmbbnklfemcaaGreat.Nd
open Go Go.RowKit Go.Joins Go.Sort Own Draw

theorem own_cut {w : World} {B g cap n : Nat} {xs ys : List Value} (h : w.ownsRow B 3 1 (.slice (some ⟨g, 0, none⟩) n cap) n (xs ++ ys)) (hn : (xs ++ ys).length = n) : w.ownsRow B 3 1 (.slice (some ⟨g, 0, none⟩) xs.length cap) xs.length xs := by
  rcases h.2 with ⟨h1, _⟩ | ⟨g', cap', cur, hv, hbg, hblk, hnc, hcm, hcs, htk⟩
  · simp at h1
  · simp only [Value.slice.injEq, Option.some.injEq, Addr.mk.injEq, true_and, and_true] at hv
    obtain ⟨rfl, rfl⟩ := hv
    rw [List.length_append] at hn
    refine ⟨by simp, .inr ⟨g, cap, cur, rfl, hbg, hblk, by omega, hcm, hcs, ?_⟩⟩
    have h2 := congrArg (List.take xs.length) htk
    rw [List.take_take, List.take_left' rfl, Nat.min_eq_left (by omega)] at h2
    rw [Nat.mul_one]
    exact h2
theorem grow_no (w : World) : w = grow w #[] := by simp
set_option maxRecDepth 100000 in
set_option maxHeartbeats 1600000 in
theorem rising_is (B : Nat) (a : Option Addr) (cap : Nat) (ks : List Int) (w : World) (h : w.ownsRow B 3 1 (.slice a ks.length cap) ks.length (intV ks)) (hl : ks.length ≤ 4000000) (hB : B ≤ w.heap.size) :
    Calls Tryz.prog 145 #[.slice a ks.length cap] w fun e w' => ∃ ra rc, e = .returned (.slice ra (riL ks).length rc) ∧ w'.ownsRow B 3 1 (.slice ra (riL ks).length rc) (riL ks).length (intV (riL ks)) ∧ Below B w w' := by
  have hlm : (ks.mergeSort fun x y => decide (x ≤ y)).length = ks.length := List.length_mergeSort ks
  rcases h.2 with ⟨hv0, hn0⟩ | ⟨g, cap', cur, hv1, hbg, hblk, hnc, hcm, hcs, htk⟩
  · have hK0 : ks = [] := List.eq_nil_of_length_eq_zero hn0
    subst hK0
    simp only [List.length_nil, Value.slice.injEq, true_and] at hv0
    obtain ⟨rfl, rfl⟩ := hv0
    have HS := Tryz.slices_Sort_int_none none 0 w
    have HC := Tryz.slices_Compact_int_empty none 0 w
    have HE : Hid (riL [] = []) := by show riL [] = []; unfold riL Lib.compact Lib.compactUpTo; simp
    clear h hl hn0 hlm
    go_enter Tryz.func145, Tryz.ntmps145
    go_wp2_with fail
    refine HS.mono ?_
    rintro e w5 ⟨rfl, rfl⟩
    go_wp2_with fail
    refine HC.mono ?_
    rintro e w6 ⟨rfl, rfl⟩
    go_wp2
    go_ret
    rw [HE.out]
    exact ⟨none, 0, rfl, World.ownsRow_nil _ _ _ _, Below.refl _ _⟩
  · simp only [Value.slice.injEq, true_and] at hv1
    obtain ⟨rfl, rfl⟩ := hv1
    have HS := Tryz.slices_Sort_int g 0 cap ks w (holds_of_blockI hblk (by simpa [intV] using htk)) (Array.getElem?_eq_some_iff.1 hblk).1 (by omega)
    have hri : riL ks = Lib.compact (ks.mergeSort fun x y => decide (x ≤ y)) := rfl
    rw [hri]
    clear hri
    generalize (ks.mergeSort fun x y => decide (x ≤ y)) = Z at HS hlm
    have H5 : Hid (∀ n os, w.grownBy (grow (putRow (Value.int .i64) (Sort.ahead w n) g 0 Z.toArray) os) (some g) ∧ (grow (putRow (Value.int .i64) (Sort.ahead w n) g 0 Z.toArray) os).ownsRow B 3 1 (.slice (some ⟨g, 0, none⟩) ks.length cap) ks.length (Z.map (Value.int .i64))) :=
      fun n os => ⟨grownBy_sortedI _, ownsRow_sortedI hlm hbg hblk hnc hcm hcs⟩
    have HEZ : Hid (ks.length = Z.length) := hlm.symm
    clear h hblk htk hcs hnc hcm hlm
    go_enter Tryz.func145, Tryz.ntmps145
    go_wp2_with fail
    refine HS.mono ?_
    clear HS
    rintro e w5 ⟨rfl, n5, os5, hw5⟩
    obtain ⟨hg5, ho5⟩ := H5.out n5 os5
    rw [← hw5] at hg5 ho5
    have hb5 : Below B w w5 := ⟨hg5.os, hg5.tape, hg5.output, hg5.size, fun k hk => hg5.block k (by omega) (by simp; omega)⟩
    clear H5 hw5 hg5
    have hB5 : B ≤ w5.heap.size := Nat.le_trans hB hb5.size
    rcases ho5.2 with ⟨hv0, hn0⟩ | ⟨g2, cap2, cur, hv1, hbg2, hblk, hnc, hcm, hcs, htk⟩
    · simp at hv0
    · simp only [Value.slice.injEq, Option.some.injEq, Addr.mk.injEq, true_and, and_true] at hv1
      obtain ⟨rfl, rfl⟩ := hv1
      rw [HEZ.out] at htk hnc
      have hcl := cmp_len Z
      have HC := Tryz.slices_Compact_int g 0 cap Z w5 (holds_of_blockI hblk (by simpa using htk)) (by have := HEZ.out; omega) hnc
      rw [← HEZ.out] at HC
      have H6 : Hid (∀ q, w5.grownBy (putRow (Value.int .i64) (Sort.ahead w5 q) g 0 (Lib.compact Z ++ List.replicate (Z.length - (Lib.compact Z).length) 0).toArray) (some g) ∧ (putRow (Value.int .i64) (Sort.ahead w5 q) g 0 (Lib.compact Z ++ List.replicate (Z.length - (Lib.compact Z).length) 0).toArray).ownsRow B 3 1 (.slice (some ⟨g, 0, none⟩) (Lib.compact Z).length cap) (Lib.compact Z).length (intV (Lib.compact Z))) := by
        intro q
        have e1 := grownBy_sortedI (w := w5) (g := g) (n := q) (os := #[]) (Lib.compact Z ++ List.replicate (Z.length - (Lib.compact Z).length) 0).toArray
        have e2 := ownsRow_sortedI (n := q) (os := #[]) (ss := Z) (ts := Lib.compact Z ++ List.replicate (Z.length - (Lib.compact Z).length) 0) (by simp; omega) hbg hblk hnc hcm hcs
        rw [← grow_no] at e1 e2
        refine ⟨e1, ?_⟩
        rw [List.map_append] at e2
        have e3 := own_cut e2 (by simp; omega)
        rw [List.length_map] at e3
        exact e3
      generalize hYe : Lib.compact Z = Y at HC H6
      have HYe : Hid (Lib.compact Z = Y) := hYe
      clear hYe
      rw [← HEZ.out] at H6
      clear ho5 hblk htk hcs hnc hcm hcl
      go_wp2_with fail
      refine HC.mono ?_
      clear HC
      rintro e w6 ⟨rfl, q, hw6⟩
      obtain ⟨hg6, ho6⟩ := H6.out q
      rw [← hw6] at hg6 ho6
      have hb6 : Below B w5 w6 := ⟨hg6.os, hg6.tape, hg6.output, hg6.size, fun k hk => hg6.block k (by omega) (by simp; omega)⟩
      have HB6 : Hid (Below B w w6) := hb5.trans hb6
      clear H6 hw6 hg6 hb6 hb5
      go_wp2
      go_ret
      rw [HYe.out]
      exact ⟨_, _, rfl, ho6, HB6.out⟩
end Go.Proofs.YtjcmbbnklfemcaaGreat.Nd
