/- Keys that rise, with one more: the model. -/
import Derived.Test.YtkekfogepdhjhaaGreatLearn1
set_option linter.unusedVariables false
namespace Go.Proofs.YtkekfogepdhjhaaGreat
open Go.RowKit Own Var Term

/-- x ahead of the first that is greater. -/
def putL : List Int → Int → List Int
  | [], x => [x]
  | y :: r, x => if x < y then x :: y :: r else y :: putL r x
/-- Is x among the numbers? -/
def hasB (ks : List Int) (x : Int) : Bool := ks.contains x
theorem hasB_iff (ks : List Int) (x : Int) : hasB ks x = true ↔ x ∈ ks := by unfold hasB; exact List.contains_iff_mem
theorem hasB_no {ks : List Int} {x : Int} (h : ¬ x ∈ ks) : hasB ks x = false := by
  rw [Bool.eq_false_iff]; intro hh; exact h ((hasB_iff ks x).1 hh)
/-- With x in its place, unless it is there. -/
def putI (ks : List Int) (x : Int) : List Int := if hasB ks x = true then ks else putL ks x
theorem putL_len (ks : List Int) (x : Int) : (putL ks x).length = ks.length + 1 := by
  induction ks with
  | nil => rfl
  | cons y r ih => rw [putL]; split <;> simp [ih]
theorem putI_len (ks : List Int) (x : Int) : (putI ks x).length ≤ ks.length + 1 := by
  unfold putI; split
  · omega
  · rw [putL_len]; omega
theorem putL_pass {y : Int} {r : List Int} {x : Int} (h : ¬ x < y) : putL (y :: r) x = y :: putL r x := by rw [putL, if_neg h]
theorem putL_stop {y : Int} {r : List Int} {x : Int} (h : x < y) : putL (y :: r) x = x :: y :: r := by rw [putL, if_pos h]

set_option maxRecDepth 100000 in
set_option maxHeartbeats 800000 in
theorem l3Has_is (a : Option Addr) (cap : Nat) (ks : List Int) (x : Int) (w : World) (hr : RowAt (Value.int .i64) w a ks) (hl : ks.length ≤ 1048576) :
    Calls Tryz.prog 77 #[.slice a ks.length cap, .int .i64 x] w fun e w' => e = .returned (.bool (hasB ks x)) ∧ w = w' := by
  go_enter Tryz.func77, Tryz.ntmps77
  go_wp2
  go_loop [5] (fun i => ∃ k : Nat, k ≤ ks.length ∧ i = .int .i64 k ∧ Hid (¬ x ∈ ks.take k)) (fun i => ks.length - (intOf i).toNat)
  case atStart => exact ⟨0, by omega, rfl, by simp [Hid]⟩
  case round =>
    obtain ⟨k, hk, rfl, hx⟩ := hrel
    by_cases hlt : k < ks.length
    · obtain ⟨b1, o1, rfl, l1, hc1⟩ := hr k hlt
      have HM : Hid (x ∈ ks.take (k + 1) ↔ x ∈ ks.take k ∨ x = ks[k]) := mem_take_succ hlt x
      have HI : Hid (ks[k] ∈ ks) := List.getElem_mem hlt
      generalize ks[k] = y at hc1 HM HI
      by_cases he : y = x
      · subst he
        have hT : hasB ks y = true := (hasB_iff _ _).2 HI.out
        go_wp2
        all_goals
          go_ret
          exact ⟨by first | rfl | (rw [hT]; rfl), rfl⟩
      · have hd : (y == x) = false := by simpa using he
        have HN : Hid (¬ x ∈ ks.take (k + 1)) := by
          intro h
          rcases HM.out.1 h with h | h
          · exact hx.out h
          · exact he h.symm
        go_wp2
        go_round
        case rel => exact ⟨k + 1, by omega, by go_num, HN⟩
        case measure => simp [intOf]; omega
    · have hF : hasB ks x = false := by have := hx.out; rw [List.take_of_length_le (by omega)] at this; exact hasB_no this
      go_wp2
      go_ret
      exact ⟨by first | rfl | (rw [hF]; rfl), rfl⟩

/-- How far the model's loop has come: what is out so far, and has x been put? -/
def PutAt (ks : List Int) (x : Int) (k : Nat) (out : List Int) (p : Bool) : Prop :=
  (p = false ∧ out = ks.take k ∧ putL ks x = ks.take k ++ putL (ks.drop k) x) ∨ (p = true ∧ out ++ ks.drop k = putL ks x)
theorem PutAt.start (ks : List Int) (x : Int) : PutAt ks x 0 [] false := Or.inl ⟨rfl, rfl, rfl⟩
theorem drop_at {ks : List Int} {k : Nat} (h : k < ks.length) : ks.drop k = ks[k] :: ks.drop (k + 1) := List.drop_eq_getElem_cons h
theorem PutAt.pass {ks : List Int} {x : Int} {k : Nat} {out : List Int} (h : k < ks.length) (hx : ¬ x < ks[k]) (H : PutAt ks x k out false) : PutAt ks x (k + 1) (out ++ [ks[k]]) false := by
  rcases H with ⟨_, rfl, e⟩ | ⟨c, _⟩
  · refine Or.inl ⟨rfl, (List.take_succ_eq_append_getElem h).symm, ?_⟩
    rw [e, drop_at h, putL_pass hx, List.take_succ_eq_append_getElem h, List.append_assoc]
    rfl
  · cases c
theorem PutAt.put {ks : List Int} {x : Int} {k : Nat} {out : List Int} (h : k < ks.length) (hx : x < ks[k]) (H : PutAt ks x k out false) : PutAt ks x (k + 1) (out ++ [x] ++ [ks[k]]) true := by
  rcases H with ⟨_, rfl, e⟩ | ⟨c, _⟩
  · refine Or.inr ⟨rfl, ?_⟩
    rw [e, drop_at h, putL_stop hx]
    simp
  · cases c
theorem PutAt.on {ks : List Int} {x : Int} {k : Nat} {out : List Int} (h : k < ks.length) (H : PutAt ks x k out true) : PutAt ks x (k + 1) (out ++ [ks[k]]) true := by
  rcases H with ⟨c, _⟩ | ⟨_, e⟩
  · cases c
  · refine Or.inr ⟨rfl, ?_⟩
    rw [← e, drop_at h]
    simp
theorem PutAt.done {ks : List Int} {x : Int} {k : Nat} {out : List Int} (h : ks.length ≤ k) (H : PutAt ks x k out true) : out = putL ks x := by
  rcases H with ⟨c, _⟩ | ⟨_, e⟩
  · cases c
  · rw [← e, List.drop_of_length_le h, List.append_nil]
theorem PutAt.last {ks : List Int} {x : Int} {k : Nat} {out : List Int} (h : ks.length ≤ k) (H : PutAt ks x k out false) : out ++ [x] = putL ks x := by
  rcases H with ⟨_, rfl, e⟩ | ⟨c, _⟩
  · rw [e, List.drop_of_length_le h]; rfl
  · cases c
theorem intV_snoc (xs : List Int) (t : Int) : intV xs ++ [.int .i64 t] = intV (xs ++ [t]) := by unfold intV; rw [List.map_append]; rfl

set_option maxRecDepth 100000 in
set_option maxHeartbeats 3200000 in
theorem l3Put_no (a : Option Addr) (cap : Nat) (ks : List Int) (x : Int) (w : World) (hr : RowAt (Value.int .i64) w a ks) (hl : ks.length ≤ 1048576) (hH : hasB ks x = false) :
    Calls Tryz.prog 46 #[.slice a ks.length cap, .int .i64 x] w fun e w' => ∃ v, e = .returned v ∧ w'.ownsRow w.heap.size 3 1 v (putL ks x).length (intV (putL ks x)) ∧ Below w.heap.size w w' := by
  obtain ⟨i0, hi, hz0, hz1, hz2⟩ := info_parts infoInt
  have hC := l3Has_is a cap ks x w hr hl
  rw [hH] at hC
  have hb0 : Below w.heap.size w (w.alloc (.cells #[] 3)) := (Below.refl _ _).alloc (Nat.le_refl _) _
  have hlit : (w.alloc (.cells #[] 3)).ownsRow w.heap.size 3 1 (.slice (some ⟨w.heap.size, 0, none⟩) 0 0) 0 (intV []) := World.ownsRow_lit _ _ _ (Nat.le_refl _) (by unfold maxLen; omega) rfl
  go_enter Tryz.func46, Tryz.ntmps46
  go_wp2_with fail
  refine hC.mono ?_
  rintro e w1 ⟨rfl, rfl⟩
  clear hC
  go_wp2
  go_loopw [5, 6, 7] (fun v p i wr => ∃ (k : Nat) (out : List Int) (b : Bool), k ≤ ks.length ∧ i = .int .i64 k ∧ p = .bool b ∧ Hid (PutAt ks x k out b) ∧ Hid (out.length ≤ k + 1) ∧ wr.ownsRow w.heap.size 3 1 v out.length (intV out) ∧ Below w.heap.size w wr) (fun _ _ i _ => ks.length - (intOf i).toNat)
  case atStart => exact ⟨0, [], false, by omega, rfl, rfl, PutAt.start ks x, by show 0 ≤ 0 + 1; omega, hlit, hb0⟩
  case round =>
    clear hlit hb0
    obtain ⟨k, out, p, hk, rfl, rfl, HP, HL, hown, hbel⟩ := hrel
    by_cases hlt : k < ks.length
    · obtain ⟨b1, o1, rfl, l1, hc⟩ := hr k hlt
      rw [← hbel.cell (p := ⟨b1, o1 + k, none⟩) l1] at hc
      have hol := HL.out
      cases p with
      | true =>
        have HP2 : Hid (PutAt ks x (k + 1) (out ++ [ks[k]]) true) := PutAt.on hlt HP.out
        have HV : Hid (intV out ++ [.int .i64 ks[k]] = intV (out ++ [ks[k]])) := intV_snoc _ _
        clear HP
        generalize ks[k] = y at hc HP2 HV
        go_wp2_with (first | (at_builtin; refine wpList_append_own _ rfl _ _ 25 rfl w.heap.size 3 i0 (.int .i64 0) 1 8 Tryz.underlying25 hi hz0 hz1 hz2 rfl (by decide) _ _ _ rfl (hown.alloc _) ⟨wr.heap.size, 0, none⟩ 1 1 [.int .i64 y] rfl rfl (cell_one_new _ _ _) ?c2 ?c3 ?c4 ?c5 ?_) | go_in)
        case c2 => first | rfl | (intro u hu; simp at hu; subst hu; rfl)
        case c3 => unfold maxLen; omega
        case c4 => omega
        case c5 => have := hbel.size; simp; omega
        intro v' w2 hown' hgrow _
        have hb3 := below_app hbel (Nat.le_refl _) hown hgrow
        rw [HV.out] at hown'
        clear hgrow hown hbel
        go_wp2
        go_roundw
        case rel =>
          have R : ∃ (k₁ : Nat) (out₁ : List Int) (b₁ : Bool), k₁ ≤ ks.length ∧ Value.int .i64 ((k : Int) + 1) = .int .i64 k₁ ∧ Value.bool true = .bool b₁ ∧ Hid (PutAt ks x k₁ out₁ b₁) ∧ Hid (out₁.length ≤ k₁ + 1) ∧ w2.ownsRow w.heap.size 3 1 v' out₁.length (intV out₁) ∧ Below w.heap.size w w2 :=
            ⟨k + 1, out ++ [y], true, by omega, by go_num, rfl, HP2, by show (out ++ [y]).length ≤ _; simp; omega, by rw [List.length_append]; exact hown', hb3⟩
          first | exact R | ((repeat apply Exists.intro); exact ⟨R, rfl⟩)
        case measure => simp [intOf]; omega
      | false =>
        by_cases hlt2 : x < ks[k]
        · have HP2 : Hid (PutAt ks x (k + 1) (out ++ [x] ++ [ks[k]]) true) := PutAt.put hlt hlt2 HP.out
          have HV : Hid (intV out ++ [.int .i64 x] = intV (out ++ [x])) := intV_snoc _ _
          have HV2 : Hid (intV (out ++ [x]) ++ [.int .i64 ks[k]] = intV (out ++ [x] ++ [ks[k]])) := intV_snoc _ _
          have hol2 : out.length ≤ k := by
            rcases HP.out with ⟨_, e, _⟩ | ⟨c, _⟩
            · rw [e, List.length_take]; omega
            · cases c
          clear HP
          generalize ks[k] = y at hc HP2 HV2 hlt2
          have hd : decide (x < y) = true := decide_eq_true hlt2
          go_wp2_with (first | (at_builtin; refine wpList_append_own _ rfl _ _ 25 rfl w.heap.size 3 i0 (.int .i64 0) 1 8 Tryz.underlying25 hi hz0 hz1 hz2 rfl (by decide) _ _ _ rfl (hown.alloc _) ⟨wr.heap.size, 0, none⟩ 1 1 [.int .i64 x] rfl rfl (cell_one_new _ _ _) ?c2 ?c3 ?c4 ?c5 ?_) | go_in)
          case c2 => first | rfl | (intro u hu; simp at hu; subst hu; rfl)
          case c3 => unfold maxLen; omega
          case c4 => omega
          case c5 => have := hbel.size; simp; omega
          intro v' w2 hown' hgrow _
          have hb3 := below_app hbel (Nat.le_refl _) hown hgrow
          rw [HV.out] at hown'
          have hc2 : w2.cell? ⟨b1, o1 + k, none⟩ = some (.int .i64 y) := (hb3.cell (p := ⟨b1, o1 + k, none⟩) l1).trans ((hbel.cell (p := ⟨b1, o1 + k, none⟩) l1).symm.trans hc)
          have hln : (out ++ [x]).length = out.length + 1 := by simp
          rw [← hln] at hown'
          have hln2 : (out ++ [x]).length ≤ 1048577 := by omega
          clear hgrow hown hbel hc hln
          go_wp2_with (first | (at_builtin; refine wpList_append_own _ rfl _ _ 25 rfl w.heap.size 3 i0 (.int .i64 0) 1 8 Tryz.underlying25 hi hz0 hz1 hz2 rfl (by decide) _ _ _ rfl (hown'.alloc _) ⟨w2.heap.size, 0, none⟩ 1 1 [.int .i64 y] rfl rfl (cell_one_new _ _ _) ?c2 ?c3 ?c4 ?c5 ?_) | go_in)
          case c2 => first | rfl | (intro u hu; simp at hu; subst hu; rfl)
          case c3 => unfold maxLen; omega
          case c4 => omega
          case c5 => have := hb3.size; simp; omega
          intro v'' w3 hown'' hgrow2 _
          have hb4 := below_app hb3 (Nat.le_refl _) hown' hgrow2
          rw [HV2.out] at hown''
          clear hgrow2 hown' hb3
          go_wp2
          go_roundw
          case rel =>
            have R : ∃ (k₁ : Nat) (out₁ : List Int) (b₁ : Bool), k₁ ≤ ks.length ∧ Value.int .i64 ((k : Int) + 1) = .int .i64 k₁ ∧ Value.bool true = .bool b₁ ∧ Hid (PutAt ks x k₁ out₁ b₁) ∧ Hid (out₁.length ≤ k₁ + 1) ∧ w3.ownsRow w.heap.size 3 1 v'' out₁.length (intV out₁) ∧ Below w.heap.size w w3 :=
              ⟨k + 1, out ++ [x] ++ [y], true, by omega, by go_num, rfl, HP2, by show (out ++ [x] ++ [y]).length ≤ _; simp; omega, (by simp : (out ++ [x] ++ [y]).length = out.length + 1 + 1) ▸ hown'', hb4⟩
            first | exact R | ((repeat apply Exists.intro); exact ⟨R, rfl⟩)
          case measure => simp [intOf]; omega
        · have HP2 : Hid (PutAt ks x (k + 1) (out ++ [ks[k]]) false) := PutAt.pass hlt hlt2 HP.out
          have HV : Hid (intV out ++ [.int .i64 ks[k]] = intV (out ++ [ks[k]])) := intV_snoc _ _
          clear HP
          generalize ks[k] = y at hc HP2 HV hlt2
          have hd : decide (x < y) = false := decide_eq_false hlt2
          go_wp2_with (first | (at_builtin; refine wpList_append_own _ rfl _ _ 25 rfl w.heap.size 3 i0 (.int .i64 0) 1 8 Tryz.underlying25 hi hz0 hz1 hz2 rfl (by decide) _ _ _ rfl (hown.alloc _) ⟨wr.heap.size, 0, none⟩ 1 1 [.int .i64 y] rfl rfl (cell_one_new _ _ _) ?c2 ?c3 ?c4 ?c5 ?_) | go_in)
          case c2 => first | rfl | (intro u hu; simp at hu; subst hu; rfl)
          case c3 => unfold maxLen; omega
          case c4 => omega
          case c5 => have := hbel.size; simp; omega
          intro v' w2 hown' hgrow _
          have hb3 := below_app hbel (Nat.le_refl _) hown hgrow
          rw [HV.out] at hown'
          clear hgrow hown hbel
          go_wp2
          go_roundw
          case rel =>
            have R : ∃ (k₁ : Nat) (out₁ : List Int) (b₁ : Bool), k₁ ≤ ks.length ∧ Value.int .i64 ((k : Int) + 1) = .int .i64 k₁ ∧ Value.bool false = .bool b₁ ∧ Hid (PutAt ks x k₁ out₁ b₁) ∧ Hid (out₁.length ≤ k₁ + 1) ∧ w2.ownsRow w.heap.size 3 1 v' out₁.length (intV out₁) ∧ Below w.heap.size w w2 :=
              ⟨k + 1, out ++ [y], false, by omega, by go_num, rfl, HP2, by show (out ++ [y]).length ≤ _; simp; omega, by rw [List.length_append]; exact hown', hb3⟩
            first | exact R | ((repeat apply Exists.intro); exact ⟨R, rfl⟩)
          case measure => simp [intOf]; omega
    · have hol := HL.out
      cases p with
      | true =>
        have e := PutAt.done (by omega) HP.out
        clear HP
        subst e
        go_wp2
        go_ret
        exact ⟨_, rfl, hown, hbel⟩
      | false =>
        have e := PutAt.last (by omega) HP.out
        clear HP
        have HE : Hid (out ++ [x] = putL ks x) := e
        clear e
        have HV : Hid (intV out ++ [.int .i64 x] = intV (out ++ [x])) := intV_snoc _ _
        go_wp2_with (first | (at_builtin; refine wpList_append_own _ rfl _ _ 25 rfl w.heap.size 3 i0 (.int .i64 0) 1 8 Tryz.underlying25 hi hz0 hz1 hz2 rfl (by decide) _ _ _ rfl (hown.alloc _) ⟨wr.heap.size, 0, none⟩ 1 1 [.int .i64 x] rfl rfl (cell_one_new _ _ _) ?c2 ?c3 ?c4 ?c5 ?_) | go_in)
        case c2 => first | rfl | (intro u hu; simp at hu; subst hu; rfl)
        case c3 => unfold maxLen; omega
        case c4 => omega
        case c5 => have := hbel.size; simp; omega
        intro v' w2 hown' hgrow _
        have hb3 := below_app hbel (Nat.le_refl _) hown hgrow
        rw [HV.out] at hown'
        go_wp2
        go_ret
        exact ⟨_, rfl, by rw [← HE.out, List.length_append]; exact hown', hb3⟩
end Go.Proofs.YtkekfogepdhjhaaGreat
