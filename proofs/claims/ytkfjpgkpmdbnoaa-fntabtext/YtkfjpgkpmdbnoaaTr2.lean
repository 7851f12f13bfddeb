/- What is shown is read as it was: plain. -/
import Derived.Test.YtkfjpgkpmdbnoaaTr0
import Derived.Test.YtkfjpgkpmdbnoaaTd0
set_option linter.unusedVariables false
set_option maxRecDepth 100000
namespace Go.Proofs.Ytkfjpgkpmdbnoaa
open Go Go.RowKit Go.Joins Own Draw Go.Proofs.Ytkfjpgkpmdbnoaa.Var

theorem shH_nums (p : TS) : shH p = shN ⟨#[]⟩ [p.1, p.2.1, p.2.2] := by
  show _ = ⟨#[]⟩ ++ varOf p.1 ++ varOf p.2.1 ++ varOf p.2.2
  rw [nil_app]; rfl
theorem shS_cut : ∀ (l : List TS) (s : ByteArray), shS s l = s ++ shS ⟨#[]⟩ l
  | [], s => (app_nil s).symm
  | p :: l, s => by
    show shS (s ++ shH p) l = s ++ shS (⟨#[]⟩ ++ shH p) l
    rw [shS_cut l (s ++ shH p), shS_cut l (⟨#[]⟩ ++ shH p), nil_app, app_assoc]
theorem slot_bounds {p : TS} (h : slA p = true) : (0 ≤ p.1 ∧ p.1 ≤ 99) ∧ (1 ≤ p.2.1 ∧ p.2.1 ≤ 1000) ∧ (1 ≤ p.2.2 ∧ p.2.2 ≤ 1000000) := by
  unfold slA at h
  rw [Bool.and_eq_true, Bool.and_eq_true] at h
  exact ⟨(btw_iff _ _ _).1 h.1, (btw_iff _ _ _).1 h.2.1, (btw_iff _ _ _).1 h.2.2⟩
theorem rdI_made (s : ByteArray) (a : Nat) : ∀ (i : Nat) (l : List TS), l.length = i → (∀ p ∈ l, slA p = true) → ∀ t, suf s a = shS ⟨#[]⟩ l ++ t → ∃ p, rdI s a i = some (l, p) ∧ suf s p = t
  | 0, l, hl, _, t, h => by
    rw [List.eq_nil_of_length_eq_zero hl] at h ⊢
    exact ⟨a, rfl, h.trans (nil_app t)⟩
  | i + 1, l, hl, hx, t, h => by
    obtain ⟨ys, x, rfl⟩ : ∃ ys x, l = ys ++ [x] := ⟨l.dropLast, l.getLast (by intro e; rw [e] at hl; cases hl), (List.dropLast_concat_getLast _).symm⟩
    have hb := slot_bounds (hx x (by simp))
    rw [shS_snoc, app_assoc] at h
    obtain ⟨p, e1, e2⟩ := rdI_made s a i ys (by simpa using hl) (fun y hy => hx y (by simp [hy])) _ h
    rw [shH_nums] at e2
    obtain ⟨q, e3, e4⟩ := itV_made s p 3 [x.1, x.2.1, x.2.2] rfl (fun n hn => by simp at hn; rcases hn with rfl | rfl | rfl <;> omega) t e2
    refine ⟨q, ?_, e4⟩
    unfold rdI
    rw [e1]
    show stV s (ys, p) = _
    unfold stV
    dsimp only
    rw [e3]
    rfl
/-- What is shown of a table that is right is read as that table. -/
theorem read_shown {l : List TS} (h : tabB l = true) : rdT (shT l) = (l, true) := by
  have hl := tab_len h
  have hs : shT l = varOf (l.length : Int) ++ shS ⟨#[]⟩ l := by unfold shT; rw [if_pos h, shS_cut]
  obtain ⟨p, e1, e2⟩ := itV_made (shT l) 0 1 [(l.length : Int)] rfl (fun n hn => by simp at hn; subst hn; omega) (shS ⟨#[]⟩ l) (by rw [suf_zero, hs]; show _ = (⟨#[]⟩ ++ varOf (l.length : Int)) ++ _; rw [nil_app])
  obtain ⟨q, e3, _⟩ := rdI_made (shT l) p l.length l rfl (fun x hx => by obtain ⟨k, hk, rfl⟩ := List.mem_iff_getElem.1 hx; exact tab_slot h k hk) ⟨#[]⟩ (by rw [e2, app_nil])
  unfold rdT
  rw [e1]
  dsimp only
  have e0 : thr [(l.length : Int)] 0 = (l.length : Int) := rfl
  rw [e0, if_neg (by omega), Int.toNat_natCast, e3]
  dsimp only
  rw [if_pos rfl]
theorem itV_nil : itV ⟨#[]⟩ 0 1 = none := by
  have h0 : rvK (suf ⟨#[]⟩ 0) = 0 := by
    have := (rvK_le (suf ⟨#[]⟩ 0)).2
    rw [suf_size] at this
    exact Nat.le_zero.1 this
  show (if rvK (suf ⟨#[]⟩ 0) = 0 then none else some (([] : List Int) ++ [(rvN (suf ⟨#[]⟩ 0) : Int)], 0 + rvK (suf ⟨#[]⟩ 0))) = none
  rw [if_pos h0]
/-- What is read is a right table, shown as that text. -/
theorem read_says {s : ByteArray} {l : List TS} (h : rdT s = (l, true)) : tabB l = true ∧ shT l = s := by
  unfold rdT at h
  cases e1 : itV s 0 1 with
  | none => rw [e1] at h; cases h
  | some f =>
    obtain ⟨v, a⟩ := f
    rw [e1] at h
    dsimp only at h
    by_cases c : 20 < thr v 0
    · rw [if_pos c] at h; cases h
    · rw [if_neg c] at h
      cases e2 : rdI s a (thr v 0).toNat with
      | none => rw [e2] at h; cases h
      | some x =>
        rw [e2] at h
        dsimp only at h
        by_cases d : shT x.1 = s
        · rw [if_pos d] at h
          injection h with h1 _
          subst h1
          refine ⟨?_, d⟩
          cases ht : tabB x.1 with
          | true => rfl
          | false =>
            have : shT x.1 = ⟨#[]⟩ := by unfold shT; rw [if_neg (by rw [ht]; decide)]
            rw [← d, this, itV_nil] at e1
            cases e1
        · rw [if_neg d] at h; cases h
theorem read_none {s : ByteArray} (h : ∀ l, tabB l = true → ¬ shT l = s) : rdT s = ([], false) := by
  cases e : rdT s with
  | mk l b =>
    cases b with
    | true => exact absurd (read_says e).2 (h l (read_says e).1)
    | false =>
      unfold rdT at e
      split at e
      · exact e.symm
      · split at e
        · exact e.symm
        · split at e
          · exact e.symm
          · split at e
            · injection e with _ e2; cases e2
            · exact e.symm
end Go.Proofs.Ytkfjpgkpmdbnoaa
