/- Plain mathematics for terms: what stands behind the term with which a text begins. -/
import Derived.Test.YtaeecaebjafnpaaReadVarMath
set_option linter.unusedVariables false
namespace Go.Proofs.Ytaeecaebjafnpaa.Term
open Own Var

/-- What stands from place i on. -/
def suf (s : ByteArray) (i : Nat) : ByteArray := s.extract i s.size
theorem suf_size (s : ByteArray) (i : Nat) : (suf s i).size = s.size - i := by simp [suf, ByteArray.size_extract]
theorem suf_list (s : ByteArray) (i : Nat) : (suf s i).data.toList = s.data.toList.drop i := by
  have h : s.data.toList.length = s.size := rfl
  simp [suf, ByteArray.data_extract, List.extract]
  rw [List.take_of_length_le]
  rw [List.length_drop]; omega
theorem ext_list {a b : ByteArray} (h : a.data.toList = b.data.toList) : a = b := by
  cases a; cases b; simp at h; simp [h]
theorem suf_suf (s : ByteArray) (i j : Nat) : suf (suf s i) j = suf s (i + j) := by
  apply ext_list; rw [suf_list, suf_list, suf_list, List.drop_drop]
theorem suf_zero (s : ByteArray) : suf s 0 = s := by apply ext_list; rw [suf_list, List.drop_zero]
theorem suf_at (s : ByteArray) (i : Nat) : at_ (suf s i) 0 = at_ s i := by
  unfold at_; rw [suf_list]; simp [List.getD_eq_getElem?_getD, List.getElem?_drop]
theorem empty_of (s : ByteArray) (h : s.size = 0) : s = ⟨#[]⟩ := by
  apply ByteArray.ext; exact Array.eq_empty_of_size_eq_zero h

/-- The first place from j on at which a number can end. -/
def find (s : ByteArray) : Nat → Nat → Nat × Nat
  | 0, _ => (0, 0)
  | f + 1, j => if j < s.size ∧ (∀ i, i < j → 128 ≤ at_ s i) ∧ at_ s j < 128 ∧ (j = 0 ∨ at_ s j ≠ 0) then (valB (s.data.toList.take (j + 1)), j + 1) else find s f (j + 1)
theorem find_ans (s : ByteArray) : ∀ f j, f + j = 7 → (∀ i, i < j → i < s.size → ¬ canonK s i) → Ans s (find s f j).1 (find s f j).2 := by
  intro f
  induction f with
  | zero => intro j hj h; exact Or.inl ⟨rfl, rfl, fun i h7 hs => h i (by omega) hs⟩
  | succ f ih =>
    intro j hj h
    rw [find]
    split
    · rename_i hc
      exact Or.inr ⟨by simp, by simp; omega, by simp; omega, by simpa [canonK] using hc.2, rfl⟩
    · rename_i hc
      refine ih (j + 1) (by omega) fun i hi hs hk => ?_
      by_cases e : i = j
      · subst e; exact hc ⟨hs, hk⟩
      · exact h i (by omega) hs hk
/-- The number that Var begins the text with, and how many bytes it takes. -/
def rvN (s : ByteArray) : Nat := (find s 7 0).1
def rvK (s : ByteArray) : Nat := (find s 7 0).2
theorem rv_ans (s : ByteArray) : Ans s (rvN s) (rvK s) := find_ans s 7 0 rfl fun i hi => absurd hi (by omega)
theorem rv_one {s : ByteArray} {n k : Nat} (h : Ans s n k) : n = rvN s ∧ k = rvK s := Ans_one s n k _ _ h (rv_ans s)
theorem rvK_le (s : ByteArray) : rvK s ≤ 7 ∧ rvK s ≤ s.size := by
  rcases rv_ans s with ⟨_, h, _⟩ | ⟨_, h1, h2, _⟩ <;> omega
theorem rvN_le (s : ByteArray) : rvN s ≤ 562949953421311 := by
  rcases rv_ans s with ⟨h, _, _⟩ | ⟨_, h1, h2, _, h⟩
  · omega
  · rw [h]; exact valB_seven _ (by have := List.length_take_le (rvK s) s.data.toList; omega)

/-- May this number stand behind this letter? -/
def hdOk (c n : Nat) : Bool :=
  if c = 97 then decide (n ≤ 40) else if c = 108 then decide (n ≤ 12) else if c = 107 ∨ c = 115 then decide (1 ≤ n ∧ n ≤ 1000000) else false
/-- The number behind the letter, and what stands behind it. -/
def cut (s : ByteArray) : Option (Nat × ByteArray) :=
  if 1 ≤ s.size ∧ 1 ≤ rvK (suf s 1) ∧ hdOk (at_ s 0) (rvN (suf s 1)) = true then some (rvN (suf s 1), suf s (1 + rvK (suf s 1))) else none
/-- So many, one behind the other. -/
def rep (g : ByteArray → Option ByteArray) : Nat → ByteArray → Option ByteArray
  | 0, r => some r
  | n + 1, r => match g r with
    | none => none
    | some r' => rep g n r'
/-- What stands behind the term with which s begins, of depth f at most. -/
def bh : Nat → ByteArray → Option ByteArray
  | 0 => fun _ => none
  | f + 1 => fun s => match cut s with
    | none => none
    | some (n, r) =>
      if at_ s 0 = 97 then (if n ≤ r.size then some (suf r n) else none)
      else if at_ s 0 = 108 then rep (bh f) n r
      else if at_ s 0 = 115 then bh f r
      else some r

theorem bh_none {f : Nat} {s : ByteArray} (h : cut s = none) : bh (f + 1) s = none := by rw [bh]; simp only [h]
theorem bh_some {f n : Nat} {s r : ByteArray} (h : cut s = some (n, r)) :
    bh (f + 1) s = (if at_ s 0 = 97 then (if n ≤ r.size then some (suf r n) else none) else if at_ s 0 = 108 then rep (bh f) n r else if at_ s 0 = 115 then bh f r else some r) := by rw [bh]; simp only [h]
theorem rep_mono {g h : ByteArray → Option ByteArray} (H : ∀ x r, g x = some r → h x = some r) : ∀ n x r, rep g n x = some r → rep h n x = some r := by
  intro n
  induction n with
  | zero => intro x r e; exact e
  | succ n ih =>
    intro x r e
    simp only [rep] at e ⊢
    cases hg : g x with
    | none => rw [hg] at e; simp at e
    | some r' => rw [hg] at e; rw [H x r' hg]; exact ih r' r e
theorem bh_mono (f : Nat) : ∀ x r, bh f x = some r → bh (f + 1) x = some r := by
  induction f with
  | zero => intro x r e; simp [bh] at e
  | succ f ih =>
    intro x r e
    rw [bh] at e ⊢
    simp only at e ⊢
    cases hc : cut x with
    | none => rw [hc] at e; simp at e
    | some q =>
      obtain ⟨n, t⟩ := q
      rw [hc] at e
      simp only at e ⊢
      by_cases h1 : at_ x 0 = 97
      · rw [if_pos h1] at e ⊢; exact e
      · rw [if_neg h1] at e ⊢
        by_cases h2 : at_ x 0 = 108
        · rw [if_pos h2] at e ⊢; exact rep_mono ih _ _ _ e
        · rw [if_neg h2] at e ⊢
          by_cases h3 : at_ x 0 = 115
          · rw [if_pos h3] at e ⊢; exact ih _ _ e
          · rw [if_neg h3] at e ⊢; exact e

theorem cut_size {s r : ByteArray} {n : Nat} (h : cut s = some (n, r)) : r.size + 2 ≤ s.size ∧ n ≤ 1000000 ∧ ∃ j, 2 ≤ j ∧ j ≤ s.size ∧ r = suf s j := by
  unfold cut at h
  split at h
  · rename_i hc
    simp only [Option.some.injEq, Prod.mk.injEq] at h
    obtain ⟨rfl, rfl⟩ := h
    have h2 := (rvK_le (suf s 1)).2
    rw [suf_size] at h2
    refine ⟨by rw [suf_size]; omega, ?_, _, by omega, by omega, rfl⟩
    have := hc.2.2
    unfold hdOk at this
    repeat' split at this
    all_goals simp at this
    all_goals omega
  · simp at h
/-- What stands behind is a part of the text. -/
theorem rep_suf {g : ByteArray → Option ByteArray} (H : ∀ x r, g x = some r → ∃ j, 2 ≤ j ∧ j ≤ x.size ∧ r = suf x j) : ∀ n x r, rep g n x = some r → ∃ j, j ≤ x.size ∧ r = suf x j := by
  intro n
  induction n with
  | zero => intro x r e; simp only [rep, Option.some.injEq] at e; exact ⟨0, by omega, by rw [suf_zero, e]⟩
  | succ n ih =>
    intro x r e
    simp only [rep] at e
    cases hg : g x with
    | none => rw [hg] at e; simp at e
    | some r' =>
      rw [hg] at e
      obtain ⟨j, _, hj, rfl⟩ := H x r' hg
      obtain ⟨i, hi, rfl⟩ := ih _ r e
      rw [suf_size] at hi
      exact ⟨j + i, by omega, suf_suf _ _ _⟩
theorem bh_suf (f : Nat) : ∀ x r, bh f x = some r → ∃ j, 2 ≤ j ∧ j ≤ x.size ∧ r = suf x j := by
  induction f with
  | zero => intro x r e; simp [bh] at e
  | succ f ih =>
    intro x r e
    rw [bh] at e
    simp only at e
    cases hc : cut x with
    | none => rw [hc] at e; simp at e
    | some q =>
      obtain ⟨n, t⟩ := q
      rw [hc] at e
      simp only at e
      obtain ⟨hs, _, j, h2, hj, rfl⟩ := cut_size hc
      split at e
      · split at e
        · rename_i hn
          rw [suf_size] at hn
          simp only [Option.some.injEq] at e
          exact ⟨j + n, by omega, by omega, by rw [← e, suf_suf]⟩
        · simp at e
      · split at e
        · obtain ⟨i, hi, rfl⟩ := rep_suf ih n _ r e
          rw [suf_size] at hi
          exact ⟨j + i, by omega, by omega, suf_suf _ _ _⟩
        · split at e
          · obtain ⟨i, h3, hi, rfl⟩ := ih _ r e
            rw [suf_size] at hi
            exact ⟨j + i, by omega, by omega, suf_suf _ _ _⟩
          · simp only [Option.some.injEq] at e
            exact ⟨j, by omega, by omega, e.symm⟩

/-- Just one term. -/
def isT (s : ByteArray) : Bool := decide (s.size ≤ 900) && (match bh 8 s with
  | some r => r.size == 0
  | none => false)
def IsT (s : ByteArray) : Prop := s.size ≤ 900 ∧ ∃ r, bh 8 s = some r ∧ r.size = 0
theorem isT_iff (s : ByteArray) : isT s = true ↔ IsT s := by
  unfold isT IsT
  cases h : bh 8 s with
  | none => simp
  | some r => simp
theorem IsT.cut {s : ByteArray} (h : IsT s) : ∃ n r, cut s = some (n, r) := by
  obtain ⟨_, r, h, _⟩ := h
  rw [bh] at h
  simp only at h
  cases hc : Term.cut s with
  | none => rw [hc] at h; simp at h
  | some q => exact ⟨q.1, q.2, rfl⟩
/-- What a reader of one kind finds: the number behind the letter, and what stands behind it. -/
def rk (s : ByteArray) (kind : Nat) : Option (Nat × ByteArray) := if isT s = true ∧ at_ s 0 = kind then cut s else none
theorem rk_yes {s : ByteArray} {kind : Nat} (h : IsT s) (hk : at_ s 0 = kind) : rk s kind = cut s := by unfold rk; rw [if_pos ⟨(isT_iff s).2 h, hk⟩]
theorem rk_no {s : ByteArray} {kind : Nat} (h : ¬ (IsT s ∧ at_ s 0 = kind)) : rk s kind = none := by unfold rk; rw [if_neg (fun c => h ⟨(isT_iff s).1 c.1, c.2⟩)]
theorem not_empty {s : ByteArray} (h : IsT s) : 2 ≤ s.size := by
  obtain ⟨n, r, h⟩ := h.cut
  have := (cut_size h).1
  omega
end Go.Proofs.Ytaeecaebjafnpaa.Term
