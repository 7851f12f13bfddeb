/- Numbers read from texts. -/
import Derived.Test.YtkfjpgkpmdbnoaaTs0
import Derived.Test.YtkfjpgkpmdbnoaaReadVarMath
set_option linter.unusedVariables false
set_option maxRecDepth 100000
namespace Go.Proofs.Ytkfjpgkpmdbnoaa
open Go Go.RowKit Go.Joins Own Draw Go.Proofs.Ytkfjpgkpmdbnoaa Go.Proofs.Ytkfjpgkpmdbnoaa.Var

def shN (s : ByteArray) (xs : List Int) : ByteArray := xs.foldl (fun t n => t ++ varOf n) s
theorem shN_snoc (s : ByteArray) (xs : List Int) (n : Int) : shN s (xs ++ [n]) = shN s xs ++ varOf n := by unfold shN; rw [List.foldl_append]; rfl
theorem shN_size : ∀ (xs : List Int) (s : ByteArray), (shN s xs).size ≤ s.size + 7 * xs.length
  | [], s => by show s.size ≤ _; omega
  | x :: xs, s => by
    have h := shN_size xs (s ++ varOf x)
    have h2 := varOf_size x
    rw [ba_size] at h
    show (shN (s ++ varOf x) xs).size ≤ _
    rw [List.length_cons]
    omega
/-- What stands from place i on. -/
def suf (s : ByteArray) (i : Nat) : ByteArray := s.extract i s.size
theorem suf_size (s : ByteArray) (i : Nat) : (suf s i).size = s.size - i := by simp [suf, ByteArray.size_extract]
theorem suf_list (s : ByteArray) (i : Nat) : (suf s i).data.toList = s.data.toList.drop i := by
  have h : s.data.toList.length = s.size := rfl
  simp [suf, ByteArray.data_extract, List.extract]
  rw [List.take_of_length_le]
  rw [List.length_drop]; omega
theorem ext_list {a b : ByteArray} (h : a.data.toList = b.data.toList) : a = b := by
  cases a; cases b; simp at h; simp [h]
theorem suf_suf (s : ByteArray) (i j : Nat) : suf (suf s i) j = suf s (i + j) := by
  apply ext_list; rw [suf_list, suf_list, suf_list, List.drop_drop]
theorem suf_zero (s : ByteArray) : suf s 0 = s := by apply ext_list; rw [suf_list, List.drop_zero]
theorem suf_at (s : ByteArray) (i : Nat) : at_ (suf s i) 0 = at_ s i := by
  unfold at_; rw [suf_list]; simp [List.getD_eq_getElem?_getD, List.getElem?_drop]
theorem empty_of (s : ByteArray) (h : s.size = 0) : s = ⟨#[]⟩ := by
  apply ByteArray.ext; exact Array.eq_empty_of_size_eq_zero h

/-- The first place from j on at which a number can end. -/
def find (s : ByteArray) : Nat → Nat → Nat × Nat
  | 0, _ => (0, 0)
  | f + 1, j => if j < s.size ∧ (∀ i, i < j → 128 ≤ at_ s i) ∧ at_ s j < 128 ∧ (j = 0 ∨ at_ s j ≠ 0) then (valB (s.data.toList.take (j + 1)), j + 1) else find s f (j + 1)
theorem find_ans (s : ByteArray) : ∀ f j, f + j = 7 → (∀ i, i < j → i < s.size → ¬ canonK s i) → Ans s (find s f j).1 (find s f j).2 := by
  intro f
  induction f with
  | zero => intro j hj h; exact Or.inl ⟨rfl, rfl, fun i h7 hs => h i (by omega) hs⟩
  | succ f ih =>
    intro j hj h
    rw [find]
    split
    · rename_i hc
      exact Or.inr ⟨by simp, by simp; omega, by simp; omega, by simpa [canonK] using hc.2, rfl⟩
    · rename_i hc
      refine ih (j + 1) (by omega) fun i hi hs hk => ?_
      by_cases e : i = j
      · subst e; exact hc ⟨hs, hk⟩
      · exact h i (by omega) hs hk
/-- The number that Var begins the text with, and how many bytes it takes. -/
def rvN (s : ByteArray) : Nat := (find s 7 0).1
def rvK (s : ByteArray) : Nat := (find s 7 0).2
theorem rv_ans (s : ByteArray) : Ans s (rvN s) (rvK s) := find_ans s 7 0 rfl fun i hi => absurd hi (by omega)
theorem rv_one {s : ByteArray} {n k : Nat} (h : Ans s n k) : n = rvN s ∧ k = rvK s := Ans_one s n k _ _ h (rv_ans s)
theorem rvK_le (s : ByteArray) : rvK s ≤ 7 ∧ rvK s ≤ s.size := by
  rcases rv_ans s with ⟨_, h, _⟩ | ⟨_, h1, h2, _⟩ <;> omega
theorem rvN_le (s : ByteArray) : rvN s ≤ 562949953421311 := by
  rcases rv_ans s with ⟨h, _, _⟩ | ⟨_, h1, h2, _, h⟩
  · omega
  · rw [h]; exact valB_seven _ (by have := List.length_take_le (rvK s) s.data.toList; omega)

theorem data_append (a b : ByteArray) : (a ++ b).data.toList = a.data.toList ++ b.data.toList := by simp [ByteArray.data_append]
theorem size_list (a : ByteArray) : a.size = a.data.toList.length := rfl
theorem valB_varB (n : Nat) : Var.valB (varB n) = n := by
  induction n using Nat.strongRecOn with
  | ind n ih =>
    by_cases h : n < 128
    · rw [varB_small n h]
      simp only [Var.valB]
      rw [UInt8.toNat_ofNat_of_lt' (by show _ < 256; omega)]
      omega
    · rw [varB_great n h]
      simp only [Var.valB]
      rw [UInt8.toNat_ofNat_of_lt' (by show _ < 256; omega), ih (n / 128) (by omega)]
      omega
theorem ans_made (n : Nat) (h : n ≤ 562949953421311) (t : ByteArray) : Ans (⟨(varB n).toArray⟩ ++ t) n (varB n).length := by
  have h7 := varB_seven n h
  have h1 := varB_pos n
  have e : (⟨(varB n).toArray⟩ ++ t : ByteArray).data.toList = varB n ++ t.data.toList := by rw [data_append]
  have hs : (⟨(varB n).toArray⟩ ++ t : ByteArray).size = (varB n).length + t.size := by rw [size_list, e, List.length_append]; rfl
  have et : (⟨(varB n).toArray⟩ ++ t : ByteArray).data.toList.take (varB n).length = varB n := by rw [e]; simp
  refine Or.inr ⟨h1, h7, by omega, ?_, ?_⟩
  · rw [Var.canonK_iff _ _ (by omega)]
    have e1 : (varB n).length - 1 + 1 = (varB n).length := by omega
    rw [e1, et, valB_varB]
  · rw [et, valB_varB]

theorem varOf_nat (n : Nat) (h : n ≤ 562949953421311) : varOf (n : Int) = ⟨(varB n).toArray⟩ := by unfold varOf; rw [if_pos (by omega)]; rfl
theorem rv_made (n : Nat) (h : n ≤ 562949953421311) (t : ByteArray) : rvN (varOf (n : Int) ++ t) = n ∧ rvK (varOf (n : Int) ++ t) = (varOf (n : Int)).size ∧ rvK (varOf (n : Int) ++ t) ≠ 0 := by
  have h1 := ans_made n h t
  rw [← varOf_nat n h] at h1
  have h2 := rv_one h1
  have h3 := varB_pos n
  have h4 : (varOf (n : Int)).size = (varB n).length := by rw [varOf_nat n h]; rfl
  refine ⟨h2.1.symm, by rw [h4]; exact h2.2.symm, by rw [← h2.2]; omega⟩
theorem suf_app (a b : ByteArray) : suf (a ++ b) a.size = b := by
  apply ext_list; rw [suf_list, data_append, size_list, List.drop_left]
theorem rv_taken {t : ByteArray} (h : rvK t ≠ 0) : t = varOf (rvN t : Int) ++ suf t (rvK t) := by
  rcases rv_ans t with ⟨_, h0, _⟩ | ⟨k1, k7, ks, hc, hv⟩
  · exact absurd h0 h
  · have hcv := (canonK_iff t (rvK t - 1) (by omega)).1 hc
    rw [(by omega : rvK t - 1 + 1 = rvK t), ← hv] at hcv
    apply ext_list
    rw [varOf_nat _ (rvN_le t), data_append, suf_list]
    show _ = varB (rvN t) ++ _
    rw [hcv, List.take_append_drop]
theorem app_assoc (a b c : ByteArray) : a ++ b ++ c = a ++ (b ++ c) := by apply ext_list; simp only [data_append, List.append_assoc]
theorem nil_app (a : ByteArray) : ⟨#[]⟩ ++ a = a := by apply ext_list; rw [data_append]; simp
theorem app_nil (a : ByteArray) : a ++ ⟨#[]⟩ = a := by apply ext_list; rw [data_append]; simp
theorem shN_cut : ∀ (xs : List Int) (s : ByteArray), shN s xs = s ++ shN ⟨#[]⟩ xs
  | [], s => (app_nil s).symm
  | x :: xs, s => by
    show shN (s ++ varOf x) xs = s ++ shN (⟨#[]⟩ ++ varOf x) xs
    rw [shN_cut xs (s ++ varOf x), shN_cut xs (⟨#[]⟩ ++ varOf x), nil_app, app_assoc]
def itV (s : ByteArray) (a : Nat) : Nat → Option (List Int × Nat)
  | 0 => some ([], a)
  | i + 1 => match itV s a i with
    | none => none
    | some (l, p) => if rvK (suf s p) = 0 then none else some (l ++ [(rvN (suf s p) : Int)], p + rvK (suf s p))
theorem itV_le {s : ByteArray} {a : Nat} (ha : a ≤ s.size) : ∀ {i : Nat} {l : List Int} {p : Nat}, itV s a i = some (l, p) → p ≤ s.size ∧ l.length = i ∧ (∀ x ∈ l, 0 ≤ x ∧ x ≤ 562949953421311)
  | 0, l, p, h => by
    have h2 : ([], a) = (l, p) := by injection h
    injection h2 with h3 h4
    subst h3 h4
    exact ⟨ha, rfl, fun x hx => by cases hx⟩
  | i + 1, l, p, h => by
    unfold itV at h
    cases e : itV s a i with
    | none => rw [e] at h; cases h
    | some q =>
      obtain ⟨l1, p1⟩ := q
      rw [e] at h
      dsimp only at h
      have ih := itV_le ha e
      by_cases c : rvK (suf s p1) = 0
      · rw [if_pos c] at h; cases h
      · rw [if_neg c] at h
        have h2 : (l1 ++ [(rvN (suf s p1) : Int)], p1 + rvK (suf s p1)) = (l, p) := by injection h
        injection h2 with h3 h4
        subst h3 h4
        have hk := (rvK_le (suf s p1)).2
        rw [suf_size] at hk
        have hn := rvN_le (suf s p1)
        refine ⟨by omega, by rw [List.length_append, ih.2.1]; rfl, fun x hx => ?_⟩
        rcases List.mem_append.1 hx with hx | hx
        · exact ih.2.2 x hx
        · rw [List.mem_singleton] at hx; subst hx; omega
theorem itV_made (s : ByteArray) (a : Nat) : ∀ (i : Nat) (xs : List Int), xs.length = i → (∀ x ∈ xs, 0 ≤ x ∧ x ≤ 562949953421311) → ∀ t, suf s a = shN ⟨#[]⟩ xs ++ t → ∃ p, itV s a i = some (xs, p) ∧ suf s p = t
  | 0, xs, hl, _, t, h => by
    rw [List.eq_nil_of_length_eq_zero hl] at h ⊢
    exact ⟨a, rfl, h.trans (nil_app t)⟩
  | i + 1, xs, hl, hx, t, h => by
    obtain ⟨ys, x, rfl⟩ : ∃ ys x, xs = ys ++ [x] := ⟨xs.dropLast, xs.getLast (by intro e; rw [e] at hl; cases hl), (List.dropLast_concat_getLast _).symm⟩
    have hx1 := hx x (by simp)
    rw [shN_snoc, app_assoc] at h
    obtain ⟨p, e1, e2⟩ := itV_made s a i ys (by simpa using hl) (fun y hy => hx y (by simp [hy])) _ h
    obtain ⟨m, rfl⟩ := Int.eq_ofNat_of_zero_le hx1.1
    obtain ⟨f1, f2, f3⟩ := rv_made m (by omega) t
    refine ⟨p + rvK (suf s p), ?_, ?_⟩
    · unfold itV
      rw [e1]
      dsimp only
      rw [e2, if_neg f3, f1]
    · rw [← suf_suf, e2, f2, suf_app]
end Go.Proofs.Ytkfjpgkpmdbnoaa
