/- Short forms are small. -/
import Derived.Test.YtjbbhegijlnndaaRn0
import Derived.Test.YtjbbhegijlnndaaMr0
import Derived.Test.YtjbbhegijlnndaaLr1
set_option linter.unusedVariables false
set_option maxRecDepth 100000
namespace Go.Proofs.Ytjbbhegijlnndaa.Nd
open Go Go.RowKit Go.Joins Own Draw Go.Proofs.Ytjbbhegijlnndaa

theorem nrmK_len (l : List PT) : ∀ i, (nrmK l i).length ≤ i
  | 0 => Nat.le_refl _
  | i + 1 => by
    have := nrmK_len l i
    unfold nrmK
    rw [List.length_append]
    split <;> simp <;> omega
theorem nrmK_ok {l : List PT} (h : okL l = true) : ∀ i, ∀ p ∈ nrmK l i, okP p = true ∧ 1 ≤ p.1 ∧ p.1 ≤ i
  | 0, p, hp => by cases hp
  | i + 1, p, hp => by
    unfold nrmK at hp
    rcases List.mem_append.1 hp with hp | hp
    · have := nrmK_ok h i p hp
      exact ⟨this.1, this.2.1, by omega⟩
    · by_cases e : (ofK ((i : Int) + 1) l).2 = true
      · rw [if_pos e, List.mem_singleton] at hp
        subst hp
        have h2 := ofK_ok ((i : Int) + 1) _ l rfl (okL_mem h).2
        unfold AccOk at h2
        rw [if_pos e] at h2
        exact ⟨h2.1, by omega, by omega⟩
      · rw [if_neg e] at hp; cases hp
theorem nrm_small (l : List PT) : (nrmP l).length ≤ 5 ∧ ∀ p ∈ nrmP l, okP p = true := by
  unfold nrmP
  split
  · rename_i h
    exact ⟨nrmK_len l 5, fun p hp => (nrmK_ok h 5 p hp).1⟩
  · exact ⟨Nat.zero_le _, fun p hp => by cases hp⟩
theorem sum_le_of {α : Type} (f : α → Nat) (b : Nat) : ∀ xs : List α, (∀ x ∈ xs, f x ≤ b) → (xs.map f).sum ≤ xs.length * b
  | [], _ => by simp
  | x :: xs, h => by
    have h1 := h x (List.mem_cons_self ..)
    have h2 := sum_le_of f b xs (fun y hy => h y (List.mem_cons_of_mem _ hy))
    rw [List.map_cons, List.sum_cons, List.length_cons, Nat.add_mul, Nat.one_mul]
    omega
theorem ad_tot (q : Rw TT) : adL q.2.2 ≤ 2 * rtT q := by
  obtain ⟨a, c, xs⟩ := q
  show adL xs ≤ 2 * (xs.length + (xs.map totT).sum)
  induction xs with
  | nil => simp [adL]
  | cons x xs ih =>
    have e1 : adL (x :: xs) = adT x + adL xs := by unfold adL; rw [List.map_cons, List.sum_cons]
    have e2 : adT x = 2 + totT x := rfl
    rw [e1, e2, List.length_cons, List.map_cons, List.sum_cons]
    omega
/-- Rules that are right and few are small. -/
theorem few_small {q : Rw TT} {L : List PT} (h : rsT q = L) (h1 : L.length ≤ 20) (h2 : ∀ p ∈ L, okP p = true) : rtT q ≤ 1048576 ∧ 1 + adL q.2.2 ≤ 4000000 := by
  have h3 := rt_rs q
  rw [h] at h3
  have h4 := sum_le_of (fun p : PT => p.2.1.length) 31 L (fun p hp => ri_len (show riB (-1) p.2.1 = true from okP_set (h2 p hp)))
  have h5 : L.length * 31 ≤ 20 * 31 := Nat.mul_le_mul_right _ h1
  have h6 := ad_tot q
  omega
theorem nrm_sm (l : List PT) {q : Rw TT} (h : rsT q = nrmP l) : rtT q ≤ 1048576 ∧ 1 + adL q.2.2 ≤ 4000000 := few_small h (by have := (nrm_small l).1; omega) (nrm_small l).2
end Go.Proofs.Ytjbbhegijlnndaa.Nd
