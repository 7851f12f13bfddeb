/- Chapter 17 as plain data: what is right. -/
import Derived.Test.YtjbbhegijlnndaaNd0
set_option linter.unusedVariables false
set_option maxRecDepth 100000
namespace Go.Proofs.Ytjbbhegijlnndaa.Nd
open Go Go.RowKit Go.Joins Own Draw

/-- Numbers that rise, behind l, up to 30. -/
def riB : Int → List Int → Bool
  | _, [] => true
  | l, n :: t => (decide (l < n) && decide (n ≤ 30)) && riB n t
def okP (p : PT) : Bool := if btw p.1 1 3 = true then decide (p.2.2 = 0) && riB (-1) p.2.1 else btw p.1 4 5 && (decide (p.2.1.length = 0) && btw p.2.2 0 100000)
def okL (l : List PT) : Bool := decide (l.length ≤ 20) && l.all okP
theorem ri_mem : ∀ {l : Int} {xs : List Int}, riB l xs = true → ∀ x ∈ xs, l < x ∧ x ≤ 30
  | l, [], _, x, h => by cases h
  | l, n :: t, e, x, h => by
    unfold riB at e
    simp only [Bool.and_eq_true, decide_eq_true_eq] at e
    rcases List.mem_cons.1 h with rfl | h
    · exact e.1
    · have := ri_mem e.2 x h; omega
theorem ri_pair : ∀ {l : Int} {xs : List Int}, riB l xs = true → xs.Pairwise (· < ·)
  | l, [], _ => List.Pairwise.nil
  | l, n :: t, e => by
    unfold riB at e
    simp only [Bool.and_eq_true, decide_eq_true_eq] at e
    exact List.Pairwise.cons (fun x h => (ri_mem e.2 x h).1) (ri_pair e.2)
theorem ri_of : ∀ {l : Int} {xs : List Int}, xs.Pairwise (· < ·) → (∀ x ∈ xs, l < x ∧ x ≤ 30) → riB l xs = true
  | l, [], _, _ => rfl
  | l, n :: t, h, k => by
    rw [List.pairwise_cons] at h
    unfold riB
    simp only [Bool.and_eq_true, decide_eq_true_eq]
    exact ⟨k n (List.mem_cons_self ..), ri_of h.2 (fun x hx => ⟨h.1 x hx, (k x (List.mem_cons_of_mem _ hx)).2⟩)⟩
theorem ri_len {xs : List Int} (h : riB (-1) xs = true) : xs.length ≤ 31 := by
  have hm := ri_mem h
  have hp := ri_pair h
  have : ∀ (n : Nat) (l : Int) (xs : List Int), xs.Pairwise (· < ·) → (∀ x ∈ xs, l < x ∧ x ≤ 30) → (30 - l).toNat = n → xs.length ≤ n := by
    intro n
    induction n with
    | zero => intro l xs _ k e; cases xs with
      | nil => simp
      | cons x t => have := k x (List.mem_cons_self ..); omega
    | succ n ih => intro l xs p k e; cases xs with
      | nil => simp
      | cons x t =>
        rw [List.pairwise_cons] at p
        have hx := k x (List.mem_cons_self ..)
        have := ih (l + 1) t p.2 (fun y hy => ⟨by have := p.1 y hy; omega, (k y (List.mem_cons_of_mem _ hy)).2⟩) (by omega)
        rw [List.length_cons]; omega
  exact this 31 (-1) xs hp (fun x hx => hm x hx) (by decide)
theorem ri_step {l x : Int} {xs : List Int} {j : Nat} (hj : j < xs.length) (hx : xs[j] = x) : riB l (xs.drop j) = ((decide (l < x) && decide (x ≤ 30)) && riB x (xs.drop (j + 1))) := by
  rw [List.drop_eq_getElem_cons hj, hx]; rfl
theorem ri_end {l : Int} {xs : List Int} : riB l (xs.drop xs.length) = true := by rw [List.drop_length]; rfl
theorem btw_split {n a b : Int} : btw n a b = (decide (a ≤ n) && decide (n ≤ b)) := rfl
theorem wf_small {x : Int} (h : -1 < x ∧ x ≤ 30) : (Lit.int .i64 x).wf = true := by simp [Lit.wf, IntKind.min, IntKind.max, IntKind.signed, IntKind.bits]; omega
end Go.Proofs.Ytjbbhegijlnndaa.Nd
