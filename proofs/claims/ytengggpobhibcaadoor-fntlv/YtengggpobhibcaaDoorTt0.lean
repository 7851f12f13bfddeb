/- A message as a tree: the model. -/
import Derived.Test.YtengggpobhibcaaDoorTs1
set_option linter.unusedVariables false
set_option maxRecDepth 100000
namespace Go.Proofs.YtengggpobhibcaaDoor.Nd
open Go Go.RowKit Go.Joins Own Draw Var

/-- How often each number stands among the Kids. -/
def cnT (L : List TT) (v : Nat) : Nat := (L.map (fun x => x.2.2.2.2.2.count (v : Int))).sum
def tgOk (n : Int) : Bool := decide (1 ≤ n) && decide (n ≤ 100)
def hdOk (x : TT) : Prop := tgOk x.1 = true ∧ ¬ (x.2.1 = true ∧ 0 < x.2.2.2.2.2.length) ∧ ¬ (x.2.1 = false ∧ ¬ x.2.2.1 = ⟨#[]⟩)
def NdK (i : Nat) (x : TT) : Prop := hdOk x ∧ ∀ k ∈ x.2.2.2.2.2, 0 ≤ k ∧ k < (i : Int)
def TreeP (L : List TT) : Prop := (1 ≤ L.length ∧ L.length ≤ 60) ∧ (∀ i (h : i < L.length), NdK i L[i]) ∧ ∀ i, i + 1 < L.length → cnT L i = 1
def cnV (n : Nat) (L : List TT) (ks : List Int) : List Int := (List.range n).map (fun v => ((cnT L v + ks.count (v : Int) : Nat) : Int))
theorem cnV_len (n : Nat) (L : List TT) (ks : List Int) : (cnV n L ks).length = n := by unfold cnV; simp
theorem cnV_put (n : Nat) (L : List TT) (ks : List Int) (v : Nat) (hv : v < n) : (cnV n L ks).set v (((cnT L v + ks.count (v : Int) : Nat) : Int) + 1) = cnV n L (ks ++ [(v : Int)]) := by
  refine List.ext_getElem (by simp [cnV]) (fun i h1 h2 => ?_)
  simp only [List.getElem_set, cnV, List.getElem_map, List.getElem_range]
  by_cases e : v = i
  · subst e
    rw [if_pos rfl, List.count_append]
    simp
    omega
  · rw [if_neg e, List.count_append]
    have : ([(v : Int)]).count (i : Int) = 0 := by rw [List.count_eq_zero]; simp; omega
    rw [this]
    simp
theorem cnV_next (n : Nat) (L : List TT) (x : TT) : cnV n L x.2.2.2.2.2 = cnV n (L ++ [x]) [] := by
  unfold cnV cnT
  simp
theorem cnV_get (n : Nat) (L : List TT) (ks : List Int) (v : Nat) (hv : v < n) : (cnV n L ks)[v]? = some (((cnT L v + ks.count (v : Int) : Nat) : Int)) := by
  unfold cnV
  rw [List.getElem?_map, List.getElem?_range hv]
  rfl
theorem cn_le (L : List TT) (v m : Nat) (h : ∀ x ∈ L, x.2.2.2.2.2.length ≤ m) : cnT L v ≤ L.length * m := by
  unfold cnT
  induction L with
  | nil => simp
  | cons x L ih =>
    have h1 := h x (List.mem_cons_self ..)
    have h2 := ih (fun y hy => h y (List.mem_cons_of_mem _ hy))
    have h3 := List.count_le_length (a := (v : Int)) (l := x.2.2.2.2.2)
    rw [List.map_cons, List.sum_cons, List.length_cons, Nat.succ_mul]
    omega
end Go.Proofs.YtengggpobhibcaaDoor.Nd
