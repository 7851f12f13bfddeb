/- Marks on rows of any length, and on both rows of what is known. -/
import Derived.Test.YtkekfogepdhjhaaGreatKnow4
set_option linter.unusedVariables false
namespace Go.Proofs.YtkekfogepdhjhaaGreat
open Go.RowKit Own Var Term

/-- The marks of a row of numbers, from K on. -/
def miK (K n : Nat) : List Int := (List.range n).map fun (i : Nat) => ((K : Int) + (i : Int) + 1)
def rowK (K : Nat) (vs : List Value) (k : Nat) : List Value := intV (miK K k) ++ vs.drop k
theorem miK_len (K n : Nat) : (miK K n).length = n := by simp [miK]
theorem rowK_zero (K : Nat) (vs : List Value) : rowK K vs 0 = vs := by simp [rowK, miK, intV]
theorem rowK_full (K : Nat) (vs : List Value) : rowK K vs vs.length = intV (miK K vs.length) := by simp [rowK]
theorem rowK_len (K : Nat) (vs : List Value) (k : Nat) (h : k ≤ vs.length) : (rowK K vs k).length = vs.length := by
  unfold rowK intV; rw [List.length_append, List.length_map, miK_len, List.length_drop]; omega
theorem rowK_set (K : Nat) (vs : List Value) (k : Nat) (h : k < vs.length) : (rowK K vs k).set k (.int .i64 ((K : Int) + (k : Int) + 1)) = rowK K vs (k + 1) := by
  unfold rowK intV
  rw [List.set_append_right _ _ (by rw [List.length_map, miK_len]; exact Nat.le_refl _), List.length_map, miK_len, Nat.sub_self, List.drop_eq_getElem_cons h]
  unfold miK
  rw [List.range_succ, List.map_append, List.map_append, List.append_assoc]
  rfl
end Go.Proofs.YtkekfogepdhjhaaGreat

set_option linter.unusedVariables false
namespace Go.Proofs.YtkekfogepdhjhaaGreat
open Go.RowKit Own Var Term

/-- All blocks but two are as they were. -/
def Turn2 (w w' : World) (o1 o2 : Option Nat) : Prop :=
  w'.os = w.os ∧ w'.tape = w.tape ∧ w'.output = w.output ∧ w.heap.size ≤ w'.heap.size ∧ ∀ k, k < w.heap.size → some k ≠ o1 → some k ≠ o2 → w'.heap[k]? = w.heap[k]?
theorem Turn2.below {w w' : World} {o1 o2 : Option Nat} {B : Nat} (h : Turn2 w w' o1 o2) (h1 : ∀ k, o1 = some k → B ≤ k) (h2 : ∀ k, o2 = some k → B ≤ k) (hB : B ≤ w.heap.size) : Below B w w' :=
  ⟨h.1, h.2.1, h.2.2.1, h.2.2.2.1, fun k hk => h.2.2.2.2 k (Nat.lt_of_lt_of_le hk hB) (fun e => by have := h1 k e.symm; omega) (fun e => by have := h2 k e.symm; omega)⟩
theorem Turn2.own {w w' : World} {o1 o2 : Option Nat} {base : Nat} {e : TypeId} {sz n : Nat} {v : Value} {xs : List Value} (h : Turn2 w w' o1 o2) (ho : w.ownsRow base e sz v n xs) (h1 : ∀ k, v.ownBlock = some k → some k ≠ o1 ∧ some k ≠ o2) : w'.ownsRow base e sz v n xs := by
  refine ⟨ho.1, ?_⟩
  rcases ho.2 with h0 | ⟨g, cap, cur, e1, e2, e3, e4⟩
  · exact Or.inl h0
  · subst e1
    have := h1 g rfl
    exact Or.inr ⟨g, cap, cur, rfl, e2, (h.2.2.2.2 g (ho.lt g rfl).2 this.1 this.2).trans e3, e4⟩
theorem Turn2.row {α : Type} {f : α → Value} {w w' : World} {o1 o2 : Option Nat} {a : Option Addr} {xs : List α} (h : Turn2 w w' o1 o2) (hr : RowAt f w a xs) (h1 : ∀ p : Addr, a = some p → some p.block ≠ o1 ∧ some p.block ≠ o2) : RowAt f w' a xs := by
  intro j hj
  obtain ⟨b, off, e, hlt, hc⟩ := hr j hj
  have := h1 _ e
  exact ⟨b, off, e, Nat.lt_of_lt_of_le hlt h.2.2.2.1, by rw [World.cell?_of_block (w := w) (a := ⟨b, off + j, none⟩) (h.2.2.2.2 b hlt this.1 this.2)]; exact hc⟩
end Go.Proofs.YtkekfogepdhjhaaGreat
