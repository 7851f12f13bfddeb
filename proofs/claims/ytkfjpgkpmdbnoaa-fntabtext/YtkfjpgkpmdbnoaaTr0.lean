/- Tables read from texts: plain. -/
import Derived.Test.YtkfjpgkpmdbnoaaTx0
import Derived.Test.YtkfjpgkpmdbnoaaTs0
set_option linter.unusedVariables false
set_option maxRecDepth 100000
namespace Go.Proofs.Ytkfjpgkpmdbnoaa
open Go Go.RowKit Go.Joins Own Draw Go.Proofs.Ytkfjpgkpmdbnoaa.Var

def thr (v : List Int) (i : Nat) : Int := v.getD i 0
theorem thr_get {v : List Int} {i : Nat} (h : i < v.length) : thr v i = v[i] := by unfold thr; rw [List.getD_eq_getElem?_getD, List.getElem?_eq_getElem h]; rfl
/-- One slot more. -/
def stV (s : ByteArray) (x : List TS × Nat) : Option (List TS × Nat) := match itV s x.2 3 with
  | none => none
  | some (v, p) => some (x.1 ++ [(thr v 0, thr v 1, thr v 2)], p)
def rdI (s : ByteArray) (a : Nat) : Nat → Option (List TS × Nat)
  | 0 => some ([], a)
  | i + 1 => match rdI s a i with
    | none => none
    | some x => stV s x
/-- What is read as a table. -/
def rdT (s : ByteArray) : List TS × Bool := match itV s 0 1 with
  | none => ([], false)
  | some (v, a) => if 20 < thr v 0 then ([], false) else match rdI s a (thr v 0).toNat with
    | none => ([], false)
    | some x => if shT x.1 = s then (x.1, true) else ([], false)
theorem rdI_none {s : ByteArray} {a : Nat} : ∀ {i n : Nat}, i ≤ n → rdI s a i = none → rdI s a n = none
  | i, 0, h, e => by obtain rfl : i = 0 := by omega
                     exact e
  | i, n + 1, h, e => by
    by_cases hin : i = n + 1
    · subst hin; exact e
    · have := rdI_none (i := i) (n := n) (by omega) e
      unfold rdI
      rw [this]
theorem rdI_le {s : ByteArray} {a : Nat} (ha : a ≤ s.size) : ∀ {i : Nat} {x : List TS × Nat}, rdI s a i = some x → x.2 ≤ s.size ∧ x.1.length = i
  | 0, x, h => by
    have h2 : ([], a) = x := by injection h
    subst h2
    exact ⟨ha, rfl⟩
  | i + 1, x, h => by
    unfold rdI at h
    cases e : rdI s a i with
    | none => rw [e] at h; cases h
    | some q =>
      rw [e] at h
      have h : stV s q = some x := h
      have ih := rdI_le ha e
      unfold stV at h
      cases e3 : itV s q.2 3 with
      | none => rw [e3] at h; cases h
      | some f =>
        obtain ⟨v, p⟩ := f
        rw [e3] at h
        have hv := itV_le ih.1 e3
        have h2 : (q.1 ++ [(thr v 0, thr v 1, thr v 2)], p) = x := by injection h
        subst h2
        exact ⟨hv.1, by simp [ih.2]⟩
theorem same_list9 {x y : ByteArray} (h : ¬ x = y) : (x.toList == y.toList) = false := by
  cases e : (x.toList == y.toList) with
  | false => rfl
  | true =>
    have e2 := eq_of_beq e
    rw [ByteArray.toList_eq, ByteArray.toList_eq] at e2
    exact absurd (ext_list e2) h
/-- A cell of a row of numbers that the call owns. -/
theorem own_cell {B : Nat} {w : World} {a : Option Addr} {c : Nat} {v : List Int} (h : w.ownsRow B 3 1 (.slice a v.length c) v.length (v.map (Value.int .i64))) {i : Nat} (hi : i < v.length) : ∃ g, a = some ⟨g, 0, none⟩ ∧ B ≤ g ∧ g < w.heap.size ∧ w.cell? ⟨g, i, none⟩ = some (.int .i64 (thr v i)) := by
  rcases h.2 with ⟨e, e0⟩ | ⟨g, cap', cur, e, hB, hg, _⟩
  · rw [e0] at hi; omega
  · injection e with e1 e2 e3
    subst e1
    have hl := World.ownsRow.lt h g rfl
    refine ⟨g, rfl, hl.1, hl.2, ?_⟩
    rw [h.cellAt i (by simpa using hi), List.getElem?_map, List.getElem?_eq_getElem hi, thr_get hi]
    rfl
end Go.Proofs.Ytkfjpgkpmdbnoaa
