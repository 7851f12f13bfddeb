/- Chapter 18 as plain data: what fits, what is less. -/
import Derived.Test.YtbpodcfbijhboaaNx1
import Derived.Test.YtbpodcfbijhboaaNx2
import Derived.Sort.Walk0
set_option linter.unusedVariables false
set_option maxRecDepth 100000
namespace Go.Proofs.Ytbpodcfbijhboaa.Nd
open Go Go.RowKit Go.Joins Own Draw

def SmT (x : TT) : Prop := x.1.2.2.length ≤ 1048576 ∧ (∀ y ∈ x.1.2.2, y.size ≤ maxLen) ∧ x.2.size ≤ maxLen
theorem t_parts {p : TT} (h : totT p ≤ 1048576) : SmT p := by
  have h1 : p.1.2.2.length + (p.1.2.2.map ByteArray.size).sum + p.2.size ≤ 1048576 := h
  refine ⟨by omega, fun y hy => ?_, ?_⟩
  · have hm : y.size ≤ (p.1.2.2.map ByteArray.size).sum := le_sum_of_mem (List.mem_map_of_mem hy)
    unfold maxLen; omega
  · unfold maxLen; omega
theorem t_eq (q : TT) : totT q = (stT q).1.length + ((stT q).1.map ByteArray.size).sum + (stT q).2.size := rfl
theorem t_same {q r : TT} (h : stT q = stT r) : totT q = totT r := by rw [t_eq, t_eq, h]
abbrev star : ByteArray := ⟨#[42]⟩
def fitB (p q : ByteArray) : Bool := decide (p = star) || decide (p = q)
def fitL (ps qs : List ByteArray) : Bool := decide (ps.length = qs.length) && (ps.zip qs).all (fun x => fitB x.1 x.2)
def fitsN (p q : PT) : Bool := okN p && (okN q && (fitL p.1 q.1 && (decide (p.2 = ByteArray.empty) || fitB p.2 q.2)))
theorem zip_of {ps qs : List ByteArray} (h : ∀ j (h1 : j < ps.length) (h2 : j < qs.length), fitB ps[j] qs[j] = true) : (ps.zip qs).all (fun x => fitB x.1 x.2) = true := by
  rw [List.all_eq_true]
  intro x hx
  obtain ⟨j, hj, rfl⟩ := List.mem_iff_getElem.1 hx
  rw [List.length_zip] at hj
  rw [List.getElem_zip]
  exact h j (by omega) (by omega)
theorem zip_not {ps qs : List ByteArray} {j : Nat} (h1 : j < ps.length) (h2 : j < qs.length) (h : fitB ps[j] qs[j] = false) : (ps.zip qs).all (fun x => fitB x.1 x.2) = false := by
  rw [List.all_eq_false]
  have hz : j < (ps.zip qs).length := by rw [List.length_zip]; omega
  exact ⟨(ps.zip qs)[j], List.getElem_mem hz, by rw [List.getElem_zip]; show ¬ fitB ps[j] qs[j] = true; rw [h]; decide⟩
theorem list_ne {x y : ByteArray} (h : ¬ x = y) : (x.toList == y.toList) = false := by
  rw [Bool.eq_false_iff]
  intro hh
  have h2 := eq_of_beq hh
  rw [ByteArray.toList_eq, ByteArray.toList_eq] at h2
  refine h ?_
  cases x
  cases y
  congr 1
  exact Array.toList_inj.1 h2
theorem list_eq {x y : ByteArray} (h : x = y) : (x.toList == y.toList) = true := by subst h; exact beq_self_eq_true _
theorem list_star {x : ByteArray} (h : ¬ x = star) : (x.toList == [42]) = false := by
  have := list_ne h
  rw [show star.toList = [42] from by decide +kernel] at this
  exact this
abbrev blS (x y : ByteArray) : Bool := Op.bytesLess x.toList y.toList
theorem bl_irr (x : ByteArray) : blS x x = false := by unfold blS; rw [bytesLess_eq]; exact decide_eq_false (List.lt_irrefl _)
theorem bl_asym {x y : ByteArray} (h : blS x y = true) : blS y x = false := by
  unfold blS at *
  rw [bytesLess_eq] at *
  have := of_decide_eq_true h
  exact decide_eq_false (fun c => List.lt_asymm this c)
theorem bl_tri {x y : ByteArray} (h1 : blS x y = false) (h2 : blS y x = false) : x = y := by
  unfold blS at *
  rw [bytesLess_eq] at *
  have a := of_decide_eq_false h1
  have b := of_decide_eq_false h2
  have hl : x.toList = y.toList := List.le_antisymm (List.not_lt.1 b) (List.not_lt.1 a)
  rw [ByteArray.toList_eq, ByteArray.toList_eq] at hl
  cases x
  cases y
  congr 1
  exact Array.toList_inj.1 hl
def lsL : List ByteArray → List ByteArray → Bool
  | [], [] => false
  | [], _ :: _ => true
  | _ :: _, [] => false
  | x :: xs, y :: ys => if x = y then lsL xs ys else blS x y
def lessN (p q : PT) : Bool := if p.2 = q.2 then lsL p.1 q.1 else blS p.2 q.2
theorem lsL_end {xs ys : List ByteArray} (h : xs = [] ∨ ys = []) : lsL xs ys = decide (xs.length < ys.length) := by
  cases xs with
  | nil => cases ys with
    | nil => rfl
    | cons y ys => simp [lsL]
  | cons x xs => cases ys with
    | nil => simp [lsL]
    | cons y ys => rcases h with h | h <;> cases h
theorem lsL_eq {xs ys : List ByteArray} {j : Nat} (h1 : j < xs.length) (h2 : j < ys.length) (h : xs[j] = ys[j]) : lsL (xs.drop j) (ys.drop j) = lsL (xs.drop (j + 1)) (ys.drop (j + 1)) := by
  rw [List.drop_eq_getElem_cons h1, List.drop_eq_getElem_cons h2]
  show (if xs[j] = ys[j] then _ else _) = _
  rw [if_pos h]
theorem lsL_ne {xs ys : List ByteArray} {j : Nat} (h1 : j < xs.length) (h2 : j < ys.length) (h : ¬ xs[j] = ys[j]) : lsL (xs.drop j) (ys.drop j) = blS xs[j] ys[j] := by
  rw [List.drop_eq_getElem_cons h1, List.drop_eq_getElem_cons h2]
  show (if xs[j] = ys[j] then _ else _) = _
  rw [if_neg h]
theorem lsL_done {xs ys : List ByteArray} {j : Nat} (h : xs.length ≤ j ∨ ys.length ≤ j) (hx : j ≤ xs.length) (hy : j ≤ ys.length) : lsL (xs.drop j) (ys.drop j) = decide (xs.length < ys.length) := by
  rw [lsL_end (by rcases h with h | h; · exact Or.inl (List.drop_of_length_le h)
                  · exact Or.inr (List.drop_of_length_le h)), List.length_drop, List.length_drop]
  exact decide_eq_decide.2 (by omega)
theorem bel_dn {B : Nat} {w w' : World} (h : Below B w w') (n : Nat) : Below B w (w'.drewN n) := ⟨h.os, h.tape, h.output, h.size, h.block⟩
end Go.Proofs.Ytbpodcfbijhboaa.Nd
