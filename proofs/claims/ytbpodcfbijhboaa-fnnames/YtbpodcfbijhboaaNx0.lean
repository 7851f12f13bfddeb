/- Chapter 18 as plain data: what is right. -/
import Derived.Test.YtbpodcfbijhboaaNd0
set_option linter.unusedVariables false
set_option maxRecDepth 100000
namespace Go.Proofs.Ytbpodcfbijhboaa.Nd
open Go Go.RowKit Go.Joins Own Draw

def inB (b : UInt8) : Bool := decide (33 ≤ b.toNat) && decide (b.toNat ≤ 126)
def allB (s : ByteArray) : Bool := s.data.toList.all inB
def pcB (n : Int) (s : ByteArray) : Bool := decide (n ≤ (s.size : Int)) && (decide (s.size ≤ 20) && allB s)
def okN (p : PT) : Bool := (decide (1 ≤ p.1.length) && decide (p.1.length ≤ 4)) && (p.1.all (pcB 1) && pcB 0 p.2)
theorem allB_of {s : ByteArray} (h : ∀ j (hj : j < s.size), inB s[j] = true) : allB s = true := by
  unfold allB
  rw [List.all_eq_true]
  intro x hx
  obtain ⟨j, hj, rfl⟩ := List.mem_iff_getElem.1 hx
  exact h j (by simpa using hj)
theorem allB_not {s : ByteArray} {j : Nat} (hj : j < s.size) (h : inB s[j] = false) : allB s = false := by
  unfold allB
  rw [List.all_eq_false]
  exact ⟨s[j], List.mem_iff_getElem.2 ⟨j, by simpa using hj, rfl⟩, by rw [h]; decide⟩
theorem inB_yes {b : UInt8} (h1 : 33 ≤ b.toNat) (h2 : b.toNat ≤ 126) : inB b = true := by unfold inB; rw [decide_eq_true h1, decide_eq_true h2]; rfl
theorem inB_low {b : UInt8} (h : ¬ 33 ≤ b.toNat) : inB b = false := by unfold inB; rw [decide_eq_false h]; rfl
theorem inB_high {b : UInt8} (h : ¬ b.toNat ≤ 126) : inB b = false := by unfold inB; rw [decide_eq_false h, Bool.and_false]
end Go.Proofs.Ytbpodcfbijhboaa.Nd
