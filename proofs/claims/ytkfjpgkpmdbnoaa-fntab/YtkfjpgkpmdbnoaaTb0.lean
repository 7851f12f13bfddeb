/- Tables of keys that are right: plain. -/
import Derived.Test.YtkfjpgkpmdbnoaaRg0
set_option linter.unusedVariables false
set_option maxRecDepth 100000
namespace Go.Proofs.Ytkfjpgkpmdbnoaa
open Go Go.RowKit Go.Joins Own Draw

theorem inq (x lo hi : Int) (b : Bool) (h : btw x lo hi = b) (w : World) : Calls Try.prog 44 #[.int .i64 x, .int .i64 lo, .int .i64 hi] w fun e w' => e = .returned (.bool b) ∧ w' = w := by
  subst h
  exact (in_is x lo hi w).mono fun e w' h => ⟨h.1, h.2.symm⟩
theorem below_drewN {B : Nat} {a w : World} (h : Below B a w) (n : Nat) : Below B a (w.drewN n) := ⟨h.os, h.tape, h.output, h.size, h.block⟩
theorem Blk.drewN {g : Nat} {vs : List Value} {w : World} (h : Blk g vs w) (n : Nat) : Blk g vs (w.drewN n) := ⟨fun i v e => h.out i v e⟩
def el (xs : List TS) (i : Nat) : TS := xs.getD i (0, 0, 0)
theorem el_at {xs : List TS} {i : Nat} (h : i < xs.length) : el xs i = xs[i] := by unfold el; rw [List.getD_eq_getElem?_getD, List.getElem?_eq_getElem h]; rfl
/-- A slot by itself. -/
def slA (p : TS) : Bool := btw p.1 0 99 && (btw p.2.1 1 1000 && btw p.2.2 1 1000000)
/-- One slot behind another one. -/
def slB (q p : TS) : Bool := !(decide (p.1 < q.1) || ((q.1 == p.1) && decide (p.2.1 ≤ q.2.1)))
def slD (xs : List TS) (i : Nat) : Bool := slA (el xs i) && ((i == 0) || slB (el xs (i - 1)) (el xs i))
def slC (xs : List TS) (i : Nat) : Bool := slD xs i && (List.range i).all fun j => !((el xs j).2.2 == (el xs i).2.2)
def tabB (xs : List TS) : Bool := decide (xs.length ≤ 20) && (List.range xs.length).all fun i => slC xs i
theorem tabB_many {xs : List TS} (h : ¬ xs.length ≤ 20) : tabB xs = false := by unfold tabB; rw [decide_eq_false h]; rfl
theorem tabB_not {xs : List TS} {k : Nat} (hk : k < xs.length) (h : slC xs k = false) : tabB xs = false := by
  unfold tabB
  have : ((List.range xs.length).all fun i => slC xs i) = false := List.all_eq_false.2 ⟨k, List.mem_range.2 hk, by rw [h]; simp⟩
  rw [this, Bool.and_false]
theorem tabB_yes {xs : List TS} (h20 : xs.length ≤ 20) (h : ∀ i, i < xs.length → slC xs i = true) : tabB xs = true := by
  unfold tabB
  rw [decide_eq_true h20, Bool.true_and]
  exact List.all_eq_true.2 fun i hi => h i (List.mem_range.1 hi)
theorem slC_d {xs : List TS} {k : Nat} (h : slD xs k = false) : slC xs k = false := by unfold slC; rw [h]; rfl
theorem slC_k {xs : List TS} {k j : Nat} (hj : j < k) (h : (el xs j).2.2 = (el xs k).2.2) : slC xs k = false := by
  unfold slC
  have : ((List.range k).all fun j => !((el xs j).2.2 == (el xs k).2.2)) = false := List.all_eq_false.2 ⟨j, List.mem_range.2 hj, by rw [h]; simp⟩
  rw [this]
  simp
theorem slC_yes {xs : List TS} {k : Nat} (ha : slD xs k = true) (hk : ∀ j, j < k → ¬ (el xs j).2.2 = (el xs k).2.2) : slC xs k = true := by
  unfold slC
  have h1 : ((List.range k).all fun j => !((el xs j).2.2 == (el xs k).2.2)) = true := List.all_eq_true.2 fun j hj => by simpa using hk j (List.mem_range.1 hj)
  rw [ha, h1]
  rfl
theorem slD_a {xs : List TS} {k : Nat} (h : slA (el xs k) = false) : slD xs k = false := by unfold slD; rw [h]; rfl
theorem slD_z {xs : List TS} {k : Nat} (h : slA (el xs k) = true) (hz : k = 0) : slD xs k = true := by unfold slD; rw [h, hz]; rfl
theorem slD_s {xs : List TS} {k p : Nat} (h : slA (el xs k) = true) (hz : k = p + 1) : slD xs k = slB (el xs p) (el xs k) := by
  unfold slD
  rw [h, hz, show (p + 1 - 1) = p from rfl, show ((p + 1 == 0) : Bool) = false from rfl]
  simp
end Go.Proofs.Ytkfjpgkpmdbnoaa
