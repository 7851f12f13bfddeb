/- What is found in a table: plain. -/
import Derived.Test.YtkfjpgkpmdbnoaaTb0
set_option linter.unusedVariables false
set_option maxRecDepth 100000
namespace Go.Proofs.Ytkfjpgkpmdbnoaa
open Go Go.RowKit Go.Joins Own Draw

/-- What is found: the key of a holder and a version. -/
def fiG (xs : List TS) (who ver : Int) : Int × Bool := match xs.find? (fun p => decide (p.1 = who ∧ p.2.1 = ver)) with | some p => (p.2.2, true) | none => (0, false)
def fiT (xs : List TS) (who ver : Int) : Int × Bool := if tabB xs then fiG xs who ver else (0, false)
theorem fiT_bad {xs : List TS} {who ver : Int} (h : tabB xs = false) : fiT xs who ver = (0, false) := by unfold fiT; rw [h]; rfl
theorem fiG_at {xs : List TS} {who ver : Int} {k : Nat} (h : k < xs.length) (he : xs[k].1 = who ∧ xs[k].2.1 = ver) (hno : ∀ j (hj : j < xs.length), j < k → ¬ (xs[j].1 = who ∧ xs[j].2.1 = ver)) : fiG xs who ver = (xs[k].2.2, true) := by
  have e : xs.find? (fun p => decide (p.1 = who ∧ p.2.1 = ver)) = some xs[k] := by
    rw [List.find?_eq_some_iff_getElem]
    exact ⟨by simpa using he, k, h, rfl, fun j hj => by rw [decide_eq_false (hno j (by omega) hj)]; rfl⟩
  unfold fiG
  rw [e]
theorem fiG_none {xs : List TS} {who ver : Int} (hno : ∀ j (hj : j < xs.length), ¬ (xs[j].1 = who ∧ xs[j].2.1 = ver)) : fiG xs who ver = (0, false) := by
  have e : xs.find? (fun p => decide (p.1 = who ∧ p.2.1 = ver)) = none := by
    rw [List.find?_eq_none]
    intro p hp
    obtain ⟨j, hj, rfl⟩ := List.mem_iff_getElem.1 hp
    rw [decide_eq_false (hno j hj)]; decide
  unfold fiG
  rw [e]
theorem fiT_ok {xs : List TS} {who ver : Int} (h : tabB xs = true) : fiT xs who ver = fiG xs who ver := by unfold fiT; rw [h]; rfl
theorem fiT_empty {xs : List TS} {who ver : Int} (h : xs.length = 0) : fiT xs who ver = (0, false) := by
  obtain rfl : xs = [] := List.length_eq_zero_iff.1 h
  unfold fiT
  split <;> rfl
/-- The last one of a holder. -/
def noS (who : Int) (s : TS × Bool) (p : TS) : TS × Bool := if p.1 = who then (p, true) else s
def noG (xs : List TS) (who : Int) : TS × Bool := xs.foldl (noS who) ((0, 0, 0), false)
def noT (xs : List TS) (who : Int) : TS × Bool := if tabB xs then noG xs who else ((0, 0, 0), false)
theorem noG_zero (xs : List TS) (who : Int) : noG (xs.take 0) who = ((0, 0, 0), false) := rfl
theorem noG_at {xs : List TS} {who : Int} {k : Nat} (h : k < xs.length) : noG (xs.take (k + 1)) who = noS who (noG (xs.take k) who) xs[k] := by
  unfold noG
  rw [List.take_succ_eq_append_getElem h, List.foldl_append]
  rfl
theorem noT_bad {xs : List TS} {who : Int} (h : tabB xs = false) : noT xs who = ((0, 0, 0), false) := by unfold noT; rw [h]; rfl
theorem noT_ok {xs : List TS} {who : Int} (h : tabB xs = true) : noT xs who = noG (xs.take xs.length) who := by unfold noT; rw [h, List.take_length]; rfl
theorem noT_empty {xs : List TS} {who : Int} (h : xs.length = 0) : noT xs who = ((0, 0, 0), false) := by
  obtain rfl : xs = [] := List.length_eq_zero_iff.1 h
  unfold noT
  split <;> rfl
/-- The last version of a holder. -/
def laS (who : Int) (n : Int) (p : TS) : Int := if p.1 = who then p.2.1 else n
def laG (xs : List TS) (who : Int) : Int := xs.foldl (laS who) 0
theorem laG_at {xs : List TS} {who : Int} {k : Nat} (h : k < xs.length) : laG (xs.take (k + 1)) who = laS who (laG (xs.take k) who) xs[k] := by
  unfold laG
  rw [List.take_succ_eq_append_getElem h, List.foldl_append]
  rfl
end Go.Proofs.Ytkfjpgkpmdbnoaa
