/- What is found in a message along a path, as plain data. -/
import Derived.Test.YtengggpobhibcaaSh6
set_option linter.unusedVariables false
set_option maxRecDepth 100000
namespace Go.Proofs.Ytengggpobhibcaa.Nd
open Go Go.RowKit Go.Joins Own Draw Var

/-- The first of some Kids with a tag. -/
def fkN (L : List PT) (t : Int) (ks : List Int) : Option Int := ks.find? (fun k => (ndN L k.toNat).1 == t)
/-- Where a path leads from a node on. -/
def gpN (L : List PT) : List Int → Nat → Option Nat
  | [], i => some i
  | t :: p, i => match fkN L t (ndN L i).2.2.2 with
    | none => none
    | some k => gpN L p k.toNat
def anO (L : List PT) (o : Option Nat) : ByteArray × Bool := match o with
  | none => (⟨#[]⟩, false)
  | some i => if (ndN L i).2.1 = true then ((ndN L i).2.2.1, true) else (⟨#[]⟩, false)
def fdF (L : List PT) (path : List Int) : ByteArray × Bool := if (shM L).isSome = true then anO L (gpN L path (L.length - 1)) else (⟨#[]⟩, false)
/-- What the model's second loop has found. -/
def nxV (o : Option Int) : Int := match o with
  | none => -1
  | some k => k
theorem fkN_drop (L : List PT) (t : Int) (ks : List Int) (d : Nat) (h : d < ks.length) : fkN L t (ks.drop d) = if (ndN L (ks[d]).toNat).1 == t then some ks[d] else fkN L t (ks.drop (d + 1)) := by
  unfold fkN
  rw [List.drop_eq_getElem_cons h, List.find?_cons]
  cases (ndN L (ks[d]).toNat).1 == t <;> rfl
theorem fkN_mem {L : List PT} {t : Int} {ks : List Int} {k : Int} (h : fkN L t ks = some k) : k ∈ ks := List.mem_of_find?_eq_some h
theorem nd_map {xs : List TT} {i : Nat} (h : i < xs.length) : ndN (xs.map stT) i = stT xs[i] := by
  unfold ndN
  rw [List.getD_eq_getElem?_getD, List.getElem?_map, List.getElem?_eq_getElem h]
  rfl
theorem ok_kids {xs : List TT} (h : (shM (xs.map stT)).isSome = true) : (1 ≤ xs.length ∧ xs.length ≤ 60) ∧ ∀ i (h : i < xs.length), NdK i xs[i] := by
  cases e : shM (xs.map stT) with
  | none => rw [e] at h; cases h
  | some T => exact ⟨(shows_ok e).1.1.1, (shows_ok e).1.1.2.1⟩
theorem kid_lt {xs : List TT} {i : Nat} (hi : i < xs.length) (hK : ∀ i (h : i < xs.length), NdK i xs[i]) {t k : Int} (h : fkN (xs.map stT) t (ndN (xs.map stT) i).2.2.2 = some k) : 0 ≤ k ∧ k < (i : Int) := by
  rw [nd_map hi] at h
  exact (hK i hi).2 k (fkN_mem h)
theorem ended2 {x y : ByteArray × Bool} (h : x = y) : Ending.returned (.tuple #[.string x.1, .bool x.2]) = Ending.returned (.tuple #[.string y.1, .bool y.2]) := by rw [h]
theorem gp_step {L : List PT} {p : List Int} {j i : Nat} (hj : j < p.length) : gpN L (p.drop j) i = match fkN L p[j] (ndN L i).2.2.2 with
    | none => none
    | some k => gpN L (p.drop (j + 1)) k.toNat := by
  rw [List.drop_eq_getElem_cons hj]
  rfl
end Go.Proofs.Ytengggpobhibcaa.Nd
