/- With one more key: the model. -/
import Derived.Test.YtkekfogepdhjhaaGreatKeys
set_option linter.unusedVariables false
namespace Go.Proofs.YtkekfogepdhjhaaGreat
open Go.RowKit Own Var Term

def putK (ks : List Int) (x : Int) : List Int := if (decide (1 ≤ x) && decide (x ≤ 1000000)) = true ∧ hasB ks x = false ∧ ks.length < 40 then putL ks x else ks
/-- What LearnKey answers: its terms, its keys. -/
def lrkT (xs : List ByteArray) (ks : List Int) : List ByteArray := if kOk xs ks = true then xs else []
def lrkK (xs : List ByteArray) (ks : List Int) (x : Int) : List Int := if kOk xs ks = true then putK ks x else []
theorem row_own3' {w : World} {B : Nat} {a : Option Addr} {c : Nat} {xs : List Int} (h : w.ownsRow B 3 1 (.slice a xs.length c) xs.length (intV xs)) : RowAt (Value.int .i64) w a xs := by
  obtain ⟨a', c', e, _, hr⟩ := own_row h
  simp only [Value.slice.injEq] at e
  rw [e.1]; exact hr
theorem fin_two {W : World} {p : Nat} {u0 u1 v0 v1 : Value} (h0 : W.cell? ⟨p, 0, none⟩ = some u0) (h1 : W.cell? ⟨p, 1, none⟩ = some u1) :
    ((W.setCell ⟨p, 0, none⟩ v0).setCell ⟨p, 1, none⟩ v1).cell? ⟨p, 0, none⟩ = some v0 ∧ ((W.setCell ⟨p, 0, none⟩ v0).setCell ⟨p, 1, none⟩ v1).cell? ⟨p, 1, none⟩ = some v1 := by
  refine ⟨?_, ?_⟩
  · rw [World.cell?_setCell_other _ _ _ _ (by simp)]
    exact World.cell?_setCell_same' _ _ _ (by rw [h0]; rfl)
  · exact World.cell?_setCell_same' _ _ _ (by rw [World.cell?_setCell_other _ _ _ _ (by simp), h1]; rfl)
end Go.Proofs.YtkekfogepdhjhaaGreat
