/- Rests as texts: ReadRest, of the program and of the model, and its law. -/
import Derived.Test.YtcaieniddnhkbaaWalks
import Derived.Test.YtcaieniddnhkbaaB3
import Derived.Test.YtcaieniddnhkbaaReadNums
set_option linter.unusedVariables false
namespace Go.Proofs.Ytcaieniddnhkbaa
open Go.RowKit Own Var Term

/-- What a text is read as. -/
def rdA (L : List Int) : Int := if L.length = 3 ∧ rOk (L.getD 0 0) (L.getD 1 0) (L.getD 2 0) = true then L.getD 0 0 else 0
def rdB (L : List Int) : Int := if L.length = 3 ∧ rOk (L.getD 0 0) (L.getD 1 0) (L.getD 2 0) = true then L.getD 1 0 else 0
def rdC (L : List Int) : Int := if L.length = 3 ∧ rOk (L.getD 0 0) (L.getD 1 0) (L.getD 2 0) = true then L.getD 2 0 else 0
def rdK (L : List Int) : Bool := decide (L.length = 3) && rOk (L.getD 0 0) (L.getD 1 0) (L.getD 2 0)
theorem rd_no {L : List Int} (h : rdK L = false) : rdA L = 0 ∧ rdB L = 0 ∧ rdC L = 0 := by
  have : ¬ (L.length = 3 ∧ rOk (L.getD 0 0) (L.getD 1 0) (L.getD 2 0) = true) := by
    intro k
    unfold rdK at h
    rw [k.2] at h
    simp [k.1] at h
  unfold rdA rdB rdC
  rw [if_neg this, if_neg this, if_neg this]
  exact ⟨rfl, rfl, rfl⟩
theorem nums_len (s : ByteArray) (h : (numsR s).2 = false) : (numsR s).1 = [] := by
  unfold numsR numsP at h ⊢
  split at h
  · cases h
  · rename_i k; rw [if_neg k]
theorem res_3b {fn : Func} {p x : Tmp} (hres : fn.results = #[.cell p 31, .tmp x]) (tmps : Array Value) (w : World) (g : Nat) (v0 v1 v2 u0 : Value) (hp : tmps.getD p undef = .pointer (some ⟨g, 0, none⟩)) (hx : tmps.getD x undef = u0) (h0 : w.cell? ⟨g, 0, none⟩ = some v0) (h1 : w.cell? ⟨g, 1, none⟩ = some v1) (h2 : w.cell? ⟨g, 2, none⟩ = some v2) :
    (results fn tmps).run Try.prog w = .ok (.tuple #[.agg #[v0, v1, v2], u0]) w := by
  have hp' : tmps[p]?.getD undef = .pointer (some ⟨g, 0, none⟩) := by simpa using hp
  have hx' : tmps[x]?.getD undef = u0 := by simpa using hx
  simp [results, hres, hp', hx', asAddr, go_sem, h0, h1, h2, loadVar, Try.isAgg31, Try.sizeOf31]
end Go.Proofs.Ytcaieniddnhkbaa
