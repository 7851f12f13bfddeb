/- Results that lie in blocks. -/
import Derived.Test.YtcaieniddnhkbaaTick4
set_option linter.unusedVariables false
namespace Go.Proofs.Ytcaieniddnhkbaa
open Go Go.RowKit Own Var Term

theorem res_a {fn : Func} {p : Tmp} (hres : fn.results = #[.cell p 29]) (tmps : Array Value) (w : World) (g : Nat) (v0 v1 v2 : Value) (hp : tmps.getD p undef = .pointer (some ⟨g, 0, none⟩)) (h0 : w.cell? ⟨g, 0, none⟩ = some v0) (h1 : w.cell? ⟨g, 1, none⟩ = some v1) (h2 : w.cell? ⟨g, 2, none⟩ = some v2) :
    (results fn tmps).run Try.prog w = .ok (.agg #[v0, v1, v2]) w := by
  have hp' : tmps[p]?.getD undef = .pointer (some ⟨g, 0, none⟩) := by simpa using hp
  simp [results, hres, hp', asAddr, go_sem, h0, h1, h2, loadVar, Try.isAgg29, Try.sizeOf29]
theorem res_ab {fn : Func} {p : Tmp} {x : Tmp} (hres : fn.results = #[.cell p 29, .tmp x]) (tmps : Array Value) (w : World) (g : Nat) (v0 v1 v2 : Value) (u0 : Value) (hx : tmps.getD x undef = u0) (hp : tmps.getD p undef = .pointer (some ⟨g, 0, none⟩)) (h0 : w.cell? ⟨g, 0, none⟩ = some v0) (h1 : w.cell? ⟨g, 1, none⟩ = some v1) (h2 : w.cell? ⟨g, 2, none⟩ = some v2) :
    (results fn tmps).run Try.prog w = .ok (.tuple #[.agg #[v0, v1, v2], u0]) w := by
  have hp' : tmps[p]?.getD undef = .pointer (some ⟨g, 0, none⟩) := by simpa using hp
  have hx' : tmps[x]?.getD undef = u0 := by simpa using hx
  simp [results, hres, hp', hx', asAddr, go_sem, h0, h1, h2, loadVar, Try.isAgg29, Try.sizeOf29]
end Go.Proofs.Ytcaieniddnhkbaa
