/- A Rest that comes in. -/
import Derived.Test.YtflajkbbggmdjaaNo1
import Derived.WalkKit
import Derived.ProofKit
import Derived.OpenShut
import Derived.ChangeSlices
import Derived.Deep.SlicePairs
import Derived.Lib.SmallJoins
set_option linter.unusedVariables false
set_option maxRecDepth 100000
namespace Go.Proofs.Ytflajkbbggmdjaa.Nd
open Go Go.RowKit Go.ChangeShapes Go.WideShapes Go.ChangeAt Go.Joins Go.Deep Own Draw

theorem cz35 : Try.prog.cellsOf 35 = 3 := by kernel_rfl
abbrev TQ := Int × Int × Int
abbrev cQ (p : TQ) : List Value := [.int .i64 p.1, .int .i64 p.2.1, .int .i64 p.2.2]
abbrev vQ (p : TQ) : Value := .agg #[.int .i64 p.1, .int .i64 p.2.1, .int .i64 p.2.2]
theorem lQ (p : TQ) : (cQ p).length = 3 := rfl
theorem oneQ (p : TQ) : (cQ p).all (·.oneCell') = true := rfl
abbrev PQ := Int × Int × Int
def OkQ (p : TQ) : Prop := i64 p.1 ∧ i64 p.2.1 ∧ i64 p.2.2
section
variable {H : Type} {enc : TypeId × Value → H} {W : World} {base : Nat} {spare : Nat → Bool} {held : Bool}
theorem open_sQ {n : Nat} {cs : List Value} {y : DataW H × List MemPlace} (hlen : cs.length = 3) (h : DataW.trod enc Try.prog W base spare held n 35 cs = some y) : ∃ p : TQ, cs = cQ p ∧ OkQ p := by
  obtain ⟨zs, k, hk, _, _, hxl, hf⟩ := DataW.trod_struct Try.underlying35 h
  match zs, hxl, cs, hlen with
  | [y0, y1, y2], _, [v0, v1, v2], _ =>
    have g0 := hf 0 _ rfl
    have g1 := hf 1 _ rfl
    have g2 := hf 2 _ rfl
    simp [cz3] at g0 g1 g2
    obtain ⟨x0, e0, _, wf0⟩ := DataW.trod_int Try.underlying3 g0
    simp only [List.cons.injEq, and_true] at e0
    subst e0
    obtain ⟨x1, e1, _, wf1⟩ := DataW.trod_int Try.underlying3 g1
    simp only [List.cons.injEq, and_true] at e1
    subst e1
    obtain ⟨x2, e2, _, wf2⟩ := DataW.trod_int Try.underlying3 g2
    simp only [List.cons.injEq, and_true] at e2
    subst e2
    exact ⟨(x0, x1, x2), rfl, ⟨i64_of wf0, i64_of wf1, i64_of wf2⟩⟩
theorem open_Q {r : Reach} {b0 : Nat} {v : Value} {d : DataW H} {p : List MemPlace} (hv : Value.okWide Try.prog W r b0 35 v) (h : DataW.Trod enc Try.prog W base spare held 35 v d p) :
    ∃ x : TQ, v = vQ x := by
  obtain ⟨cs, rfl, hsz⟩ := okWide_struct Try.underlying35 hv
  obtain ⟨fuel, hf⟩ := h
  have hl : cs.toList.length = 3 := by rw [Array.length_toList]; exact hsz.trans cz35
  obtain ⟨x, e, _⟩ := open_sQ (cs := cs.toList) hl (by simpa [Value.cells] using hf)
  refine ⟨x, ?_⟩
  rw [show cs = (cQ x).toArray by rw [← e]]
end
end Go.Proofs.Ytflajkbbggmdjaa.Nd
