/- Creds that come in: their cells. -/
import Derived.Test.YtbbaddcldoflfaaTick1
import Derived.WalkKit
import Derived.ProofKit
import Derived.OpenShut
import Derived.Lib.SmallJoins
set_option linter.unusedVariables false
namespace Go.Proofs.Ytbbaddcldoflfaa
open Go Go.RowKit Go.ChangeShapes Go.WideShapes Go.ChangeAt Go.Joins

theorem array8 {α : Type} {cs : Array α} (h : cs.size = 8) : ∃ c0 c1 c2 c3 c4 c5 c6 c7, cs = #[c0, c1, c2, c3, c4, c5, c6, c7] := by
  obtain ⟨l⟩ := cs
  match l, h with
  | [c0, c1, c2, c3, c4, c5, c6, c7], _ => exact ⟨c0, c1, c2, c3, c4, c5, c6, c7, rfl⟩
theorem cells25 : Try.prog.cellsOf 25 = 8 := by kernel_rfl
theorem cells23 : Try.prog.cellsOf 23 = 3 := by kernel_rfl
theorem cells3 : Try.prog.cellsOf 3 = 1 := by kernel_rfl
theorem cells9 : Try.prog.cellsOf 9 = 1 := by kernel_rfl
theorem wf64 {n : Int} (h : (Lit.int .i64 n).wf = true) : i64 n := by
  unfold i64
  have h2 : IntKind.i64.min ≤ n ∧ n ≤ IntKind.i64.max := by simpa [Lit.wf] using h
  exact h2
section
variable {H : Type} {enc : TypeId × Value → H} {P : Program} {w : World} {base : Nat} {spare : Nat → Bool} {held : Bool}
theorem trod_struct6 {t : TypeId} {f0 f1 f2 f3 f4 f5 : Field} {fuel : Nat} {cs : List Value} {x : DataW H × List MemPlace} (ht : P.underlying t = some (.struct #[f0, f1, f2, f3, f4, f5])) (h : DataW.trod enc P w base spare held fuel t cs = some x) :
    ∃ y0 y1 y2 y3 y4 y5 n, DataW.trod enc P w base spare held n f0.type ((cs.drop f0.offset).take (P.cellsOf f0.type)) = some y0 ∧ DataW.trod enc P w base spare held n f1.type ((cs.drop f1.offset).take (P.cellsOf f1.type)) = some y1 ∧ DataW.trod enc P w base spare held n f2.type ((cs.drop f2.offset).take (P.cellsOf f2.type)) = some y2 ∧ DataW.trod enc P w base spare held n f3.type ((cs.drop f3.offset).take (P.cellsOf f3.type)) = some y3 ∧ DataW.trod enc P w base spare held n f4.type ((cs.drop f4.offset).take (P.cellsOf f4.type)) = some y4 ∧ DataW.trod enc P w base spare held n f5.type ((cs.drop f5.offset).take (P.cellsOf f5.type)) = some y5 := by
  obtain ⟨xs, n, _, rfl, hl, hlen, hf⟩ := DataW.trod_struct ht h
  match xs, hlen with
  | [y0, y1, y2, y3, y4, y5], _ => exact ⟨y0, y1, y2, y3, y4, y5, n, by simpa using hf 0 f0 rfl, by simpa using hf 1 f1 rfl, by simpa using hf 2 f2 rfl, by simpa using hf 3 f3 rfl, by simpa using hf 4 f4 rfl, by simpa using hf 5 f5 rfl⟩
end
section
variable {H : Type} {enc : TypeId × Value → H} {W : World} {base : Nat} {spare : Nat → Bool} {held : Bool}
set_option maxRecDepth 100000 in
theorem open_cred {r : Reach} {b0 : Nat} {v : Value} {d : DataW H} {p : List MemPlace} (hv : Value.okWide Try.prog W r b0 25 v) (h : DataW.Trod enc Try.prog W base spare held 25 v d p) :
    ∃ (o cl sv k a b e : Int) (tk : ByteArray), v = .agg #[.int .i64 o, .int .i64 cl, .int .i64 sv, .int .i64 k, .int .i64 a, .int .i64 b, .int .i64 e, .string tk] ∧ i64 sv ∧ tk.size ≤ maxLen := by
  obtain ⟨cs, rfl, hsz⟩ := okWide_struct Try.underlying25 hv
  obtain ⟨c0, c1, c2, c3, c4, c5, c6, c7, rfl⟩ := array8 (hsz.trans cells25)
  obtain ⟨fuel, hf⟩ := h
  obtain ⟨y0, y1, y2, y3, y4, y5, n, h0, h1, h2, h3, h4, h5⟩ := trod_struct6 Try.underlying25 hf
  obtain ⟨z0, z1, z2, m, _, _, g0, g1, g2⟩ := Go.Deep.trod_struct3 Try.underlying23 h4
  simp only [cells3, cells23, cells9, Value.cells] at h0 h1 h2 h3 g0 g1 g2 h5
  have k0 : DataW.trod enc Try.prog W base spare held n 3 [c0] = some y0 := h0
  have k1 : DataW.trod enc Try.prog W base spare held n 3 [c1] = some y1 := h1
  have k2 : DataW.trod enc Try.prog W base spare held n 3 [c2] = some y2 := h2
  have k3 : DataW.trod enc Try.prog W base spare held n 3 [c3] = some y3 := h3
  have k4 : DataW.trod enc Try.prog W base spare held m 3 [c4] = some z0 := g0
  have k5 : DataW.trod enc Try.prog W base spare held m 3 [c5] = some z1 := g1
  have k6 : DataW.trod enc Try.prog W base spare held m 3 [c6] = some z2 := g2
  have k7 : DataW.trod enc Try.prog W base spare held n 9 [c7] = some y5 := h5
  obtain ⟨x0, e0, _, w0⟩ := DataW.trod_int Try.underlying3 k0
  obtain ⟨x1, e1, _, w1⟩ := DataW.trod_int Try.underlying3 k1
  obtain ⟨x2, e2, _, w2⟩ := DataW.trod_int Try.underlying3 k2
  obtain ⟨x3, e3, _, w3⟩ := DataW.trod_int Try.underlying3 k3
  obtain ⟨x4, e4, _, w4⟩ := DataW.trod_int Try.underlying3 k4
  obtain ⟨x5, e5, _, w5⟩ := DataW.trod_int Try.underlying3 k5
  obtain ⟨x6, e6, _, w6⟩ := DataW.trod_int Try.underlying3 k6
  obtain ⟨x7, e7, _, w7⟩ := DataW.trod_string Try.underlying9 k7
  simp only [List.cons.injEq, and_true] at e0 e1 e2 e3 e4 e5 e6 e7
  subst e0 e1 e2 e3 e4 e5 e6 e7
  exact ⟨x0, x1, x2, x3, x4, x5, x6, x7, rfl, wf64 w2, w7⟩
end
end Go.Proofs.Ytbbaddcldoflfaa
