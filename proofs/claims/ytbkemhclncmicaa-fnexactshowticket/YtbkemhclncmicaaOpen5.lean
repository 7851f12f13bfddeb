/- Grants and tickets that come in: their cells. -/
import Derived.Test.YtbkemhclncmicaaTick1
import Derived.WalkKit
import Derived.ProofKit
import Derived.OpenShut
import Derived.Lib.SmallJoins
import Derived.Test.YtbkemhclncmicaaRows1
import Derived.ChangeSlices
set_option linter.unusedVariables false
namespace Go.Proofs.Ytbkemhclncmicaa
open Go Go.RowKit Go.ChangeShapes Go.WideShapes Go.ChangeAt Go.Joins

theorem array6 {α : Type} {cs : Array α} (h : cs.size = 6) : ∃ c0 c1 c2 c3 c4 c5, cs = #[c0, c1, c2, c3, c4, c5] := by
  obtain ⟨l⟩ := cs
  match l, h with
  | [c0, c1, c2, c3, c4, c5], _ => exact ⟨c0, c1, c2, c3, c4, c5, rfl⟩
theorem array8 {α : Type} {cs : Array α} (h : cs.size = 8) : ∃ c0 c1 c2 c3 c4 c5 c6 c7, cs = #[c0, c1, c2, c3, c4, c5, c6, c7] := by
  obtain ⟨l⟩ := cs
  match l, h with
  | [c0, c1, c2, c3, c4, c5, c6, c7], _ => exact ⟨c0, c1, c2, c3, c4, c5, c6, c7, rfl⟩
theorem cells49 : Try.prog.cellsOf 49 = 6 := by kernel_rfl
theorem cells23 : Try.prog.cellsOf 23 = 3 := by kernel_rfl
theorem cells3 : Try.prog.cellsOf 3 = 1 := by kernel_rfl
theorem cells24 : Try.prog.cellsOf 24 = 1 := by kernel_rfl
theorem cells26 : Try.prog.cellsOf 26 = 8 := by kernel_rfl
theorem wf64 {n : Int} (h : (Lit.int .i64 n).wf = true) : i64 n := by
  unfold i64
  have h2 : IntKind.i64.min ≤ n ∧ n ≤ IntKind.i64.max := by simpa [Lit.wf] using h
  exact h2
section
variable {H : Type} {enc : TypeId × Value → H} {W : World} {base : Nat} {spare : Nat → Bool} {held : Bool}

set_option maxRecDepth 100000 in
theorem open_grant {r : Reach} {b0 : Nat} {v : Value} {d : DataW H} {p : List MemPlace} (hv : Value.okWide Try.prog W r b0 49 v) (h : DataW.Trod enc Try.prog W base spare held 49 v d p) :
    ∃ k s n a b e : Int, v = .agg #[.int .i64 k, .int .i64 s, .int .i64 n, .int .i64 a, .int .i64 b, .int .i64 e] ∧ i64 s := by
  obtain ⟨cs, rfl, hsz⟩ := okWide_struct Try.underlying49 hv
  obtain ⟨c0, c1, c2, c3, c4, c5, rfl⟩ := array6 (hsz.trans cells49)
  obtain ⟨fuel, hf⟩ := h
  obtain ⟨y0, y1, y2, y3, n, hx, _, h0, h1, h2, h3⟩ := trod_struct4 Try.underlying49 hf
  obtain ⟨z0, z1, z2, m, _, _, g0, g1, g2⟩ := Go.Deep.trod_struct3 Try.underlying23 h3
  simp only [cells3, cells23, Value.cells] at h0 h1 h2 g0 g1 g2
  have k0 : DataW.trod enc Try.prog W base spare held n 3 [c0] = some y0 := h0
  have k1 : DataW.trod enc Try.prog W base spare held n 3 [c1] = some y1 := h1
  have k2 : DataW.trod enc Try.prog W base spare held n 3 [c2] = some y2 := h2
  have k3 : DataW.trod enc Try.prog W base spare held m 3 [c3] = some z0 := g0
  have k4 : DataW.trod enc Try.prog W base spare held m 3 [c4] = some z1 := g1
  have k5 : DataW.trod enc Try.prog W base spare held m 3 [c5] = some z2 := g2
  obtain ⟨x0, e0, _, _⟩ := DataW.trod_int Try.underlying3 k0
  obtain ⟨x1, e1, _, w1⟩ := DataW.trod_int Try.underlying3 k1
  obtain ⟨x2, e2, _, _⟩ := DataW.trod_int Try.underlying3 k2
  obtain ⟨x3, e3, _, _⟩ := DataW.trod_int Try.underlying3 k3
  obtain ⟨x4, e4, _, _⟩ := DataW.trod_int Try.underlying3 k4
  obtain ⟨x5, e5, _, _⟩ := DataW.trod_int Try.underlying3 k5
  simp only [List.cons.injEq, and_true] at e0 e1 e2 e3 e4 e5
  subst e0 e1 e2 e3 e4 e5
  exact ⟨x0, x1, x2, x3, x4, x5, rfl, wf64 w1⟩
end
end Go.Proofs.Ytbkemhclncmicaa

set_option linter.unusedVariables false
namespace Go.Proofs.Ytbkemhclncmicaa
open Go Go.RowKit Go.ChangeShapes Go.WideShapes Go.ChangeAt Go.Joins

section
variable {H : Type} {enc : TypeId × Value → H} {P : Program} {w : World} {base : Nat} {spare : Nat → Bool} {held : Bool}
theorem trod_struct6 {t : TypeId} {f0 f1 f2 f3 f4 f5 : Field} {fuel : Nat} {cs : List Value} {x : DataW H × List MemPlace} (ht : P.underlying t = some (.struct #[f0, f1, f2, f3, f4, f5])) (h : DataW.trod enc P w base spare held fuel t cs = some x) :
    ∃ y0 y1 y2 y3 y4 y5 n, DataW.trod enc P w base spare held n f0.type ((cs.drop f0.offset).take (P.cellsOf f0.type)) = some y0 ∧ DataW.trod enc P w base spare held n f1.type ((cs.drop f1.offset).take (P.cellsOf f1.type)) = some y1 ∧ DataW.trod enc P w base spare held n f2.type ((cs.drop f2.offset).take (P.cellsOf f2.type)) = some y2 ∧ DataW.trod enc P w base spare held n f3.type ((cs.drop f3.offset).take (P.cellsOf f3.type)) = some y3 ∧ DataW.trod enc P w base spare held n f4.type ((cs.drop f4.offset).take (P.cellsOf f4.type)) = some y4 ∧ DataW.trod enc P w base spare held n f5.type ((cs.drop f5.offset).take (P.cellsOf f5.type)) = some y5 := by
  obtain ⟨xs, n, _, rfl, hl, hlen, hf⟩ := DataW.trod_struct ht h
  match xs, hlen with
  | [y0, y1, y2, y3, y4, y5], _ => exact ⟨y0, y1, y2, y3, y4, y5, n, by simpa using hf 0 f0 rfl, by simpa using hf 1 f1 rfl, by simpa using hf 2 f2 rfl, by simpa using hf 3 f3 rfl, by simpa using hf 4 f4 rfl, by simpa using hf 5 f5 rfl⟩
end
theorem nums_of {w : World} {x : Addr} {len : Nat} {zs : List Int} (hz : len ≤ zs.length)
    (hcell : ∀ i, i < zs.length → w.cell? (x.add i) = some (.int .i64 (zs.getD i 0))) : RowAt (Value.int .i64) w (some x) (zs.take len) := by
  intro j hj
  rw [List.length_take] at hj
  obtain ⟨b, off, spot⟩ := x
  have hjz : j < zs.length := by omega
  have hc := hcell j hjz
  have hc0 := hcell 0 (by omega)
  have hsp : spot = none := by simpa [Addr.add] using World.cell?_spot hc0
  subst hsp
  have e : (⟨b, off, none⟩ : Addr).add j = ⟨b, off + j, none⟩ := by simp only [Addr.add]; split <;> simp_all
  rw [e] at hc
  refine ⟨b, off, rfl, World.block_lt_of_cell? w _ hc, ?_⟩
  rw [hc, List.getElem_take]
  simp [List.getD, hjz]
section
variable {H : Type} {enc : TypeId × Value → H} {W : World} {base : Nat} {spare : Nat → Bool} {held : Bool}
theorem open_row {n : Nat} {c : Value} {y : DataW H × List MemPlace} (h : DataW.trod enc Try.prog W base spare held n 24 [c] = some y) : ∃ (a : Option Addr) (zs : List Int) (cap : Nat), c = .slice a zs.length cap ∧ RowAt (Value.int .i64) W a zs ∧ zs.length ≤ maxLen := by
  rcases open_ints Try.underlying24 Try.underlying3 cells3 h with ⟨e, _⟩ | ⟨a, len, cap, zs, e, _, hl, hm, hz, _, hc, _⟩
  · simp only [List.cons.injEq, and_true] at e
    exact ⟨none, [], 0, e, RowAt.nil _ _, by simp⟩
  · simp only [List.cons.injEq, and_true] at e
    have hle : len ≤ zs.length := by rw [hz]; split <;> omega
    refine ⟨some a, zs.take len, cap, ?_, nums_of hle hc, ?_⟩
    · rw [List.length_take, Nat.min_eq_left hle]; exact e
    · rw [List.length_take, Nat.min_eq_left hle]; omega
set_option maxRecDepth 100000 in
theorem open_ticket {r : Reach} {b0 : Nat} {v : Value} {d : DataW H} {p : List MemPlace} (hv : Value.okWide Try.prog W r b0 26 v) (h : DataW.Trod enc Try.prog W base spare held 26 v d p) :
    ∃ (c s k a b e : Int) (pa : Option Addr) (P : List Int) (pc : Nat) (va : Option Addr) (V : List Int) (vc : Nat), v = .agg #[.int .i64 c, .int .i64 s, .int .i64 k, .int .i64 a, .int .i64 b, .int .i64 e, .slice pa P.length pc, .slice va V.length vc] ∧
      i64 s ∧ RowAt (Value.int .i64) W pa P ∧ RowAt (Value.int .i64) W va V ∧ P.length ≤ maxLen ∧ V.length ≤ maxLen := by
  obtain ⟨cs, rfl, hsz⟩ := okWide_struct Try.underlying26 hv
  obtain ⟨c0, c1, c2, c3, c4, c5, c6, c7, rfl⟩ := array8 (hsz.trans cells26)
  obtain ⟨fuel, hf⟩ := h
  obtain ⟨y0, y1, y2, y3, y4, y5, n, h0, h1, h2, h3, h4, h5⟩ := trod_struct6 Try.underlying26 hf
  obtain ⟨z0, z1, z2, m, _, _, g0, g1, g2⟩ := Go.Deep.trod_struct3 Try.underlying23 h3
  simp only [cells3, cells23, cells24, Value.cells] at h0 h1 h2 g0 g1 g2 h4 h5
  have k0 : DataW.trod enc Try.prog W base spare held n 3 [c0] = some y0 := h0
  have k1 : DataW.trod enc Try.prog W base spare held n 3 [c1] = some y1 := h1
  have k2 : DataW.trod enc Try.prog W base spare held n 3 [c2] = some y2 := h2
  have k3 : DataW.trod enc Try.prog W base spare held m 3 [c3] = some z0 := g0
  have k4 : DataW.trod enc Try.prog W base spare held m 3 [c4] = some z1 := g1
  have k5 : DataW.trod enc Try.prog W base spare held m 3 [c5] = some z2 := g2
  have k6 : DataW.trod enc Try.prog W base spare held n 24 [c6] = some y4 := h4
  have k7 : DataW.trod enc Try.prog W base spare held n 24 [c7] = some y5 := h5
  obtain ⟨x0, e0, _, _⟩ := DataW.trod_int Try.underlying3 k0
  obtain ⟨x1, e1, _, w1⟩ := DataW.trod_int Try.underlying3 k1
  obtain ⟨x2, e2, _, _⟩ := DataW.trod_int Try.underlying3 k2
  obtain ⟨x3, e3, _, _⟩ := DataW.trod_int Try.underlying3 k3
  obtain ⟨x4, e4, _, _⟩ := DataW.trod_int Try.underlying3 k4
  obtain ⟨x5, e5, _, _⟩ := DataW.trod_int Try.underlying3 k5
  obtain ⟨pa, P, pc, e6, hp, lp⟩ := open_row k6
  obtain ⟨va, V, vc, e7, hq, lv⟩ := open_row k7
  simp only [List.cons.injEq, and_true] at e0 e1 e2 e3 e4 e5
  subst e0 e1 e2 e3 e4 e5 e6 e7
  exact ⟨x0, x1, x2, x3, x4, x5, pa, P, pc, va, V, vc, rfl, wf64 w1, hp, hq, lp, lv⟩
end
end Go.Proofs.Ytbkemhclncmicaa
