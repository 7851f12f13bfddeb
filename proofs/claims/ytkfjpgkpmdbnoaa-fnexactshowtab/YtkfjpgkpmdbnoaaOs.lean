/- What lies in a row of slots that is handed in. -/
import Derived.Test.YtkfjpgkpmdbnoaaRg0
import Derived.WalkKit
import Derived.ProofKit
import Derived.OpenShut
import Derived.ChangeSlices
import Derived.Deep.SlicePairs
import Derived.Lib.SmallJoins
set_option linter.unusedVariables false
set_option maxRecDepth 100000
namespace Go.Proofs.Ytkfjpgkpmdbnoaa
open Go Go.RowKit Go.ChangeShapes Go.WideShapes Go.ChangeAt Go.Joins Go.Deep Own Draw

theorem one3 : Try.prog.cellsOf 3 = 1 := by kernel_rfl
theorem one4 : Try.prog.cellsOf 4 = 1 := by kernel_rfl
theorem one9 : Try.prog.cellsOf 9 = 1 := by kernel_rfl
theorem add_spot (b off j : Nat) : (⟨b, off, none⟩ : Addr).add j = ⟨b, off + j, none⟩ := by simp only [Addr.add]; split <;> simp_all
theorem i64_of {x : Int} (h : (Lit.int .i64 x).wf = true) : i64 x := by
  unfold i64
  simp [Lit.wf, IntKind.min, IntKind.max, IntKind.signed, IntKind.bits] at h
  omega
theorem cells41 : Try.prog.cellsOf 41 = 1 := by kernel_rfl
theorem cells76 : Try.prog.cellsOf 76 = 3 := by kernel_rfl
def okS (q : TS) : Prop := i64 q.1 ∧ i64 q.2.1 ∧ i64 q.2.2
section
variable {H : Type} {enc : TypeId × Value → H} {W : World} {base : Nat} {spare : Nat → Bool} {held : Bool}
theorem open_cS {n : Nat} {c : Value} {y : DataW H × List MemPlace} (h : DataW.trod enc Try.prog W base spare held n 41 [c] = some y) : ∃ (a : Option Addr) (xs : List TS) (cap : Nat), c = .slice a xs.length cap ∧ FRow 3 cS W a xs ∧ xs.length ≤ maxLen ∧ ∀ x ∈ xs, okS x := by
  rcases Go.Deep.open_slice Try.underlying41 h with ⟨e, _⟩ | ⟨a, len, cap, m, n', D, Pl, e, hb, hl, hm, hmm, _, hx⟩
  · simp only [List.cons.injEq, and_true] at e
    exact ⟨none, [], 0, e, FRow.nil _ _ _ _, by simp, by simp⟩
  · simp only [List.cons.injEq, and_true] at e
    have hle : len ≤ m := by rw [hmm]; split <;> omega
    have hspot : 0 < len → a.spot = none := by
      intro h0
      obtain ⟨cs', h1, _⟩ := hx 0 (by omega)
      rw [cells76] at h1
      obtain ⟨_, hlen, hcell⟩ := World.cells?_some h1
      have c0 := hcell 0 (by omega)
      rw [List.getElem?_eq_getElem (by omega)] at c0
      have := World.cell?_spot c0
      simpa [Addr.add] using this
    have each : ∀ i, i < len → ∃ q : TS, a.spot = none ∧ okS q ∧ W.cell? ⟨a.block, a.off + i * 3, none⟩ = some (.int .i64 q.1) ∧ W.cell? ⟨a.block, a.off + i * 3 + 1, none⟩ = some (.int .i64 q.2.1) ∧ W.cell? ⟨a.block, a.off + i * 3 + 2, none⟩ = some (.int .i64 q.2.2) := by
      intro i hi
      obtain ⟨cs', h1, h2⟩ := hx i (by omega)
      rw [cells76] at h1
      obtain ⟨_, hlen, hcell⟩ := World.cells?_some h1
      obtain ⟨zs, k, hk, _, _, hxl, hf⟩ := DataW.trod_struct Try.underlying76 h2
      match zs, hxl, cs', hlen with
      | [y0, y1, y2], _, [v0, v1, v2], _ =>
        have g0 := hf 0 _ rfl
        have g1 := hf 1 _ rfl
        have g2 := hf 2 _ rfl
        simp [one3] at g0 g1 g2
        obtain ⟨x0, e0, _, wf0⟩ := DataW.trod_int Try.underlying3 g0
        obtain ⟨x1, e1, _, wf1⟩ := DataW.trod_int Try.underlying3 g1
        obtain ⟨x2, e2, _, wf2⟩ := DataW.trod_int Try.underlying3 g2
        simp only [List.cons.injEq, and_true] at e0 e1 e2
        have c0 := hcell 0 (by omega)
        have c1 := hcell 1 (by omega)
        have c2 := hcell 2 (by omega)
        obtain ⟨b, off, spot⟩ := a
        have hsp : spot = none := hspot (by omega)
        subst hsp
        rw [add_spot, add_spot] at c0 c1 c2
        subst e0 e1 e2
        exact ⟨(x0, x1, x2), rfl, ⟨i64_of wf0, i64_of wf1, i64_of wf2⟩, by simpa using c0, by simpa [Nat.add_assoc] using c1, by simpa [Nat.add_assoc] using c2⟩
    obtain ⟨f, hf⟩ := choose_lt each
    obtain ⟨b, off, spot⟩ := a
    refine ⟨some ⟨b, off, spot⟩, (List.range len).map f, cap, by rw [List.length_map, List.length_range]; exact e, ?_, by rw [List.length_map, List.length_range]; omega, ?_⟩
    · intro j hj
      rw [List.length_map, List.length_range] at hj
      obtain ⟨hs, _, c0, c1, c2⟩ := hf j hj
      dsimp only at hs c0 c1 c2
      subst hs
      refine ⟨b, off, rfl, World.block_lt_of_cell? W _ c0, ?_⟩
      intro i v hv
      rw [List.getElem_map, List.getElem_range] at hv
      match i, hv with
      | 0, hv => cases hv; exact c0
      | 1, hv => cases hv; exact c1
      | 2, hv => cases hv; exact c2
      | i + 3, hv => simp at hv
    · intro x hx
      obtain ⟨j, hj, rfl⟩ := List.mem_map.1 hx
      exact (hf j (List.mem_range.1 hj)).2.1
theorem open_S {r : Reach} {b0 : Nat} {v : Value} {d : DataW H} {p : List MemPlace} (hv : Value.okWide Try.prog W r b0 41 v) (h : DataW.Trod enc Try.prog W base spare held 41 v d p) :
    ∃ (a : Option Addr) (xs : List TS) (cap : Nat), v = .slice a xs.length cap ∧ FRow 3 cS W a xs ∧ xs.length ≤ maxLen ∧ ∀ x ∈ xs, okS x := by
  obtain ⟨a0, len, cap, rfl⟩ := okWide_slice Try.underlying41 hv
  obtain ⟨fuel, hf⟩ := h
  exact open_cS hf
end
end Go.Proofs.Ytkfjpgkpmdbnoaa
