/- Rows that come in. -/
import Derived.Test.YthmompnlkclfaaaRe0
import Derived.WalkKit
import Derived.ProofKit
import Derived.OpenShut
import Derived.ChangeSlices
import Derived.Deep.SlicePairs
import Derived.Lib.SmallJoins
set_option linter.unusedVariables false
set_option maxRecDepth 100000
namespace Go.Proofs.Ythmompnlkclfaaa
open Go Go.RowKit Go.ChangeShapes Go.WideShapes Go.ChangeAt Go.Joins Go.Deep Own Draw

theorem one3 : Try.prog.cellsOf 3 = 1 := by kernel_rfl
theorem one4 : Try.prog.cellsOf 4 = 1 := by kernel_rfl
theorem one9 : Try.prog.cellsOf 9 = 1 := by kernel_rfl
theorem add_spot (b off j : Nat) : (⟨b, off, none⟩ : Addr).add j = ⟨b, off + j, none⟩ := by simp only [Addr.add]; split <;> simp_all
theorem i64_wf {x : Int} (h : (Lit.int .i64 x).wf = true) : i64 x := by
  unfold i64
  simp [Lit.wf, IntKind.min, IntKind.max, IntKind.signed, IntKind.bits] at h
  omega
theorem cells38 : Try.prog.cellsOf 50 = 3 := by kernel_rfl
theorem cells22 : Try.prog.cellsOf 22 = 1 := by kernel_rfl
theorem cells40 : Try.prog.cellsOf 52 = 11 := by kernel_rfl
def okE (q : TE) : Prop := i64 q.1 ∧ i64 q.2.1 ∧ i64 q.2.2.1 ∧ i64 q.2.2.2.1 ∧ i64 q.2.2.2.2.1 ∧ i64 q.2.2.2.2.2.1 ∧ i64 q.2.2.2.2.2.2.1 ∧ i64 q.2.2.2.2.2.2.2.1 ∧ i64 q.2.2.2.2.2.2.2.2.1 ∧ i64 q.2.2.2.2.2.2.2.2.2.1 ∧ i64 q.2.2.2.2.2.2.2.2.2.2
section
variable {H : Type} {enc : TypeId × Value → H} {W : World} {base : Nat} {spare : Nat → Bool} {held : Bool}
theorem open_cE {n : Nat} {c : Value} {y : DataW H × List MemPlace} (h : DataW.trod enc Try.prog W base spare held n 22 [c] = some y) : ∃ (a : Option Addr) (xs : List TE) (cap : Nat), c = .slice a xs.length cap ∧ FRow 11 cE W a xs ∧ xs.length ≤ maxLen ∧ ∀ x ∈ xs, okE x := by
  rcases Go.Deep.open_slice Try.underlying22 h with ⟨e, _⟩ | ⟨a, len, cap, m, n', D, Pl, e, hb, hl, hm, hmm, _, hx⟩
  · simp only [List.cons.injEq, and_true] at e
    exact ⟨none, [], 0, e, FRow.nil _ _ _ _, by simp, by simp⟩
  · simp only [List.cons.injEq, and_true] at e
    have hle : len ≤ m := by rw [hmm]; split <;> omega
    have hspot : 0 < len → a.spot = none := by
      intro h0
      obtain ⟨cs', h1, _⟩ := hx 0 (by omega)
      rw [cells40] at h1
      obtain ⟨_, hlen, hcell⟩ := World.cells?_some h1
      have c0 := hcell 0 (by omega)
      rw [List.getElem?_eq_getElem (by omega)] at c0
      have := World.cell?_spot c0
      simpa [Addr.add] using this
    have each : ∀ i, i < len → ∃ q : TE, a.spot = none ∧ okE q ∧ W.cell? ⟨a.block, a.off + i * 11, none⟩ = some (.int .i64 q.1) ∧ W.cell? ⟨a.block, a.off + i * 11 + 1, none⟩ = some (.int .i64 q.2.1) ∧ W.cell? ⟨a.block, a.off + i * 11 + 2, none⟩ = some (.int .i64 q.2.2.1) ∧ W.cell? ⟨a.block, a.off + i * 11 + 3, none⟩ = some (.int .i64 q.2.2.2.1) ∧ W.cell? ⟨a.block, a.off + i * 11 + 4, none⟩ = some (.int .i64 q.2.2.2.2.1) ∧ W.cell? ⟨a.block, a.off + i * 11 + 5, none⟩ = some (.int .i64 q.2.2.2.2.2.1) ∧ W.cell? ⟨a.block, a.off + i * 11 + 6, none⟩ = some (.int .i64 q.2.2.2.2.2.2.1) ∧ W.cell? ⟨a.block, a.off + i * 11 + 7, none⟩ = some (.int .i64 q.2.2.2.2.2.2.2.1) ∧ W.cell? ⟨a.block, a.off + i * 11 + 8, none⟩ = some (.int .i64 q.2.2.2.2.2.2.2.2.1) ∧ W.cell? ⟨a.block, a.off + i * 11 + 9, none⟩ = some (.int .i64 q.2.2.2.2.2.2.2.2.2.1) ∧ W.cell? ⟨a.block, a.off + i * 11 + 10, none⟩ = some (.int .i64 q.2.2.2.2.2.2.2.2.2.2) := by
      intro i hi
      obtain ⟨cs', h1, h2⟩ := hx i (by omega)
      rw [cells40] at h1
      obtain ⟨_, hlen, hcell⟩ := World.cells?_some h1
      obtain ⟨zs, k, hk, _, _, hxl, hf⟩ := DataW.trod_struct Try.underlying52 h2
      match zs, hxl, cs', hlen with
      | [y0, y1, y2, y3, y4, y5, y6, y7, y8], _, [v0, v1, v2, v3, v4, v5, v6, v7, v8, v9, v10], _ =>
        have g0 := hf 0 _ rfl
        have g1 := hf 1 _ rfl
        have g2 := hf 2 _ rfl
        have g3 := hf 3 _ rfl
        have g4 := hf 4 _ rfl
        have g5 := hf 5 _ rfl
        have g6 := hf 6 _ rfl
        have g7 := hf 7 _ rfl
        have gN := hf 8 _ rfl
        simp [one3, cells38] at g0 g1 g2 g3 g4 g5 g6 g7 gN
        obtain ⟨zn, kn, _, _, _, hxn, hfn⟩ := DataW.trod_struct Try.underlying50 gN
        match zn, hxn with
        | [u0, u1, u2], _ =>
        have g8 := hfn 0 _ rfl
        have g9 := hfn 1 _ rfl
        have g10 := hfn 2 _ rfl
        simp [one3] at g8 g9 g10
        obtain ⟨x0, e0, _, wf0⟩ := DataW.trod_int Try.underlying3 g0
        obtain ⟨x1, e1, _, wf1⟩ := DataW.trod_int Try.underlying3 g1
        obtain ⟨x2, e2, _, wf2⟩ := DataW.trod_int Try.underlying3 g2
        obtain ⟨x3, e3, _, wf3⟩ := DataW.trod_int Try.underlying3 g3
        obtain ⟨x4, e4, _, wf4⟩ := DataW.trod_int Try.underlying3 g4
        obtain ⟨x5, e5, _, wf5⟩ := DataW.trod_int Try.underlying3 g5
        obtain ⟨x6, e6, _, wf6⟩ := DataW.trod_int Try.underlying3 g6
        obtain ⟨x7, e7, _, wf7⟩ := DataW.trod_int Try.underlying3 g7
        obtain ⟨x8, e8, _, wf8⟩ := DataW.trod_int Try.underlying3 g8
        obtain ⟨x9, e9, _, wf9⟩ := DataW.trod_int Try.underlying3 g9
        obtain ⟨x10, e10, _, wf10⟩ := DataW.trod_int Try.underlying3 g10
        simp only [List.cons.injEq, and_true] at e0 e1 e2 e3 e4 e5 e6 e7 e8 e9 e10
        have c0 := hcell 0 (by omega)
        have c1 := hcell 1 (by omega)
        have c2 := hcell 2 (by omega)
        have c3 := hcell 3 (by omega)
        have c4 := hcell 4 (by omega)
        have c5 := hcell 5 (by omega)
        have c6 := hcell 6 (by omega)
        have c7 := hcell 7 (by omega)
        have c8 := hcell 8 (by omega)
        have c9 := hcell 9 (by omega)
        have c10 := hcell 10 (by omega)
        obtain ⟨b, off, spot⟩ := a
        have hsp : spot = none := hspot (by omega)
        subst hsp
        rw [add_spot, add_spot] at c0 c1 c2 c3 c4 c5 c6 c7 c8 c9 c10
        subst e0 e1 e2 e3 e4 e5 e6 e7 e8 e9 e10
        exact ⟨(x0, x1, x2, x3, x4, x5, x6, x7, x8, x9, x10), rfl, ⟨i64_wf wf0, i64_wf wf1, i64_wf wf2, i64_wf wf3, i64_wf wf4, i64_wf wf5, i64_wf wf6, i64_wf wf7, i64_wf wf8, i64_wf wf9, i64_wf wf10⟩, by simpa using c0, by simpa [Nat.add_assoc] using c1, by simpa [Nat.add_assoc] using c2, by simpa [Nat.add_assoc] using c3, by simpa [Nat.add_assoc] using c4, by simpa [Nat.add_assoc] using c5, by simpa [Nat.add_assoc] using c6, by simpa [Nat.add_assoc] using c7, by simpa [Nat.add_assoc] using c8, by simpa [Nat.add_assoc] using c9, by simpa [Nat.add_assoc] using c10⟩
    obtain ⟨f, hf⟩ := choose_lt each
    obtain ⟨b, off, spot⟩ := a
    refine ⟨some ⟨b, off, spot⟩, (List.range len).map f, cap, by rw [List.length_map, List.length_range]; exact e, ?_, by rw [List.length_map, List.length_range]; omega, ?_⟩
    · intro j hj
      rw [List.length_map, List.length_range] at hj
      obtain ⟨hs, _, c0, c1, c2, c3, c4, c5, c6, c7, c8, c9, c10⟩ := hf j hj
      dsimp only at hs c0 c1 c2 c3 c4 c5 c6 c7 c8 c9 c10
      subst hs
      refine ⟨b, off, rfl, World.block_lt_of_cell? W _ c0, ?_⟩
      intro i v hv
      rw [List.getElem_map, List.getElem_range] at hv
      match i, hv with
      | 0, hv => cases hv; exact c0
      | 1, hv => cases hv; exact c1
      | 2, hv => cases hv; exact c2
      | 3, hv => cases hv; exact c3
      | 4, hv => cases hv; exact c4
      | 5, hv => cases hv; exact c5
      | 6, hv => cases hv; exact c6
      | 7, hv => cases hv; exact c7
      | 8, hv => cases hv; exact c8
      | 9, hv => cases hv; exact c9
      | 10, hv => cases hv; exact c10
      | i + 11, hv => simp at hv
    · intro x hx
      obtain ⟨j, hj, rfl⟩ := List.mem_map.1 hx
      exact (hf j (List.mem_range.1 hj)).2.1
theorem open_E {r : Reach} {b0 : Nat} {v : Value} {d : DataW H} {p : List MemPlace} (hv : Value.okWide Try.prog W r b0 22 v) (h : DataW.Trod enc Try.prog W base spare held 22 v d p) :
    ∃ (a : Option Addr) (xs : List TE) (cap : Nat), v = .slice a xs.length cap ∧ FRow 11 cE W a xs ∧ xs.length ≤ maxLen ∧ ∀ x ∈ xs, okE x := by
  obtain ⟨a0, len, cap, rfl⟩ := okWide_slice Try.underlying22 hv
  obtain ⟨fuel, hf⟩ := h
  exact open_cE hf
end
end Go.Proofs.Ythmompnlkclfaaa
