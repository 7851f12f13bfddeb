/- Names that come in. -/
import Derived.Test.YtbpodcfbijhboaaNd0
import Derived.WalkKit
import Derived.ProofKit
import Derived.OpenShut
import Derived.ChangeSlices
import Derived.Deep.SlicePairs
import Derived.Lib.SmallJoins
set_option linter.unusedVariables false
set_option maxRecDepth 100000
namespace Go.Proofs.Ytbpodcfbijhboaa.Nd
open Go Go.RowKit Go.ChangeShapes Go.WideShapes Go.ChangeAt Go.Joins Go.Deep Own Draw

theorem cz3 : Try.prog.cellsOf 3 = 1 := by kernel_rfl
theorem cz4 : Try.prog.cellsOf 4 = 1 := by kernel_rfl
theorem cz9 : Try.prog.cellsOf 9 = 1 := by kernel_rfl
theorem cz24 : Try.prog.cellsOf 24 = 1 := by kernel_rfl
theorem cz37 : Try.prog.cellsOf 37 = 2 := by kernel_rfl
theorem add_spot (b off j : Nat) : (⟨b, off, none⟩ : Addr).add j = ⟨b, off + j, none⟩ := by simp only [Addr.add]; split <;> simp_all
theorem i64_of {x : Int} (h : (Lit.int .i64 x).wf = true) : i64 x := by
  unfold i64
  simp [Lit.wf, IntKind.min, IntKind.max, IntKind.signed, IntKind.bits] at h
  omega
def OkT (p : TT) : Prop := True
section
variable {H : Type} {enc : TypeId × Value → H} {W : World} {base : Nat} {spare : Nat → Bool} {held : Bool}
theorem open_cS {n : Nat} {c : Value} {y : DataW H × List MemPlace} (h : DataW.trod enc Try.prog W base spare held n 24 [c] = some y) : ∃ r : Rw ByteArray, c = .slice r.1 r.2.2.length r.2.1 ∧ RpS W r ∧ RlS r := by
  rcases Go.Deep.open_slice Try.underlying24 h with ⟨e, _⟩ | ⟨a, len, cap, m, n', D, Pl, e, hb, hl, hm, hmm, _, hx⟩
  · simp only [List.cons.injEq, and_true] at e
    exact ⟨(none, 0, []), e, fun j hj => by simp at hj, by simp [RlS]⟩
  · simp only [List.cons.injEq, and_true] at e
    have hle : len ≤ m := by rw [hmm]; split <;> omega
    have hspot : 0 < len → a.spot = none := by
      intro h0
      obtain ⟨cs', h1, _⟩ := hx 0 (by omega)
      rw [cz9] at h1
      obtain ⟨_, hlen, hcell⟩ := World.cells?_some h1
      have c0 := hcell 0 (by omega)
      rw [List.getElem?_eq_getElem (by omega)] at c0
      have := World.cell?_spot c0
      simpa [Addr.add] using this
    have each : ∀ i, i < len → ∃ q : ByteArray, a.spot = none ∧ W.cell? ⟨a.block, a.off + i, none⟩ = some (Value.string q) ∧ q.size ≤ maxLen := by
      intro i hi
      obtain ⟨cs', h1, h2⟩ := hx i (by omega)
      rw [cz9] at h1
      obtain ⟨_, hlen, hcell⟩ := World.cells?_some h1
      obtain ⟨b, off, spot⟩ := a
      obtain ⟨q, eq, _, wf⟩ := DataW.trod_string Try.underlying9 h2
      subst eq
      have c0 := hcell 0 (by omega)
      have hsp : spot = none := hspot (by omega)
      subst hsp
      rw [add_spot, add_spot] at c0
      exact ⟨q, rfl, by simpa using c0, wf⟩
    obtain ⟨f, hf⟩ := Go.Deep.choose_lt each
    obtain ⟨b, off, spot⟩ := a
    refine ⟨(some ⟨b, off, spot⟩, cap, (List.range len).map f), by dsimp only; rw [List.length_map, List.length_range]; exact e, ?_, ?_⟩
    · intro j hj
      dsimp only at hj ⊢
      rw [List.length_map, List.length_range] at hj
      obtain ⟨hs, hc, _⟩ := hf j hj
      dsimp only at hs hc
      subst hs
      refine ⟨b, off, rfl, World.block_lt_of_cell? W _ hc, ?_⟩
      rw [List.getElem_map, List.getElem_range]; exact hc
    · exact ⟨by dsimp only; rw [List.length_map, List.length_range]; omega, fun x hx => by
        obtain ⟨j, hj, rfl⟩ := List.mem_map.1 hx
        exact (hf j (List.mem_range.1 hj)).2.2⟩
theorem open_sT {n : Nat} {cs : List Value} {y : DataW H × List MemPlace} (hlen : cs.length = 2) (h : DataW.trod enc Try.prog W base spare held n 37 cs = some y) : ∃ p : TT, cs = cT p ∧ DpT W p ∧ LmT p ∧ OkT p := by
  obtain ⟨zs, k, hk, _, _, hxl, hf⟩ := DataW.trod_struct Try.underlying37 h
  match zs, hxl, cs, hlen with
  | [y0, y1], _, [v0, v1], _ =>
    have g0 := hf 0 _ rfl
    have g1 := hf 1 _ rfl
    simp [cz9, cz24] at g0 g1
    obtain ⟨x0, e0, rp0, rl0⟩ := open_cS g0
    subst e0
    obtain ⟨x1, e1, _, wf1⟩ := DataW.trod_string Try.underlying9 g1
    simp only [List.cons.injEq, and_true] at e1
    subst e1
    exact ⟨(x0, x1), rfl, rp0, ⟨rl0, wf1⟩, trivial⟩
theorem open_T {r : Reach} {b0 : Nat} {v : Value} {d : DataW H} {p : List MemPlace} (hv : Value.okWide Try.prog W r b0 37 v) (h : DataW.Trod enc Try.prog W base spare held 37 v d p) :
    ∃ x : TT, v = vT x ∧ DpT W x ∧ LmT x ∧ OkT x := by
  obtain ⟨cs, rfl, hsz⟩ := okWide_struct Try.underlying37 hv
  obtain ⟨fuel, hf⟩ := h
  have hl : cs.toList.length = 2 := by rw [Array.length_toList]; exact hsz.trans cz37
  obtain ⟨x, e, dp, lm, ok⟩ := open_sT (cs := cs.toList) hl (by simpa [Value.cells] using hf)
  refine ⟨x, ?_, dp, lm, ok⟩
  rw [show cs = (cT x).toArray by rw [← e]]
end
end Go.Proofs.Ytbpodcfbijhboaa.Nd
