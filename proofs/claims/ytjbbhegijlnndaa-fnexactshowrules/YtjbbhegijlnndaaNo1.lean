/- Rules and an Ask that come in. -/
import Derived.Test.YtjbbhegijlnndaaNd0
import Derived.WalkKit
import Derived.ProofKit
import Derived.OpenShut
import Derived.ChangeSlices
import Derived.Deep.SlicePairs
import Derived.Lib.SmallJoins
set_option linter.unusedVariables false
set_option maxRecDepth 100000
namespace Go.Proofs.Ytjbbhegijlnndaa.Nd
open Go Go.RowKit Go.ChangeShapes Go.WideShapes Go.ChangeAt Go.Joins Go.Deep Own Draw

theorem cz3 : Try.prog.cellsOf 3 = 1 := by kernel_rfl
theorem cz4 : Try.prog.cellsOf 4 = 1 := by kernel_rfl
theorem cz9 : Try.prog.cellsOf 9 = 1 := by kernel_rfl
theorem cz32 : Try.prog.cellsOf 32 = 1 := by kernel_rfl
theorem cz43 : Try.prog.cellsOf 43 = 1 := by kernel_rfl
theorem cz47 : Try.prog.cellsOf 47 = 5 := by kernel_rfl
theorem cz88 : Try.prog.cellsOf 88 = 3 := by kernel_rfl
theorem add_spot (b off j : Nat) : (⟨b, off, none⟩ : Addr).add j = ⟨b, off + j, none⟩ := by simp only [Addr.add]; split <;> simp_all
theorem i64_of {x : Int} (h : (Lit.int .i64 x).wf = true) : i64 x := by
  unfold i64
  simp [Lit.wf, IntKind.min, IntKind.max, IntKind.signed, IntKind.bits] at h
  omega
def RkI (r : Rw Int) : Prop := ∀ x ∈ r.2.2, i64 x
def OkT (p : TT) : Prop := i64 p.1 ∧ RkI p.2.1 ∧ i64 p.2.2
def RkT (r : Rw TT) : Prop := ∀ x ∈ r.2.2, OkT x
def OkA (p : TA) : Prop := i64 p.1 ∧ i64 p.2.1 ∧ RkI p.2.2.1 ∧ i64 p.2.2.2.1 ∧ i64 p.2.2.2.2
section
variable {H : Type} {enc : TypeId × Value → H} {W : World} {base : Nat} {spare : Nat → Bool} {held : Bool}
theorem open_cI {n : Nat} {c : Value} {y : DataW H × List MemPlace} (h : DataW.trod enc Try.prog W base spare held n 32 [c] = some y) : ∃ r : Rw Int, c = .slice r.1 r.2.2.length r.2.1 ∧ RpI W r ∧ RlI r ∧ RkI r := by
  rcases Go.Deep.open_slice Try.underlying32 h with ⟨e, _⟩ | ⟨a, len, cap, m, n', D, Pl, e, hb, hl, hm, hmm, _, hx⟩
  · simp only [List.cons.injEq, and_true] at e
    exact ⟨(none, 0, []), e, fun j hj => by simp at hj, by simp [RlI], fun x hx => by simp at hx⟩
  · simp only [List.cons.injEq, and_true] at e
    have hle : len ≤ m := by rw [hmm]; split <;> omega
    have hspot : 0 < len → a.spot = none := by
      intro h0
      obtain ⟨cs', h1, _⟩ := hx 0 (by omega)
      rw [cz3] at h1
      obtain ⟨_, hlen, hcell⟩ := World.cells?_some h1
      have c0 := hcell 0 (by omega)
      rw [List.getElem?_eq_getElem (by omega)] at c0
      have := World.cell?_spot c0
      simpa [Addr.add] using this
    have each : ∀ i, i < len → ∃ q : Int, a.spot = none ∧ W.cell? ⟨a.block, a.off + i, none⟩ = some (Value.int .i64 q) ∧ i64 q := by
      intro i hi
      obtain ⟨cs', h1, h2⟩ := hx i (by omega)
      rw [cz3] at h1
      obtain ⟨_, hlen, hcell⟩ := World.cells?_some h1
      obtain ⟨b, off, spot⟩ := a
      obtain ⟨q, eq, _, wf⟩ := DataW.trod_int Try.underlying3 h2
      subst eq
      have c0 := hcell 0 (by omega)
      have hsp : spot = none := hspot (by omega)
      subst hsp
      rw [add_spot, add_spot] at c0
      exact ⟨q, rfl, by simpa using c0, i64_of wf⟩
    obtain ⟨f, hf⟩ := Go.Deep.choose_lt each
    obtain ⟨b, off, spot⟩ := a
    refine ⟨(some ⟨b, off, spot⟩, cap, (List.range len).map f), by dsimp only; rw [List.length_map, List.length_range]; exact e, ?_, ?_, ?_⟩
    · intro j hj
      dsimp only at hj ⊢
      rw [List.length_map, List.length_range] at hj
      obtain ⟨hs, hc, _⟩ := hf j hj
      dsimp only at hs hc
      subst hs
      refine ⟨b, off, rfl, World.block_lt_of_cell? W _ hc, ?_⟩
      rw [List.getElem_map, List.getElem_range]; exact hc
    · show _ ≤ _
      dsimp only
      rw [List.length_map, List.length_range]
      omega
    · intro x hx
      obtain ⟨j, hj, rfl⟩ := List.mem_map.1 hx
      exact (hf j (List.mem_range.1 hj)).2.2
theorem open_sT {n : Nat} {cs : List Value} {y : DataW H × List MemPlace} (hlen : cs.length = 3) (h : DataW.trod enc Try.prog W base spare held n 88 cs = some y) : ∃ p : TT, cs = cT p ∧ DpT W p ∧ LmT p ∧ OkT p := by
  obtain ⟨zs, k, hk, _, _, hxl, hf⟩ := DataW.trod_struct Try.underlying88 h
  match zs, hxl, cs, hlen with
  | [y0, y1, y2], _, [v0, v1, v2], _ =>
    have g0 := hf 0 _ rfl
    have g1 := hf 1 _ rfl
    have g2 := hf 2 _ rfl
    simp [cz3, cz32] at g0 g1 g2
    obtain ⟨x0, e0, _, wf0⟩ := DataW.trod_int Try.underlying3 g0
    simp only [List.cons.injEq, and_true] at e0
    subst e0
    obtain ⟨x1, e1, rp1, rl1, rk1⟩ := open_cI g1
    subst e1
    obtain ⟨x2, e2, _, wf2⟩ := DataW.trod_int Try.underlying3 g2
    simp only [List.cons.injEq, and_true] at e2
    subst e2
    exact ⟨(x0, x1, x2), rfl, rp1, rl1, ⟨i64_of wf0, rk1, i64_of wf2⟩⟩
theorem open_cT {n : Nat} {c : Value} {y : DataW H × List MemPlace} (h : DataW.trod enc Try.prog W base spare held n 43 [c] = some y) : ∃ r : Rw TT, c = .slice r.1 r.2.2.length r.2.1 ∧ RpT W r ∧ RlT r ∧ RkT r := by
  rcases Go.Deep.open_slice Try.underlying43 h with ⟨e, _⟩ | ⟨a, len, cap, m, n', D, Pl, e, hb, hl, hm, hmm, _, hx⟩
  · simp only [List.cons.injEq, and_true] at e
    exact ⟨(none, 0, []), e, ⟨fun j hj => by simp at hj, fun x hx => by simp at hx⟩, by simp [RlT], fun x hx => by simp at hx⟩
  · simp only [List.cons.injEq, and_true] at e
    have hle : len ≤ m := by rw [hmm]; split <;> omega
    have hspot : 0 < len → a.spot = none := by
      intro h0
      obtain ⟨cs', h1, _⟩ := hx 0 (by omega)
      rw [cz88] at h1
      obtain ⟨_, hlen, hcell⟩ := World.cells?_some h1
      have c0 := hcell 0 (by omega)
      rw [List.getElem?_eq_getElem (by omega)] at c0
      have := World.cell?_spot c0
      simpa [Addr.add] using this
    have each : ∀ i, i < len → ∃ q : TT, a.spot = none ∧ (∀ j v, (cT q)[j]? = some v → W.cell? ⟨a.block, a.off + i * 3 + j, none⟩ = some v) ∧ DpT W q ∧ LmT q ∧ OkT q := by
      intro i hi
      obtain ⟨cs', h1, h2⟩ := hx i (by omega)
      rw [cz88] at h1
      obtain ⟨_, hlen, hcell⟩ := World.cells?_some h1
      obtain ⟨b, off, spot⟩ := a
      obtain ⟨q, eq, dq, lq, oq⟩ := open_sT hlen h2
      subst eq
      have hsp : spot = none := hspot (by omega)
      subst hsp
      refine ⟨q, rfl, fun j v hv => ?_, dq, lq, oq⟩
      have hj : j < 3 := by
        obtain ⟨hj, _⟩ := List.getElem?_eq_some_iff.1 hv
        exact hj
      have cj := hcell j hj
      rw [add_spot, add_spot] at cj
      exact cj.trans hv
    obtain ⟨f, hf⟩ := Go.Deep.choose_lt each
    obtain ⟨b, off, spot⟩ := a
    refine ⟨(some ⟨b, off, spot⟩, cap, (List.range len).map f), by dsimp only; rw [List.length_map, List.length_range]; exact e, ⟨?_, ?_⟩, ?_, ?_⟩
    · intro j hj
      dsimp only at hj ⊢
      rw [List.length_map, List.length_range] at hj
      obtain ⟨hs, hc, _⟩ := hf j hj
      dsimp only at hs hc
      subst hs
      refine ⟨b, off, rfl, World.block_lt_of_cell? W _ (hc 0 _ rfl), ?_⟩
      intro i v hv
      rw [List.getElem_map, List.getElem_range] at hv
      exact hc i v hv
    · intro x hx
      obtain ⟨j, hj, rfl⟩ := List.mem_map.1 hx
      exact (hf j (List.mem_range.1 hj)).2.2.1
    · exact ⟨by dsimp only; rw [List.length_map, List.length_range]; omega, fun x hx => by
        obtain ⟨j, hj, rfl⟩ := List.mem_map.1 hx
        exact (hf j (List.mem_range.1 hj)).2.2.2.1⟩
    · intro x hx
      obtain ⟨j, hj, rfl⟩ := List.mem_map.1 hx
      exact (hf j (List.mem_range.1 hj)).2.2.2.2
theorem open_sA {n : Nat} {cs : List Value} {y : DataW H × List MemPlace} (hlen : cs.length = 5) (h : DataW.trod enc Try.prog W base spare held n 47 cs = some y) : ∃ p : TA, cs = cA p ∧ DpA W p ∧ LmA p ∧ OkA p := by
  obtain ⟨zs, k, hk, _, _, hxl, hf⟩ := DataW.trod_struct Try.underlying47 h
  match zs, hxl, cs, hlen with
  | [y0, y1, y2, y3, y4], _, [v0, v1, v2, v3, v4], _ =>
    have g0 := hf 0 _ rfl
    have g1 := hf 1 _ rfl
    have g2 := hf 2 _ rfl
    have g3 := hf 3 _ rfl
    have g4 := hf 4 _ rfl
    simp [cz3, cz32] at g0 g1 g2 g3 g4
    obtain ⟨x0, e0, _, wf0⟩ := DataW.trod_int Try.underlying3 g0
    simp only [List.cons.injEq, and_true] at e0
    subst e0
    obtain ⟨x1, e1, _, wf1⟩ := DataW.trod_int Try.underlying3 g1
    simp only [List.cons.injEq, and_true] at e1
    subst e1
    obtain ⟨x2, e2, rp2, rl2, rk2⟩ := open_cI g2
    subst e2
    obtain ⟨x3, e3, _, wf3⟩ := DataW.trod_int Try.underlying3 g3
    simp only [List.cons.injEq, and_true] at e3
    subst e3
    obtain ⟨x4, e4, _, wf4⟩ := DataW.trod_int Try.underlying3 g4
    simp only [List.cons.injEq, and_true] at e4
    subst e4
    exact ⟨(x0, x1, x2, x3, x4), rfl, rp2, rl2, ⟨i64_of wf0, i64_of wf1, rk2, i64_of wf3, i64_of wf4⟩⟩
theorem open_T {r : Reach} {b0 : Nat} {v : Value} {d : DataW H} {p : List MemPlace} (hv : Value.okWide Try.prog W r b0 43 v) (h : DataW.Trod enc Try.prog W base spare held 43 v d p) :
    ∃ x : Rw TT, v = .slice x.1 x.2.2.length x.2.1 ∧ RpT W x ∧ RlT x := by
  obtain ⟨a0, len0, cap0, rfl⟩ := okWide_slice Try.underlying43 hv
  obtain ⟨fuel, hf⟩ := h
  obtain ⟨x, e, dp, lm, ok⟩ := open_cT (c := .slice a0 len0 cap0) (by simpa [Value.cells] using hf)
  exact ⟨x, e, dp, lm⟩
theorem open_A {r : Reach} {b0 : Nat} {v : Value} {d : DataW H} {p : List MemPlace} (hv : Value.okWide Try.prog W r b0 47 v) (h : DataW.Trod enc Try.prog W base spare held 47 v d p) :
    ∃ x : TA, v = vA x ∧ DpA W x ∧ LmA x ∧ OkA x := by
  obtain ⟨cs, rfl, hsz⟩ := okWide_struct Try.underlying47 hv
  obtain ⟨fuel, hf⟩ := h
  have hl : cs.toList.length = 5 := by rw [Array.length_toList]; exact hsz.trans cz47
  obtain ⟨x, e, dp, lm, ok⟩ := open_sA (cs := cs.toList) hl (by simpa [Value.cells] using hf)
  refine ⟨x, ?_, dp, lm, ok⟩
  rw [show cs = (cA x).toArray by rw [← e]]
end
end Go.Proofs.Ytjbbhegijlnndaa.Nd
