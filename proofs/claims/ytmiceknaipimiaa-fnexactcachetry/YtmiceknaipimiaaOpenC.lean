/- Caches that come in: their cells and rows. -/
import Derived.Test.YtmiceknaipimiaaCch2
import Derived.Test.YtmiceknaipimiaaSmap
import Derived.WalkKit
import Derived.ProofKit
import Derived.OpenShut
import Derived.ChangeSlices
import Derived.Deep.SlicePairs
import Derived.Lib.SmallJoins
set_option linter.unusedVariables false
namespace Go.Proofs.Ytmiceknaipimiaa
open Go Go.RowKit Go.ChangeShapes Go.WideShapes Go.ChangeAt Go.Joins Go.Deep

theorem cells36 : Try.prog.cellsOf 36 = 1 := by kernel_rfl
theorem cells38 : Try.prog.cellsOf 38 = 2 := by kernel_rfl
theorem cells47 : Try.prog.cellsOf 47 = 3 := by kernel_rfl
theorem add_spot (b off j : Nat) : (⟨b, off, none⟩ : Addr).add j = ⟨b, off + j, none⟩ := by simp only [Addr.add]; split <;> simp_all
section
variable {H : Type} {enc : TypeId × Value → H} {W : World} {base : Nat} {spare : Nat → Bool} {held : Bool}
theorem open_trips {n : Nat} {c : Value} {y : DataW H × List MemPlace} (h : DataW.trod enc Try.prog W base spare held n 36 [c] = some y) : ∃ (a : Option Addr) (xs : List A3) (cap : Nat), c = .slice a xs.length cap ∧ ARow W a xs ∧ xs.length ≤ maxLen := by
  rcases Go.Deep.open_slice Try.underlying36 h with ⟨e, _⟩ | ⟨a, len, cap, m, n', D, Pl, e, hb, hl, hm, hmm, _, hx⟩
  · simp only [List.cons.injEq, and_true] at e
    exact ⟨none, [], 0, e, ARow.nil _ _, by simp⟩
  · simp only [List.cons.injEq, and_true] at e
    have hle : len ≤ m := by rw [hmm]; split <;> omega
    have hspot : 0 < len → a.spot = none := by
      intro h0
      obtain ⟨cs', h1, _⟩ := hx 0 (by omega)
      rw [cells47] at h1
      obtain ⟨_, hlen, hcell⟩ := World.cells?_some h1
      have c0 := hcell 0 (by omega)
      rw [List.getElem?_eq_getElem (by omega)] at c0
      have := World.cell?_spot c0
      simpa [Addr.add] using this
    have each : ∀ i, i < len → ∃ q : A3, a.spot = none ∧ W.cell? ⟨a.block, a.off + i * 3, none⟩ = some (.int .i64 q.1) ∧ W.cell? ⟨a.block, a.off + i * 3 + 1, none⟩ = some (.int .i64 q.2.1) ∧ W.cell? ⟨a.block, a.off + i * 3 + 2, none⟩ = some (.int .i64 q.2.2) := by
      intro i hi
      obtain ⟨cs', h1, h2⟩ := hx i (by omega)
      rw [cells47] at h1
      obtain ⟨_, hlen, hcell⟩ := World.cells?_some h1
      obtain ⟨zs, k, hk, _, _, hxl, hf⟩ := DataW.trod_struct Try.underlying47 h2
      match zs, hxl, cs', hlen with
      | [y0, y1, y2], _, [v0, v1, v2], _ =>
        have g0 := hf 0 _ rfl
        have g1 := hf 1 _ rfl
        have g2 := hf 2 _ rfl
        simp [one3] at g0 g1 g2
        obtain ⟨x0, e0, _, _⟩ := DataW.trod_int Try.underlying3 g0
        obtain ⟨x1, e1, _, _⟩ := DataW.trod_int Try.underlying3 g1
        obtain ⟨x2, e2, _, _⟩ := DataW.trod_int Try.underlying3 g2
        simp only [List.cons.injEq, and_true] at e0 e1 e2
        have c0 := hcell 0 (by omega)
        have c1 := hcell 1 (by omega)
        have c2 := hcell 2 (by omega)
        obtain ⟨b, off, spot⟩ := a
        have hsp : spot = none := hspot (by omega)
        subst hsp
        rw [add_spot, add_spot] at c0 c1 c2
        subst e0 e1 e2
        exact ⟨(x0, x1, x2), rfl, by simpa using c0, by simpa [Nat.add_assoc] using c1, by simpa [Nat.add_assoc] using c2⟩
    obtain ⟨f, hf⟩ := choose_lt each
    obtain ⟨b, off, spot⟩ := a
    refine ⟨some ⟨b, off, spot⟩, (List.range len).map f, cap, by rw [List.length_map, List.length_range]; exact e, ?_, by rw [List.length_map, List.length_range]; omega⟩
    intro j hj
    rw [List.length_map, List.length_range] at hj
    obtain ⟨hs, c0, c1, c2⟩ := hf j hj
    dsimp only at hs c0 c1 c2
    subst hs
    refine ⟨b, off, rfl, World.block_lt_of_cell? W _ c0, ?_, ?_, ?_⟩
    · rw [c0, List.getElem_map, List.getElem_range]
    · rw [c1, List.getElem_map, List.getElem_range]
    · rw [c2, List.getElem_map, List.getElem_range]
set_option maxRecDepth 100000 in
theorem open_cache {r : Reach} {b0 : Nat} {v : Value} {d : DataW H} {p : List MemPlace} (hv : Value.okWide Try.prog W r b0 38 v) (h : DataW.Trod enc Try.prog W base spare held 38 v d p) :
    ∃ (q : Int) (a : Option Addr) (xs : List A3) (cap : Nat), v = cv q a xs.length cap ∧ ARow W a xs ∧ xs.length ≤ maxLen := by
  obtain ⟨cs, rfl, hsz⟩ := okWide_struct Try.underlying38 hv
  obtain ⟨l⟩ := cs
  obtain ⟨c0, c1, rfl⟩ : ∃ c0 c1, l = [c0, c1] := by
    have : l.length = 2 := hsz.trans cells38
    match l, this with
    | [c0, c1], _ => exact ⟨c0, c1, rfl⟩
  obtain ⟨fuel, hf⟩ := h
  obtain ⟨zs, n, _, _, _, hxl, hf⟩ := DataW.trod_struct Try.underlying38 hf
  match zs, hxl with
  | [y0, y1], _ =>
    have k0 : DataW.trod enc Try.prog W base spare held n 3 (([c0, c1].drop 0).take (Try.prog.cellsOf 3)) = some y0 := hf 0 _ rfl
    have k1 : DataW.trod enc Try.prog W base spare held n 36 (([c0, c1].drop 1).take (Try.prog.cellsOf 36)) = some y1 := hf 1 _ rfl
    rw [one3] at k0
    rw [cells36] at k1
    have k0' : DataW.trod enc Try.prog W base spare held n 3 [c0] = some y0 := k0
    have k1' : DataW.trod enc Try.prog W base spare held n 36 [c1] = some y1 := k1
    obtain ⟨q, e0, _, _⟩ := DataW.trod_int Try.underlying3 k0'
    obtain ⟨a, xs, cap, e1, hr, hl⟩ := open_trips k1'
    simp only [List.cons.injEq, and_true] at e0
    subst e0 e1
    exact ⟨q, a, xs, cap, rfl, hr, hl⟩
end
end Go.Proofs.Ytmiceknaipimiaa
