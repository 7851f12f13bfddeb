/- Blocks, rows and results. -/
import Derived.Test.YtkekfogepdhjhaaGreatSome
import Derived.Test.YtkekfogepdhjhaaGreatKnow4
import Derived.Test.YtkekfogepdhjhaaGreatLists
set_option linter.unusedVariables false
namespace Go.Proofs.YtkekfogepdhjhaaGreat
open Go.RowKit Go.Proofs.YtkekfogepdhjhaaGreat.Own Var Term Draw

/-- A block of the call's own, its cells written out. -/
structure Blk (g : Nat) (vs : List Value) (W : World) : Prop where
  out : ∀ i v, vs[i]? = some v → W.cell? ⟨g, i, none⟩ = some v ∧ W.frozen? ⟨g, i, none⟩ = false
theorem Blk.at {g : Nat} {vs : List Value} {W : World} (h : Blk g vs W) (i : Nat) {v : Value} (e : vs[i]? = some v) : W.cell? ⟨g, i, none⟩ = some v := (h.out i v e).1
theorem Blk.fz {g : Nat} {vs : List Value} {W : World} (h : Blk g vs W) (i : Nat) {v : Value} (e : vs[i]? = some v) : W.frozen? ⟨g, i, none⟩ = false := (h.out i v e).2
theorem Blk.new (w : World) (cs : Array Value) (t : TypeId) : Blk w.heap.size cs.toList (w.alloc (.cells cs t)) := by
  constructor
  intro i v e
  refine ⟨?_, ?_⟩
  · rw [World.cell?_alloc_mark w cs t (0, 0) i]
    simpa using e
  · simp [go_sem]
theorem Blk.later {g : Nat} {vs : List Value} {W W' : World} (h : Blk g vs W) (hb : Below W.heap.size W W') (hg : g < W.heap.size) : Blk g vs W' :=
  ⟨fun i v e => ⟨(hb.cell (p := ⟨g, i, none⟩) hg).trans (h.out i v e).1, (hb.frozen (p := ⟨g, i, none⟩) hg).trans (h.out i v e).2⟩⟩
theorem Blk.drew {g : Nat} {vs : List Value} {W : World} (h : Blk g vs W) : Blk g vs W.drew := ⟨fun i v e => h.out i v e⟩
theorem Blk.alloc {g : Nat} {vs : List Value} {W : World} (h : Blk g vs W) (hg : g < W.heap.size) (o : Obj) : Blk g vs (W.alloc o) := h.later ((Below.refl _ _).alloc (Nat.le_refl _) o) hg
theorem Blk.set {g : Nat} {vs : List Value} {W : World} (h : Blk g vs W) (k : Nat) (u : Value) : Blk g (vs.set k u) (W.setCell ⟨g, k, none⟩ u) := by
  constructor
  intro i v e
  by_cases c : k = i
  · subst c
    have hl : k < vs.length := by
      have := List.getElem?_eq_some_iff.1 e
      obtain ⟨q, _⟩ := this
      simpa using q
    rw [List.getElem?_set_self hl, Option.some.injEq] at e
    subst e
    have hq := h.out k vs[k] (List.getElem?_eq_getElem hl)
    exact ⟨World.cell?_setCell_same' _ _ _ (by rw [hq.1]; rfl), by simpa using hq.2⟩
  · rw [List.getElem?_set_ne c] at e
    have hq := h.out i v e
    exact ⟨by rw [World.cell?_setCell_other _ _ _ _ (by simp)]; exact hq.1, by simpa using hq.2⟩
theorem Blk.far {g g' : Nat} {vs : List Value} {W : World} (h : Blk g vs W) (hn : g' ≠ g) (k : Nat) (u : Value) : Blk g vs (W.setCell ⟨g', k, none⟩ u) :=
  ⟨fun i v e => ⟨by rw [World.cell?_setCell_other _ _ _ _ (by simp)]; exact (h.out i v e).1, by simpa using (h.out i v e).2⟩⟩

theorem Blk.only {g p : Nat} {vs : List Value} {w w' : World} (h : Blk g vs w) (ho : Only p w w') (hg : g < w.heap.size) (hp : g ≠ p) : Blk g vs w' :=
  ⟨fun i v e => ⟨(ho.cell (q := ⟨g, i, none⟩) hg hp).trans (h.out i v e).1, (ho.frozen (q := ⟨g, i, none⟩) hg hp).trans (h.out i v e).2⟩⟩
theorem Blk.lt {g : Nat} {v : Value} {vs : List Value} {w : World} (h : Blk g (v :: vs) w) : g < w.heap.size := World.block_lt_of_cell? w _ (h.at 0 rfl)
theorem row_two (w : World) (x y : ByteArray) : RowAt Value.string (w.alloc (.cells #[.string x, .string y] 9)) (some ⟨w.heap.size, 0, none⟩) [x, y] := by
  intro j hj
  simp only [List.length_cons, List.length_nil] at hj
  refine ⟨w.heap.size, 0, rfl, by simp, ?_⟩
  have : j = 0 ∨ j = 1 := by omega
  rcases this with rfl | rfl <;> simp [go_sem]
theorem RowAt.only {α : Type} {f : α → Value} {p : Nat} {w w' : World} {a : Option Addr} {xs : List α} (h : RowAt f w a xs) (ho : Only p w w') (hn : ∀ q : Addr, a = some q → q.block ≠ p) : RowAt f w' a xs := by
  intro j hj
  obtain ⟨b, off, e, hlt, hc⟩ := h j hj
  exact ⟨b, off, e, Nat.lt_of_lt_of_le hlt ho.size, (ho.cell (q := ⟨b, off + j, none⟩) hlt (hn ⟨b, off, none⟩ e)).trans hc⟩
theorem res_2s {fn : Func} {p x : Tmp} (hres : fn.results = #[.cell p 27, .tmp x]) (tmps : Array Value) (w : World) (g : Nat) (v0 v1 u0 : Value) (hp : tmps.getD p undef = .pointer (some ⟨g, 0, none⟩)) (hx : tmps.getD x undef = u0) (h0 : w.cell? ⟨g, 0, none⟩ = some v0) (h1 : w.cell? ⟨g, 1, none⟩ = some v1) :
    (results fn tmps).run Tryz.prog w = .ok (.tuple #[.agg #[v0, v1], u0]) w := by
  have hp' : tmps[p]?.getD undef = .pointer (some ⟨g, 0, none⟩) := by simpa using hp
  have hx' : tmps[x]?.getD undef = u0 := by simpa using hx
  simp [results, hres, hp', hx', asAddr, go_sem, h0, h1, loadVar, Tryz.isAgg27, Tryz.sizeOf27]
theorem listT_size (xs : List ByteArray) : (listT xs).size ≤ 900 := by
  unfold listT
  split
  · cases h : isT (hdT 108 xs.length ++ cat xs) with
    | false => rw [okOr_no h]; show 0 ≤ 900; omega
    | true => rw [okOr_yes h]; exact ((isT_iff _).1 h).1
  · show 0 ≤ 900; omega
end Go.Proofs.YtkekfogepdhjhaaGreat
