/- A Config in a block behind its rows, while things are drawn. -/
import Derived.Test.YtgmbgginddfnmaaCfD1
set_option linter.unusedVariables false
namespace Go.Proofs.Ytgmbgginddfnmaa
open Go Go.RowKit Go.Joins Own Draw

theorem grown_set (w : World) (q k : Nat) (u : Value) : w.grownBy (w.setCell ⟨q, k, none⟩ u) (some q) :=
  ⟨rfl, rfl, rfl, by simp, fun j _ hn => Below.heap_setCell w ⟨q, k, none⟩ u j (fun e => hn (by rw [e]))⟩
theorem OwnC.setq {B q : Nat} {c : Cf} {w : World} (h : OwnC B c w) (hq : ∀ i, i < 4 → (c.row i).ownBlock ≠ some q) (k : Nat) (u : Value) : OwnC B c (w.setCell ⟨q, k, none⟩ u) :=
  ⟨fun i hi => (h.own i hi).kept (grown_set w q k u) (by
    cases hv : (c.row i).ownBlock with
    | none => exact Or.inl rfl
    | some j => right; rw [← hv]; exact hq i hi), h.ap⟩
/-- Block q holds a Config; its rows lie from B on, and not in q. -/
structure KD (B q : Nat) (c : Cf) (w : World) : Prop where
  blk : Blk q c.cells w
  own : OwnC B c w
  nq : ∀ i, i < 4 → (c.row i).ownBlock ≠ some q
  bq : B ≤ q
theorem KD.lt {B q : Nat} {c : Cf} {w : World} (h : KD B q c w) : q < w.heap.size := h.blk.lt
theorem KD.draw {B p q : Nat} {c : Cf} {w w' : World} (h : KD B q c w) (ho : Only p w w') (hp : p < B) : KD B q c w' := ⟨h.blk.only ho h.lt (by have := h.bq; omega), h.own.only ho hp, h.nq, h.bq⟩
theorem KD.below {B q : Nat} {c : Cf} {w w' : World} (h : KD B q c w) (hb : Below w.heap.size w w') : KD B q c w' := ⟨h.blk.later hb h.lt, h.own.later hb, h.nq, h.bq⟩
theorem KD.drew {B q : Nat} {c : Cf} {w : World} (h : KD B q c w) : KD B q c w.drew := h.below (Below.refl _ _).drew
theorem KD.alloc {B q : Nat} {c : Cf} {w : World} (h : KD B q c w) (o : Obj) : KD B q c (w.alloc o) := h.below ((Below.refl _ _).alloc (Nat.le_refl _) _)
theorem KD.app {B q : Nat} {c d : Cf} {w w' : World} (h : KD B q c w) {i : Nat} (hi : i < 4) (hd : Else i c d) (hg : w.grownBy w' (c.row i).ownBlock) (ho : w'.ownsRow B (ety i) (esz i) (d.row i) (d.len i) (d.cel i))
    (hat : (d.row i).ownBlock = (c.row i).ownBlock ∨ ∃ k, (d.row i).ownBlock = some k ∧ w.heap.size ≤ k) (hc : c.cells.set i (d.row i) = d.cells) :
    Blk q c.cells w' ∧ Below B w w' ∧ KD B q d (w'.setCell ⟨q, i, none⟩ (d.row i)) := by
  have hlt := h.lt
  have hb : Below B w w' := by
    refine ⟨hg.os, hg.tape, hg.output, hg.size, fun k hk => hg.block k (by have := h.bq; omega) (fun e => ?_)⟩
    have := ((h.own.own i hi).lt k e.symm).1
    omega
  have hB : Blk q c.cells w' := by
    have e := hg.block q hlt (fun e => h.nq i hi e.symm)
    exact ⟨fun j v hv => ⟨(World.cell?_of_block (a := ⟨q, j, none⟩) e).trans (h.blk.out j v hv).1, (World.frozen?_of_block (a := ⟨q, j, none⟩) e).trans (h.blk.out j v hv).2⟩⟩
  have hn : ∀ j, j < 4 → (d.row j).ownBlock ≠ some q := by
    intro j hj
    by_cases e : j = i
    · subst e
      rcases hat with e1 | ⟨k, e1, hk⟩
      · rw [e1]; exact h.nq j hj
      · rw [e1]; intro e2; cases e2; omega
    · rw [(hd j hj e).1]; exact h.nq j hj
  refine ⟨hB, hb, ⟨?_, (h.own.turn hi hd hg ho hat).setq hn _ _, hn, h.bq⟩⟩
  rw [← hc]
  exact hB.set i (d.row i)
theorem KD.skew {B q : Nat} {c : Cf} {w : World} (h : KD B q c w) (x : Int) : KD B q (⟨c.ua, c.uc, c.U, c.sa, c.sc, c.S, c.la, c.lc, c.L, c.xa, c.xc, c.X, x⟩ : Cf) (w.setCell ⟨q, 4, none⟩ (.int .i64 x)) :=
  ⟨h.blk.set 4 (.int .i64 x), OwnC.setq (c := ⟨c.ua, c.uc, c.U, c.sa, c.sc, c.S, c.la, c.lc, c.L, c.xa, c.xc, c.X, x⟩) ⟨h.own.own, h.own.ap⟩ h.nq _ _, h.nq, h.bq⟩
theorem KD.elem {B q g : Nat} {c : Cf} {w : World} (h : KD B q c w) (e : c.ua = some ⟨g, 0, none⟩) (y : Int) :
    KD B q (⟨c.ua, c.uc, c.U.set 0 y, c.sa, c.sc, c.S, c.la, c.lc, c.L, c.xa, c.xc, c.X, c.k⟩ : Cf) (w.setCell ⟨g, 0, none⟩ (.int .i64 y)) ∧ Below B w (w.setCell ⟨g, 0, none⟩ (.int .i64 y)) := by
  have r0 : c.row 0 = .slice (some ⟨g, 0, none⟩) c.U.length c.uc := by show Value.slice c.ua _ _ = _; rw [e]
  have ob : (c.row 0).ownBlock = some g := by rw [r0]; rfl
  have o0 := h.own.own 0 (by omega)
  have hgB := (o0.lt g ob).1
  have hgq : g ≠ q := fun e2 => h.nq 0 (by omega) (by rw [ob, e2])
  rw [r0] at o0
  have st := (World.ownsRow.stored (show w.ownsRow B 3 1 (.slice (some ⟨g, 0, none⟩) c.U.length c.uc) c.U.length (intV c.U) from o0) 0 (.int .i64 y)).1
  have sv : (intV c.U).set 0 (.int .i64 y) = intV (c.U.set 0 y) := by unfold intV; rw [List.map_set]
  rw [sv] at st
  have ll : (c.U.set 0 y).length = c.U.length := by simp
  refine ⟨⟨?_, ?_, ?_, h.bq⟩, (Below.refl B w).setCell (by dsimp only; omega) _⟩
  · have := h.blk.far (g' := g) hgq 0 (.int .i64 y)
    show Blk q [.slice c.ua (c.U.set 0 y).length c.uc, _, _, _, _] _
    rw [ll]
    exact this
  · refine h.own.turn (i := 0) (by omega) (fun j hj hn => ?_) (by rw [ob]; exact grown_set w g 0 _) ?_ (Or.inl (by show (Value.slice c.ua (c.U.set 0 y).length c.uc).ownBlock = _; rw [ll]; rfl))
    · match j, hj, hn with
      | 0, _, h => exact absurd rfl h
      | 1, _, _ => exact ⟨rfl, rfl, rfl⟩
      | 2, _, _ => exact ⟨rfl, rfl, rfl⟩
      | 3, _, _ => exact ⟨rfl, rfl, rfl⟩
      | _ + 4, h, _ => omega
    · show (w.setCell ⟨g, 0, none⟩ (.int .i64 y)).ownsRow B 3 1 (.slice c.ua (c.U.set 0 y).length c.uc) (c.U.set 0 y).length (intV (c.U.set 0 y))
      rw [ll, e]
      exact st
  · intro i hi
    match i, hi with
    | 0, _ => show (Value.slice c.ua (c.U.set 0 y).length c.uc).ownBlock ≠ _; rw [ll]; exact h.nq 0 (by omega)
    | 1, _ => exact h.nq 1 (by omega)
    | 2, _ => exact h.nq 2 (by omega)
    | 3, _ => exact h.nq 3 (by omega)
    | _ + 4, h => omega
/-- Few stand in the rows. -/
structure Lim (c : Cf) : Prop where
  u : c.U.length ≤ 20
  s : c.S.length ≤ 20
  l : c.L.length ≤ 20
  x : c.X.length ≤ 20
end Go.Proofs.Ytgmbgginddfnmaa
