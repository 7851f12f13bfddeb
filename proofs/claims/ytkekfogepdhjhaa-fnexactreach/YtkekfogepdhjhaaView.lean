/- The view: what lies ahead, what is there, what is locked: in memory. -/
import Derived.Test.YtkekfogepdhjhaaQueue
import Derived.Maps.OwnSet
import Derived.Maps.Views
import Derived.StringKeys
set_option linter.unusedVariables false
namespace Go.Proofs.Ytkekfogepdhjhaa
open Go.RowKit Own Var Term

/-- A lock's value is kept as it is. -/
def heldR : Value → Option (DataW Value × List MemPlace) := fun v => some (.held v, [])
def lock0 : Value := .agg #[.bool false, .slice none 0 0]

/-- How far one has come: what lies ahead, what is there, what is said of each key. -/
structure VS where
  A : List ByteArray
  T : List ByteArray
  F : Int → Bool × List ByteArray
def VS.row (s : VS) : Option Int → List ByteArray
  | none => s.A
  | some k => (s.F k).2
def VS.reach (s : VS) (k : Int) : VS := ⟨s.A ++ (s.F k).2, s.T, fun j => if j = k then (true, []) else s.F j⟩

/-- The view lies in block p and says s; none of its blocks is one of X. -/
structure ViewM (X : Nat → Prop) (p N mT mL : Nat) (DT DL : DataW Value) (rv : Option Int → Value) (s : VS) (w : World) : Prop where
  xp : ¬ X p
  xT : ¬ X mT
  xL : ¬ X mL
  pT : p ≠ mT
  pL : p ≠ mL
  tL : mT ≠ mL
  pm : mT + 2 = p
  xlt : ∀ k, X k → k < w.heap.size
  c0 : w.cell? ⟨p, 0, none⟩ = some (rv none)
  c1 : w.cell? ⟨p, 1, none⟩ = some (.map (some mT))
  c2 : w.cell? ⟨p, 2, none⟩ = some (.map (some mL))
  f0 : w.frozen? ⟨p, 0, none⟩ = false
  mt : w.ownsMap Try.prog 9 unitElem mT N DT
  ht : ∀ t : ByteArray, t.size ≤ 1048576 → (Maps.has DT (.string t.data.toList) = true ↔ t ∈ s.T)
  ml : w.ownsMap Try.prog 3 heldR mL N DL
  hl : ∀ k, (Lit.int .i64 k).wf = true → DL.atKey (.int .i64 k) (.held lock0) = .held (.agg #[.bool (s.F k).1, rv (some k)])
  q : ∀ i, QRow 0 w (rv i) (s.row i)
  ne : ∀ i j b, (rv i).ownBlock = some b → (rv j).ownBlock = some b → i = j
  far : ∀ i b, (rv i).ownBlock = some b → b ≠ p ∧ b ≠ mT ∧ b ≠ mL ∧ ¬ X b
def ViewAt (X : Nat → Prop) (p N : Nat) (s : VS) (w : World) : Prop := ∃ mT mL DT DL rv, ViewM X p N mT mL DT DL rv s w

/-- Nothing that is in X has changed. -/
structure Keep (X : Nat → Prop) (w w' : World) : Prop where
  os : w'.os = w.os
  tape : w'.tape = w.tape
  output : w'.output = w.output
  size : w.heap.size ≤ w'.heap.size
  block : ∀ k, X k → w'.heap[k]? = w.heap[k]?
theorem Keep.refl (X : Nat → Prop) (w : World) : Keep X w w := ⟨rfl, rfl, rfl, Nat.le_refl _, fun _ _ => rfl⟩
theorem Keep.trans {X : Nat → Prop} {a b c : World} (h : Keep X a b) (k : Keep X b c) : Keep X a c :=
  ⟨k.os.trans h.os, k.tape.trans h.tape, k.output.trans h.output, Nat.le_trans h.size k.size, fun i hi => (k.block i hi).trans (h.block i hi)⟩
theorem Keep.mono {X Y : Nat → Prop} {a b : World} (h : Keep X a b) (hy : ∀ k, Y k → X k) : Keep Y a b := ⟨h.os, h.tape, h.output, h.size, fun i hi => h.block i (hy i hi)⟩
theorem Keep.below {B : Nat} {a b : World} (h : Keep (fun k => k < B) a b) : Below B a b := ⟨h.os, h.tape, h.output, h.size, h.block⟩
theorem Keep.ofBelow {X : Nat → Prop} {a b : World} {B : Nat} (h : Below B a b) (hX : ∀ k, X k → k < B) : Keep X a b := ⟨h.os, h.tape, h.output, h.size, fun k hk => h.block k (hX k hk)⟩
theorem Keep.grown {X : Nat → Prop} {a b : World} {row : Option Nat} (h : a.grownBy b row) (hX : ∀ k, X k → k < a.heap.size) (hr : ∀ k, row = some k → ¬ X k) : Keep X a b :=
  ⟨h.os, h.tape, h.output, h.size, fun k hk => h.block k (hX k hk) (fun e => hr k e.symm hk)⟩
theorem Keep.cell {X : Nat → Prop} {a b : World} (h : Keep X a b) {g : Nat} (hg : X g) (o : Nat) : b.cell? ⟨g, o, none⟩ = a.cell? ⟨g, o, none⟩ := World.cell?_of_block (a := ⟨g, o, none⟩) (h.block g hg)
theorem Keep.frozen {X : Nat → Prop} {a b : World} (h : Keep X a b) {g : Nat} (hg : X g) (o : Nat) : b.frozen? ⟨g, o, none⟩ = a.frozen? ⟨g, o, none⟩ := World.frozen?_of_block (a := ⟨g, o, none⟩) (h.block g hg)

theorem ViewM.lt {X : Nat → Prop} {p N mT mL : Nat} {DT DL : DataW Value} {rv : Option Int → Value} {s : VS} {w : World} (h : ViewM X p N mT mL DT DL rv s w) : p < w.heap.size ∧ mT < w.heap.size ∧ mL < w.heap.size :=
  ⟨World.block_lt_of_cell? w _ h.c0, h.mt.lt, h.ml.lt⟩
/-- The view stays what it is while its blocks do; what is held apart may be held apart anew. -/
theorem ViewM.kept {X Y : Nat → Prop} {p N mT mL : Nat} {DT DL : DataW Value} {rv : Option Int → Value} {s : VS} {w w' : World} (h : ViewM X p N mT mL DT DL rv s w) (hs : w.heap.size ≤ w'.heap.size) (hb : ∀ k, k < w.heap.size → ¬ X k → w'.heap[k]? = w.heap[k]?)
    (hY : ∀ k, Y k → k < w'.heap.size ∧ (X k ∨ w.heap.size ≤ k)) : ViewM Y p N mT mL DT DL rv s w' := by
  obtain ⟨lp, lT, lL⟩ := h.lt
  have ep := hb p lp h.xp
  have eT := hb mT lT h.xT
  have eL := hb mL lL h.xL
  have no : ∀ k, k < w.heap.size → ¬ X k → ¬ Y k := fun k hk hx hy => by
    rcases (hY k hy).2 with h1 | h1
    · exact hx h1
    · omega
  refine ⟨no p lp h.xp, no mT lT h.xT, no mL lL h.xL, h.pT, h.pL, h.tL, h.pm, fun k hk => (hY k hk).1, ?_, ?_, ?_, ?_, ?_, h.ht, ?_, h.hl, ?_, h.ne, ?_⟩
  · rw [World.cell?_of_block (a := ⟨p, 0, none⟩) ep]; exact h.c0
  · rw [World.cell?_of_block (a := ⟨p, 1, none⟩) ep]; exact h.c1
  · rw [World.cell?_of_block (a := ⟨p, 2, none⟩) ep]; exact h.c2
  · rw [World.frozen?_of_block (a := ⟨p, 0, none⟩) ep]; exact h.f0
  · obtain ⟨es, clock, hb', F, hs', hD⟩ := h.mt
    exact ⟨es, clock, eT.trans hb', F, hs', hD⟩
  · obtain ⟨es, clock, hb', F, hs', hD⟩ := h.ml
    exact ⟨es, clock, eL.trans hb', F, hs', hD⟩
  · exact fun i => (h.q i).kept hs fun k hk => hb k ((h.q i).lt hk).2 (h.far i k hk).2.2.2
  · intro i b hib
    obtain ⟨h1, h2, h3, h4⟩ := h.far i b hib
    exact ⟨h1, h2, h3, no b ((h.q i).lt hib).2 h4⟩
theorem ViewM.below {X : Nat → Prop} {p N mT mL : Nat} {DT DL : DataW Value} {rv : Option Int → Value} {s : VS} {w w' : World} (h : ViewM X p N mT mL DT DL rv s w) (hb : Below w.heap.size w w') : ViewM X p N mT mL DT DL rv s w' :=
  h.kept hb.size (fun k hk _ => hb.block k hk) (fun k hk => ⟨Nat.lt_of_lt_of_le (h.xlt k hk) hb.size, Or.inl hk⟩)
theorem ViewAt.below {X : Nat → Prop} {p N : Nat} {s : VS} {w w' : World} (h : ViewAt X p N s w) (hb : Below w.heap.size w w') : ViewAt X p N s w' := by
  obtain ⟨mT, mL, DT, DL, rv, h⟩ := h
  exact ⟨mT, mL, DT, DL, rv, h.below hb⟩
theorem ViewAt.less {X Y : Nat → Prop} {p N : Nat} {s : VS} {w : World} (h : ViewAt X p N s w) (hY : ∀ k, Y k → X k) : ViewAt Y p N s w := by
  obtain ⟨mT, mL, DT, DL, rv, h⟩ := h
  exact ⟨mT, mL, DT, DL, rv, h.kept (Nat.le_refl _) (fun _ _ _ => rfl) (fun k hk => ⟨h.xlt k (hY k hk), Or.inl (hY k hk)⟩)⟩
/-- A new block is held apart. -/
theorem ViewAt.apart {X : Nat → Prop} {p N : Nat} {s : VS} {w : World} (h : ViewAt X p N s w) (o : Obj) : ViewAt (fun k => X k ∨ k = w.heap.size) p N s (w.alloc o) := by
  obtain ⟨mT, mL, DT, DL, rv, h⟩ := h
  refine ⟨mT, mL, DT, DL, rv, h.kept (by simp) (fun k hk _ => Below.heap_alloc w o k hk) (fun k hk => ?_)⟩
  rcases hk with hk | rfl
  · exact ⟨by have := h.xlt k hk; simp; omega, Or.inl hk⟩
  · exact ⟨by simp, Or.inr (Nat.le_refl _)⟩
theorem ViewAt.more {X : Nat → Prop} {p N N' : Nat} {s : VS} {w : World} (h : ViewAt X p N s w) (hN : N ≤ N') : ViewAt X p N' s w := by
  obtain ⟨mT, mL, DT, DL, rv, h⟩ := h
  exact ⟨mT, mL, DT, DL, rv, { h with mt := h.mt.mono hN, ml := h.ml.mono hN }⟩
theorem ViewAt.xlt {X : Nat → Prop} {p N : Nat} {s : VS} {w : World} (h : ViewAt X p N s w) : ∀ k, X k → k < w.heap.size := by
  obtain ⟨mT, mL, DT, DL, rv, h⟩ := h
  exact h.xlt

/-- What lies ahead is what was there and is appended, stored back. -/
theorem ViewM.ahead {X : Nat → Prop} {p N mT mL : Nat} {DT DL : DataW Value} {rv : Option Int → Value} {s : VS} {w : World} (h : ViewM X p N mT mL DT DL rv s w) (ty : TypeId) {x : Value} {ys : List ByteArray} (hs : Src Try.prog 1 24 x ys.length (strV ys) w) (hl : s.A.length + ys.length ≤ 8589934592) :
    ∃ v' w', (Builtin.append_ #[24, 24] ty #[rv none, x]).run Try.prog w = .ok v' w' ∧ Keep X w (w'.setCell ⟨p, 0, none⟩ v') ∧ w.grownBy w' (rv none).ownBlock ∧ (∃ a n cap, v' = .slice a n cap) ∧
      ViewM X p N mT mL DT DL (fun i => match i with | none => v' | some k => rv (some k)) ⟨s.A ++ ys, s.T, s.F⟩ (w'.setCell ⟨p, 0, none⟩ v') := by
  obtain ⟨v', w', hrun, hq, hg, hat, _⟩ := (h.q none).append (Nat.zero_le _) ty hs (by exact hl)
  obtain ⟨lp, lT, lL⟩ := h.lt
  have fp : ∀ b, (rv none).ownBlock = some b → b ≠ p ∧ b ≠ mT ∧ b ≠ mL ∧ ¬ X b := h.far none
  have eb : ∀ k, k < w.heap.size → (∀ b, (rv none).ownBlock = some b → k ≠ b) → w'.heap[k]? = w.heap[k]? := fun k hk hn => hg.block k hk (fun e => hn k e.symm rfl)
  have ep := eb p lp fun b hb e => (fp b hb).1 e.symm
  have eT := eb mT lT fun b hb e => (fp b hb).2.1 e.symm
  have eL := eb mL lL fun b hb e => (fp b hb).2.2.1 e.symm
  have es : ∀ k, k ≠ p → (w'.setCell ⟨p, 0, none⟩ v').heap[k]? = w'.heap[k]? := fun k hk => Below.heap_setCell w' ⟨p, 0, none⟩ v' k (fun e => hk e)
  have hz : (w'.setCell ⟨p, 0, none⟩ v').heap.size = w'.heap.size := by simp
  have d0 : w'.cell? ⟨p, 0, none⟩ = some (rv none) := (World.cell?_of_block (a := ⟨p, 0, none⟩) ep).trans h.c0
  have d1 : w'.cell? ⟨p, 1, none⟩ = some (.map (some mT)) := (World.cell?_of_block (a := ⟨p, 1, none⟩) ep).trans h.c1
  have d2 : w'.cell? ⟨p, 2, none⟩ = some (.map (some mL)) := (World.cell?_of_block (a := ⟨p, 2, none⟩) ep).trans h.c2
  have hv' : ∀ b, v'.ownBlock = some b → b ≠ p ∧ b ≠ mT ∧ b ≠ mL ∧ ¬ X b := by
    intro b hb
    rcases hat with e | e
    · rw [e] at hb; exact fp b hb
    · rw [e] at hb; cases hb
      exact ⟨by omega, by omega, by omega, fun hx => Nat.lt_irrefl _ (h.xlt _ hx)⟩
  have hvk : ∀ k b, v'.ownBlock = some b → (rv (some k)).ownBlock = some b → False := by
    intro k b hb hb2
    rcases hat with e | e
    · rw [e] at hb; have := h.ne none (some k) b hb hb2; cases this
    · rw [e] at hb; cases hb; exact Nat.lt_irrefl _ ((h.q (some k)).lt hb2).2
  refine ⟨v', w', hrun, ?_, hg, ?_, ?_⟩
  · have k1 : Keep X w w' := Keep.grown hg h.xlt fun k hk => (fp k hk).2.2.2
    have k2 := (Below.refl 0 w').setCell (p := ⟨p, 0, none⟩) (Nat.zero_le _) v'
    exact k1.trans ⟨k2.os, k2.tape, k2.output, k2.size, fun k hk => es k (fun e => h.xp (e ▸ hk))⟩
  · obtain ⟨a, cap, e, _⟩ := hq.shape; exact ⟨a, _, cap, e⟩
  · refine ⟨h.xp, h.xT, h.xL, h.pT, h.pL, h.tL, h.pm, fun k hk => by rw [hz]; exact Nat.lt_of_lt_of_le (h.xlt k hk) hg.size, ?_, ?_, ?_, ?_, ?_, h.ht, ?_, ?_, ?_, ?_, ?_⟩
    · exact World.cell?_setCell_same' _ _ _ (by rw [d0]; rfl)
    · rw [World.cell?_setCell_other _ _ _ _ (by simp)]; exact d1
    · rw [World.cell?_setCell_other _ _ _ _ (by simp)]; exact d2
    · rw [World.frozen?_setCell, World.frozen?_of_block (a := ⟨p, 0, none⟩) ep]; exact h.f0
    · obtain ⟨es', clock, hb', F, hs', hD⟩ := h.mt
      exact ⟨es', clock, (es mT (Ne.symm h.pT)).trans (eT.trans hb'), F, hs', hD⟩
    · obtain ⟨es', clock, hb', F, hs', hD⟩ := h.ml
      exact ⟨es', clock, (es mL (Ne.symm h.pL)).trans (eL.trans hb'), F, hs', hD⟩
    · exact fun k hk => h.hl k hk
    · intro i
      cases i with
      | none => exact hq.kept (Nat.le_of_eq hz.symm) fun b hb => es b (hv' b hb).1
      | some k =>
        refine (h.q (some k)).kept (by rw [hz]; exact hg.size) fun b hb => ?_
        rw [es b (h.far (some k) b hb).1]
        exact eb b ((h.q (some k)).lt hb).2 fun b2 hb2 e => by subst e; have := h.ne none (some k) b hb2 hb; cases this
    · intro i j b hi hj
      cases i with
      | none =>
        cases j with
        | none => rfl
        | some k => exact (hvk k b hi hj).elim
      | some k =>
        cases j with
        | none => exact (hvk k b hj hi).elim
        | some k' => exact h.ne (some k) (some k') b hi hj
    · intro i b hi
      cases i with
      | none => exact hv' b hi
      | some k => exact h.far (some k) b hi

/-- What is shut behind a key is what was there and is appended; it isn't stored back yet. -/
theorem ViewM.shut {X : Nat → Prop} {p N mT mL : Nat} {DT DL : DataW Value} {rv : Option Int → Value} {s : VS} {w : World} (h : ViewM X p N mT mL DT DL rv s w) (k : Int) (ty : TypeId) {x : Value} {ys : List ByteArray} (hs : Src Try.prog 1 24 x ys.length (strV ys) w) (hl : (s.F k).2.length + ys.length ≤ 8589934592) :
    ∃ v' w', (Builtin.append_ #[24, 24] ty #[rv (some k), x]).run Try.prog w = .ok v' w' ∧ Keep X w w' ∧ ViewM X p N mT mL DT DL rv s w' ∧ QRow 0 w' v' ((s.F k).2 ++ ys) ∧ (∃ a n cap, v' = .slice a n cap) ∧
      (∀ b, v'.ownBlock = some b → (b ≠ p ∧ b ≠ mT ∧ b ≠ mL ∧ ¬ X b) ∧ ∀ i, i ≠ some k → (rv i).ownBlock ≠ some b) := by
  obtain ⟨v', w', hrun, hq, hg, hat, hold⟩ := (h.q (some k)).append (Nat.zero_le _) ty hs (by exact hl)
  obtain ⟨lp, lT, lL⟩ := h.lt
  have fp : ∀ b, (rv (some k)).ownBlock = some b → b ≠ p ∧ b ≠ mT ∧ b ≠ mL ∧ ¬ X b := h.far (some k)
  have eb : ∀ j, j < w.heap.size → (∀ b, (rv (some k)).ownBlock = some b → j ≠ b) → w'.heap[j]? = w.heap[j]? := fun j hj hn => hg.block j hj (fun e => hn j e.symm rfl)
  have ep := eb p lp fun b hb e => (fp b hb).1 e.symm
  have eT := eb mT lT fun b hb e => (fp b hb).2.1 e.symm
  have eL := eb mL lL fun b hb e => (fp b hb).2.2.1 e.symm
  refine ⟨v', w', hrun, Keep.grown hg h.xlt fun j hj => (fp j hj).2.2.2, ?_, hq, ?_, ?_⟩
  · refine ⟨h.xp, h.xT, h.xL, h.pT, h.pL, h.tL, h.pm, fun j hj => Nat.lt_of_lt_of_le (h.xlt j hj) hg.size, (World.cell?_of_block (a := ⟨p, 0, none⟩) ep).trans h.c0, (World.cell?_of_block (a := ⟨p, 1, none⟩) ep).trans h.c1, (World.cell?_of_block (a := ⟨p, 2, none⟩) ep).trans h.c2, (World.frozen?_of_block (a := ⟨p, 0, none⟩) ep).trans h.f0, ?_, h.ht, ?_, h.hl, ?_, h.ne, h.far⟩
    · obtain ⟨es', clock, hb', F, hs', hD⟩ := h.mt
      exact ⟨es', clock, eT.trans hb', F, hs', hD⟩
    · obtain ⟨es', clock, hb', F, hs', hD⟩ := h.ml
      exact ⟨es', clock, eL.trans hb', F, hs', hD⟩
    · intro i
      by_cases e : i = some k
      · subst e; exact hold
      · exact (h.q i).kept hg.size fun b hb => eb b ((h.q i).lt hb).2 fun b2 hb2 e2 => e (by subst e2; exact h.ne i (some k) b hb hb2)
  · obtain ⟨a, cap, e, _⟩ := hq.shape; exact ⟨a, _, cap, e⟩
  · intro b hb
    rcases hat with e | e
    · rw [e] at hb
      exact ⟨fp b hb, fun i hi e2 => hi (h.ne i (some k) b e2 hb)⟩
    · rw [e] at hb; cases hb
      exact ⟨⟨by omega, by omega, by omega, fun hx => Nat.lt_irrefl _ (h.xlt _ hx)⟩, fun i _ e2 => Nat.lt_irrefl _ ((h.q i).lt e2).2⟩
end Go.Proofs.Ytkekfogepdhjhaa

set_option linter.unusedVariables false
namespace Go.Proofs.Ytkekfogepdhjhaa
open Go.RowKit Own Var Term

theorem keyed3 : Maps.Keyed Try.prog 3 := Maps.int_keyed Try.underlying3
theorem keyed9 : Maps.Keyed Try.prog 9 := Maps.string_keyed Try.underlying9

section
variable {X : Nat → Prop} {p N mT mL : Nat} {DT DL : DataW Value} {rv : Option Int → Value} {s : VS} {w : World}

theorem ViewM.lookup (h : ViewM X p N mT mL DT DL rv s w) {k : Int} (hk : (Lit.int .i64 k).wf = true) :
    (Instr.lookup 83 (.map (some mL)) (.int .i64 k) false).run Try.prog w = .ok (.agg #[.bool (s.F k).1, rv (some k)]) w := by
  obtain ⟨v, ps, hrun, hv⟩ := h.ml.lookup keyed3 Try.underlying83 (Try.zeroValue87 w) (zd := .held lock0) (zp := []) rfl (Maps.keyOf_int_mk Try.underlying3 hk)
  rw [h.hl k hk] at hv
  have : v = .agg #[.bool (s.F k).1, rv (some k)] := by
    unfold heldR at hv
    simp only [Option.some.injEq, Prod.mk.injEq, DataW.held.injEq] at hv
    exact hv.1
  rw [← this]
  exact hrun

theorem ViewM.saw (h : ViewM X p N mT mL DT DL rv s w) {t : ByteArray} (ht : t.size ≤ 1048576) :
    ∃ b, (Instr.lookup 82 (.map (some mT)) (.string t) true).run Try.prog w = .ok (.tuple #[.agg #[], .bool b]) w ∧ (b = true ↔ t ∈ s.T) := by
  obtain ⟨v, ps, hrun, hv⟩ := h.mt.look_ok keyed9 Try.underlying82 (Try.zeroValue116 w) (zd := .agg []) (zp := []) unitElem_mk (Go.WideMaps.keyOf_string_mk Try.underlying9 (s := t) (by unfold maxLen; omega))
  obtain ⟨rfl, _⟩ := unitElem_inv hv
  exact ⟨_, hrun, h.ht t ht⟩

/-- A text is put among what is there. -/
theorem ViewM.see (h : ViewM X p N mT mL DT DL rv s w) (hN : N < 8589934592) {t : ByteArray} (ht : t.size ≤ 1048576) :
    ∃ w', (Instr.mapUpdate 82 (.map (some mT)) (.string t) (.agg #[])).run Try.prog w = .ok () w' ∧ Keep X w w' ∧ ViewAt X p (N + 1) ⟨s.A, s.T ++ [t], s.F⟩ w' := by
  have hm : t.size ≤ maxLen := by unfold maxLen; omega
  obtain ⟨w', hrun, ho, hg⟩ := h.mt.update keyed9 Try.underlying82 (by unfold maxLen; omega) (Go.WideMaps.keyOf_string_mk Try.underlying9 (s := t) hm) (unitElem_mk (H := Value))
  obtain ⟨lp, lT, lL⟩ := h.lt
  have eb : ∀ k, k < w.heap.size → k ≠ mT → w'.heap[k]? = w.heap[k]? := fun k hk hn => hg.block k hk (fun e => hn (by cases e; rfl))
  have ep := eb p lp h.pT
  have eL := eb mL lL (Ne.symm h.tL)
  refine ⟨w', hrun, Keep.grown hg h.xlt (fun k hk => by cases hk; exact h.xT), mT, mL, DT.put (.string t.data.toList) (.agg []), DL, rv, ?_⟩
  refine ⟨h.xp, h.xT, h.xL, h.pT, h.pL, h.tL, h.pm, fun k hk => Nat.lt_of_lt_of_le (h.xlt k hk) hg.size, ?_, ?_, ?_, ?_, ho, ?_, ?_, h.hl, ?_, h.ne, h.far⟩
  · exact (World.cell?_of_block (a := ⟨p, 0, none⟩) ep).trans h.c0
  · exact (World.cell?_of_block (a := ⟨p, 1, none⟩) ep).trans h.c1
  · exact (World.cell?_of_block (a := ⟨p, 2, none⟩) ep).trans h.c2
  · exact (World.frozen?_of_block (a := ⟨p, 0, none⟩) ep).trans h.f0
  · intro u hu
    by_cases e : u = t
    · subst e
      rw [Maps.has_put_same (k := .string u.data.toList) h.mt.isMap trivial]
      simp
    · have hne : (Lit.string u.data.toList) ≠ .string t.data.toList := by
        intro e2
        apply e
        have e3 : u.data.toList = t.data.toList := by injection e2
        have e4 : u.data = t.data := Array.ext' e3
        cases u; cases t; simp_all
      rw [Maps.has_put_other hne, h.ht u hu]
      simp [e]
  · obtain ⟨es', clock, hb', F, hs', hD⟩ := h.ml
    exact ⟨es', clock, eL.trans hb', F, Nat.le_succ_of_le hs', hD⟩
  · exact fun i => (h.q i).kept hg.size fun b hb => eb b ((h.q i).lt hb).2 (h.far i b hb).2.1

/-- What is said of a key is said anew. -/
theorem ViewM.put (h : ViewM X p N mT mL DT DL rv s w) (hN : N < 8589934592) {k : Int} (hk : (Lit.int .i64 k).wf = true) (r : Bool) (sv : Value) (ys : List ByteArray) (hq : QRow 0 w sv ys)
    (hsv : ∀ b, sv.ownBlock = some b → (b ≠ p ∧ b ≠ mT ∧ b ≠ mL ∧ ¬ X b) ∧ ∀ i, i ≠ some k → (rv i).ownBlock ≠ some b) :
    ∃ w', (Instr.mapUpdate 83 (.map (some mL)) (.int .i64 k) (.agg #[.bool r, sv])).run Try.prog w = .ok () w' ∧ Keep X w w' ∧ ViewAt X p (N + 1) ⟨s.A, s.T, fun j => if j = k then (r, ys) else s.F j⟩ w' := by
  obtain ⟨w', hrun, ho, hg⟩ := h.ml.update keyed3 Try.underlying83 (by unfold maxLen; omega) (Maps.keyOf_int_mk Try.underlying3 hk) (val := .agg #[.bool r, sv]) (d := .held (.agg #[.bool r, sv])) (ps := []) rfl
  obtain ⟨lp, lT, lL⟩ := h.lt
  have eb : ∀ j, j < w.heap.size → j ≠ mL → w'.heap[j]? = w.heap[j]? := fun j hj hn => hg.block j hj (fun e => hn (by cases e; rfl))
  have ep := eb p lp h.pL
  have eT := eb mT lT h.tL
  refine ⟨w', hrun, Keep.grown hg h.xlt (fun j hj => by cases hj; exact h.xL), mT, mL, DT, DL.put (.int .i64 k) (.held (.agg #[.bool r, sv])), (fun i => if i = some k then sv else rv i), ?_⟩
  have hr0 : (if (none : Option Int) = some k then sv else rv none) = rv none := if_neg (by simp)
  refine ⟨h.xp, h.xT, h.xL, h.pT, h.pL, h.tL, h.pm, fun j hj => Nat.lt_of_lt_of_le (h.xlt j hj) hg.size, ?_, ?_, ?_, ?_, ?_, h.ht, ho, ?_, ?_, ?_, ?_⟩
  · rw [hr0]; exact (World.cell?_of_block (a := ⟨p, 0, none⟩) ep).trans h.c0
  · exact (World.cell?_of_block (a := ⟨p, 1, none⟩) ep).trans h.c1
  · exact (World.cell?_of_block (a := ⟨p, 2, none⟩) ep).trans h.c2
  · exact (World.frozen?_of_block (a := ⟨p, 0, none⟩) ep).trans h.f0
  · obtain ⟨es', clock, hb', F, hs', hD⟩ := h.mt
    exact ⟨es', clock, eT.trans hb', F, Nat.le_succ_of_le hs', hD⟩
  · intro j hj
    by_cases e : j = k
    · subst e
      rw [Maps.atKey_put_same (k := .int .i64 j) h.ml.isMap trivial]
      simp only [if_true]
    · have hne : (Lit.int .i64 j) ≠ .int .i64 k := by intro e2; apply e; injection e2
      have hne2 : ¬ some j = some k := by intro e2; apply e; injection e2
      rw [Maps.atKey_put_other hne, h.hl j hj]
      simp only [if_neg e, if_neg hne2]
  · intro i
    by_cases e : i = some k
    · subst e
      rw [if_pos rfl]
      show QRow 0 w' sv (VS.row _ (some k))
      unfold VS.row
      simp only [if_true]
      exact hq.kept hg.size fun b hb => eb b (hq.lt hb).2 (hsv b hb).1.2.2.1
    · rw [if_neg e]
      have er : VS.row ⟨s.A, s.T, fun j => if j = k then (r, ys) else s.F j⟩ i = s.row i := by
        cases i with
        | none => rfl
        | some j =>
          have : j ≠ k := fun e2 => e (by rw [e2])
          unfold VS.row
          simp only [if_neg this]
      rw [er]
      exact (h.q i).kept hg.size fun b hb => eb b ((h.q i).lt hb).2 (h.far i b hb).2.2.1
  · intro i j b hi hj
    by_cases e1 : i = some k
    · by_cases e2 : j = some k
      · rw [e1, e2]
      · rw [if_pos e1] at hi
        rw [if_neg e2] at hj
        exact absurd hj ((hsv b hi).2 j e2)
    · by_cases e2 : j = some k
      · rw [if_neg e1] at hi
        rw [if_pos e2] at hj
        exact absurd hi ((hsv b hj).2 i e1)
      · rw [if_neg e1] at hi
        rw [if_neg e2] at hj
        exact h.ne i j b hi hj
  · intro i b hi
    by_cases e1 : i = some k
    · rw [if_pos e1] at hi; exact (hsv b hi).1
    · rw [if_neg e1] at hi; exact h.far i b hi
end
end Go.Proofs.Ytkekfogepdhjhaa
