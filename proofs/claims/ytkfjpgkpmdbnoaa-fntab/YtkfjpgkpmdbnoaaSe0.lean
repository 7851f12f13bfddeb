/- A row gone through by an iterator; sets of numbers kept in maps. -/
import Derived.Test.YtkfjpgkpmdbnoaaFl
import Derived.RangeFuncNested
import Derived.RangeFuncBound
import Derived.RangeFuncCalls
import Derived.RangeFuncLeaves
import Derived.WalkKit
import Derived.OwnWalkIn
import Derived.TacticsInMore
import Derived.LoopNIn
import Derived.LoopIn
import Derived.Maps.OwnIn
import Derived.Maps.OwnSet
import Derived.Maps.Views
import Derived.Shelf.Abstract
set_option linter.unusedVariables false
set_option maxRecDepth 100000
namespace Go.Proofs.Ytkfjpgkpmdbnoaa
open Go Go.RowKit Go.Joins Go.Shelf Own Maps
attribute [local go_sem] Oper.semAt_some

/-- A number within its range. -/
abbrev Z64 := { x : Int // (Lit.int .i64 x).wf = true }
def zV (x : Z64) : Value := .int .i64 x.1
def zs (xs : List Z64) : List Int := xs.map (·.1)
theorem zs_snoc (xs : List Z64) (x : Z64) : zs (xs ++ [x]) = zs xs ++ [x.1] := by unfold zs; simp
/-- All that lay below n lies as it did, but for what lies at b. -/
structure KB (b n : Nat) (w w' : World) : Prop where
  os : w'.os = w.os
  tape : w'.tape = w.tape
  output : w'.output = w.output
  size : w.heap.size ≤ w'.heap.size
  block : ∀ k, k < n → k ≠ b → w'.heap[k]? = w.heap[k]?
theorem KB.refl (b n : Nat) (w : World) : KB b n w w := ⟨rfl, rfl, rfl, Nat.le_refl _, fun _ _ _ => rfl⟩
theorem KB.trans {b n : Nat} {x y z : World} (h : KB b n x y) (k : KB b n y z) : KB b n x z :=
  ⟨k.os.trans h.os, k.tape.trans h.tape, k.output.trans h.output, Nat.le_trans h.size k.size, fun i hi hb => (k.block i hi hb).trans (h.block i hi hb)⟩
theorem KB.of {b n : Nat} {w w' : World} (h : Below n w w') : KB b n w w' := ⟨h.os, h.tape, h.output, h.size, fun k hk _ => h.block k hk⟩
theorem KB.below {b n m : Nat} {w w' : World} (h : KB b n w w') (hb : m ≤ b) (hn : m ≤ n) : Below m w w' := ⟨h.os, h.tape, h.output, h.size, fun k hk => h.block k (by omega) (by omega)⟩
theorem KB.mono {b n m : Nat} {w w' : World} (h : KB b n w w') (hn : m ≤ n) : KB b m w w' := ⟨h.os, h.tape, h.output, h.size, fun k hk => h.block k (by omega)⟩
theorem KB.cell {b n : Nat} {w w' : World} (h : KB b n w w') {p : Addr} (hp : p.block < n) (hb : p.block ≠ b) : w'.cell? p = w.cell? p := World.cell?_of_block (w := w) (h.block p.block hp hb)
theorem KB.grown {b n : Nat} {v w w' : World} {row : Option Nat} (h : KB b n v w) (hg : w.grownBy w' row) (hn : n ≤ w.heap.size) (hr : ∀ k, row = some k → n ≤ k ∨ k = b) : KB b n v w' :=
  h.trans ⟨hg.os, hg.tape, hg.output, hg.size, fun k hk hb => hg.block k (by omega) (fun e => by rcases hr k e.symm with h | h <;> omega)⟩
theorem KB.put {b n : Nat} {w : World} (hn : n ≤ w.heap.size) (W : World) (l : Nat) (o o' : Obj) (hl : w.heap.size ≤ l) (h : W.heap[l]? = some o) (h1 : o.isCells = false) (h2 : o.isWalk = false) : KB b n W (W.putObj l o') :=
  KB.of (belowK_b hn W l o o' hl h h1 h2)
theorem KB.frozen {b n : Nat} {w w' : World} (h : KB b n w w') {p : Addr} (hp : p.block < n) (hb : p.block ≠ b) : w'.frozen? p = w.frozen? p := World.frozen?_of_block (w := w) (h.block p.block hp hb)
theorem ownFrom_kb {β : Type} {b n B : Nat} {w : World} (hw : n ≤ w.heap.size) (hn : n ≤ B) : OwnFrom B (fun (_ : β) W => KB b n w W) := fun s X Y row h hg hr =>
  h.grown hg (Nat.le_trans hw h.size) (fun k e => Or.inl (Nat.le_trans hn (hr k e).1))
/-- What is told by cells alone lies not in a map. -/
def NotMap (w : World) (b : Nat) : Prop := ∀ k j v, w.cell? ⟨k, j, none⟩ = some v → k ≠ b
theorem notMap {H : Type} {P : Program} {k : TypeId} {R : Value → Option (DataW H × List MemPlace)} {w : World} {b n : Nat} {D : DataW H} (h : w.ownsMap P k R b n D) : NotMap w b := by
  obtain ⟨es, ck, hb, _⟩ := h
  intro q j v hc e
  subst e
  simp [World.cell?, hb] at hc
theorem notMap_big {w : World} {b : Nat} (h : w.heap.size ≤ b) : NotMap w b := by
  intro q j v hc
  have := World.block_lt_of_cell? _ _ hc
  dsimp only at this
  omega
end Go.Proofs.Ytkfjpgkpmdbnoaa
