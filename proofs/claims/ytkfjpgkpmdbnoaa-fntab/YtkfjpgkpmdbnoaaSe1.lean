/- Sets of numbers: put, made of a row, asked, met. -/
import Derived.Test.YtkfjpgkpmdbnoaaSe0
import Derived.RangeFuncNested
import Derived.RangeFuncBound
import Derived.RangeFuncCalls
import Derived.RangeFuncLeaves
import Derived.WalkKit
import Derived.OwnWalkIn
import Derived.TacticsInMore
import Derived.LoopNIn
import Derived.LoopIn
import Derived.Maps.OwnIn
import Derived.Maps.OwnSet
import Derived.Maps.Views
import Derived.Shelf.Abstract
set_option linter.unusedVariables false
set_option maxRecDepth 100000
namespace Go.Proofs.Ytkfjpgkpmdbnoaa
open Go Go.RowKit Go.Joins Go.Shelf Own Maps
attribute [local go_sem] Oper.semAt_some

/-- The map that is made of a row, number by number. -/
def DS {H : Type} (xs : List Int) : DataW H := Maps.setOf (.agg []) (xs.map (Lit.int .i64))
theorem DS_snoc {H : Type} (xs : List Int) (x : Int) : DS (H := H) (xs ++ [x]) = (DS xs).put (.int .i64 x) (.agg []) := by
  unfold DS
  rw [List.map_append, List.map_cons, List.map_nil, Maps.setOf_snoc]
theorem same_key (x y : Int) : (Lit.int .i64 x).sameKey (.int .i64 y) = decide (x = y) := by simp [Lit.sameKey]
theorem DS_has {H : Type} (xs : List Int) (x : Int) : has (DS (H := H) xs) (.int .i64 x) = xs.contains x := by
  unfold DS
  rw [Maps.has_setOf _ _ _ (fun y hy => by obtain ⟨n, _, rfl⟩ := List.mem_map.1 hy; trivial), List.any_map]
  induction xs with
  | nil => rfl
  | cons y ys ih =>
    rw [List.any_cons, ih, List.contains_cons]
    simp only [Function.comp, same_key]
    congr 1
    by_cases e : y = x
    · subst e; simp
    · simp [e]; exact fun h => e h.symm
/-- The set lies at block b. -/
def SetAt (w : World) (b : Nat) (xs : List Int) : Prop := w.ownsMap Try.prog 3 (unitElem (H := Value)) b xs.length (DS xs)
theorem SetAt.lt {w : World} {b : Nat} {xs : List Int} (h : SetAt w b xs) : b < w.heap.size := World.ownsMap.lt h
theorem SetAt.later {w w' : World} {b : Nat} {xs : List Int} (h : SetAt w b xs) (hb : Below w.heap.size w w') : SetAt w' b xs := by
  have hl := h.lt
  obtain ⟨es, ck, hh, F, hs, hD⟩ := h
  exact ⟨es, ck, (hb.block b hl).trans hh, F, hs, hD⟩
theorem SetAt.low {w w' : World} {b n : Nat} {xs : List Int} (h : SetAt w b xs) (hb : Below n w w') (hn : b < n) : SetAt w' b xs := by
  obtain ⟨es, ck, hh, F, hs, hD⟩ := h
  exact ⟨es, ck, (hb.block b hn).trans hh, F, hs, hD⟩
theorem keyed3 : Keyed Try.prog 3 := Maps.int_keyed Try.underlying3
theorem zero107 (w : World) : (zeroValue 107).run Try.prog w = .ok (.agg #[]) w := by kernel_rfl
theorem Blk.keptC {g : Nat} {vs : List Value} {A B : World} {row : Option Nat} (h : Blk g vs A) (hg : A.grownBy B row) (hq : ∀ r, row = some r → ∃ o : Obj, A.heap[r]? = some o ∧ o.isCells = false) : Blk g vs B :=
  ⟨fun i v e => ⟨cell_kept (h.out i v e).1 hg hq, (frozen_kept (h.out i v e).1 hg hq).trans (h.out i v e).2⟩⟩
theorem grown_of_below {w w' : World} (h : Below w.heap.size w w') : w.grownBy w' none := ⟨h.os, h.tape, h.output, h.size, fun k hk _ => h.block k hk⟩
/-- The row's numbers, each once, in no order. -/
def once_ (xs : List Int) : Nat := Maps.size (DS (H := Value) xs)

end Go.Proofs.Ytkfjpgkpmdbnoaa
