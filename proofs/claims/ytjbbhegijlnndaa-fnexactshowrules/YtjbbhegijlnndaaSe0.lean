/- A row gone through by an iterator; sets of numbers kept in maps. -/
import Derived.Test.YtjbbhegijlnndaaFl
import Derived.RangeFuncNested
import Derived.RangeFuncBound
import Derived.RangeFuncCalls
import Derived.RangeFuncLeaves
import Derived.WalkKit
import Derived.OwnWalkIn
import Derived.TacticsInMore
import Derived.LoopNIn
import Derived.LoopIn
import Derived.Maps.OwnIn
import Derived.Maps.OwnSet
import Derived.Maps.Views
import Derived.Shelf.Abstract
set_option linter.unusedVariables false
set_option maxRecDepth 100000
namespace Go.Proofs.Ytjbbhegijlnndaa
open Go Go.RowKit Go.Joins Go.Shelf Own Maps
attribute [local go_sem] Oper.semAt_some

/-- A number within its range. -/
abbrev Z64 := { x : Int // (Lit.int .i64 x).wf = true }
def zV (x : Z64) : Value := .int .i64 x.1
def zs (xs : List Z64) : List Int := xs.map (·.1)
theorem zs_snoc (xs : List Z64) (x : Z64) : zs (xs ++ [x]) = zs xs ++ [x.1] := by unfold zs; simp
/-- All that lay below n lies as it did, but for what lies at b. -/
structure KB (b n : Nat) (w w' : World) : Prop where
  os : w'.os = w.os
  tape : w'.tape = w.tape
  output : w'.output = w.output
  size : w.heap.size ≤ w'.heap.size
  block : ∀ k, k < n → k ≠ b → w'.heap[k]? = w.heap[k]?
theorem KB.refl (b n : Nat) (w : World) : KB b n w w := ⟨rfl, rfl, rfl, Nat.le_refl _, fun _ _ _ => rfl⟩
theorem KB.trans {b n : Nat} {x y z : World} (h : KB b n x y) (k : KB b n y z) : KB b n x z :=
  ⟨k.os.trans h.os, k.tape.trans h.tape, k.output.trans h.output, Nat.le_trans h.size k.size, fun i hi hb => (k.block i hi hb).trans (h.block i hi hb)⟩
theorem KB.of {b n : Nat} {w w' : World} (h : Below n w w') : KB b n w w' := ⟨h.os, h.tape, h.output, h.size, fun k hk _ => h.block k hk⟩
theorem KB.below {b n m : Nat} {w w' : World} (h : KB b n w w') (hb : m ≤ b) (hn : m ≤ n) : Below m w w' := ⟨h.os, h.tape, h.output, h.size, fun k hk => h.block k (by omega) (by omega)⟩
theorem KB.mono {b n m : Nat} {w w' : World} (h : KB b n w w') (hn : m ≤ n) : KB b m w w' := ⟨h.os, h.tape, h.output, h.size, fun k hk => h.block k (by omega)⟩
theorem KB.cell {b n : Nat} {w w' : World} (h : KB b n w w') {p : Addr} (hp : p.block < n) (hb : p.block ≠ b) : w'.cell? p = w.cell? p := World.cell?_of_block (w := w) (h.block p.block hp hb)
theorem KB.grown {b n : Nat} {v w w' : World} {row : Option Nat} (h : KB b n v w) (hg : w.grownBy w' row) (hn : n ≤ w.heap.size) (hr : ∀ k, row = some k → n ≤ k ∨ k = b) : KB b n v w' :=
  h.trans ⟨hg.os, hg.tape, hg.output, hg.size, fun k hk hb => hg.block k (by omega) (fun e => by rcases hr k e.symm with h | h <;> omega)⟩
theorem KB.put {b n : Nat} {w : World} (hn : n ≤ w.heap.size) (W : World) (l : Nat) (o o' : Obj) (hl : w.heap.size ≤ l) (h : W.heap[l]? = some o) (h1 : o.isCells = false) (h2 : o.isWalk = false) : KB b n W (W.putObj l o') :=
  KB.of (belowK_b hn W l o o' hl h h1 h2)
theorem KB.frozen {b n : Nat} {w w' : World} (h : KB b n w w') {p : Addr} (hp : p.block < n) (hb : p.block ≠ b) : w'.frozen? p = w.frozen? p := World.frozen?_of_block (w := w) (h.block p.block hp hb)
theorem ownFrom_kb {β : Type} {b n B : Nat} {w : World} (hw : n ≤ w.heap.size) (hn : n ≤ B) : OwnFrom B (fun (_ : β) W => KB b n w W) := fun s X Y row h hg hr =>
  h.grown hg (Nat.le_trans hw h.size) (fun k e => Or.inl (Nat.le_trans hn (hr k e).1))
/-- What is told by cells alone lies not in a map. -/
def NotMap (w : World) (b : Nat) : Prop := ∀ k j v, w.cell? ⟨k, j, none⟩ = some v → k ≠ b
theorem notMap {H : Type} {P : Program} {k : TypeId} {R : Value → Option (DataW H × List MemPlace)} {w : World} {b n : Nat} {D : DataW H} (h : w.ownsMap P k R b n D) : NotMap w b := by
  obtain ⟨es, ck, hb, _⟩ := h
  intro q j v hc e
  subst e
  simp [World.cell?, hb] at hc
theorem notMap_big {w : World} {b : Nat} (h : w.heap.size ≤ b) : NotMap w b := by
  intro q j v hc
  have := World.block_lt_of_cell? _ _ hc
  dsimp only at this
  omega
set_option maxHeartbeats 3200000 in
theorem vals_in (m : Nat) (hm : 1 ≤ m) (l Bs b n : Nat) (a : Option Addr) (cap : Nat) (xs : List Z64) (hl : xs.length ≤ 1048576) (w0 : World) (hr : RowAt zV w0 a xs) (hn : w0.heap.size ≤ n) (hnb : NotMap w0 b) (hc : w0.cell? ⟨Bs, 0, none⟩ = some (.slice a xs.length cap))
    (J Jx : List Z64 → World → Prop) (W : World) (hW : Below w0.heap.size w0 W)
    (hY : ∀ pre x W1, J pre W1 → pre.length < xs.length → YieldAt Fence.wide (m - 1) Try.prog l #[zV x] W1 fun e W' =>
      (e = .returned (.bool true) ∧ J (pre ++ [x]) W' ∧ KB b n W1 W') ∨ (e = .returned (.bool false) ∧ Jx (pre ++ [x]) W'))
    (h0 : J [] W) :
    CallsIn Fence.wide m Try.prog 102 #[.func (.yield l) #[] #[], .pointer (some ⟨Bs, 0, none⟩)] W fun e W' => (∃ v, e = .returned v) ∧
      ((∃ ys, ys = xs ∧ J ys W') ∨ (∃ pre, True ∧ Jx pre W')) := by
  refine callsIn_of_wp Try.func102 rfl trivial ?_ rfl
  simp only [Try.ntmps102, List.size_toArray, List.length_cons, List.length_nil, Nat.reduceAdd, Nat.reduceSub, Array.replicate_succ, Array.replicate_zero, List.push_toArray, List.append_toArray, List.nil_append, List.cons_append]
  have e1 := (hW.cell (p := ⟨Bs, 0, none⟩) (World.block_lt_of_cell? _ _ hc)).trans hc
  gi_wp2
  gi_loopw [7] (fun i wr => ∃ j : Nat, j ≤ xs.length ∧ i = .int .i64 j ∧ J (xs.take j) wr ∧ KB b w0.heap.size w0 wr) (fun i _ => xs.length - (intOf i).toNat)
  case atStart => exact ⟨0, Nat.zero_le _, rfl, h0, KB.of hW⟩
  case round =>
    clear e1
    obtain ⟨j, hj, rfl, hJs, hnx⟩ := hrel
    by_cases hlt : j < xs.length
    · obtain ⟨g, off, rfl, hbl, c0⟩ := hr j hlt
      rw [← hnx.cell (p := ⟨g, off + j, none⟩) hbl (hnb _ _ _ c0)] at c0
      have hlt2 : (j : Int) < (xs.length : Int) := by omega
      have HS : xs.take (j + 1) = xs.take j ++ [xs[j]] := by rw [List.take_succ_eq_append_getElem hlt]
      have hlen : (xs.take j).length < xs.length := by rw [List.length_take]; omega
      obtain ⟨fn, tmps, assign, body, hyv, hR⟩ := hY _ xs[j] wr hJs hlen
      unfold zV at hyv c0
      clear hlen
      generalize (xs[j]).1 = z at hyv c0
      gi_wp2
      refine hR.mono ?_
      clear hR hyv
      rintro e W3 (⟨rfl, hJ3, hk3⟩ | ⟨rfl, hJx3⟩)
      · have BN := hnx.trans (hk3.mono hn)
        clear c0
        gi_wp2
        go_roundw
        case rel => exact ⟨j + 1, by omega, by go_num, by rw [HS]; exact hJ3, BN⟩
        case measure => simp [intOf]; omega
      · clear c0
        gi_wp2
        refine bodyPost_ret (results_none rfl _ _ _) rfl ?_
        exact ⟨⟨_, rfl⟩, .inr ⟨_, trivial, hJx3⟩⟩
    · obtain rfl : j = xs.length := by omega
      rw [List.take_length] at hJs
      gi_wp2
      go_end0
      exact ⟨⟨_, rfl⟩, .inl ⟨_, rfl, hJs⟩⟩
/-- The iterator hands out the row, number by number. -/
theorem vals_stops (m : Nat) (hm : 1 ≤ m) (Bs b n : Nat) (a : Option Addr) (cap : Nat) (xs : List Z64) (hl : xs.length ≤ 1048576) (w0 : World) (hr : RowAt zV w0 a xs) (hn : w0.heap.size ≤ n) (hnb : NotMap w0 b) (hc : w0.cell? ⟨Bs, 0, none⟩ = some (.slice a xs.length cap)) :
    SeqStopsK Fence.wide m Try.prog 102 #[.pointer (some ⟨Bs, 0, none⟩)] (fun x : Z64 => #[zV x]) (KB b n) (fun ys => ys = xs) (fun _ => True) xs.length w0 :=
  fun l J Jx W hW _ _ hY h0 => vals_in m hm l Bs b n a cap xs hl w0 hr hn hnb hc J Jx W hW hY h0
theorem values_is (a : Option Addr) (len cap : Nat) (w : World) : Calls Try.prog 88 #[.slice a len cap] w fun e w' => e = .returned (.func (.func 102) #[] #[.pointer (some ⟨w.heap.size, 0, none⟩)]) ∧ w' = w.alloc (.cells #[.slice a len cap] 32) := by
  go_enter Try.func88, Try.ntmps88
  go_wp2
  go_ret
  exact ⟨rfl, rfl⟩
end Go.Proofs.Ytjbbhegijlnndaa
