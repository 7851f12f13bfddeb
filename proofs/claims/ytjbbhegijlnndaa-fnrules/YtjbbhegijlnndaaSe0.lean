/- A row gone through by an iterator; sets of numbers kept in maps. -/
import Derived.Test.YtjbbhegijlnndaaFl
import Derived.RangeFuncNested
import Derived.RangeFuncBound
import Derived.RangeFuncCalls
import Derived.RangeFuncLeaves
import Derived.WalkKit
import Derived.OwnWalkIn
import Derived.TacticsInMore
import Derived.LoopNIn
import Derived.LoopIn
import Derived.Maps.OwnIn
import Derived.Maps.OwnSet
import Derived.Maps.Views
import Derived.Shelf.Abstract
set_option linter.unusedVariables false
set_option maxRecDepth 100000
namespace Go.Proofs.Ytjbbhegijlnndaa
open Go Go.RowKit Go.Joins Go.Shelf Own Maps
attribute [local go_sem] Oper.semAt_some

/-- A number within its range. -/
abbrev Z64 := { x : Int // (Lit.int .i64 x).wf = true }
def zV (x : Z64) : Value := .int .i64 x.1
def zs (xs : List Z64) : List Int := xs.map (·.1)
theorem zs_snoc (xs : List Z64) (x : Z64) : zs (xs ++ [x]) = zs xs ++ [x.1] := by unfold zs; simp
/-- All that lay below n lies as it did, but for what lies at b. -/
structure KB (b n : Nat) (w w' : World) : Prop where
  os : w'.os = w.os
  tape : w'.tape = w.tape
  output : w'.output = w.output
  size : w.heap.size ≤ w'.heap.size
  block : ∀ k, k < n → k ≠ b → w'.heap[k]? = w.heap[k]?
theorem KB.refl (b n : Nat) (w : World) : KB b n w w := ⟨rfl, rfl, rfl, Nat.le_refl _, fun _ _ _ => rfl⟩
theorem KB.trans {b n : Nat} {x y z : World} (h : KB b n x y) (k : KB b n y z) : KB b n x z :=
  ⟨k.os.trans h.os, k.tape.trans h.tape, k.output.trans h.output, Nat.le_trans h.size k.size, fun i hi hb => (k.block i hi hb).trans (h.block i hi hb)⟩
theorem KB.of {b n : Nat} {w w' : World} (h : Below n w w') : KB b n w w' := ⟨h.os, h.tape, h.output, h.size, fun k hk _ => h.block k hk⟩
theorem KB.below {b n m : Nat} {w w' : World} (h : KB b n w w') (hb : m ≤ b) (hn : m ≤ n) : Below m w w' := ⟨h.os, h.tape, h.output, h.size, fun k hk => h.block k (by omega) (by omega)⟩
theorem KB.mono {b n m : Nat} {w w' : World} (h : KB b n w w') (hn : m ≤ n) : KB b m w w' := ⟨h.os, h.tape, h.output, h.size, fun k hk => h.block k (by omega)⟩
theorem KB.cell {b n : Nat} {w w' : World} (h : KB b n w w') {p : Addr} (hp : p.block < n) (hb : p.block ≠ b) : w'.cell? p = w.cell? p := World.cell?_of_block (w := w) (h.block p.block hp hb)
theorem KB.grown {b n : Nat} {v w w' : World} {row : Option Nat} (h : KB b n v w) (hg : w.grownBy w' row) (hn : n ≤ w.heap.size) (hr : ∀ k, row = some k → n ≤ k ∨ k = b) : KB b n v w' :=
  h.trans ⟨hg.os, hg.tape, hg.output, hg.size, fun k hk hb => hg.block k (by omega) (fun e => by rcases hr k e.symm with h | h <;> omega)⟩
theorem KB.put {b n : Nat} {w : World} (hn : n ≤ w.heap.size) (W : World) (l : Nat) (o o' : Obj) (hl : w.heap.size ≤ l) (h : W.heap[l]? = some o) (h1 : o.isCells = false) (h2 : o.isWalk = false) : KB b n W (W.putObj l o') :=
  KB.of (belowK_b hn W l o o' hl h h1 h2)
theorem KB.frozen {b n : Nat} {w w' : World} (h : KB b n w w') {p : Addr} (hp : p.block < n) (hb : p.block ≠ b) : w'.frozen? p = w.frozen? p := World.frozen?_of_block (w := w) (h.block p.block hp hb)
theorem ownFrom_kb {β : Type} {b n B : Nat} {w : World} (hw : n ≤ w.heap.size) (hn : n ≤ B) : OwnFrom B (fun (_ : β) W => KB b n w W) := fun s X Y row h hg hr =>
  h.grown hg (Nat.le_trans hw h.size) (fun k e => Or.inl (Nat.le_trans hn (hr k e).1))
/-- What is told by cells alone lies not in a map. -/
def NotMap (w : World) (b : Nat) : Prop := ∀ k j v, w.cell? ⟨k, j, none⟩ = some v → k ≠ b
theorem notMap {H : Type} {P : Program} {k : TypeId} {R : Value → Option (DataW H × List MemPlace)} {w : World} {b n : Nat} {D : DataW H} (h : w.ownsMap P k R b n D) : NotMap w b := by
  obtain ⟨es, ck, hb, _⟩ := h
  intro q j v hc e
  subst e
  simp [World.cell?, hb] at hc
theorem notMap_big {w : World} {b : Nat} (h : w.heap.size ≤ b) : NotMap w b := by
  intro q j v hc
  have := World.block_lt_of_cell? _ _ hc
  dsimp only at this
  omega
set_option maxHeartbeats 3200000 in
theorem vals_in (m : Nat) (hm : 1 ≤ m) (l Bs b n : Nat) (a : Option Addr) (cap : Nat) (xs : List Z64) (hl : xs.length ≤ 1048576) (w0 : World) (hr : RowAt zV w0 a xs) (hn : w0.heap.size ≤ n) (hnb : NotMap w0 b) (hc : w0.cell? ⟨Bs, 0, none⟩ = some (.slice a xs.length cap))
    (J Jx : List Z64 → World → Prop) (W : World) (hW : Below w0.heap.size w0 W)
    (hY : ∀ pre x W1, J pre W1 → pre.length < xs.length → YieldAt Fence.wide (m - 1) Try.prog l #[zV x] W1 fun e W' =>
      (e = .returned (.bool true) ∧ J (pre ++ [x]) W' ∧ KB b n W1 W') ∨ (e = .returned (.bool false) ∧ Jx (pre ++ [x]) W'))
    (h0 : J [] W) :
    CallsIn Fence.wide m Try.prog 102 #[.func (.yield l) #[] #[], .pointer (some ⟨Bs, 0, none⟩)] W fun e W' => (∃ v, e = .returned v) ∧
      ((∃ ys, ys = xs ∧ J ys W') ∨ (∃ pre, True ∧ Jx pre W')) := by
  refine callsIn_of_wp Try.func102 rfl trivial ?_ rfl
  simp only [Try.ntmps102, List.size_toArray, List.length_cons, List.length_nil, Nat.reduceAdd, Nat.reduceSub, Array.replicate_succ, Array.replicate_zero, List.push_toArray, List.append_toArray, List.nil_append, List.cons_append]
  have e1 := (hW.cell (p := ⟨Bs, 0, none⟩) (World.block_lt_of_cell? _ _ hc)).trans hc
  gi_wp2
  gi_loopw [7] (fun i wr => ∃ j : Nat, j ≤ xs.length ∧ i = .int .i64 j ∧ J (xs.take j) wr ∧ KB b w0.heap.size w0 wr) (fun i _ => xs.length - (intOf i).toNat)
  case atStart => exact ⟨0, Nat.zero_le _, rfl, h0, KB.of hW⟩
  case round =>
    clear e1
    obtain ⟨j, hj, rfl, hJs, hnx⟩ := hrel
    by_cases hlt : j < xs.length
    · obtain ⟨g, off, rfl, hbl, c0⟩ := hr j hlt
      rw [← hnx.cell (p := ⟨g, off + j, none⟩) hbl (hnb _ _ _ c0)] at c0
      have hlt2 : (j : Int) < (xs.length : Int) := by omega
      have HS : xs.take (j + 1) = xs.take j ++ [xs[j]] := by rw [List.take_succ_eq_append_getElem hlt]
      have hlen : (xs.take j).length < xs.length := by rw [List.length_take]; omega
      obtain ⟨fn, tmps, assign, body, hyv, hR⟩ := hY _ xs[j] wr hJs hlen
      unfold zV at hyv c0
      clear hlen
      generalize (xs[j]).1 = z at hyv c0
      gi_wp2
      refine hR.mono ?_
      clear hR hyv
      rintro e W3 (⟨rfl, hJ3, hk3⟩ | ⟨rfl, hJx3⟩)
      · have BN := hnx.trans (hk3.mono hn)
        clear c0
        gi_wp2
        go_roundw
        case rel => exact ⟨j + 1, by omega, by go_num, by rw [HS]; exact hJ3, BN⟩
        case measure => simp [intOf]; omega
      · clear c0
        gi_wp2
        refine bodyPost_ret (results_none rfl _ _ _) rfl ?_
        exact ⟨⟨_, rfl⟩, .inr ⟨_, trivial, hJx3⟩⟩
    · obtain rfl : j = xs.length := by omega
      rw [List.take_length] at hJs
      gi_wp2
      go_end0
      exact ⟨⟨_, rfl⟩, .inl ⟨_, rfl, hJs⟩⟩
/-- The iterator hands out the row, number by number. -/
theorem vals_stops (m : Nat) (hm : 1 ≤ m) (Bs b n : Nat) (a : Option Addr) (cap : Nat) (xs : List Z64) (hl : xs.length ≤ 1048576) (w0 : World) (hr : RowAt zV w0 a xs) (hn : w0.heap.size ≤ n) (hnb : NotMap w0 b) (hc : w0.cell? ⟨Bs, 0, none⟩ = some (.slice a xs.length cap)) :
    SeqStopsK Fence.wide m Try.prog 102 #[.pointer (some ⟨Bs, 0, none⟩)] (fun x : Z64 => #[zV x]) (KB b n) (fun ys => ys = xs) (fun _ => True) xs.length w0 :=
  fun l J Jx W hW _ _ hY h0 => vals_in m hm l Bs b n a cap xs hl w0 hr hn hnb hc J Jx W hW hY h0
theorem values_is (a : Option Addr) (len cap : Nat) (w : World) : Calls Try.prog 88 #[.slice a len cap] w fun e w' => e = .returned (.func (.func 102) #[] #[.pointer (some ⟨w.heap.size, 0, none⟩)]) ∧ w' = w.alloc (.cells #[.slice a len cap] 32) := by
  go_enter Try.func88, Try.ntmps88
  go_wp2
  go_ret
  exact ⟨rfl, rfl⟩
end Go.Proofs.Ytjbbhegijlnndaa

set_option linter.unusedVariables false
set_option maxRecDepth 100000
namespace Go.Proofs.Ytjbbhegijlnndaa
open Go Go.RowKit Go.Joins Go.Shelf Own Maps
attribute [local go_sem] Oper.semAt_some

/-- The map that is made of a row, number by number. -/
def DS {H : Type} (xs : List Int) : DataW H := Maps.setOf (.agg []) (xs.map (Lit.int .i64))
theorem DS_snoc {H : Type} (xs : List Int) (x : Int) : DS (H := H) (xs ++ [x]) = (DS xs).put (.int .i64 x) (.agg []) := by
  unfold DS
  rw [List.map_append, List.map_cons, List.map_nil, Maps.setOf_snoc]
theorem same_key (x y : Int) : (Lit.int .i64 x).sameKey (.int .i64 y) = decide (x = y) := by simp [Lit.sameKey]
theorem DS_has {H : Type} (xs : List Int) (x : Int) : has (DS (H := H) xs) (.int .i64 x) = xs.contains x := by
  unfold DS
  rw [Maps.has_setOf _ _ _ (fun y hy => by obtain ⟨n, _, rfl⟩ := List.mem_map.1 hy; trivial), List.any_map]
  induction xs with
  | nil => rfl
  | cons y ys ih =>
    rw [List.any_cons, ih, List.contains_cons]
    simp only [Function.comp, same_key]
    congr 1
    by_cases e : y = x
    · subst e; simp
    · simp [e]; exact fun h => e h.symm
/-- The set lies at block b. -/
def SetAt (w : World) (b : Nat) (xs : List Int) : Prop := w.ownsMap Try.prog 3 (unitElem (H := Value)) b xs.length (DS xs)
theorem SetAt.lt {w : World} {b : Nat} {xs : List Int} (h : SetAt w b xs) : b < w.heap.size := World.ownsMap.lt h
theorem SetAt.later {w w' : World} {b : Nat} {xs : List Int} (h : SetAt w b xs) (hb : Below w.heap.size w w') : SetAt w' b xs := by
  have hl := h.lt
  obtain ⟨es, ck, hh, F, hs, hD⟩ := h
  exact ⟨es, ck, (hb.block b hl).trans hh, F, hs, hD⟩
theorem SetAt.low {w w' : World} {b n : Nat} {xs : List Int} (h : SetAt w b xs) (hb : Below n w w') (hn : b < n) : SetAt w' b xs := by
  obtain ⟨es, ck, hh, F, hs, hD⟩ := h
  exact ⟨es, ck, (hb.block b hn).trans hh, F, hs, hD⟩
theorem keyed3 : Keyed Try.prog 3 := Maps.int_keyed Try.underlying3
theorem zero110 (w : World) : (zeroValue 110).run Try.prog w = .ok (.agg #[]) w := by kernel_rfl
theorem Blk.keptC {g : Nat} {vs : List Value} {A B : World} {row : Option Nat} (h : Blk g vs A) (hg : A.grownBy B row) (hq : ∀ r, row = some r → ∃ o : Obj, A.heap[r]? = some o ∧ o.isCells = false) : Blk g vs B :=
  ⟨fun i v e => ⟨cell_kept (h.out i v e).1 hg hq, (frozen_kept (h.out i v e).1 hg hq).trans (h.out i v e).2⟩⟩
theorem grown_of_below {w w' : World} (h : Below w.heap.size w w') : w.grownBy w' none := ⟨h.os, h.tape, h.output, h.size, fun k hk _ => h.block k hk⟩
/-- The row's numbers, each once, in no order. -/
def once_ (xs : List Int) : Nat := Maps.size (DS (H := Value) xs)

set_option maxHeartbeats 3200000 in
theorem put_in (b Bs : Nat) (a : Option Addr) (cap : Nat) (ys : List Int) (xs : List Z64) (hl : ys.length + xs.length ≤ 1048576) (w : World) (hs : SetAt w b ys) (hr : RowAt zV w a xs) (hc : w.cell? ⟨Bs, 0, none⟩ = some (.slice a xs.length cap)) :
    Calls Try.prog 99 #[.map (some b), .func (.func 102) #[] #[.pointer (some ⟨Bs, 0, none⟩)]] w fun e W' => e = .returned (.tuple #[]) ∧ SetAt W' b (ys ++ zs xs) ∧ KB b w.heap.size w W' := by
  refine (callsIn_wide (n := 4)).1 ?_
  refine callsIn_of_wp_marks Try.func99 rfl trivial ?_ rfl
  simp only [Try.ntmps99, List.size_toArray, List.length_cons, List.length_nil, Nat.reduceAdd, Nat.reduceSub, Array.replicate_succ, Array.replicate_zero, List.push_toArray, List.append_toArray, List.nil_append, List.cons_append]
  gi_wp2
  have hbl := hs.lt
  have hB0 : Below w.heap.size w (w.alloc (.cells #[.map (some b)] 73)) := (Below.refl _ w).alloc (Nat.le_refl _) _
  have cS : (w.alloc (.cells #[.map (some b)] 73)).cell? ⟨w.heap.size, 0, none⟩ = some (.map (some b)) := (Blk.new w #[.map (some b)] 73).at 0 rfl
  have hs0 : (w.alloc (.cells #[.map (some b)] 73)).ownsMap Try.prog 3 (unitElem (H := Value)) b ys.length (DS ys) := World.ownsMap.alloc hs _
  refine wpIn_rangeFunc_ownG (α := Z64) rfl (by omega) (gf := 102) (lb := #[.pointer (some ⟨Bs, 0, none⟩)]) rfl trivial (enters_of Try.func102 (by kernel_rfl) rfl)
    (vals_stops 3 (by omega) Bs b w.heap.size a cap xs (by omega) w hr (Nat.le_refl _) (notMap hs) hc) KB.trans (KB.put (by simp)) hB0 (fun _ => rfl)
    (fun pre W => (W.cell? ⟨w.heap.size, 0, none⟩ = some (.map (some b)) ∧ W.ownsMap Try.prog 3 (unitElem (H := Value)) b (ys ++ zs pre).length (DS (ys ++ zs pre))) ∧ KB b w.heap.size w W)
    (fun _ _ _ => False)
    (OwnFrom.and (fun s A B row h hg hq => ⟨cell_kept h.1 hg (fun r e => (hq r e).2), h.2.kept hg (fun e => by have := (hq _ e.symm).1; simp at this; omega)⟩) (ownFrom_kb (Nat.le_refl _) (by simp)))
    (fun _ _ _ _ _ h _ _ => h)
    ⟨⟨cS, by simpa [zs] using hs0⟩, KB.of hB0⟩
    (fun x => { tmps := #[.map (some b), .func (.func 102) #[] #[.pointer (some ⟨Bs, 0, none⟩)], .pointer (some ⟨w.heap.size, 0, none⟩), undef, zV x, .func (.func 102) #[] #[.pointer (some ⟨Bs, 0, none⟩)], zV x, undef, undef, undef], defers := [] }) ?assign ?body ?done ?stop
  case assign =>
    intro l x W K hK
    gi_wp2
    exact hK
  case body =>
    rintro l pre x W ⟨⟨hcc, hown⟩, hB⟩ hlt
    have hln : (ys ++ zs pre).length < 1048577 := by simp [zs]; omega
    have HU := hown
    gi_wp2_with (gi_at_mapUpdate; refine wpListIn_mapUpdate_own _ rfl _ _ _ 73 rfl 3 110 keyed3 Try.underlying73 _ b (ys ++ zs pre).length _ rfl hown (by unfold maxLen; omega) _ _ _ rfl rfl (Maps.keyOf_int_mk Try.underlying3 x.2) _ [] (unitElem_mk (H := Value)) ?_; intro w1 hown1 hgrow1)
    obtain ⟨es, ck, hh, _⟩ := HU
    have hbW : b < W.heap.size := Nat.lt_of_lt_of_le hbl hB.size
    exact ⟨KeepsFrom.of_grownBy hgrow1 (fun j e => by cases e; simp; omega), (KB.refl b w.heap.size W).grown hgrow1 hB.size (fun k e => by cases e; exact Or.inr rfl),
      ⟨cell_kept hcc hgrow1 (fun r e => by cases e; exact ⟨_, hh, rfl⟩), by rw [zs_snoc, ← List.append_assoc, DS_snoc, List.length_append]; exact hown1⟩, hB.grown hgrow1 hB.size (fun k e => by cases e; exact Or.inr rfl)⟩
  case done =>
    rintro D us W hD rfl ⟨⟨hcc, hown⟩, hB⟩ hK
    gi_wp2
    refine ⟨by simp, .inl ⟨_, _, rfl, run_takeDeferred hK, ?_⟩⟩
    exact ⟨_, results_none rfl _ _ _, rfl, hown.kept (grownBy_putObj' _ D _) (fun e => by cases e; simp at hD; omega), hB.trans (KB.put (w := w) (Nat.le_refl _) W D _ _ (by simp at hD; omega) hK rfl rfl)⟩
  case stop =>
    rintro D c pre W _ _ h _
    exact h.elim
set_option maxHeartbeats 3200000 in
theorem setOf_is (Bs : Nat) (a : Option Addr) (cap : Nat) (xs : List Z64) (hl : xs.length ≤ 1048576) (w : World) (hr : RowAt zV w a xs) (hc : w.cell? ⟨Bs, 0, none⟩ = some (.slice a xs.length cap)) :
    Calls Try.prog 87 #[.func (.func 102) #[] #[.pointer (some ⟨Bs, 0, none⟩)]] w fun e W' => e = .returned (.map (some w.heap.size)) ∧ SetAt W' w.heap.size (zs xs) ∧ Below w.heap.size w W' := by
  have hmm := @run_makeMap Try.prog
  have hb0 : Below w.heap.size w (w.alloc (.map #[] 0)) := (Below.refl _ w).alloc (Nat.le_refl _) _
  have h0 : SetAt (w.alloc (.map #[] 0)) w.heap.size [] := World.ownsMap_made w Try.prog 3 (unitElem (H := Value))
  have K := put_in w.heap.size Bs a cap [] xs (by simpa using hl) (w.alloc (.map #[] 0)) h0 (hr.later hb0) ((hb0.cell (p := ⟨Bs, 0, none⟩) (World.block_lt_of_cell? _ _ hc)).trans hc)
  clear h0
  go_enter Try.func87, Try.ntmps87
  go_wp2_with fail
  refine K.mono ?_
  clear K
  rintro e W ⟨rfl, h1, h2⟩
  have h3 : Below w.heap.size w W := hb0.trans (h2.below (Nat.le_refl _) (by simp))
  clear h2 hb0
  go_wp2
  go_ret
  exact ⟨rfl, h1, h3⟩
theorem has_is (b : Nat) (xs : List Int) (x : Int) (hx : (Lit.int .i64 x).wf = true) (w : World) (hs : SetAt w b xs) :
    Calls Try.prog 91 #[.map (some b), .int .i64 x] w fun e W' => e = .returned (.bool (xs.contains x)) ∧ Below w.heap.size w W' := by
  unfold SetAt at hs
  have hh := DS_has (H := Value) xs x
  generalize xs.contains x = bb at hh ⊢
  go_enter Try.func91, Try.ntmps91
  go_wp2_with (first | (at_lookup; refine wpList_lookup_own_unit _ rfl _ _ 73 rfl 3 110 keyed3 Try.underlying73 (zero110 _) b xs.length (DS xs) rfl hs _ _ rfl (Maps.keyOf_int_mk Try.underlying3 hx) ?_; rw [hh]) | fail)
  go_ret
  exact ⟨rfl, by repeat (first | exact Below.refl _ _ | refine Below.alloc ?_ (by simp) _ | refine Below.setCell ?_ (by simp) _)⟩
set_option maxHeartbeats 3200000 in
theorem meet_in (b Bs : Nat) (a : Option Addr) (cap : Nat) (ys : List Int) (xs : List Z64) (hl : xs.length ≤ 1048576) (w : World) (hs : SetAt w b ys) (hr : RowAt zV w a xs) (hc : w.cell? ⟨Bs, 0, none⟩ = some (.slice a xs.length cap)) :
    Calls Try.prog 98 #[.map (some b), .func (.func 102) #[] #[.pointer (some ⟨Bs, 0, none⟩)]] w fun e W' => ∃ g, e = .returned (.map (some g)) ∧ w.heap.size ≤ g ∧ SetAt W' g ((zs xs).filter (fun x => ys.contains x)) ∧ Below w.heap.size w W' := by
  have hmm := @run_makeMap Try.prog
  refine (callsIn_wide (n := 6)).1 ?_
  refine callsIn_of_wp_marks Try.func98 rfl trivial ?_ rfl
  simp only [Try.ntmps98, List.size_toArray, List.length_cons, List.length_nil, Nat.reduceAdd, Nat.reduceSub, Array.replicate_succ, Array.replicate_zero, List.push_toArray, List.append_toArray, List.nil_append, List.cons_append]
  obtain ⟨V, hV⟩ : ∃ V, ((w.alloc (.cells #[.map (some b)] 73)).alloc (.map #[] 0)).alloc (.cells #[.map (some (w.heap.size + 1))] 73) = V := ⟨_, rfl⟩
  have hsz : V.heap.size = w.heap.size + 3 := by rw [← hV]; simp
  have hB0 : Below w.heap.size w V := by rw [← hV]; exact (((Below.refl _ w).alloc (Nat.le_refl _) _).alloc (by simp) _).alloc (by simp; omega) _
  have T1 : Blk w.heap.size [.map (some b)] V := by rw [← hV]; exact ((Blk.new w #[.map (some b)] 73).alloc (by simp) _).alloc (by simp; omega) _
  have T2 : Blk (w.heap.size + 1 + 1) [.map (some (w.heap.size + 1))] V := by rw [← hV]; have h_ := Blk.new ((w.alloc (.cells #[.map (some b)] 73)).alloc (.map #[] 0)) #[.map (some (w.heap.size + 1))] 73; simpa using h_
  have T3 : SetAt V (w.heap.size + 1) [] := by
    rw [← hV]
    have h_ := World.ownsMap_made (w.alloc (.cells #[.map (some b)] 73)) Try.prog 3 (unitElem (H := Value))
    rw [World.size_alloc] at h_
    exact h_.alloc _
  gi_wp2
  try rw [hV]
  refine wpIn_rangeFunc_ownG (α := Z64) rfl (by omega) (gf := 102) (lb := #[.pointer (some ⟨Bs, 0, none⟩)]) rfl trivial (enters_of Try.func102 (by kernel_rfl) rfl)
    (vals_stops 5 (by omega) Bs w.heap.size w.heap.size a cap xs (by omega) w hr (Nat.le_refl _) (notMap_big (Nat.le_refl _)) hc) KB.trans (KB.put (by omega)) hB0 (fun _ => rfl)
    (fun pre W => (Blk w.heap.size [.map (some b)] W ∧ Blk (w.heap.size + 1 + 1) [.map (some (w.heap.size + 1))] W ∧ SetAt W (w.heap.size + 1) ((zs pre).filter (fun x => ys.contains x)) ∧ V.heap.size ≤ W.heap.size) ∧ Below w.heap.size w W)
    (fun _ _ _ => False)
    (OwnFrom.and (fun s A B row h hg hq => ⟨h.1.keptC hg (fun r e => (hq r e).2), h.2.1.keptC hg (fun r e => (hq r e).2), World.ownsMap.kept h.2.2.1 hg (fun e => by have := (hq _ e.symm).1; omega), Nat.le_trans h.2.2.2 hg.size⟩) (ownFrom_below (Nat.le_refl _) (by omega)))
    (fun _ _ _ _ _ h _ _ => h)
    ⟨⟨T1, T2, T3, Nat.le_refl _⟩, hB0⟩
    (fun x => { tmps := #[.map (some b), .func (.func 102) #[] #[.pointer (some ⟨Bs, 0, none⟩)], .pointer (some ⟨w.heap.size, 0, none⟩), undef, .map none, .pointer (some ⟨w.heap.size + 1 + 1, 0, none⟩), zV x, .map (some (w.heap.size + 1)), .func (.func 102) #[] #[.pointer (some ⟨Bs, 0, none⟩)], zV x, undef, undef, undef, undef, undef, undef, undef], defers := [] }) ?assign ?body ?done ?stop
  case assign =>
    intro l x W K hK
    gi_wp2
    exact hK
  case body =>
    rintro l pre x W ⟨⟨U1, U2, hown, hvs⟩, hB⟩ hlt
    have hn1 : 1 ≤ 6 - 1 - 1 := by omega
    have c1 := U1.at 0 rfl
    have hsx := hs.low hB hs.lt
    unfold zV
    gi_wp2
    refine ⟨trivial, (CallsIn.inRound l (callsIn_wide.2 (has_is b ys x.1 x.2 W hsx))).mono ?_⟩
    rintro e W1 ⟨rfl, hb1⟩
    have g1 := grown_of_below hb1
    have V1 := U1.later hb1 U1.lt
    have V2 := U2.later hb1 U2.lt
    have hown1 := hown.later hb1
    have hB1 : Below w.heap.size w W1 := hB.trans (hb1.mono hB.size)
    have hv1 := Nat.le_trans hvs hb1.size
    have d2 := V2.at 0 rfl
    have hln : ((zs pre).filter (fun x => ys.contains x)).length < 1048577 := by
      have h1 := List.length_filter_le (fun x => ys.contains x) (zs pre)
      have e : (zs pre).length = pre.length := by simp [zs]
      omega
    have HQ : ys.contains x.1 = true → (zs (pre ++ [x])).filter (fun x => ys.contains x) = (zs pre).filter (fun x => ys.contains x) ++ [x.1] := fun h => by rw [zs_snoc, List.filter_append]; simp only [List.filter_cons, List.filter_nil, h, if_true]
    have HN : ys.contains x.1 = false → (zs (pre ++ [x])).filter (fun x => ys.contains x) = (zs pre).filter (fun x => ys.contains x) := fun h => by rw [zs_snoc, List.filter_append]; simp only [List.filter_cons, List.filter_nil, h, Bool.false_eq_true, if_false, List.append_nil]
    clear c1 U1 U2 hown hsx
    generalize ys.contains x.1 = bb at HQ HN
    cases bb with
    | true =>
      have HS := HQ rfl
      clear HQ HN
      have hmap : W1.ownsMap Try.prog 3 (unitElem (H := Value)) (w.heap.size + 1) _ _ := hown1
      gi_wp2_with (gi_at_mapUpdate; refine wpListIn_mapUpdate_own _ rfl _ _ _ 73 rfl 3 110 keyed3 Try.underlying73 _ (w.heap.size + 1) _ _ rfl hmap (by unfold maxLen; omega) _ _ _ rfl rfl (Maps.keyOf_int_mk Try.underlying3 x.2) _ [] (unitElem_mk (H := Value)) ?_; intro w2 hown2 hgrow2)
      obtain ⟨es, ck, hh, _⟩ := hmap
      have hq2 : ∀ r, some (w.heap.size + 1) = some r → ∃ o : Obj, W1.heap[r]? = some o ∧ o.isCells = false := fun r e => by cases e; exact ⟨_, hh, rfl⟩
      have hb2 := hB1.grown hgrow2 hB1.size (fun k e => by cases e; omega)
      refine ⟨(KeepsFrom.of_grownBy (B := V.heap.size) g1 (fun j e => by cases e)).trans (KeepsFrom.of_grownBy hgrow2 (fun j e => by cases e; omega)), (KB.of (hb1.mono hB.size)).trans ((KB.refl w.heap.size w.heap.size W1).grown hgrow2 hB1.size (fun k e => by cases e; exact Or.inl (by omega))),
        ⟨V1.keptC hgrow2 hq2, V2.keptC hgrow2 hq2, ?_, Nat.le_trans hv1 hgrow2.size⟩, hb2⟩
      unfold SetAt
      rw [HS, DS_snoc, List.length_append]
      exact hown2
    | false =>
      have HS := HN rfl
      clear HQ HN d2
      gi_wp2
      exact ⟨KeepsFrom.of_grownBy (B := V.heap.size) g1 (fun j e => by cases e), KB.of (hb1.mono hB.size), ⟨V1, V2, by rw [HS]; exact hown1, hv1⟩, hB1⟩
  case done =>
    rintro D us W hD rfl ⟨⟨U1, U2, hown, hvs⟩, hB⟩ hK
    have c2 := U2.at 0 rfl
    gi_wp2
    refine ⟨by simp, .inl ⟨_, _, rfl, run_takeDeferred hK, ?_⟩⟩
    exact ⟨_, results_tmp rfl _ _ _, w.heap.size + 1, rfl, Nat.le_succ _, World.ownsMap.kept hown (grownBy_putObj' _ D _) (fun e => by cases e; omega), hB.trans (belowK_b (w := w) (Nat.le_refl _) W D _ _ (by omega) hK rfl rfl)⟩
  case stop =>
    rintro D c pre W _ _ h _
    exact h.elim
end Go.Proofs.Ytjbbhegijlnndaa
