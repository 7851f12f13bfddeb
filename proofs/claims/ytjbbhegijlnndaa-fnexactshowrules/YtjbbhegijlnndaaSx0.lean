/- An iterator over a row of its own; what a range leaves to be done. -/
import Derived.Test.YtjbbhegijlnndaaSe2
import Derived.RangeFuncNested
import Derived.RangeFuncBound
import Derived.RangeFuncCalls
import Derived.RangeFuncLeaves
import Derived.WalkKit
import Derived.OwnWalkIn
import Derived.TacticsInMore
import Derived.LoopNIn
import Derived.LoopIn
import Derived.Maps.OwnIn
import Derived.Maps.OwnSet
import Derived.Maps.Views
import Derived.Shelf.Abstract
set_option linter.unusedVariables false
set_option maxRecDepth 100000
namespace Go.Proofs.Ytjbbhegijlnndaa
open Go Go.RowKit Go.Sort Go.Joins Go.Shelf Own Maps
attribute [local go_sem] Oper.semAt_some

set_option maxHeartbeats 3200000 in
theorem vals2_in (m : Nat) (hm : 1 ≤ m) (l Bs b n : Nat) (a : Option Addr) (cap : Nat) (xs : List Z64) (hl : xs.length ≤ 1048576) (w0 : World) (hr : RowAt zV w0 a xs) (hn : w0.heap.size ≤ n) (hnb : ∀ p : Addr, a = some p → p.block ≠ b) (hnB : Bs ≠ b) (hc : w0.cell? ⟨Bs, 0, none⟩ = some (.slice a xs.length cap))
    (J Jx : List Z64 → World → Prop) (W : World) (hW : Below w0.heap.size w0 W)
    (hY : ∀ pre x W1, J pre W1 → pre.length < xs.length → YieldAt Fence.wide (m - 1) Try.prog l #[zV x] W1 fun e W' =>
      (e = .returned (.bool true) ∧ J (pre ++ [x]) W' ∧ KB b n W1 W') ∨ (e = .returned (.bool false) ∧ Jx (pre ++ [x]) W'))
    (h0 : J [] W) :
    CallsIn Fence.wide m Try.prog 102 #[.func (.yield l) #[] #[], .pointer (some ⟨Bs, 0, none⟩)] W fun e W' => (∃ v, e = .returned v) ∧
      ((∃ ys, ys = xs ∧ J ys W') ∨ (∃ pre, True ∧ Jx pre W')) := by
  refine callsIn_of_wp Try.func102 rfl trivial ?_ rfl
  simp only [Try.ntmps102, List.size_toArray, List.length_cons, List.length_nil, Nat.reduceAdd, Nat.reduceSub, Array.replicate_succ, Array.replicate_zero, List.push_toArray, List.append_toArray, List.nil_append, List.cons_append]
  have e1 := (hW.cell (p := ⟨Bs, 0, none⟩) (World.block_lt_of_cell? _ _ hc)).trans hc
  gi_wp2
  gi_loopw [7] (fun i wr => ∃ j : Nat, j ≤ xs.length ∧ i = .int .i64 j ∧ J (xs.take j) wr ∧ KB b w0.heap.size w0 wr) (fun i _ => xs.length - (intOf i).toNat)
  case atStart => exact ⟨0, Nat.zero_le _, rfl, h0, KB.of hW⟩
  case round =>
    clear e1
    obtain ⟨j, hj, rfl, hJs, hnx⟩ := hrel
    by_cases hlt : j < xs.length
    · obtain ⟨g, off, rfl, hbl, c0⟩ := hr j hlt
      rw [← hnx.cell (p := ⟨g, off + j, none⟩) hbl (hnb ⟨g, off, none⟩ rfl)] at c0
      have hlt2 : (j : Int) < (xs.length : Int) := by omega
      have HS : xs.take (j + 1) = xs.take j ++ [xs[j]] := by rw [List.take_succ_eq_append_getElem hlt]
      have hlen : (xs.take j).length < xs.length := by rw [List.length_take]; omega
      obtain ⟨fn, tmps, assign, body, hyv, hR⟩ := hY _ xs[j] wr hJs hlen
      unfold zV at hyv c0
      clear hlen
      generalize (xs[j]).1 = z at hyv c0
      gi_wp2
      refine hR.mono ?_
      clear hR hyv
      rintro e W3 (⟨rfl, hJ3, hk3⟩ | ⟨rfl, hJx3⟩)
      · have BN := hnx.trans (hk3.mono hn)
        clear c0
        gi_wp2
        go_roundw
        case rel => exact ⟨j + 1, by omega, by go_num, by rw [HS]; exact hJ3, BN⟩
        case measure => simp [intOf]; omega
      · clear c0
        gi_wp2
        refine bodyPost_ret (results_none rfl _ _ _) rfl ?_
        exact ⟨⟨_, rfl⟩, .inr ⟨_, trivial, hJx3⟩⟩
    · obtain rfl : j = xs.length := by omega
      rw [List.take_length] at hJs
      gi_wp2
      go_end0
      exact ⟨⟨_, rfl⟩, .inl ⟨_, rfl, hJs⟩⟩
theorem vals2_stops (m : Nat) (hm : 1 ≤ m) (Bs b n : Nat) (a : Option Addr) (cap : Nat) (xs : List Z64) (hl : xs.length ≤ 1048576) (w0 : World) (hr : RowAt zV w0 a xs) (hn : w0.heap.size ≤ n) (hnb : ∀ p : Addr, a = some p → p.block ≠ b) (hnB : Bs ≠ b) (hc : w0.cell? ⟨Bs, 0, none⟩ = some (.slice a xs.length cap)) :
    SeqStopsK Fence.wide m Try.prog 102 #[.pointer (some ⟨Bs, 0, none⟩)] (fun x : Z64 => #[zV x]) (KB b n) (fun ys => ys = xs) (fun _ => True) xs.length w0 :=
  fun l J Jx W hW _ _ hY h0 => vals2_in m hm l Bs b n a cap xs hl w0 hr hn hnb hnB hc J Jx W hW hY h0
set_option maxHeartbeats 1600000 in
/-- What is in a set, rising. -/
theorem rising2_is {b : Nat} {xs : List Int} {w : World} (h1 : ∀ x ∈ xs, (Lit.int .i64 x).wf = true) (hl : xs.length ≤ 1048576) (hs : SetAt w b xs) :
    Calls Try.prog 57 #[.map (some b)] w fun e W' => ∃ Bs L a cap, e = .returned (SQ Bs) ∧ w.heap.size ≤ Bs ∧ (W'.cell? ⟨Bs, 0, none⟩ = some (.slice a L.length cap) ∧ RowAt (Value.int .i64) W' a L ∧ (∀ p : Addr, a = some p → w.heap.size ≤ p.block) ∧ (∀ x ∈ L, (Lit.int .i64 x).wf = true) ∧ L.length ≤ 1048576) ∧ (L.Pairwise (· < ·) ∧ ∀ x, x ∈ L ↔ x ∈ xs) ∧ Below w.heap.size w W' := by
  have hsz := DS_le xs
  have hb0 : Below w.heap.size w (w.alloc (.cells #[.map (some b)] 73)) := (Below.refl _ _).alloc (Nat.le_refl _) _
  have hseq := (AnyZI.keys_stops (ρ := Try.keysA_ren) { Try.keysA with } Fence.wide 3 trivial rfl (by omega) w.heap.size b xs.length (DS xs) (w.alloc (.cells #[.map (some b)] 73)) (by simp) ((Blk.new w #[.map (some b)] 73).at 0 rfl) (hs.later hb0)).gives
  have cK : Calls Try.prog 90 #[.map (some b)] w fun e w' => e = .returned (.func (.func 104) #[] #[.pointer (some ⟨w.heap.size, 0, none⟩)]) ∧ w' = w.alloc (.cells #[.map (some b)] 73) := callsIn_wide.1 (AnyZI.keys_in Try.keysA Fence.wide 5 trivial rfl (some b) w)
  have cS := AnyZI.sorted_in Try.sortedA Fence.wide 6 trivial trivial trivial trivial rfl (by omega) (sortsA _) (enters_of Try.func103 (by kernel_rfl) rfl) 104 #[.pointer (some ⟨w.heap.size, 0, none⟩)] trivial (enters_of Try.func104 (by kernel_rfl) rfl) _ (Maps.size (DS (H := Value) xs)) (by unfold maxLen; omega) (by omega) _ hseq
  change CallsIn _ _ Try.prog 89 _ _ _ at cS
  replace cS := callsIn_wide.1 cS
  clear hseq
  go_enter Try.func57, Try.ntmps57
  go_wp2_with fail
  refine cK.mono ?_
  clear cK
  rintro e W ⟨rfl, rfl⟩
  go_wp2_with fail
  refine cS.mono ?_
  clear cS
  rintro e W ⟨v, ss, rfl, ⟨hp, hm⟩, hrow, _, hb⟩
  replace hb := hb0.trans (hb.mono hb0.size)
  have hlen : (ss.mergeSort fun x y => decide (x ≤ y)).length = ss.length := List.length_mergeSort ss
  have hnd : ss.Nodup := by
    obtain ⟨K, k1, k2, k3⟩ := DS_size xs
    have hc : CollectedI (DS (H := Value) xs) (fun _ => false) K := ⟨k1, fun x => by rw [k2, DS_has]; simp⟩
    exact (hp.trans (hc.perm hs keyed3 Try.underlying3 (fun _ => rfl)).symm).nodup_iff.2 k1
  have hL : Hid ((ss.mergeSort fun x y => decide (x ≤ y)).Pairwise (· < ·) ∧ ∀ x, x ∈ (ss.mergeSort fun x y => decide (x ≤ y)) ↔ x ∈ xs) := ⟨pair_of_sort ss hnd, fun x => by rw [List.mem_mergeSort, hm, DS_has]; simp⟩
  have hln : ss.length ≤ 1048576 := by
    have := nodup_le ss xs hnd (fun x hx => by have := (hm x).1 hx; rw [DS_has] at this; simpa using this)
    omega
  rw [← hlen] at hrow hln
  clear hp hm hnd hlen
  generalize (ss.mergeSort fun x y => decide (x ≤ y)) = L at hrow hL hln
  have hrow2 : W.ownsRow (w.alloc (.cells #[.map (some b)] 73)).heap.size 3 1 v L.length (L.map (Value.int .i64)) := hrow
  obtain ⟨a, cap, rfl, _, hr⟩ := own_row hrow2
  have hsw := hb.size
  have hwf : ∀ x ∈ L, (Lit.int .i64 x).wf = true := fun x hx => h1 x ((hL.out.2 x).1 hx)
  have hap : ∀ p : Addr, a = some p → w.heap.size ≤ p.block := fun p hp => by
    have h_ := (World.ownsRow.lt hrow2 p.block (by rw [hp]; rfl)).1
    have h2_ := hb0.size
    omega
  clear hrow hrow2 hb0
  go_wp2_with fail
  refine (values_is a L.length cap W).mono ?_
  rintro e W2 ⟨rfl, rfl⟩
  have hb2 : Below W.heap.size W (W.alloc (.cells #[.slice a L.length cap] 32)) := (Below.refl _ _).alloc (Nat.le_refl _) _
  have c2 : (W.alloc (.cells #[.slice a L.length cap] 32)).cell? ⟨W.heap.size, 0, none⟩ = some (.slice a L.length cap) := (Blk.new W #[.slice a L.length cap] 32).at 0 rfl
  have hr2 := hr.later hb2
  replace hb := hb.trans (hb2.mono hb.size)
  obtain ⟨W2, hW2⟩ : ∃ Z, W.alloc (.cells #[.slice a L.length cap] 32) = Z := ⟨_, rfl⟩
  rw [hW2] at c2 hr2 hb ⊢
  clear hb2 hr
  go_wp2
  go_ret
  exact ⟨_, L, a, cap, rfl, hsw, ⟨c2, hr2, hap, hwf, hln⟩, hL.out, hb⟩

/-- What ranges over functions have left to be done: nothing, each. -/
def dM (D : Nat) : Deferred := { target := .collected D, args := #[] }
structure DsOk (B : Nat) (ns : List Nat) (w : World) : Prop where
  nd : ns.Nodup
  at_ : ∀ D ∈ ns, B ≤ D ∧ w.heap[D]? = some (.deferred (some []))
theorem DsOk.later {B : Nat} {ns : List Nat} {w w' : World} (h : DsOk B ns w) (hb : Below w.heap.size w w') : DsOk B ns w' :=
  ⟨h.nd, fun D hD => ⟨(h.at_ D hD).1, (hb.block D (Array.getElem?_eq_some_iff.1 (h.at_ D hD).2).1).trans (h.at_ D hD).2⟩⟩
theorem DsOk.kb {B b n : Nat} {ns : List Nat} {w w' : World} (h : DsOk B ns w) (hb : KB b n w w') (hn : w.heap.size ≤ n) (hc : ∃ o : Obj, w.heap[b]? = some o ∧ o.isCells = true) : DsOk B ns w' :=
  ⟨h.nd, fun D hD => ⟨(h.at_ D hD).1, (hb.block D (Nat.lt_of_lt_of_le (Array.getElem?_eq_some_iff.1 (h.at_ D hD).2).1 hn) (fun e => by
    subst e
    obtain ⟨o, ho, hoc⟩ := hc
    rw [(h.at_ D hD).2] at ho
    injection ho with ho
    subst ho
    cases hoc)).trans (h.at_ D hD).2⟩⟩
theorem DsOk.cons {B D : Nat} {ns : List Nat} {w w' : World} (h : DsOk B ns w) (hb : Below w.heap.size w w' ∨ ∀ E ∈ ns, w'.heap[E]? = w.heap[E]?) (hD : w.heap.size ≤ D) (hB : B ≤ D) (hd : w'.heap[D]? = some (.deferred (some []))) : DsOk B (D :: ns) w' := by
  have hlt : ∀ E ∈ ns, E < w.heap.size := fun E hE => (Array.getElem?_eq_some_iff.1 (h.at_ E hE).2).1
  refine ⟨List.nodup_cons.2 ⟨fun c => by have := hlt D c; omega, h.nd⟩, fun E hE => ?_⟩
  rcases List.mem_cons.1 hE with rfl | hE
  · exact ⟨hB, hd⟩
  · refine ⟨(h.at_ E hE).1, ?_⟩
    rcases hb with hb | hb
    · exact (hb.block E (hlt E hE)).trans (h.at_ E hE).2
    · exact (hb E hE).trans (h.at_ E hE).2
/-- At its end a function whose answer lies in slots does what is left: nothing. -/
theorem leaves_all {F : Fence} {n : Nat} {P : Program} {fn : Func} {tmps : Array Value} {R : Ending → World → Prop} {B : Nat} {v : Value} {w0 : World} (hres : ∀ w, (results fn tmps).run P w = .ok v w) (hR : ∀ w, Below B w0 w → R (.returned v) w) :
    ∀ (ns : List Nat) (w : World), DsOk B ns w → Below B w0 w → LeavesInM F n P fn tmps R (ns.map dM) .returning w
  | [], w, _, hb => ⟨v, hres w, hR w hb⟩
  | D :: ns, w, h, hb => by
    obtain ⟨hBD, hd⟩ := h.at_ D (List.mem_cons_self ..)
    have hnd := List.nodup_cons.1 h.nd
    refine ⟨by simp, .inl ⟨D, _, rfl, run_takeDeferred hd, leaves_all hres hR ns _ ⟨hnd.2, fun E hE => ?_⟩ ?_⟩⟩
    · obtain ⟨h1, h2⟩ := h.at_ E (List.mem_cons_of_mem _ hE)
      refine ⟨h1, ?_⟩
      have hg := grownBy_putObj' w D (.deferred none)
      exact (hg.block E (Array.getElem?_eq_some_iff.1 h2).1 (fun e => by injection e with e; subst e; exact hnd.1 hE)).trans h2
    · have hg := grownBy_putObj' w D (.deferred none)
      exact ⟨hg.os.trans hb.os, hg.tape.trans hb.tape, hg.output.trans hb.output, Nat.le_trans hb.size hg.size, fun k hk => (hg.block k (Nat.lt_of_lt_of_le hk (by have := (Array.getElem?_eq_some_iff.1 hd).1; omega)) (fun e => by injection e with e; omega)).trans (hb.block k hk)⟩
end Go.Proofs.Ytjbbhegijlnndaa
