/- An iterator over a row of its own; what a range leaves to be done. -/
import Derived.Test.YtjbbhegijlnndaaSe2
import Derived.RangeFuncNested
import Derived.RangeFuncBound
import Derived.RangeFuncCalls
import Derived.RangeFuncLeaves
import Derived.WalkKit
import Derived.OwnWalkIn
import Derived.TacticsInMore
import Derived.LoopNIn
import Derived.LoopIn
import Derived.Maps.OwnIn
import Derived.Maps.OwnSet
import Derived.Maps.Views
import Derived.Shelf.Abstract
import Derived.Test.YtjbbhegijlnndaaSh0
import Derived.Test.YtjbbhegijlnndaaRu2
import Derived.Test.YtjbbhegijlnndaaLr1
import Derived.Test.YtjbbhegijlnndaaRge
import Derived.Test.YtjbbhegijlnndaaRn2
set_option linter.unusedVariables false
set_option maxRecDepth 100000
namespace Go.Proofs.Ytjbbhegijlnndaa
open Go Go.RowKit Go.Sort Go.Joins Go.Shelf Own Maps
attribute [local go_sem] Oper.semAt_some

set_option maxHeartbeats 3200000 in
theorem vals2_in (m : Nat) (hm : 1 ≤ m) (l Bs b n : Nat) (a : Option Addr) (cap : Nat) (xs : List Z64) (hl : xs.length ≤ 1048576) (w0 : World) (hr : RowAt zV w0 a xs) (hn : w0.heap.size ≤ n) (hnb : ∀ p : Addr, a = some p → p.block ≠ b) (hnB : Bs ≠ b) (hc : w0.cell? ⟨Bs, 0, none⟩ = some (.slice a xs.length cap))
    (J Jx : List Z64 → World → Prop) (W : World) (hW : Below w0.heap.size w0 W)
    (hY : ∀ pre x W1, J pre W1 → pre.length < xs.length → YieldAt Fence.wide (m - 1) Try.prog l #[zV x] W1 fun e W' =>
      (e = .returned (.bool true) ∧ J (pre ++ [x]) W' ∧ KB b n W1 W') ∨ (e = .returned (.bool false) ∧ Jx (pre ++ [x]) W'))
    (h0 : J [] W) :
    CallsIn Fence.wide m Try.prog 102 #[.func (.yield l) #[] #[], .pointer (some ⟨Bs, 0, none⟩)] W fun e W' => (∃ v, e = .returned v) ∧
      ((∃ ys, ys = xs ∧ J ys W') ∨ (∃ pre, True ∧ Jx pre W')) := by
  refine callsIn_of_wp Try.func102 rfl trivial ?_ rfl
  simp only [Try.ntmps102, List.size_toArray, List.length_cons, List.length_nil, Nat.reduceAdd, Nat.reduceSub, Array.replicate_succ, Array.replicate_zero, List.push_toArray, List.append_toArray, List.nil_append, List.cons_append]
  have e1 := (hW.cell (p := ⟨Bs, 0, none⟩) (World.block_lt_of_cell? _ _ hc)).trans hc
  gi_wp2
  gi_loopw [7] (fun i wr => ∃ j : Nat, j ≤ xs.length ∧ i = .int .i64 j ∧ J (xs.take j) wr ∧ KB b w0.heap.size w0 wr) (fun i _ => xs.length - (intOf i).toNat)
  case atStart => exact ⟨0, Nat.zero_le _, rfl, h0, KB.of hW⟩
  case round =>
    clear e1
    obtain ⟨j, hj, rfl, hJs, hnx⟩ := hrel
    by_cases hlt : j < xs.length
    · obtain ⟨g, off, rfl, hbl, c0⟩ := hr j hlt
      rw [← hnx.cell (p := ⟨g, off + j, none⟩) hbl (hnb ⟨g, off, none⟩ rfl)] at c0
      have hlt2 : (j : Int) < (xs.length : Int) := by omega
      have HS : xs.take (j + 1) = xs.take j ++ [xs[j]] := by rw [List.take_succ_eq_append_getElem hlt]
      have hlen : (xs.take j).length < xs.length := by rw [List.length_take]; omega
      obtain ⟨fn, tmps, assign, body, hyv, hR⟩ := hY _ xs[j] wr hJs hlen
      unfold zV at hyv c0
      clear hlen
      generalize (xs[j]).1 = z at hyv c0
      gi_wp2
      refine hR.mono ?_
      clear hR hyv
      rintro e W3 (⟨rfl, hJ3, hk3⟩ | ⟨rfl, hJx3⟩)
      · have BN := hnx.trans (hk3.mono hn)
        clear c0
        gi_wp2
        go_roundw
        case rel => exact ⟨j + 1, by omega, by go_num, by rw [HS]; exact hJ3, BN⟩
        case measure => simp [intOf]; omega
      · clear c0
        gi_wp2
        refine bodyPost_ret (results_none rfl _ _ _) rfl ?_
        exact ⟨⟨_, rfl⟩, .inr ⟨_, trivial, hJx3⟩⟩
    · obtain rfl : j = xs.length := by omega
      rw [List.take_length] at hJs
      gi_wp2
      go_end0
      exact ⟨⟨_, rfl⟩, .inl ⟨_, rfl, hJs⟩⟩
theorem vals2_stops (m : Nat) (hm : 1 ≤ m) (Bs b n : Nat) (a : Option Addr) (cap : Nat) (xs : List Z64) (hl : xs.length ≤ 1048576) (w0 : World) (hr : RowAt zV w0 a xs) (hn : w0.heap.size ≤ n) (hnb : ∀ p : Addr, a = some p → p.block ≠ b) (hnB : Bs ≠ b) (hc : w0.cell? ⟨Bs, 0, none⟩ = some (.slice a xs.length cap)) :
    SeqStopsK Fence.wide m Try.prog 102 #[.pointer (some ⟨Bs, 0, none⟩)] (fun x : Z64 => #[zV x]) (KB b n) (fun ys => ys = xs) (fun _ => True) xs.length w0 :=
  fun l J Jx W hW _ _ hY h0 => vals2_in m hm l Bs b n a cap xs hl w0 hr hn hnb hnB hc J Jx W hW hY h0
set_option maxHeartbeats 1600000 in
/-- What is in a set, rising. -/
theorem rising2_is {b : Nat} {xs : List Int} {w : World} (h1 : ∀ x ∈ xs, (Lit.int .i64 x).wf = true) (hl : xs.length ≤ 1048576) (hs : SetAt w b xs) :
    Calls Try.prog 57 #[.map (some b)] w fun e W' => ∃ Bs L a cap, e = .returned (SQ Bs) ∧ w.heap.size ≤ Bs ∧ (W'.cell? ⟨Bs, 0, none⟩ = some (.slice a L.length cap) ∧ RowAt (Value.int .i64) W' a L ∧ (∀ p : Addr, a = some p → w.heap.size ≤ p.block) ∧ (∀ x ∈ L, (Lit.int .i64 x).wf = true) ∧ L.length ≤ 1048576) ∧ (L.Pairwise (· < ·) ∧ ∀ x, x ∈ L ↔ x ∈ xs) ∧ Below w.heap.size w W' := by
  have hsz := DS_le xs
  have hb0 : Below w.heap.size w (w.alloc (.cells #[.map (some b)] 73)) := (Below.refl _ _).alloc (Nat.le_refl _) _
  have hseq := (AnyZI.keys_stops (ρ := Try.keysA_ren) { Try.keysA with } Fence.wide 3 trivial rfl (by omega) w.heap.size b xs.length (DS xs) (w.alloc (.cells #[.map (some b)] 73)) (by simp) ((Blk.new w #[.map (some b)] 73).at 0 rfl) (hs.later hb0)).gives
  have cK : Calls Try.prog 90 #[.map (some b)] w fun e w' => e = .returned (.func (.func 104) #[] #[.pointer (some ⟨w.heap.size, 0, none⟩)]) ∧ w' = w.alloc (.cells #[.map (some b)] 73) := callsIn_wide.1 (AnyZI.keys_in Try.keysA Fence.wide 5 trivial rfl (some b) w)
  have cS := AnyZI.sorted_in Try.sortedA Fence.wide 6 trivial trivial trivial trivial rfl (by omega) (sortsA _) (enters_of Try.func103 (by kernel_rfl) rfl) 104 #[.pointer (some ⟨w.heap.size, 0, none⟩)] trivial (enters_of Try.func104 (by kernel_rfl) rfl) _ (Maps.size (DS (H := Value) xs)) (by unfold maxLen; omega) (by omega) _ hseq
  change CallsIn _ _ Try.prog 89 _ _ _ at cS
  replace cS := callsIn_wide.1 cS
  clear hseq
  go_enter Try.func57, Try.ntmps57
  go_wp2_with fail
  refine cK.mono ?_
  clear cK
  rintro e W ⟨rfl, rfl⟩
  go_wp2_with fail
  refine cS.mono ?_
  clear cS
  rintro e W ⟨v, ss, rfl, ⟨hp, hm⟩, hrow, _, hb⟩
  replace hb := hb0.trans (hb.mono hb0.size)
  have hlen : (ss.mergeSort fun x y => decide (x ≤ y)).length = ss.length := List.length_mergeSort ss
  have hnd : ss.Nodup := by
    obtain ⟨K, k1, k2, k3⟩ := DS_size xs
    have hc : CollectedI (DS (H := Value) xs) (fun _ => false) K := ⟨k1, fun x => by rw [k2, DS_has]; simp⟩
    exact (hp.trans (hc.perm hs keyed3 Try.underlying3 (fun _ => rfl)).symm).nodup_iff.2 k1
  have hL : Hid ((ss.mergeSort fun x y => decide (x ≤ y)).Pairwise (· < ·) ∧ ∀ x, x ∈ (ss.mergeSort fun x y => decide (x ≤ y)) ↔ x ∈ xs) := ⟨pair_of_sort ss hnd, fun x => by rw [List.mem_mergeSort, hm, DS_has]; simp⟩
  have hln : ss.length ≤ 1048576 := by
    have := nodup_le ss xs hnd (fun x hx => by have := (hm x).1 hx; rw [DS_has] at this; simpa using this)
    omega
  rw [← hlen] at hrow hln
  clear hp hm hnd hlen
  generalize (ss.mergeSort fun x y => decide (x ≤ y)) = L at hrow hL hln
  have hrow2 : W.ownsRow (w.alloc (.cells #[.map (some b)] 73)).heap.size 3 1 v L.length (L.map (Value.int .i64)) := hrow
  obtain ⟨a, cap, rfl, _, hr⟩ := own_row hrow2
  have hsw := hb.size
  have hwf : ∀ x ∈ L, (Lit.int .i64 x).wf = true := fun x hx => h1 x ((hL.out.2 x).1 hx)
  have hap : ∀ p : Addr, a = some p → w.heap.size ≤ p.block := fun p hp => by
    have h_ := (World.ownsRow.lt hrow2 p.block (by rw [hp]; rfl)).1
    have h2_ := hb0.size
    omega
  clear hrow hrow2 hb0
  go_wp2_with fail
  refine (values_is a L.length cap W).mono ?_
  rintro e W2 ⟨rfl, rfl⟩
  have hb2 : Below W.heap.size W (W.alloc (.cells #[.slice a L.length cap] 32)) := (Below.refl _ _).alloc (Nat.le_refl _) _
  have c2 : (W.alloc (.cells #[.slice a L.length cap] 32)).cell? ⟨W.heap.size, 0, none⟩ = some (.slice a L.length cap) := (Blk.new W #[.slice a L.length cap] 32).at 0 rfl
  have hr2 := hr.later hb2
  replace hb := hb.trans (hb2.mono hb.size)
  obtain ⟨W2, hW2⟩ : ∃ Z, W.alloc (.cells #[.slice a L.length cap] 32) = Z := ⟨_, rfl⟩
  rw [hW2] at c2 hr2 hb ⊢
  clear hb2 hr
  go_wp2
  go_ret
  exact ⟨_, L, a, cap, rfl, hsw, ⟨c2, hr2, hap, hwf, hln⟩, hL.out, hb⟩

/-- What ranges over functions have left to be done: nothing, each. -/
def dM (D : Nat) : Deferred := { target := .collected D, args := #[] }
structure DsOk (B : Nat) (ns : List Nat) (w : World) : Prop where
  nd : ns.Nodup
  at_ : ∀ D ∈ ns, B ≤ D ∧ w.heap[D]? = some (.deferred (some []))
theorem DsOk.later {B : Nat} {ns : List Nat} {w w' : World} (h : DsOk B ns w) (hb : Below w.heap.size w w') : DsOk B ns w' :=
  ⟨h.nd, fun D hD => ⟨(h.at_ D hD).1, (hb.block D (Array.getElem?_eq_some_iff.1 (h.at_ D hD).2).1).trans (h.at_ D hD).2⟩⟩
theorem DsOk.kb {B b n : Nat} {ns : List Nat} {w w' : World} (h : DsOk B ns w) (hb : KB b n w w') (hn : w.heap.size ≤ n) (hc : ∃ o : Obj, w.heap[b]? = some o ∧ o.isCells = true) : DsOk B ns w' :=
  ⟨h.nd, fun D hD => ⟨(h.at_ D hD).1, (hb.block D (Nat.lt_of_lt_of_le (Array.getElem?_eq_some_iff.1 (h.at_ D hD).2).1 hn) (fun e => by
    subst e
    obtain ⟨o, ho, hoc⟩ := hc
    rw [(h.at_ D hD).2] at ho
    injection ho with ho
    subst ho
    cases hoc)).trans (h.at_ D hD).2⟩⟩
theorem DsOk.cons {B D : Nat} {ns : List Nat} {w w' : World} (h : DsOk B ns w) (hb : Below w.heap.size w w' ∨ ∀ E ∈ ns, w'.heap[E]? = w.heap[E]?) (hD : w.heap.size ≤ D) (hB : B ≤ D) (hd : w'.heap[D]? = some (.deferred (some []))) : DsOk B (D :: ns) w' := by
  have hlt : ∀ E ∈ ns, E < w.heap.size := fun E hE => (Array.getElem?_eq_some_iff.1 (h.at_ E hE).2).1
  refine ⟨List.nodup_cons.2 ⟨fun c => by have := hlt D c; omega, h.nd⟩, fun E hE => ?_⟩
  rcases List.mem_cons.1 hE with rfl | hE
  · exact ⟨hB, hd⟩
  · refine ⟨(h.at_ E hE).1, ?_⟩
    rcases hb with hb | hb
    · exact (hb.block E (hlt E hE)).trans (h.at_ E hE).2
    · exact (hb E hE).trans (h.at_ E hE).2
/-- At its end a function whose answer lies in slots does what is left: nothing. -/
theorem leaves_all {F : Fence} {n : Nat} {P : Program} {fn : Func} {tmps : Array Value} {R : Ending → World → Prop} {B : Nat} {v : Value} {w0 : World} (hres : ∀ w, (results fn tmps).run P w = .ok v w) (hR : ∀ w, Below B w0 w → R (.returned v) w) :
    ∀ (ns : List Nat) (w : World), DsOk B ns w → Below B w0 w → LeavesInM F n P fn tmps R (ns.map dM) .returning w
  | [], w, _, hb => ⟨v, hres w, hR w hb⟩
  | D :: ns, w, h, hb => by
    obtain ⟨hBD, hd⟩ := h.at_ D (List.mem_cons_self ..)
    have hnd := List.nodup_cons.1 h.nd
    refine ⟨by simp, .inl ⟨D, _, rfl, run_takeDeferred hd, leaves_all hres hR ns _ ⟨hnd.2, fun E hE => ?_⟩ ?_⟩⟩
    · obtain ⟨h1, h2⟩ := h.at_ E (List.mem_cons_of_mem _ hE)
      refine ⟨h1, ?_⟩
      have hg := grownBy_putObj' w D (.deferred none)
      exact (hg.block E (Array.getElem?_eq_some_iff.1 h2).1 (fun e => by injection e with e; subst e; exact hnd.1 hE)).trans h2
    · have hg := grownBy_putObj' w D (.deferred none)
      exact ⟨hg.os.trans hb.os, hg.tape.trans hb.tape, hg.output.trans hb.output, Nat.le_trans hb.size hg.size, fun k hk => (hg.block k (Nat.lt_of_lt_of_le hk (by have := (Array.getElem?_eq_some_iff.1 hd).1; omega)) (fun e => by injection e with e; omega)).trans (hb.block k hk)⟩
end Go.Proofs.Ytjbbhegijlnndaa

set_option linter.unusedVariables false
set_option maxRecDepth 100000
namespace Go.Proofs.Ytjbbhegijlnndaa.Nd
attribute [local go_sem] Oper.semAt_some
open Go Go.RowKit Go.Joins Own Draw Go.Shelf Maps Go.Proofs.Ytjbbhegijlnndaa Go.Proofs.Ytjbbhegijlnndaa.Var

/-- The state of the loop over the rules: what was shown lies in block sh, what is left to be done in ns. -/
def LpS (w : World) (a : Option Addr) (cap : Nat) (xs : List TT) (sh : Nat) (s0 : ByteArray) (act : Act) (W : World) : Prop :=
  ∃ (j : Nat) (ns : List Nat) (u4 u5 u6 u7 u8 u9 u10 u11 u12 u16 u17 u18 u19 u20 u21 u22 u23 u24 u25 u26 u27 u28 u29 u30 u31 u32 u33 u34 u35 u36 u37 u38 u39 u40 u41 u42 : Value), act = { tmps := #[.slice a xs.length cap, undef, .string ⟨#[]⟩, .pointer (some ⟨sh, 0, none⟩), u4, u5, u6, u7, u8, u9, u10, u11, u12, .slice a xs.length cap, .int .i64 (xs.length : Int), .int .i64 (j : Int), u16, u17, u18, u19, u20, u21, u22, u23, u24, u25, u26, u27, u28, u29, u30, u31, u32, u33, u34, u35, u36, u37, u38, u39, u40, u41, u42], defers := ns.map dM } ∧ j ≤ xs.length ∧ Blk sh [.string (shS s0 ((xs.map stT).take j))] W ∧ DsOk w.heap.size ns W ∧ Below w.heap.size w W
/-- What comes behind, where nothing panics. -/
def NoP (Q : Exit → Act → World → Prop) : Exit → Act → World → Prop
  | .panic _, _, _ => False
  | e, a, w => Q e a w
theorem wp_noP {P : Program} {c : Code} {Q : Exit → Act → World → Prop} {a : Act} {w : World} (h : c.wp P (NoP Q) a w) : c.wp P Q a w :=
  Code.wp_mono (fun e a w h => by cases e <;> first | exact h | exact h.elim) h
theorem kb_set (W : World) (g : Nat) (v : Value) : KB g W.heap.size W (W.setCell ⟨g, 0, none⟩ v) :=
  have h := set_grown W g 0 v
  ⟨h.os, h.tape, h.output, h.size, fun k hk hne => h.block k hk (fun e => hne (by injection e))⟩
theorem blk_obj {g : Nat} {v : Value} {vs : List Value} {W : World} (h : Blk g (v :: vs) W) : ∃ o : Obj, W.heap[g]? = some o ∧ o.isCells = true := by
  have h0 := h.at 0 rfl
  have hl := h.lt
  refine ⟨W.heap[g], Array.getElem?_eq_getElem hl, ?_⟩
  unfold World.cell? at h0
  rw [Array.getElem?_eq_getElem hl] at h0
  cases ho : W.heap[g] with
  | cells => rfl
  | _ => rw [ho] at h0; simp at h0
set_option maxHeartbeats 12800000 in
theorem implShow_is (r : Rw TT) (w : World) (hr : RpT w r) (lr : rtT r ≤ 1048576) :
    Calls Try.prog 20 #[.slice r.1 r.2.2.length r.2.1] w fun e w' => e = .returned (.string (showP (rsT r))) ∧ Below w.heap.size w w' := by
  have p1 := rt_parts lr
  have K0 := implRulesOk_is r w hr p1.2 p1.1
  have HD : Hid (showP (rsT r) = if okL (rsT r) = true then shS (varOf ((rsT r).length : Int)) (rsT r) else ⟨#[]⟩) := (rfl : showP (rsT r) = _)
  generalize showP (rsT r) = ans at HD ⊢
  by_cases hok : okL (rsT r) = true
  rotate_left
  · have HD2 : Hid (ans = ⟨#[]⟩) := by show _ = _; rw [HD.out, if_neg hok]
    rw [Bool.not_eq_true] at hok
    rw [hok] at K0
    clear HD p1 lr hr
    refine (callsIn_wide (n := 6)).1 ?_
    refine callsIn_of_wp_marks Try.func20 rfl trivial ?_ rfl
    simp only [Try.ntmps20, List.size_toArray, List.length_cons, List.length_nil, Nat.reduceAdd, Nat.reduceSub, Array.replicate_succ, Array.replicate_zero, List.push_toArray, List.append_toArray, List.nil_append, List.cons_append]
    gi_wp2
    refine ⟨trivial, (callsIn_wide.2 K0).mono ?_⟩
    clear K0
    rintro en W1 ⟨rfl, BC⟩
    gi_wp2
    exact ⟨_, results_tmp rfl _ _ _, by rw [HD2.out]; rfl, BC⟩
  have HD2 : Hid (ans = shS (varOf ((rsT r).length : Int)) (rsT r)) := by show _ = _; rw [HD.out, if_pos hok]
  have hl20 := (okL_mem hok).1
  have hall := (okL_mem hok).2
  rw [hok] at K0
  clear HD p1 lr
  obtain ⟨a, cap, xs⟩ := r
  obtain ⟨hrow, hdp⟩ := hr
  dsimp only at hrow hdp ⊢
  have hlen : (rsT (a, cap, xs)).length = xs.length := by unfold rsT; simp
  rw [hlen] at HD2 hl20
  have h31 : ∀ p ∈ xs.map stT, p.2.1.length ≤ 31 := fun p hp => ri_len (show riB (-1) p.2.1 = true from okP_set (hall p hp))
  have HOK : Hid (∀ p ∈ xs.map stT, okP p = true) := hall
  have HD3 : Hid (ans = shS (varOf (xs.length : Int)) (xs.map stT)) := HD2
  clear hall HD2 hlen hok
  have hv0 := varOf_size (xs.length : Int)
  refine (callsIn_wide (n := 6)).1 ?_
  refine callsIn_of_wp_marks Try.func20 rfl trivial ?_ rfl
  simp only [Try.ntmps20, List.size_toArray, List.length_cons, List.length_nil, Nat.reduceAdd, Nat.reduceSub, Array.replicate_succ, Array.replicate_zero, List.push_toArray, List.append_toArray, List.nil_append, List.cons_append]
  gi_wp2
  refine ⟨trivial, (callsIn_wide.2 K0).mono ?_⟩
  clear K0
  rintro en W1 ⟨rfl, BC⟩
  gi_wp2
  refine ⟨trivial, (callsIn_wide.2 (impl_var (xs.length : Int) W1)).mono ?_⟩
  rintro en W2 ⟨rfl, hb⟩
  replace BC := BC.trans (hb.mono BC.size)
  clear hb
  generalize varOf (xs.length : Int) = s0 at hv0 HD3
  obtain ⟨V, hV⟩ : ∃ Z, W2.alloc (.cells #[.string s0] 9) = Z := ⟨_, rfl⟩
  have XA : Below W2.heap.size W2 V := by rw [← hV]; exact (Below.refl _ _).alloc (Nat.le_refl _) _
  have TV : Blk W2.heap.size [.string s0] V := by rw [← hV]; exact Blk.new _ _ _
  have hsB : w.heap.size ≤ W2.heap.size := BC.size
  replace BC := BC.trans (XA.mono BC.size)
  clear XA
  obtain ⟨sh, hsh⟩ : ∃ sh, W2.heap.size = sh := ⟨_, rfl⟩
  rw [hsh] at TV hsB
  gi_wp2
  try rw [hV]
  try rw [hsh]
  clear hV hsh
  refine wpIn_loop (LpS w a cap xs sh s0) (fun act _ => xs.length - (intOf (act.tmps.getD 15 undef)).toNat) ⟨0, [], _, _, _, _, _, _, _, _, _, _, _, _, _, _, _, _, _, _, _, _, _, _, _, _, _, _, _, _, _, _, _, _, _, _, _, _, rfl, Nat.zero_le _, TV, ⟨List.nodup_nil, fun D hD => by cases hD⟩, BC⟩ ?_
  clear TV BC
  rintro act wr ⟨j, ns, u4, u5, u6, u7, u8, u9, u10, u11, u12, u16, u17, u18, u19, u20, u21, u22, u23, u24, u25, u26, u27, u28, u29, u30, u31, u32, u33, u34, u35, u36, u37, u38, u39, u40, u41, u42, rfl, hj, TV, hds, BC⟩
  by_cases hlt : j < xs.length
  · obtain ⟨b, off, rfl, hb0, hc⟩ := hrow j hlt
    have hlt2 : (j : Int) < (xs.length : Int) := by omega
    have hjm : j < (xs.map stT).length := by simpa using hlt
    have HS : Hid (shS s0 ((xs.map stT).take (j + 1)) = shN (shS s0 ((xs.map stT).take j) ++ shH (stT xs[j])) xs[j].2.1.2.2) := by
      show _ = _
      rw [shS_step hjm]
      simp only [List.getElem_map]
      rfl
    have hsz : (shS s0 ((xs.map stT).take j)).size ≤ 5000 := by
      have h_ := shS_size ((xs.map stT).take j) s0 (fun p hp => h31 p (List.mem_of_mem_take hp))
      have h2_ : ((xs.map stT).take j).length ≤ 20 := by rw [List.length_take]; omega
      omega
    have hx31 : xs[j].2.1.2.2.length ≤ 31 := h31 (stT xs[j]) (List.mem_map_of_mem (List.getElem_mem hlt))
    have hxr : riB (-1) xs[j].2.1.2.2 = true := okP_set (HOK.out (stT xs[j]) (List.mem_map_of_mem (List.getElem_mem hlt)))
    have c0 : wr.cell? ⟨b, off + j * 3, none⟩ = some (.int .i64 xs[j].1) := (BC.cell (p := ⟨b, off + j * 3, none⟩) hb0).trans (hc 0 _ rfl)
    have c1 : wr.cell? ⟨b, off + j * 3 + 1, none⟩ = some (.slice xs[j].2.1.1 xs[j].2.1.2.2.length xs[j].2.1.2.1) := (BC.cell (p := ⟨b, off + j * 3 + 1, none⟩) hb0).trans (hc 1 _ rfl)
    have c2 : wr.cell? ⟨b, off + j * 3 + 2, none⟩ = some (.int .i64 xs[j].2.2) := (BC.cell (p := ⟨b, off + j * 3 + 2, none⟩) hb0).trans (hc 2 _ rfl)
    have hset : RowAt (Value.int .i64) w xs[j].2.1.1 xs[j].2.1.2.2 := hdp _ (List.getElem_mem hlt)
    have HNX : Hid (∀ W ms act', Blk sh [.string (shN (shS s0 ((xs.map stT).take j) ++ shH (stT xs[j])) xs[j].2.1.2.2)] W → DsOk w.heap.size ms W → Below w.heap.size w W → (∃ u4 u5 u6 u7 u8 u9 u10 u11 u12 u16 u17 u18 u19 u20 u21 u22 u23 u24 u25 u26 u27 u28 u29 u30 u31 u32 u33 u34 u35 u36 u37 u38 u39 u40 u41 u42 : Value, act' = { tmps := #[.slice (some ⟨b, off, none⟩) xs.length cap, undef, .string ⟨#[]⟩, .pointer (some ⟨sh, 0, none⟩), u4, u5, u6, u7, u8, u9, u10, u11, u12, .slice (some ⟨b, off, none⟩) xs.length cap, .int .i64 (xs.length : Int), .int .i64 ((j : Int) + 1), u16, u17, u18, u19, u20, u21, u22, u23, u24, u25, u26, u27, u28, u29, u30, u31, u32, u33, u34, u35, u36, u37, u38, u39, u40, u41, u42], defers := ms.map dM }) → LpS w (some ⟨b, off, none⟩) cap xs sh s0 act' W) :=
      fun W ms act' h1 h2 h3 ⟨u4, u5, u6, u7, u8, u9, u10, u11, u12, u16, u17, u18, u19, u20, u21, u22, u23, u24, u25, u26, u27, u28, u29, u30, u31, u32, u33, u34, u35, u36, u37, u38, u39, u40, u41, u42, h4⟩ => ⟨j + 1, ms, u4, u5, u6, u7, u8, u9, u10, u11, u12, u16, u17, u18, u19, u20, u21, u22, u23, u24, u25, u26, u27, u28, u29, u30, u31, u32, u33, u34, u35, u36, u37, u38, u39, u40, u41, u42, h4, by omega, by rw [HS.out]; exact h1, h2, h3⟩
    clear HS hc
    generalize xs[j] = x at HNX hx31 hxr c0 c1 c2 hset
    generalize shS s0 ((xs.map stT).take j) = st at HNX hsz TV
    have q1 := varOf_size x.1
    have q2 := varOf_size x.2.2
    have q3 := varOf_size (x.2.1.2.2.length : Int)
    have hHs := shH_size (stT x)
    have z1 : ¬ 9223372036854775807 < (varOf x.1).size + (varOf x.2.2).size := by omega
    have z2 : ¬ 9223372036854775807 < (varOf x.1).size + (varOf x.2.2).size + (varOf (x.2.1.2.2.length : Int)).size := by omega
    have z3 : ¬ 9223372036854775807 < st.size + ((varOf x.1).size + (varOf x.2.2).size + (varOf (x.2.1.2.2.length : Int)).size) := by omega
    obtain ⟨V1, hV1⟩ : ∃ Z, wr.alloc (.cells #[.int .i64 x.1, .slice x.2.1.1 x.2.1.2.2.length x.2.1.2.1, .int .i64 x.2.2] 59) = Z := ⟨_, rfl⟩
    have XA : Below wr.heap.size wr V1 := by rw [← hV1]; exact (Below.refl _ _).alloc (Nat.le_refl _) _
    have TX : Blk wr.heap.size [.int .i64 x.1, .slice x.2.1.1 x.2.1.2.2.length x.2.1.2.1, .int .i64 x.2.2] V1 := by rw [← hV1]; exact Blk.new _ _ _
    have hrb : sh < wr.heap.size := TV.lt
    replace TV := TV.later XA TV.lt
    replace hds := hds.later XA
    have hwrs : w.heap.size ≤ wr.heap.size := BC.size
    replace BC := BC.trans (XA.mono BC.size)
    clear XA
    obtain ⟨rb, hrbe⟩ : ∃ rb, wr.heap.size = rb := ⟨_, rfl⟩
    rw [hrbe] at TX hrb hwrs
    gi_wp2
    try rw [hV1]
    try rw [hrbe]
    refine wpIn_wide.2 (wp_noP ?_)
    clear hV1 hrbe c0 c1 c2
    replace TV := TV.drew
    replace TX := TX.drew
    replace BC := BC.drew
    replace hds : DsOk w.heap.size ns V1.drew := ⟨hds.nd, hds.at_⟩
    refine drew_E 14 ((fun Vw => Blk sh [.string st] Vw ∧ Blk rb [.int .i64 x.1, .slice x.2.1.1 x.2.1.2.2.length x.2.1.2.1, .int .i64 x.2.2] Vw)) (by kernel_rfl) ⟨TV, TX⟩ (fun hHeld => ?_)
    refine take_E 0 19 (v := ?_) rfl rfl (by kernel_rfl) (by kernel_rfl) (by kernel_rfl) (by kernel_rfl) (fun _ _ _ h => h) (Or.inl ⟨by rfl, ?_⟩) hHeld ?_
    rotate_left
    · intro w' hSw; (try dsimp only at hSw); obtain ⟨hA_, hB_⟩ := hSw; have k9 := hA_.at 0 rfl; have k0 := hB_.at 0 rfl; have k1 := hB_.at 1 rfl; have k2 := hB_.at 2 rfl; go_simp; try with_reducible rfl
    try simp only [Act.put, List.setIfInBounds_toArray, List.set_cons_zero, List.set_cons_succ]
    refine take_E 1 20 (v := ?_) rfl rfl (by kernel_rfl) (by kernel_rfl) (by kernel_rfl) (by kernel_rfl) (fun _ _ _ h => h) (Or.inl ⟨by rfl, ?_⟩) hHeld ?_
    rotate_left
    · intro w' hSw; (try dsimp only at hSw); obtain ⟨hA_, hB_⟩ := hSw; have k9 := hA_.at 0 rfl; have k0 := hB_.at 0 rfl; have k1 := hB_.at 1 rfl; have k2 := hB_.at 2 rfl; go_simp; try with_reducible rfl
    try simp only [Act.put, List.setIfInBounds_toArray, List.set_cons_zero, List.set_cons_succ]
    refine take_E 2 21 (v := ?_) rfl rfl (by kernel_rfl) (by kernel_rfl) (by kernel_rfl) (by kernel_rfl) (fun _ _ _ h => h) (Or.inl ⟨by rfl, ?_⟩) hHeld ?_
    rotate_left
    · intro w' hSw; (try dsimp only at hSw); obtain ⟨hA_, hB_⟩ := hSw; have k9 := hA_.at 0 rfl; have k0 := hB_.at 0 rfl; have k1 := hB_.at 1 rfl; have k2 := hB_.at 2 rfl; go_simp; try with_reducible rfl
    try simp only [Act.put, List.setIfInBounds_toArray, List.set_cons_zero, List.set_cons_succ]
    refine take_E 4 23 (v := ?_) rfl rfl (by kernel_rfl) (by kernel_rfl) (by kernel_rfl) (by kernel_rfl) (fun _ _ _ h => h) (Or.inl ⟨by rfl, ?_⟩) hHeld ?_
    rotate_left
    · intro w' hSw; (try dsimp only at hSw); obtain ⟨hA_, hB_⟩ := hSw; have k9 := hA_.at 0 rfl; have k0 := hB_.at 0 rfl; have k1 := hB_.at 1 rfl; have k2 := hB_.at 2 rfl; go_simp; try with_reducible rfl
    try simp only [Act.put, List.setIfInBounds_toArray, List.set_cons_zero, List.set_cons_succ]
    refine take_E 5 24 (v := ?_) rfl rfl (by kernel_rfl) (by kernel_rfl) (by kernel_rfl) (by kernel_rfl) (fun _ _ _ h => h) (Or.inl ⟨by rfl, ?_⟩) hHeld ?_
    rotate_left
    · intro w' hSw; (try dsimp only at hSw); obtain ⟨hA_, hB_⟩ := hSw; have k9 := hA_.at 0 rfl; have k0 := hB_.at 0 rfl; have k1 := hB_.at 1 rfl; have k2 := hB_.at 2 rfl; go_simp; try with_reducible rfl
    try simp only [Act.put, List.setIfInBounds_toArray, List.set_cons_zero, List.set_cons_succ]
    refine take_E 8 27 (v := ?_) rfl rfl (by kernel_rfl) (by kernel_rfl) (by kernel_rfl) (by kernel_rfl) (fun _ _ _ h => h) (Or.inl ⟨by rfl, ?_⟩) hHeld ?_
    rotate_left
    · intro w' hSw; (try dsimp only at hSw); obtain ⟨hA_, hB_⟩ := hSw; have k9 := hA_.at 0 rfl; have k0 := hB_.at 0 rfl; have k1 := hB_.at 1 rfl; have k2 := hB_.at 2 rfl; go_simp; try with_reducible rfl
    try simp only [Act.put, List.setIfInBounds_toArray, List.set_cons_zero, List.set_cons_succ]
    refine take_E 9 28 (v := ?_) rfl rfl (by kernel_rfl) (by kernel_rfl) (by kernel_rfl) (by kernel_rfl) (fun _ _ _ h => h) (Or.inl ⟨by rfl, ?_⟩) hHeld ?_
    rotate_left
    · intro w' hSw; (try dsimp only at hSw); obtain ⟨hA_, hB_⟩ := hSw; have k9 := hA_.at 0 rfl; have k0 := hB_.at 0 rfl; have k1 := hB_.at 1 rfl; have k2 := hB_.at 2 rfl; go_simp; try with_reducible rfl
    try simp only [Act.put, List.setIfInBounds_toArray, List.set_cons_zero, List.set_cons_succ]
    refine take_E 10 29 (v := ?_) rfl rfl (by kernel_rfl) (by kernel_rfl) (by kernel_rfl) (by kernel_rfl) (fun _ _ _ h => h) (Or.inl ⟨by rfl, ?_⟩) hHeld ?_
    rotate_left
    · intro w' hSw; (try dsimp only at hSw); obtain ⟨hA_, hB_⟩ := hSw; have k9 := hA_.at 0 rfl; have k0 := hB_.at 0 rfl; have k1 := hB_.at 1 rfl; have k2 := hB_.at 2 rfl; go_simp; try with_reducible rfl
    try simp only [Act.put, List.setIfInBounds_toArray, List.set_cons_zero, List.set_cons_succ]
    refine one_E 3 (by kernel_rfl) rfl (fun K hK => ?_)
    go_simp
    refine ((impl_var x.1 _)).mono ?_
    rintro en v1 ⟨rfl, hb⟩
    replace TV := TV.later hb TV.lt
    replace TX := TX.later hb TX.lt
    replace hds := hds.later hb
    replace BC := BC.trans (hb.mono BC.size)
    clear hb
    go_wp2_with fail
    refine hK.out _ _ ⟨TV, TX⟩ (fun hHeld2 => ?_)
    clear hK K hHeld
    have hHeld := hHeld2
    clear hHeld2
    try simp only [Act.put, List.setIfInBounds_toArray, List.set_cons_zero, List.set_cons_succ]
    refine one_E 6 (by kernel_rfl) rfl (fun K hK => ?_)
    go_simp
    refine ((impl_var x.2.2 _)).mono ?_
    rintro en v2 ⟨rfl, hb⟩
    replace TV := TV.later hb TV.lt
    replace TX := TX.later hb TX.lt
    replace hds := hds.later hb
    replace BC := BC.trans (hb.mono BC.size)
    clear hb
    go_wp2_with fail
    refine hK.out _ _ ⟨TV, TX⟩ (fun hHeld2 => ?_)
    clear hK K hHeld
    have hHeld := hHeld2
    clear hHeld2
    try simp only [Act.put, List.setIfInBounds_toArray, List.set_cons_zero, List.set_cons_succ]
    refine take_E 7 26 (v := ?_) rfl rfl (by kernel_rfl) (by kernel_rfl) (by kernel_rfl) (by kernel_rfl) (fun _ _ _ h => h) (Or.inl ⟨by rfl, ?_⟩) hHeld ?_
    rotate_left
    · intro w' hSw; (try dsimp only at hSw); obtain ⟨hA_, hB_⟩ := hSw; have k9 := hA_.at 0 rfl; have k0 := hB_.at 0 rfl; have k1 := hB_.at 1 rfl; have k2 := hB_.at 2 rfl; go_simp; try with_reducible rfl
    try simp only [Act.put, List.setIfInBounds_toArray, List.set_cons_zero, List.set_cons_succ]
    refine one_E 11 (by kernel_rfl) rfl (fun K hK => ?_)
    go_simp
    refine ((impl_var (x.2.1.2.2.length : Int) _)).mono ?_
    rintro en v3 ⟨rfl, hb⟩
    replace TV := TV.later hb TV.lt
    replace TX := TX.later hb TX.lt
    replace hds := hds.later hb
    replace BC := BC.trans (hb.mono BC.size)
    clear hb
    go_wp2_with fail
    refine hK.out _ _ ⟨TV, TX⟩ (fun hHeld2 => ?_)
    clear hK K hHeld
    have hHeld := hHeld2
    clear hHeld2
    try simp only [Act.put, List.setIfInBounds_toArray, List.set_cons_zero, List.set_cons_succ]
    refine take_E 12 31 (v := ?_) rfl rfl (by kernel_rfl) (by kernel_rfl) (by kernel_rfl) (by kernel_rfl) (fun _ _ _ h => h) (Or.inl ⟨by rfl, ?_⟩) hHeld ?_
    rotate_left
    · intro w' hSw; (try dsimp only at hSw); obtain ⟨hA_, hB_⟩ := hSw; have k9 := hA_.at 0 rfl; have k0 := hB_.at 0 rfl; have k1 := hB_.at 1 rfl; have k2 := hB_.at 2 rfl; go_simp; try with_reducible rfl
    try simp only [Act.put, List.setIfInBounds_toArray, List.set_cons_zero, List.set_cons_succ]
    refine take_E 13 32 (v := ?_) rfl rfl (by kernel_rfl) (by kernel_rfl) (by kernel_rfl) (by kernel_rfl) (fun _ _ _ h => h) (Or.inl ⟨by rfl, ?_⟩) hHeld ?_
    rotate_left
    · intro w' hSw; (try dsimp only at hSw); obtain ⟨hA_, hB_⟩ := hSw; have k9 := hA_.at 0 rfl; have k0 := hB_.at 0 rfl; have k1 := hB_.at 1 rfl; have k2 := hB_.at 2 rfl; go_simp; try with_reducible rfl
    try simp only [Act.put, List.setIfInBounds_toArray, List.set_cons_zero, List.set_cons_succ]
    refine last_E (by kernel_rfl) rfl (by kernel_rfl) (fun K hK => ?_)
    have t0_ := TV.at 0 rfl
    have f0_ := TV.fz 0 rfl
    go_simp
    clear t0_ f0_
    obtain ⟨v4, hv4⟩ : ∃ Z, v3.setCell ⟨sh, 0, none⟩ (.string (st ++ (varOf x.1 ++ varOf x.2.2 ++ varOf (x.2.1.2.2.length : Int)))) = Z := ⟨_, rfl⟩
    rw [hv4]
    have TV4 : Blk sh [.string (st ++ shH (stT x))] v4 := by rw [← hv4]; exact TV.set 0 _
    have TX4 : Blk rb [.int .i64 x.1, .slice x.2.1.1 x.2.1.2.2.length x.2.1.2.1, .int .i64 x.2.2] v4 := by rw [← hv4]; exact TX.far (by omega) 0 _
    have BC4 : Below w.heap.size w v4 := by rw [← hv4]; exact BC.setCell (p := ⟨sh, 0, none⟩) hsB _
    have hds4 : DsOk w.heap.size ns v4 := hds.kb (b := sh) (n := v3.heap.size) (by rw [← hv4]; exact kb_set v3 sh _) (Nat.le_refl _) (blk_obj TV)
    clear TV TX BC hds hv4
    refine hK.out _ _ ?_
    clear hK K hHeld
    simp only [NoP]
    clear z1 z2 z3 q1 q2 q3
    have hs1 : (st ++ shH (stT x)).size ≤ 5021 := by rw [ba_size]; omega
    generalize st ++ shH (stT x) = s1 at HNX TV4 hs1
    have k0 := TX4.at 0 rfl
    have k1 := TX4.at 1 rfl
    have k2 := TX4.at 2 rfl
    gi_wp2
    refine ⟨trivial, (callsIn_wide.2 (numbers_is x.1 x.2.2 (hset.later BC4) (wf_ri hxr) (by omega))).mono ?_⟩
    rintro en v5 ⟨g5, rfl, hg5, hs5, hb⟩
    replace TV4 := TV4.later hb TV4.lt
    replace TX4 := TX4.later hb TX4.lt
    replace hds4 := hds4.later hb
    replace BC4 := BC4.trans (hb.mono BC4.size)
    clear hb k0 k1 k2
    gi_wp2
    refine ⟨trivial, (callsIn_wide.2 (rising2_is (wf_ri hxr) (by omega) hs5)).mono ?_⟩
    rintro en Wc ⟨Bs, L, a2, cap2, rfl, hBs, ⟨cBs, hL, haL, hwL, hlL⟩, hLL, hb⟩
    have hL2 : L = x.2.1.2.2 := rise_ext hLL.1 (ri_pair hxr) hLL.2
    subst hL2
    have hsh5 : sh < v5.heap.size := TV4.lt
    replace TV4 := TV4.later hb TV4.lt
    replace hds4 := hds4.later hb
    replace BC4 := BC4.trans (hb.mono BC4.size)
    have hshc : sh < Wc.heap.size := TV4.lt
    clear hb TX4 hs5 hLL
    have hR := toZ_row hwL hL
    have hzl := toZ_len _ hwL
    have hzz := zs_toZ _ hwL
    have cB2 : Wc.cell? ⟨Bs, 0, none⟩ = some (.slice a2 (toZ _ hwL).length cap2) := by rw [hzl]; exact cBs
    generalize toZ _ hwL = Z at hR hzl hzz cB2
    gi_wp2
    refine wpIn_rangeFunc_ownG (α := Z64) rfl (by omega) (gf := 102) (lb := #[.pointer (some ⟨Bs, 0, none⟩)]) rfl trivial (enters_of Try.func102 (by kernel_rfl) rfl)
      (vals2_stops 5 (by omega) Bs sh Wc.heap.size a2 cap2 Z (by omega) Wc hR (Nat.le_refl _) (fun p hp => by have := haL p hp; omega) (by omega) cB2) KB.trans (KB.put (Nat.le_refl _)) (Below.refl _ _) (fun _ => rfl)
      (fun pre W => Blk sh [.string (shN s1 (zs pre))] W ∧ KB sh Wc.heap.size Wc W)
      (fun _ _ _ => False)
      (OwnFrom.and (fun s A B row h hg hq => h.keptC hg (fun r e => (hq r e).2)) (ownFrom_kb (Nat.le_refl _) (Nat.le_refl _)))
      (fun _ _ _ _ _ h _ _ => h)
      ⟨TV4, KB.refl _ _ _⟩
      (fun z => { tmps := #[.slice (some ⟨b, off, none⟩) xs.length cap, undef, .string ⟨#[]⟩, .pointer (some ⟨sh, 0, none⟩), u4, .pointer (some ⟨rb, 0, none⟩), zV z, u7, u8, u9, u10, u11, u12, .slice (some ⟨b, off, none⟩) xs.length cap, .int .i64 (xs.length : Int), .int .i64 (j : Int), .bool true, .pointer (some ⟨b, off + j * 3, none⟩), .agg #[.int .i64 x.1, .slice x.2.1.1 x.2.1.2.2.length x.2.1.2.1, .int .i64 x.2.2], .string st, .pointer (some ⟨rb, 0, none⟩), .int .i64 x.1, .string (varOf x.1), .pointer (some ⟨rb, 2, none⟩), .int .i64 x.2.2, .string (varOf x.2.2), .string (varOf x.1 ++ varOf x.2.2), .pointer (some ⟨rb, 1, none⟩), .slice x.2.1.1 x.2.1.2.2.length x.2.1.2.1, .int .i64 (x.2.1.2.2.length : Int), .string (varOf (x.2.1.2.2.length : Int)), .string (varOf x.1 ++ varOf x.2.2 ++ varOf (x.2.1.2.2.length : Int)), .string (st ++ (varOf x.1 ++ varOf x.2.2 ++ varOf (x.2.1.2.2.length : Int))), .agg #[.int .i64 x.1, .slice x.2.1.1 x.2.1.2.2.length x.2.1.2.1, .int .i64 x.2.2], .map (some g5), SQ Bs, zV z, u37, u38, u39, u40, u41, u42], defers := [] }) ?assign ?body ?done ?stop
    case assign =>
      intro l z W K hK
      gi_wp2
      exact hK
    case body =>
      rintro l pre z W ⟨TB, hKB⟩ hlt3
      have hn1 : 1 ≤ 6 - 1 - 1 := by omega
      have hmx : Try.prog.follows .mixedOrders = true := by kernel_rfl
      have hq7 := varOf_size z.1
      have hsq := shN_size (zs pre) s1
      have hpl : (zs pre).length = pre.length := by simp [zs]
      have HSN : Hid (shN s1 (zs (pre ++ [z])) = shN s1 (zs pre) ++ varOf z.1) := by show _ = _; rw [zs_snoc, shN_snoc]
      generalize shN s1 (zs pre) = s2 at HSN hsq TB
      have zq : ¬ 9223372036854775807 < s2.size + (varOf z.1).size := by omega
      have TD := TB.drew
      have t0 := TB.at 0 rfl
      have f0 := TB.fz 0 rfl
      unfold zV
      gi_wp2
      gi_region_with_o (refine ⟨trivial, ?_⟩; refine (CallsIn.inRound l (callsIn_wide.2 (impl_var z.1 _))).mono ?_; rintro e w9 ⟨rfl, hb9⟩; have t9 := (TD.later hb9 TD.lt).at 0 rfl; have f9 := (TD.later hb9 TD.lt).fz 0 rfl)
      all_goals gi_wp2
      all_goals exact
        have hb0 : Below W.heap.size W w9 := (Below.refl _ W).drew.trans hb9
        have T9 := (TD.later hb9 TD.lt).set 0 (.string (s2 ++ varOf z.1))
        have hk : KB sh Wc.heap.size W (w9.setCell ⟨sh, 0, none⟩ (.string (s2 ++ varOf z.1))) := (KB.of (hb0.mono hKB.size)).trans ((kb_set w9 sh _).mono (Nat.le_trans hKB.size hb0.size))
        ⟨(KeepsFrom.of_grownBy (grown_of_below hb0) (fun j e => by cases e)).trans (KeepsFrom.of_grownBy (set_grown w9 sh 0 _) (fun j e => by cases e; exact hshc)), hk, by rw [HSN.out]; exact T9, hKB.trans hk⟩
    case done =>
      rintro D us W hD rfl ⟨TB, hKB⟩ hK
      rw [hzz] at TB
      have hd2 := hds4.kb hKB (Nat.le_refl _) (blk_obj TV4)
      have hdw : DsOk w.heap.size (D :: ns) W := hds4.cons (Or.inr (fun E hE => (hd2.at_ E hE).2.trans (hds4.at_ E hE).2.symm)) hD (Nat.le_trans BC4.size hD) hK
      have BW : Below w.heap.size w W := BC4.trans (hKB.below hsB BC4.size)
      have HR := fun act' h4 => HNX.out W (D :: ns) act' TB hdw BW h4
      clear HNX TB hKB hd2 hdw BW hds4 BC4 TV4
      gi_wp2
      exact ⟨HR _ ⟨_, _, _, _, _, _, _, _, _, _, _, _, _, _, _, _, _, _, _, _, _, _, _, _, _, _, _, _, _, _, _, _, _, _, _, _, rfl⟩, by simp [intOf]; omega⟩
    case stop =>
      rintro D c pre W _ _ h _
      exact h.elim
  · obtain rfl : j = xs.length := by omega
    have hlt2 : ¬ ((xs.length : Int) < (xs.length : Int)) := by omega
    have HF : Hid (ans = shS s0 ((xs.map stT).take xs.length)) := by show _ = _; rw [HD3.out, List.take_of_length_le (by simp)]
    generalize shS s0 ((xs.map stT).take xs.length) = fin at HF TV
    have t0 := TV.at 0 rfl
    clear HD3 HOK h31
    gi_wp2
    exact leaves_all (fun w' => results_tmp rfl _ _ _) (fun w' hb => ⟨by rw [HF.out]; rfl, hb⟩) ns wr hds BC
end Go.Proofs.Ytjbbhegijlnndaa.Nd
