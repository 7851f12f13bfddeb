/- The question which keys are reached, put to the view. -/
import Derived.Test.YtkekfogepdhjhaaRange
import Derived.Test.YtkekfogepdhjhaaSortL
import Derived.Test.YtkekfogepdhjhaaKeys
import Derived.Test.YtkekfogepdhjhaaClose2
import Derived.Maps.RangeWalk
import Derived.Maps.AppendAt
import Derived.Sort.OwnSortedInts
import Derived.Test.YtkekfogepdhjhaaAsk
import Derived.Test.YtkekfogepdhjhaaLearn4
import Derived.Test.YtkekfogepdhjhaaSpecAsk
set_option linter.unusedVariables false
namespace Go.Proofs.Ytkekfogepdhjhaa
open Go.RowKit Go.Sort Var Term Go.Proofs.Ytkekfogepdhjhaa.Own
attribute [local go_sem] Oper.semAt_some

/-- The keys that the range has given so far. -/
def Got (DL : DataW Value) (F : Int → Bool) (left : Lit → Bool) (K : List Int) : Prop :=
  K.Nodup ∧ ∀ k, k ∈ K ↔ (Lit.int .i64 k).wf = true ∧ Maps.has DL (.int .i64 k) = true ∧ left (.int .i64 k) = false ∧ F k = true

theorem Got.start (DL : DataW Value) (F : Int → Bool) : Got DL F (Maps.has DL) [] := ⟨List.nodup_nil, fun x => by cases Maps.has DL (.int .i64 x) <;> simp⟩

theorem Got.yes {DL : DataW Value} {F : Int → Bool} {left : Lit → Bool} {K : List Int} (h : Got DL F left K) {x : Int} {y : DataW Value} (hw : (Lit.int .i64 x).wf = true) (hlk : left (.int .i64 x) = true) (hat : ∀ zd, DL.atKey (.int .i64 x) zd = y) (hF : F x = true) :
    Got DL F (fun z => left z && !z.sameKey (.int .i64 x)) (K ++ [x]) := by
  have hhas : Maps.has DL (.int .i64 x) = true := Maps.has_true_of_atKey hat
  have hnew : x ∉ K := fun hx => by have := ((h.2 x).1 hx).2.2.1; rw [hlk] at this; cases this
  refine ⟨List.nodup_append.2 ⟨h.1, by simp, fun a ha b hb => by simp at hb; subst hb; exact fun e => hnew (e ▸ ha)⟩, fun y => ?_⟩
  by_cases hy : y = x
  · subst hy; simp [hhas, hw, hF, Lit.sameKey]
  · simp [h.2 y, hy, Lit.sameKey]

theorem Got.no {DL : DataW Value} {F : Int → Bool} {left : Lit → Bool} {K : List Int} (h : Got DL F left K) {x : Int} (hlk : left (.int .i64 x) = true) (hF : F x = false) :
    Got DL F (fun z => left z && !z.sameKey (.int .i64 x)) K := by
  refine ⟨h.1, fun y => ?_⟩
  rw [h.2 y]
  by_cases hy : y = x
  · subst hy; simp [hF]
  · simp [hy, Lit.sameKey]

theorem Got.len {DL : DataW Value} {F : Int → Bool} {left : Lit → Bool} {K : List Int} (h : Got DL F left K) (hF : ∀ k, F k = true → 1 ≤ k ∧ k ≤ 1000000) : K.length ≤ 1000001 := by
  have := nodup_le K ((List.range 1000001).map Int.ofNat) h.1 (fun k hk => by
    have := hF k ((h.2 k).1 hk).2.2.2
    rw [List.mem_map]
    exact ⟨k.toNat, by rw [List.mem_range]; omega, by show (k.toNat : Int) = k; omega⟩)
  simpa using this

theorem pair_of_sort (K : List Int) (h : K.Nodup) : (K.mergeSort fun x y => decide (x ≤ y)).Pairwise (· < ·) := by
  have h1 : (K.mergeSort fun x y => decide (x ≤ y)).Pairwise (fun x y => decide (x ≤ y) = true) := List.pairwise_mergeSort (fun a b c h1 h2 => by simp at *; omega) (fun a b => by simp; omega) K
  have h2 : (K.mergeSort fun x y => decide (x ≤ y)).Nodup := (List.mergeSort_perm K _).nodup_iff.2 h
  refine (h1.and h2).imp_of_mem ?_
  intro a b _ _ hab
  have := hab.1
  have h3 := hab.2
  simp at this
  omega

set_option maxRecDepth 100000 in
set_option maxHeartbeats 3200000 in
theorem reach1_is {X : Nat → Prop} {p N0 M : Nat} {xs : List ByteArray} {ks kd0 : List Int} {s0 : VS} {w : World} (hxs : ∀ x, x ∈ xs → isT x = true) (hM : (allInf xs).length ≤ M) (hM2 : M ≤ 50000000) (hx60 : xs.length ≤ 60) (hN0 : N0 ≤ 1000000) (hT0 : s0.T = []) (h0 : AI xs ks kd0 s0) (hkd0 : ∀ k, k ∈ ks → k ∈ kd0) (hv : ViewAt X p N0 s0 w)
    (hks : ∀ k, k ∈ ks → 1 ≤ k ∧ k ≤ 1000000) :
    Calls Try.prog 76 #[.pointer (some ⟨p, 0, none⟩)] w fun e w' => ∃ (b : Option Addr) (cap : Nat) (K : List Int), e = .returned (.slice b K.length cap) ∧ w'.ownsRow w.heap.size 3 1 (.slice b K.length cap) K.length (intV K) ∧
      Hid ((∀ k, k ∈ K ↔ ReachT xs ks k) ∧ K.Pairwise (· < ·)) ∧ Keep X w w' ∧ ∃ s N, ViewAt X p N s w' := by
  obtain ⟨i0, hi, hz0, hz1, hz2⟩ := info_parts infoInt
  have hS := seeAll_is hxs hM hM2 hx60 hN0 hT0 h0 hv
  go_enter Try.func76, Try.ntmps76
  go_wp2_with fail
  refine hS.mono ?_
  clear hS
  rintro e w1 ⟨rfl, T, F, kd, N, hkd, hAI, hV, hk⟩
  have hsF := (hAI.done (fun k hk => hkd k (hkd0 k hk))).2
  have hFr : ∀ k, (F k).1 = true → 1 ≤ k ∧ k ≤ 1000000 := fun k h => reach_range hks ((hsF k).1 h)
  obtain ⟨mT, mL, DT, DL, rv, hm⟩ := hV
  have d2 := hm.c2
  have hml := hm.ml
  clear hAI h0 hv
  have HM := show Hid _ from hm
  clear hm
  go_wp2_with (first | (at_range; refine wpList_range_own _ rfl _ 83 rfl 3 87 keyed3 Try.underlying83 heldR mL N DL rfl hml ?_; intro wr0 hrg0 hg0 hs0) | go_in)
  go_frame
  have hb0 : Below w1.heap.size w1 wr0 := ⟨hg0.os, hg0.tape, hg0.output, hg0.size, fun k hk => hg0.block k hk (by simp)⟩
  have hml1 : mL < w1.heap.size := HM.out.lt.2.2
  go_loopw [3] (fun v wr => ∃ (b : Option Addr) (cap : Nat) (K : List Int) (left : Lit → Bool) (cnt : Nat), v = .slice b K.length cap ∧ wr.ownsRow (w1.heap.size + 1) 3 1 (.slice b K.length cap) K.length (intV K) ∧ Hid (Got DL (fun k => (F k).1) left K) ∧ wr.ranges Try.prog 3 heldR mL w1.heap.size N DL left cnt ∧ Below w1.heap.size w1 wr ∧ w1.heap.size < wr.heap.size) (fun v wr => wr.rangeLeft mL w1.heap.size)
  case atStart => exact ⟨none, 0, [], _, _, rfl, World.ownsRow_nil _ _ _ _, Got.start _ _, hrg0, hb0, by omega⟩
  case round =>
    obtain ⟨b, cap, K, left, cnt, rfl, hown, HG, hrg, hbw, hzw⟩ := hrel
    have hlen := HG.out.len hFr
    go_wp2_with (first | (at_next; refine wpList_next_ranges _ rfl _ rfl 3 keyed3 heldR (Value.int .i64) (fun v : Value => v) ?iK ?iV mL w1.heap.size N DL left cnt rfl hrg ?dn ?mo) | go_in)
    case iK => intro key kl hkey; obtain ⟨x, rfl, _⟩ := Maps.keyOf_int_inv Try.underlying3 hkey; exact ⟨x, rfl⟩
    case iV => exact fun v y _ => ⟨v, rfl⟩
    case dn =>
      intro hc0 hl0
      have hKR : ∀ k, k ∈ K ↔ ReachT xs ks k := fun k => by
        rw [HG.out.2 k, ← hsF k]
        constructor
        · exact fun h => h.2.2.2
        · intro h
          have hr := hFr k h
          have hwf : (Lit.int .i64 k).wf = true := by simp [Lit.wf, IntKind.min, IntKind.max, IntKind.signed, IntKind.bits]; omega
          refine ⟨hwf, ?_, hl0 _, h⟩
          cases hh : Maps.has DL (.int .i64 k) with
          | true => rfl
          | false =>
            have e1 := HM.out.hl k hwf
            rw [Maps.atKey_of_not_has hh] at e1
            simp [lock0] at e1
            rw [h] at e1
            simp at e1
      have HF : Hid ((∀ k, k ∈ (K.mergeSort fun x y => decide (x ≤ y)) ↔ ReachT xs ks k) ∧ (K.mergeSort fun x y => decide (x ≤ y)).Pairwise (· < ·)) := ⟨fun k => by rw [List.mem_mergeSort]; exact hKR k, pair_of_sort K HG.out.1⟩
      have hlm : (K.mergeSort fun x y => decide (x ≤ y)).length = K.length := List.length_mergeSort K
      generalize hms : (K.mergeSort fun x y => decide (x ≤ y)) = Z at HF hlm
      have hle : w.heap.size ≤ w1.heap.size + 1 := by have := hk.size; omega
      clear hFr hsF hKR HG hrg0 hb0 hg0
      rcases hown.2 with ⟨hv0, hn0⟩ | ⟨g, cap', cur, hv1, hbg, hblk, hnc, hcm, hcs, htk⟩
      · have hK0 : K = [] := List.eq_nil_of_length_eq_zero hn0
        subst hK0
        have hZ : Z = [] := by rw [← hms]; simp
        subst hZ
        simp only [List.length_nil, Value.slice.injEq, true_and] at hv0
        obtain ⟨rfl, rfl⟩ := hv0
        have HKW : Hid (Keep X w wr) := hk.trans (Keep.ofBelow hbw HM.out.xlt)
        have HVW : Hid (ViewAt X p N ⟨[], T, F⟩ wr) := ⟨mT, mL, DT, DL, rv, HM.out.below hbw⟩
        have HS := Try.slices_Sort_int_none none 0 wr
        clear HM hbw hk hrg hown
        go_wp2_with fail
        refine HS.mono ?_
        rintro e w5 ⟨rfl, rfl⟩
        go_wp2
        go_ret
        exact ⟨none, 0, [], rfl, World.ownsRow_nil _ _ _ _, HF, HKW.out, _, N, HVW.out⟩
      · simp only [Value.slice.injEq, true_and] at hv1
        obtain ⟨rfl, rfl⟩ := hv1
        have HS := Try.slices_Sort_int g 0 cap K wr (holds_of_blockI hblk (by simpa [intV] using htk)) (Array.getElem?_eq_some_iff.1 hblk).1 (by omega)
        rw [hms] at HS
        have H5 : Hid (∀ n os, wr.grownBy (grow (putRow (Value.int .i64) (Sort.ahead wr n) g 0 Z.toArray) os) (some g) ∧ (grow (putRow (Value.int .i64) (Sort.ahead wr n) g 0 Z.toArray) os).ownsRow (w1.heap.size + 1) 3 1 (.slice (some ⟨g, 0, none⟩) K.length cap) K.length (Z.map (Value.int .i64))) :=
          fun n os => ⟨grownBy_sortedI _, ownsRow_sortedI hlm hbg hblk hnc hcm hcs⟩
        have HB : Hid (Below w1.heap.size w1 wr) := hbw
        have HK := show Hid _ from hk
        clear hbw hk hrg hown hblk htk hcs
        go_wp2_with fail
        refine HS.mono ?_
        clear HS
        rintro e w5 ⟨rfl, n5, os5, hw5⟩
        obtain ⟨hg5, ho5⟩ := H5.out n5 os5
        rw [← hw5] at hg5 ho5
        have hb5 : Below w1.heap.size wr w5 := ⟨hg5.os, hg5.tape, hg5.output, hg5.size, fun k hk => hg5.block k (by omega) (by simp; omega)⟩
        have HB5 : Hid (Below w1.heap.size w1 w5) := HB.out.trans hb5
        have HO5 : Hid (w5.ownsRow w.heap.size 3 1 (.slice (some ⟨g, 0, none⟩) Z.length cap) Z.length (intV Z)) := by rw [hlm]; exact own_base ho5 hle
        have HE : Hid (Value.slice (some ⟨g, 0, none⟩) K.length cap = .slice (some ⟨g, 0, none⟩) Z.length cap) := by show _ = _; rw [hlm]
        clear hw5 hg5 ho5 hb5 H5 HB
        go_wp2
        go_ret
        exact ⟨some ⟨g, 0, none⟩, cap, Z, congrArg Ending.returned HE.out, HO5.out, HF, HK.out.trans (Keep.ofBelow HB5.out HM.out.xlt), _, N, mT, mL, DT, DL, rv, HM.out.below HB5.out⟩
    case mo =>
      intro x c kl y yp w2 cnt2 hkey hlk hR hat hrg2 hlt hg2 hs2 hen
      obtain ⟨x', hx', rfl, hwx⟩ := Maps.keyOf_int_inv Try.underlying3 hkey
      cases hx'
      have hy : y = .held c := by have := hR; simp [heldR] at this; exact this.1.symm
      have hat0 := hat (.held lock0)
      rw [HM.out.hl x hwx, hy] at hat0
      have hc : c = .agg #[.bool (F x).1, rv (some x)] := by simpa using hat0.symm
      obtain ⟨av, cv, hsl, _⟩ := (HM.out.q (some x)).shape
      rw [hsl] at hc
      subst hc
      generalize (VS.row ⟨[], T, F⟩ (some x)).length = nv at hen hR hat
      have hb2 : Below w1.heap.size w1 w2 := hbw.trans ⟨hg2.os, hg2.tape, hg2.output, by omega, fun k hk => hg2.block k (by omega) (by simp; omega)⟩
      have hob : ∀ g, (Value.slice b K.length cap).ownBlock = some g → w1.heap.size + 1 ≤ g := fun g hg => (hown.lt g hg).1
      have hown2 := hown.kept hg2 (by
        cases ho : (Value.slice b K.length cap).ownBlock with
        | none => exact Or.inl rfl
        | some g => exact Or.inr (by have := hob g ho; intro e; cases e; omega))
      have HS2 : Hid (w2.heap.size = wr.heap.size) := hs2
      have HLT : Hid (cnt2 < cnt) := hlt
      clear hs2 hlt hbw hown
      cases hfx : (F x).1 with
      | false =>
        rw [hfx] at hen
        have HG2 : Hid (Got DL (fun k => (F k).1) (fun z => left z && !z.sameKey (.int .i64 x)) K) := HG.out.no (x := x) hlk hfx
        have hsw : w1.heap.size ≤ w2.heap.size := hb2.size
        clear hFr
        go_wp2
        go_roundw
        case rel =>
          have R : ∃ (b' : Option Addr) (cap' : Nat) (K' : List Int) (left' : Lit → Bool) (cnt' : Nat), Value.slice b K.length cap = .slice b' K'.length cap' ∧ (w2.alloc (.cells #[.bool false, .slice av nv cv] 87)).ownsRow (w1.heap.size + 1) 3 1 (.slice b' K'.length cap') K'.length (intV K') ∧ Hid (Got DL (fun k => (F k).1) left' K') ∧ (w2.alloc (.cells #[.bool false, .slice av nv cv] 87)).ranges Try.prog 3 heldR mL w1.heap.size N DL left' cnt' ∧ Below w1.heap.size w1 (w2.alloc (.cells #[.bool false, .slice av nv cv] 87)) ∧ w1.heap.size < (w2.alloc (.cells #[.bool false, .slice av nv cv] 87)).heap.size :=
            ⟨b, cap, K, _, cnt2, rfl, hown2.alloc _, HG2, hrg2.alloc _, hb2.alloc hsw _, by simp; omega⟩
          first | exact R | ((repeat apply Exists.intro); exact ⟨R, rfl⟩)
        case measure =>
          have h1 := (hrg2.alloc (.cells #[.bool false, .slice av nv cv] 87)).left_eq
          have h2 := hrg.left_eq
          have h3 := HLT.out
          omega
      | true =>
        rw [hfx] at hen
        have HG2 : Hid (Got DL (fun k => (F k).1) (fun z => left z && !z.sameKey (.int .i64 x)) (K ++ [x])) := HG.out.yes (x := x) hwx hlk hat hfx
        have hsw : w1.heap.size ≤ w2.heap.size := hb2.size
        have HO : Hid (((w2.alloc (.cells #[.bool true, .slice av nv cv] 87)).alloc (.cells #[.int .i64 x] 3)).ownsRow (w1.heap.size + 1) 3 1 (.slice b K.length cap) K.length (intV K)) := (hown2.alloc _).alloc _
        clear hFr hown2
        go_wp2_with (first | (at_builtin; refine wpList_append_own_at _ rfl _ _ 25 rfl (w1.heap.size + 1) 3 i0 (.int .i64 0) 1 8 Try.underlying25 hi hz0 hz1 hz2 rfl (by decide) _ _ _ rfl HO.out ⟨w2.heap.size + 1, 0, none⟩ 1 1 [.int .i64 x] rfl rfl ?cn ?c2 ?c3 ?c4 ?c5 ?_) | go_in)
        case c2 => first | rfl | (intro u hu; simp at hu; subst hu; rfl)
        case c3 => unfold maxLen; omega
        case c4 => omega
        case c5 => first | omega | (simp; omega)
        intro v' w4 hown' hgrow _ hloc
        rw [intV_snoc] at hown'
        obtain ⟨g', cap', rfl⟩ := ownsRow_succ hown'
        have hlx : K.length + 1 = (K ++ [x]).length := by simp
        rw [hlx] at hown'
        have hrg4 : w4.ranges Try.prog 3 heldR mL w1.heap.size N DL (fun z => left z && !z.sameKey (.int .i64 x)) cnt2 := ((hrg2.alloc _).alloc _).kept hgrow (fun e => by have := hob mL e.symm; omega) (fun e => by have := hob _ e.symm; omega)
        have hb4 : Below w1.heap.size w1 w4 := ((hb2.alloc hsw _).alloc (by simp; omega) _).trans ⟨hgrow.os, hgrow.tape, hgrow.output, hgrow.size, fun k hk => hgrow.block k (by simp; omega) (fun e => by have := hob k e.symm; omega)⟩
        have hz4 : w1.heap.size < w4.heap.size := by have := hgrow.size; simp at this; omega
        clear HO hgrow hloc hb2 hrg2 hen
        go_wp2
        go_roundw
        case rel =>
          have R : ∃ (b' : Option Addr) (cap'' : Nat) (K' : List Int) (left' : Lit → Bool) (cnt' : Nat), Value.slice (some ⟨g', 0, none⟩) (K.length + 1) cap' = .slice b' K'.length cap'' ∧ w4.ownsRow (w1.heap.size + 1) 3 1 (.slice b' K'.length cap'') K'.length (intV K') ∧ Hid (Got DL (fun k => (F k).1) left' K') ∧ w4.ranges Try.prog 3 heldR mL w1.heap.size N DL left' cnt' ∧ Below w1.heap.size w1 w4 ∧ w1.heap.size < w4.heap.size :=
            ⟨some ⟨g', 0, none⟩, cap', K ++ [x], _, cnt2, by rw [hlx], hown', HG2, hrg4, hb4, hz4⟩
          first | exact R | ((repeat apply Exists.intro); exact ⟨R, rfl⟩)
        case measure =>
          have h1 := hrg4.left_eq
          have h2 := hrg.left_eq
          have h3 := HLT.out
          omega
end Go.Proofs.Ytkekfogepdhjhaa

set_option linter.unusedVariables false
namespace Go.Proofs.Ytkekfogepdhjhaa
open Go.RowKit Go.Proofs.Ytkekfogepdhjhaa.Own Var Term

set_option maxRecDepth 100000 in
set_option maxHeartbeats 6400000 in
theorem askI_is (qf : Nat) (cp : Array Value) (a0 b0 : Option Addr) (ca cb : Nat) (xs : List ByteArray) (ks : List Int) (w : World) (hr : RowAt Value.string w a0 xs) (hq : RowAt (Value.int .i64) w b0 ks)
    (hl : xs.length ≤ 1048576) (hl2 : ks.length ≤ 1048576) (hcap : xs.length ≤ ca) (hs : ∀ x ∈ xs, x.size ≤ 1048576) (R : Value → World → Prop)
    (eg : ∀ args w, (callFunc qf args).run Try.prog w = .ok (.enter qf args) w)
    (hno : kOk xs ks = false → ∀ w', Below w.heap.size w w' → R (.slice none 0 0) w')
    (hyes : kOk xs ks = true → ∀ (B p N0 : Nat) (s0 : VS) (kd0 : List Int) (W : World), w.heap.size ≤ B → ViewAt (fun k => k < B) p N0 s0 W → N0 ≤ 1000000 → s0.T = [] → AI xs ks kd0 s0 → (∀ k, k ∈ ks → k ∈ kd0) → Below w.heap.size w W →
      Calls Try.prog qf (#[.pointer (some ⟨p, 0, none⟩)] ++ cp) W fun e w' => ∃ v, e = .returned v ∧ Keep (fun k => k < B) W w' ∧ (∃ s N, ViewAt (fun k => k < B) p N s w') ∧ ∀ w'', Below w.heap.size w w'' → (∀ k, W.heap.size ≤ k → w''.heap[k]? = w'.heap[k]?) → R v w'') :
    Calls Try.prog 75 #[.agg #[.slice a0 xs.length ca, .slice b0 ks.length cb], .func (.func qf) #[] cp] w fun e w' => ∃ v, e = .returned v ∧ R v w' ∧ Below w.heap.size w w' := by
  have hmm := @run_makeMap Try.prog
  obtain ⟨W1, hW1⟩ : ∃ W1, w.alloc (.cells #[.slice a0 xs.length ca, .slice b0 ks.length cb] 27) = W1 := ⟨_, rfl⟩
  have hb0 : Below w.heap.size w W1 := by rw [← hW1]; exact (Below.refl _ _).alloc (Nat.le_refl _) _
  have c0 : W1.cell? ⟨w.heap.size, 0, none⟩ = some (.slice a0 xs.length ca) := by rw [← hW1]; simp [go_sem]
  have c1 : W1.cell? ⟨w.heap.size, 1, none⟩ = some (.slice b0 ks.length cb) := by rw [← hW1]; simp [go_sem]
  have z1 : W1.heap.size = w.heap.size + 1 := by rw [← hW1]; simp
  have ZH : Hid (W1.heap.size = w.heap.size + 1) := z1
  clear z1
  have hO := impl_knownOk a0 b0 ca cb xs ks W1 (hr.later hb0) (hq.later hb0) hl hl2 hcap hs
  have HY := show Hid _ from hyes
  have HN := show Hid _ from hno
  clear hyes hno
  cases hK : kOk xs ks with
  | false =>
    rw [hK] at hO
    refine calls_of_wp_builtin Try.func75 rfl ?_
    simp only [Try.ntmps75, List.size_toArray, List.length_cons, List.length_nil, Nat.reduceAdd, Nat.reduceSub, Array.replicate_succ, Array.replicate_zero, List.push_toArray, List.append_toArray, List.nil_append, List.cons_append]
    go_wp2_with fail
    try rw [hW1]
    refine hO.mono ?_
    clear hW1 hO
    rintro e w1 ⟨rfl, hb1⟩
    have hb01 := hb0.trans (hb1.mono hb0.size)
    go_wp2
    exact Or.inl ⟨rfl, _, results_tmp rfl _ _ _, .slice none 0 0, rfl, HN.out hK _ hb01, hb01⟩
  | true =>
    rw [hK] at hO
    obtain ⟨hTx, hnd, hks⟩ := kOk_facts hK
    obtain ⟨hl60, hl40⟩ := kOk_len hK
    have HY2 := show Hid _ from HY.out hK
    clear HY HN
    refine calls_of_wp_builtin Try.func75 rfl ?_
    simp only [Try.ntmps75, List.size_toArray, List.length_cons, List.length_nil, Nat.reduceAdd, Nat.reduceSub, Array.replicate_succ, Array.replicate_zero, List.push_toArray, List.append_toArray, List.nil_append, List.cons_append]
    go_wp2_with fail
    try rw [hW1]
    refine hO.mono ?_
    clear hW1 hO
    rintro e w1 ⟨rfl, hb1⟩
    have hb01 := hb0.trans (hb1.mono hb0.size)
    have LB : w.heap.size < W1.heap.size := by have := ZH.out; omega
    have d0 := (hb1.cell (p := ⟨w.heap.size, 0, none⟩) LB).trans c0
    have d1 := (hb1.cell (p := ⟨w.heap.size, 1, none⟩) LB).trans c1
    have hC := cloneS_is a0 ca xs w1 (hr.later hb01) hl
    go_wp2_with fail
    refine hC.mono ?_
    clear hC
    rintro e w2 ⟨v0, rfl, hq2, hb2⟩
    have hb02 := hb01.trans (hb2.mono hb01.size)
    have L1 : w.heap.size < w1.heap.size := Nat.lt_of_lt_of_le LB hb1.size
    have f0 := (hb2.cell (p := ⟨w.heap.size, 0, none⟩) L1).trans d0
    have f1 := (hb2.cell (p := ⟨w.heap.size, 1, none⟩) L1).trans d1
    obtain ⟨av, nv, cv, hsl⟩ : ∃ av nv cv, v0 = .slice av nv cv := by obtain ⟨a, c, e, _⟩ := hq2.shape; exact ⟨a, _, c, e⟩
    subst hsl
    obtain ⟨W4, hW4⟩ : ∃ W4, ((w2.alloc (.map #[] 0)).alloc (.map #[] 0)).alloc (.cells #[.slice av nv cv, .map (some w2.heap.size), .map (some (w2.heap.size + 1))] 85) = W4 := ⟨_, rfl⟩
    have hb4 : Below w2.heap.size w2 W4 := by rw [← hW4]; exact (((Below.refl _ _).alloc (Nat.le_refl _) _).alloc (by simp) _).alloc (by simp; omega) _
    have z4 : W4.heap.size = w2.heap.size + 3 := by rw [← hW4]; simp
    have hV4 : ViewAt (fun k => k < w1.heap.size) (w2.heap.size + 2) 0 ⟨xs, [], fun _ => (false, [])⟩ W4 := by
      have hle := hb2.size
      have hmt : W4.ownsMap Try.prog 9 (unitElem (H := Value)) w2.heap.size 0 (.map []) := by
        rw [← hW4]; exact ((World.ownsMap_made w2 Try.prog 9 unitElem).alloc _).alloc _
      have hml : W4.ownsMap Try.prog 3 heldR (w2.heap.size + 1) 0 (.map []) := by
        have := (World.ownsMap_made (w2.alloc (.map #[] 0)) Try.prog 3 heldR).alloc (.cells #[.slice av nv cv, .map (some w2.heap.size), .map (some (w2.heap.size + 1))] 85)
        rw [hW4] at this
        simpa using this
      refine ⟨w2.heap.size, w2.heap.size + 1, .map [], .map [], (fun i => match i with | none => .slice av nv cv | some _ => .slice none 0 0), ?_⟩
      refine ⟨by omega, by omega, by omega, by omega, by omega, by omega, rfl, fun k hk => by omega, ?_, ?_, ?_, ?_, hmt, ?_, hml, ?_, ?_, ?_, ?_⟩
      · rw [← hW4]; simp [go_sem]
      · rw [← hW4]; simp [go_sem]
      · rw [← hW4]; simp [go_sem]
      · rw [← hW4]; simp [go_sem]
      · intro t ht; simp [Maps.has]
      · intro k hk; rfl
      · intro i
        cases i with
        | none => exact (QRow.base hq2).kept hb4.size fun k hk => hb4.block k (hq2.lt hk).2
        | some k => exact QRow.nil _ _
      · intro i j b hi hj
        cases i with
        | none =>
          cases j with
          | none => rfl
          | some k => cases hj
        | some k => cases hi
      · intro i b hi
        cases i with
        | none =>
          obtain ⟨h1, h2⟩ := hq2.lt hi
          exact ⟨by omega, by omega, by omega, by omega⟩
        | some k => cases hi
    have hb04 := hb02.trans (hb4.mono hb02.size)
    have L2 : w.heap.size < w2.heap.size := Nat.lt_of_lt_of_le L1 hb2.size
    have g1 := (hb4.cell (p := ⟨w.heap.size, 1, none⟩) L2).trans f1
    have m1 : W4.cell? ⟨w2.heap.size + 2, 1, none⟩ = some (.map (some w2.heap.size)) := by rw [← hW4]; simp [go_sem]
    have hq4 := hq.later hb04
    have hK4 : Keep (fun k => k < w1.heap.size) w1 W4 := (Keep.ofBelow hb2 (fun k hk => hk)).trans (Keep.ofBelow hb4 (fun k hk => Nat.lt_of_lt_of_le hk hb2.size))
    have LW : w.heap.size ≤ w1.heap.size := Nat.le_of_lt L1
    have LQ : Hid (w.heap.size ≤ w1.heap.size) := LW
    clear hq2 hb4 z4 hb2 d0 d1 c0 c1 f0 hb1
    go_wp2
    try rw [hW4]
    clear hW4
    go_loopw [26] (fun i wr => ∃ (j : Nat) (s : VS), i = .int .i64 j ∧ j ≤ ks.length ∧ Hid (s.T = [] ∧ AI xs ks (ks.take j) s) ∧ ViewAt (fun k => k < w1.heap.size) (w2.heap.size + 2) j s wr ∧ Keep (fun k => k < w1.heap.size) W4 wr) (fun i _ => ks.length - (intOf i).toNat)
    case atStart => exact ⟨0, _, rfl, Nat.zero_le _, ⟨rfl, AI.start xs ks⟩, hV4, Keep.refl _ _⟩
    case round =>
      clear hV4
      obtain ⟨j, s, rfl, hj, HAI, hv, hkp⟩ := hrel
      have hbw : Below w.heap.size w wr := hb04.trans ((hkp.mono (fun k hk => Nat.lt_of_lt_of_le hk LQ.out)).below)
      by_cases hlt : j < ks.length
      · obtain ⟨bb, off, rfl, hbl, hcell⟩ := hq j hlt
        have hcw : wr.cell? ⟨bb, off + j, none⟩ = some (.int .i64 ks[j]) := (hbw.cell (p := ⟨bb, off + j, none⟩) hbl).trans hcell
        have hkj := hks _ (List.getElem_mem hlt)
        have hrj : ReachT xs ks ks[j] := fun S K hc => hc.2.1 _ (List.getElem_mem hlt)
        have htot := HAI.out.2.tot [ks[j]] (by simp)
        have htk : ks.take j ++ [ks[j]] = ks.take (j + 1) := (List.take_succ_eq_append_getElem hlt).symm
        have hAI2 := HAI.out.2.ofReach hrj
        rw [htk] at hAI2
        generalize ks[j] = key at hcw hkj hAI2 htot
        have HR := reach_is hv (by omega) (k := key) (by simp [Lit.wf, IntKind.min, IntKind.max, IntKind.signed, IntKind.bits]; omega) (by have hT := HAI.out.1; simp only [List.map_cons, List.map_nil, List.sum_cons, List.sum_nil] at htot; rw [hT] at htot; simp only [List.length_nil] at htot; omega)
        have HA2 : Hid ((s.reach key).T = [] ∧ AI xs ks (ks.take (j + 1)) (s.reach key)) := ⟨HAI.out.1, hAI2⟩
        clear hAI2 htot htk hrj HAI hv hcell
        go_wp2_with fail
        refine HR.mono ?_
        clear HR
        rintro e w5 ⟨rfl, hv5, hk5⟩
        have hk45 := hkp.trans hk5
        clear hkp hk5
        go_wp2
        go_roundw
        case rel =>
          have R : ∃ (j' : Nat) (s' : VS), Value.int .i64 ((j : Int) + 1) = .int .i64 j' ∧ j' ≤ ks.length ∧ Hid (s'.T = [] ∧ AI xs ks (ks.take j') s') ∧ ViewAt (fun k => k < w1.heap.size) (w2.heap.size + 2) j' s' w5 ∧ Keep (fun k => k < w1.heap.size) W4 w5 :=
            ⟨j + 1, _, by go_num, by omega, HA2, hv5, hk45⟩
          first | exact R | ((repeat apply Exists.intro); exact ⟨R, rfl⟩)
        case measure => simp [intOf]; omega
      · obtain rfl : j = ks.length := by omega
        have hA := HAI.out
        rw [List.take_length] at hA
        have LMR : w2.heap.size + 2 < wr.heap.size := by obtain ⟨_, _, _, _, _, hmx⟩ := hv; exact hmx.lt.1
        have HQ := HY2.out w1.heap.size (w2.heap.size + 2) ks.length s ks wr LQ.out hv (by omega) hA.1 hA.2 (fun _ h => h) hbw
        have HP := show Hid (Below w.heap.size w wr) from hbw
        clear hA HAI hv hkp HY2 hbw
        go_wp2_with fail
        refine HQ.mono ?_
        clear HQ
        rintro e w9 ⟨v, rfl, hk9, ⟨s9, N9, hv9⟩, hR9⟩
        obtain ⟨mT, mL, DT, DL, rv, hm9⟩ := hv9
        have hmT : mT = w2.heap.size := by have := hm9.pm; omega
        subst hmT
        obtain ⟨es, clock, hblk, _⟩ := hm9.mt
        have hnb : w.heap.size ≤ w2.heap.size := Nat.le_of_lt L2
        have hb9 : Below w.heap.size w w9 := HP.out.trans ((hk9.mono (fun k hk => Nat.lt_of_lt_of_le hk LQ.out)).below)
        have hb10 : Below w.heap.size w (w9.putObj w2.heap.size (.map #[] clock)) := hb9.trans ⟨rfl, rfl, rfl, by simp [World.putObj], fun k hk => World.putObj_heap_other (by omega)⟩
        have hcl := fun ty => run_clear w9 w2.heap.size es clock ty hblk
        have HRR := show Hid (R v (w9.putObj w2.heap.size (.map #[] clock))) from hR9 _ hb10 (fun k hk => World.putObj_heap_other (by omega))
        clear hm9 hk9 hR9 hblk
        go_wp2
        refine Or.inr ⟨_, _, _, _, _, .tuple #[], _, rfl, ?inv, _, results_tmp rfl _ _ _, v, rfl, HRR.out, hb10⟩
        case inv => simp [invoke, go_sem, hcl]

set_option maxRecDepth 100000 in
set_option maxHeartbeats 1600000 in
theorem impl_reach (a b : Option Addr) (ca cb : Nat) (xs : List ByteArray) (ks : List Int) (w : World) (hr : RowAt Value.string w a xs) (hq : RowAt (Value.int .i64) w b ks)
    (hl : xs.length ≤ 1048576) (hl2 : ks.length ≤ 1048576) (hcap : xs.length ≤ ca) (hs : ∀ x ∈ xs, x.size ≤ 1048576) :
    Calls Try.prog 32 #[.agg #[.slice a xs.length ca, .slice b ks.length cb]] w fun e w' => ∃ (b' : Option Addr) (kb : Nat) (K : List Int), e = .returned (.slice b' K.length kb) ∧ w'.ownsRow w.heap.size 3 1 (.slice b' K.length kb) K.length (intV K) ∧ Hid ((∀ k, k ∈ K ↔ kOk xs ks = true ∧ ReachT xs ks k) ∧ K.Pairwise (· < ·)) ∧ Below w.heap.size w w' := by
  obtain ⟨W2, hW2⟩ : ∃ W2, w.alloc (.cells #[.slice a xs.length ca, .slice b ks.length cb] 27) = W2 := ⟨_, rfl⟩
  have hb2 : Below w.heap.size w W2 := by rw [← hW2]; exact (Below.refl _ _).alloc (Nat.le_refl _) _
  have z2 : W2.heap.size = w.heap.size + 1 := by rw [← hW2]; simp
  have c0 : W2.cell? ⟨w.heap.size, 0, none⟩ = some (.slice a xs.length ca) := by rw [← hW2]; simp [go_sem]
  have c1 : W2.cell? ⟨w.heap.size, 1, none⟩ = some (.slice b ks.length cb) := by rw [← hW2]; simp [go_sem]
  have eg : ∀ args w, (callFunc 76 args).run Try.prog w = .ok (.enter 76 args) w := enters_of Try.func76 (by kernel_rfl) rfl
  have HA := askI_is 76 #[] a b ca cb xs ks W2 (hr.later hb2) (hq.later hb2) hl hl2 hcap hs (fun v w' => ∃ (b' : Option Addr) (kb : Nat) (K : List Int), v = .slice b' K.length kb ∧ w'.ownsRow w.heap.size 3 1 (.slice b' K.length kb) K.length (intV K) ∧ Hid ((∀ k, k ∈ K ↔ kOk xs ks = true ∧ ReachT xs ks k) ∧ K.Pairwise (· < ·))) eg
    (fun hK w' _ => ⟨none, 0, [], rfl, World.ownsRow_nil _ _ _ _, by simp [Hid, hK]⟩)
    (fun hK B p N0 s0 kd0 W hB hv hN hT hAI hkd hbW => by
      refine (reach1_is (M := (allInf xs).length) (kOk_facts hK).1 (Nat.le_refl _) (inf_bound hK) (kOk_len hK).1 hN hT hAI hkd hv (kOk_facts hK).2.2).mono ?_
      rintro e w' ⟨b', kb, K, rfl, ho, hF, hk, hvw⟩
      refine ⟨_, rfl, hk, hvw, fun w'' _ hkeep => ⟨b', kb, K, rfl, ?_, ⟨fun k => by rw [hF.out.1 k]; simp [hK], hF.out.2⟩⟩⟩
      obtain ⟨h1, h2 | ⟨g, cap, cur, h3, h4, h5, h6⟩⟩ := ho
      · exact ⟨h1, Or.inl h2⟩
      · exact ⟨h1, Or.inr ⟨g, cap, cur, h3, by have := hbW.size; omega, (hkeep g h4).trans h5, h6⟩⟩)
  have HH := show Hid _ from z2
  clear z2
  go_enter Try.func32, Try.ntmps32
  go_wp2_with fail
  try rw [hW2]
  refine HA.mono ?_
  clear HA hW2
  rintro e w3 ⟨v, rfl, ⟨b', kb, K, rfl, ho, hF⟩, hb3⟩
  go_wp2
  go_ret
  exact ⟨b', kb, K, rfl, ho, hF, hb2.trans (hb3.mono hb2.size)⟩
end Go.Proofs.Ytkekfogepdhjhaa

set_option linter.unusedVariables false
namespace Go.Proofs.Ytkekfogepdhjhaa
open Go.RowKit Go.Proofs.Ytkekfogepdhjhaa.Own Var Term

theorem sorted_ext : ∀ (A B : List Int), A.Pairwise (· < ·) → B.Pairwise (· < ·) → (∀ k, k ∈ A ↔ k ∈ B) → A = B := by
  intro A
  induction A with
  | nil =>
    intro B _ _ h
    cases B with
    | nil => rfl
    | cons b B => exact absurd ((h b).2 (by simp)) (by simp)
  | cons a A ih =>
    intro B hA hB h
    cases B with
    | nil => exact absurd ((h a).1 (by simp)) (by simp)
    | cons b B =>
      rw [List.pairwise_cons] at hA hB
      have hab : a = b := by
        rcases List.mem_cons.1 ((h a).1 (by simp)) with h1 | h1
        · exact h1
        · rcases List.mem_cons.1 ((h b).2 (by simp)) with h2 | h2
          · exact h2.symm
          · have h3 := hA.1 b h2
            have h4 := hB.1 a h1
            omega
      subst hab
      rw [ih B hA.2 hB.2 (fun k => ?_)]
      constructor
      · intro hk
        rcases List.mem_cons.1 ((h k).1 (List.mem_cons_of_mem _ hk)) with e | e
        · have h3 := hA.1 k hk
          omega
        · exact e
      · intro hk
        rcases List.mem_cons.1 ((h k).2 (List.mem_cons_of_mem _ hk)) with e | e
        · have h3 := hB.1 k hk
          omega
        · exact e

theorem markI0 (B : Nat) (a : Option Addr) (n c : Nat) (vs : List Value) (w : World) (hn : n ≤ 1048576) (hown : w.ownsRow B 3 1 (.slice a n c) n vs) :
    Calls Try.prog 34 #[.slice a n c, .int .i64 1] w fun e w' => e = .returned (.int .i64 ((n : Int) + 1)) ∧ w'.ownsRow B 3 1 (.slice a n c) n (intV (miK 0 n)) ∧ w.grownBy w' (Value.slice a n c).ownBlock := by
  have h := markI_own B a n c 0 vs w (by omega) hn hown
  have e1 : (((0 : Nat) : Int) + 1) = 1 := by omega
  have e2 : (((0 : Nat) : Int) + (n : Int) + 1) = (n : Int) + 1 := by omega
  rw [e1, e2] at h
  exact h
theorem heldI0 (a : Option Addr) (n cap : Nat) (w : World) (hn : n ≤ 1048576) (hr : RowAt (Value.int .i64) w a (miK 0 n)) :
    Calls Try.prog 35 #[.slice a n cap, .int .i64 1] w fun e w' => e = .returned (.int .i64 ((n : Int) + 1)) ∧ Below w.heap.size w w' := by
  have h := heldIB a n cap w 0 (by omega) hn hr
  have e1 : (((0 : Nat) : Int) + 1) = 1 := by omega
  have e2 : (((0 : Nat) : Int) + (n : Int) + 1) = (n : Int) + 1 := by omega
  rw [e1, e2] at h
  exact h

set_option maxRecDepth 100000 in
set_option maxHeartbeats 6400000 in
theorem reach_walk (a0 b0 : Option Addr) (c0 c1 : Nat) (xs : List ByteArray) (ks : List Int) (w : World) (hr : RowAt Value.string w a0 xs) (hq : RowAt (Value.int .i64) w b0 ks) (hm : xs.length ≤ maxLen) (hm2 : ks.length ≤ maxLen) (hs : ∀ x ∈ xs, x.size ≤ maxLen) :
    Calls Try.prog 7 #[.agg #[.slice a0 xs.length c0, .slice b0 ks.length c1]] w fun e w' => e = .returned (.bool true) ∧ Below w.heap.size w w' := by
  obtain ⟨W1, hW1⟩ : ∃ W1, w.alloc (.cells #[.slice a0 xs.length c0, .slice b0 ks.length c1] 38) = W1 := ⟨_, rfl⟩
  have HB1 : Below w.heap.size w W1 := by rw [← hW1]; exact (Below.refl _ _).alloc (Nat.le_refl _) _
  have A1 : Bx W1 w.heap.size (.slice a0 xs.length c0) (.slice b0 ks.length c1) := by rw [← hW1]; exact Bx.new _ _ _ _
  obtain ⟨_, e0, e1⟩ := A1
  go_enter Try.func7, Try.ntmps7
  go_wp2_with fail
  try rw [hW1]
  refine (szKnown_is a0 b0 c0 c1 xs ks W1 (hr.later HB1) hm hm2 hs).mono ?_
  have A1 : Bx W1 w.heap.size (.slice a0 xs.length c0) (.slice b0 ks.length c1) := by rw [← hW1]; exact Bx.new _ _ _ _
  clear hW1 e0 e1
  rintro e w1 ⟨r, rfl, hR, hb1⟩
  have HB := HB1.trans (hb1.mono HB1.size)
  have A := A1.later hb1
  by_cases h0 : 0 ≤ r
  · obtain ⟨⟨hl, hs2⟩, hl2⟩ := hR h0
    clear hm hs hR hm2 A1 HB1 hb1
    have h0' : ¬ r < 0 := by omega
    obtain ⟨e9, e0, e1⟩ := A
    go_wp2_with fail
    refine (toKnown_is a0 b0 c0 c1 xs ks w1 (hr.later HB) (hq.later HB) hl hl2).mono ?_
    rintro e w2 ⟨v, rfl, ⟨g1, g2, rfl, ho1, ho2⟩, hb2⟩
    have A := Bx.later ⟨e9, e0, e1⟩ hb2
    have HB2 := HB.trans (hb2.mono HB.size)
    clear e9 e0 e1 HB hb2
    have H3 := spec_reach g1 0 g2 0 xs.length ks.length xs ks w2 (RowAt.own ho1) (RowAt.own ho2) hl hl2 (Nat.le_refl _) hs2
    clear ho1 ho2
    go_wp2_with fail
    refine H3.mono ?_
    clear H3
    rintro e w3 ⟨b6, k6, Z, rfl, h6, HF6, hb3⟩
    have A3 := A.later hb3
    have HB3 := HB2.trans (hb3.mono HB2.size)
    have R6 := row_own3 h6
    have hZ : Z.length ≤ 1048576 := by have := HF6.out.2.2; omega
    clear A HB2 hb3 h6
    have zA : w.heap.size < w3.heap.size := A3.1
    obtain ⟨e9, e0, e1⟩ := A3
    go_wp2_with fail
    refine (toKnown_is a0 b0 c0 c1 xs ks w3 (hr.later HB3) (hq.later HB3) hl hl2).mono ?_
    rintro e w7 ⟨v, rfl, ⟨g3, g4, rfl, ho3, ho4⟩, hb7⟩
    have A7 := Bx.later ⟨e9, e0, e1⟩ hb7
    have HB7 := HB3.trans (hb7.mono HB3.size)
    clear e9 e0 e1
    obtain ⟨W7, hW7⟩ : ∃ W7, w7.alloc (.cells #[.slice (some ⟨g3, 0, none⟩) xs.length xs.length, .slice (some ⟨g4, 0, none⟩) ks.length ks.length] 27) = W7 := ⟨_, rfl⟩
    have hc7 : Below w7.heap.size w7 W7 := by rw [← hW7]; exact (Below.refl _ _).alloc (Nat.le_refl _) _
    have Q7 : Bx W7 w7.heap.size (.slice (some ⟨g3, 0, none⟩) xs.length xs.length) (.slice (some ⟨g4, 0, none⟩) ks.length ks.length) := by rw [← hW7]; exact Bx.new _ _ _ _
    have U7 : Below w3.heap.size w3 W7 := hb7.trans (hc7.mono hb7.size)
    have z67 : w3.heap.size ≤ W7.heap.size := U7.size
    have A8 := A7.later hc7
    have HB8 := HB7.trans (hc7.mono HB7.size)
    have O3 := own_later ho3 hc7
    have O4 := own_later ho4 hc7
    clear A7 HB7 hb7 hc7 ho3 ho4
    have H8 := impl_reach (some ⟨g3, 0, none⟩) (some ⟨g4, 0, none⟩) xs.length ks.length xs ks W7 (RowAt.own O3) (RowAt.own O4) hl hl2 (Nat.le_refl _) hs2
    obtain ⟨q9, q0, q1⟩ := Q7
    go_wp2_with fail
    try rw [hW7]
    refine H8.mono ?_
    clear hW7 H8
    have Q7 : Bx W7 w7.heap.size (.slice (some ⟨g3, 0, none⟩) xs.length xs.length) (.slice (some ⟨g4, 0, none⟩) ks.length ks.length) := ⟨q9, q0, q1⟩
    clear q9 q0 q1
    rintro e w8 ⟨b8, k8, Z8, rfl, h8, HF8, hb8⟩
    have hZ8 : Z8 = Z := sorted_ext Z8 Z HF8.out.2 HF6.out.2.1 (fun k => (HF8.out.1 k).trans (HF6.out.1 k).symm)
    subst hZ8
    clear HF8
    have U8 := U7.trans (hb8.mono U7.size)
    have A9 := A8.later hb8
    have HB9 := HB8.trans (hb8.mono HB8.size)
    have P3 := own_later O3 hb8
    have P4 := own_later O4 hb8
    have N8 : ∀ k, (Value.slice b8 Z8.length k8).ownBlock = some k → W7.heap.size ≤ k ∧ k < w8.heap.size := fun k hk => h8.lt k hk
    have N3 : w3.heap.size ≤ g3 ∧ g3 < W7.heap.size := O3.lt g3 rfl
    have N4 : w3.heap.size ≤ g4 ∧ g4 < W7.heap.size := O4.lt g4 rfl
    have Q7b := Q7.later hb8
    have n78 : W7.heap.size ≤ w8.heap.size := hb8.size
    clear hb8 O3 O4 A8 HB8 U7 Q7
    go_wp2_with fail
    refine (eqI_is b8 b6 k8 k6 Z8 w8 (row_own3 h8) (R6.later U8) hZ).mono ?_
    rintro e w9 ⟨rfl, hb9⟩
    have U9 := U8.trans (hb9.mono U8.size)
    have HBa := HB9.trans (hb9.mono HB9.size)
    have Aa := A9.later hb9
    have Qa := Q7b.later hb9
    have S3 := own_later P3 hb9
    have S4 := own_later P4 hb9
    have S8 := own_later h8 hb9
    have n9 : w8.heap.size ≤ w9.heap.size := hb9.size
    clear P3 P4 h8 A9 HB9 U8 Q7b hb9
    obtain ⟨eA, e0, e1⟩ := Aa
    obtain ⟨eB, y0, y1⟩ := Qa
    go_wp2_with fail
    have z1 : w.heap.size < w9.heap.size := eA
    go_region_held3 (fun W => W.cell? ⟨w.heap.size, 0, none⟩ = some (.slice a0 xs.length c0) ∧ W.cell? ⟨w.heap.size, 1, none⟩ = some (.slice b0 ks.length c1) ∧ W.cell? ⟨w7.heap.size, 0, none⟩ = some (.slice (some ⟨g3, 0, none⟩) xs.length xs.length) ∧ W.cell? ⟨w7.heap.size, 1, none⟩ = some (.slice (some ⟨g4, 0, none⟩) ks.length ks.length))
      (first | exact ⟨by simpa using e0, by simpa using e1, by simpa using y0, by simpa using y1⟩ | exact hS8 | exact hS7)
      ((first
        | (go_at_call 23; refine (toKnown_is a0 b0 c0 c1 xs ks _ (hr.later HBa.drew) (hq.later HBa.drew) hl hl2).mono ?_; rintro e wa ⟨v, rfl, ⟨g5, g6, rfl, ho5, ho6⟩, hba⟩; have hS7 : wa.cell? ⟨w.heap.size, 0, none⟩ = some (.slice a0 xs.length c0) ∧ wa.cell? ⟨w.heap.size, 1, none⟩ = some (.slice b0 ks.length c1) ∧ wa.cell? ⟨w7.heap.size, 0, none⟩ = some (.slice (some ⟨g3, 0, none⟩) xs.length xs.length) ∧ wa.cell? ⟨w7.heap.size, 1, none⟩ = some (.slice (some ⟨g4, 0, none⟩) ks.length ks.length) := ⟨(hba.cell (p := ⟨w.heap.size, 0, none⟩) eA).trans (by simpa using e0), (hba.cell (p := ⟨w.heap.size, 1, none⟩) eA).trans (by simpa using e1), (hba.cell (p := ⟨w7.heap.size, 0, none⟩) eB).trans (by simpa using y0), (hba.cell (p := ⟨w7.heap.size, 1, none⟩) eB).trans (by simpa using y1)⟩)
        | (go_at_call 25; refine (eqKnown_is (some ⟨g3, 0, none⟩) (some ⟨g4, 0, none⟩) (some ⟨g5, 0, none⟩) (some ⟨g6, 0, none⟩) _ _ _ _ xs ks wa (((RowAt.own S3).later (Below.drew (Below.refl _ _))).later hba) (((RowAt.own S4).later (Below.drew (Below.refl _ _))).later hba) (RowAt.own ho5) (RowAt.own ho6) hl hl2).mono ?_; rintro e wb ⟨rfl, hbb⟩; have z7 := hba.size; have hS8 : wb.cell? ⟨w.heap.size, 0, none⟩ = some (.slice a0 xs.length c0) ∧ wb.cell? ⟨w.heap.size, 1, none⟩ = some (.slice b0 ks.length c1) ∧ wb.cell? ⟨w7.heap.size, 0, none⟩ = some (.slice (some ⟨g3, 0, none⟩) xs.length xs.length) ∧ wb.cell? ⟨w7.heap.size, 1, none⟩ = some (.slice (some ⟨g4, 0, none⟩) ks.length ks.length) := ⟨(hbb.cell (p := ⟨w.heap.size, 0, none⟩) (Nat.lt_of_lt_of_le eA z7)).trans hS7.1, (hbb.cell (p := ⟨w.heap.size, 1, none⟩) (Nat.lt_of_lt_of_le eA z7)).trans hS7.2.1, (hbb.cell (p := ⟨w7.heap.size, 0, none⟩) (Nat.lt_of_lt_of_le eB z7)).trans hS7.2.2.1, (hbb.cell (p := ⟨w7.heap.size, 1, none⟩) (Nat.lt_of_lt_of_le eB z7)).trans hS7.2.2.2⟩)))
    have hbc : Below w9.heap.size w9 wb := (Below.refl _ w9).drew.trans (hba.trans (hbb.mono hba.size))
    have Ac : Bx wb w.heap.size (.slice a0 xs.length c0) (.slice b0 ks.length c1) := ⟨Nat.lt_of_lt_of_le eA hbc.size, hS8.1, hS8.2.1⟩
    have Uc := U9.trans (hbc.mono U9.size)
    have HBc := HBa.trans (hbc.mono HBa.size)
    have T3 := own_later S3 hbc
    have T4 := own_later S4 hbc
    have T8 := own_later S8 hbc
    have y2 := hS8.2.2.1
    have y3 := hS8.2.2.2
    have nc : w9.heap.size ≤ wb.heap.size := hbc.size
    clear hS7 hS8 ho5 ho6 hba hbb hbc S3 S4 S8 U9 HBa e0 e1 y0 y1 z7
    have hMk := markKnown_is w3.heap.size (some ⟨g3, 0, none⟩) (some ⟨g4, 0, none⟩) xs.length ks.length xs.length ks.length _ _ wb hl hl2 T3 T4
    go_wp2_with fail
    refine hMk.mono ?_
    clear hMk
    rintro e wd ⟨rfl, _, _, TT⟩
    have k3 : (Value.slice (some ⟨g3, 0, none⟩) xs.length xs.length).ownBlock = some g3 := rfl
    have k4 : (Value.slice (some ⟨g4, 0, none⟩) ks.length ks.length).ownBlock = some g4 := rfl
    rw [k3, k4] at TT
    have hB7 : Below w3.heap.size wb wd := TT.below (fun k hk => by cases hk; exact N3.1) (fun k hk => by cases hk; exact N4.1) Uc.size
    have Ud := Uc.trans hB7
    have HBd := HBc.trans (hB7.mono HB3.size)
    have Ad := Ac.turn TT (fun e => by have h2 := N3.1; simp at e; omega) (fun e => by have h2 := N4.1; simp at e; omega)
    have X8 := TT.own T8 (fun k hk => by have h1 := N8 k hk; exact ⟨fun e => by simp at e; omega, fun e => by simp at e; omega⟩)
    have nd : wb.heap.size ≤ wd.heap.size := TT.2.2.2.1
    have d1 : ¬ (xs.length : Int) + (ks.length : Int) + 1 < 0 := by omega
    have d1' : decide ((xs.length : Int) + (ks.length : Int) + 1 < 0) = false := by simpa using d1
    clear k3 k4 TT hB7 T3 T4 T8 Ac Uc HBc y2 y3
    go_wp2_with fail
    refine (eqI_is b8 b6 k8 k6 Z8 wd (row_own3 X8) (R6.later Ud) hZ).mono ?_
    rintro e we ⟨rfl, hbe⟩
    have Ue := Ud.trans (hbe.mono Ud.size)
    have HBe := HBd.trans (hbe.mono HBd.size)
    have Ae := Ad.later hbe
    have Y8 := own_later X8 hbe
    have ne : wd.heap.size ≤ we.heap.size := hbe.size
    clear Ud HBd Ad X8 hbe
    have hMk := markI0 W7.heap.size b8 Z8.length k8 _ we hZ Y8
    go_wp2_with fail
    refine hMk.mono ?_
    clear hMk
    rintro e wf ⟨rfl, M8, hgf⟩
    have hB8 : Below W7.heap.size we wf := ⟨hgf.os, hgf.tape, hgf.output, hgf.size, fun k hk => hgf.block k (by omega) (fun e => by have := N8 k e.symm; omega)⟩
    have Uf := Ue.trans (hB8.mono z67)
    have HBf := HBe.trans (hB8.mono (by omega))
    have A0 : w.heap.size < W7.heap.size := by omega
    have Af : Bx wf w.heap.size (.slice a0 xs.length c0) (.slice b0 ks.length c1) := ⟨Nat.lt_of_lt_of_le Ae.1 hB8.size, (hB8.cell (p := ⟨w.heap.size, 0, none⟩) A0).trans Ae.2.1, (hB8.cell (p := ⟨w.heap.size, 1, none⟩) A0).trans Ae.2.2⟩
    have r8 := row_marks3 M8
    have d2 : ¬ (Z8.length : Int) + 1 < 0 := by omega
    clear hgf hB8 M8 Y8 Ue HBe Ae
    go_wp2_with fail
    refine (heldI0 b8 Z8.length k8 wf hZ r8).mono ?_
    rintro e wg ⟨rfl, hbg⟩
    have Ug := Uf.trans (hbg.mono Uf.size)
    have HBg := HBf.trans (hbg.mono HBf.size)
    have Ag := Af.later hbg
    have s8 := r8.later hbg
    clear hbg Uf HBf Af r8
    obtain ⟨eC, e0, e1⟩ := Ag
    go_wp2_with fail
    refine (toKnown_is a0 b0 c0 c1 xs ks wg (hr.later HBg) (hq.later HBg) hl hl2).mono ?_
    rintro e wh ⟨v, rfl, ⟨g7, g8, rfl, ho7, ho8⟩, hbh⟩
    have Uh := Ug.trans (hbh.mono Ug.size)
    have HBh := HBg.trans (hbh.mono HBg.size)
    have t8 := s8.later hbh
    clear e0 e1 eC hbh Ug HBg s8
    have Hi := impl_reach (some ⟨g7, 0, none⟩) (some ⟨g8, 0, none⟩) xs.length ks.length xs ks wh (RowAt.own ho7) (RowAt.own ho8) hl hl2 (Nat.le_refl _) hs2
    go_wp2_with fail
    refine Hi.mono ?_
    clear Hi ho7 ho8
    rintro e wi ⟨b9, k9, Z9, rfl, h9, HF9, hbi⟩
    have hZ9 : Z9 = Z8 := sorted_ext Z9 Z8 HF9.out.2 HF6.out.2.1 (fun k => (HF9.out.1 k).trans (HF6.out.1 k).symm)
    subst hZ9
    clear HF9
    have Ui := Uh.trans (hbi.mono Uh.size)
    have HBi := HBh.trans (hbi.mono HBh.size)
    have u8 := t8.later hbi
    clear hbi Uh HBh t8
    go_wp2_with fail
    refine (eqI_is b9 b6 k9 k6 Z9 wi (row_own3 h9) (R6.later Ui) hZ).mono ?_
    rintro e wj ⟨rfl, hbj⟩
    have HBj := HBi.trans (hbj.mono HBi.size)
    have v8 := u8.later hbj
    clear hbj Ui HBi u8 h9
    go_wp2_with fail
    refine (heldI0 b8 Z9.length k8 wj hZ v8).mono ?_
    rintro e wk ⟨rfl, hbk⟩
    have HBk := HBj.trans (hbk.mono HBj.size)
    go_wp2
    go_ret
    exact ⟨rfl, HBk⟩
  · have h0' : r < 0 := by omega
    go_wp2
    go_ret
    exact ⟨rfl, HB⟩
end Go.Proofs.Ytkekfogepdhjhaa
