/- What was seen and has not gone yet: the iterator over it, and what is collected of it. -/
import Derived.Test.YtmiceknaipimiaaCheck
import Derived.RangeFuncNested
import Derived.RangeFuncBound
import Derived.RangeFuncCalls
import Derived.RangeFuncLeaves
import Derived.WalkKit
import Derived.OwnWalkIn
import Derived.TacticsInMore
import Derived.LoopNIn
import Derived.LoopIn
import Derived.Shelf.Abstract
set_option linter.unusedVariables false
namespace Go.Proofs.Ytmiceknaipimiaa
open Go Go.RowKit Go.Joins Go.Shelf Own
attribute [local go_sem] Oper.semAt_some

/-- What has not gone yet. -/
def stay (n k : Int) (xs : List A3) : List A3 := xs.filter fun p => decide (n - k ≤ p.2.1)
theorem stay_len (n k : Int) (xs : List A3) : (stay n k xs).length ≤ xs.length := List.length_filter_le _ _
theorem stay_hit {n k : Int} {xs : List A3} {j : Nat} (hj : j < xs.length) (h : n - k ≤ xs[j].2.1) : stay n k (xs.take (j + 1)) = stay n k (xs.take j) ++ [(xs[j].1, xs[j].2.1, xs[j].2.2)] := by
  unfold stay
  rw [List.take_succ_eq_append_getElem hj, List.filter_append]
  simp [h]
theorem stay_miss {n k : Int} {xs : List A3} {j : Nat} (hj : j < xs.length) (h : ¬ n - k ≤ xs[j].2.1) : stay n k (xs.take (j + 1)) = stay n k (xs.take j) := by
  unfold stay
  rw [List.take_succ_eq_append_getElem hj, List.filter_append]
  simp [h]

set_option maxRecDepth 100000 in
set_option maxHeartbeats 3200000 in
theorem gone_in (m : Nat) (hm : 1 ≤ m) (l Bc Bn Bk : Nat) (q n k : Int) (a : Option Addr) (cap : Nat) (xs : List A3) (hl : xs.length ≤ 1048576) (hn : 0 ≤ n ∧ n ≤ 100000) (hk : 0 ≤ k ∧ k ≤ 20) (w0 : World) (hr : ARow w0 a xs) (hBc : Bc < w0.heap.size) (hBn : Bn < w0.heap.size) (hBk : Bk < w0.heap.size)
    (hc : w0.cell? ⟨Bc, 1, none⟩ = some (.slice a xs.length cap)) (hcn : w0.cell? ⟨Bn, 0, none⟩ = some (.int .i64 n)) (hck : w0.cell? ⟨Bk, 0, none⟩ = some (.int .i64 k))
    (J Jx : List A3 → World → Prop) (W : World) (hW : Below w0.heap.size w0 W) (hJ : AbidesFrom W.heap.size J)
    (hY : ∀ pre x W1, J pre W1 → pre.length < xs.length → YieldAt Fence.wide (m - 1) Try.prog l #[av x.1 x.2.1 x.2.2] W1 fun e W' =>
      (e = .returned (.bool true) ∧ J (pre ++ [x]) W' ∧ Below w0.heap.size W1 W') ∨ (e = .returned (.bool false) ∧ Jx (pre ++ [x]) W'))
    (h0 : J [] W) :
    CallsIn Fence.wide m Try.prog 55 #[.func (.yield l) #[] #[], .pointer (some ⟨Bc, 0, none⟩), .pointer (some ⟨Bn, 0, none⟩), .pointer (some ⟨Bk, 0, none⟩)] W fun e W' => (∃ v, e = .returned v) ∧
      ((∃ ys, ys = stay n k xs ∧ J ys W') ∨ (∃ pre, True ∧ Jx pre W')) := by
  refine callsIn_of_wp Try.func55 rfl trivial ?_ rfl
  simp only [Try.ntmps55, List.size_toArray, List.length_cons, List.length_nil, Nat.reduceAdd, Nat.reduceSub, Array.replicate_succ, Array.replicate_zero, List.push_toArray, List.append_toArray, List.nil_append, List.cons_append]
  have e1 := (hW.cell (p := ⟨Bc, 1, none⟩) hBc).trans hc
  gi_wp2
  gi_loopw [10] (fun i wr => ∃ j : Nat, j ≤ xs.length ∧ i = .int .i64 j ∧ J (stay n k (xs.take j)) wr ∧ Below w0.heap.size w0 wr ∧ W.heap.size ≤ wr.heap.size) (fun i _ => xs.length - (intOf i).toNat)
  case atStart => exact ⟨0, Nat.zero_le _, rfl, h0, hW, Nat.le_refl _⟩
  case round =>
    clear e1
    obtain ⟨j, hj, rfl, hJs, hnx, hsz⟩ := hrel
    by_cases hlt : j < xs.length
    · obtain ⟨b, off, rfl, hbl, c0, c1, c2⟩ := hr j hlt
      rw [← hnx.cell (p := ⟨b, off + j * 3, none⟩) hbl] at c0
      rw [← hnx.cell (p := ⟨b, off + j * 3 + 1, none⟩) hbl] at c1
      rw [← hnx.cell (p := ⟨b, off + j * 3 + 2, none⟩) hbl] at c2
      have hlt2 : (j : Int) < (xs.length : Int) := by omega
      have HH := stay_hit (n := n) (k := k) hlt
      have HM := stay_miss (n := n) (k := k) hlt
      generalize xs[j].1 = x at c0 HH
      generalize xs[j].2.1 = y at c1 HH HM
      generalize xs[j].2.2 = z at c2 HH
      obtain ⟨V, hV⟩ : ∃ V, wr.alloc (.cells #[.int .i64 x, .int .i64 y, .int .i64 z] 28) = V := ⟨_, rfl⟩
      have TV : Blk wr.heap.size [.int .i64 x, .int .i64 y, .int .i64 z] V := by rw [← hV]; exact Blk.new _ _ _
      have gV : wr.grownBy V none := by rw [← hV]; exact World.grownBy_alloc _ _ _
      have JV : J (stay n k (xs.take j)) V := hJ _ _ _ none hJs gV (fun r e => by cases e)
      have BV : Below w0.heap.size w0 V := by rw [← hV]; exact hnx.alloc hnx.size _
      have sV : W.heap.size ≤ V.heap.size := Nat.le_trans hsz gV.size
      have d0 := TV.at 0 rfl
      have d1 := TV.at 1 rfl
      have d2 := TV.at 2 rfl
      have f0 := TV.fz 0 rfl
      have f1 := TV.fz 1 rfl
      have f2 := TV.fz 2 rfl
      have en := (BV.cell (p := ⟨Bn, 0, none⟩) hBn).trans hcn
      have ek := (BV.cell (p := ⟨Bk, 0, none⟩) hBk).trans hck
      clear gV hJs hnx hsz TV
      by_cases hy : n - k ≤ y
      · obtain ⟨fn, tmps, assign, body, hyv, hR⟩ := hY _ (x, y, z) V JV (by have := stay_len n k (xs.take j); rw [List.length_take] at this; omega)
        dsimp only at hyv
        have HS := HH hy
        clear HH HM JV
        gi_wp2
        refine hR.mono ?_
        clear hR hyv
        rintro e W3 (⟨rfl, hJ3, hk3⟩ | ⟨rfl, hJx3⟩)
        · have BN := BV.trans hk3
          have sN := Nat.le_trans sV hk3.size
          clear d0 d1 d2 f0 f1 f2 en ek hV c0 c1 c2
          gi_wp2
          go_roundw
          case rel => exact ⟨j + 1, by omega, by go_num, by rw [HS]; exact hJ3, BN, sN⟩
          case measure => simp [intOf]; omega
        · clear d0 d1 d2 f0 f1 f2 en ek hV c0 c1 c2
          gi_wp2
          refine bodyPost_ret (results_none rfl _ _ _) rfl ?_
          exact ⟨⟨_, rfl⟩, .inr ⟨_, trivial, hJx3⟩⟩
      · have HS := HM hy
        clear HH HM hY
        gi_wp2
        refine ⟨fun _ h => (by cases h), ?_⟩
        gi_wp2
        go_roundw
        case rel => exact ⟨j + 1, by omega, by go_num, by rw [HS]; exact JV, BV, sV⟩
        case measure => simp [intOf]; omega
    · obtain rfl : j = xs.length := by omega
      rw [List.take_length] at hJs
      gi_wp2
      go_end0
      exact ⟨⟨_, rfl⟩, .inl ⟨_, rfl, hJs⟩⟩

/-- The iterator hands out what has not gone yet. -/
theorem gone_stops (m : Nat) (hm : 1 ≤ m) (Bc Bn Bk : Nat) (q n k : Int) (a : Option Addr) (cap : Nat) (xs : List A3) (hl : xs.length ≤ 1048576) (hn : 0 ≤ n ∧ n ≤ 100000) (hk : 0 ≤ k ∧ k ≤ 20) (w0 : World) (hr : ARow w0 a xs) (hBc : Bc < w0.heap.size) (hBn : Bn < w0.heap.size) (hBk : Bk < w0.heap.size)
    (hc : w0.cell? ⟨Bc, 1, none⟩ = some (.slice a xs.length cap)) (hcn : w0.cell? ⟨Bn, 0, none⟩ = some (.int .i64 n)) (hck : w0.cell? ⟨Bk, 0, none⟩ = some (.int .i64 k)) :
    SeqStopsK Fence.wide m Try.prog 55 #[.pointer (some ⟨Bc, 0, none⟩), .pointer (some ⟨Bn, 0, none⟩), .pointer (some ⟨Bk, 0, none⟩)] (fun x : A3 => #[av x.1 x.2.1 x.2.2]) (Below w0.heap.size) (fun ys => ys = stay n k xs) (fun _ => True) xs.length w0 :=
  fun l J Jx W hW hJ _ hY h0 => gone_in m hm l Bc Bn Bk q n k a cap xs hl hn hk w0 hr hBc hBn hBk hc hcn hck J Jx W hW hJ hY h0

/-- Block B holds an Auth. -/
def Box3 (W : World) (B : Nat) (x : A3) : Prop := W.heap[B]? = some (.cells #[.int .i64 x.1, .int .i64 x.2.1, .int .i64 x.2.2] 28 (0, 0))
theorem Box3.lt {W : World} {B : Nat} {x : A3} (h : Box3 W B x) : B < W.heap.size := (Array.getElem?_eq_some_iff.1 h).1
theorem Box3.blk {W : World} {B : Nat} {x : A3} (h : Box3 W B x) : Blk B [.int .i64 x.1, .int .i64 x.2.1, .int .i64 x.2.2] W := by
  constructor
  intro i v e
  have hb : W.heap[B]? = some (.cells #[.int .i64 x.1, .int .i64 x.2.1, .int .i64 x.2.2] 28 (0, 0)) := h
  refine ⟨?_, by simp [World.frozen?, hb]⟩
  simp only [World.cell?, hb]
  simpa using e
theorem Box3.own {β : Type} (B : Nat) (x : A3) : Own (fun (_ : β) W => Box3 W B x) := fun s X Y row hs hg hrow => by
  refine (hg.block B hs.lt (fun e => ?_)).trans hs
  obtain ⟨o, ho, hc⟩ := hrow B e.symm
  rw [show X.heap[B]? = _ from hs] at ho
  cases ho
  cases hc
theorem cell_three_new (w : World) (a b c : Value) (t : TypeId) : ∀ j u, [a, b, c][j]? = some u → (w.alloc (.cells #[a, b, c] t)).cell? ((⟨w.heap.size, 0, none⟩ : Addr).add j) = some u := by
  intro j u hu
  have h := (Blk.new w #[a, b, c] t).at j hu
  have e : (⟨w.heap.size, 0, none⟩ : Addr).add j = ⟨w.heap.size, j, none⟩ := by simp only [Addr.add]; split <;> simp_all
  rw [e]; exact h

set_option maxRecDepth 100000 in
set_option maxHeartbeats 3200000 in
theorem appSeq_in (m : Nat) (hm : 3 ≤ m) (Bc Bn Bk : Nat) (q n k : Int) (a : Option Addr) (cap : Nat) (xs : List A3) (hl : xs.length ≤ 1048576) (hn : 0 ≤ n ∧ n ≤ 100000) (hk : 0 ≤ k ∧ k ≤ 20) (w : World) (hr : ARow w a xs) (hBc : Bc < w.heap.size) (hBn : Bn < w.heap.size) (hBk : Bk < w.heap.size)
    (hc : w.cell? ⟨Bc, 1, none⟩ = some (.slice a xs.length cap)) (hcn : w.cell? ⟨Bn, 0, none⟩ = some (.int .i64 n)) (hck : w.cell? ⟨Bk, 0, none⟩ = some (.int .i64 k)) :
    CallsIn Fence.wide m Try.prog 54 #[.slice none 0 0, .func (.func 55) #[] #[.pointer (some ⟨Bc, 0, none⟩), .pointer (some ⟨Bn, 0, none⟩), .pointer (some ⟨Bk, 0, none⟩)]] w fun e w' => ∃ g c, e = .returned (.slice g (stay n k xs).length c) ∧ Own3 w.heap.size g c (stay n k xs) w' ∧ Below w.heap.size w w' := by
  obtain ⟨i0, hi, hz0, hz1, hz2⟩ := info_parts infoAuth
  have h1 : 1 ≤ m := by omega
  refine callsIn_of_wp_marks Try.func54 rfl trivial ?_ rfl
  simp only [Try.ntmps54, List.size_toArray, List.length_cons, List.length_nil, Nat.reduceAdd, Nat.reduceSub, Array.replicate_succ, Array.replicate_zero, List.push_toArray, List.append_toArray, List.nil_append, List.cons_append]
  gi_wp2
  have hB0 := Boxed.new w 24 (.slice none 0 0)
  have hb0 : Below w.heap.size w (w.alloc (.cells #[.slice none 0 0] 24)) := (Below.refl _ _).alloc (Nat.le_refl _) _
  refine wpIn_rangeFunc_ownH (α := A3) rfl h1 (gf := 55) (lb := #[.pointer (some ⟨Bc, 0, none⟩), .pointer (some ⟨Bn, 0, none⟩), .pointer (some ⟨Bk, 0, none⟩)]) rfl trivial (enters_of Try.func55 (by kernel_rfl) rfl)
    (gone_stops (m - 1) (by omega) Bc Bn Bk q n k a cap xs hl hn hk w hr hBc hBn hBk hc hcn hck) belowK_t (belowK_b (by simp)) hb0 (fun _ => rfl)
    (fun pre W => (∃ v, Boxed W w.heap.size 24 v ∧ W.ownsRow w.heap.size 28 3 v pre.length (trV pre) ∧ True) ∧ Below w.heap.size w W) (fun _ _ _ => False)
    (OwnFrom.and (Own.from (holdsRow_own w.heap.size w.heap.size 24 28 3 (fun pre : List A3 => pre.length) (fun pre => trV pre) (fun _ _ => True)) _) (ownFrom_below (Nat.le_refl _) (by simp)))
    (fun _ _ _ _ _ hs _ _ => hs) ⟨⟨_, hB0, ⟨rfl, Or.inl ⟨rfl, rfl⟩⟩, trivial⟩, hb0⟩
    (fun x a' W => ∃ Bx, w.heap.size < Bx ∧ Box3 W Bx x ∧ a' = { tmps := #[.slice none 0 0, .func (.func 55) #[] #[.pointer (some ⟨Bc, 0, none⟩), .pointer (some ⟨Bn, 0, none⟩), .pointer (some ⟨Bk, 0, none⟩)], .pointer (some ⟨w.heap.size, 0, none⟩), undef, .slice none 0 0, .pointer (some ⟨Bx, 0, none⟩), .func (.func 55) #[] #[.pointer (some ⟨Bc, 0, none⟩), .pointer (some ⟨Bn, 0, none⟩), .pointer (some ⟨Bk, 0, none⟩)], av x.1 x.2.1 x.2.2, undef, undef, undef, undef, undef], defers := [] })
    ?ax ?assign ?body ?done ?stop
  case ax =>
    intro x a' s X Y row hs hg hrow
    obtain ⟨Bx, h1, h2, h3⟩ := hs
    exact ⟨Bx, h1, Box3.own Bx x () X Y row h2 hg (fun r e => (hrow r e).2), h3⟩
  case assign =>
    rintro l pre x W K ⟨⟨v, hv, hrow, _⟩, hB⟩ hK
    gi_wp2
    exact hK _ _ ((KeepsOthers.alloc _ _).from _) ((Below.refl _ W).alloc hB.size _) ⟨⟨v, hv.alloc _, World.ownsRow.alloc hrow _, trivial⟩, hB.alloc hB.size _⟩ ⟨W.heap.size, hv.lt, World.alloc_heap_new W _, rfl⟩
  case body =>
    rintro l pre x a' W hlw ⟨r, hr'⟩ ⟨⟨v, hv, hrow, _⟩, hB⟩ ⟨Bx, hBx, bX, rfl⟩ hlt
    have c0 := hv.cell
    have d0 := bX.blk.at 0 rfl
    have d1 := bX.blk.at 1 rfl
    have d2 := bX.blk.at 2 rfl
    gi_wp2_with (first | (gi_at_builtin; refine wpListIn_append_own _ rfl _ _ 24 rfl w.heap.size 28 i0 (.agg #[.int .i64 0, .int .i64 0, .int .i64 0]) 3 24 Try.underlying24 hi hz0 hz1 hz2 rfl (by decide) _ _ _ rfl (World.ownsRow.alloc hrow _) ⟨W.heap.size, 0, none⟩ 1 1 [.int .i64 x.1, .int .i64 x.2.1, .int .i64 x.2.2] rfl rfl (cell_three_new _ _ _ _ _) ?c2 ?c3 ?c4 ?c5 ?_) | gi_in)
    case c2 => intro u hu; simp at hu; rcases hu with rfl | rfl | rfl <;> rfl
    case c3 => unfold maxLen; omega
    case c4 => omega
    case c5 => have := hB.size; simp; omega
    intro v' w1 hown' hgrow _
    obtain ⟨g', cap', rfl⟩ := ownsRow_succ hown'
    obtain ⟨hv1, hv2, hr2, hk2, hb2⟩ := hv.appended (by decide) hrow hB.size (Nat.le_refl _) hown' hgrow
    have hc1 := hv1.cell
    have hf1 := hv1.frozen
    rw [trV_snoc] at hr2
    have hl2 : (pre ++ [x]).length = pre.length + 1 := by simp
    gi_wp2
    refine ⟨hk2.from _, hb2, ⟨_, hv2, ?_, trivial⟩, hB.trans hb2⟩
    rw [hl2]
    exact hr2
  case done =>
    rintro D ys W hD rfl ⟨⟨v, hv, hrow, _⟩, hB⟩ hK
    have c0 := hv.cell
    obtain ⟨g, c, rfl, _⟩ := own_shape hrow
    gi_wp2
    refine ⟨by simp, .inl ⟨_, _, rfl, run_takeDeferred hK, ?_⟩⟩
    exact ⟨_, results_tmp rfl _ _ _, g, c, rfl, ownsRow_putObj hrow _ hK rfl, hB.trans (belowK_b (w := w) (Nat.le_refl _) W D _ _ (by simp at hD; omega) hK rfl rfl)⟩
  case stop =>
    rintro D c pre W _ _ h _
    exact h.elim
end Go.Proofs.Ytmiceknaipimiaa
