/- A row that is collected off an iterator. -/
import Derived.Test.YtjbbhegijlnndaaSe2
import Derived.RangeFuncNested
import Derived.RangeFuncBound
import Derived.RangeFuncCalls
import Derived.RangeFuncLeaves
import Derived.WalkKit
import Derived.OwnWalkIn
import Derived.TacticsInMore
import Derived.LoopNIn
import Derived.LoopIn
import Derived.Maps.OwnIn
import Derived.Maps.OwnSet
import Derived.Maps.Views
import Derived.Shelf.Abstract
set_option linter.unusedVariables false
set_option maxRecDepth 100000
namespace Go.Proofs.Ytjbbhegijlnndaa
open Go Go.RowKit Go.Joins Go.Shelf Own Maps
attribute [local go_sem] Oper.semAt_some

theorem cell_one_new' (w : World) (v : Value) (t : TypeId) : ∀ j u, [v][j]? = some u → (w.alloc (.cells #[v] t)).cell? ((⟨w.heap.size, 0, none⟩ : Addr).add j) = some u := by
  intro j u hu
  have h := (Blk.new w #[v] t).at j hu
  have e : (⟨w.heap.size, 0, none⟩ : Addr).add j = ⟨w.heap.size, j, none⟩ := by simp only [Addr.add]; split <;> simp_all
  rw [e]; exact h
set_option maxHeartbeats 3200000 in
theorem appSeq_in (Bs : Nat) (a : Option Addr) (cap : Nat) (xs : List Z64) (hl : xs.length ≤ 1048576) (w : World) (hr : RowAt zV w a xs) (hc : w.cell? ⟨Bs, 0, none⟩ = some (.slice a xs.length cap)) :
    Calls Try.prog 105 #[.slice none 0 0, .func (.func 102) #[] #[.pointer (some ⟨Bs, 0, none⟩)]] w fun e w' => ∃ v, e = .returned v ∧ w'.ownsRow w.heap.size 3 1 v xs.length (xs.map zV) ∧ Below w.heap.size w w' := by
  obtain ⟨i0, hi, hz0, hz1, hz2⟩ := info_parts infoInt
  refine (callsIn_wide (n := 6)).1 ?_
  refine callsIn_of_wp_marks Try.func105 rfl trivial ?_ rfl
  simp only [Try.ntmps105, List.size_toArray, List.length_cons, List.length_nil, Nat.reduceAdd, Nat.reduceSub, Array.replicate_succ, Array.replicate_zero, List.push_toArray, List.append_toArray, List.nil_append, List.cons_append]
  gi_wp2
  have hB0 := Boxed.new w 32 (.slice none 0 0)
  have hb0 : Below w.heap.size w (w.alloc (.cells #[.slice none 0 0] 32)) := (Below.refl _ _).alloc (Nat.le_refl _) _
  refine wpIn_rangeFunc_ownG (α := Z64) rfl (by omega) (gf := 102) (lb := #[.pointer (some ⟨Bs, 0, none⟩)]) rfl trivial (enters_of Try.func102 (by kernel_rfl) rfl)
    (vals_stops 5 (by omega) Bs w.heap.size w.heap.size a cap xs (by omega) w hr (Nat.le_refl _) (notMap_big (Nat.le_refl _)) hc) KB.trans (KB.put (by simp)) hb0 (fun _ => rfl)
    (fun pre W => (∃ v, Boxed W w.heap.size 32 v ∧ W.ownsRow w.heap.size 3 1 v pre.length (pre.map zV) ∧ True) ∧ Below w.heap.size w W) (fun _ _ _ => False)
    (OwnFrom.and (Own.from (holdsRow_own w.heap.size w.heap.size 32 3 1 (fun pre : List Z64 => pre.length) (fun pre => pre.map zV) (fun _ _ => True)) _) (ownFrom_below (Nat.le_refl _) (by simp)))
    (fun _ _ _ _ _ hs _ _ => hs) ⟨⟨_, hB0, World.ownsRow_nil _ _ _ _, trivial⟩, hb0⟩
    (fun x => { tmps := #[.slice none 0 0, .func (.func 102) #[] #[.pointer (some ⟨Bs, 0, none⟩)], .pointer (some ⟨w.heap.size, 0, none⟩), undef, .slice none 0 0, zV x, .func (.func 102) #[] #[.pointer (some ⟨Bs, 0, none⟩)], zV x, undef, undef, undef, undef, undef], defers := [] }) ?assign ?body ?done ?stop
  case assign =>
    intro l x W K hK
    gi_wp2
    exact hK
  case body =>
    rintro l pre x W ⟨⟨v, hv, hrow, _⟩, hB⟩ hlt
    have c0 := hv.cell
    have hln : pre.length ≤ 1048576 := by omega
    unfold zV
    gi_wp2_with (first | (gi_at_builtin; refine wpListIn_append_own _ rfl _ _ 32 rfl w.heap.size 3 i0 (.int .i64 0) 1 8 Try.underlying32 hi hz0 hz1 hz2 rfl (by decide) _ _ _ rfl (World.ownsRow.alloc hrow _) ⟨W.heap.size, 0, none⟩ 1 1 [.int .i64 x.1] rfl rfl (cell_one_new' _ _ _) ?c2 ?c3 ?c4 ?c5 ?_) | gi_in)
    case c2 => intro u hu; simp at hu; subst hu; rfl
    case c3 => unfold maxLen; omega
    case c4 => omega
    case c5 => have := hB.size; simp; omega
    intro v' w1 hown' hgrow _
    obtain ⟨g', cap', rfl⟩ := ownsRow_succ hown'
    obtain ⟨hv1, hv2, hr2, hk2, hb2⟩ := hv.appended (by decide) hrow hB.size (Nat.le_refl _) hown' hgrow
    have hc1 := hv1.cell
    have hf1 := hv1.frozen
    have hl2 : (pre ++ [x]).length = pre.length + 1 := by simp
    have hm2 : (pre ++ [x]).map (fun x : Z64 => Value.int .i64 x.1) = pre.map (fun x : Z64 => Value.int .i64 x.1) ++ [.int .i64 x.1] := by rw [List.map_append]; rfl
    gi_wp2
    refine ⟨hk2.from _, KB.of hb2, ⟨_, hv2, ?_, trivial⟩, hB.trans hb2⟩
    rw [hl2, hm2]
    exact hr2
  case done =>
    rintro D ys W hD rfl ⟨⟨v, hv, hrow, _⟩, hB⟩ hK
    have c0 := hv.cell
    obtain ⟨g, c, rfl, _⟩ := own_shape hrow
    gi_wp2
    refine ⟨by simp, .inl ⟨_, _, rfl, run_takeDeferred hK, ?_⟩⟩
    exact ⟨_, results_tmp rfl _ _ _, _, rfl, ownsRow_putObj hrow _ hK rfl, hB.trans (belowK_b (w := w) (Nat.le_refl _) W D _ _ (by simp at hD; omega) hK rfl rfl)⟩
  case stop =>
    rintro D c pre W _ _ h _
    exact h.elim
theorem toZ_map (L : List Int) (h : ∀ x ∈ L, (Lit.int .i64 x).wf = true) : (toZ L h).map zV = L.map (Value.int .i64) := by
  have := congrArg (List.map (Value.int .i64)) (zs_toZ L h)
  unfold zs at this
  rw [List.map_map] at this
  exact this
theorem collect_is {Bs : Nat} {L : List Int} {w : World} (hi : It Bs L w) :
    Calls Try.prog 100 #[SQ Bs] w fun e W' => ∃ v, e = .returned v ∧ W'.ownsRow w.heap.size 3 1 v L.length (L.map (Value.int .i64)) ∧ Below w.heap.size w W' := by
  obtain ⟨⟨a, cap, hc, hr⟩, h1, h2⟩ := hi
  have K := appSeq_in Bs a cap (toZ L h1) (by rw [toZ_len]; omega) w (toZ_row h1 hr) (by rw [toZ_len]; exact hc)
  rw [toZ_len, toZ_map] at K
  have K2 : Calls Try.prog 105 #[.slice none 0 0, SQ Bs] w fun e w' => ∃ v, e = .returned v ∧ w'.ownsRow w.heap.size 3 1 v L.length (L.map (Value.int .i64)) ∧ Below w.heap.size w w' := K
  clear K hr hc
  go_enter Try.func100, Try.ntmps100
  go_wp2_with fail
  refine K2.mono ?_
  clear K2
  rintro e W ⟨v, rfl, ho, hb⟩
  obtain ⟨g, c, rfl, _⟩ := own_shape ho
  go_wp2
  go_ret
  exact ⟨_, rfl, ho, hb⟩
end Go.Proofs.Ytjbbhegijlnndaa
