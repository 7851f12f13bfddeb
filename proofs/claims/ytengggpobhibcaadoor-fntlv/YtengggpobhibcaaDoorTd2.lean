/- A node that is read: the model. -/
import Derived.Test.YtengggpobhibcaaDoorTd1
set_option linter.unusedVariables false
set_option maxRecDepth 100000
namespace Go.Proofs.YtengggpobhibcaaDoor.Nd
open Go Go.RowKit Go.Joins Own Draw Var

set_option maxRecDepth 100000 in
set_option maxHeartbeats 6400000 in
theorem step_is (s : ByteArray) (hs : s.size ≤ 900) (deep : Nat) (hd8 : deep ≤ 8) (nd : List PT → Nat → Nat → Nat → NdR) (hok : deep < 8 → NdOk nd s.size)
    (hnd : deep < 8 → ∀ (B : Nat) (r : Rw TT) (bg a en : Nat) (w : World), B ≤ w.heap.size → RoT B w r → ApT r → r.2.2.length ≤ bg → bg ≤ 60 → a ≤ en → en ≤ s.size → Calls Tryd.prog 25 #[.agg #[.string s, .slice r.1 r.2.2.length r.2.1, .int .i64 bg, .int .i64 0], .int .i64 a, .int .i64 en, .int .i64 ((deep : Int) + 1)] w fun e w' => NodeP s (nd (rsT r) bg a en) B r w e w')
    (B : Nat) (r : Rw TT) (bg a en : Nat) (w : World) (hB : B ≤ w.heap.size) (hr : RoT B w r) (hap : ApT r) (hl : r.2.2.length ≤ bg) (hb : bg ≤ 60) (ha : a ≤ en) (he : en ≤ s.size) :
    Calls Tryd.prog 25 #[.agg #[.string s, .slice r.1 r.2.2.length r.2.1, .int .i64 bg, .int .i64 0], .int .i64 a, .int .i64 en, .int .i64 deep] w fun e w' => NodeP s (stepN s (decide (deep < 8)) nd (rsT r) bg a en) B r w e w' := by
  obtain ⟨il, hil, hils⟩ := info_L
  obtain ⟨oa, oc, xs⟩ := r
  dsimp only at hr hl ⊢
  obtain ⟨V, hV⟩ : ∃ V, (w.alloc (.cells #[.string s, .slice oa xs.length oc, .int .i64 bg, .int .i64 0] 51)).alloc (.cells #[.string ⟨#[]⟩, .slice none 0 0, .int .i64 0, .int .i64 0] 51) = V := ⟨_, rfl⟩
  have BV : Below w.heap.size w V := by rw [← hV]; exact ((Below.refl _ _).alloc (Nat.le_refl _) _).alloc (by simp) _
  have TR : Blk w.heap.size [.string s, .slice oa xs.length oc, .int .i64 bg, .int .i64 0] V := by rw [← hV]; exact (Blk.new _ _ _).alloc (by simp) _
  have T8 : Blk (w.heap.size + 1) [.string ⟨#[]⟩, .slice none 0 0, .int .i64 0, .int .i64 0] V := by rw [← hV]; have := Blk.new (w.alloc (.cells #[.string s, .slice oa xs.length oc, .int .i64 bg, .int .i64 0] 51)) #[.string ⟨#[]⟩, .slice none 0 0, .int .i64 0, .int .i64 0] 51; simpa using this
  have RO := RoT.later hr BV
  have GR : w.grownBy V (obT (oa, oc, xs)) := gr_below (World.grownBy.refl w _) BV
  go_enter Tryd.func25, Tryd.ntmps25
  by_cases h60 : 60 ≤ bg
  · have c60 : (60 : Int) ≤ (bg : Int) := by omega
    have r2 := TR.at 2 rfl
    have HV : Hid (stepN s (decide (deep < 8)) nd (rsT (oa, oc, xs)) bg a en = ((rsT (oa, oc, xs), bg, 4), a)) := by show _ = _; unfold stepN; rw [if_pos h60]
    have r3 := TR.at 3 rfl
    have f3 := TR.fz 3 rfl
    have TRe : Blk w.heap.size [.string s, .slice oa xs.length oc, .int .i64 bg, .int .i64 4] (V.setCell ⟨w.heap.size, 3, none⟩ (.int .i64 4)) := TR.set 3 _
    have T8e : Blk (w.heap.size + 1) [.string ⟨#[]⟩, .slice none 0 0, .int .i64 0, .int .i64 0] (V.setCell ⟨w.heap.size, 3, none⟩ (.int .i64 4)) := T8.far (by omega) 3 _
    obtain ⟨VF, hVF⟩ : ∃ Y, (V.setCell ⟨w.heap.size, 3, none⟩ (.int .i64 4)).setCells (w.heap.size + 1) 0 [.string s, .slice oa xs.length oc, .int .i64 bg, .int .i64 4] = Y := ⟨_, rfl⟩
    have TF : Blk (w.heap.size + 1) [.string s, .slice oa xs.length oc, .int .i64 bg, .int .i64 4] VF := by rw [← hVF]; exact T8e.sets _ rfl
    have BF : Below w.heap.size w VF := by rw [← hVF]; exact below_sets (by omega) _ _ _ (BV.setCell (Nat.le_refl _) _)
    have RF := RoT.later hr BF
    clear hr hok hnd TR T8 BV RO GR
    go_wp2_with (first | (refine wpList_ldB 51 _ w.heap.size 0 _ [.string s, .slice oa xs.length oc, .int .i64 bg, .int .i64 4] il hil (Tryd.isAgg51) TRe hils.symm rfl rfl rfl rfl ?_) | (refine wpList_stB 51 _ _ (w.heap.size + 1) 0 _ [.string s, .slice oa xs.length oc, .int .i64 bg, .int .i64 4] il hil T8e hils.symm (by simp) rfl rfl rfl rfl rfl ?_; rw [hVF]) | go_in)
    exact bodyPost_ret (res_B2 rfl _ _ (w.heap.size + 1) [.string s, .slice oa xs.length oc, .int .i64 bg, .int .i64 4] (.int .i64 a) il hil (Tryd.isAgg51) TF hils.symm rfl rfl) rfl ⟨(oa, oc, xs), by rw [HV.out], by rw [HV.out], RF, gr_below (World.grownBy.refl w _) BF, Or.inl rfl, fun _ _ h => h, hap⟩
  have c60 : ¬ (60 : Int) ≤ (bg : Int) := by omega
  have r2 := TR.at 2 rfl
  have f2 := TR.fz 2 rfl
  obtain ⟨U, hU⟩ : ∃ U, V.setCell ⟨w.heap.size, 2, none⟩ (.int .i64 ((bg : Int) + 1)) = U := ⟨_, rfl⟩
  have TR1 : Blk w.heap.size [.string s, .slice oa xs.length oc, .int .i64 ((bg : Int) + 1), .int .i64 0] U := by rw [← hU]; exact TR.set 2 _
  have T81 : Blk (w.heap.size + 1) [.string ⟨#[]⟩, .slice none 0 0, .int .i64 0, .int .i64 0] U := by rw [← hU]; exact T8.far (by omega) 2 _
  have BU : Below w.heap.size w U := by rw [← hU]; exact BV.setCell (Nat.le_refl _) _
  have wr1 : wrap64 ((bg : Int) + 1) = (bg : Int) + 1 := by unfold wrap64; omega
  by_cases h1 : en ≤ a
  · have c1 : (en : Int) ≤ (a : Int) := by omega
    have HV : Hid (stepN s (decide (deep < 8)) nd (rsT (oa, oc, xs)) bg a en = ((rsT (oa, oc, xs), bg + 1, 1), a)) := by show _ = _; unfold stepN; rw [if_neg h60, if_pos h1]
    have r3 := TR1.at 3 rfl
    have f3 := TR1.fz 3 rfl
    have TRe : Blk w.heap.size [.string s, .slice oa xs.length oc, .int .i64 ((bg : Int) + 1), .int .i64 1] (U.setCell ⟨w.heap.size, 3, none⟩ (.int .i64 1)) := TR1.set 3 _
    have T8e : Blk (w.heap.size + 1) [.string ⟨#[]⟩, .slice none 0 0, .int .i64 0, .int .i64 0] (U.setCell ⟨w.heap.size, 3, none⟩ (.int .i64 1)) := T81.far (by omega) 3 _
    obtain ⟨VF, hVF⟩ : ∃ Y, (U.setCell ⟨w.heap.size, 3, none⟩ (.int .i64 1)).setCells (w.heap.size + 1) 0 [.string s, .slice oa xs.length oc, .int .i64 ((bg : Int) + 1), .int .i64 1] = Y := ⟨_, rfl⟩
    have TF : Blk (w.heap.size + 1) [.string s, .slice oa xs.length oc, .int .i64 ((bg : Int) + 1), .int .i64 1] VF := by rw [← hVF]; exact T8e.sets _ rfl
    have BF : Below w.heap.size w VF := by rw [← hVF]; exact below_sets (by omega) _ _ _ (BU.setCell (Nat.le_refl _) _)
    have RF := RoT.later hr BF
    clear hr hok hnd TR1 T81 BU RO GR
    go_wp2_with (first | (refine wpList_ldB 51 _ w.heap.size 0 _ [.string s, .slice oa xs.length oc, .int .i64 ((bg : Int) + 1), .int .i64 1] il hil (Tryd.isAgg51) TRe hils.symm rfl rfl rfl rfl ?_) | (refine wpList_stB 51 _ _ (w.heap.size + 1) 0 _ [.string s, .slice oa xs.length oc, .int .i64 ((bg : Int) + 1), .int .i64 1] il hil T8e hils.symm (by simp) rfl rfl rfl rfl rfl ?_; rw [hVF]) | go_in)
    exact bodyPost_ret (res_B2 rfl _ _ (w.heap.size + 1) [.string s, .slice oa xs.length oc, .int .i64 ((bg : Int) + 1), .int .i64 1] (.int .i64 a) il hil (Tryd.isAgg51) TF hils.symm rfl rfl) rfl ⟨(oa, oc, xs), by rw [HV.out]; rfl, by rw [HV.out], RF, gr_below (World.grownBy.refl w _) BF, Or.inl rfl, fun _ _ h => h, hap⟩
  have c1 : ¬ (en : Int) ≤ (a : Int) := by omega
  have has : a < s.size := by omega
  have r0 := TR1.at 0 rfl
  have ew := by_wrap has
  have et := tg_mod s a
  have KI := in_is (tgN s a) 1 100 U
  go_wp2_with fail
  try rw [ew]
  try rw [et]
  refine KI.mono ?_
  clear KI
  rintro ex ux ⟨rfl, rfl⟩
  generalize hbt : (decide (1 ≤ tgN s a) && decide (tgN s a ≤ 100)) = bt
  cases bt with
  | false =>
    have HV : Hid (stepN s (decide (deep < 8)) nd (rsT (oa, oc, xs)) bg a en = ((rsT (oa, oc, xs), bg + 1, 2), a)) := by show _ = _; unfold stepN; rw [if_neg h60, if_neg h1, if_pos hbt]
    have r3 := TR1.at 3 rfl
    have f3 := TR1.fz 3 rfl
    have TRe : Blk w.heap.size [.string s, .slice oa xs.length oc, .int .i64 ((bg : Int) + 1), .int .i64 2] (U.setCell ⟨w.heap.size, 3, none⟩ (.int .i64 2)) := TR1.set 3 _
    have T8e : Blk (w.heap.size + 1) [.string ⟨#[]⟩, .slice none 0 0, .int .i64 0, .int .i64 0] (U.setCell ⟨w.heap.size, 3, none⟩ (.int .i64 2)) := T81.far (by omega) 3 _
    obtain ⟨VF, hVF⟩ : ∃ Y, (U.setCell ⟨w.heap.size, 3, none⟩ (.int .i64 2)).setCells (w.heap.size + 1) 0 [.string s, .slice oa xs.length oc, .int .i64 ((bg : Int) + 1), .int .i64 2] = Y := ⟨_, rfl⟩
    have TF : Blk (w.heap.size + 1) [.string s, .slice oa xs.length oc, .int .i64 ((bg : Int) + 1), .int .i64 2] VF := by rw [← hVF]; exact T8e.sets _ rfl
    have BF : Below w.heap.size w VF := by rw [← hVF]; exact below_sets (by omega) _ _ _ (BU.setCell (Nat.le_refl _) _)
    have RF := RoT.later hr BF
    clear hr hok hnd TR1 T81 BU RO GR
    go_wp2_with (first | (refine wpList_ldB 51 _ w.heap.size 0 _ [.string s, .slice oa xs.length oc, .int .i64 ((bg : Int) + 1), .int .i64 2] il hil (Tryd.isAgg51) TRe hils.symm rfl rfl rfl rfl ?_) | (refine wpList_stB 51 _ _ (w.heap.size + 1) 0 _ [.string s, .slice oa xs.length oc, .int .i64 ((bg : Int) + 1), .int .i64 2] il hil T8e hils.symm (by simp) rfl rfl rfl rfl rfl ?_; rw [hVF]) | go_in)
    exact bodyPost_ret (res_B2 rfl _ _ (w.heap.size + 1) [.string s, .slice oa xs.length oc, .int .i64 ((bg : Int) + 1), .int .i64 2] (.int .i64 a) il hil (Tryd.isAgg51) TF hils.symm rfl rfl) rfl ⟨(oa, oc, xs), by rw [HV.out]; rfl, by rw [HV.out], RF, gr_below (World.grownBy.refl w _) BF, Or.inl rfl, fun _ _ h => h, hap⟩
  | true =>
    by_cases h8 : deep < 8
    rotate_left
    · have c8 : (8 : Int) ≤ (deep : Int) := by omega
      have HV : Hid (stepN s (decide (deep < 8)) nd (rsT (oa, oc, xs)) bg a en = ((rsT (oa, oc, xs), bg + 1, 3), a)) := by show _ = _; unfold stepN; rw [if_neg h60, if_neg h1, if_neg (by rw [hbt]; simp), if_pos (decide_eq_false h8)]
      have r3 := TR1.at 3 rfl
      have f3 := TR1.fz 3 rfl
      have TRe : Blk w.heap.size [.string s, .slice oa xs.length oc, .int .i64 ((bg : Int) + 1), .int .i64 3] (U.setCell ⟨w.heap.size, 3, none⟩ (.int .i64 3)) := TR1.set 3 _
      have T8e : Blk (w.heap.size + 1) [.string ⟨#[]⟩, .slice none 0 0, .int .i64 0, .int .i64 0] (U.setCell ⟨w.heap.size, 3, none⟩ (.int .i64 3)) := T81.far (by omega) 3 _
      obtain ⟨VF, hVF⟩ : ∃ Y, (U.setCell ⟨w.heap.size, 3, none⟩ (.int .i64 3)).setCells (w.heap.size + 1) 0 [.string s, .slice oa xs.length oc, .int .i64 ((bg : Int) + 1), .int .i64 3] = Y := ⟨_, rfl⟩
      have TF : Blk (w.heap.size + 1) [.string s, .slice oa xs.length oc, .int .i64 ((bg : Int) + 1), .int .i64 3] VF := by rw [← hVF]; exact T8e.sets _ rfl
      have BF : Below w.heap.size w VF := by rw [← hVF]; exact below_sets (by omega) _ _ _ (BU.setCell (Nat.le_refl _) _)
      have RF := RoT.later hr BF
      clear hr hok hnd TR1 T81 BU RO GR
      go_wp2_with (first | (refine wpList_ldB 51 _ w.heap.size 0 _ [.string s, .slice oa xs.length oc, .int .i64 ((bg : Int) + 1), .int .i64 3] il hil (Tryd.isAgg51) TRe hils.symm rfl rfl rfl rfl ?_) | (refine wpList_stB 51 _ _ (w.heap.size + 1) 0 _ [.string s, .slice oa xs.length oc, .int .i64 ((bg : Int) + 1), .int .i64 3] il hil T8e hils.symm (by simp) rfl rfl rfl rfl rfl ?_; rw [hVF]) | go_in)
      exact bodyPost_ret (res_B2 rfl _ _ (w.heap.size + 1) [.string s, .slice oa xs.length oc, .int .i64 ((bg : Int) + 1), .int .i64 3] (.int .i64 a) il hil (Tryd.isAgg51) TF hils.symm rfl rfl) rfl ⟨(oa, oc, xs), by rw [HV.out]; rfl, by rw [HV.out], RF, gr_below (World.grownBy.refl w _) BF, Or.inl rfl, fun _ _ h => h, hap⟩
    have c8 : ¬ (8 : Int) ≤ (deep : Int) := by omega
    have hsz : (s.extract (a + 1) en).size ≤ 1048576 := by rw [ByteArray.size_extract]; omega
    have KV := spec_rv (s.extract (a + 1) en) U hsz
    have sl1 : a + 1 ≤ en := by omega
    have r0 := TR1.at 0 rfl
    go_wp2_with fail
    refine KV.mono ?_
    clear KV
    rintro ex u1 ⟨n, k, rfl, hA, hbu⟩
    have hrv := rv_of hA
    have hkl := ans_k hA
    rw [ByteArray.size_extract] at hkl
    have hln : lnN s a en = n := by unfold lnN; rw [hrv]
    have hvr : vrN s a en = k := by unfold vrN; rw [hrv]
    replace TR1 := TR1.later hbu TR1.lt
    replace T81 := T81.later hbu T81.lt
    replace BU := BU.trans (hbu.mono BU.size)
    clear hbu hA hrv hU TR T8 BV RO GR r2 f2
    by_cases hk0 : k = 0
    · subst hk0
      have HV : Hid (stepN s (decide (deep < 8)) nd (rsT (oa, oc, xs)) bg a en = ((rsT (oa, oc, xs), bg + 1, 1), a)) := by show _ = _; unfold stepN; rw [if_neg h60, if_neg h1, if_neg (by rw [hbt]; simp), if_neg (by rw [decide_eq_true h8]; simp), if_pos (Or.inl hvr)]
      have r3 := TR1.at 3 rfl
      have f3 := TR1.fz 3 rfl
      have TRe : Blk w.heap.size [.string s, .slice oa xs.length oc, .int .i64 ((bg : Int) + 1), .int .i64 1] (u1.setCell ⟨w.heap.size, 3, none⟩ (.int .i64 1)) := TR1.set 3 _
      have T8e : Blk (w.heap.size + 1) [.string ⟨#[]⟩, .slice none 0 0, .int .i64 0, .int .i64 0] (u1.setCell ⟨w.heap.size, 3, none⟩ (.int .i64 1)) := T81.far (by omega) 3 _
      obtain ⟨VF, hVF⟩ : ∃ Y, (u1.setCell ⟨w.heap.size, 3, none⟩ (.int .i64 1)).setCells (w.heap.size + 1) 0 [.string s, .slice oa xs.length oc, .int .i64 ((bg : Int) + 1), .int .i64 1] = Y := ⟨_, rfl⟩
      have TF : Blk (w.heap.size + 1) [.string s, .slice oa xs.length oc, .int .i64 ((bg : Int) + 1), .int .i64 1] VF := by rw [← hVF]; exact T8e.sets _ rfl
      have BF : Below w.heap.size w VF := by rw [← hVF]; exact below_sets (by omega) _ _ _ (BU.setCell (Nat.le_refl _) _)
      have RF := RoT.later hr BF
      clear hr hok hnd TR1 T81 BU
      go_wp2_with (first | (refine wpList_ldB 51 _ w.heap.size 0 _ [.string s, .slice oa xs.length oc, .int .i64 ((bg : Int) + 1), .int .i64 1] il hil (Tryd.isAgg51) TRe hils.symm rfl rfl rfl rfl ?_) | (refine wpList_stB 51 _ _ (w.heap.size + 1) 0 _ [.string s, .slice oa xs.length oc, .int .i64 ((bg : Int) + 1), .int .i64 1] il hil T8e hils.symm (by simp) rfl rfl rfl rfl rfl ?_; rw [hVF]) | go_in)
      exact bodyPost_ret (res_B2 rfl _ _ (w.heap.size + 1) [.string s, .slice oa xs.length oc, .int .i64 ((bg : Int) + 1), .int .i64 1] (.int .i64 a) il hil (Tryd.isAgg51) TF hils.symm rfl rfl) rfl ⟨(oa, oc, xs), by rw [HV.out]; rfl, by rw [HV.out], RF, gr_below (World.grownBy.refl w _) BF, Or.inl rfl, fun _ _ h => h, hap⟩
    have ck0 : ((k : Int) == 0) = false := by rw [beq_eq_false_iff_ne]; omega
    by_cases hn : en < a + 1 + k + n
    · have cn : (en : Int) - ((a : Int) + 1 + (k : Int)) < (n : Int) := by omega
      have HV : Hid (stepN s (decide (deep < 8)) nd (rsT (oa, oc, xs)) bg a en = ((rsT (oa, oc, xs), bg + 1, 1), a)) := by show _ = _; unfold stepN; rw [if_neg h60, if_neg h1, if_neg (by rw [hbt]; simp), if_neg (by rw [decide_eq_true h8]; simp), if_pos (Or.inr (by rw [hvr, hln]; exact hn))]
      have r3 := TR1.at 3 rfl
      have f3 := TR1.fz 3 rfl
      have TRe : Blk w.heap.size [.string s, .slice oa xs.length oc, .int .i64 ((bg : Int) + 1), .int .i64 1] (u1.setCell ⟨w.heap.size, 3, none⟩ (.int .i64 1)) := TR1.set 3 _
      have T8e : Blk (w.heap.size + 1) [.string ⟨#[]⟩, .slice none 0 0, .int .i64 0, .int .i64 0] (u1.setCell ⟨w.heap.size, 3, none⟩ (.int .i64 1)) := T81.far (by omega) 3 _
      obtain ⟨VF, hVF⟩ : ∃ Y, (u1.setCell ⟨w.heap.size, 3, none⟩ (.int .i64 1)).setCells (w.heap.size + 1) 0 [.string s, .slice oa xs.length oc, .int .i64 ((bg : Int) + 1), .int .i64 1] = Y := ⟨_, rfl⟩
      have TF : Blk (w.heap.size + 1) [.string s, .slice oa xs.length oc, .int .i64 ((bg : Int) + 1), .int .i64 1] VF := by rw [← hVF]; exact T8e.sets _ rfl
      have BF : Below w.heap.size w VF := by rw [← hVF]; exact below_sets (by omega) _ _ _ (BU.setCell (Nat.le_refl _) _)
      have RF := RoT.later hr BF
      clear hr hok hnd TR1 T81 BU
      go_wp2_with (first | (refine wpList_ldB 51 _ w.heap.size 0 _ [.string s, .slice oa xs.length oc, .int .i64 ((bg : Int) + 1), .int .i64 1] il hil (Tryd.isAgg51) TRe hils.symm rfl rfl rfl rfl ?_) | (refine wpList_stB 51 _ _ (w.heap.size + 1) 0 _ [.string s, .slice oa xs.length oc, .int .i64 ((bg : Int) + 1), .int .i64 1] il hil T8e hils.symm (by simp) rfl rfl rfl rfl rfl ?_; rw [hVF]) | go_in)
      exact bodyPost_ret (res_B2 rfl _ _ (w.heap.size + 1) [.string s, .slice oa xs.length oc, .int .i64 ((bg : Int) + 1), .int .i64 1] (.int .i64 a) il hil (Tryd.isAgg51) TF hils.symm rfl rfl) rfl ⟨(oa, oc, xs), by rw [HV.out]; rfl, by rw [HV.out], RF, gr_below (World.grownBy.refl w _) BF, Or.inl rfl, fun _ _ h => h, hap⟩
    have cn : ¬ (en : Int) - ((a : Int) + 1 + (k : Int)) < (n : Int) := by omega
    obtain ⟨it, hit, hits⟩ := info_T
    obtain ⟨X0, hX0⟩ : ∃ Y, u1.alloc (.cells #[.int .i64 0, .bool false, .string ⟨#[]⟩, .slice none 0 0] 61) = Y := ⟨_, rfl⟩
    have TX0 : Blk u1.heap.size [.int .i64 0, .bool false, .string ⟨#[]⟩, .slice none 0 0] X0 := by rw [← hX0]; exact Blk.new _ _ _
    have BX0 : Below u1.heap.size u1 X0 := by rw [← hX0]; exact (Below.refl _ _).alloc (Nat.le_refl _) _
    have hsu : w.heap.size + 1 < u1.heap.size := T81.lt
    by_cases hlf : ((at_ s a : Nat) : Int) < 128
    · have hlb : lfB s a = true := decide_eq_true hlf
      obtain ⟨X, hX⟩ : ∃ Y, X0.setCells u1.heap.size 0 [.int .i64 (tgN s a), .bool true, .string ⟨#[]⟩, .slice none 0 0] = Y := ⟨_, rfl⟩
      have TX : Blk u1.heap.size [.int .i64 (tgN s a), .bool true, .string ⟨#[]⟩, .slice none 0 0] X := by rw [← hX]; exact TX0.sets _ rfl
      have BX : Below u1.heap.size u1 X := by rw [← hX]; exact below_sets (Nat.le_refl _) _ _ _ BX0
      have TR2 := TR1.later BX TR1.lt
      have T82 := T81.later BX T81.lt
      have r0 := TR2.at 0 rfl
      have x2 := TX.at 2 rfl
      have z2 := TX.fz 2 rfl
      obtain ⟨Y, hY⟩ : ∃ Y, X.setCell ⟨u1.heap.size, 2, none⟩ (.string (s.extract (a + 1 + k) (a + 1 + k + n))) = Y := ⟨_, rfl⟩
      have TY : Blk u1.heap.size [.int .i64 (tgN s a), .bool true, .string (s.extract (a + 1 + k) (a + 1 + k + n)), .slice none 0 0] Y := by rw [← hY]; exact TX.set 2 _
      have BY : Below u1.heap.size u1 Y := by rw [← hY]; exact BX.setCell (Nat.le_refl _) _
      have TR3 := TR1.later BY TR1.lt
      have T83 := T81.later BY T81.lt
      have q1 := TR3.at 1 rfl
      have sl2 : a + 1 + k ≤ a + 1 + k + n := by omega
      have sl3 : a + 1 + k + n ≤ s.size := by omega
      obtain ⟨YA, hYA⟩ : ∃ Z, Y.alloc (.cells #[.int .i64 (tgN s a), .bool true, .string (s.extract (a + 1 + k) (a + 1 + k + n)), .slice none 0 0] 61) = Z := ⟨_, rfl⟩
      have TA : Blk Y.heap.size [.int .i64 (tgN s a), .bool true, .string (s.extract (a + 1 + k) (a + 1 + k + n)), .slice none 0 0] YA := by rw [← hYA]; exact Blk.new _ _ _
      have BYA : Below Y.heap.size Y YA := by rw [← hYA]; exact (Below.refl _ _).alloc (Nat.le_refl _) _
      have BA : Below u1.heap.size u1 YA := BY.trans (BYA.mono BY.size)
      have BW : Below w.heap.size w YA := BU.trans (BA.mono BU.size)
      have ROA : RoT B YA (oa, oc, xs) := RoT.later hr BW
      have TRA := TR1.later BA TR1.lt
      have T8A := T81.later BA T81.lt
      obtain ⟨jt, hjt, hjz, hjs, hjb⟩ := parts_of info44
      have hxl := hl
      have hszA : w.heap.size + 1 < YA.heap.size := Nat.lt_of_lt_of_le hsu BA.size
      have hBA : B ≤ YA.heap.size := by omega
      have hobw : ∀ k, obT (oa, oc, xs) = some k → k < w.heap.size := fun k e => (World.ownsRow.lt hr.1 k e).2
      have HV : Hid (stepN s (decide (deep < 8)) nd (rsT (oa, oc, xs)) bg a en = ((rsT (oa, oc, xs) ++ [stT (tgN s a, true, s.extract (a + 1 + k) (a + 1 + k + n), (none, 0, []))], bg + 1, 0), a + 1 + k + n)) := by show _ = _; unfold stepN; rw [if_neg h60, if_neg h1, if_neg (by rw [hbt]; simp), if_neg (by rw [decide_eq_true h8]; simp), if_neg (by rw [hvr, hln]; omega), if_pos hlb, hvr, hln]; rfl
      have HVt := show Hid (_ = _) from (by have := HV.out; rw [decide_eq_true h8] at this; exact this)
      clear hok hnd hln hvr
      go_wp2_with (first | (refine wpList_stB 61 _ _ u1.heap.size 0 _ [.int .i64 (tgN s a), .bool true, .string ⟨#[]⟩, .slice none 0 0] it hit TX0 hits.symm (by simp) rfl rfl rfl rfl rfl ?_; rw [hX]) | (refine wpList_ldB 61 _ u1.heap.size 0 _ [.int .i64 (tgN s a), .bool true, .string (s.extract (a + 1 + k) (a + 1 + k + n)), .slice none 0 0] it hit (Tryd.isAgg61) TY hits.symm rfl rfl rfl rfl ?_) | (at_builtin; first | refine wpList_append_where _ rfl _ _ 24 rfl B 61 jt _ 4 56 Tryd.underlying24 hjt hjz hjs hjb rfl (by decide) _ _ _ rfl ROA.1 ⟨Y.heap.size, 0, none⟩ 1 1 [.int .i64 (tgN s a), .bool true, .string (s.extract (a + 1 + k) (a + 1 + k + n)), .slice none 0 0] rfl rfl (news_box TA) (fun u hu => by simp at hu; rcases hu with rfl | rfl | rfl | rfl <;> rfl) ?c3 ?c4 hBA (by decide) ?_ | (rw [hYA]; refine wpList_append_where _ rfl _ _ 24 rfl B 61 jt _ 4 56 Tryd.underlying24 hjt hjz hjs hjb rfl (by decide) _ _ _ rfl ROA.1 ⟨Y.heap.size, 0, none⟩ 1 1 [.int .i64 (tgN s a), .bool true, .string (s.extract (a + 1 + k) (a + 1 + k + n)), .slice none 0 0] rfl rfl (news_box TA) (fun u hu => by simp at hu; rcases hu with rfl | rfl | rfl | rfl <;> rfl) ?c3 ?c4 hBA (by decide) ?_)) | go_in)
      case c3 => unfold maxLen; omega
      case c4 => omega
      intro vA wA ownA hgA hwA
      obtain ⟨na, nc, rfl, _⟩ := own_shape ownA
      obtain ⟨RA, CA, OA⟩ := put_mem (x := (tgN s a, true, s.extract (a + 1 + k) (a + 1 + k + n), (none, 0, []))) ROA (World.ownsRow_nil _ _ _ _) ownA hgA hwA
      have hobn : ∀ j, obT (oa, oc, xs) = some j → j ≠ w.heap.size ∧ j ≠ w.heap.size + 1 := fun j e => by have := hobw j e; omega
      have offG : Off w.heap.size (oa, oc, xs) := off_ge hr (Nat.le_refl _)
      have offG8 : Off (w.heap.size + 1) (oa, oc, xs) := off_ge hr (by omega)
      have hkG : kbT (tgN s a, true, s.extract (a + 1 + k) (a + 1 + k + n), (none, 0, [])) ≠ some w.heap.size := fun e => by cases e
      have hkG8 : kbT (tgN s a, true, s.extract (a + 1 + k) (a + 1 + k + n), (none, 0, [])) ≠ some (w.heap.size + 1) := fun e => by cases e
      have GRA : w.grownBy YA (obT (oa, oc, xs)) := gr_below (World.grownBy.refl w _) BW
      have CUA : (Value.slice oa xs.length oc).ownBlock = obT (oa, oc, xs) ∨ ∀ j, (Value.slice oa xs.length oc).ownBlock = some j → w.heap.size ≤ j := Or.inl rfl
      have CUF : obT (na, nc, xs ++ [(tgN s a, true, s.extract (a + 1 + k) (a + 1 + k + n), (none, 0, []))]) = obT (oa, oc, xs) ∨ ∃ j, obT (na, nc, xs ++ [(tgN s a, true, s.extract (a + 1 + k) (a + 1 + k + n), (none, 0, []))]) = some j ∧ w.heap.size ≤ j := CA.imp id (fun e => ⟨_, e, by omega⟩)
      have OFF : ∀ g, g < w.heap.size → Off g (oa, oc, xs) → Off g (na, nc, xs ++ [(tgN s a, true, s.extract (a + 1 + k) (a + 1 + k + n), (none, 0, []))]) := fun g hg ho => OA g (by omega) ho (fun e => by cases e)
      have APF : ApT (na, nc, xs ++ [(tgN s a, true, s.extract (a + 1 + k) (a + 1 + k + n), (none, 0, []))]) := ap_put (r := (oa, oc, xs)) hap (fun j e => by cases e)
      have TRB := blk_kept TRA hgA (fun e => by have := hobn _ e.symm; omega) TRA.lt
      have T8B := blk_kept T8A hgA (fun e => by have := hobn _ e.symm; omega) T8A.lt
      have b1 := TRB.at 1 rfl
      have bz1 := TRB.fz 1 rfl
      have TRC : Blk w.heap.size [.string s, .slice na (xs.length + 1) nc, .int .i64 ((bg : Int) + 1), .int .i64 0] (wA.setCell ⟨w.heap.size, 1, none⟩ (.slice na (xs.length + 1) nc)) := TRB.set 1 _
      have T8C : Blk (w.heap.size + 1) [.string ⟨#[]⟩, .slice none 0 0, .int .i64 0, .int .i64 0] (wA.setCell ⟨w.heap.size, 1, none⟩ (.slice na (xs.length + 1) nc)) := T8B.far (by omega) 1 _
      obtain ⟨VF, hVF⟩ : ∃ Y, (wA.setCell ⟨w.heap.size, 1, none⟩ (.slice na (xs.length + 1) nc)).setCells (w.heap.size + 1) 0 [.string s, .slice na (xs.length + 1) nc, .int .i64 ((bg : Int) + 1), .int .i64 0] = Y := ⟨_, rfl⟩
      have TF : Blk (w.heap.size + 1) [.string s, .slice na (xs.length + 1) nc, .int .i64 ((bg : Int) + 1), .int .i64 0] VF := by rw [← hVF]; exact T8C.sets _ rfl
      have oG := OA w.heap.size (by omega) offG hkG
      have oG8 := OA (w.heap.size + 1) (by omega) offG8 hkG8
      have RF := (RA.off (set_grown wA w.heap.size 1 (.slice na (xs.length + 1) nc)) oG).off (sets_grown (w.heap.size + 1) [.string s, .slice na (xs.length + 1) nc, .int .i64 ((bg : Int) + 1), .int .i64 0] 0 _) oG8
      have GF := gr_trans (gr_trans (gr_trans GRA hgA CUA) (set_grown wA w.heap.size 1 (.slice na (xs.length + 1) nc)) (Or.inr (fun j e => by injection e with e; omega))) (sets_grown (w.heap.size + 1) [.string s, .slice na (xs.length + 1) nc, .int .i64 ((bg : Int) + 1), .int .i64 0] 0 _) (Or.inr (fun j e => by injection e with e; omega))
      rw [hVF] at RF GF
      go_wp2_with (first | (refine wpList_ldB 51 _ w.heap.size 0 _ [.string s, .slice na (xs.length + 1) nc, .int .i64 ((bg : Int) + 1), .int .i64 0] il hil (Tryd.isAgg51) TRC hils.symm rfl rfl rfl rfl ?_) | (refine wpList_stB 51 _ _ (w.heap.size + 1) 0 _ [.string s, .slice na (xs.length + 1) nc, .int .i64 ((bg : Int) + 1), .int .i64 0] il hil T8C hils.symm (by simp) rfl rfl rfl rfl rfl ?_; rw [hVF]) | go_in)
      exact bodyPost_ret (res_B2 rfl _ _ (w.heap.size + 1) [.string s, .slice na (xs.length + 1) nc, .int .i64 ((bg : Int) + 1), .int .i64 0] (.int .i64 ((a : Int) + 1 + k + n)) il hil (Tryd.isAgg51) TF hils.symm rfl rfl) rfl ⟨(na, nc, xs ++ [(tgN s a, true, s.extract (a + 1 + k) (a + 1 + k + n), (none, 0, []))]), by first | (rw [HV.out]; simp) | (rw [HVt.out]; simp), by first | (rw [HV.out]; simp [rsT]) | (rw [HVt.out]; simp [rsT]), RF, GF, CUF, OFF, APF⟩
    have hlb : lfB s a = false := decide_eq_false hlf
    have hld : decide (((at_ s a : Nat) : Int) < 128) = false := decide_eq_false hlf
    rw [hld]
    obtain ⟨X, hX⟩ : ∃ Y, X0.setCells u1.heap.size 0 [.int .i64 (tgN s a), .bool false, .string ⟨#[]⟩, .slice none 0 0] = Y := ⟨_, rfl⟩
    have TX : Blk u1.heap.size [.int .i64 (tgN s a), .bool false, .string ⟨#[]⟩, .slice none 0 0] X := by rw [← hX]; exact TX0.sets _ rfl
    have BX : Below u1.heap.size u1 X := by rw [← hX]; exact below_sets (Nat.le_refl _) _ _ _ BX0
    have BW : Below w.heap.size w X := BU.trans (BX.mono BU.size)
    have TR2 := TR1.later BX TR1.lt
    have T82 := T81.later BX T81.lt
    have hsX : u1.heap.size < X.heap.size := TX.lt
    have HST : Hid (stepN s (decide (deep < 8)) nd (rsT (oa, oc, xs)) bg a en = if (loopN nd n (rsT (oa, oc, xs)) (bg + 1) [] (a + 1 + k) (a + 1 + k + n)).1.2.2 = 0 then (((loopN nd n (rsT (oa, oc, xs)) (bg + 1) [] (a + 1 + k) (a + 1 + k + n)).1.1 ++ [(tgN s a, false, ⟨#[]⟩, (loopN nd n (rsT (oa, oc, xs)) (bg + 1) [] (a + 1 + k) (a + 1 + k + n)).2)], (loopN nd n (rsT (oa, oc, xs)) (bg + 1) [] (a + 1 + k) (a + 1 + k + n)).1.2.1, 0), a + 1 + k + n) else ((loopN nd n (rsT (oa, oc, xs)) (bg + 1) [] (a + 1 + k) (a + 1 + k + n)).1, a)) := by show _ = _; unfold stepN; rw [if_neg h60, if_neg h1, if_neg (by rw [hbt]; simp), if_neg (by rw [decide_eq_true h8]; simp), if_neg (by rw [hvr, hln]; omega), if_neg (by rw [hlb]; simp), hvr, hln]
    obtain ⟨R, hR⟩ : ∃ R, (loopN nd n (rsT (oa, oc, xs)) (bg + 1) [] (a + 1 + k) (a + 1 + k + n)) = R := ⟨_, rfl⟩
    rw [hR] at HST
    have HI : Hid (LpI s nd R B (oa, oc, xs) w u1.heap.size (tgN s a) (a + 1 + k + n) n (a + 1 + k) (oa, oc, xs) (bg + 1) (none, 0, []) X) := {
      fl := by omega
      fm := Nat.le_refl _
      eq := hR
      tr := TR2
      t8 := T82
      tx := TX
      ro := RoT.later hr BW
      ko := World.ownsRow_nil _ _ _ _
      gr := gr_below (World.grownBy.refl w _) BW
      cu := Or.inl rfl
      oG := off_ge hr (Nat.le_refl _)
      o8 := off_ge hr (Nat.le_succ _)
      oX := off_ge hr (Nat.le_of_lt (Nat.lt_of_le_of_lt (Nat.le_succ _) hsu))
      ok := fun j e => by cases e
      of := fun _ _ h => h
      ln := by dsimp only; omega
      bt := by omega
      ap := hap
      kl := Nat.zero_le _
      }
    clear hR TR1 T81 BU hbt ew et
    go_wp2_with (first | (refine wpList_stB 61 _ _ u1.heap.size 0 _ [.int .i64 (tgN s a), .bool false, .string ⟨#[]⟩, .slice none 0 0] it hit TX0 hits.symm (by simp) rfl rfl rfl rfl rfl ?_; rw [hX]) | go_in)
    clear TR2 T82 TX BX TX0 BX0 hX hX0
    go_loopw [14] (fun iv wr => ∃ (m fr : Nat) (q : Rw TT) (bq : Nat) (kr : Rw Int), iv = .int .i64 fr ∧ Hid (LpI s nd R B (oa, oc, xs) w u1.heap.size (tgN s a) (a + 1 + k + n) m fr q bq kr wr) ∧ u1.heap.size < wr.heap.size) (fun iv _ => a + 1 + k + n - (intOf iv).toNat)
    case atStart => exact ⟨n, a + 1 + k, (oa, oc, xs), bg + 1, (none, 0, []), by first | rfl | (congr 1; omega), HI, hsX⟩
    case round =>
      obtain ⟨m, fr, ⟨qa, qc, ys⟩, bq, ⟨ka, kc, ks⟩, rfl, hI, hgx⟩ := hrel
      have i_tr := hI.out.tr
      have i_t8 := hI.out.t8
      have i_tx := hI.out.tx
      have i_ro := hI.out.ro
      have i_ko := hI.out.ko
      have i_gr := hI.out.gr
      have i_cu := hI.out.cu
      have i_oG := hI.out.oG
      have i_o8 := hI.out.o8
      have i_oX := hI.out.oX
      have i_ok := hI.out.ok
      have i_of := hI.out.of
      have i_ln := hI.out.ln
      have i_bt := hI.out.bt
      have i_ap := hI.out.ap
      have i_kl := hI.out.kl
      have i_fl := hI.out.fl
      have i_fm := hI.out.fm
      have i_eq := hI.out.eq
      dsimp only at i_tr i_tx i_ln i_kl i_eq
      clear hI HI
      have hW : w.heap.size + 1 < wr.heap.size := i_t8.lt
      have hBw : B ≤ wr.heap.size := by omega
      have hto : ((a + 1 + k + n : Nat) : Int) = (a : Int) + 1 + k + n := by omega
      by_cases hlt : fr < a + 1 + k + n
      · have hltI : (fr : Int) < (a : Int) + 1 + k + n := by omega
        cases m with
        | zero => exfalso; omega
        | succ m =>
          unfold loopN at i_eq
          rw [if_pos hlt] at i_eq
          have KC := hnd h8 B (qa, qc, ys) bq fr (a + 1 + k + n) wr hBw i_ro i_ap (by dsimp only; omega) i_bt i_fl (by omega)
          have gN := hok h8 (rsT (qa, qc, ys)) bq fr (a + 1 + k + n) i_bt i_fl (by omega)
          generalize hN : nd (rsT (qa, qc, ys)) bq fr (a + 1 + k + n) = N1 at KC gN i_eq
          clear hN
          rw [hto] at KC
          go_wp2_with (first | (refine wpList_ldB 51 _ w.heap.size 0 _ [.string s, .slice qa ys.length qc, .int .i64 bq, .int .i64 0] il hil (Tryd.isAgg51) i_tr hils.symm rfl rfl rfl rfl ?_))
          refine KC.mono ?_
          clear KC
          rintro ex W1 ⟨⟨pa, pc, zs⟩, rfl, hz, ro1, gr1, cu1, of1, ap1⟩
          try dsimp only at hz
          have hzl : N1.1.1.length = zs.length := by rw [← hz]; simp [rsT]
          have tr1 := blk_kept i_tr gr1 (fun e => i_oG.1 e.symm) i_tr.lt
          have t81 := blk_kept i_t8 gr1 (fun e => i_o8.1 e.symm) i_t8.lt
          have tx1 := blk_kept i_tx gr1 (fun e => i_oX.1 e.symm) i_tx.lt
          have ko1 : RoI B W1 (ka, kc, ks) := World.ownsRow.kept i_ko gr1 (own_ne i_ko i_ro.1)
          have hs1 : wr.heap.size ≤ W1.heap.size := gr1.size
          have oG1 := of1 w.heap.size (by omega) i_oG
          have o81 := of1 (w.heap.size + 1) (by omega) i_o8
          have oX1 := of1 u1.heap.size hgx i_oX
          have ok1 : ∀ j, kB (ka, kc, ks) = some j → Off j (pa, pc, zs) ∧ w.heap.size + 1 < j ∧ j ≠ u1.heap.size := fun j e => ⟨of1 j (World.ownsRow.lt i_ko j e).2 (i_ok j e).1, (i_ok j e).2⟩
          have g1w := gr_trans i_gr gr1 (cu_of i_cu)
          have cuw : obT (pa, pc, zs) = obT (oa, oc, xs) ∨ ∃ j, obT (pa, pc, zs) = some j ∧ w.heap.size ≤ j := by
            rcases cu1 with e | ⟨j, e, hj⟩
            · rw [e]; exact i_cu
            · exact Or.inr ⟨j, e, by omega⟩
          have ofw : ∀ g, g < w.heap.size → Off g (oa, oc, xs) → Off g (pa, pc, zs) := fun g hg ho => of1 g (by omega) (i_of g hg ho)
          obtain ⟨W2, hW2⟩ : ∃ Y, W1.alloc (.cells #[.string ⟨#[]⟩, .slice none 0 0, .int .i64 0, .int .i64 0] 51) = Y := ⟨_, rfl⟩
          have ty2 : Blk W1.heap.size [.string ⟨#[]⟩, .slice none 0 0, .int .i64 0, .int .i64 0] W2 := by rw [← hW2]; exact Blk.new _ _ _
          have b2 : Below W1.heap.size W1 W2 := by rw [← hW2]; exact (Below.refl _ _).alloc (Nat.le_refl _) _
          obtain ⟨W3, hW3⟩ : ∃ Y, W2.setCells W1.heap.size 0 [.string s, .slice pa zs.length pc, .int .i64 N1.1.2.1, .int .i64 N1.1.2.2] = Y := ⟨_, rfl⟩
          have ty3 : Blk W1.heap.size [.string s, .slice pa zs.length pc, .int .i64 N1.1.2.1, .int .i64 N1.1.2.2] W3 := by rw [← hW3]; exact ty2.sets _ rfl
          have b3 : Below W1.heap.size W1 W3 := by rw [← hW3]; exact below_sets (Nat.le_refl _) _ _ _ b2
          have tr3 := tr1.later b3 tr1.lt
          obtain ⟨W4, hW4⟩ : ∃ Y, W3.setCells w.heap.size 0 [.string s, .slice pa zs.length pc, .int .i64 N1.1.2.1, .int .i64 N1.1.2.2] = Y := ⟨_, rfl⟩
          have tr4 : Blk w.heap.size [.string s, .slice pa zs.length pc, .int .i64 N1.1.2.1, .int .i64 N1.1.2.2] W4 := by rw [← hW4]; exact tr3.sets _ rfl
          have t84 : Blk (w.heap.size + 1) [.string ⟨#[]⟩, .slice none 0 0, .int .i64 0, .int .i64 0] W4 := by rw [← hW4]; exact Blk.farS (by omega) _ _ _ (t81.later b3 t81.lt)
          have tx4 := hW4 ▸ Blk.farS (q := w.heap.size) (by omega) [.string s, .slice pa zs.length pc, .int .i64 N1.1.2.1, .int .i64 N1.1.2.2] 0 W3 (tx1.later b3 tx1.lt)
          have ro4 : RoT B W4 (pa, pc, zs) := by rw [← hW4]; exact (RoT.later ro1 b3).off (sets_grown w.heap.size [.string s, .slice pa zs.length pc, .int .i64 N1.1.2.1, .int .i64 N1.1.2.2] 0 W3) oG1
          have ko4 : RoI B W4 (ka, kc, ks) := by rw [← hW4]; exact sets_far (RoI.later ko1 b3) _ _ (fun j e => by have := (ok1 j e).2.1; omega)
          have g4w : w.grownBy W4 (obT (oa, oc, xs)) := by rw [← hW4]; exact gr_trans (gr_below g1w b3) (sets_grown w.heap.size [.string s, .slice pa zs.length pc, .int .i64 N1.1.2.1, .int .i64 N1.1.2.2] 0 W3) (Or.inr (fun j e => by injection e with e; omega))
          have hs4 : W1.heap.size ≤ W4.heap.size := by rw [← hW4]; exact Nat.le_trans b3.size (sets_grown w.heap.size [.string s, .slice pa zs.length pc, .int .i64 N1.1.2.1, .int .i64 N1.1.2.2] 0 W3).size
          have e3 := tr4.at 3 rfl
          clear hnd hok i_tr i_t8 i_tx i_ro i_ko i_ok i_of tr1 t81 tx1 ko1 g1w b2
          by_cases hc : N1.1.2.2 = 0
          rotate_left
          · rw [if_neg hc] at i_eq
            obtain ⟨VF, hVF⟩ : ∃ Y, W4.setCells (w.heap.size + 1) 0 [.string s, .slice pa zs.length pc, .int .i64 N1.1.2.1, .int .i64 N1.1.2.2] = Y := ⟨_, rfl⟩
            have TF : Blk (w.heap.size + 1) [.string s, .slice pa zs.length pc, .int .i64 N1.1.2.1, .int .i64 N1.1.2.2] VF := by rw [← hVF]; exact t84.sets _ rfl
            have RF : RoT B VF (pa, pc, zs) := by rw [← hVF]; exact ro4.off (sets_grown (w.heap.size + 1) [.string s, .slice pa zs.length pc, .int .i64 N1.1.2.1, .int .i64 N1.1.2.2] 0 W4) o81
            have GF : w.grownBy VF (obT (oa, oc, xs)) := by rw [← hVF]; exact gr_trans g4w (sets_grown (w.heap.size + 1) [.string s, .slice pa zs.length pc, .int .i64 N1.1.2.1, .int .i64 N1.1.2.2] 0 W4) (Or.inr (fun j e => by injection e with e; omega))
            have HV : Hid (stepN s (decide (deep < 8)) nd (rsT (oa, oc, xs)) bg a en = (N1.1, a)) := by show _ = _; rw [HST.out, ← i_eq]; exact if_neg hc
            have HVt := show Hid (_ = _) from (by have := HV.out; rw [decide_eq_true h8] at this; exact this)
            clear HST i_eq
            go_wp2_with (first | (refine wpList_stB 51 _ _ W1.heap.size 0 _ [.string s, .slice pa zs.length pc, .int .i64 N1.1.2.1, .int .i64 N1.1.2.2] il hil ty2 hils.symm (by simp) rfl rfl rfl rfl rfl ?_; rw [hW3]) | (refine wpList_ldB 51 _ W1.heap.size 0 _ [.string s, .slice pa zs.length pc, .int .i64 N1.1.2.1, .int .i64 N1.1.2.2] il hil (Tryd.isAgg51) ty3 hils.symm rfl rfl rfl rfl ?_) | (refine wpList_stB 51 _ _ w.heap.size 0 _ [.string s, .slice pa zs.length pc, .int .i64 N1.1.2.1, .int .i64 N1.1.2.2] il hil tr3 hils.symm (by simp) rfl rfl rfl rfl rfl ?_; rw [hW4]) | (refine wpList_ldB 51 _ w.heap.size 0 _ [.string s, .slice pa zs.length pc, .int .i64 N1.1.2.1, .int .i64 N1.1.2.2] il hil (Tryd.isAgg51) tr4 hils.symm rfl rfl rfl rfl ?_) | (refine wpList_stB 51 _ _ (w.heap.size + 1) 0 _ [.string s, .slice pa zs.length pc, .int .i64 N1.1.2.1, .int .i64 N1.1.2.2] il hil t84 hils.symm (by simp) rfl rfl rfl rfl rfl ?_; rw [hVF]) | go_in)
            exact bodyPost_ret (res_B2 rfl _ _ (w.heap.size + 1) [.string s, .slice pa zs.length pc, .int .i64 N1.1.2.1, .int .i64 N1.1.2.2] (.int .i64 a) il hil (Tryd.isAgg51) TF hils.symm rfl rfl) rfl ⟨(pa, pc, zs), by first | (rw [HV.out]) | (rw [HVt.out]), by first | (rw [HV.out]; exact hz) | (rw [HVt.out]; exact hz), RF, GF, cuw, ofw, ap1⟩
          rw [if_pos hc, hzl, ← hz] at i_eq
          have gk := gN.ok hc
          have gz : 1 ≤ zs.length := by have := gk.2.2; omega
          have gr3 := gN.rel
          have gtop := gN.top
          rw [hzl] at gr3
          have gl2 : (rsT (qa, qc, ys)).length = ys.length := by simp [rsT]
          have hz60 : zs.length ≤ 60 := by omega
          have hzi : (1 : Int) ≤ (zs.length : Int) ∧ (zs.length : Int) ≤ 60 := by omega
          obtain ⟨W5, hW5⟩ : ∃ Y, W4.alloc (.cells #[.int .i64 ((zs.length : Int) - 1)] 3) = Y := ⟨_, rfl⟩
          have tk5 : Blk W4.heap.size [.int .i64 ((zs.length : Int) - 1)] W5 := by rw [← hW5]; exact Blk.new _ _ _
          have b5 : Below W4.heap.size W4 W5 := by rw [← hW5]; exact (Below.refl _ _).alloc (Nat.le_refl _) _
          have s5 : W4.heap.size < W5.heap.size := tk5.lt
          have tr5 := tr4.later b5 tr4.lt
          have t85 := t84.later b5 t84.lt
          have tx5 := tx4.later b5 tx4.lt
          have ro5 := RoT.later ro4 b5
          have ko5 : RoI B W5 (ka, kc, ks) := RoI.later ko4 b5
          have x3 := tx4.at 3 rfl
          have q1 := tr4.at 1 rfl
          obtain ⟨j3, hj3, hjz, hjs, hjb⟩ := parts_of info3
          have hB5 : B ≤ W5.heap.size := by omega
          have HC : Hid (N1.1.2.2 = 0) := hc
          have hcb : (N1.1.2.2 != 0) = false := by rw [hc]; rfl
          clear hc
          go_wp2_with (first | (refine wpList_stB 51 _ _ W1.heap.size 0 _ [.string s, .slice pa zs.length pc, .int .i64 N1.1.2.1, .int .i64 N1.1.2.2] il hil ty2 hils.symm (by simp) rfl rfl rfl rfl rfl ?_; rw [hW3]) | (refine wpList_ldB 51 _ W1.heap.size 0 _ [.string s, .slice pa zs.length pc, .int .i64 N1.1.2.1, .int .i64 N1.1.2.2] il hil (Tryd.isAgg51) ty3 hils.symm rfl rfl rfl rfl ?_) | (refine wpList_stB 51 _ _ w.heap.size 0 _ [.string s, .slice pa zs.length pc, .int .i64 N1.1.2.1, .int .i64 N1.1.2.2] il hil tr3 hils.symm (by simp) rfl rfl rfl rfl rfl ?_; rw [hW4]) | (refine wpList_ldB 51 _ w.heap.size 0 _ [.string s, .slice pa zs.length pc, .int .i64 N1.1.2.1, .int .i64 N1.1.2.2] il hil (Tryd.isAgg51) tr4 hils.symm rfl rfl rfl rfl ?_) | (at_builtin; first | refine wpList_append_where _ rfl _ _ 59 rfl B 3 j3 _ 1 8 Tryd.underlying59 hj3 hjz hjs hjb rfl (by decide) _ _ _ rfl ko5 ⟨W4.heap.size, 0, none⟩ 1 1 [.int .i64 ((zs.length : Int) - 1)] rfl rfl (news_box tk5) (fun u hu => by simp at hu; subst hu; rfl) ?c3 ?c4 hB5 (by decide) ?_ | (rw [hW5]; refine wpList_append_where _ rfl _ _ 59 rfl B 3 j3 _ 1 8 Tryd.underlying59 hj3 hjz hjs hjb rfl (by decide) _ _ _ rfl ko5 ⟨W4.heap.size, 0, none⟩ 1 1 [.int .i64 ((zs.length : Int) - 1)] rfl rfl (news_box tk5) (fun u hu => by simp at hu; subst hu; rfl) ?c3 ?c4 hB5 (by decide) ?_)) | go_in)
          case c3 => unfold maxLen; omega
          case c4 => omega
          intro vK wK ownK hgK hwK
          obtain ⟨na, nc, rfl, _⟩ := own_shape ownK
          try dsimp only at ownK hwK ⊢
          have rk : RoI B wK (na, nc, ks ++ [((zs.length : Int) - 1)]) := kput (kr := (ka, kc, ks)) ownK
          have hkb : kB (na, nc, ks ++ [((zs.length : Int) - 1)]) = (Value.slice na (ks.length + 1) nc).ownBlock := by unfold kB; dsimp only; rw [List.length_append, List.length_singleton]
          have ok6 : ∀ j, kB (na, nc, ks ++ [((zs.length : Int) - 1)]) = some j → Off j (pa, pc, zs) ∧ w.heap.size + 1 < j ∧ j ≠ u1.heap.size := fun j e => by
            rw [hkb] at e
            rcases hwK with h | h
            · exact ok1 j (h.symm.trans e)
            · have e2 := h.symm.trans e
              injection e2 with e2
              subst e2
              exact ⟨off_ge ro5 (Nat.le_refl _), by omega, by omega⟩
          have tr6 := blk_keptO tr5 hgK (fun j e => by have := (ok1 j e).2.1; omega) tr5.lt
          have t86 := blk_keptO t85 hgK (fun j e => by have := (ok1 j e).2.1; omega) t85.lt
          have tx6 := blk_keptO tx5 hgK (fun j e => (ok1 j e).2.2) tx5.lt
          have ro6 := ro5.offO hgK (fun j e => (ok1 j e).1)
          have g6w := gr_trans (gr_below g4w b5) hgK (Or.inr (fun j e => by have := (ok1 j e).2.1; omega))
          have y3 := tx6.at 3 rfl
          have yz := tx6.fz 3 rfl
          have tx7 := tx6.set 3 (.slice na (ks.length + 1) nc)
          have tr7 := tr6.far (g' := u1.heap.size) (by omega) 3 (.slice na (ks.length + 1) nc)
          have t87 := t86.far (g' := u1.heap.size) (by omega) 3 (.slice na (ks.length + 1) nc)
          have ro7 := ro6.off (set_grown wK u1.heap.size 3 (.slice na (ks.length + 1) nc)) oX1
          have rk7 := set_far (g := u1.heap.size) rk (.slice na (ks.length + 1) nc) 3 (fun j e => (ok6 j e).2.2)
          have g7w := gr_trans g6w (set_grown wK u1.heap.size 3 (.slice na (ks.length + 1) nc)) (Or.inr (fun j e => by injection e with e; omega))
          have s7 : u1.heap.size < (wK.setCell ⟨u1.heap.size, 3, none⟩ (.slice na (ks.length + 1) nc)).heap.size := tx7.lt
          rw [HC.out] at tr7
          obtain ⟨W7, hW7⟩ : ∃ Y, wK.setCell ⟨u1.heap.size, 3, none⟩ (.slice na (ks.length + 1) nc) = Y := ⟨_, rfl⟩
          rw [hW7] at tx7 tr7 t87 ro7 rk7 g7w s7
          have HJ : Hid (LpI s nd R B (oa, oc, xs) w u1.heap.size (tgN s a) (a + 1 + k + n) m N1.2 (pa, pc, zs) N1.1.2.1 (na, nc, ks ++ [((zs.length : Int) - 1)]) W7) := {
            fl := gk.2.1
            fm := by have := gk.1; omega
            eq := i_eq
            tr := tr7
            t8 := t87
            tx := by simpa [List.length_append] using tx7
            ro := ro7
            ko := rk7
            gr := g7w
            cu := cuw
            oG := oG1
            o8 := o81
            oX := oX1
            ok := ok6
            of := ofw
            ln := by dsimp only; omega
            bt := gtop
            ap := ap1
            kl := by have := gk.1; simp; omega
            }
          clear tx7 tr7 t87 ro7 rk7 g7w tr6 t86 tx6 ro6 g6w tr5 t85 tx5 ro5 ko5 tr4 t84 tx4 ro4 ko4 g4w rk ok6 ok1 ofw cuw oG1 o81 oX1 of1 ro1 gr1 i_eq HST hgK ownK hwK tk5 b5 tr3 ty2 ty3 b3 gN
          go_wp2
          have gk1 := gk.1
          exact ⟨⟨m, N1.2, _, _, _, rfl, HJ, s7⟩, by simp [intOf]; omega⟩
      · have hfe : fr = a + 1 + k + n := by omega
        have hltI : ¬ (fr : Int) < (a : Int) + 1 + k + n := by omega
        have hRe : R = ((rsT (qa, qc, ys), bq, 0), ks) := by
          rw [← i_eq]
          cases m with
          | zero => rfl
          | succ m => unfold loopN; rw [if_neg hlt]
        have HV : Hid (stepN s (decide (deep < 8)) nd (rsT (oa, oc, xs)) bg a en = ((rsT (qa, qc, ys) ++ [stT ((tgN s a, false, ⟨#[]⟩, (ka, kc, ks)) : TT)], bq, 0), a + 1 + k + n)) := by show _ = _; rw [HST.out, hRe]; rfl
        have HVt := show Hid (_ = _) from (by have := HV.out; rw [decide_eq_true h8] at this; exact this)
        obtain ⟨YA, hYA⟩ : ∃ Z, wr.alloc (.cells #[.int .i64 (tgN s a), .bool false, .string ⟨#[]⟩, .slice ka ks.length kc] 61) = Z := ⟨_, rfl⟩
        have TA : Blk wr.heap.size [.int .i64 (tgN s a), .bool false, .string ⟨#[]⟩, .slice ka ks.length kc] YA := by rw [← hYA]; exact Blk.new _ _ _
        have BYA : Below wr.heap.size wr YA := by rw [← hYA]; exact (Below.refl _ _).alloc (Nat.le_refl _) _
        have ROA := RoT.later i_ro BYA
        have KOA : RoI B YA (ka, kc, ks) := RoI.later i_ko BYA
        have TRA := i_tr.later BYA i_tr.lt
        have T8A := i_t8.later BYA i_t8.lt
        obtain ⟨jt, hjt, hjz, hjs, hjb⟩ := parts_of info44
        have sYA : wr.heap.size < YA.heap.size := TA.lt
        have hBA : B ≤ YA.heap.size := by omega
        have q1 := i_tr.at 1 rfl
        clear hnd hok HST i_eq hRe
        go_wp2_with (first | (refine wpList_ldB 61 _ u1.heap.size 0 _ [.int .i64 (tgN s a), .bool false, .string ⟨#[]⟩, .slice ka ks.length kc] it hit (Tryd.isAgg61) i_tx hits.symm rfl rfl rfl rfl ?_) | (at_builtin; first | refine wpList_append_where _ rfl _ _ 24 rfl B 61 jt _ 4 56 Tryd.underlying24 hjt hjz hjs hjb rfl (by decide) _ _ _ rfl ROA.1 ⟨wr.heap.size, 0, none⟩ 1 1 [.int .i64 (tgN s a), .bool false, .string ⟨#[]⟩, .slice ka ks.length kc] rfl rfl (news_box TA) (fun u hu => by simp at hu; rcases hu with rfl | rfl | rfl | rfl <;> rfl) ?c3 ?c4 hBA (by decide) ?_ | (rw [hYA]; refine wpList_append_where _ rfl _ _ 24 rfl B 61 jt _ 4 56 Tryd.underlying24 hjt hjz hjs hjb rfl (by decide) _ _ _ rfl ROA.1 ⟨wr.heap.size, 0, none⟩ 1 1 [.int .i64 (tgN s a), .bool false, .string ⟨#[]⟩, .slice ka ks.length kc] rfl rfl (news_box TA) (fun u hu => by simp at hu; rcases hu with rfl | rfl | rfl | rfl <;> rfl) ?c3 ?c4 hBA (by decide) ?_)) | go_in)
        case c3 => unfold maxLen; (try dsimp only); omega
        case c4 => (try dsimp only); omega
        intro vA wA ownA hgA hwA
        obtain ⟨na, nc, rfl, _⟩ := own_shape ownA
        try dsimp only at ownA hwA ⊢
        obtain ⟨RA, CA, OA⟩ := put_mem (x := ((tgN s a, false, ⟨#[]⟩, (ka, kc, ks)) : TT)) ROA KOA ownA hgA hwA
        dsimp only at RA CA OA
        have hobn : ∀ j, obT (qa, qc, ys) = some j → j ≠ w.heap.size ∧ j ≠ w.heap.size + 1 := fun j e => ⟨fun c => i_oG.1 (c ▸ e), fun c => i_o8.1 (c ▸ e)⟩
        have offG := i_oG
        have offG8 := i_o8
        have hkx : ∀ g, g ≤ w.heap.size + 1 → kbT ((tgN s a, false, ⟨#[]⟩, (ka, kc, ks)) : TT) ≠ some g := fun g hg e => by have := (i_ok g e).2.1; omega
        have hkG := hkx w.heap.size (by omega)
        have hkG8 := hkx (w.heap.size + 1) (Nat.le_refl _)
        have GRA := gr_below i_gr BYA
        have CUA := cu_of i_cu
        have CUF : obT (na, nc, ys ++ [((tgN s a, false, ⟨#[]⟩, (ka, kc, ks)) : TT)]) = obT (oa, oc, xs) ∨ ∃ j, obT (na, nc, ys ++ [((tgN s a, false, ⟨#[]⟩, (ka, kc, ks)) : TT)]) = some j ∧ w.heap.size ≤ j := by
          rcases CA with e | e
          · rw [e]; exact i_cu
          · exact Or.inr ⟨_, e, by omega⟩
        have OFF : ∀ g, g < w.heap.size → Off g (oa, oc, xs) → Off g (na, nc, ys ++ [((tgN s a, false, ⟨#[]⟩, (ka, kc, ks)) : TT)]) := fun g hg ho => OA g (by omega) (i_of g hg ho) (hkx g (by omega))
        have APF : ApT (na, nc, ys ++ [((tgN s a, false, ⟨#[]⟩, (ka, kc, ks)) : TT)]) := ap_put (r := (qa, qc, ys)) i_ap (fun j e => (i_ok j e).1.2)
        have TRB := blk_kept TRA hgA (fun e => by have := hobn _ e.symm; omega) TRA.lt
        have T8B := blk_kept T8A hgA (fun e => by have := hobn _ e.symm; omega) T8A.lt
        have b1 := TRB.at 1 rfl
        have bz1 := TRB.fz 1 rfl
        have TRC : Blk w.heap.size [.string s, .slice na (ys.length + 1) nc, .int .i64 bq, .int .i64 0] (wA.setCell ⟨w.heap.size, 1, none⟩ (.slice na (ys.length + 1) nc)) := TRB.set 1 _
        have T8C : Blk (w.heap.size + 1) [.string ⟨#[]⟩, .slice none 0 0, .int .i64 0, .int .i64 0] (wA.setCell ⟨w.heap.size, 1, none⟩ (.slice na (ys.length + 1) nc)) := T8B.far (by omega) 1 _
        obtain ⟨VF, hVF⟩ : ∃ Y, (wA.setCell ⟨w.heap.size, 1, none⟩ (.slice na (ys.length + 1) nc)).setCells (w.heap.size + 1) 0 [.string s, .slice na (ys.length + 1) nc, .int .i64 bq, .int .i64 0] = Y := ⟨_, rfl⟩
        have TF : Blk (w.heap.size + 1) [.string s, .slice na (ys.length + 1) nc, .int .i64 bq, .int .i64 0] VF := by rw [← hVF]; exact T8C.sets _ rfl
        have oG := OA w.heap.size (by omega) offG hkG
        have oG8 := OA (w.heap.size + 1) (by omega) offG8 hkG8
        have RF := (RA.off (set_grown wA w.heap.size 1 (.slice na (ys.length + 1) nc)) oG).off (sets_grown (w.heap.size + 1) [.string s, .slice na (ys.length + 1) nc, .int .i64 bq, .int .i64 0] 0 _) oG8
        have GF := gr_trans (gr_trans (gr_trans GRA hgA CUA) (set_grown wA w.heap.size 1 (.slice na (ys.length + 1) nc)) (Or.inr (fun j e => by injection e with e; omega))) (sets_grown (w.heap.size + 1) [.string s, .slice na (ys.length + 1) nc, .int .i64 bq, .int .i64 0] 0 _) (Or.inr (fun j e => by injection e with e; omega))
        rw [hVF] at RF GF
        go_wp2_with (first | (refine wpList_ldB 51 _ w.heap.size 0 _ [.string s, .slice na (ys.length + 1) nc, .int .i64 bq, .int .i64 0] il hil (Tryd.isAgg51) TRC hils.symm rfl rfl rfl rfl ?_) | (refine wpList_stB 51 _ _ (w.heap.size + 1) 0 _ [.string s, .slice na (ys.length + 1) nc, .int .i64 bq, .int .i64 0] il hil T8C hils.symm (by simp) rfl rfl rfl rfl rfl ?_; rw [hVF]) | go_in)
        exact bodyPost_ret (res_B2 rfl _ _ (w.heap.size + 1) [.string s, .slice na (ys.length + 1) nc, .int .i64 bq, .int .i64 0] (.int .i64 ((a : Int) + 1 + k + n)) il hil (Tryd.isAgg51) TF hils.symm rfl rfl) rfl ⟨(na, nc, ys ++ [((tgN s a, false, ⟨#[]⟩, (ka, kc, ks)) : TT)]), by first | (rw [HV.out]; simp) | (rw [HVt.out]; simp), by first | (rw [HV.out]; simp [rsT]) | (rw [HVt.out]; simp [rsT]), RF, GF, CUF, OFF, APF⟩
end Go.Proofs.YtengggpobhibcaaDoor.Nd
