/- The law on Caches that are right, walked. -/
import Derived.Test.YtmiceknaipimiaaSpecOk
set_option linter.unusedVariables false
namespace Go.Proofs.Ytmiceknaipimiaa
open Go Go.RowKit Go.Joins Own Draw

set_option maxRecDepth 100000 in
set_option maxHeartbeats 3200000 in
theorem law_cacheOk (q : Int) (a : Option Addr) (cap : Nat) (xs : List A3) (w : World) (hr : ARow w a xs) (hm : xs.length ≤ maxLen) : Calls Try.prog 4 #[cv q a xs.length cap] w fun e w' => e = .returned (.bool true) ∧ Below w.heap.size w w' := by
  by_cases hl : xs.length ≤ 1048576
  · have hz : szV xs.length 1048576 = ((1048576 - xs.length : Nat) : Int) := if_pos hl
    have hz2 : decide (((1048576 - xs.length : Nat) : Int) < 0) = false := decide_eq_false (by omega)
    generalize ((1048576 - xs.length : Nat) : Int) = left at hz hz2
    have b0 : Below w.heap.size w w := Below.refl _ _
    go_enter Try.func4, Try.ntmps4
    obtain ⟨V0_T0, hV0_T0⟩ : ∃ V, w.alloc (.cells #[.int .i64 q, .slice a xs.length cap] 38) = V := ⟨_, rfl⟩
    have aV0_T0 : Below w.heap.size w V0_T0 := by rw [← hV0_T0]; exact (Below.refl _ _).alloc (Nat.le_refl _) _
    have T0 : Blk w.heap.size [.int .i64 q, .slice a xs.length cap] V0_T0 := by rw [← hV0_T0]; exact Blk.new _ _ _
    replace b0 := b0.trans (aV0_T0.mono b0.size)
    clear aV0_T0
    have q_T0_0 := T0.at 0 rfl
    have q_T0_1 := T0.at 1 rfl
    have HX := szC_is q a xs.length cap V0_T0 hm
    go_wp2_with fail
    try rw [hV0_T0]
    refine HX.mono ?_
    clear HX q_T0_0 q_T0_1 hV0_T0 
    rintro e w1 ⟨rfl, hb1⟩
    replace T0 := T0.later hb1 T0.lt
    replace b0 := b0.trans (hb1.mono b0.size)
    clear hb1
    rw [hz]
    clear hz
    have q_T0_0 := T0.at 0 rfl
    have q_T0_1 := T0.at 1 rfl
    have HX := toC_is q a cap xs w1 (hr.later b0) hl
    go_wp2_with fail
    refine HX.mono ?_
    clear HX q_T0_0 q_T0_1
    rintro e w2 ⟨g2, rfl, o2, hb2⟩
    replace T0 := T0.later hb2 T0.lt
    replace b0 := b0.trans (hb2.mono b0.size)
    clear hb2
    have q_T0_0 := T0.at 0 rfl
    have q_T0_1 := T0.at 1 rfl
    have HX := specOk_is q (some ⟨g2, 0, none⟩) xs.length xs w2 o2.row hl (Nat.le_refl _)
    go_wp2_with fail
    refine HX.mono ?_
    clear HX q_T0_0 q_T0_1
    rintro e w3 ⟨rfl, hb3⟩
    replace T0 := T0.later hb3 T0.lt
    replace o2 := o2.later hb3
    replace b0 := b0.trans (hb3.mono b0.size)
    clear hb3
    have q_T0_0 := T0.at 0 rfl
    have q_T0_1 := T0.at 1 rfl
    have HX := toC_is q a cap xs w3 (hr.later b0) hl
    go_wp2_with fail
    refine HX.mono ?_
    clear HX q_T0_0 q_T0_1
    rintro e w4 ⟨g4, rfl, o4, hb4⟩
    replace T0 := T0.later hb4 T0.lt
    replace o2 := o2.later hb4
    replace b0 := b0.trans (hb4.mono b0.size)
    clear hb4
    obtain ⟨V4_T1, hV4_T1⟩ : ∃ V, w4.alloc (.cells #[.int .i64 q, .slice (some ⟨g4, 0, none⟩) xs.length xs.length] 26) = V := ⟨_, rfl⟩
    have aV4_T1 : Below w4.heap.size w4 V4_T1 := by rw [← hV4_T1]; exact (Below.refl _ _).alloc (Nat.le_refl _) _
    have T1 : Blk w4.heap.size [.int .i64 q, .slice (some ⟨g4, 0, none⟩) xs.length xs.length] V4_T1 := by rw [← hV4_T1]; exact Blk.new _ _ _
    replace T0 := T0.later aV4_T1 T0.lt
    replace o2 := o2.later aV4_T1
    replace o4 := o4.later aV4_T1
    replace b0 := b0.trans (aV4_T1.mono b0.size)
    clear aV4_T1
    have q_T0_0 := T0.at 0 rfl
    have q_T0_1 := T0.at 1 rfl
    have q_T1_0 := T1.at 0 rfl
    have q_T1_1 := T1.at 1 rfl
    have HX := implOk_is q (some ⟨g4, 0, none⟩) xs.length xs V4_T1 o4.row hl
    go_wp2_with fail
    try rw [hV4_T1]
    refine HX.mono ?_
    clear HX q_T0_0 q_T0_1 q_T1_0 q_T1_1 hV4_T1 
    rintro e w5 ⟨rfl, hb5⟩
    replace T0 := T0.later hb5 T0.lt
    replace T1 := T1.later hb5 T1.lt
    replace o2 := o2.later hb5
    replace o4 := o4.later hb5
    replace b0 := b0.trans (hb5.mono b0.size)
    clear hb5
    generalize cOk q xs = okk
    go_wp2_with fail
    refine wp_region_held_drew (S := (fun V : World => Blk w.heap.size [.int .i64 q, .slice a xs.length cap] V ∧ Blk w4.heap.size [.int .i64 q, .slice (some ⟨g4, 0, none⟩) xs.length xs.length] V)) (by kernel_rfl) ⟨T0.drew, T1.drew⟩ (fun hHeld => ?_)
    refine take_one 0 22 (v := ?_) rfl rfl (by kernel_rfl) (by kernel_rfl) (by kernel_rfl) (fun _ _ _ h => h) (Or.inl ⟨by rfl, ?_⟩) hHeld ?_
    rotate_left
    · intro w' hSw; (try dsimp only at hSw); have c0 := hSw.1.at 0 rfl; have c1 := hSw.1.at 1 rfl; have c2 := hSw.2.at 0 rfl; have c3 := hSw.2.at 1 rfl; go_simp; try with_reducible rfl
    try simp only [Act.put, List.setIfInBounds_toArray, List.set_cons_zero, List.set_cons_succ]
    refine take_one 1 23 (v := ?_) rfl rfl (by kernel_rfl) (by kernel_rfl) (by kernel_rfl) (fun _ _ _ h => h) (Or.inl ⟨by rfl, ?_⟩) hHeld ?_
    rotate_left
    · intro w' hSw; (try dsimp only at hSw); have c0 := hSw.1.at 0 rfl; have c1 := hSw.1.at 1 rfl; have c2 := hSw.2.at 0 rfl; have c3 := hSw.2.at 1 rfl; go_simp; try with_reducible rfl
    try simp only [Act.put, List.setIfInBounds_toArray, List.set_cons_zero, List.set_cons_succ]
    refine wpAnyH_ready (rs := [2]) (by kernel_rfl) (by simp) ?_
    refine AllReadyH.cons (i := 2) rfl (fun K hK => ?_) AllReadyH.nil
    go_simp
    refine (toC_is q a cap xs w5.drew ((hr.later b0).drew) hl).mono ?_
    rintro e wa ⟨ga, rfl, oa, hba⟩
    have hba2 := hba
    go_wp2_with fail
    refine hK.out _ _ ⟨T0.drew.later hba T0.lt, T1.drew.later hba T1.lt⟩ (fun hHeld2 => ?_)
    clear hK K hHeld
    have hHeld := hHeld2
    clear hHeld2
    try simp only [Act.put, List.setIfInBounds_toArray, List.set_cons_zero, List.set_cons_succ]
    refine wpAnyH_ready (rs := [3]) (by kernel_rfl) (by simp) ?_
    refine AllReadyH.cons (i := 3) rfl (fun K hK => ?_) AllReadyH.nil
    go_simp
    refine (eqC_is q (some ⟨g4, 0, none⟩) (some ⟨ga, 0, none⟩) xs.length xs.length xs wa (ARow.later (ARow.drew o4.row) hba) oa.row hl).mono ?_
    rintro e wb ⟨rfl, hbb⟩
    go_wp2_with fail
    refine hK.out _ _ ⟨(T0.drew.later hba T0.lt).later hbb (Nat.lt_of_lt_of_le T0.lt hba.size), (T1.drew.later hba T1.lt).later hbb (Nat.lt_of_lt_of_le T1.lt hba.size)⟩ (fun hHeld2 => ?_)
    clear hK K hHeld
    have hHeld := hHeld2
    clear hHeld2
    try simp only [Act.put, List.setIfInBounds_toArray, List.set_cons_zero, List.set_cons_succ]
    refine take_one 4 26 (v := ?_) rfl rfl (by kernel_rfl) (by kernel_rfl) (by kernel_rfl) (fun _ _ _ h => h) (Or.inl ⟨by rfl, ?_⟩) hHeld ?_
    rotate_left
    · intro w' hSw; (try dsimp only at hSw); have c0 := hSw.1.at 0 rfl; have c1 := hSw.1.at 1 rfl; have c2 := hSw.2.at 0 rfl; have c3 := hSw.2.at 1 rfl; go_simp; try with_reducible rfl
    try simp only [Act.put, List.setIfInBounds_toArray, List.set_cons_zero, List.set_cons_succ]
    refine wpAnyH_done (by kernel_rfl) ?_ _
    have bz := (b0.drew.trans (hba.mono b0.drew.size)).trans (hbb.mono (Nat.le_trans b0.drew.size hba.size))
    clear hHeld
    go_wp2
    go_ret
    exact ⟨rfl, bz⟩
  · have hz : szV xs.length 1048576 = -1 := if_neg hl
    have b0 : Below w.heap.size w w := Below.refl _ _
    go_enter Try.func4, Try.ntmps4
    obtain ⟨V0_T0, hV0_T0⟩ : ∃ V, w.alloc (.cells #[.int .i64 q, .slice a xs.length cap] 38) = V := ⟨_, rfl⟩
    have aV0_T0 : Below w.heap.size w V0_T0 := by rw [← hV0_T0]; exact (Below.refl _ _).alloc (Nat.le_refl _) _
    have T0 : Blk w.heap.size [.int .i64 q, .slice a xs.length cap] V0_T0 := by rw [← hV0_T0]; exact Blk.new _ _ _
    replace b0 := b0.trans (aV0_T0.mono b0.size)
    clear aV0_T0
    have q_T0_0 := T0.at 0 rfl
    have q_T0_1 := T0.at 1 rfl
    have HX := szC_is q a xs.length cap V0_T0 hm
    go_wp2_with fail
    try rw [hV0_T0]
    refine HX.mono ?_
    clear HX q_T0_0 q_T0_1 hV0_T0 
    rintro e w1 ⟨rfl, hb1⟩
    replace T0 := T0.later hb1 T0.lt
    replace b0 := b0.trans (hb1.mono b0.size)
    clear hb1
    rw [hz]
    clear hz
    go_wp2
    go_ret
    exact ⟨rfl, b0⟩
end Go.Proofs.Ytmiceknaipimiaa
