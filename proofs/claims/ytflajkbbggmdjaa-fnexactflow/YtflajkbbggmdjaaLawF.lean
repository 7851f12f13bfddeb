/- The law on Flow. -/
import Derived.Test.YtflajkbbggmdjaaLwC
import Derived.Test.YtflajkbbggmdjaaFw4
import Derived.Test.YtflajkbbggmdjaaRe1
import Derived.Test.YtflajkbbggmdjaaRe5
import Derived.Test.YtflajkbbggmdjaaRe6
set_option linter.unusedVariables false
set_option maxRecDepth 100000
namespace Go.Proofs.Ytflajkbbggmdjaa.Nd
open Go Go.RowKit Go.Joins Own Draw

theorem fl_st {y d : TF} (h : stF y = stF d) (p s : Int) (t : TR) (q : Int) : flowL (cfOf y) p s t q = flowL (cfOf d) p s t q := flow_same (same_st h) p s t q
set_option maxRecDepth 100000 in
set_option maxHeartbeats 12800000 in
theorem law_flow (d : TF) (p s : Int) (t : TR) (q : Int) (w : World) (hd : DpF w d) (hlm : LmF d) :
    Calls Try.prog 4 #[vF d, .int .i64 p, .int .i64 s, vR t, .int .i64 q] w fun en w' => en = .returned (.bool true) ∧ Below w.heap.size w w' := by
  obtain ⟨t0, t1, t2⟩ := t
  obtain ⟨ie, hie, his⟩ := info_F
  obtain ⟨V0, hV0⟩ : ∃ V, w.alloc (.cells #[.slice d.1.1 d.1.2.2.length d.1.2.1, .slice d.2.1.1 d.2.1.2.2.length d.2.1.2.1, .slice d.2.2.1.1 d.2.2.1.2.2.length d.2.2.1.2.1, .slice d.2.2.2.1.1 d.2.2.2.1.2.2.length d.2.2.2.1.2.1, .int .i64 d.2.2.2.2] 25) = V := ⟨_, rfl⟩
  have TA : Blk w.heap.size [.slice d.1.1 d.1.2.2.length d.1.2.1, .slice d.2.1.1 d.2.1.2.2.length d.2.1.2.1, .slice d.2.2.1.1 d.2.2.1.2.2.length d.2.2.1.2.1, .slice d.2.2.2.1.1 d.2.2.2.1.2.2.length d.2.2.2.1.2.1, .int .i64 d.2.2.2.2] V0 := by rw [← hV0]; exact Blk.new _ _ _
  have b0 : Below w.heap.size w V0 := by rw [← hV0]; exact (Below.refl _ _).alloc (Nat.le_refl _) _
  have Z0 : V0.heap.size = w.heap.size + 1 := by rw [← hV0]; simp
  obtain ⟨V, hV⟩ : ∃ V, V0.alloc (.cells #[.int .i64 t0, .int .i64 t1, .int .i64 t2] 35) = V := ⟨_, rfl⟩
  have TR : Blk (w.heap.size + 1) [.int .i64 t0, .int .i64 t1, .int .i64 t2] V := by rw [← hV, ← Z0]; exact Blk.new _ _ _
  replace TA : Blk w.heap.size [.slice d.1.1 d.1.2.2.length d.1.2.1, .slice d.2.1.1 d.2.1.2.2.length d.2.1.2.1, .slice d.2.2.1.1 d.2.2.1.2.2.length d.2.2.1.2.1, .slice d.2.2.2.1.1 d.2.2.2.1.2.2.length d.2.2.2.1.2.1, .int .i64 d.2.2.2.2] V := by rw [← hV]; exact TA.alloc (by omega) _
  replace b0 : Below w.heap.size w V := by rw [← hV]; exact b0.alloc b0.size _
  go_enter Try.func4, Try.ntmps4
  have K := szF_is d 1048576 V (by omega) (hd.later b0) hlm
  have cA0 := TA.at 0 rfl
  have cA1 := TA.at 1 rfl
  have cA2 := TA.at 2 rfl
  have cA3 := TA.at 3 rfl
  have cA4 := TA.at 4 rfl
  go_wp2_with fail
  try rw [hV0]
  try rw [hV]
  refine K.mono ?_
  clear K hV hV0 Z0
  clear cA0 cA1 cA2 cA3 cA4
  rintro en v1 ⟨rfl, hb⟩
  replace TA := TA.later hb TA.lt
  replace TR := TR.later hb TR.lt
  replace b0 := b0.trans (hb.mono b0.size)
  clear hb
  by_cases hz : totF d ≤ 1048576
  · rw [show szV (totF d) 1048576 = ((1048576 - totF d : Nat) : Int) from if_pos hz]
    have nz : ¬ (((1048576 - totF d : Nat) : Int) < 0) := by omega
    have bD : Below w.heap.size w v1.drew := b0.drew
    have lTA : w.heap.size < v1.drew.heap.size := TA.lt
    have lTR : w.heap.size + 1 < v1.drew.heap.size := TR.lt
    go_wp2_with fail
    refine wp_region_held_drew (S := (fun U : World => Blk (w.heap.size) [.slice d.1.1 d.1.2.2.length d.1.2.1, .slice d.2.1.1 d.2.1.2.2.length d.2.1.2.1, .slice d.2.2.1.1 d.2.2.1.2.2.length d.2.2.1.2.1, .slice d.2.2.2.1.1 d.2.2.2.1.2.2.length d.2.2.2.1.2.1, .int .i64 d.2.2.2.2] U ∧ Blk (w.heap.size + 1) [.int .i64 t0, .int .i64 t1, .int .i64 t2] U)) (by kernel_rfl) ⟨TA.drew, TR.drew⟩ (fun hHeld => ?_)
    refine take_one 0 24 (v := .agg #[.slice d.1.1 d.1.2.2.length d.1.2.1, .slice d.2.1.1 d.2.1.2.2.length d.2.1.2.1, .slice d.2.2.1.1 d.2.2.1.2.2.length d.2.2.1.2.1, .slice d.2.2.2.1.1 d.2.2.2.1.2.2.length d.2.2.2.1.2.1, .int .i64 d.2.2.2.2]) rfl rfl (by kernel_rfl) (by kernel_rfl) (by kernel_rfl) (fun _ _ _ h => h) (Or.inl ⟨by rfl, ?_⟩) hHeld ?_
    · intro w' hSw; (try dsimp only at hSw); obtain ⟨z0, z1⟩ := hSw; have c0 := z0.at 0 rfl; have c1 := z0.at 1 rfl; have c2 := z0.at 2 rfl; have c3 := z0.at 3 rfl; have c4 := z0.at 4 rfl; go_simp; try with_reducible rfl
    try simp only [Act.put, List.setIfInBounds_toArray, List.set_cons_zero, List.set_cons_succ]
    refine take_one 4 28 (v := .agg #[.int .i64 t0, .int .i64 t1, .int .i64 t2]) rfl rfl (by kernel_rfl) (by kernel_rfl) (by kernel_rfl) (fun _ _ _ h => h) (Or.inl ⟨by rfl, ?_⟩) hHeld ?_
    · intro w' hSw; (try dsimp only at hSw); obtain ⟨z0, z1⟩ := hSw; have c0 := z1.at 0 rfl; have c1 := z1.at 1 rfl; have c2 := z1.at 2 rfl; go_simp; try with_reducible rfl
    try simp only [Act.put, List.setIfInBounds_toArray, List.set_cons_zero, List.set_cons_succ]
    refine take_one 2 26 (v := ?_) rfl rfl (by kernel_rfl) (by kernel_rfl) (by kernel_rfl) (fun _ _ _ h => h) (Or.inl ⟨by rfl, ?_⟩) hHeld ?_
    rotate_left
    · intro w' hSw; (try dsimp only at hSw); go_simp; try with_reducible rfl
    try simp only [Act.put, List.setIfInBounds_toArray, List.set_cons_zero, List.set_cons_succ]
    refine take_one 3 27 (v := ?_) rfl rfl (by kernel_rfl) (by kernel_rfl) (by kernel_rfl) (fun _ _ _ h => h) (Or.inl ⟨by rfl, ?_⟩) hHeld ?_
    rotate_left
    · intro w' hSw; (try dsimp only at hSw); go_simp; try with_reducible rfl
    try simp only [Act.put, List.setIfInBounds_toArray, List.set_cons_zero, List.set_cons_succ]
    refine take_one 6 30 (v := ?_) rfl rfl (by kernel_rfl) (by kernel_rfl) (by kernel_rfl) (fun _ _ _ h => h) (Or.inl ⟨by rfl, ?_⟩) hHeld ?_
    rotate_left
    · intro w' hSw; (try dsimp only at hSw); go_simp; try with_reducible rfl
    try simp only [Act.put, List.setIfInBounds_toArray, List.set_cons_zero, List.set_cons_succ]
    have K5 := toF_is d v1.drew (hd.later bD) hz
    refine wpAnyH_ready (rs := [1]) (by kernel_rfl) (by simp) ?_
    refine AllReadyH.cons (i := 1) rfl (fun K hK => ?_) AllReadyH.nil
    go_simp
    refine K5.mono ?_
    rintro en u1 ⟨y1, rfl, s1, o1, hb1⟩
    clear K5
    have Dhb1 := hb1
    replace bD := bD.trans (hb1.mono bD.size)
    go_wp2_with fail
    refine hK.out _ _ ⟨TA.drew.later Dhb1 lTA, TR.drew.later Dhb1 lTR⟩ (fun hHeld2 => ?_)
    clear hK K hHeld
    have hHeld := hHeld2
    clear hHeld2
    try simp only [Act.put, List.setIfInBounds_toArray, List.set_cons_zero, List.set_cons_succ]
    have K5 := toR_is t0 t1 t2 u1
    refine wpAnyH_ready (rs := [5]) (by kernel_rfl) (by simp) ?_
    refine AllReadyH.cons (i := 5) rfl (fun K hK => ?_) AllReadyH.nil
    go_simp
    refine K5.mono ?_
    rintro en u2 ⟨rfl, hb2⟩
    clear K5
    have Dhb2 := Dhb1.trans (hb2.mono Dhb1.size)
    replace bD := bD.trans (hb2.mono bD.size)
    replace o1 := o1.later hb2
    go_wp2_with fail
    refine hK.out _ _ ⟨TA.drew.later Dhb2 lTA, TR.drew.later Dhb2 lTR⟩ (fun hHeld2 => ?_)
    clear hK K hHeld
    have hHeld := hHeld2
    clear hHeld2
    try simp only [Act.put, List.setIfInBounds_toArray, List.set_cons_zero, List.set_cons_succ]
    have K5 := specFlow_is (cfOf y1) p s (t0, t1, t2) q u2 (cf_at o1) (cf_ok o1 (by rw [tot_st s1]; exact hz))
    rw [fl_st s1] at K5
    refine wpAnyH_ready (rs := [7]) (by kernel_rfl) (by simp) ?_
    refine AllReadyH.cons (i := 7) rfl (fun K hK => ?_) AllReadyH.nil
    go_simp
    refine K5.mono ?_
    rintro en u3 ⟨sa, sc, rfl, so, hb3⟩
    clear K5
    have Dhb3 := Dhb2.trans (hb3.mono Dhb2.size)
    replace bD := bD.trans (hb3.mono bD.size)
    have Su := hb3.size
    go_wp2_with fail
    refine hK.out _ _ ⟨TA.drew.later Dhb3 lTA, TR.drew.later Dhb3 lTR⟩ (fun hHeld2 => ?_)
    clear hK K hHeld
    have hHeld := hHeld2
    clear hHeld2
    try simp only [Act.put, List.setIfInBounds_toArray, List.set_cons_zero, List.set_cons_succ]
    refine take_one 8 12 (v := ?_) rfl rfl (by kernel_rfl) (by kernel_rfl) (by kernel_rfl) (fun _ _ _ h => h) (Or.inl ⟨by rfl, ?_⟩) hHeld ?_
    rotate_left
    · intro w' hSw; (try dsimp only at hSw); go_simp; try with_reducible rfl
    try simp only [Act.put, List.setIfInBounds_toArray, List.set_cons_zero, List.set_cons_succ]
    refine wpAnyH_done (by kernel_rfl) ?_ _
    have hb : Below v1.heap.size v1 u3 := (Below.refl _ v1).drew.trans Dhb3
    clear hHeld bD lTA lTR hb1 hb2 hb3 Dhb1 Dhb2 Dhb3
    clear Su
    replace TA := TA.later hb TA.lt
    replace TR := TR.later hb TR.lt
    replace b0 := b0.trans (hb.mono b0.size)
    clear hb
    clear nz
    have sl : ∀ k, (Value.slice sa (flowL (cfOf d) p s (t0, t1, t2) q).length sc).ownBlock = some k → k < u3.heap.size := fun k e => (World.ownsRow.lt so k e).2
    have hw2 := b0.size
    have qA := TA.lt
    have qR := TR.lt
    have K := toF_is d u3 (hd.later b0) hz
    have cA0 := TA.at 0 rfl
    have cA1 := TA.at 1 rfl
    have cA2 := TA.at 2 rfl
    have cA3 := TA.at 3 rfl
    have cA4 := TA.at 4 rfl
    go_wp2_with fail
    refine K.mono ?_
    clear K
    clear cA0 cA1 cA2 cA3 cA4
    rintro en v3 ⟨y2, rfl, s2, o2, hb⟩
    have o2t := ow_lt o2
    have qB := hb.size
    replace TA := TA.later hb TA.lt
    replace TR := TR.later hb TR.lt
    replace so := own_later so hb
    replace b0 := b0.trans (hb.mono b0.size)
    clear hb
    obtain ⟨X0, hX0⟩ : ∃ X, v3.alloc (.cells #[.slice none 0 0, .slice none 0 0, .slice none 0 0, .slice none 0 0, .int .i64 0] 30) = X := ⟨_, rfl⟩
    have R0 : Blk v3.heap.size [.slice none 0 0, .slice none 0 0, .slice none 0 0, .slice none 0 0, .int .i64 0] X0 := by rw [← hX0]; exact Blk.new _ _ _
    have bb0 : Below v3.heap.size v3 X0 := by rw [← hX0]; exact (Below.refl _ _).alloc (Nat.le_refl _) _
    obtain ⟨X1, hX1⟩ : ∃ X, X0.setCells v3.heap.size 0 [.slice y2.1.1 y2.1.2.2.length y2.1.2.1, .slice y2.2.1.1 y2.2.1.2.2.length y2.2.1.2.1, .slice y2.2.2.1.1 y2.2.2.1.2.2.length y2.2.2.1.2.1, .slice y2.2.2.2.1.1 y2.2.2.2.1.2.2.length y2.2.2.2.1.2.1, .int .i64 y2.2.2.2.2] = X := ⟨_, rfl⟩
    have TX : Blk v3.heap.size [.slice y2.1.1 y2.1.2.2.length y2.1.2.1, .slice y2.2.1.1 y2.2.1.2.2.length y2.2.1.2.1, .slice y2.2.2.1.1 y2.2.2.1.2.2.length y2.2.2.1.2.1, .slice y2.2.2.2.1.1 y2.2.2.2.1.2.2.length y2.2.2.2.1.2.1, .int .i64 y2.2.2.2.2] X1 := by rw [← hX1]; exact R0.sets _ rfl
    have hb : Below v3.heap.size v3 X1 := by rw [← hX1]; exact below_sets (Nat.le_refl _) _ _ _ bb0
    clear bb0
    replace TA := TA.later hb TA.lt
    replace TR := TR.later hb TR.lt
    replace so := own_later so hb
    replace o2 := o2.later hb
    replace b0 := b0.trans (hb.mono b0.size)
    clear hb
    have qX := TX.lt
    go_wp2_with (first | (refine wpList_stB 30 _ _ v3.heap.size 0 _ [.slice y2.1.1 y2.1.2.2.length y2.1.2.1, .slice y2.2.1.1 y2.2.1.2.2.length y2.2.1.2.1, .slice y2.2.2.1.1 y2.2.2.1.2.2.length y2.2.2.1.2.1, .slice y2.2.2.2.1.1 y2.2.2.2.1.2.2.length y2.2.2.2.1.2.1, .int .i64 y2.2.2.2.2] ie hie R0 his.symm (by simp) rfl rfl rfl rfl rfl ?_; rw [hX1]))
    clear R0 hX0 hX1
    have bD : Below w.heap.size w X1.drew := b0.drew
    have lTA : w.heap.size < X1.drew.heap.size := TA.lt
    have lTR : w.heap.size + 1 < X1.drew.heap.size := TR.lt
    have lTX : v3.heap.size < X1.drew.heap.size := TX.lt
    go_wp2_with fail
    refine wp_region_held_drew (S := (fun U : World => Blk (w.heap.size) [.slice d.1.1 d.1.2.2.length d.1.2.1, .slice d.2.1.1 d.2.1.2.2.length d.2.1.2.1, .slice d.2.2.1.1 d.2.2.1.2.2.length d.2.2.1.2.1, .slice d.2.2.2.1.1 d.2.2.2.1.2.2.length d.2.2.2.1.2.1, .int .i64 d.2.2.2.2] U ∧ Blk (w.heap.size + 1) [.int .i64 t0, .int .i64 t1, .int .i64 t2] U ∧ Blk (v3.heap.size) [.slice y2.1.1 y2.1.2.2.length y2.1.2.1, .slice y2.2.1.1 y2.2.1.2.2.length y2.2.1.2.1, .slice y2.2.2.1.1 y2.2.2.1.2.2.length y2.2.2.1.2.1, .slice y2.2.2.2.1.1 y2.2.2.2.1.2.2.length y2.2.2.2.1.2.1, .int .i64 y2.2.2.2.2] U)) (by kernel_rfl) ⟨TA.drew, TR.drew, TX.drew⟩ (fun hHeld => ?_)
    refine take_one 0 34 (v := .agg #[.slice y2.1.1 y2.1.2.2.length y2.1.2.1, .slice y2.2.1.1 y2.2.1.2.2.length y2.2.1.2.1, .slice y2.2.2.1.1 y2.2.2.1.2.2.length y2.2.2.1.2.1, .slice y2.2.2.2.1.1 y2.2.2.2.1.2.2.length y2.2.2.2.1.2.1, .int .i64 y2.2.2.2.2]) rfl rfl (by kernel_rfl) (by kernel_rfl) (by kernel_rfl) (fun _ _ _ h => h) (Or.inl ⟨by rfl, ?_⟩) hHeld ?_
    · intro w' hSw; (try dsimp only at hSw); obtain ⟨z0, z1, z2⟩ := hSw; have c0 := z2.at 0 rfl; have c1 := z2.at 1 rfl; have c2 := z2.at 2 rfl; have c3 := z2.at 3 rfl; have c4 := z2.at 4 rfl; go_simp; try with_reducible rfl
    try simp only [Act.put, List.setIfInBounds_toArray, List.set_cons_zero, List.set_cons_succ]
    refine take_one 3 37 (v := .agg #[.int .i64 t0, .int .i64 t1, .int .i64 t2]) rfl rfl (by kernel_rfl) (by kernel_rfl) (by kernel_rfl) (fun _ _ _ h => h) (Or.inl ⟨by rfl, ?_⟩) hHeld ?_
    · intro w' hSw; (try dsimp only at hSw); obtain ⟨z0, z1, z2⟩ := hSw; have c0 := z1.at 0 rfl; have c1 := z1.at 1 rfl; have c2 := z1.at 2 rfl; go_simp; try with_reducible rfl
    try simp only [Act.put, List.setIfInBounds_toArray, List.set_cons_zero, List.set_cons_succ]
    refine take_one 1 35 (v := ?_) rfl rfl (by kernel_rfl) (by kernel_rfl) (by kernel_rfl) (fun _ _ _ h => h) (Or.inl ⟨by rfl, ?_⟩) hHeld ?_
    rotate_left
    · intro w' hSw; (try dsimp only at hSw); go_simp; try with_reducible rfl
    try simp only [Act.put, List.setIfInBounds_toArray, List.set_cons_zero, List.set_cons_succ]
    refine take_one 2 36 (v := ?_) rfl rfl (by kernel_rfl) (by kernel_rfl) (by kernel_rfl) (fun _ _ _ h => h) (Or.inl ⟨by rfl, ?_⟩) hHeld ?_
    rotate_left
    · intro w' hSw; (try dsimp only at hSw); go_simp; try with_reducible rfl
    try simp only [Act.put, List.setIfInBounds_toArray, List.set_cons_zero, List.set_cons_succ]
    refine take_one 5 39 (v := ?_) rfl rfl (by kernel_rfl) (by kernel_rfl) (by kernel_rfl) (fun _ _ _ h => h) (Or.inl ⟨by rfl, ?_⟩) hHeld ?_
    rotate_left
    · intro w' hSw; (try dsimp only at hSw); go_simp; try with_reducible rfl
    try simp only [Act.put, List.setIfInBounds_toArray, List.set_cons_zero, List.set_cons_succ]
    have K5 := toR_is t0 t1 t2 X1.drew
    refine wpAnyH_ready (rs := [4]) (by kernel_rfl) (by simp) ?_
    refine AllReadyH.cons (i := 4) rfl (fun K hK => ?_) AllReadyH.nil
    go_simp
    refine K5.mono ?_
    rintro en u4 ⟨rfl, hb4⟩
    clear K5
    have Dhb4 := hb4
    replace bD := bD.trans (hb4.mono bD.size)
    have o2d := (o2.later (Below.refl _ X1).drew).later hb4
    go_wp2_with fail
    refine hK.out _ _ ⟨TA.drew.later Dhb4 lTA, TR.drew.later Dhb4 lTR, TX.drew.later Dhb4 lTX⟩ (fun hHeld2 => ?_)
    clear hK K hHeld
    have hHeld := hHeld2
    clear hHeld2
    try simp only [Act.put, List.setIfInBounds_toArray, List.set_cons_zero, List.set_cons_succ]
    have K5 := implFlow_is (cfOf y2) p s (t0, t1, t2) q u4 (cf_at o2d) (cf_ok o2d (by rw [tot_st s2]; exact hz))
    rw [fl_st s2] at K5
    refine wpAnyH_ready (rs := [6]) (by kernel_rfl) (by simp) ?_
    refine AllReadyH.cons (i := 6) rfl (fun K hK => ?_) AllReadyH.nil
    go_simp
    refine K5.mono ?_
    rintro en u5 ⟨ga, gc, rfl, go, hb5⟩
    clear K5
    have Dhb5 := Dhb4.trans (hb5.mono Dhb4.size)
    replace bD := bD.trans (hb5.mono bD.size)
    have hG := Dhb4.size
    go_wp2_with fail
    refine hK.out _ _ ⟨TA.drew.later Dhb5 lTA, TR.drew.later Dhb5 lTR, TX.drew.later Dhb5 lTX⟩ (fun hHeld2 => ?_)
    clear hK K hHeld
    have hHeld := hHeld2
    clear hHeld2
    try simp only [Act.put, List.setIfInBounds_toArray, List.set_cons_zero, List.set_cons_succ]
    refine take_one 7 14 (v := ?_) rfl rfl (by kernel_rfl) (by kernel_rfl) (by kernel_rfl) (fun _ _ _ h => h) (Or.inl ⟨by rfl, ?_⟩) hHeld ?_
    rotate_left
    · intro w' hSw; (try dsimp only at hSw); go_simp; try with_reducible rfl
    try simp only [Act.put, List.setIfInBounds_toArray, List.set_cons_zero, List.set_cons_succ]
    refine wpAnyH_done (by kernel_rfl) ?_ _
    have hb : Below X1.heap.size X1 u5 := (Below.refl _ X1).drew.trans Dhb5
    clear hHeld bD lTA lTR lTX hb4 hb5 Dhb4 Dhb5
    clear o2d
    replace TA := TA.later hb TA.lt
    replace TR := TR.later hb TR.lt
    replace TX := TX.later hb TX.lt
    replace so := own_later so hb
    replace o2 := o2.later hb
    replace b0 := b0.trans (hb.mono b0.size)
    clear hb
    have gl : ∀ k, (Value.slice ga (flowL (cfOf d) p s (t0, t1, t2) q).length gc).ownBlock = some k → v3.heap.size < k := fun k e => by have := (World.ownsRow.lt go k e).1; have : X1.drew.heap.size ≤ u4.heap.size := hG; have : X1.drew.heap.size = X1.heap.size := rfl; omega
    clear hG
    have hy : (flowL (cfOf d) p s (t0, t1, t2) q).length ≤ 14 := flowL_len _ _ _ _ _
    generalize hRe : flowL (cfOf d) p s (t0, t1, t2) q = R at so go sl gl hy
    have HR : Hid (flowL (cfOf d) p s (t0, t1, t2) q = R) := hRe
    clear hRe
    have hyA : R.length ≤ 1048576 := by omega
    have K := eqSA_is ga sa gc sc R u5 (FOwn.row lA go) (FOwn.row lA so) hyA
    go_wp2_with fail
    refine K.mono ?_
    clear K
    rintro en v5 ⟨rfl, hb⟩
    replace TA := TA.later hb TA.lt
    replace TR := TR.later hb TR.lt
    replace TX := TX.later hb TX.lt
    replace so := own_later so hb
    replace go := own_later go hb
    replace o2 := o2.later hb
    replace b0 := b0.trans (hb.mono b0.size)
    clear hb
    have bD : Below w.heap.size w v5.drew := b0.drew
    have lTA : w.heap.size < v5.drew.heap.size := TA.lt
    have lTX : v3.heap.size < v5.drew.heap.size := TX.lt
    go_wp2_with fail
    refine wp_region_held_drew (S := (fun U : World => Blk (w.heap.size) [.slice d.1.1 d.1.2.2.length d.1.2.1, .slice d.2.1.1 d.2.1.2.2.length d.2.1.2.1, .slice d.2.2.1.1 d.2.2.1.2.2.length d.2.2.1.2.1, .slice d.2.2.2.1.1 d.2.2.2.1.2.2.length d.2.2.2.1.2.1, .int .i64 d.2.2.2.2] U ∧ Blk (v3.heap.size) [.slice y2.1.1 y2.1.2.2.length y2.1.2.1, .slice y2.2.1.1 y2.2.1.2.2.length y2.2.1.2.1, .slice y2.2.2.1.1 y2.2.2.1.2.2.length y2.2.2.1.2.1, .slice y2.2.2.2.1.1 y2.2.2.2.1.2.2.length y2.2.2.2.1.2.1, .int .i64 y2.2.2.2.2] U)) (by kernel_rfl) ⟨TA.drew, TX.drew⟩ (fun hHeld => ?_)
    refine take_one 0 45 (v := .agg #[.slice y2.1.1 y2.1.2.2.length y2.1.2.1, .slice y2.2.1.1 y2.2.1.2.2.length y2.2.1.2.1, .slice y2.2.2.1.1 y2.2.2.1.2.2.length y2.2.2.1.2.1, .slice y2.2.2.2.1.1 y2.2.2.2.1.2.2.length y2.2.2.2.1.2.1, .int .i64 y2.2.2.2.2]) rfl rfl (by kernel_rfl) (by kernel_rfl) (by kernel_rfl) (fun _ _ _ h => h) (Or.inl ⟨by rfl, ?_⟩) hHeld ?_
    · intro w' hSw; (try dsimp only at hSw); obtain ⟨z0, z1⟩ := hSw; have c0 := z1.at 0 rfl; have c1 := z1.at 1 rfl; have c2 := z1.at 2 rfl; have c3 := z1.at 3 rfl; have c4 := z1.at 4 rfl; go_simp; try with_reducible rfl
    try simp only [Act.put, List.setIfInBounds_toArray, List.set_cons_zero, List.set_cons_succ]
    refine take_one 1 46 (v := .agg #[.slice d.1.1 d.1.2.2.length d.1.2.1, .slice d.2.1.1 d.2.1.2.2.length d.2.1.2.1, .slice d.2.2.1.1 d.2.2.1.2.2.length d.2.2.1.2.1, .slice d.2.2.2.1.1 d.2.2.2.1.2.2.length d.2.2.2.1.2.1, .int .i64 d.2.2.2.2]) rfl rfl (by kernel_rfl) (by kernel_rfl) (by kernel_rfl) (fun _ _ _ h => h) (Or.inl ⟨by rfl, ?_⟩) hHeld ?_
    · intro w' hSw; (try dsimp only at hSw); obtain ⟨z0, z1⟩ := hSw; have c0 := z0.at 0 rfl; have c1 := z0.at 1 rfl; have c2 := z0.at 2 rfl; have c3 := z0.at 3 rfl; have c4 := z0.at 4 rfl; go_simp; try with_reducible rfl
    try simp only [Act.put, List.setIfInBounds_toArray, List.set_cons_zero, List.set_cons_succ]
    have K5 := toF_is d v5.drew (hd.later bD) hz
    refine wpAnyH_ready (rs := [2]) (by kernel_rfl) (by simp) ?_
    refine AllReadyH.cons (i := 2) rfl (fun K hK => ?_) AllReadyH.nil
    go_simp
    refine K5.mono ?_
    rintro en u6 ⟨y3, rfl, s3, o3, hb6⟩
    clear K5
    have Dhb6 := hb6
    replace bD := bD.trans (hb6.mono bD.size)
    have o2d := (o2.later (Below.refl _ v5).drew).later hb6
    go_wp2_with fail
    refine hK.out _ _ ⟨TA.drew.later Dhb6 lTA, TX.drew.later Dhb6 lTX⟩ (fun hHeld2 => ?_)
    clear hK K hHeld
    have hHeld := hHeld2
    clear hHeld2
    try simp only [Act.put, List.setIfInBounds_toArray, List.set_cons_zero, List.set_cons_succ]
    have K5 := eqF_is y2 y3 u6 o2d.dp o3.dp (s2.trans s3.symm) (by rw [tot_st s2]; exact hz)
    refine wpAnyH_ready (rs := [3]) (by kernel_rfl) (by simp) ?_
    refine AllReadyH.cons (i := 3) rfl (fun K hK => ?_) AllReadyH.nil
    go_simp
    refine K5.mono ?_
    rintro en u7 ⟨rfl, hb7⟩
    clear K5
    have Dhb7 := Dhb6.trans (hb7.mono Dhb6.size)
    replace bD := bD.trans (hb7.mono bD.size)
    go_wp2_with fail
    refine hK.out _ _ ⟨TA.drew.later Dhb7 lTA, TX.drew.later Dhb7 lTX⟩ (fun hHeld2 => ?_)
    clear hK K hHeld
    have hHeld := hHeld2
    clear hHeld2
    try simp only [Act.put, List.setIfInBounds_toArray, List.set_cons_zero, List.set_cons_succ]
    refine take_one 4 49 (v := ?_) rfl rfl (by kernel_rfl) (by kernel_rfl) (by kernel_rfl) (fun _ _ _ h => h) (Or.inl ⟨by rfl, ?_⟩) hHeld ?_
    rotate_left
    · intro w' hSw; (try dsimp only at hSw); go_simp; try with_reducible rfl
    try simp only [Act.put, List.setIfInBounds_toArray, List.set_cons_zero, List.set_cons_succ]
    refine wpAnyH_done (by kernel_rfl) ?_ _
    have hb : Below v5.heap.size v5 u7 := (Below.refl _ v5).drew.trans Dhb7
    clear hHeld bD lTA lTX hb6 hb7 Dhb6 Dhb7
    clear o2d o3 s3
    replace TA := TA.later hb TA.lt
    replace TR := TR.later hb TR.lt
    replace TX := TX.later hb TX.lt
    replace so := own_later so hb
    replace go := own_later go hb
    replace o2 := o2.later hb
    replace b0 := b0.trans (hb.mono b0.size)
    clear hb
    have K := markF_is u3.heap.size v3.heap.size y2 u7 o2 (Or.inr o2t) (by rw [tot_st s2]; exact hz)
    have cX0 := TX.at 0 rfl
    have cX1 := TX.at 1 rfl
    have cX2 := TX.at 2 rfl
    have cX3 := TX.at 3 rfl
    have cX4 := TX.at 4 rfl
    go_wp2_with fail
    refine K.mono ?_
    clear K
    clear cX0 cX1 cX2 cX3 cX4
    rintro en v7 ⟨⟨k1, rfl, hk1, hk2⟩, SP⟩
    replace so := own_spn so SP (fun k e => Or.inl (sl k e))
    replace go := own_spn go SP (fun k e => Or.inr (by have := gl k e; omega))
    have SB := SP.below (n := u3.heap.size) (Nat.le_refl _) (by have := TX.lt; omega)
    replace TA := TA.lower SB (by omega)
    replace TR := TR.lower SB (by omega)
    replace b0 := b0.trans (SP.below hw2 b0.size)
    clear SP SB o2 TX
    have nk : ¬ ((k1 : Int) < 0) := by omega
    have K := eqSA_is ga sa gc sc R v7 (FOwn.row lA go) (FOwn.row lA so) hyA
    go_wp2_with fail
    refine K.mono ?_
    clear K
    rintro en v8 ⟨rfl, hb⟩
    replace TA := TA.later hb TA.lt
    replace TR := TR.later hb TR.lt
    replace so := own_later so hb
    replace go := own_later go hb
    replace b0 := b0.trans (hb.mono b0.size)
    clear hb
    clear nk
    have K := markA_is _ 1 _ _ _ _ v8 go (by omega) (by omega)
    go_wp2_with fail
    refine K.mono ?_
    clear K
    rintro en v9 ⟨rfl, mo, hg⟩
    replace so := own_kept so hg (fun k e h => by have := sl k e; have := gl k h; omega)
    replace TA := Blk.only3 TA hg (fun e => by have := gl _ e; omega) TA.lt
    replace TR := Blk.only3 TR hg (fun e => by have := gl _ e; omega) TR.lt
    replace b0 := b0.grown hg b0.size (fun k e => by have := gl k e; omega)
    clear hg go
    have K := heldA_is _ 1 _ _ _ v9 mo (by omega) (by omega)
    go_wp2_with fail
    refine K.mono ?_
    clear K
    rintro en v10 ⟨rfl, hb⟩
    replace TA := TA.later hb TA.lt
    replace TR := TR.later hb TR.lt
    replace so := own_later so hb
    replace mo := own_later mo hb
    replace b0 := b0.trans (hb.mono b0.size)
    clear hb
    have hn : ¬ (((1 + R.length * 9 : Nat) : Int) < 0) := by omega
    have bD : Below w.heap.size w v10.drew := b0.drew
    have lTA : w.heap.size < v10.drew.heap.size := TA.lt
    have lTR : w.heap.size + 1 < v10.drew.heap.size := TR.lt
    go_wp2_with fail
    refine wp_region_held_drew (S := (fun U : World => Blk (w.heap.size) [.slice d.1.1 d.1.2.2.length d.1.2.1, .slice d.2.1.1 d.2.1.2.2.length d.2.1.2.1, .slice d.2.2.1.1 d.2.2.1.2.2.length d.2.2.1.2.1, .slice d.2.2.2.1.1 d.2.2.2.1.2.2.length d.2.2.2.1.2.1, .int .i64 d.2.2.2.2] U ∧ Blk (w.heap.size + 1) [.int .i64 t0, .int .i64 t1, .int .i64 t2] U)) (by kernel_rfl) ⟨TA.drew, TR.drew⟩ (fun hHeld => ?_)
    refine take_one 0 72 (v := .agg #[.slice d.1.1 d.1.2.2.length d.1.2.1, .slice d.2.1.1 d.2.1.2.2.length d.2.1.2.1, .slice d.2.2.1.1 d.2.2.1.2.2.length d.2.2.1.2.1, .slice d.2.2.2.1.1 d.2.2.2.1.2.2.length d.2.2.2.1.2.1, .int .i64 d.2.2.2.2]) rfl rfl (by kernel_rfl) (by kernel_rfl) (by kernel_rfl) (fun _ _ _ h => h) (Or.inl ⟨by rfl, ?_⟩) hHeld ?_
    · intro w' hSw; (try dsimp only at hSw); obtain ⟨z0, z1⟩ := hSw; have c0 := z0.at 0 rfl; have c1 := z0.at 1 rfl; have c2 := z0.at 2 rfl; have c3 := z0.at 3 rfl; have c4 := z0.at 4 rfl; go_simp; try with_reducible rfl
    try simp only [Act.put, List.setIfInBounds_toArray, List.set_cons_zero, List.set_cons_succ]
    refine take_one 4 76 (v := .agg #[.int .i64 t0, .int .i64 t1, .int .i64 t2]) rfl rfl (by kernel_rfl) (by kernel_rfl) (by kernel_rfl) (fun _ _ _ h => h) (Or.inl ⟨by rfl, ?_⟩) hHeld ?_
    · intro w' hSw; (try dsimp only at hSw); obtain ⟨z0, z1⟩ := hSw; have c0 := z1.at 0 rfl; have c1 := z1.at 1 rfl; have c2 := z1.at 2 rfl; go_simp; try with_reducible rfl
    try simp only [Act.put, List.setIfInBounds_toArray, List.set_cons_zero, List.set_cons_succ]
    refine take_one 2 74 (v := ?_) rfl rfl (by kernel_rfl) (by kernel_rfl) (by kernel_rfl) (fun _ _ _ h => h) (Or.inl ⟨by rfl, ?_⟩) hHeld ?_
    rotate_left
    · intro w' hSw; (try dsimp only at hSw); go_simp; try with_reducible rfl
    try simp only [Act.put, List.setIfInBounds_toArray, List.set_cons_zero, List.set_cons_succ]
    refine take_one 3 75 (v := ?_) rfl rfl (by kernel_rfl) (by kernel_rfl) (by kernel_rfl) (fun _ _ _ h => h) (Or.inl ⟨by rfl, ?_⟩) hHeld ?_
    rotate_left
    · intro w' hSw; (try dsimp only at hSw); go_simp; try with_reducible rfl
    try simp only [Act.put, List.setIfInBounds_toArray, List.set_cons_zero, List.set_cons_succ]
    refine take_one 6 78 (v := ?_) rfl rfl (by kernel_rfl) (by kernel_rfl) (by kernel_rfl) (fun _ _ _ h => h) (Or.inl ⟨by rfl, ?_⟩) hHeld ?_
    rotate_left
    · intro w' hSw; (try dsimp only at hSw); go_simp; try with_reducible rfl
    try simp only [Act.put, List.setIfInBounds_toArray, List.set_cons_zero, List.set_cons_succ]
    have K5 := toF_is d v10.drew (hd.later bD) hz
    refine wpAnyH_ready (rs := [1]) (by kernel_rfl) (by simp) ?_
    refine AllReadyH.cons (i := 1) rfl (fun K hK => ?_) AllReadyH.nil
    go_simp
    refine K5.mono ?_
    rintro en u8 ⟨y4, rfl, s4, o4, hb8⟩
    clear K5
    have Dhb8 := hb8
    replace bD := bD.trans (hb8.mono bD.size)
    go_wp2_with fail
    refine hK.out _ _ ⟨TA.drew.later Dhb8 lTA, TR.drew.later Dhb8 lTR⟩ (fun hHeld2 => ?_)
    clear hK K hHeld
    have hHeld := hHeld2
    clear hHeld2
    try simp only [Act.put, List.setIfInBounds_toArray, List.set_cons_zero, List.set_cons_succ]
    have K5 := toR_is t0 t1 t2 u8
    refine wpAnyH_ready (rs := [5]) (by kernel_rfl) (by simp) ?_
    refine AllReadyH.cons (i := 5) rfl (fun K hK => ?_) AllReadyH.nil
    go_simp
    refine K5.mono ?_
    rintro en u9 ⟨rfl, hb9⟩
    clear K5
    have Dhb9 := Dhb8.trans (hb9.mono Dhb8.size)
    replace bD := bD.trans (hb9.mono bD.size)
    replace o4 := o4.later hb9
    go_wp2_with fail
    refine hK.out _ _ ⟨TA.drew.later Dhb9 lTA, TR.drew.later Dhb9 lTR⟩ (fun hHeld2 => ?_)
    clear hK K hHeld
    have hHeld := hHeld2
    clear hHeld2
    try simp only [Act.put, List.setIfInBounds_toArray, List.set_cons_zero, List.set_cons_succ]
    have K5 := implFlow_is (cfOf y4) p s (t0, t1, t2) q u9 (cf_at o4) (cf_ok o4 (by rw [tot_st s4]; exact hz))
    rw [fl_st s4, HR.out] at K5
    refine wpAnyH_ready (rs := [7]) (by kernel_rfl) (by simp) ?_
    refine AllReadyH.cons (i := 7) rfl (fun K hK => ?_) AllReadyH.nil
    go_simp
    refine K5.mono ?_
    rintro en u10 ⟨ha, hc, rfl, ho, hb10⟩
    clear K5
    have Dhb10 := Dhb9.trans (hb10.mono Dhb9.size)
    replace bD := bD.trans (hb10.mono bD.size)
    go_wp2_with fail
    refine hK.out _ _ ⟨TA.drew.later Dhb10 lTA, TR.drew.later Dhb10 lTR⟩ (fun hHeld2 => ?_)
    clear hK K hHeld
    have hHeld := hHeld2
    clear hHeld2
    try simp only [Act.put, List.setIfInBounds_toArray, List.set_cons_zero, List.set_cons_succ]
    refine take_one 8 18 (v := ?_) rfl rfl (by kernel_rfl) (by kernel_rfl) (by kernel_rfl) (fun _ _ _ h => h) (Or.inl ⟨by rfl, ?_⟩) hHeld ?_
    rotate_left
    · intro w' hSw; (try dsimp only at hSw); go_simp; try with_reducible rfl
    try simp only [Act.put, List.setIfInBounds_toArray, List.set_cons_zero, List.set_cons_succ]
    refine wpAnyH_done (by kernel_rfl) ?_ _
    have hb : Below v10.heap.size v10 u10 := (Below.refl _ v10).drew.trans Dhb10
    clear hHeld bD lTA lTR hb8 hb9 hb10 Dhb8 Dhb9 Dhb10
    clear o4 s4
    replace TA := TA.later hb TA.lt
    replace TR := TR.later hb TR.lt
    replace so := own_later so hb
    replace mo := own_later mo hb
    replace b0 := b0.trans (hb.mono b0.size)
    clear hb
    have K := eqSA_is ha sa hc sc R u10 (FOwn.row lA ho) (FOwn.row lA so) hyA
    go_wp2_with fail
    refine K.mono ?_
    clear K
    rintro en v12 ⟨rfl, hb⟩
    replace TA := TA.later hb TA.lt
    replace TR := TR.later hb TR.lt
    replace so := own_later so hb
    replace mo := own_later mo hb
    replace ho := own_later ho hb
    replace b0 := b0.trans (hb.mono b0.size)
    clear hb
    have K := heldA_is _ 1 _ _ _ v12 mo (by omega) (by omega)
    go_wp2_with fail
    refine K.mono ?_
    clear K
    rintro en v13 ⟨rfl, hb⟩
    replace TA := TA.later hb TA.lt
    replace TR := TR.later hb TR.lt
    replace so := own_later so hb
    replace mo := own_later mo hb
    replace ho := own_later ho hb
    replace b0 := b0.trans (hb.mono b0.size)
    clear hb
    go_wp2
    go_ret
    exact ⟨rfl, b0⟩
  · rw [show szV (totF d) 1048576 = -1 from if_neg hz]
    go_wp2
    go_ret
    exact ⟨rfl, b0⟩
end Go.Proofs.Ytflajkbbggmdjaa.Nd
