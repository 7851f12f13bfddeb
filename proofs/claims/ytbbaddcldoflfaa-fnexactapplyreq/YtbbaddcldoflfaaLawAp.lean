/- Chapter 9: the law on ApplyReq. -/
import Derived.Test.YtbbaddcldoflfaaAp1
set_option linter.unusedVariables false
set_option maxRecDepth 100000
namespace Go.Proofs.Ytbbaddcldoflfaa
open Go Go.RowKit Own Var Term

set_option maxHeartbeats 6400000 in
theorem apply_walk (o cl sv k a b e : Int) (tk : ByteArray) (c t q op : Int) (w : World) (hs : i64 sv) (hm : tk.size ≤ maxLen) : Calls Try.prog 5 #[.agg #[.int .i64 o, .int .i64 cl, .int .i64 sv, .int .i64 k, .int .i64 a, .int .i64 b, .int .i64 e, .string tk], .agg #[.int .i64 c, .int .i64 t, .int .i64 q], .int .i64 op] w fun en w' => en = .returned (.bool true) ∧ Below w.heap.size w w' := by
  by_cases h : tk.size ≤ 1048576
  · skip
    have BC : Below w.heap.size w ((w.alloc (.cells #[.int .i64 o, .int .i64 cl, .int .i64 sv, .int .i64 k, .int .i64 a, .int .i64 b, .int .i64 e, .string tk] 25)).alloc (.cells #[.int .i64 c, .int .i64 t, .int .i64 q] 38)) := ((Below.refl _ _).alloc (by simp <;> omega) _).alloc (by simp <;> omega) _
    have TC : Blk w.heap.size [.int .i64 o, .int .i64 cl, .int .i64 sv, .int .i64 k, .int .i64 a, .int .i64 b, .int .i64 e, .string tk] ((w.alloc (.cells #[.int .i64 o, .int .i64 cl, .int .i64 sv, .int .i64 k, .int .i64 a, .int .i64 b, .int .i64 e, .string tk] 25)).alloc (.cells #[.int .i64 c, .int .i64 t, .int .i64 q] 38)) := by have h_ := ((Blk.new w #[.int .i64 o, .int .i64 cl, .int .i64 sv, .int .i64 k, .int .i64 a, .int .i64 b, .int .i64 e, .string tk] 25).alloc (by simp <;> omega) (.cells #[.int .i64 c, .int .i64 t, .int .i64 q] 38)); simpa using h_
    have UC : Blk (w.heap.size + 1) [.int .i64 c, .int .i64 t, .int .i64 q] ((w.alloc (.cells #[.int .i64 o, .int .i64 cl, .int .i64 sv, .int .i64 k, .int .i64 a, .int .i64 b, .int .i64 e, .string tk] 25)).alloc (.cells #[.int .i64 c, .int .i64 t, .int .i64 q] 38)) := by have h_ := (Blk.new (w.alloc (.cells #[.int .i64 o, .int .i64 cl, .int .i64 sv, .int .i64 k, .int .i64 a, .int .i64 b, .int .i64 e, .string tk] 25)) #[.int .i64 c, .int .i64 t, .int .i64 q] 38); simpa using h_
    have ZC : Hid (w.heap.size + 2 ≤ ((w.alloc (.cells #[.int .i64 o, .int .i64 cl, .int .i64 sv, .int .i64 k, .int .i64 a, .int .i64 b, .int .i64 e, .string tk] 25)).alloc (.cells #[.int .i64 c, .int .i64 t, .int .i64 q] 38)).heap.size) := by show _ ≤ _; simp
    have R1 := fun w => specApply_is o cl sv k a b e tk c t q op w h
    have R2 := fun w => implApply_is o cl sv k a b e tk c t q op w hs h
    generalize apT o cl sv k a b e tk c t q op = X at R1 R2
    go_enter Try.func5, Try.ntmps5
    have q1_ := TC.at 0 rfl
    have q2_ := TC.at 1 rfl
    have q3_ := TC.at 2 rfl
    have q4_ := TC.at 3 rfl
    have q5_ := TC.at 4 rfl
    have q6_ := TC.at 5 rfl
    have q7_ := TC.at 6 rfl
    have q8_ := TC.at 7 rfl
    go_wp2_with fail
    refine (szCred_small o cl sv k a b e tk _ hm h).mono ?_
    rintro en w3 ⟨rfl, hb⟩
    have z3 := hb.size
    replace TC := TC.later hb TC.lt
    replace UC := UC.later hb UC.lt
    replace BC := BC.trans (hb.mono BC.size)
    clear hb
    clear q1_ q2_ q3_ q4_ q5_ q6_ q7_ q8_
    replace ZC : Hid (w.heap.size + 2 ≤ w3.heap.size) := Nat.le_trans ZC.out z3
    clear z3
    have hd : decide ((1048576 : Int) - (tk.size : Int) < 0) = false := decide_eq_false (by omega)
    go_wp2_with fail
    clear hd
    have TCD := TC.drew
    have UCD := UC.drew
    have BCD := BC.drew
    have ZCD : Hid (w.heap.size + 2 ≤ w3.drew.heap.size) := ZC
    clear TC UC BC ZC
    have TC := TCD
    have UC := UCD
    have BC := BCD
    have ZC := ZCD
    clear TCD UCD BCD ZCD
    refine wp_region_held_drew (S := (fun Vw => Blk w.heap.size [.int .i64 o, .int .i64 cl, .int .i64 sv, .int .i64 k, .int .i64 a, .int .i64 b, .int .i64 e, .string tk] Vw ∧ Blk (w.heap.size + 1) [.int .i64 c, .int .i64 t, .int .i64 q] Vw)) (by kernel_rfl) ⟨TC, UC⟩ (fun hHeld => ?_)
    refine take_one 0 15 (v := ?_) rfl rfl (by kernel_rfl) (by kernel_rfl) (by kernel_rfl) (fun _ _ _ h => h) (Or.inl ⟨by rfl, ?_⟩) hHeld ?_
    rotate_left
    · intro w' hSw; (try dsimp only at hSw); have d0 := hSw.1.at 0 rfl; have d1 := hSw.1.at 1 rfl; have d2 := hSw.1.at 2 rfl; have d3 := hSw.1.at 3 rfl; have d4 := hSw.1.at 4 rfl; have d5 := hSw.1.at 5 rfl; have d6 := hSw.1.at 6 rfl; have d7 := hSw.1.at 7 rfl; have e0 := hSw.2.at 0 rfl; have e1 := hSw.2.at 1 rfl; have e2 := hSw.2.at 2 rfl; go_simp; try with_reducible rfl
    try simp only [Act.put, List.setIfInBounds_toArray, List.set_cons_zero, List.set_cons_succ]
    refine take_one 2 17 (v := ?_) rfl rfl (by kernel_rfl) (by kernel_rfl) (by kernel_rfl) (fun _ _ _ h => h) (Or.inl ⟨by rfl, ?_⟩) hHeld ?_
    rotate_left
    · intro w' hSw; (try dsimp only at hSw); have d0 := hSw.1.at 0 rfl; have d1 := hSw.1.at 1 rfl; have d2 := hSw.1.at 2 rfl; have d3 := hSw.1.at 3 rfl; have d4 := hSw.1.at 4 rfl; have d5 := hSw.1.at 5 rfl; have d6 := hSw.1.at 6 rfl; have d7 := hSw.1.at 7 rfl; have e0 := hSw.2.at 0 rfl; have e1 := hSw.2.at 1 rfl; have e2 := hSw.2.at 2 rfl; go_simp; try with_reducible rfl
    try simp only [Act.put, List.setIfInBounds_toArray, List.set_cons_zero, List.set_cons_succ]
    refine take_one 4 19 (v := ?_) rfl rfl (by kernel_rfl) (by kernel_rfl) (by kernel_rfl) (fun _ _ _ h => h) (Or.inl ⟨by rfl, ?_⟩) hHeld ?_
    rotate_left
    · intro w' hSw; (try dsimp only at hSw); have d0 := hSw.1.at 0 rfl; have d1 := hSw.1.at 1 rfl; have d2 := hSw.1.at 2 rfl; have d3 := hSw.1.at 3 rfl; have d4 := hSw.1.at 4 rfl; have d5 := hSw.1.at 5 rfl; have d6 := hSw.1.at 6 rfl; have d7 := hSw.1.at 7 rfl; have e0 := hSw.2.at 0 rfl; have e1 := hSw.2.at 1 rfl; have e2 := hSw.2.at 2 rfl; go_simp; try with_reducible rfl
    try simp only [Act.put, List.setIfInBounds_toArray, List.set_cons_zero, List.set_cons_succ]
    refine wpAnyH_ready (rs := [1]) (by kernel_rfl) (by simp) ?_
    refine AllReadyH.cons (i := 1) rfl (fun K hK => ?_) AllReadyH.nil
    go_simp
    refine (toCred_is o cl sv k a b e tk _).mono ?_
    rintro en v1 ⟨rfl, hv1⟩
    have TN := TC.later hv1 (by have := ZC.out; omega)
    have UN := UC.later hv1 (by have := ZC.out; omega)
    have ZN : Hid (w.heap.size + 2 ≤ v1.heap.size) := Nat.le_trans ZC.out hv1.size
    have BN := BC.trans (hv1.mono BC.size)
    clear TC UC ZC BC
    have TC := TN
    have UC := UN
    have ZC := ZN
    have BC := BN
    clear TN UN ZN BN
    clear hv1
    go_wp2_with fail
    refine hK.out _ _ ⟨TC, UC⟩ (fun hHeld2 => ?_)
    clear hK K hHeld
    have hHeld := hHeld2
    clear hHeld2
    try simp only [Act.put, List.setIfInBounds_toArray, List.set_cons_zero, List.set_cons_succ]
    refine wpAnyH_ready (rs := [3]) (by kernel_rfl) (by simp) ?_
    refine AllReadyH.cons (i := 3) rfl (fun K hK => ?_) AllReadyH.nil
    go_simp
    refine (toAuth_is c t q _).mono ?_
    rintro en v2 ⟨rfl, hv2⟩
    have TN := TC.later hv2 (by have := ZC.out; omega)
    have UN := UC.later hv2 (by have := ZC.out; omega)
    have ZN : Hid (w.heap.size + 2 ≤ v2.heap.size) := Nat.le_trans ZC.out hv2.size
    have BN := BC.trans (hv2.mono BC.size)
    clear TC UC ZC BC
    have TC := TN
    have UC := UN
    have ZC := ZN
    have BC := BN
    clear TN UN ZN BN
    clear hv2
    go_wp2_with fail
    refine hK.out _ _ ⟨TC, UC⟩ (fun hHeld2 => ?_)
    clear hK K hHeld
    have hHeld := hHeld2
    clear hHeld2
    try simp only [Act.put, List.setIfInBounds_toArray, List.set_cons_zero, List.set_cons_succ]
    refine wpAnyH_ready (rs := [5]) (by kernel_rfl) (by simp) ?_
    refine AllReadyH.cons (i := 5) rfl (fun K hK => ?_) AllReadyH.nil
    go_simp
    refine (R1 _).mono ?_
    rintro en v3 ⟨rfl, hv3⟩
    have TN := TC.later hv3 (by have := ZC.out; omega)
    have UN := UC.later hv3 (by have := ZC.out; omega)
    have ZN : Hid (w.heap.size + 2 ≤ v3.heap.size) := Nat.le_trans ZC.out hv3.size
    have BN := BC.trans (hv3.mono BC.size)
    clear TC UC ZC BC
    have TC := TN
    have UC := UN
    have ZC := ZN
    have BC := BN
    clear TN UN ZN BN
    clear hv3
    go_wp2_with fail
    refine hK.out _ _ ⟨TC, UC⟩ (fun hHeld2 => ?_)
    clear hK K hHeld
    have hHeld := hHeld2
    clear hHeld2
    try simp only [Act.put, List.setIfInBounds_toArray, List.set_cons_zero, List.set_cons_succ]
    refine take_one 6 8 (v := ?_) rfl rfl (by kernel_rfl) (by kernel_rfl) (by kernel_rfl) (fun _ _ _ h => h) (Or.inl ⟨by rfl, ?_⟩) hHeld ?_
    rotate_left
    · intro w' hSw; (try dsimp only at hSw); have d0 := hSw.1.at 0 rfl; have d1 := hSw.1.at 1 rfl; have d2 := hSw.1.at 2 rfl; have d3 := hSw.1.at 3 rfl; have d4 := hSw.1.at 4 rfl; have d5 := hSw.1.at 5 rfl; have d6 := hSw.1.at 6 rfl; have d7 := hSw.1.at 7 rfl; have e0 := hSw.2.at 0 rfl; have e1 := hSw.2.at 1 rfl; have e2 := hSw.2.at 2 rfl; go_simp; try with_reducible rfl
    try simp only [Act.put, List.setIfInBounds_toArray, List.set_cons_zero, List.set_cons_succ]
    refine wpAnyH_done (by kernel_rfl) ?_ _
    go_wp2_with fail
    have TCD := TC.drew
    have UCD := UC.drew
    have BCD := BC.drew
    have ZCD : Hid (w.heap.size + 2 ≤ v3.drew.heap.size) := ZC
    clear TC UC BC ZC
    have TC := TCD
    have UC := UCD
    have BC := BCD
    have ZC := ZCD
    clear TCD UCD BCD ZCD
    refine wp_region_held_drew (S := (fun Vw => Blk w.heap.size [.int .i64 o, .int .i64 cl, .int .i64 sv, .int .i64 k, .int .i64 a, .int .i64 b, .int .i64 e, .string tk] Vw ∧ Blk (w.heap.size + 1) [.int .i64 c, .int .i64 t, .int .i64 q] Vw)) (by kernel_rfl) ⟨TC, UC⟩ (fun hHeld => ?_)
    refine take_one 0 21 (v := ?_) rfl rfl (by kernel_rfl) (by kernel_rfl) (by kernel_rfl) (fun _ _ _ h => h) (Or.inl ⟨by rfl, ?_⟩) hHeld ?_
    rotate_left
    · intro w' hSw; (try dsimp only at hSw); have d0 := hSw.1.at 0 rfl; have d1 := hSw.1.at 1 rfl; have d2 := hSw.1.at 2 rfl; have d3 := hSw.1.at 3 rfl; have d4 := hSw.1.at 4 rfl; have d5 := hSw.1.at 5 rfl; have d6 := hSw.1.at 6 rfl; have d7 := hSw.1.at 7 rfl; have e0 := hSw.2.at 0 rfl; have e1 := hSw.2.at 1 rfl; have e2 := hSw.2.at 2 rfl; go_simp; try with_reducible rfl
    try simp only [Act.put, List.setIfInBounds_toArray, List.set_cons_zero, List.set_cons_succ]
    refine take_one 2 23 (v := ?_) rfl rfl (by kernel_rfl) (by kernel_rfl) (by kernel_rfl) (fun _ _ _ h => h) (Or.inl ⟨by rfl, ?_⟩) hHeld ?_
    rotate_left
    · intro w' hSw; (try dsimp only at hSw); have d0 := hSw.1.at 0 rfl; have d1 := hSw.1.at 1 rfl; have d2 := hSw.1.at 2 rfl; have d3 := hSw.1.at 3 rfl; have d4 := hSw.1.at 4 rfl; have d5 := hSw.1.at 5 rfl; have d6 := hSw.1.at 6 rfl; have d7 := hSw.1.at 7 rfl; have e0 := hSw.2.at 0 rfl; have e1 := hSw.2.at 1 rfl; have e2 := hSw.2.at 2 rfl; go_simp; try with_reducible rfl
    try simp only [Act.put, List.setIfInBounds_toArray, List.set_cons_zero, List.set_cons_succ]
    refine take_one 4 25 (v := ?_) rfl rfl (by kernel_rfl) (by kernel_rfl) (by kernel_rfl) (fun _ _ _ h => h) (Or.inl ⟨by rfl, ?_⟩) hHeld ?_
    rotate_left
    · intro w' hSw; (try dsimp only at hSw); have d0 := hSw.1.at 0 rfl; have d1 := hSw.1.at 1 rfl; have d2 := hSw.1.at 2 rfl; have d3 := hSw.1.at 3 rfl; have d4 := hSw.1.at 4 rfl; have d5 := hSw.1.at 5 rfl; have d6 := hSw.1.at 6 rfl; have d7 := hSw.1.at 7 rfl; have e0 := hSw.2.at 0 rfl; have e1 := hSw.2.at 1 rfl; have e2 := hSw.2.at 2 rfl; go_simp; try with_reducible rfl
    try simp only [Act.put, List.setIfInBounds_toArray, List.set_cons_zero, List.set_cons_succ]
    refine wpAnyH_ready (rs := [1]) (by kernel_rfl) (by simp) ?_
    refine AllReadyH.cons (i := 1) rfl (fun K hK => ?_) AllReadyH.nil
    go_simp
    refine (toCred_is o cl sv k a b e tk _).mono ?_
    rintro en v4 ⟨rfl, hv4⟩
    have TN := TC.later hv4 (by have := ZC.out; omega)
    have UN := UC.later hv4 (by have := ZC.out; omega)
    have ZN : Hid (w.heap.size + 2 ≤ v4.heap.size) := Nat.le_trans ZC.out hv4.size
    have BN := BC.trans (hv4.mono BC.size)
    clear TC UC ZC BC
    have TC := TN
    have UC := UN
    have ZC := ZN
    have BC := BN
    clear TN UN ZN BN
    clear hv4
    go_wp2_with fail
    refine hK.out _ _ ⟨TC, UC⟩ (fun hHeld2 => ?_)
    clear hK K hHeld
    have hHeld := hHeld2
    clear hHeld2
    try simp only [Act.put, List.setIfInBounds_toArray, List.set_cons_zero, List.set_cons_succ]
    refine wpAnyH_ready (rs := [3]) (by kernel_rfl) (by simp) ?_
    refine AllReadyH.cons (i := 3) rfl (fun K hK => ?_) AllReadyH.nil
    go_simp
    refine (toAuth_is c t q _).mono ?_
    rintro en v5 ⟨rfl, hv5⟩
    have TN := TC.later hv5 (by have := ZC.out; omega)
    have UN := UC.later hv5 (by have := ZC.out; omega)
    have ZN : Hid (w.heap.size + 2 ≤ v5.heap.size) := Nat.le_trans ZC.out hv5.size
    have BN := BC.trans (hv5.mono BC.size)
    clear TC UC ZC BC
    have TC := TN
    have UC := UN
    have ZC := ZN
    have BC := BN
    clear TN UN ZN BN
    clear hv5
    go_wp2_with fail
    refine hK.out _ _ ⟨TC, UC⟩ (fun hHeld2 => ?_)
    clear hK K hHeld
    have hHeld := hHeld2
    clear hHeld2
    try simp only [Act.put, List.setIfInBounds_toArray, List.set_cons_zero, List.set_cons_succ]
    refine wpAnyH_ready (rs := [5]) (by kernel_rfl) (by simp) ?_
    refine AllReadyH.cons (i := 5) rfl (fun K hK => ?_) AllReadyH.nil
    go_simp
    refine (R2 _).mono ?_
    rintro en v6 ⟨rfl, hv6⟩
    have TN := TC.later hv6 (by have := ZC.out; omega)
    have UN := UC.later hv6 (by have := ZC.out; omega)
    have ZN : Hid (w.heap.size + 2 ≤ v6.heap.size) := Nat.le_trans ZC.out hv6.size
    have BN := BC.trans (hv6.mono BC.size)
    clear TC UC ZC BC
    have TC := TN
    have UC := UN
    have ZC := ZN
    have BC := BN
    clear TN UN ZN BN
    clear hv6
    go_wp2_with fail
    refine hK.out _ _ ⟨TC, UC⟩ (fun hHeld2 => ?_)
    clear hK K hHeld
    have hHeld := hHeld2
    clear hHeld2
    try simp only [Act.put, List.setIfInBounds_toArray, List.set_cons_zero, List.set_cons_succ]
    refine take_one 6 9 (v := ?_) rfl rfl (by kernel_rfl) (by kernel_rfl) (by kernel_rfl) (fun _ _ _ h => h) (Or.inl ⟨by rfl, ?_⟩) hHeld ?_
    rotate_left
    · intro w' hSw; (try dsimp only at hSw); have d0 := hSw.1.at 0 rfl; have d1 := hSw.1.at 1 rfl; have d2 := hSw.1.at 2 rfl; have d3 := hSw.1.at 3 rfl; have d4 := hSw.1.at 4 rfl; have d5 := hSw.1.at 5 rfl; have d6 := hSw.1.at 6 rfl; have d7 := hSw.1.at 7 rfl; have e0 := hSw.2.at 0 rfl; have e1 := hSw.2.at 1 rfl; have e2 := hSw.2.at 2 rfl; go_simp; try with_reducible rfl
    try simp only [Act.put, List.setIfInBounds_toArray, List.set_cons_zero, List.set_cons_succ]
    refine wpAnyH_done (by kernel_rfl) ?_ _
    go_wp2
    go_ret
    exact ⟨rfl, BC⟩
  · skip
    have BC : Below w.heap.size w ((w.alloc (.cells #[.int .i64 o, .int .i64 cl, .int .i64 sv, .int .i64 k, .int .i64 a, .int .i64 b, .int .i64 e, .string tk] 25)).alloc (.cells #[.int .i64 c, .int .i64 t, .int .i64 q] 38)) := ((Below.refl _ _).alloc (by simp <;> omega) _).alloc (by simp <;> omega) _
    have TC : Blk w.heap.size [.int .i64 o, .int .i64 cl, .int .i64 sv, .int .i64 k, .int .i64 a, .int .i64 b, .int .i64 e, .string tk] ((w.alloc (.cells #[.int .i64 o, .int .i64 cl, .int .i64 sv, .int .i64 k, .int .i64 a, .int .i64 b, .int .i64 e, .string tk] 25)).alloc (.cells #[.int .i64 c, .int .i64 t, .int .i64 q] 38)) := by have h_ := ((Blk.new w #[.int .i64 o, .int .i64 cl, .int .i64 sv, .int .i64 k, .int .i64 a, .int .i64 b, .int .i64 e, .string tk] 25).alloc (by simp <;> omega) (.cells #[.int .i64 c, .int .i64 t, .int .i64 q] 38)); simpa using h_
    have UC : Blk (w.heap.size + 1) [.int .i64 c, .int .i64 t, .int .i64 q] ((w.alloc (.cells #[.int .i64 o, .int .i64 cl, .int .i64 sv, .int .i64 k, .int .i64 a, .int .i64 b, .int .i64 e, .string tk] 25)).alloc (.cells #[.int .i64 c, .int .i64 t, .int .i64 q] 38)) := by have h_ := (Blk.new (w.alloc (.cells #[.int .i64 o, .int .i64 cl, .int .i64 sv, .int .i64 k, .int .i64 a, .int .i64 b, .int .i64 e, .string tk] 25)) #[.int .i64 c, .int .i64 t, .int .i64 q] 38); simpa using h_
    go_enter Try.func5, Try.ntmps5
    have q1_ := TC.at 0 rfl
    have q2_ := TC.at 1 rfl
    have q3_ := TC.at 2 rfl
    have q4_ := TC.at 3 rfl
    have q5_ := TC.at 4 rfl
    have q6_ := TC.at 5 rfl
    have q7_ := TC.at 6 rfl
    have q8_ := TC.at 7 rfl
    go_wp2_with fail
    refine (szCred_big o cl sv k a b e tk _ hm (by omega)).mono ?_
    rintro en w2 ⟨rfl, hb⟩
    replace TC := TC.later hb TC.lt
    replace UC := UC.later hb UC.lt
    replace BC := BC.trans (hb.mono BC.size)
    clear hb
    clear q1_ q2_ q3_ q4_ q5_ q6_ q7_ q8_
    go_wp2
    go_ret
    exact ⟨rfl, BC⟩
end Go.Proofs.Ytbbaddcldoflfaa
