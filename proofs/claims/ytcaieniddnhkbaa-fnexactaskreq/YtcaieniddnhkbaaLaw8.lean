/- Chapter 8: the law on what is asked. -/
import Derived.Test.YtcaieniddnhkbaaIm8
set_option linter.unusedVariables false
set_option maxRecDepth 100000
namespace Go.Proofs.Ytcaieniddnhkbaa
open Go Go.RowKit Own Var Term

set_option maxHeartbeats 6400000 in
theorem ask_walk (tk : ByteArray) (key c t q target a b e nonce : Int) (ev : ByteArray) (w : World) : Calls Try.prog 4 #[.string tk, .int .i64 key, .agg #[.int .i64 c, .int .i64 t, .int .i64 q], .int .i64 target, .agg #[.int .i64 a, .int .i64 b, .int .i64 e], .int .i64 nonce, .string ev] w fun en w' => en = .returned (.bool true) ∧ Below w.heap.size w w' := by
  obtain ⟨W2, hW2⟩ : ∃ W2, (w.alloc (.cells #[.int .i64 c, .int .i64 t, .int .i64 q] 25)).alloc (.cells #[.int .i64 a, .int .i64 b, .int .i64 e] 27) = W2 := ⟨_, rfl⟩
  have BC : Below w.heap.size w W2 := by rw [← hW2]; exact ((Below.refl _ _).alloc (Nat.le_refl _) _).alloc (by simp) _
  by_cases ht : 1048576 < tk.size
  · go_enter Try.func4, Try.ntmps4
    go_wp2
    try rw [hW2]
    go_ret
    exact ⟨rfl, BC⟩
  by_cases hv : 1048576 < ev.size
  · go_enter Try.func4, Try.ntmps4
    go_wp2
    try rw [hW2]
    go_ret
    exact ⟨rfl, BC⟩
  have TC : Blk w.heap.size [.int .i64 c, .int .i64 t, .int .i64 q] W2 := by rw [← hW2]; exact (Blk.new w #[.int .i64 c, .int .i64 t, .int .i64 q] _).alloc (by simp) _
  have UC : Blk (w.heap.size + 1) [.int .i64 a, .int .i64 b, .int .i64 e] W2 := by rw [← hW2]; have := Blk.new (w.alloc (.cells #[.int .i64 c, .int .i64 t, .int .i64 q] 25)) #[.int .i64 a, .int .i64 b, .int .i64 e] 27; simpa using this
  have ZC : Hid (w.heap.size + 2 ≤ W2.heap.size) := by show _ ≤ _; rw [← hW2]; simp
  have R1 := fun w => specAsk_is tk key c t q target a b e nonce ev w (by omega) (by omega)
  have R2 := fun w => implAsk_is tk key c t q target a b e nonce ev w (by omega) (by omega)
  generalize askT tk key c t q target a b e nonce ev = X at R1 R2
  go_enter Try.func4, Try.ntmps4
  go_wp2_with fail
  try rw [hW2]
  clear hW2
  have TCD := TC.drew
  have UCD := UC.drew
  have BCD := BC.drew
  have ZCD : Hid (w.heap.size + 2 ≤ W2.drew.heap.size) := ZC
  clear TC UC BC ZC
  have TC := TCD
  have UC := UCD
  have BC := BCD
  have ZC := ZCD
  clear TCD UCD BCD ZCD
  refine wp_region_held_drew (S := (fun Vw => Blk w.heap.size [.int .i64 c, .int .i64 t, .int .i64 q] Vw ∧ Blk (w.heap.size + 1) [.int .i64 a, .int .i64 b, .int .i64 e] Vw)) (by kernel_rfl) ⟨TC, UC⟩ (fun hHeld => ?_)
  refine take_one 0 23 (v := ?_) rfl rfl (by kernel_rfl) (by kernel_rfl) (by kernel_rfl) (fun _ _ _ h => h) (Or.inl ⟨by rfl, ?_⟩) hHeld ?_
  rotate_left
  · intro w' hSw; (try dsimp only at hSw); have d0 := hSw.1.at 0 rfl; have d1 := hSw.1.at 1 rfl; have d2 := hSw.1.at 2 rfl; have e0 := hSw.2.at 0 rfl; have e1 := hSw.2.at 1 rfl; have e2 := hSw.2.at 2 rfl; go_simp; try with_reducible rfl
  try simp only [Act.put, List.setIfInBounds_toArray, List.set_cons_zero, List.set_cons_succ]
  refine take_one 1 24 (v := ?_) rfl rfl (by kernel_rfl) (by kernel_rfl) (by kernel_rfl) (fun _ _ _ h => h) (Or.inl ⟨by rfl, ?_⟩) hHeld ?_
  rotate_left
  · intro w' hSw; (try dsimp only at hSw); have d0 := hSw.1.at 0 rfl; have d1 := hSw.1.at 1 rfl; have d2 := hSw.1.at 2 rfl; have e0 := hSw.2.at 0 rfl; have e1 := hSw.2.at 1 rfl; have e2 := hSw.2.at 2 rfl; go_simp; try with_reducible rfl
  try simp only [Act.put, List.setIfInBounds_toArray, List.set_cons_zero, List.set_cons_succ]
  refine take_one 2 25 (v := ?_) rfl rfl (by kernel_rfl) (by kernel_rfl) (by kernel_rfl) (fun _ _ _ h => h) (Or.inl ⟨by rfl, ?_⟩) hHeld ?_
  rotate_left
  · intro w' hSw; (try dsimp only at hSw); have d0 := hSw.1.at 0 rfl; have d1 := hSw.1.at 1 rfl; have d2 := hSw.1.at 2 rfl; have e0 := hSw.2.at 0 rfl; have e1 := hSw.2.at 1 rfl; have e2 := hSw.2.at 2 rfl; go_simp; try with_reducible rfl
  try simp only [Act.put, List.setIfInBounds_toArray, List.set_cons_zero, List.set_cons_succ]
  refine take_one 4 27 (v := ?_) rfl rfl (by kernel_rfl) (by kernel_rfl) (by kernel_rfl) (fun _ _ _ h => h) (Or.inl ⟨by rfl, ?_⟩) hHeld ?_
  rotate_left
  · intro w' hSw; (try dsimp only at hSw); have d0 := hSw.1.at 0 rfl; have d1 := hSw.1.at 1 rfl; have d2 := hSw.1.at 2 rfl; have e0 := hSw.2.at 0 rfl; have e1 := hSw.2.at 1 rfl; have e2 := hSw.2.at 2 rfl; go_simp; try with_reducible rfl
  try simp only [Act.put, List.setIfInBounds_toArray, List.set_cons_zero, List.set_cons_succ]
  refine take_one 5 28 (v := ?_) rfl rfl (by kernel_rfl) (by kernel_rfl) (by kernel_rfl) (fun _ _ _ h => h) (Or.inl ⟨by rfl, ?_⟩) hHeld ?_
  rotate_left
  · intro w' hSw; (try dsimp only at hSw); have d0 := hSw.1.at 0 rfl; have d1 := hSw.1.at 1 rfl; have d2 := hSw.1.at 2 rfl; have e0 := hSw.2.at 0 rfl; have e1 := hSw.2.at 1 rfl; have e2 := hSw.2.at 2 rfl; go_simp; try with_reducible rfl
  try simp only [Act.put, List.setIfInBounds_toArray, List.set_cons_zero, List.set_cons_succ]
  refine take_one 7 30 (v := ?_) rfl rfl (by kernel_rfl) (by kernel_rfl) (by kernel_rfl) (fun _ _ _ h => h) (Or.inl ⟨by rfl, ?_⟩) hHeld ?_
  rotate_left
  · intro w' hSw; (try dsimp only at hSw); have d0 := hSw.1.at 0 rfl; have d1 := hSw.1.at 1 rfl; have d2 := hSw.1.at 2 rfl; have e0 := hSw.2.at 0 rfl; have e1 := hSw.2.at 1 rfl; have e2 := hSw.2.at 2 rfl; go_simp; try with_reducible rfl
  try simp only [Act.put, List.setIfInBounds_toArray, List.set_cons_zero, List.set_cons_succ]
  refine take_one 8 31 (v := ?_) rfl rfl (by kernel_rfl) (by kernel_rfl) (by kernel_rfl) (fun _ _ _ h => h) (Or.inl ⟨by rfl, ?_⟩) hHeld ?_
  rotate_left
  · intro w' hSw; (try dsimp only at hSw); have d0 := hSw.1.at 0 rfl; have d1 := hSw.1.at 1 rfl; have d2 := hSw.1.at 2 rfl; have e0 := hSw.2.at 0 rfl; have e1 := hSw.2.at 1 rfl; have e2 := hSw.2.at 2 rfl; go_simp; try with_reducible rfl
  try simp only [Act.put, List.setIfInBounds_toArray, List.set_cons_zero, List.set_cons_succ]
  refine wpAnyH_ready (rs := [3]) (by kernel_rfl) (by simp) ?_
  refine AllReadyH.cons (i := 3) rfl (fun K hK => ?_) AllReadyH.nil
  go_simp
  refine (toAuth_is c t q _).mono ?_
  rintro en v1 ⟨rfl, hv1⟩
  have TN := TC.later hv1 (by have := ZC.out; omega)
  have UN := UC.later hv1 (by have := ZC.out; omega)
  have ZN : Hid (w.heap.size + 2 ≤ v1.heap.size) := Nat.le_trans ZC.out hv1.size
  have BN := BC.trans (hv1.mono BC.size)
  clear TC UC ZC BC
  have TC := TN
  have UC := UN
  have ZC := ZN
  have BC := BN
  clear TN UN ZN BN
  clear hv1
  go_wp2_with fail
  refine hK.out _ _ ⟨TC, UC⟩ (fun hHeld2 => ?_)
  clear hK K hHeld
  have hHeld := hHeld2
  clear hHeld2
  try simp only [Act.put, List.setIfInBounds_toArray, List.set_cons_zero, List.set_cons_succ]
  refine wpAnyH_ready (rs := [6]) (by kernel_rfl) (by simp) ?_
  refine AllReadyH.cons (i := 6) rfl (fun K hK => ?_) AllReadyH.nil
  go_simp
  refine (toRest_is a b e _).mono ?_
  rintro en v2 ⟨rfl, hv2⟩
  have TN := TC.later hv2 (by have := ZC.out; omega)
  have UN := UC.later hv2 (by have := ZC.out; omega)
  have ZN : Hid (w.heap.size + 2 ≤ v2.heap.size) := Nat.le_trans ZC.out hv2.size
  have BN := BC.trans (hv2.mono BC.size)
  clear TC UC ZC BC
  have TC := TN
  have UC := UN
  have ZC := ZN
  have BC := BN
  clear TN UN ZN BN
  clear hv2
  go_wp2_with fail
  refine hK.out _ _ ⟨TC, UC⟩ (fun hHeld2 => ?_)
  clear hK K hHeld
  have hHeld := hHeld2
  clear hHeld2
  try simp only [Act.put, List.setIfInBounds_toArray, List.set_cons_zero, List.set_cons_succ]
  refine wpAnyH_ready (rs := [9]) (by kernel_rfl) (by simp) ?_
  refine AllReadyH.cons (i := 9) rfl (fun K hK => ?_) AllReadyH.nil
  go_simp
  refine (R1 _).mono ?_
  rintro en v3 ⟨rfl, hv3⟩
  have TN := TC.later hv3 (by have := ZC.out; omega)
  have UN := UC.later hv3 (by have := ZC.out; omega)
  have ZN : Hid (w.heap.size + 2 ≤ v3.heap.size) := Nat.le_trans ZC.out hv3.size
  have BN := BC.trans (hv3.mono BC.size)
  clear TC UC ZC BC
  have TC := TN
  have UC := UN
  have ZC := ZN
  have BC := BN
  clear TN UN ZN BN
  clear hv3
  go_wp2_with fail
  refine hK.out _ _ ⟨TC, UC⟩ (fun hHeld2 => ?_)
  clear hK K hHeld
  have hHeld := hHeld2
  clear hHeld2
  try simp only [Act.put, List.setIfInBounds_toArray, List.set_cons_zero, List.set_cons_succ]
  refine take_one 10 15 (v := ?_) rfl rfl (by kernel_rfl) (by kernel_rfl) (by kernel_rfl) (fun _ _ _ h => h) (Or.inl ⟨by rfl, ?_⟩) hHeld ?_
  rotate_left
  · intro w' hSw; (try dsimp only at hSw); have d0 := hSw.1.at 0 rfl; have d1 := hSw.1.at 1 rfl; have d2 := hSw.1.at 2 rfl; have e0 := hSw.2.at 0 rfl; have e1 := hSw.2.at 1 rfl; have e2 := hSw.2.at 2 rfl; go_simp; try with_reducible rfl
  try simp only [Act.put, List.setIfInBounds_toArray, List.set_cons_zero, List.set_cons_succ]
  refine wpAnyH_done (by kernel_rfl) ?_ _
  go_wp2_with fail
  have TCD := TC.drew
  have UCD := UC.drew
  have BCD := BC.drew
  have ZCD : Hid (w.heap.size + 2 ≤ v3.drew.heap.size) := ZC
  clear TC UC BC ZC
  have TC := TCD
  have UC := UCD
  have BC := BCD
  have ZC := ZCD
  clear TCD UCD BCD ZCD
  refine wp_region_held_drew (S := (fun Vw => Blk w.heap.size [.int .i64 c, .int .i64 t, .int .i64 q] Vw ∧ Blk (w.heap.size + 1) [.int .i64 a, .int .i64 b, .int .i64 e] Vw)) (by kernel_rfl) ⟨TC, UC⟩ (fun hHeld => ?_)
  refine take_one 0 33 (v := ?_) rfl rfl (by kernel_rfl) (by kernel_rfl) (by kernel_rfl) (fun _ _ _ h => h) (Or.inl ⟨by rfl, ?_⟩) hHeld ?_
  rotate_left
  · intro w' hSw; (try dsimp only at hSw); have d0 := hSw.1.at 0 rfl; have d1 := hSw.1.at 1 rfl; have d2 := hSw.1.at 2 rfl; have e0 := hSw.2.at 0 rfl; have e1 := hSw.2.at 1 rfl; have e2 := hSw.2.at 2 rfl; go_simp; try with_reducible rfl
  try simp only [Act.put, List.setIfInBounds_toArray, List.set_cons_zero, List.set_cons_succ]
  refine take_one 1 34 (v := ?_) rfl rfl (by kernel_rfl) (by kernel_rfl) (by kernel_rfl) (fun _ _ _ h => h) (Or.inl ⟨by rfl, ?_⟩) hHeld ?_
  rotate_left
  · intro w' hSw; (try dsimp only at hSw); have d0 := hSw.1.at 0 rfl; have d1 := hSw.1.at 1 rfl; have d2 := hSw.1.at 2 rfl; have e0 := hSw.2.at 0 rfl; have e1 := hSw.2.at 1 rfl; have e2 := hSw.2.at 2 rfl; go_simp; try with_reducible rfl
  try simp only [Act.put, List.setIfInBounds_toArray, List.set_cons_zero, List.set_cons_succ]
  refine take_one 2 35 (v := ?_) rfl rfl (by kernel_rfl) (by kernel_rfl) (by kernel_rfl) (fun _ _ _ h => h) (Or.inl ⟨by rfl, ?_⟩) hHeld ?_
  rotate_left
  · intro w' hSw; (try dsimp only at hSw); have d0 := hSw.1.at 0 rfl; have d1 := hSw.1.at 1 rfl; have d2 := hSw.1.at 2 rfl; have e0 := hSw.2.at 0 rfl; have e1 := hSw.2.at 1 rfl; have e2 := hSw.2.at 2 rfl; go_simp; try with_reducible rfl
  try simp only [Act.put, List.setIfInBounds_toArray, List.set_cons_zero, List.set_cons_succ]
  refine take_one 4 37 (v := ?_) rfl rfl (by kernel_rfl) (by kernel_rfl) (by kernel_rfl) (fun _ _ _ h => h) (Or.inl ⟨by rfl, ?_⟩) hHeld ?_
  rotate_left
  · intro w' hSw; (try dsimp only at hSw); have d0 := hSw.1.at 0 rfl; have d1 := hSw.1.at 1 rfl; have d2 := hSw.1.at 2 rfl; have e0 := hSw.2.at 0 rfl; have e1 := hSw.2.at 1 rfl; have e2 := hSw.2.at 2 rfl; go_simp; try with_reducible rfl
  try simp only [Act.put, List.setIfInBounds_toArray, List.set_cons_zero, List.set_cons_succ]
  refine take_one 5 38 (v := ?_) rfl rfl (by kernel_rfl) (by kernel_rfl) (by kernel_rfl) (fun _ _ _ h => h) (Or.inl ⟨by rfl, ?_⟩) hHeld ?_
  rotate_left
  · intro w' hSw; (try dsimp only at hSw); have d0 := hSw.1.at 0 rfl; have d1 := hSw.1.at 1 rfl; have d2 := hSw.1.at 2 rfl; have e0 := hSw.2.at 0 rfl; have e1 := hSw.2.at 1 rfl; have e2 := hSw.2.at 2 rfl; go_simp; try with_reducible rfl
  try simp only [Act.put, List.setIfInBounds_toArray, List.set_cons_zero, List.set_cons_succ]
  refine take_one 7 40 (v := ?_) rfl rfl (by kernel_rfl) (by kernel_rfl) (by kernel_rfl) (fun _ _ _ h => h) (Or.inl ⟨by rfl, ?_⟩) hHeld ?_
  rotate_left
  · intro w' hSw; (try dsimp only at hSw); have d0 := hSw.1.at 0 rfl; have d1 := hSw.1.at 1 rfl; have d2 := hSw.1.at 2 rfl; have e0 := hSw.2.at 0 rfl; have e1 := hSw.2.at 1 rfl; have e2 := hSw.2.at 2 rfl; go_simp; try with_reducible rfl
  try simp only [Act.put, List.setIfInBounds_toArray, List.set_cons_zero, List.set_cons_succ]
  refine take_one 8 41 (v := ?_) rfl rfl (by kernel_rfl) (by kernel_rfl) (by kernel_rfl) (fun _ _ _ h => h) (Or.inl ⟨by rfl, ?_⟩) hHeld ?_
  rotate_left
  · intro w' hSw; (try dsimp only at hSw); have d0 := hSw.1.at 0 rfl; have d1 := hSw.1.at 1 rfl; have d2 := hSw.1.at 2 rfl; have e0 := hSw.2.at 0 rfl; have e1 := hSw.2.at 1 rfl; have e2 := hSw.2.at 2 rfl; go_simp; try with_reducible rfl
  try simp only [Act.put, List.setIfInBounds_toArray, List.set_cons_zero, List.set_cons_succ]
  refine wpAnyH_ready (rs := [3]) (by kernel_rfl) (by simp) ?_
  refine AllReadyH.cons (i := 3) rfl (fun K hK => ?_) AllReadyH.nil
  go_simp
  refine (toAuth_is c t q _).mono ?_
  rintro en v4 ⟨rfl, hv4⟩
  have TN := TC.later hv4 (by have := ZC.out; omega)
  have UN := UC.later hv4 (by have := ZC.out; omega)
  have ZN : Hid (w.heap.size + 2 ≤ v4.heap.size) := Nat.le_trans ZC.out hv4.size
  have BN := BC.trans (hv4.mono BC.size)
  clear TC UC ZC BC
  have TC := TN
  have UC := UN
  have ZC := ZN
  have BC := BN
  clear TN UN ZN BN
  clear hv4
  go_wp2_with fail
  refine hK.out _ _ ⟨TC, UC⟩ (fun hHeld2 => ?_)
  clear hK K hHeld
  have hHeld := hHeld2
  clear hHeld2
  try simp only [Act.put, List.setIfInBounds_toArray, List.set_cons_zero, List.set_cons_succ]
  refine wpAnyH_ready (rs := [6]) (by kernel_rfl) (by simp) ?_
  refine AllReadyH.cons (i := 6) rfl (fun K hK => ?_) AllReadyH.nil
  go_simp
  refine (toRest_is a b e _).mono ?_
  rintro en v5 ⟨rfl, hv5⟩
  have TN := TC.later hv5 (by have := ZC.out; omega)
  have UN := UC.later hv5 (by have := ZC.out; omega)
  have ZN : Hid (w.heap.size + 2 ≤ v5.heap.size) := Nat.le_trans ZC.out hv5.size
  have BN := BC.trans (hv5.mono BC.size)
  clear TC UC ZC BC
  have TC := TN
  have UC := UN
  have ZC := ZN
  have BC := BN
  clear TN UN ZN BN
  clear hv5
  go_wp2_with fail
  refine hK.out _ _ ⟨TC, UC⟩ (fun hHeld2 => ?_)
  clear hK K hHeld
  have hHeld := hHeld2
  clear hHeld2
  try simp only [Act.put, List.setIfInBounds_toArray, List.set_cons_zero, List.set_cons_succ]
  refine wpAnyH_ready (rs := [9]) (by kernel_rfl) (by simp) ?_
  refine AllReadyH.cons (i := 9) rfl (fun K hK => ?_) AllReadyH.nil
  go_simp
  refine (R2 _).mono ?_
  rintro en v6 ⟨rfl, hv6⟩
  have TN := TC.later hv6 (by have := ZC.out; omega)
  have UN := UC.later hv6 (by have := ZC.out; omega)
  have ZN : Hid (w.heap.size + 2 ≤ v6.heap.size) := Nat.le_trans ZC.out hv6.size
  have BN := BC.trans (hv6.mono BC.size)
  clear TC UC ZC BC
  have TC := TN
  have UC := UN
  have ZC := ZN
  have BC := BN
  clear TN UN ZN BN
  clear hv6
  go_wp2_with fail
  refine hK.out _ _ ⟨TC, UC⟩ (fun hHeld2 => ?_)
  clear hK K hHeld
  have hHeld := hHeld2
  clear hHeld2
  try simp only [Act.put, List.setIfInBounds_toArray, List.set_cons_zero, List.set_cons_succ]
  refine take_one 10 16 (v := ?_) rfl rfl (by kernel_rfl) (by kernel_rfl) (by kernel_rfl) (fun _ _ _ h => h) (Or.inl ⟨by rfl, ?_⟩) hHeld ?_
  rotate_left
  · intro w' hSw; (try dsimp only at hSw); have d0 := hSw.1.at 0 rfl; have d1 := hSw.1.at 1 rfl; have d2 := hSw.1.at 2 rfl; have e0 := hSw.2.at 0 rfl; have e1 := hSw.2.at 1 rfl; have e2 := hSw.2.at 2 rfl; go_simp; try with_reducible rfl
  try simp only [Act.put, List.setIfInBounds_toArray, List.set_cons_zero, List.set_cons_succ]
  refine wpAnyH_done (by kernel_rfl) ?_ _
  go_wp2
  go_ret
  exact ⟨rfl, BC⟩
end Go.Proofs.Ytcaieniddnhkbaa
