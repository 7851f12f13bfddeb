/- Authenticators as texts: what shows them. -/
import Derived.Test.YtbbaddcldoflfaaBox
import Derived.Test.YtbbaddcldoflfaaTickMath
import Derived.Test.YtbbaddcldoflfaaTick4
import Derived.Test.YtbbaddcldoflfaaRest3
set_option linter.unusedVariables false
namespace Go.Proofs.Ytbbaddcldoflfaa
open Go Go.RowKit Own Var Term

theorem row_new {α : Type} (f : α → Value) (w : World) (xs : List α) (t : TypeId) : RowAt f (w.alloc (.cells (xs.map f).toArray t)) (some ⟨w.heap.size, 0, none⟩) xs := by
  intro j hj
  refine ⟨w.heap.size, 0, rfl, by simp, ?_⟩
  rw [World.cell?_alloc_mark w _ t (0, 0) (0 + j)]
  simp [hj]

set_option maxRecDepth 100000 in
set_option maxHeartbeats 6400000 in
theorem showA_is (c t q : Int) (key : Int) (w : World) : Calls Try.prog 65 #[.agg #[.int .i64 c, .int .i64 t, .int .i64 q, .int .i64 key]] w fun en w' => en = .returned (.string (shA c t q key)) ∧ Below w.heap.size w w' := by
  obtain ⟨W2, hW2⟩ : ∃ W2, (w.alloc (.cells #[.int .i64 c, .int .i64 t, .int .i64 q, .int .i64 key] 94)).alloc (.cells #[.int .i64 c, .int .i64 t, .int .i64 q] 40) = W2 := ⟨_, rfl⟩
  have B2 : Below w.heap.size w W2 := by rw [← hW2]; exact ((Below.refl _ _).alloc (Nat.le_refl _) _).alloc (by simp) _
  have T2 : Blk w.heap.size [.int .i64 c, .int .i64 t, .int .i64 q, .int .i64 key] W2 := by rw [← hW2]; exact (Blk.new w #[.int .i64 c, .int .i64 t, .int .i64 q, .int .i64 key] _).alloc (by simp) _
  have U2 : Blk (w.heap.size + 1) [.int .i64 c, .int .i64 t, .int .i64 q] W2 := by rw [← hW2]; have := Blk.new (w.alloc (.cells #[.int .i64 c, .int .i64 t, .int .i64 q, .int .i64 key] 94)) #[.int .i64 c, .int .i64 t, .int .i64 q] 40; simpa using this
  have Z2 : Hid (w.heap.size + 2 ≤ W2.heap.size) := by show _ ≤ _; rw [← hW2]; simp
  have e0 := U2.at 0 rfl
  have e1 := U2.at 1 rfl
  have e2 := U2.at 2 rfl
  go_enter Try.func65, Try.ntmps65
  go_wp2_with fail
  try rw [hW2]
  refine (authOk_is c t q _).mono ?_
  clear hW2
  rintro en w3 ⟨rfl, hb3⟩
  have TC := T2.later hb3 (by have := Z2.out; omega)
  have UC := U2.later hb3 (by have := Z2.out; omega)
  have ZC : Hid (w.heap.size + 2 ≤ w3.heap.size) := Nat.le_trans Z2.out hb3.size
  have BC := B2.trans (hb3.mono B2.size)
  clear T2 U2 Z2 B2 hb3 e0 e1 e2
  by_cases h0 : aOk c t q = true
  · rw [h0]
    go_wp2_with fail
    have TD := TC.drew
    have UD := UC.drew
    have BD := BC.drew
    have ZD : Hid (w.heap.size + 2 ≤ w3.drew.heap.size) := ZC
    clear TC UC BC ZC
    have TC := TD
    have UC := UD
    have BC := BD
    have ZC := ZD
    clear TD UD BD ZD
    refine wp_region_held_drew (S := (fun V => Blk w.heap.size [.int .i64 c, .int .i64 t, .int .i64 q, .int .i64 key] V ∧ Blk (w.heap.size + 1) [.int .i64 c, .int .i64 t, .int .i64 q] V)) (by kernel_rfl) ⟨TC, UC⟩ (fun hHeld => ?_)
    refine take_one 0 10 (v := ?_) rfl rfl (by kernel_rfl) (by kernel_rfl) (by kernel_rfl) (fun _ _ _ h => h) (Or.inl ⟨by rfl, ?_⟩) hHeld ?_
    rotate_left
    · intro w' hSw; (try dsimp only at hSw); have d0 := hSw.1.at 0 rfl; have d1 := hSw.1.at 1 rfl; have d2 := hSw.1.at 2 rfl; have d3 := hSw.1.at 3 rfl; have e0 := hSw.2.at 0 rfl; have e1 := hSw.2.at 1 rfl; have e2 := hSw.2.at 2 rfl; go_simp; try with_reducible rfl
    try simp only [Act.put, List.setIfInBounds_toArray, List.set_cons_zero, List.set_cons_succ]
    refine take_one 1 11 (v := ?_) rfl rfl (by kernel_rfl) (by kernel_rfl) (by kernel_rfl) (fun _ _ _ h => h) (Or.inl ⟨by rfl, ?_⟩) hHeld ?_
    rotate_left
    · intro w' hSw; (try dsimp only at hSw); have d0 := hSw.1.at 0 rfl; have d1 := hSw.1.at 1 rfl; have d2 := hSw.1.at 2 rfl; have d3 := hSw.1.at 3 rfl; have e0 := hSw.2.at 0 rfl; have e1 := hSw.2.at 1 rfl; have e2 := hSw.2.at 2 rfl; go_simp; try with_reducible rfl
    try simp only [Act.put, List.setIfInBounds_toArray, List.set_cons_zero, List.set_cons_succ]
    refine take_one 2 12 (v := ?_) rfl rfl (by kernel_rfl) (by kernel_rfl) (by kernel_rfl) (fun _ _ _ h => h) (Or.inl ⟨by rfl, ?_⟩) hHeld ?_
    rotate_left
    · intro w' hSw; (try dsimp only at hSw); have d0 := hSw.1.at 0 rfl; have d1 := hSw.1.at 1 rfl; have d2 := hSw.1.at 2 rfl; have d3 := hSw.1.at 3 rfl; have e0 := hSw.2.at 0 rfl; have e1 := hSw.2.at 1 rfl; have e2 := hSw.2.at 2 rfl; go_simp; try with_reducible rfl
    try simp only [Act.put, List.setIfInBounds_toArray, List.set_cons_zero, List.set_cons_succ]
    refine take_one 3 13 (v := ?_) rfl rfl (by kernel_rfl) (by kernel_rfl) (by kernel_rfl) (fun _ _ _ h => h) (Or.inl ⟨by rfl, ?_⟩) hHeld ?_
    rotate_left
    · intro w' hSw; (try dsimp only at hSw); have d0 := hSw.1.at 0 rfl; have d1 := hSw.1.at 1 rfl; have d2 := hSw.1.at 2 rfl; have d3 := hSw.1.at 3 rfl; have e0 := hSw.2.at 0 rfl; have e1 := hSw.2.at 1 rfl; have e2 := hSw.2.at 2 rfl; go_simp; try with_reducible rfl
    try simp only [Act.put, List.setIfInBounds_toArray, List.set_cons_zero, List.set_cons_succ]
    refine take_one 4 14 (v := ?_) rfl rfl (by kernel_rfl) (by kernel_rfl) (by kernel_rfl) (fun _ _ _ h => h) (Or.inl ⟨by rfl, ?_⟩) hHeld ?_
    rotate_left
    · intro w' hSw; (try dsimp only at hSw); have d0 := hSw.1.at 0 rfl; have d1 := hSw.1.at 1 rfl; have d2 := hSw.1.at 2 rfl; have d3 := hSw.1.at 3 rfl; have e0 := hSw.2.at 0 rfl; have e1 := hSw.2.at 1 rfl; have e2 := hSw.2.at 2 rfl; go_simp; try with_reducible rfl
    try simp only [Act.put, List.setIfInBounds_toArray, List.set_cons_zero, List.set_cons_succ]
    refine take_one 5 15 (v := ?_) rfl rfl (by kernel_rfl) (by kernel_rfl) (by kernel_rfl) (fun _ _ _ h => h) (Or.inl ⟨by rfl, ?_⟩) hHeld ?_
    rotate_left
    · intro w' hSw; (try dsimp only at hSw); have d0 := hSw.1.at 0 rfl; have d1 := hSw.1.at 1 rfl; have d2 := hSw.1.at 2 rfl; have d3 := hSw.1.at 3 rfl; have e0 := hSw.2.at 0 rfl; have e1 := hSw.2.at 1 rfl; have e2 := hSw.2.at 2 rfl; go_simp; try with_reducible rfl
    try simp only [Act.put, List.setIfInBounds_toArray, List.set_cons_zero, List.set_cons_succ]
    refine take_one 6 16 (v := ?_) rfl rfl (by kernel_rfl) (by kernel_rfl) (by kernel_rfl) (fun _ _ _ h => h) (Or.inl ⟨by rfl, ?_⟩) hHeld ?_
    rotate_left
    · intro w' hSw; (try dsimp only at hSw); have d0 := hSw.1.at 0 rfl; have d1 := hSw.1.at 1 rfl; have d2 := hSw.1.at 2 rfl; have d3 := hSw.1.at 3 rfl; have e0 := hSw.2.at 0 rfl; have e1 := hSw.2.at 1 rfl; have e2 := hSw.2.at 2 rfl; go_simp; try with_reducible rfl
    try simp only [Act.put, List.setIfInBounds_toArray, List.set_cons_zero, List.set_cons_succ]
    refine take_one 7 17 (v := ?_) rfl rfl (by kernel_rfl) (by kernel_rfl) (by kernel_rfl) (fun _ _ _ h => h) (Or.inl ⟨by rfl, ?_⟩) hHeld ?_
    rotate_left
    · intro w' hSw; (try dsimp only at hSw); have d0 := hSw.1.at 0 rfl; have d1 := hSw.1.at 1 rfl; have d2 := hSw.1.at 2 rfl; have d3 := hSw.1.at 3 rfl; have e0 := hSw.2.at 0 rfl; have e1 := hSw.2.at 1 rfl; have e2 := hSw.2.at 2 rfl; go_simp; try with_reducible rfl
    try simp only [Act.put, List.setIfInBounds_toArray, List.set_cons_zero, List.set_cons_succ]
    obtain ⟨v1, hv1⟩ : ∃ v, (w3.drew).alloc (.cells #[.int .i64 7, .int .i64 c, .int .i64 t, .int .i64 q] 3) = v := ⟨_, rfl⟩
    have XA : Below (w3.drew).heap.size (w3.drew) v1 := by rw [← hv1]; exact (Below.refl _ _).alloc (Nat.le_refl _) _
    have TN := TC.later XA (by have := ZC.out; omega)
    have UN := UC.later XA (by have := ZC.out; omega)
    have BN := BC.trans (XA.mono BC.size)
    have ZN : Hid (w.heap.size + 2 ≤ v1.heap.size) := Nat.le_trans ZC.out XA.size
    have HN := impl_nums (some ⟨w3.drew.heap.size, 0, none⟩) 4 [7, c, t, q] v1 (by rw [← hv1]; exact row_new (Value.int .i64) w3.drew [7, c, t, q] 3) (by simp)
    refine wpAnyH_ready (rs := [8]) (by kernel_rfl) (by simp) ?_
    refine AllReadyH.cons (i := 8) rfl (fun K hK => ?_) AllReadyH.nil
    go_simp
    refine hK.out _ _ (by (try rw [hv1]); exact ⟨TN, UN⟩) (fun hHeld2 => ?_)
    clear hK K hHeld
    have hHeld := hHeld2
    clear hHeld2
    try simp only [Act.put, List.setIfInBounds_toArray, List.set_cons_zero, List.set_cons_succ]
    clear TC UC ZC BC
    have TC := TN
    have UC := UN
    have ZC := ZN
    have BC := BN
    clear TN UN ZN BN XA
    try rw [hv1]
    clear hv1
    refine wpAnyH_ready (rs := [9]) (by kernel_rfl) (by simp) ?_
    refine AllReadyH.cons (i := 9) rfl (fun K hK => ?_) AllReadyH.nil
    go_simp
    refine (HN).mono ?_
    rintro en v2 ⟨rfl, hv2⟩
    have TN := TC.later hv2 (by have := ZC.out; omega)
    have UN := UC.later hv2 (by have := ZC.out; omega)
    have ZN : Hid (w.heap.size + 2 ≤ v2.heap.size) := Nat.le_trans ZC.out hv2.size
    have BN := BC.trans (hv2.mono BC.size)
    clear TC UC ZC BC
    have TC := TN
    have UC := UN
    have ZC := ZN
    have BC := BN
    clear TN UN ZN BN hv2
    go_wp2_with fail
    refine hK.out _ _ ⟨TC, UC⟩ (fun hHeld2 => ?_)
    clear hK K hHeld
    have hHeld := hHeld2
    clear hHeld2
    try simp only [Act.put, List.setIfInBounds_toArray, List.set_cons_zero, List.set_cons_succ]
    clear HN
    refine wpAnyH_ready (rs := [10]) (by kernel_rfl) (by simp) ?_
    refine AllReadyH.cons (i := 10) rfl (fun K hK => ?_) AllReadyH.nil
    go_simp
    refine (sealA_is c t q key (numsT [7, c, t, q]) _ (Nat.le_trans (listT_size _) (by omega))).mono ?_
    rintro en v3 ⟨rfl, hv3⟩
    have TN := TC.later hv3 (by have := ZC.out; omega)
    have UN := UC.later hv3 (by have := ZC.out; omega)
    have ZN : Hid (w.heap.size + 2 ≤ v3.heap.size) := Nat.le_trans ZC.out hv3.size
    have BN := BC.trans (hv3.mono BC.size)
    clear TC UC ZC BC
    have TC := TN
    have UC := UN
    have ZC := ZN
    have BC := BN
    clear TN UN ZN BN hv3
    go_wp2_with fail
    refine hK.out _ _ ⟨TC, UC⟩ (fun hHeld2 => ?_)
    clear hK K hHeld
    have hHeld := hHeld2
    clear hHeld2
    try simp only [Act.put, List.setIfInBounds_toArray, List.set_cons_zero, List.set_cons_succ]
    refine take_one 11 2 (v := ?_) rfl rfl (by kernel_rfl) (by kernel_rfl) (by kernel_rfl) (fun _ _ _ h => h) (Or.inl ⟨by rfl, ?_⟩) hHeld ?_
    rotate_left
    · intro w' hSw; (try dsimp only at hSw); have d0 := hSw.1.at 0 rfl; have d1 := hSw.1.at 1 rfl; have d2 := hSw.1.at 2 rfl; have d3 := hSw.1.at 3 rfl; have e0 := hSw.2.at 0 rfl; have e1 := hSw.2.at 1 rfl; have e2 := hSw.2.at 2 rfl; go_simp; try with_reducible rfl
    try simp only [Act.put, List.setIfInBounds_toArray, List.set_cons_zero, List.set_cons_succ]
    refine wpAnyH_done (by kernel_rfl) ?_ _
    go_wp2
    go_ret
    exact ⟨by unfold shA; rw [h0]; rfl, BC⟩
  · rw [Bool.not_eq_true] at h0
    rw [h0]
    go_wp2
    go_ret
    exact ⟨by unfold shA; rw [h0]; rfl, BC⟩
end Go.Proofs.Ytbbaddcldoflfaa
