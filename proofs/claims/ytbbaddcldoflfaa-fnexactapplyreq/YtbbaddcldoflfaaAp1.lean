/- Chapter 9: requests to a service, the program's and the model's. -/
import Derived.Test.YtbbaddcldoflfaaCr1
import Derived.Test.YtbbaddcldoflfaaShA2
import Derived.Test.YtbbaddcldoflfaaLists
import Derived.Test.YtbbaddcldoflfaaNums
set_option linter.unusedVariables false
set_option maxRecDepth 100000
namespace Go.Proofs.Ytbbaddcldoflfaa
open Go Go.RowKit Own Var Term

theorem shA_size (c t q key : Int) : (shA c t q key).size ≤ 900 := by
  unfold shA
  split
  · exact sealT_size _ _
  · show 0 ≤ 900; omega
/-- What is asked of a service, as a text. -/
def apT (o cl sv k a b e : Int) (tk : ByteArray) (c t q op : Int) : ByteArray := if crOk o cl sv k a b e tk = true then listT [numsT [4, sv, op], tk, shA c t q k] else ⟨#[]⟩
set_option maxHeartbeats 6400000 in
theorem specApply_is (o cl sv k a b e : Int) (tk : ByteArray) (c t q op : Int) (w : World) (ht : tk.size ≤ 1048576) : Calls Try.prog 13 #[.agg #[.int .i64 o, .int .i64 cl, .int .i64 sv, .int .i64 k, .int .i64 a, .int .i64 b, .int .i64 e, .string tk], .agg #[.int .i64 c, .int .i64 t, .int .i64 q], .int .i64 op] w fun en w' => en = .returned (.string (apT o cl sv k a b e tk c t q op)) ∧ Below w.heap.size w w' := by
  have BC : Below w.heap.size w ((w.alloc (.cells #[.int .i64 o, .int .i64 cl, .int .i64 sv, .int .i64 k, .int .i64 a, .int .i64 b, .int .i64 e, .string tk] 30)).alloc (.cells #[.int .i64 c, .int .i64 t, .int .i64 q] 40)) := ((Below.refl _ _).alloc (by simp <;> omega) _).alloc (by simp <;> omega) _
  have TC : Blk w.heap.size [.int .i64 o, .int .i64 cl, .int .i64 sv, .int .i64 k, .int .i64 a, .int .i64 b, .int .i64 e, .string tk] ((w.alloc (.cells #[.int .i64 o, .int .i64 cl, .int .i64 sv, .int .i64 k, .int .i64 a, .int .i64 b, .int .i64 e, .string tk] 30)).alloc (.cells #[.int .i64 c, .int .i64 t, .int .i64 q] 40)) := by have h_ := ((Blk.new w #[.int .i64 o, .int .i64 cl, .int .i64 sv, .int .i64 k, .int .i64 a, .int .i64 b, .int .i64 e, .string tk] 30).alloc (by simp <;> omega) (.cells #[.int .i64 c, .int .i64 t, .int .i64 q] 40)); simpa using h_
  have UC : Blk (w.heap.size + 1) [.int .i64 c, .int .i64 t, .int .i64 q] ((w.alloc (.cells #[.int .i64 o, .int .i64 cl, .int .i64 sv, .int .i64 k, .int .i64 a, .int .i64 b, .int .i64 e, .string tk] 30)).alloc (.cells #[.int .i64 c, .int .i64 t, .int .i64 q] 40)) := by have h_ := (Blk.new (w.alloc (.cells #[.int .i64 o, .int .i64 cl, .int .i64 sv, .int .i64 k, .int .i64 a, .int .i64 b, .int .i64 e, .string tk] 30)) #[.int .i64 c, .int .i64 t, .int .i64 q] 40); simpa using h_
  have ZC : Hid (w.heap.size + 2 ≤ ((w.alloc (.cells #[.int .i64 o, .int .i64 cl, .int .i64 sv, .int .i64 k, .int .i64 a, .int .i64 b, .int .i64 e, .string tk] 30)).alloc (.cells #[.int .i64 c, .int .i64 t, .int .i64 q] 40)).heap.size) := by show _ ≤ _; simp
  go_enter Try.func13, Try.ntmps13
  have q1_ := TC.at 0 rfl
  have q2_ := TC.at 1 rfl
  have q3_ := TC.at 2 rfl
  have q4_ := TC.at 3 rfl
  have q5_ := TC.at 4 rfl
  have q6_ := TC.at 5 rfl
  have q7_ := TC.at 6 rfl
  have q8_ := TC.at 7 rfl
  go_wp2_with fail
  refine (specCred_is o cl sv k a b e tk _ ht).mono ?_
  rintro en w3 ⟨rfl, hb⟩
  have z3 := hb.size
  replace TC := TC.later hb TC.lt
  replace UC := UC.later hb UC.lt
  replace BC := BC.trans (hb.mono BC.size)
  clear hb
  clear q1_ q2_ q3_ q4_ q5_ q6_ q7_ q8_
  replace ZC : Hid (w.heap.size + 2 ≤ w3.heap.size) := Nat.le_trans ZC.out z3
  clear z3
  by_cases h0 : crOk o cl sv k a b e tk = true
  · rw [h0]
    go_wp2_with fail
    have TCD := TC.drew
    have UCD := UC.drew
    have BCD := BC.drew
    have ZCD : Hid (w.heap.size + 2 ≤ w3.drew.heap.size) := ZC
    clear TC UC BC ZC
    have TC := TCD
    have UC := UCD
    have BC := BCD
    have ZC := ZCD
    clear TCD UCD BCD ZCD
    refine wp_region_held_drew (S := (fun Vw => Blk w.heap.size [.int .i64 o, .int .i64 cl, .int .i64 sv, .int .i64 k, .int .i64 a, .int .i64 b, .int .i64 e, .string tk] Vw ∧ Blk (w.heap.size + 1) [.int .i64 c, .int .i64 t, .int .i64 q] Vw)) (by kernel_rfl) ⟨TC, UC⟩ (fun hHeld => ?_)
    refine take_one 0 10 (v := ?_) rfl rfl (by kernel_rfl) (by kernel_rfl) (by kernel_rfl) (fun _ _ _ h => h) (Or.inl ⟨by rfl, ?_⟩) hHeld ?_
    rotate_left
    · intro w' hSw; (try dsimp only at hSw); have d0 := hSw.1.at 0 rfl; have d1 := hSw.1.at 1 rfl; have d2 := hSw.1.at 2 rfl; have d3 := hSw.1.at 3 rfl; have d4 := hSw.1.at 4 rfl; have d5 := hSw.1.at 5 rfl; have d6 := hSw.1.at 6 rfl; have d7 := hSw.1.at 7 rfl; have e0 := hSw.2.at 0 rfl; have e1 := hSw.2.at 1 rfl; have e2 := hSw.2.at 2 rfl; go_simp; try with_reducible rfl
    try simp only [Act.put, List.setIfInBounds_toArray, List.set_cons_zero, List.set_cons_succ]
    refine take_one 1 11 (v := ?_) rfl rfl (by kernel_rfl) (by kernel_rfl) (by kernel_rfl) (fun _ _ _ h => h) (Or.inl ⟨by rfl, ?_⟩) hHeld ?_
    rotate_left
    · intro w' hSw; (try dsimp only at hSw); have d0 := hSw.1.at 0 rfl; have d1 := hSw.1.at 1 rfl; have d2 := hSw.1.at 2 rfl; have d3 := hSw.1.at 3 rfl; have d4 := hSw.1.at 4 rfl; have d5 := hSw.1.at 5 rfl; have d6 := hSw.1.at 6 rfl; have d7 := hSw.1.at 7 rfl; have e0 := hSw.2.at 0 rfl; have e1 := hSw.2.at 1 rfl; have e2 := hSw.2.at 2 rfl; go_simp; try with_reducible rfl
    try simp only [Act.put, List.setIfInBounds_toArray, List.set_cons_zero, List.set_cons_succ]
    refine take_one 2 12 (v := ?_) rfl rfl (by kernel_rfl) (by kernel_rfl) (by kernel_rfl) (fun _ _ _ h => h) (Or.inl ⟨by rfl, ?_⟩) hHeld ?_
    rotate_left
    · intro w' hSw; (try dsimp only at hSw); have d0 := hSw.1.at 0 rfl; have d1 := hSw.1.at 1 rfl; have d2 := hSw.1.at 2 rfl; have d3 := hSw.1.at 3 rfl; have d4 := hSw.1.at 4 rfl; have d5 := hSw.1.at 5 rfl; have d6 := hSw.1.at 6 rfl; have d7 := hSw.1.at 7 rfl; have e0 := hSw.2.at 0 rfl; have e1 := hSw.2.at 1 rfl; have e2 := hSw.2.at 2 rfl; go_simp; try with_reducible rfl
    try simp only [Act.put, List.setIfInBounds_toArray, List.set_cons_zero, List.set_cons_succ]
    refine take_one 5 15 (v := ?_) rfl rfl (by kernel_rfl) (by kernel_rfl) (by kernel_rfl) (fun _ _ _ h => h) (Or.inl ⟨by rfl, ?_⟩) hHeld ?_
    rotate_left
    · intro w' hSw; (try dsimp only at hSw); have d0 := hSw.1.at 0 rfl; have d1 := hSw.1.at 1 rfl; have d2 := hSw.1.at 2 rfl; have d3 := hSw.1.at 3 rfl; have d4 := hSw.1.at 4 rfl; have d5 := hSw.1.at 5 rfl; have d6 := hSw.1.at 6 rfl; have d7 := hSw.1.at 7 rfl; have e0 := hSw.2.at 0 rfl; have e1 := hSw.2.at 1 rfl; have e2 := hSw.2.at 2 rfl; go_simp; try with_reducible rfl
    try simp only [Act.put, List.setIfInBounds_toArray, List.set_cons_zero, List.set_cons_succ]
    refine take_one 6 16 (v := ?_) rfl rfl (by kernel_rfl) (by kernel_rfl) (by kernel_rfl) (fun _ _ _ h => h) (Or.inl ⟨by rfl, ?_⟩) hHeld ?_
    rotate_left
    · intro w' hSw; (try dsimp only at hSw); have d0 := hSw.1.at 0 rfl; have d1 := hSw.1.at 1 rfl; have d2 := hSw.1.at 2 rfl; have d3 := hSw.1.at 3 rfl; have d4 := hSw.1.at 4 rfl; have d5 := hSw.1.at 5 rfl; have d6 := hSw.1.at 6 rfl; have d7 := hSw.1.at 7 rfl; have e0 := hSw.2.at 0 rfl; have e1 := hSw.2.at 1 rfl; have e2 := hSw.2.at 2 rfl; go_simp; try with_reducible rfl
    try simp only [Act.put, List.setIfInBounds_toArray, List.set_cons_zero, List.set_cons_succ]
    refine take_one 7 17 (v := ?_) rfl rfl (by kernel_rfl) (by kernel_rfl) (by kernel_rfl) (fun _ _ _ h => h) (Or.inl ⟨by rfl, ?_⟩) hHeld ?_
    rotate_left
    · intro w' hSw; (try dsimp only at hSw); have d0 := hSw.1.at 0 rfl; have d1 := hSw.1.at 1 rfl; have d2 := hSw.1.at 2 rfl; have d3 := hSw.1.at 3 rfl; have d4 := hSw.1.at 4 rfl; have d5 := hSw.1.at 5 rfl; have d6 := hSw.1.at 6 rfl; have d7 := hSw.1.at 7 rfl; have e0 := hSw.2.at 0 rfl; have e1 := hSw.2.at 1 rfl; have e2 := hSw.2.at 2 rfl; go_simp; try with_reducible rfl
    try simp only [Act.put, List.setIfInBounds_toArray, List.set_cons_zero, List.set_cons_succ]
    refine take_one 8 18 (v := ?_) rfl rfl (by kernel_rfl) (by kernel_rfl) (by kernel_rfl) (fun _ _ _ h => h) (Or.inl ⟨by rfl, ?_⟩) hHeld ?_
    rotate_left
    · intro w' hSw; (try dsimp only at hSw); have d0 := hSw.1.at 0 rfl; have d1 := hSw.1.at 1 rfl; have d2 := hSw.1.at 2 rfl; have d3 := hSw.1.at 3 rfl; have d4 := hSw.1.at 4 rfl; have d5 := hSw.1.at 5 rfl; have d6 := hSw.1.at 6 rfl; have d7 := hSw.1.at 7 rfl; have e0 := hSw.2.at 0 rfl; have e1 := hSw.2.at 1 rfl; have e2 := hSw.2.at 2 rfl; go_simp; try with_reducible rfl
    try simp only [Act.put, List.setIfInBounds_toArray, List.set_cons_zero, List.set_cons_succ]
    refine take_one 9 19 (v := ?_) rfl rfl (by kernel_rfl) (by kernel_rfl) (by kernel_rfl) (fun _ _ _ h => h) (Or.inl ⟨by rfl, ?_⟩) hHeld ?_
    rotate_left
    · intro w' hSw; (try dsimp only at hSw); have d0 := hSw.1.at 0 rfl; have d1 := hSw.1.at 1 rfl; have d2 := hSw.1.at 2 rfl; have d3 := hSw.1.at 3 rfl; have d4 := hSw.1.at 4 rfl; have d5 := hSw.1.at 5 rfl; have d6 := hSw.1.at 6 rfl; have d7 := hSw.1.at 7 rfl; have e0 := hSw.2.at 0 rfl; have e1 := hSw.2.at 1 rfl; have e2 := hSw.2.at 2 rfl; go_simp; try with_reducible rfl
    try simp only [Act.put, List.setIfInBounds_toArray, List.set_cons_zero, List.set_cons_succ]
    obtain ⟨v1, hv1⟩ : ∃ v, (w3.drew).alloc (.cells #[.int .i64 4, .int .i64 sv, .int .i64 op] 3) = v := ⟨_, rfl⟩
    have XA : Below (w3.drew).heap.size (w3.drew) v1 := by rw [← hv1]; exact (Below.refl _ _).alloc (Nat.le_refl _) _
    have TN := TC.later XA (by have := ZC.out; omega)
    have UN := UC.later XA (by have := ZC.out; omega)
    have ZN : Hid (w.heap.size + 2 ≤ v1.heap.size) := Nat.le_trans ZC.out XA.size
    have BN := BC.trans (XA.mono BC.size)
    have RAN : RowAt (Value.int .i64) v1 (some ⟨(w3.drew).heap.size, 0, none⟩) [4, sv, op] := by rw [← hv1]; exact row_new (Value.int .i64) (w3.drew) [4, sv, op] 3
    refine wpAnyH_ready (rs := [3]) (by kernel_rfl) (by simp) ?_
    refine AllReadyH.cons (i := 3) rfl (fun K hK => ?_) AllReadyH.nil
    go_simp
    refine hK.out _ _ (by (try rw [hv1]); exact ⟨TN, UN⟩) (fun hHeld2 => ?_)
    clear hK K hHeld
    have hHeld := hHeld2
    clear hHeld2
    try simp only [Act.put, List.setIfInBounds_toArray, List.set_cons_zero, List.set_cons_succ]
    clear TC UC ZC BC
    have TC := TN
    have UC := UN
    have ZC := ZN
    have BC := BN
    clear TN UN ZN BN
    have RA := RAN
    clear RAN XA
    try rw [hv1]
    clear hv1
    refine wpAnyH_ready (rs := [4]) (by kernel_rfl) (by simp) ?_
    refine AllReadyH.cons (i := 4) rfl (fun K hK => ?_) AllReadyH.nil
    go_simp
    refine (spec_nums _ 3 [4, sv, op] _ RA (by simp)).mono ?_
    rintro en v2 ⟨rfl, hv2⟩
    have TN := TC.later hv2 (by have := ZC.out; omega)
    have UN := UC.later hv2 (by have := ZC.out; omega)
    have ZN : Hid (w.heap.size + 2 ≤ v2.heap.size) := Nat.le_trans ZC.out hv2.size
    have BN := BC.trans (hv2.mono BC.size)
    have RAN := RowAt.later RA hv2
    clear TC UC ZC BC RA
    have TC := TN
    have UC := UN
    have ZC := ZN
    have BC := BN
    have RA := RAN
    clear TN UN ZN BN RAN
    clear hv2
    go_wp2_with fail
    refine hK.out _ _ ⟨TC, UC⟩ (fun hHeld2 => ?_)
    clear hK K hHeld
    have hHeld := hHeld2
    clear hHeld2
    try simp only [Act.put, List.setIfInBounds_toArray, List.set_cons_zero, List.set_cons_succ]
    clear RA
    refine wpAnyH_ready (rs := [10]) (by kernel_rfl) (by simp) ?_
    refine AllReadyH.cons (i := 10) rfl (fun K hK => ?_) AllReadyH.nil
    go_simp
    refine (specShowA_is c t q k _).mono ?_
    rintro en v3 ⟨rfl, hv3⟩
    have TN := TC.later hv3 (by have := ZC.out; omega)
    have UN := UC.later hv3 (by have := ZC.out; omega)
    have ZN : Hid (w.heap.size + 2 ≤ v3.heap.size) := Nat.le_trans ZC.out hv3.size
    have BN := BC.trans (hv3.mono BC.size)
    clear TC UC ZC BC
    have TC := TN
    have UC := UN
    have ZC := ZN
    have BC := BN
    clear TN UN ZN BN
    clear hv3
    go_wp2_with fail
    refine hK.out _ _ ⟨TC, UC⟩ (fun hHeld2 => ?_)
    clear hK K hHeld
    have hHeld := hHeld2
    clear hHeld2
    try simp only [Act.put, List.setIfInBounds_toArray, List.set_cons_zero, List.set_cons_succ]
    obtain ⟨v4, hv4⟩ : ∃ v, (v3).alloc (.cells #[.string (numsT [4, sv, op]), .string tk, .string (shA c t q k)] 9) = v := ⟨_, rfl⟩
    have XA : Below (v3).heap.size (v3) v4 := by rw [← hv4]; exact (Below.refl _ _).alloc (Nat.le_refl _) _
    have TN := TC.later XA (by have := ZC.out; omega)
    have UN := UC.later XA (by have := ZC.out; omega)
    have ZN : Hid (w.heap.size + 2 ≤ v4.heap.size) := Nat.le_trans ZC.out XA.size
    have BN := BC.trans (XA.mono BC.size)
    have RLN : RowAt Value.string v4 (some ⟨(v3).heap.size, 0, none⟩) [numsT [4, sv, op], tk, shA c t q k] := by rw [← hv4]; exact row_new Value.string (v3) [numsT [4, sv, op], tk, shA c t q k] 9
    refine wpAnyH_ready (rs := [11]) (by kernel_rfl) (by simp) ?_
    refine AllReadyH.cons (i := 11) rfl (fun K hK => ?_) AllReadyH.nil
    go_simp
    refine hK.out _ _ (by (try rw [hv4]); exact ⟨TN, UN⟩) (fun hHeld2 => ?_)
    clear hK K hHeld
    have hHeld := hHeld2
    clear hHeld2
    try simp only [Act.put, List.setIfInBounds_toArray, List.set_cons_zero, List.set_cons_succ]
    clear TC UC ZC BC
    have TC := TN
    have UC := UN
    have ZC := ZN
    have BC := BN
    clear TN UN ZN BN
    have RL := RLN
    clear RLN XA
    try rw [hv4]
    clear hv4
    refine wpAnyH_ready (rs := [12]) (by kernel_rfl) (by simp) ?_
    refine AllReadyH.cons (i := 12) rfl (fun K hK => ?_) AllReadyH.nil
    go_simp
    refine (spec_list _ 3 [numsT [4, sv, op], tk, shA c t q k] _ RL (by simp) (by intro x hx; simp only [List.mem_cons, List.not_mem_nil, or_false] at hx; rcases hx with rfl | rfl | rfl; exact Nat.le_trans (listT_size _) (by omega); exact Nat.le_trans ht (by omega); exact Nat.le_trans (shA_size c t q k) (by omega))).mono ?_
    rintro en v5 ⟨rfl, hv5⟩
    have TN := TC.later hv5 (by have := ZC.out; omega)
    have UN := UC.later hv5 (by have := ZC.out; omega)
    have ZN : Hid (w.heap.size + 2 ≤ v5.heap.size) := Nat.le_trans ZC.out hv5.size
    have BN := BC.trans (hv5.mono BC.size)
    have RLN := RowAt.later RL hv5
    clear TC UC ZC BC RL
    have TC := TN
    have UC := UN
    have ZC := ZN
    have BC := BN
    have RL := RLN
    clear TN UN ZN BN RLN
    clear hv5
    go_wp2_with fail
    refine hK.out _ _ ⟨TC, UC⟩ (fun hHeld2 => ?_)
    clear hK K hHeld
    have hHeld := hHeld2
    clear hHeld2
    try simp only [Act.put, List.setIfInBounds_toArray, List.set_cons_zero, List.set_cons_succ]
    clear RL
    refine take_one 13 6 (v := ?_) rfl rfl (by kernel_rfl) (by kernel_rfl) (by kernel_rfl) (fun _ _ _ h => h) (Or.inl ⟨by rfl, ?_⟩) hHeld ?_
    rotate_left
    · intro w' hSw; (try dsimp only at hSw); have d0 := hSw.1.at 0 rfl; have d1 := hSw.1.at 1 rfl; have d2 := hSw.1.at 2 rfl; have d3 := hSw.1.at 3 rfl; have d4 := hSw.1.at 4 rfl; have d5 := hSw.1.at 5 rfl; have d6 := hSw.1.at 6 rfl; have d7 := hSw.1.at 7 rfl; have e0 := hSw.2.at 0 rfl; have e1 := hSw.2.at 1 rfl; have e2 := hSw.2.at 2 rfl; go_simp; try with_reducible rfl
    try simp only [Act.put, List.setIfInBounds_toArray, List.set_cons_zero, List.set_cons_succ]
    refine wpAnyH_done (by kernel_rfl) ?_ _
    go_wp2
    go_ret
    exact ⟨by unfold apT; rw [if_pos h0]; rfl, BC⟩
  · have h1 := h0
    rw [Bool.not_eq_true] at h1
    rw [h1]
    go_wp2
    go_ret
    exact ⟨by unfold apT; rw [if_neg h0]; rfl, BC⟩
set_option maxHeartbeats 6400000 in
theorem implApply_is (o cl sv k a b e : Int) (tk : ByteArray) (c t q op : Int) (w : World) (hs : i64 sv) (ht : tk.size ≤ 1048576) : Calls Try.prog 15 #[.agg #[.int .i64 o, .int .i64 cl, .int .i64 sv, .int .i64 k, .int .i64 a, .int .i64 b, .int .i64 e, .string tk], .agg #[.int .i64 c, .int .i64 t, .int .i64 q], .int .i64 op] w fun en w' => en = .returned (.string (apT o cl sv k a b e tk c t q op)) ∧ Below w.heap.size w w' := by
  have BC : Below w.heap.size w ((w.alloc (.cells #[.int .i64 o, .int .i64 cl, .int .i64 sv, .int .i64 k, .int .i64 a, .int .i64 b, .int .i64 e, .string tk] 30)).alloc (.cells #[.int .i64 c, .int .i64 t, .int .i64 q] 40)) := ((Below.refl _ _).alloc (by simp <;> omega) _).alloc (by simp <;> omega) _
  have TC : Blk w.heap.size [.int .i64 o, .int .i64 cl, .int .i64 sv, .int .i64 k, .int .i64 a, .int .i64 b, .int .i64 e, .string tk] ((w.alloc (.cells #[.int .i64 o, .int .i64 cl, .int .i64 sv, .int .i64 k, .int .i64 a, .int .i64 b, .int .i64 e, .string tk] 30)).alloc (.cells #[.int .i64 c, .int .i64 t, .int .i64 q] 40)) := by have h_ := ((Blk.new w #[.int .i64 o, .int .i64 cl, .int .i64 sv, .int .i64 k, .int .i64 a, .int .i64 b, .int .i64 e, .string tk] 30).alloc (by simp <;> omega) (.cells #[.int .i64 c, .int .i64 t, .int .i64 q] 40)); simpa using h_
  have UC : Blk (w.heap.size + 1) [.int .i64 c, .int .i64 t, .int .i64 q] ((w.alloc (.cells #[.int .i64 o, .int .i64 cl, .int .i64 sv, .int .i64 k, .int .i64 a, .int .i64 b, .int .i64 e, .string tk] 30)).alloc (.cells #[.int .i64 c, .int .i64 t, .int .i64 q] 40)) := by have h_ := (Blk.new (w.alloc (.cells #[.int .i64 o, .int .i64 cl, .int .i64 sv, .int .i64 k, .int .i64 a, .int .i64 b, .int .i64 e, .string tk] 30)) #[.int .i64 c, .int .i64 t, .int .i64 q] 40); simpa using h_
  have ZC : Hid (w.heap.size + 2 ≤ ((w.alloc (.cells #[.int .i64 o, .int .i64 cl, .int .i64 sv, .int .i64 k, .int .i64 a, .int .i64 b, .int .i64 e, .string tk] 30)).alloc (.cells #[.int .i64 c, .int .i64 t, .int .i64 q] 40)).heap.size) := by show _ ≤ _; simp
  go_enter Try.func15, Try.ntmps15
  have q1_ := TC.at 0 rfl
  have q2_ := TC.at 1 rfl
  have q3_ := TC.at 2 rfl
  have q4_ := TC.at 3 rfl
  have q5_ := TC.at 4 rfl
  have q6_ := TC.at 5 rfl
  have q7_ := TC.at 6 rfl
  have q8_ := TC.at 7 rfl
  go_wp2_with fail
  refine (credRight_is o cl sv k a b e tk _ hs ht).mono ?_
  rintro en w3 ⟨rfl, hb⟩
  have z3 := hb.size
  replace TC := TC.later hb TC.lt
  replace UC := UC.later hb UC.lt
  replace BC := BC.trans (hb.mono BC.size)
  clear hb
  clear q1_ q2_ q3_ q4_ q5_ q6_ q7_ q8_
  replace ZC : Hid (w.heap.size + 2 ≤ w3.heap.size) := Nat.le_trans ZC.out z3
  clear z3
  by_cases h0 : crOk o cl sv k a b e tk = true
  · rw [h0]
    go_wp2_with fail
    have TCD := TC.drew
    have UCD := UC.drew
    have BCD := BC.drew
    have ZCD : Hid (w.heap.size + 2 ≤ w3.drew.heap.size) := ZC
    clear TC UC BC ZC
    have TC := TCD
    have UC := UCD
    have BC := BCD
    have ZC := ZCD
    clear TCD UCD BCD ZCD
    refine wp_region_held_drew (S := (fun Vw => Blk w.heap.size [.int .i64 o, .int .i64 cl, .int .i64 sv, .int .i64 k, .int .i64 a, .int .i64 b, .int .i64 e, .string tk] Vw ∧ Blk (w.heap.size + 1) [.int .i64 c, .int .i64 t, .int .i64 q] Vw)) (by kernel_rfl) ⟨TC, UC⟩ (fun hHeld => ?_)
    refine take_one 0 10 (v := ?_) rfl rfl (by kernel_rfl) (by kernel_rfl) (by kernel_rfl) (fun _ _ _ h => h) (Or.inl ⟨by rfl, ?_⟩) hHeld ?_
    rotate_left
    · intro w' hSw; (try dsimp only at hSw); have d0 := hSw.1.at 0 rfl; have d1 := hSw.1.at 1 rfl; have d2 := hSw.1.at 2 rfl; have d3 := hSw.1.at 3 rfl; have d4 := hSw.1.at 4 rfl; have d5 := hSw.1.at 5 rfl; have d6 := hSw.1.at 6 rfl; have d7 := hSw.1.at 7 rfl; have e0 := hSw.2.at 0 rfl; have e1 := hSw.2.at 1 rfl; have e2 := hSw.2.at 2 rfl; go_simp; try with_reducible rfl
    try simp only [Act.put, List.setIfInBounds_toArray, List.set_cons_zero, List.set_cons_succ]
    refine take_one 1 11 (v := ?_) rfl rfl (by kernel_rfl) (by kernel_rfl) (by kernel_rfl) (fun _ _ _ h => h) (Or.inl ⟨by rfl, ?_⟩) hHeld ?_
    rotate_left
    · intro w' hSw; (try dsimp only at hSw); have d0 := hSw.1.at 0 rfl; have d1 := hSw.1.at 1 rfl; have d2 := hSw.1.at 2 rfl; have d3 := hSw.1.at 3 rfl; have d4 := hSw.1.at 4 rfl; have d5 := hSw.1.at 5 rfl; have d6 := hSw.1.at 6 rfl; have d7 := hSw.1.at 7 rfl; have e0 := hSw.2.at 0 rfl; have e1 := hSw.2.at 1 rfl; have e2 := hSw.2.at 2 rfl; go_simp; try with_reducible rfl
    try simp only [Act.put, List.setIfInBounds_toArray, List.set_cons_zero, List.set_cons_succ]
    refine take_one 2 12 (v := ?_) rfl rfl (by kernel_rfl) (by kernel_rfl) (by kernel_rfl) (fun _ _ _ h => h) (Or.inl ⟨by rfl, ?_⟩) hHeld ?_
    rotate_left
    · intro w' hSw; (try dsimp only at hSw); have d0 := hSw.1.at 0 rfl; have d1 := hSw.1.at 1 rfl; have d2 := hSw.1.at 2 rfl; have d3 := hSw.1.at 3 rfl; have d4 := hSw.1.at 4 rfl; have d5 := hSw.1.at 5 rfl; have d6 := hSw.1.at 6 rfl; have d7 := hSw.1.at 7 rfl; have e0 := hSw.2.at 0 rfl; have e1 := hSw.2.at 1 rfl; have e2 := hSw.2.at 2 rfl; go_simp; try with_reducible rfl
    try simp only [Act.put, List.setIfInBounds_toArray, List.set_cons_zero, List.set_cons_succ]
    refine take_one 5 15 (v := ?_) rfl rfl (by kernel_rfl) (by kernel_rfl) (by kernel_rfl) (fun _ _ _ h => h) (Or.inl ⟨by rfl, ?_⟩) hHeld ?_
    rotate_left
    · intro w' hSw; (try dsimp only at hSw); have d0 := hSw.1.at 0 rfl; have d1 := hSw.1.at 1 rfl; have d2 := hSw.1.at 2 rfl; have d3 := hSw.1.at 3 rfl; have d4 := hSw.1.at 4 rfl; have d5 := hSw.1.at 5 rfl; have d6 := hSw.1.at 6 rfl; have d7 := hSw.1.at 7 rfl; have e0 := hSw.2.at 0 rfl; have e1 := hSw.2.at 1 rfl; have e2 := hSw.2.at 2 rfl; go_simp; try with_reducible rfl
    try simp only [Act.put, List.setIfInBounds_toArray, List.set_cons_zero, List.set_cons_succ]
    refine take_one 6 16 (v := ?_) rfl rfl (by kernel_rfl) (by kernel_rfl) (by kernel_rfl) (fun _ _ _ h => h) (Or.inl ⟨by rfl, ?_⟩) hHeld ?_
    rotate_left
    · intro w' hSw; (try dsimp only at hSw); have d0 := hSw.1.at 0 rfl; have d1 := hSw.1.at 1 rfl; have d2 := hSw.1.at 2 rfl; have d3 := hSw.1.at 3 rfl; have d4 := hSw.1.at 4 rfl; have d5 := hSw.1.at 5 rfl; have d6 := hSw.1.at 6 rfl; have d7 := hSw.1.at 7 rfl; have e0 := hSw.2.at 0 rfl; have e1 := hSw.2.at 1 rfl; have e2 := hSw.2.at 2 rfl; go_simp; try with_reducible rfl
    try simp only [Act.put, List.setIfInBounds_toArray, List.set_cons_zero, List.set_cons_succ]
    refine take_one 7 17 (v := ?_) rfl rfl (by kernel_rfl) (by kernel_rfl) (by kernel_rfl) (fun _ _ _ h => h) (Or.inl ⟨by rfl, ?_⟩) hHeld ?_
    rotate_left
    · intro w' hSw; (try dsimp only at hSw); have d0 := hSw.1.at 0 rfl; have d1 := hSw.1.at 1 rfl; have d2 := hSw.1.at 2 rfl; have d3 := hSw.1.at 3 rfl; have d4 := hSw.1.at 4 rfl; have d5 := hSw.1.at 5 rfl; have d6 := hSw.1.at 6 rfl; have d7 := hSw.1.at 7 rfl; have e0 := hSw.2.at 0 rfl; have e1 := hSw.2.at 1 rfl; have e2 := hSw.2.at 2 rfl; go_simp; try with_reducible rfl
    try simp only [Act.put, List.setIfInBounds_toArray, List.set_cons_zero, List.set_cons_succ]
    refine take_one 8 18 (v := ?_) rfl rfl (by kernel_rfl) (by kernel_rfl) (by kernel_rfl) (fun _ _ _ h => h) (Or.inl ⟨by rfl, ?_⟩) hHeld ?_
    rotate_left
    · intro w' hSw; (try dsimp only at hSw); have d0 := hSw.1.at 0 rfl; have d1 := hSw.1.at 1 rfl; have d2 := hSw.1.at 2 rfl; have d3 := hSw.1.at 3 rfl; have d4 := hSw.1.at 4 rfl; have d5 := hSw.1.at 5 rfl; have d6 := hSw.1.at 6 rfl; have d7 := hSw.1.at 7 rfl; have e0 := hSw.2.at 0 rfl; have e1 := hSw.2.at 1 rfl; have e2 := hSw.2.at 2 rfl; go_simp; try with_reducible rfl
    try simp only [Act.put, List.setIfInBounds_toArray, List.set_cons_zero, List.set_cons_succ]
    refine take_one 9 19 (v := ?_) rfl rfl (by kernel_rfl) (by kernel_rfl) (by kernel_rfl) (fun _ _ _ h => h) (Or.inl ⟨by rfl, ?_⟩) hHeld ?_
    rotate_left
    · intro w' hSw; (try dsimp only at hSw); have d0 := hSw.1.at 0 rfl; have d1 := hSw.1.at 1 rfl; have d2 := hSw.1.at 2 rfl; have d3 := hSw.1.at 3 rfl; have d4 := hSw.1.at 4 rfl; have d5 := hSw.1.at 5 rfl; have d6 := hSw.1.at 6 rfl; have d7 := hSw.1.at 7 rfl; have e0 := hSw.2.at 0 rfl; have e1 := hSw.2.at 1 rfl; have e2 := hSw.2.at 2 rfl; go_simp; try with_reducible rfl
    try simp only [Act.put, List.setIfInBounds_toArray, List.set_cons_zero, List.set_cons_succ]
    obtain ⟨v1, hv1⟩ : ∃ v, (w3.drew).alloc (.cells #[.int .i64 4, .int .i64 sv, .int .i64 op] 3) = v := ⟨_, rfl⟩
    have XA : Below (w3.drew).heap.size (w3.drew) v1 := by rw [← hv1]; exact (Below.refl _ _).alloc (Nat.le_refl _) _
    have TN := TC.later XA (by have := ZC.out; omega)
    have UN := UC.later XA (by have := ZC.out; omega)
    have ZN : Hid (w.heap.size + 2 ≤ v1.heap.size) := Nat.le_trans ZC.out XA.size
    have BN := BC.trans (XA.mono BC.size)
    have RAN : RowAt (Value.int .i64) v1 (some ⟨(w3.drew).heap.size, 0, none⟩) [4, sv, op] := by rw [← hv1]; exact row_new (Value.int .i64) (w3.drew) [4, sv, op] 3
    refine wpAnyH_ready (rs := [3]) (by kernel_rfl) (by simp) ?_
    refine AllReadyH.cons (i := 3) rfl (fun K hK => ?_) AllReadyH.nil
    go_simp
    refine hK.out _ _ (by (try rw [hv1]); exact ⟨TN, UN⟩) (fun hHeld2 => ?_)
    clear hK K hHeld
    have hHeld := hHeld2
    clear hHeld2
    try simp only [Act.put, List.setIfInBounds_toArray, List.set_cons_zero, List.set_cons_succ]
    clear TC UC ZC BC
    have TC := TN
    have UC := UN
    have ZC := ZN
    have BC := BN
    clear TN UN ZN BN
    have RA := RAN
    clear RAN XA
    try rw [hv1]
    clear hv1
    refine wpAnyH_ready (rs := [4]) (by kernel_rfl) (by simp) ?_
    refine AllReadyH.cons (i := 4) rfl (fun K hK => ?_) AllReadyH.nil
    go_simp
    refine (impl_nums _ 3 [4, sv, op] _ RA (by simp)).mono ?_
    rintro en v2 ⟨rfl, hv2⟩
    have TN := TC.later hv2 (by have := ZC.out; omega)
    have UN := UC.later hv2 (by have := ZC.out; omega)
    have ZN : Hid (w.heap.size + 2 ≤ v2.heap.size) := Nat.le_trans ZC.out hv2.size
    have BN := BC.trans (hv2.mono BC.size)
    have RAN := RowAt.later RA hv2
    clear TC UC ZC BC RA
    have TC := TN
    have UC := UN
    have ZC := ZN
    have BC := BN
    have RA := RAN
    clear TN UN ZN BN RAN
    clear hv2
    go_wp2_with fail
    refine hK.out _ _ ⟨TC, UC⟩ (fun hHeld2 => ?_)
    clear hK K hHeld
    have hHeld := hHeld2
    clear hHeld2
    try simp only [Act.put, List.setIfInBounds_toArray, List.set_cons_zero, List.set_cons_succ]
    clear RA
    refine wpAnyH_ready (rs := [10]) (by kernel_rfl) (by simp) ?_
    refine AllReadyH.cons (i := 10) rfl (fun K hK => ?_) AllReadyH.nil
    go_simp
    refine (implShowA_is c t q k _).mono ?_
    rintro en v3 ⟨rfl, hv3⟩
    have TN := TC.later hv3 (by have := ZC.out; omega)
    have UN := UC.later hv3 (by have := ZC.out; omega)
    have ZN : Hid (w.heap.size + 2 ≤ v3.heap.size) := Nat.le_trans ZC.out hv3.size
    have BN := BC.trans (hv3.mono BC.size)
    clear TC UC ZC BC
    have TC := TN
    have UC := UN
    have ZC := ZN
    have BC := BN
    clear TN UN ZN BN
    clear hv3
    go_wp2_with fail
    refine hK.out _ _ ⟨TC, UC⟩ (fun hHeld2 => ?_)
    clear hK K hHeld
    have hHeld := hHeld2
    clear hHeld2
    try simp only [Act.put, List.setIfInBounds_toArray, List.set_cons_zero, List.set_cons_succ]
    obtain ⟨v4, hv4⟩ : ∃ v, (v3).alloc (.cells #[.string (numsT [4, sv, op]), .string tk, .string (shA c t q k)] 9) = v := ⟨_, rfl⟩
    have XA : Below (v3).heap.size (v3) v4 := by rw [← hv4]; exact (Below.refl _ _).alloc (Nat.le_refl _) _
    have TN := TC.later XA (by have := ZC.out; omega)
    have UN := UC.later XA (by have := ZC.out; omega)
    have ZN : Hid (w.heap.size + 2 ≤ v4.heap.size) := Nat.le_trans ZC.out XA.size
    have BN := BC.trans (XA.mono BC.size)
    have RLN : RowAt Value.string v4 (some ⟨(v3).heap.size, 0, none⟩) [numsT [4, sv, op], tk, shA c t q k] := by rw [← hv4]; exact row_new Value.string (v3) [numsT [4, sv, op], tk, shA c t q k] 9
    refine wpAnyH_ready (rs := [11]) (by kernel_rfl) (by simp) ?_
    refine AllReadyH.cons (i := 11) rfl (fun K hK => ?_) AllReadyH.nil
    go_simp
    refine hK.out _ _ (by (try rw [hv4]); exact ⟨TN, UN⟩) (fun hHeld2 => ?_)
    clear hK K hHeld
    have hHeld := hHeld2
    clear hHeld2
    try simp only [Act.put, List.setIfInBounds_toArray, List.set_cons_zero, List.set_cons_succ]
    clear TC UC ZC BC
    have TC := TN
    have UC := UN
    have ZC := ZN
    have BC := BN
    clear TN UN ZN BN
    have RL := RLN
    clear RLN XA
    try rw [hv4]
    clear hv4
    refine wpAnyH_ready (rs := [12]) (by kernel_rfl) (by simp) ?_
    refine AllReadyH.cons (i := 12) rfl (fun K hK => ?_) AllReadyH.nil
    go_simp
    refine (impl_list _ 3 [numsT [4, sv, op], tk, shA c t q k] _ RL (by simp) (by simp) (by intro x hx; simp only [List.mem_cons, List.not_mem_nil, or_false] at hx; rcases hx with rfl | rfl | rfl; exact Nat.le_trans (listT_size _) (by omega); exact Nat.le_trans ht (by omega); exact Nat.le_trans (shA_size c t q k) (by omega))).mono ?_
    rintro en v5 ⟨rfl, hv5⟩
    have TN := TC.later hv5 (by have := ZC.out; omega)
    have UN := UC.later hv5 (by have := ZC.out; omega)
    have ZN : Hid (w.heap.size + 2 ≤ v5.heap.size) := Nat.le_trans ZC.out hv5.size
    have BN := BC.trans (hv5.mono BC.size)
    have RLN := RowAt.later RL hv5
    clear TC UC ZC BC RL
    have TC := TN
    have UC := UN
    have ZC := ZN
    have BC := BN
    have RL := RLN
    clear TN UN ZN BN RLN
    clear hv5
    go_wp2_with fail
    refine hK.out _ _ ⟨TC, UC⟩ (fun hHeld2 => ?_)
    clear hK K hHeld
    have hHeld := hHeld2
    clear hHeld2
    try simp only [Act.put, List.setIfInBounds_toArray, List.set_cons_zero, List.set_cons_succ]
    clear RL
    refine take_one 13 6 (v := ?_) rfl rfl (by kernel_rfl) (by kernel_rfl) (by kernel_rfl) (fun _ _ _ h => h) (Or.inl ⟨by rfl, ?_⟩) hHeld ?_
    rotate_left
    · intro w' hSw; (try dsimp only at hSw); have d0 := hSw.1.at 0 rfl; have d1 := hSw.1.at 1 rfl; have d2 := hSw.1.at 2 rfl; have d3 := hSw.1.at 3 rfl; have d4 := hSw.1.at 4 rfl; have d5 := hSw.1.at 5 rfl; have d6 := hSw.1.at 6 rfl; have d7 := hSw.1.at 7 rfl; have e0 := hSw.2.at 0 rfl; have e1 := hSw.2.at 1 rfl; have e2 := hSw.2.at 2 rfl; go_simp; try with_reducible rfl
    try simp only [Act.put, List.setIfInBounds_toArray, List.set_cons_zero, List.set_cons_succ]
    refine wpAnyH_done (by kernel_rfl) ?_ _
    go_wp2
    go_ret
    exact ⟨by unfold apT; rw [if_pos h0]; rfl, BC⟩
  · have h1 := h0
    rw [Bool.not_eq_true] at h1
    rw [h1]
    go_wp2
    go_ret
    exact ⟨by unfold apT; rw [if_neg h0]; rfl, BC⟩
end Go.Proofs.Ytbbaddcldoflfaa
