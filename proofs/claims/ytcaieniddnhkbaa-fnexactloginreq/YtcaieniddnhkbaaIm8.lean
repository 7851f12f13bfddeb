/- Chapter 8: the program's requests. -/
import Derived.Test.YtcaieniddnhkbaaSp8b
import Derived.Test.YtcaieniddnhkbaaSp8d
set_option linter.unusedVariables false
set_option maxRecDepth 100000
namespace Go.Proofs.Ytcaieniddnhkbaa
open Go Go.RowKit Own Var Term

theorem isT_none : isT ⟨#[]⟩ = false := by decide
theorem noB_inB (n : Int) : noB n = !inB n 1000000 := by unfold noB inB btw; rfl
theorem lg_alt (p now nonce : Int) (h1 : noB now = false) (h2 : noB nonce = false) : lgT p now nonce = listT [numsT [1, p, nonce], sealT (pkV p) (numsT [8, now])] := by
  unfold lgT
  rw [h1, h2]
  by_cases h : btw p 0 5 = true
  · rw [h]; rfl
  · rw [Bool.not_eq_true] at h
    have hk : pkV p = 0 := by
      unfold pkV
      rw [h, if_neg, if_neg (by decide)]
      intro e
      unfold btw at e h
      simp only [Bool.and_eq_true, decide_eq_true_eq, Bool.and_eq_false_iff, decide_eq_false_iff_not] at e h
      omega
    rw [h, hk, show sealT 0 (numsT [8, now]) = ⟨#[]⟩ from by unfold sealT; rw [if_neg (by omega)]]
    unfold listT
    rw [if_neg (c := _ ∧ _)]
    · rfl
    · rintro ⟨_, e⟩
      simp only [List.all_cons, List.all_nil, Bool.and_true, Bool.and_eq_true] at e
      rw [isT_none] at e
      exact absurd e.2 (by decide)
theorem lg_no (p now nonce : Int) (h : noB now = true ∨ noB nonce = true) : lgT p now nonce = ⟨#[]⟩ := by
  unfold lgT
  rw [if_pos]
  rcases h with h | h <;> simp [h]

set_option maxHeartbeats 800000 in
theorem toAuth_is (c t q : Int) (w : World) : Calls Try.prog 8 #[.agg #[.int .i64 c, .int .i64 t, .int .i64 q]] w fun en w' => en = .returned (.agg #[.int .i64 c, .int .i64 t, .int .i64 q]) ∧ Below w.heap.size w w' := by
  have hb0 : Below w.heap.size w (((w.alloc (.cells #[.int .i64 c, .int .i64 t, .int .i64 q] 25)).alloc (.cells #[.int .i64 c, .int .i64 t, .int .i64 q] 29)).alloc (.cells #[.int .i64 c, .int .i64 t, .int .i64 q] 29)) :=
    (((Below.refl _ _).alloc (Nat.le_refl _) _).alloc (by simp) _).alloc (by simp; omega) _
  go_enter Try.func8, Try.ntmps8
  go_wp2
  exact bodyPost_ret (res_a rfl _ _ (w.heap.size + 1) _ _ _ rfl (by simp [go_sem]) (by simp [go_sem]) (by simp [go_sem])) rfl ⟨rfl, hb0⟩
set_option maxHeartbeats 800000 in
theorem toRest_is (a b c : Int) (w : World) : Calls Try.prog 9 #[rv a b c] w fun e w' => e = .returned (rv a b c) ∧ Below w.heap.size w w' := by
  have hb0 : Below w.heap.size w (((w.alloc (.cells #[.int .i64 a, .int .i64 b, .int .i64 c] 27)).alloc (.cells #[.int .i64 a, .int .i64 b, .int .i64 c] 31)).alloc (.cells #[.int .i64 a, .int .i64 b, .int .i64 c] 31)) :=
    (((Below.refl _ _).alloc (Nat.le_refl _) _).alloc (by simp) _).alloc (by simp; omega) _
  go_enter Try.func9, Try.ntmps9
  go_wp2
  exact bodyPost_ret (res_three rfl _ _ (w.heap.size + 1) _ _ _ rfl (by simp [go_sem]) (by simp [go_sem]) (by simp [go_sem])) rfl ⟨rfl, hb0⟩
set_option maxHeartbeats 800000 in
theorem implShowA_is (c t q : Int) (key : Int) (w : World) : Calls Try.prog 26 #[.agg #[.int .i64 c, .int .i64 t, .int .i64 q], .int .i64 key] w fun en w' => en = .returned (.string (shA c t q key)) ∧ Below w.heap.size w w' := by
  have B0 : Below w.heap.size w (w.alloc (.cells #[.int .i64 c, .int .i64 t, .int .i64 q] 29)) := (Below.refl _ _).alloc (Nat.le_refl _) _
  go_enter Try.func26, Try.ntmps26
  go_wp2_with fail
  refine (showA_is c t q key _).mono ?_
  rintro en w1 ⟨rfl, hb1⟩
  have B1 := B0.trans (hb1.mono B0.size)
  clear B0 hb1
  go_wp2
  go_ret
  exact ⟨rfl, B1⟩
set_option maxHeartbeats 6400000 in
theorem implLogin_is (p now nonce : Int) (w : World) : Calls Try.prog 6 #[.int .i64 p, .int .i64 now, .int .i64 nonce] w fun e w' => e = .returned (.string (lgT p now nonce)) ∧ Below w.heap.size w w' := by
  have q1 := noB_inB now
  have q2 := noB_inB nonce
  go_enter Try.func6, Try.ntmps6
  go_wp2_with fail
  refine (within_is now _ _).mono ?_
  rintro e w1 ⟨rfl, rfl⟩
  by_cases h1 : inB now 1000000 = true
  · rw [h1] at q1 ⊢
    go_wp2_with fail
    refine (within_is nonce _ _).mono ?_
    rintro e w1 ⟨rfl, rfl⟩
    by_cases h2 : inB nonce 1000000 = true
    · rw [h2] at q2 ⊢
      have HR := lg_alt p now nonce q1 q2
      clear q1 q2 h1 h2
      have B1 := (Below.refl w.heap.size w).alloc (Nat.le_refl _) (.cells #[.int .i64 1, .int .i64 p, .int .i64 nonce] 3)
      have HN := impl_nums (some ⟨w.heap.size, 0, none⟩) 3 [1, p, nonce] _ (row_new (Value.int .i64) w [1, p, nonce] 3) (by simp)
      go_wp2_with fail
      refine HN.mono ?_
      rintro en w2 ⟨rfl, hb2⟩
      have B2 := B1.trans (hb2.mono B1.size)
      clear HN B1 hb2
      go_wp2_with fail
      refine (implPK_is p _).mono ?_
      rintro en w3 ⟨rfl, rfl⟩
      have X3 := (Below.refl w2.heap.size w2).alloc (Nat.le_refl _) (.cells #[.int .i64 8, .int .i64 now] 3)
      have B3 := B2.trans (X3.mono B2.size)
      have HN := impl_nums (some ⟨w2.heap.size, 0, none⟩) 2 [8, now] _ (row_new (Value.int .i64) w2 [8, now] 3) (by simp)
      go_wp2_with fail
      refine HN.mono ?_
      rintro en w4 ⟨rfl, hb4⟩
      have B4 := B3.trans (hb4.mono B3.size)
      clear HN B3 hb4 X3 B2
      go_wp2_with fail
      refine (impl_seal (pkV p) (numsT [8, now]) _ (Nat.le_trans (listT_size _) (by omega))).mono ?_
      rintro en w5 ⟨rfl, hb5⟩
      have B5 := B4.trans (hb5.mono B4.size)
      clear B4 hb5
      have X6 := (Below.refl w5.heap.size w5).alloc (Nat.le_refl _) (.cells #[.string (numsT [1, p, nonce]), .string (sealT (pkV p) (numsT [8, now]))] 9)
      have B6 := B5.trans (X6.mono B5.size)
      have HL := impl_list (some ⟨w5.heap.size, 0, none⟩) 2 [numsT [1, p, nonce], sealT (pkV p) (numsT [8, now])] _ (row_new Value.string w5 [numsT [1, p, nonce], sealT (pkV p) (numsT [8, now])] 9) (by simp) (by simp) (by intro x hx; simp only [List.mem_cons, List.not_mem_nil, or_false] at hx; rcases hx with rfl | rfl <;> first | exact Nat.le_trans (listT_size _) (by omega) | exact Nat.le_trans (sealT_size _ _) (by omega))
      go_wp2_with fail
      refine HL.mono ?_
      rintro en w7 ⟨rfl, hb7⟩
      have B7 := B6.trans (hb7.mono B6.size)
      clear HL B6 hb7 X6 B5
      go_wp2
      go_ret
      exact ⟨by rw [HR]; rfl, B7⟩
    · rw [Bool.not_eq_true] at h2
      rw [h2] at q2 ⊢
      go_wp2
      go_ret
      exact ⟨by rw [lg_no p now nonce (Or.inr q2)]; rfl, Below.refl _ _⟩
  · rw [Bool.not_eq_true] at h1
    rw [h1] at q1 ⊢
    go_wp2
    go_ret
    exact ⟨by rw [lg_no p now nonce (Or.inl q1)]; rfl, Below.refl _ _⟩
set_option maxHeartbeats 6400000 in
theorem implAsk_is (tk : ByteArray) (key c t q target a b e nonce : Int) (ev : ByteArray) (w : World) (ht : tk.size ≤ 1048576) (hv : ev.size ≤ 1048576) : Calls Try.prog 10 #[.string tk, .int .i64 key, .agg #[.int .i64 c, .int .i64 t, .int .i64 q], .int .i64 target, .agg #[.int .i64 a, .int .i64 b, .int .i64 e], .int .i64 nonce, .string ev] w fun en w' => en = .returned (.string (askT tk key c t q target a b e nonce ev)) ∧ Below w.heap.size w w' := by
  obtain ⟨W2, hW2⟩ : ∃ W2, (w.alloc (.cells #[.int .i64 c, .int .i64 t, .int .i64 q] 29)).alloc (.cells #[.int .i64 a, .int .i64 b, .int .i64 e] 31) = W2 := ⟨_, rfl⟩
  have BC : Below w.heap.size w W2 := by rw [← hW2]; exact ((Below.refl _ _).alloc (Nat.le_refl _) _).alloc (by simp) _
  have TC : Blk w.heap.size [.int .i64 c, .int .i64 t, .int .i64 q] W2 := by rw [← hW2]; exact (Blk.new w #[.int .i64 c, .int .i64 t, .int .i64 q] _).alloc (by simp) _
  have UC : Blk (w.heap.size + 1) [.int .i64 a, .int .i64 b, .int .i64 e] W2 := by rw [← hW2]; have := Blk.new (w.alloc (.cells #[.int .i64 c, .int .i64 t, .int .i64 q] 29)) #[.int .i64 a, .int .i64 b, .int .i64 e] 31; simpa using this
  have ZC : Hid (w.heap.size + 2 ≤ W2.heap.size) := by show _ ≤ _; rw [← hW2]; simp
  by_cases h : ev = ⟨#[]⟩
  · have HR : Hid (askT tk key c t q target a b e nonce ev = listT [numsT [2, target, nonce], tk, shA c t q key, shR a b e, atomT ⟨#[]⟩]) := by show _ = _; unfold askT evT; rw [if_pos h]
    have hz := atomE_size
    have HX := impl_atom ⟨#[]⟩ W2 (by show 0 ≤ 1048576; omega)
    generalize atomT ⟨#[]⟩ = ae at HR hz HX
    subst h
    go_enter Try.func10, Try.ntmps10
    go_wp2_with fail
    try rw [hW2]
    refine HX.mono ?_
    clear HX hW2
    rintro en w3 ⟨rfl, hb3⟩
    have TN := TC.later hb3 TC.lt
    have UN := UC.later hb3 UC.lt
    have ZN : Hid (w.heap.size + 2 ≤ w3.heap.size) := Nat.le_trans ZC.out hb3.size
    have BN := BC.trans (hb3.mono BC.size)
    clear TC UC ZC BC hb3
    have TC := TN
    have UC := UN
    have ZC := ZN
    have BC := BN
    clear TN UN ZN BN
    go_wp2_with fail
    have TCD := TC.drew
    have UCD := UC.drew
    have BCD := BC.drew
    have ZCD : Hid (w.heap.size + 2 ≤ w3.drew.heap.size) := ZC
    clear TC UC BC ZC
    have TC := TCD
    have UC := UCD
    have BC := BCD
    have ZC := ZCD
    clear TCD UCD BCD ZCD
    refine wp_region_held_drew (S := (fun Vw => Blk w.heap.size [.int .i64 c, .int .i64 t, .int .i64 q] Vw ∧ Blk (w.heap.size + 1) [.int .i64 a, .int .i64 b, .int .i64 e] Vw)) (by kernel_rfl) ⟨TC, UC⟩ (fun hHeld => ?_)
    refine take_one 0 18 (v := ?_) rfl rfl (by kernel_rfl) (by kernel_rfl) (by kernel_rfl) (fun _ _ _ h => h) (Or.inl ⟨by rfl, ?_⟩) hHeld ?_
    rotate_left
    · intro w' hSw; (try dsimp only at hSw); have d0 := hSw.1.at 0 rfl; have d1 := hSw.1.at 1 rfl; have d2 := hSw.1.at 2 rfl; have e0 := hSw.2.at 0 rfl; have e1 := hSw.2.at 1 rfl; have e2 := hSw.2.at 2 rfl; go_simp; try with_reducible rfl
    try simp only [Act.put, List.setIfInBounds_toArray, List.set_cons_zero, List.set_cons_succ]
    refine take_one 1 19 (v := ?_) rfl rfl (by kernel_rfl) (by kernel_rfl) (by kernel_rfl) (fun _ _ _ h => h) (Or.inl ⟨by rfl, ?_⟩) hHeld ?_
    rotate_left
    · intro w' hSw; (try dsimp only at hSw); have d0 := hSw.1.at 0 rfl; have d1 := hSw.1.at 1 rfl; have d2 := hSw.1.at 2 rfl; have e0 := hSw.2.at 0 rfl; have e1 := hSw.2.at 1 rfl; have e2 := hSw.2.at 2 rfl; go_simp; try with_reducible rfl
    try simp only [Act.put, List.setIfInBounds_toArray, List.set_cons_zero, List.set_cons_succ]
    refine take_one 4 22 (v := ?_) rfl rfl (by kernel_rfl) (by kernel_rfl) (by kernel_rfl) (fun _ _ _ h => h) (Or.inl ⟨by rfl, ?_⟩) hHeld ?_
    rotate_left
    · intro w' hSw; (try dsimp only at hSw); have d0 := hSw.1.at 0 rfl; have d1 := hSw.1.at 1 rfl; have d2 := hSw.1.at 2 rfl; have e0 := hSw.2.at 0 rfl; have e1 := hSw.2.at 1 rfl; have e2 := hSw.2.at 2 rfl; go_simp; try with_reducible rfl
    try simp only [Act.put, List.setIfInBounds_toArray, List.set_cons_zero, List.set_cons_succ]
    refine take_one 5 23 (v := ?_) rfl rfl (by kernel_rfl) (by kernel_rfl) (by kernel_rfl) (fun _ _ _ h => h) (Or.inl ⟨by rfl, ?_⟩) hHeld ?_
    rotate_left
    · intro w' hSw; (try dsimp only at hSw); have d0 := hSw.1.at 0 rfl; have d1 := hSw.1.at 1 rfl; have d2 := hSw.1.at 2 rfl; have e0 := hSw.2.at 0 rfl; have e1 := hSw.2.at 1 rfl; have e2 := hSw.2.at 2 rfl; go_simp; try with_reducible rfl
    try simp only [Act.put, List.setIfInBounds_toArray, List.set_cons_zero, List.set_cons_succ]
    refine take_one 6 24 (v := ?_) rfl rfl (by kernel_rfl) (by kernel_rfl) (by kernel_rfl) (fun _ _ _ h => h) (Or.inl ⟨by rfl, ?_⟩) hHeld ?_
    rotate_left
    · intro w' hSw; (try dsimp only at hSw); have d0 := hSw.1.at 0 rfl; have d1 := hSw.1.at 1 rfl; have d2 := hSw.1.at 2 rfl; have e0 := hSw.2.at 0 rfl; have e1 := hSw.2.at 1 rfl; have e2 := hSw.2.at 2 rfl; go_simp; try with_reducible rfl
    try simp only [Act.put, List.setIfInBounds_toArray, List.set_cons_zero, List.set_cons_succ]
    refine take_one 8 26 (v := ?_) rfl rfl (by kernel_rfl) (by kernel_rfl) (by kernel_rfl) (fun _ _ _ h => h) (Or.inl ⟨by rfl, ?_⟩) hHeld ?_
    rotate_left
    · intro w' hSw; (try dsimp only at hSw); have d0 := hSw.1.at 0 rfl; have d1 := hSw.1.at 1 rfl; have d2 := hSw.1.at 2 rfl; have e0 := hSw.2.at 0 rfl; have e1 := hSw.2.at 1 rfl; have e2 := hSw.2.at 2 rfl; go_simp; try with_reducible rfl
    try simp only [Act.put, List.setIfInBounds_toArray, List.set_cons_zero, List.set_cons_succ]
    refine take_one 10 28 (v := ?_) rfl rfl (by kernel_rfl) (by kernel_rfl) (by kernel_rfl) (fun _ _ _ h => h) (Or.inl ⟨by rfl, ?_⟩) hHeld ?_
    rotate_left
    · intro w' hSw; (try dsimp only at hSw); have d0 := hSw.1.at 0 rfl; have d1 := hSw.1.at 1 rfl; have d2 := hSw.1.at 2 rfl; have e0 := hSw.2.at 0 rfl; have e1 := hSw.2.at 1 rfl; have e2 := hSw.2.at 2 rfl; go_simp; try with_reducible rfl
    try simp only [Act.put, List.setIfInBounds_toArray, List.set_cons_zero, List.set_cons_succ]
    obtain ⟨v1, hv1⟩ : ∃ v, (w3.drew).alloc (.cells #[.int .i64 2, .int .i64 target, .int .i64 nonce] 3) = v := ⟨_, rfl⟩
    have XA : Below (w3.drew).heap.size (w3.drew) v1 := by rw [← hv1]; exact (Below.refl _ _).alloc (Nat.le_refl _) _
    have TN := TC.later XA (by have := ZC.out; omega)
    have UN := UC.later XA (by have := ZC.out; omega)
    have ZN : Hid (w.heap.size + 2 ≤ v1.heap.size) := Nat.le_trans ZC.out XA.size
    have BN := BC.trans (XA.mono BC.size)
    have RAN : RowAt (Value.int .i64) v1 (some ⟨(w3.drew).heap.size, 0, none⟩) [2, target, nonce] := by rw [← hv1]; exact row_new (Value.int .i64) (w3.drew) [2, target, nonce] 3
    refine wpAnyH_ready (rs := [2]) (by kernel_rfl) (by simp) ?_
    refine AllReadyH.cons (i := 2) rfl (fun K hK => ?_) AllReadyH.nil
    go_simp
    refine hK.out _ _ (by (try rw [hv1]); exact ⟨TN, UN⟩) (fun hHeld2 => ?_)
    clear hK K hHeld
    have hHeld := hHeld2
    clear hHeld2
    try simp only [Act.put, List.setIfInBounds_toArray, List.set_cons_zero, List.set_cons_succ]
    clear TC UC ZC BC
    have TC := TN
    have UC := UN
    have ZC := ZN
    have BC := BN
    clear TN UN ZN BN
    have RA := RAN
    clear RAN XA
    try rw [hv1]
    clear hv1
    refine wpAnyH_ready (rs := [3]) (by kernel_rfl) (by simp) ?_
    refine AllReadyH.cons (i := 3) rfl (fun K hK => ?_) AllReadyH.nil
    go_simp
    refine (impl_nums _ 3 [2, target, nonce] _ RA (by simp)).mono ?_
    rintro en v2 ⟨rfl, hv2⟩
    have TN := TC.later hv2 (by have := ZC.out; omega)
    have UN := UC.later hv2 (by have := ZC.out; omega)
    have ZN : Hid (w.heap.size + 2 ≤ v2.heap.size) := Nat.le_trans ZC.out hv2.size
    have BN := BC.trans (hv2.mono BC.size)
    have RAN := RowAt.later RA hv2
    clear TC UC ZC BC RA
    have TC := TN
    have UC := UN
    have ZC := ZN
    have BC := BN
    have RA := RAN
    clear TN UN ZN BN RAN
    clear hv2
    go_wp2_with fail
    refine hK.out _ _ ⟨TC, UC⟩ (fun hHeld2 => ?_)
    clear hK K hHeld
    have hHeld := hHeld2
    clear hHeld2
    try simp only [Act.put, List.setIfInBounds_toArray, List.set_cons_zero, List.set_cons_succ]
    clear RA
    refine wpAnyH_ready (rs := [7]) (by kernel_rfl) (by simp) ?_
    refine AllReadyH.cons (i := 7) rfl (fun K hK => ?_) AllReadyH.nil
    go_simp
    refine (implShowA_is c t q key _).mono ?_
    rintro en v3 ⟨rfl, hv3⟩
    have TN := TC.later hv3 (by have := ZC.out; omega)
    have UN := UC.later hv3 (by have := ZC.out; omega)
    have ZN : Hid (w.heap.size + 2 ≤ v3.heap.size) := Nat.le_trans ZC.out hv3.size
    have BN := BC.trans (hv3.mono BC.size)
    clear TC UC ZC BC
    have TC := TN
    have UC := UN
    have ZC := ZN
    have BC := BN
    clear TN UN ZN BN
    clear hv3
    go_wp2_with fail
    refine hK.out _ _ ⟨TC, UC⟩ (fun hHeld2 => ?_)
    clear hK K hHeld
    have hHeld := hHeld2
    clear hHeld2
    try simp only [Act.put, List.setIfInBounds_toArray, List.set_cons_zero, List.set_cons_succ]
    refine wpAnyH_ready (rs := [9]) (by kernel_rfl) (by simp) ?_
    refine AllReadyH.cons (i := 9) rfl (fun K hK => ?_) AllReadyH.nil
    go_simp
    refine (implShow_is a b e _).mono ?_
    rintro en v4 ⟨rfl, hv4⟩
    have TN := TC.later hv4 (by have := ZC.out; omega)
    have UN := UC.later hv4 (by have := ZC.out; omega)
    have ZN : Hid (w.heap.size + 2 ≤ v4.heap.size) := Nat.le_trans ZC.out hv4.size
    have BN := BC.trans (hv4.mono BC.size)
    clear TC UC ZC BC
    have TC := TN
    have UC := UN
    have ZC := ZN
    have BC := BN
    clear TN UN ZN BN
    clear hv4
    go_wp2_with fail
    refine hK.out _ _ ⟨TC, UC⟩ (fun hHeld2 => ?_)
    clear hK K hHeld
    have hHeld := hHeld2
    clear hHeld2
    try simp only [Act.put, List.setIfInBounds_toArray, List.set_cons_zero, List.set_cons_succ]
    obtain ⟨v5, hv5⟩ : ∃ v, (v4).alloc (.cells #[.string (numsT [2, target, nonce]), .string tk, .string (shA c t q key), .string (shR a b e), .string ae] 9) = v := ⟨_, rfl⟩
    have XA : Below (v4).heap.size (v4) v5 := by rw [← hv5]; exact (Below.refl _ _).alloc (Nat.le_refl _) _
    have TN := TC.later XA (by have := ZC.out; omega)
    have UN := UC.later XA (by have := ZC.out; omega)
    have ZN : Hid (w.heap.size + 2 ≤ v5.heap.size) := Nat.le_trans ZC.out XA.size
    have BN := BC.trans (XA.mono BC.size)
    have RLN : RowAt Value.string v5 (some ⟨(v4).heap.size, 0, none⟩) [numsT [2, target, nonce], tk, shA c t q key, shR a b e, ae] := by rw [← hv5]; exact row_new Value.string (v4) [numsT [2, target, nonce], tk, shA c t q key, shR a b e, ae] 9
    refine wpAnyH_ready (rs := [11]) (by kernel_rfl) (by simp) ?_
    refine AllReadyH.cons (i := 11) rfl (fun K hK => ?_) AllReadyH.nil
    go_simp
    refine hK.out _ _ (by (try rw [hv5]); exact ⟨TN, UN⟩) (fun hHeld2 => ?_)
    clear hK K hHeld
    have hHeld := hHeld2
    clear hHeld2
    try simp only [Act.put, List.setIfInBounds_toArray, List.set_cons_zero, List.set_cons_succ]
    clear TC UC ZC BC
    have TC := TN
    have UC := UN
    have ZC := ZN
    have BC := BN
    clear TN UN ZN BN
    have RL := RLN
    clear RLN XA
    try rw [hv5]
    clear hv5
    refine wpAnyH_ready (rs := [12]) (by kernel_rfl) (by simp) ?_
    refine AllReadyH.cons (i := 12) rfl (fun K hK => ?_) AllReadyH.nil
    go_simp
    refine (impl_list _ 5 [numsT [2, target, nonce], tk, shA c t q key, shR a b e, ae] _ RL (by simp) (by simp) (by intro x hx; simp only [List.mem_cons, List.not_mem_nil, or_false] at hx; rcases hx with rfl | rfl | rfl | rfl | rfl; exact Nat.le_trans (listT_size _) (by omega); exact ht; exact Nat.le_trans (shA_size c t q key) (by omega); exact Nat.le_trans (shR_size a b e) (by omega); exact Nat.le_trans hz (by omega))).mono ?_
    rintro en v6 ⟨rfl, hv6⟩
    have TN := TC.later hv6 (by have := ZC.out; omega)
    have UN := UC.later hv6 (by have := ZC.out; omega)
    have ZN : Hid (w.heap.size + 2 ≤ v6.heap.size) := Nat.le_trans ZC.out hv6.size
    have BN := BC.trans (hv6.mono BC.size)
    have RLN := RowAt.later RL hv6
    clear TC UC ZC BC RL
    have TC := TN
    have UC := UN
    have ZC := ZN
    have BC := BN
    have RL := RLN
    clear TN UN ZN BN RLN
    clear hv6
    go_wp2_with fail
    refine hK.out _ _ ⟨TC, UC⟩ (fun hHeld2 => ?_)
    clear hK K hHeld
    have hHeld := hHeld2
    clear hHeld2
    try simp only [Act.put, List.setIfInBounds_toArray, List.set_cons_zero, List.set_cons_succ]
    clear RL
    refine take_one 13 14 (v := ?_) rfl rfl (by kernel_rfl) (by kernel_rfl) (by kernel_rfl) (fun _ _ _ h => h) (Or.inl ⟨by rfl, ?_⟩) hHeld ?_
    rotate_left
    · intro w' hSw; (try dsimp only at hSw); have d0 := hSw.1.at 0 rfl; have d1 := hSw.1.at 1 rfl; have d2 := hSw.1.at 2 rfl; have e0 := hSw.2.at 0 rfl; have e1 := hSw.2.at 1 rfl; have e2 := hSw.2.at 2 rfl; go_simp; try with_reducible rfl
    try simp only [Act.put, List.setIfInBounds_toArray, List.set_cons_zero, List.set_cons_succ]
    refine wpAnyH_done (by kernel_rfl) ?_ _
    go_wp2
    go_ret
    exact ⟨by rw [HR.out]; rfl, BC⟩
  · have HR : Hid (askT tk key c t q target a b e nonce ev = listT [numsT [2, target, nonce], tk, shA c t q key, shR a b e, ev]) := by show _ = _; unfold askT evT; rw [if_neg h]
    have e1 := not_empty h
    go_enter Try.func10, Try.ntmps10
    go_wp2_with fail
    try rw [hW2]
    clear hW2 e1
    have TCD := TC.drew
    have UCD := UC.drew
    have BCD := BC.drew
    have ZCD : Hid (w.heap.size + 2 ≤ W2.drew.heap.size) := ZC
    clear TC UC BC ZC
    have TC := TCD
    have UC := UCD
    have BC := BCD
    have ZC := ZCD
    clear TCD UCD BCD ZCD
    refine wp_region_held_drew (S := (fun Vw => Blk w.heap.size [.int .i64 c, .int .i64 t, .int .i64 q] Vw ∧ Blk (w.heap.size + 1) [.int .i64 a, .int .i64 b, .int .i64 e] Vw)) (by kernel_rfl) ⟨TC, UC⟩ (fun hHeld => ?_)
    refine take_one 0 18 (v := ?_) rfl rfl (by kernel_rfl) (by kernel_rfl) (by kernel_rfl) (fun _ _ _ h => h) (Or.inl ⟨by rfl, ?_⟩) hHeld ?_
    rotate_left
    · intro w' hSw; (try dsimp only at hSw); have d0 := hSw.1.at 0 rfl; have d1 := hSw.1.at 1 rfl; have d2 := hSw.1.at 2 rfl; have e0 := hSw.2.at 0 rfl; have e1 := hSw.2.at 1 rfl; have e2 := hSw.2.at 2 rfl; go_simp; try with_reducible rfl
    try simp only [Act.put, List.setIfInBounds_toArray, List.set_cons_zero, List.set_cons_succ]
    refine take_one 1 19 (v := ?_) rfl rfl (by kernel_rfl) (by kernel_rfl) (by kernel_rfl) (fun _ _ _ h => h) (Or.inl ⟨by rfl, ?_⟩) hHeld ?_
    rotate_left
    · intro w' hSw; (try dsimp only at hSw); have d0 := hSw.1.at 0 rfl; have d1 := hSw.1.at 1 rfl; have d2 := hSw.1.at 2 rfl; have e0 := hSw.2.at 0 rfl; have e1 := hSw.2.at 1 rfl; have e2 := hSw.2.at 2 rfl; go_simp; try with_reducible rfl
    try simp only [Act.put, List.setIfInBounds_toArray, List.set_cons_zero, List.set_cons_succ]
    refine take_one 4 22 (v := ?_) rfl rfl (by kernel_rfl) (by kernel_rfl) (by kernel_rfl) (fun _ _ _ h => h) (Or.inl ⟨by rfl, ?_⟩) hHeld ?_
    rotate_left
    · intro w' hSw; (try dsimp only at hSw); have d0 := hSw.1.at 0 rfl; have d1 := hSw.1.at 1 rfl; have d2 := hSw.1.at 2 rfl; have e0 := hSw.2.at 0 rfl; have e1 := hSw.2.at 1 rfl; have e2 := hSw.2.at 2 rfl; go_simp; try with_reducible rfl
    try simp only [Act.put, List.setIfInBounds_toArray, List.set_cons_zero, List.set_cons_succ]
    refine take_one 5 23 (v := ?_) rfl rfl (by kernel_rfl) (by kernel_rfl) (by kernel_rfl) (fun _ _ _ h => h) (Or.inl ⟨by rfl, ?_⟩) hHeld ?_
    rotate_left
    · intro w' hSw; (try dsimp only at hSw); have d0 := hSw.1.at 0 rfl; have d1 := hSw.1.at 1 rfl; have d2 := hSw.1.at 2 rfl; have e0 := hSw.2.at 0 rfl; have e1 := hSw.2.at 1 rfl; have e2 := hSw.2.at 2 rfl; go_simp; try with_reducible rfl
    try simp only [Act.put, List.setIfInBounds_toArray, List.set_cons_zero, List.set_cons_succ]
    refine take_one 6 24 (v := ?_) rfl rfl (by kernel_rfl) (by kernel_rfl) (by kernel_rfl) (fun _ _ _ h => h) (Or.inl ⟨by rfl, ?_⟩) hHeld ?_
    rotate_left
    · intro w' hSw; (try dsimp only at hSw); have d0 := hSw.1.at 0 rfl; have d1 := hSw.1.at 1 rfl; have d2 := hSw.1.at 2 rfl; have e0 := hSw.2.at 0 rfl; have e1 := hSw.2.at 1 rfl; have e2 := hSw.2.at 2 rfl; go_simp; try with_reducible rfl
    try simp only [Act.put, List.setIfInBounds_toArray, List.set_cons_zero, List.set_cons_succ]
    refine take_one 8 26 (v := ?_) rfl rfl (by kernel_rfl) (by kernel_rfl) (by kernel_rfl) (fun _ _ _ h => h) (Or.inl ⟨by rfl, ?_⟩) hHeld ?_
    rotate_left
    · intro w' hSw; (try dsimp only at hSw); have d0 := hSw.1.at 0 rfl; have d1 := hSw.1.at 1 rfl; have d2 := hSw.1.at 2 rfl; have e0 := hSw.2.at 0 rfl; have e1 := hSw.2.at 1 rfl; have e2 := hSw.2.at 2 rfl; go_simp; try with_reducible rfl
    try simp only [Act.put, List.setIfInBounds_toArray, List.set_cons_zero, List.set_cons_succ]
    refine take_one 10 28 (v := ?_) rfl rfl (by kernel_rfl) (by kernel_rfl) (by kernel_rfl) (fun _ _ _ h => h) (Or.inl ⟨by rfl, ?_⟩) hHeld ?_
    rotate_left
    · intro w' hSw; (try dsimp only at hSw); have d0 := hSw.1.at 0 rfl; have d1 := hSw.1.at 1 rfl; have d2 := hSw.1.at 2 rfl; have e0 := hSw.2.at 0 rfl; have e1 := hSw.2.at 1 rfl; have e2 := hSw.2.at 2 rfl; go_simp; try with_reducible rfl
    try simp only [Act.put, List.setIfInBounds_toArray, List.set_cons_zero, List.set_cons_succ]
    obtain ⟨v1, hv1⟩ : ∃ v, (W2.drew).alloc (.cells #[.int .i64 2, .int .i64 target, .int .i64 nonce] 3) = v := ⟨_, rfl⟩
    have XA : Below (W2.drew).heap.size (W2.drew) v1 := by rw [← hv1]; exact (Below.refl _ _).alloc (Nat.le_refl _) _
    have TN := TC.later XA (by have := ZC.out; omega)
    have UN := UC.later XA (by have := ZC.out; omega)
    have ZN : Hid (w.heap.size + 2 ≤ v1.heap.size) := Nat.le_trans ZC.out XA.size
    have BN := BC.trans (XA.mono BC.size)
    have RAN : RowAt (Value.int .i64) v1 (some ⟨(W2.drew).heap.size, 0, none⟩) [2, target, nonce] := by rw [← hv1]; exact row_new (Value.int .i64) (W2.drew) [2, target, nonce] 3
    refine wpAnyH_ready (rs := [2]) (by kernel_rfl) (by simp) ?_
    refine AllReadyH.cons (i := 2) rfl (fun K hK => ?_) AllReadyH.nil
    go_simp
    refine hK.out _ _ (by (try rw [hv1]); exact ⟨TN, UN⟩) (fun hHeld2 => ?_)
    clear hK K hHeld
    have hHeld := hHeld2
    clear hHeld2
    try simp only [Act.put, List.setIfInBounds_toArray, List.set_cons_zero, List.set_cons_succ]
    clear TC UC ZC BC
    have TC := TN
    have UC := UN
    have ZC := ZN
    have BC := BN
    clear TN UN ZN BN
    have RA := RAN
    clear RAN XA
    try rw [hv1]
    clear hv1
    refine wpAnyH_ready (rs := [3]) (by kernel_rfl) (by simp) ?_
    refine AllReadyH.cons (i := 3) rfl (fun K hK => ?_) AllReadyH.nil
    go_simp
    refine (impl_nums _ 3 [2, target, nonce] _ RA (by simp)).mono ?_
    rintro en v2 ⟨rfl, hv2⟩
    have TN := TC.later hv2 (by have := ZC.out; omega)
    have UN := UC.later hv2 (by have := ZC.out; omega)
    have ZN : Hid (w.heap.size + 2 ≤ v2.heap.size) := Nat.le_trans ZC.out hv2.size
    have BN := BC.trans (hv2.mono BC.size)
    have RAN := RowAt.later RA hv2
    clear TC UC ZC BC RA
    have TC := TN
    have UC := UN
    have ZC := ZN
    have BC := BN
    have RA := RAN
    clear TN UN ZN BN RAN
    clear hv2
    go_wp2_with fail
    refine hK.out _ _ ⟨TC, UC⟩ (fun hHeld2 => ?_)
    clear hK K hHeld
    have hHeld := hHeld2
    clear hHeld2
    try simp only [Act.put, List.setIfInBounds_toArray, List.set_cons_zero, List.set_cons_succ]
    clear RA
    refine wpAnyH_ready (rs := [7]) (by kernel_rfl) (by simp) ?_
    refine AllReadyH.cons (i := 7) rfl (fun K hK => ?_) AllReadyH.nil
    go_simp
    refine (implShowA_is c t q key _).mono ?_
    rintro en v3 ⟨rfl, hv3⟩
    have TN := TC.later hv3 (by have := ZC.out; omega)
    have UN := UC.later hv3 (by have := ZC.out; omega)
    have ZN : Hid (w.heap.size + 2 ≤ v3.heap.size) := Nat.le_trans ZC.out hv3.size
    have BN := BC.trans (hv3.mono BC.size)
    clear TC UC ZC BC
    have TC := TN
    have UC := UN
    have ZC := ZN
    have BC := BN
    clear TN UN ZN BN
    clear hv3
    go_wp2_with fail
    refine hK.out _ _ ⟨TC, UC⟩ (fun hHeld2 => ?_)
    clear hK K hHeld
    have hHeld := hHeld2
    clear hHeld2
    try simp only [Act.put, List.setIfInBounds_toArray, List.set_cons_zero, List.set_cons_succ]
    refine wpAnyH_ready (rs := [9]) (by kernel_rfl) (by simp) ?_
    refine AllReadyH.cons (i := 9) rfl (fun K hK => ?_) AllReadyH.nil
    go_simp
    refine (implShow_is a b e _).mono ?_
    rintro en v4 ⟨rfl, hv4⟩
    have TN := TC.later hv4 (by have := ZC.out; omega)
    have UN := UC.later hv4 (by have := ZC.out; omega)
    have ZN : Hid (w.heap.size + 2 ≤ v4.heap.size) := Nat.le_trans ZC.out hv4.size
    have BN := BC.trans (hv4.mono BC.size)
    clear TC UC ZC BC
    have TC := TN
    have UC := UN
    have ZC := ZN
    have BC := BN
    clear TN UN ZN BN
    clear hv4
    go_wp2_with fail
    refine hK.out _ _ ⟨TC, UC⟩ (fun hHeld2 => ?_)
    clear hK K hHeld
    have hHeld := hHeld2
    clear hHeld2
    try simp only [Act.put, List.setIfInBounds_toArray, List.set_cons_zero, List.set_cons_succ]
    obtain ⟨v5, hv5⟩ : ∃ v, (v4).alloc (.cells #[.string (numsT [2, target, nonce]), .string tk, .string (shA c t q key), .string (shR a b e), .string ev] 9) = v := ⟨_, rfl⟩
    have XA : Below (v4).heap.size (v4) v5 := by rw [← hv5]; exact (Below.refl _ _).alloc (Nat.le_refl _) _
    have TN := TC.later XA (by have := ZC.out; omega)
    have UN := UC.later XA (by have := ZC.out; omega)
    have ZN : Hid (w.heap.size + 2 ≤ v5.heap.size) := Nat.le_trans ZC.out XA.size
    have BN := BC.trans (XA.mono BC.size)
    have RLN : RowAt Value.string v5 (some ⟨(v4).heap.size, 0, none⟩) [numsT [2, target, nonce], tk, shA c t q key, shR a b e, ev] := by rw [← hv5]; exact row_new Value.string (v4) [numsT [2, target, nonce], tk, shA c t q key, shR a b e, ev] 9
    refine wpAnyH_ready (rs := [11]) (by kernel_rfl) (by simp) ?_
    refine AllReadyH.cons (i := 11) rfl (fun K hK => ?_) AllReadyH.nil
    go_simp
    refine hK.out _ _ (by (try rw [hv5]); exact ⟨TN, UN⟩) (fun hHeld2 => ?_)
    clear hK K hHeld
    have hHeld := hHeld2
    clear hHeld2
    try simp only [Act.put, List.setIfInBounds_toArray, List.set_cons_zero, List.set_cons_succ]
    clear TC UC ZC BC
    have TC := TN
    have UC := UN
    have ZC := ZN
    have BC := BN
    clear TN UN ZN BN
    have RL := RLN
    clear RLN XA
    try rw [hv5]
    clear hv5
    refine wpAnyH_ready (rs := [12]) (by kernel_rfl) (by simp) ?_
    refine AllReadyH.cons (i := 12) rfl (fun K hK => ?_) AllReadyH.nil
    go_simp
    refine (impl_list _ 5 [numsT [2, target, nonce], tk, shA c t q key, shR a b e, ev] _ RL (by simp) (by simp) (by intro x hx; simp only [List.mem_cons, List.not_mem_nil, or_false] at hx; rcases hx with rfl | rfl | rfl | rfl | rfl; exact Nat.le_trans (listT_size _) (by omega); exact ht; exact Nat.le_trans (shA_size c t q key) (by omega); exact Nat.le_trans (shR_size a b e) (by omega); exact hv)).mono ?_
    rintro en v6 ⟨rfl, hv6⟩
    have TN := TC.later hv6 (by have := ZC.out; omega)
    have UN := UC.later hv6 (by have := ZC.out; omega)
    have ZN : Hid (w.heap.size + 2 ≤ v6.heap.size) := Nat.le_trans ZC.out hv6.size
    have BN := BC.trans (hv6.mono BC.size)
    have RLN := RowAt.later RL hv6
    clear TC UC ZC BC RL
    have TC := TN
    have UC := UN
    have ZC := ZN
    have BC := BN
    have RL := RLN
    clear TN UN ZN BN RLN
    clear hv6
    go_wp2_with fail
    refine hK.out _ _ ⟨TC, UC⟩ (fun hHeld2 => ?_)
    clear hK K hHeld
    have hHeld := hHeld2
    clear hHeld2
    try simp only [Act.put, List.setIfInBounds_toArray, List.set_cons_zero, List.set_cons_succ]
    clear RL
    refine take_one 13 14 (v := ?_) rfl rfl (by kernel_rfl) (by kernel_rfl) (by kernel_rfl) (fun _ _ _ h => h) (Or.inl ⟨by rfl, ?_⟩) hHeld ?_
    rotate_left
    · intro w' hSw; (try dsimp only at hSw); have d0 := hSw.1.at 0 rfl; have d1 := hSw.1.at 1 rfl; have d2 := hSw.1.at 2 rfl; have e0 := hSw.2.at 0 rfl; have e1 := hSw.2.at 1 rfl; have e2 := hSw.2.at 2 rfl; go_simp; try with_reducible rfl
    try simp only [Act.put, List.setIfInBounds_toArray, List.set_cons_zero, List.set_cons_succ]
    refine wpAnyH_done (by kernel_rfl) ?_ _
    go_wp2
    go_ret
    exact ⟨by rw [HR.out]; rfl, BC⟩

set_option maxHeartbeats 1600000 in
theorem login_walk (p now nonce : Int) (w : World) : Calls Try.prog 3 #[.int .i64 p, .int .i64 now, .int .i64 nonce] w fun e w' => e = .returned (.bool true) ∧ Below w.heap.size w w' := by
  have R1 := specLogin_is p now nonce
  have R2 := implLogin_is p now nonce
  generalize lgT p now nonce = X at R1 R2
  go_enter Try.func3, Try.ntmps3
  go_wp2_with fail
  refine (R1 _).mono ?_
  rintro e w1 ⟨rfl, hb1⟩
  go_wp2_with fail
  refine (R2 _).mono ?_
  rintro e w2 ⟨rfl, hb2⟩
  have B := hb1.trans (hb2.mono hb1.size)
  clear hb1 hb2 R1 R2
  go_wp2
  go_ret
  exact ⟨rfl, B⟩
end Go.Proofs.Ytcaieniddnhkbaa
