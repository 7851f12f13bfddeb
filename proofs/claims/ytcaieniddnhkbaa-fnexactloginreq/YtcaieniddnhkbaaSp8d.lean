/- Chapter 8: what is asked, the model's. -/
import Derived.Test.YtcaieniddnhkbaaSp8c
import Derived.Test.YtcaieniddnhkbaaShow
set_option linter.unusedVariables false
set_option maxRecDepth 100000
namespace Go.Proofs.Ytcaieniddnhkbaa
open Go Go.RowKit Own Var Term

theorem shA_size (c t q key : Int) : (shA c t q key).size ≤ 900 := by
  unfold shA
  split
  · exact sealT_size _ _
  · show 0 ≤ 900; omega
theorem atomE_size : (atomT ⟨#[]⟩).size ≤ 900 := okOr_size _
def evT (ev : ByteArray) : ByteArray := if ev = ⟨#[]⟩ then atomT ⟨#[]⟩ else ev
def askT (tk : ByteArray) (key c t q target a b e nonce : Int) (ev : ByteArray) : ByteArray := listT [numsT [2, target, nonce], tk, shA c t q key, shR a b e, evT ev]
set_option maxHeartbeats 6400000 in
theorem specAsk_is (tk : ByteArray) (key c t q target a b e nonce : Int) (ev : ByteArray) (w : World) (ht : tk.size ≤ 1048576) (hv : ev.size ≤ 1048576) : Calls Try.prog 7 #[.string tk, .int .i64 key, .agg #[.int .i64 c, .int .i64 t, .int .i64 q], .int .i64 target, .agg #[.int .i64 a, .int .i64 b, .int .i64 e], .int .i64 nonce, .string ev] w fun en w' => en = .returned (.string (askT tk key c t q target a b e nonce ev)) ∧ Below w.heap.size w w' := by
  obtain ⟨W2, hW2⟩ : ∃ W2, (w.alloc (.cells #[.int .i64 c, .int .i64 t, .int .i64 q] 29)).alloc (.cells #[.int .i64 a, .int .i64 b, .int .i64 e] 31) = W2 := ⟨_, rfl⟩
  have BC : Below w.heap.size w W2 := by rw [← hW2]; exact ((Below.refl _ _).alloc (Nat.le_refl _) _).alloc (by simp) _
  have TC : Blk w.heap.size [.int .i64 c, .int .i64 t, .int .i64 q] W2 := by rw [← hW2]; exact (Blk.new w #[.int .i64 c, .int .i64 t, .int .i64 q] _).alloc (by simp) _
  have UC : Blk (w.heap.size + 1) [.int .i64 a, .int .i64 b, .int .i64 e] W2 := by rw [← hW2]; have := Blk.new (w.alloc (.cells #[.int .i64 c, .int .i64 t, .int .i64 q] 29)) #[.int .i64 a, .int .i64 b, .int .i64 e] 31; simpa using this
  have ZC : Hid (w.heap.size + 2 ≤ W2.heap.size) := by show _ ≤ _; rw [← hW2]; simp
  by_cases h : ev = ⟨#[]⟩
  · have HR : Hid (askT tk key c t q target a b e nonce ev = listT [numsT [2, target, nonce], tk, shA c t q key, shR a b e, atomT ⟨#[]⟩]) := by show _ = _; unfold askT evT; rw [if_pos h]
    have hz := atomE_size
    have HX := spec_atom ⟨#[]⟩ W2 (by show 0 ≤ 1048576; omega)
    generalize atomT ⟨#[]⟩ = ae at HR hz HX
    subst h
    go_enter Try.func7, Try.ntmps7
    go_wp2_with fail
    try rw [hW2]
    refine HX.mono ?_
    clear HX hW2
    rintro en w3 ⟨rfl, hb3⟩
    have TN := TC.later hb3 TC.lt
    have UN := UC.later hb3 UC.lt
    have ZN : Hid (w.heap.size + 2 ≤ w3.heap.size) := Nat.le_trans ZC.out hb3.size
    have BN := BC.trans (hb3.mono BC.size)
    clear TC UC ZC BC hb3
    have TC := TN
    have UC := UN
    have ZC := ZN
    have BC := BN
    clear TN UN ZN BN
    go_wp2_with fail
    have TCD := TC.drew
    have UCD := UC.drew
    have BCD := BC.drew
    have ZCD : Hid (w.heap.size + 2 ≤ w3.drew.heap.size) := ZC
    clear TC UC BC ZC
    have TC := TCD
    have UC := UCD
    have BC := BCD
    have ZC := ZCD
    clear TCD UCD BCD ZCD
    refine wp_region_held_drew (S := (fun Vw => Blk w.heap.size [.int .i64 c, .int .i64 t, .int .i64 q] Vw ∧ Blk (w.heap.size + 1) [.int .i64 a, .int .i64 b, .int .i64 e] Vw)) (by kernel_rfl) ⟨TC, UC⟩ (fun hHeld => ?_)
    refine take_one 0 18 (v := ?_) rfl rfl (by kernel_rfl) (by kernel_rfl) (by kernel_rfl) (fun _ _ _ h => h) (Or.inl ⟨by rfl, ?_⟩) hHeld ?_
    rotate_left
    · intro w' hSw; (try dsimp only at hSw); have d0 := hSw.1.at 0 rfl; have d1 := hSw.1.at 1 rfl; have d2 := hSw.1.at 2 rfl; have e0 := hSw.2.at 0 rfl; have e1 := hSw.2.at 1 rfl; have e2 := hSw.2.at 2 rfl; go_simp; try with_reducible rfl
    try simp only [Act.put, List.setIfInBounds_toArray, List.set_cons_zero, List.set_cons_succ]
    refine take_one 1 19 (v := ?_) rfl rfl (by kernel_rfl) (by kernel_rfl) (by kernel_rfl) (fun _ _ _ h => h) (Or.inl ⟨by rfl, ?_⟩) hHeld ?_
    rotate_left
    · intro w' hSw; (try dsimp only at hSw); have d0 := hSw.1.at 0 rfl; have d1 := hSw.1.at 1 rfl; have d2 := hSw.1.at 2 rfl; have e0 := hSw.2.at 0 rfl; have e1 := hSw.2.at 1 rfl; have e2 := hSw.2.at 2 rfl; go_simp; try with_reducible rfl
    try simp only [Act.put, List.setIfInBounds_toArray, List.set_cons_zero, List.set_cons_succ]
    refine take_one 4 22 (v := ?_) rfl rfl (by kernel_rfl) (by kernel_rfl) (by kernel_rfl) (fun _ _ _ h => h) (Or.inl ⟨by rfl, ?_⟩) hHeld ?_
    rotate_left
    · intro w' hSw; (try dsimp only at hSw); have d0 := hSw.1.at 0 rfl; have d1 := hSw.1.at 1 rfl; have d2 := hSw.1.at 2 rfl; have e0 := hSw.2.at 0 rfl; have e1 := hSw.2.at 1 rfl; have e2 := hSw.2.at 2 rfl; go_simp; try with_reducible rfl
    try simp only [Act.put, List.setIfInBounds_toArray, List.set_cons_zero, List.set_cons_succ]
    refine take_one 5 23 (v := ?_) rfl rfl (by kernel_rfl) (by kernel_rfl) (by kernel_rfl) (fun _ _ _ h => h) (Or.inl ⟨by rfl, ?_⟩) hHeld ?_
    rotate_left
    · intro w' hSw; (try dsimp only at hSw); have d0 := hSw.1.at 0 rfl; have d1 := hSw.1.at 1 rfl; have d2 := hSw.1.at 2 rfl; have e0 := hSw.2.at 0 rfl; have e1 := hSw.2.at 1 rfl; have e2 := hSw.2.at 2 rfl; go_simp; try with_reducible rfl
    try simp only [Act.put, List.setIfInBounds_toArray, List.set_cons_zero, List.set_cons_succ]
    refine take_one 6 24 (v := ?_) rfl rfl (by kernel_rfl) (by kernel_rfl) (by kernel_rfl) (fun _ _ _ h => h) (Or.inl ⟨by rfl, ?_⟩) hHeld ?_
    rotate_left
    · intro w' hSw; (try dsimp only at hSw); have d0 := hSw.1.at 0 rfl; have d1 := hSw.1.at 1 rfl; have d2 := hSw.1.at 2 rfl; have e0 := hSw.2.at 0 rfl; have e1 := hSw.2.at 1 rfl; have e2 := hSw.2.at 2 rfl; go_simp; try with_reducible rfl
    try simp only [Act.put, List.setIfInBounds_toArray, List.set_cons_zero, List.set_cons_succ]
    refine take_one 8 26 (v := ?_) rfl rfl (by kernel_rfl) (by kernel_rfl) (by kernel_rfl) (fun _ _ _ h => h) (Or.inl ⟨by rfl, ?_⟩) hHeld ?_
    rotate_left
    · intro w' hSw; (try dsimp only at hSw); have d0 := hSw.1.at 0 rfl; have d1 := hSw.1.at 1 rfl; have d2 := hSw.1.at 2 rfl; have e0 := hSw.2.at 0 rfl; have e1 := hSw.2.at 1 rfl; have e2 := hSw.2.at 2 rfl; go_simp; try with_reducible rfl
    try simp only [Act.put, List.setIfInBounds_toArray, List.set_cons_zero, List.set_cons_succ]
    refine take_one 10 28 (v := ?_) rfl rfl (by kernel_rfl) (by kernel_rfl) (by kernel_rfl) (fun _ _ _ h => h) (Or.inl ⟨by rfl, ?_⟩) hHeld ?_
    rotate_left
    · intro w' hSw; (try dsimp only at hSw); have d0 := hSw.1.at 0 rfl; have d1 := hSw.1.at 1 rfl; have d2 := hSw.1.at 2 rfl; have e0 := hSw.2.at 0 rfl; have e1 := hSw.2.at 1 rfl; have e2 := hSw.2.at 2 rfl; go_simp; try with_reducible rfl
    try simp only [Act.put, List.setIfInBounds_toArray, List.set_cons_zero, List.set_cons_succ]
    obtain ⟨v1, hv1⟩ : ∃ v, (w3.drew).alloc (.cells #[.int .i64 2, .int .i64 target, .int .i64 nonce] 3) = v := ⟨_, rfl⟩
    have XA : Below (w3.drew).heap.size (w3.drew) v1 := by rw [← hv1]; exact (Below.refl _ _).alloc (Nat.le_refl _) _
    have TN := TC.later XA (by have := ZC.out; omega)
    have UN := UC.later XA (by have := ZC.out; omega)
    have ZN : Hid (w.heap.size + 2 ≤ v1.heap.size) := Nat.le_trans ZC.out XA.size
    have BN := BC.trans (XA.mono BC.size)
    have RAN : RowAt (Value.int .i64) v1 (some ⟨(w3.drew).heap.size, 0, none⟩) [2, target, nonce] := by rw [← hv1]; exact row_new (Value.int .i64) (w3.drew) [2, target, nonce] 3
    refine wpAnyH_ready (rs := [2]) (by kernel_rfl) (by simp) ?_
    refine AllReadyH.cons (i := 2) rfl (fun K hK => ?_) AllReadyH.nil
    go_simp
    refine hK.out _ _ (by (try rw [hv1]); exact ⟨TN, UN⟩) (fun hHeld2 => ?_)
    clear hK K hHeld
    have hHeld := hHeld2
    clear hHeld2
    try simp only [Act.put, List.setIfInBounds_toArray, List.set_cons_zero, List.set_cons_succ]
    clear TC UC ZC BC
    have TC := TN
    have UC := UN
    have ZC := ZN
    have BC := BN
    clear TN UN ZN BN
    have RA := RAN
    clear RAN XA
    try rw [hv1]
    clear hv1
    refine wpAnyH_ready (rs := [3]) (by kernel_rfl) (by simp) ?_
    refine AllReadyH.cons (i := 3) rfl (fun K hK => ?_) AllReadyH.nil
    go_simp
    refine (spec_nums _ 3 [2, target, nonce] _ RA (by simp)).mono ?_
    rintro en v2 ⟨rfl, hv2⟩
    have TN := TC.later hv2 (by have := ZC.out; omega)
    have UN := UC.later hv2 (by have := ZC.out; omega)
    have ZN : Hid (w.heap.size + 2 ≤ v2.heap.size) := Nat.le_trans ZC.out hv2.size
    have BN := BC.trans (hv2.mono BC.size)
    have RAN := RowAt.later RA hv2
    clear TC UC ZC BC RA
    have TC := TN
    have UC := UN
    have ZC := ZN
    have BC := BN
    have RA := RAN
    clear TN UN ZN BN RAN
    clear hv2
    go_wp2_with fail
    refine hK.out _ _ ⟨TC, UC⟩ (fun hHeld2 => ?_)
    clear hK K hHeld
    have hHeld := hHeld2
    clear hHeld2
    try simp only [Act.put, List.setIfInBounds_toArray, List.set_cons_zero, List.set_cons_succ]
    clear RA
    refine wpAnyH_ready (rs := [7]) (by kernel_rfl) (by simp) ?_
    refine AllReadyH.cons (i := 7) rfl (fun K hK => ?_) AllReadyH.nil
    go_simp
    refine (specShowA_is c t q key _).mono ?_
    rintro en v3 ⟨rfl, hv3⟩
    have TN := TC.later hv3 (by have := ZC.out; omega)
    have UN := UC.later hv3 (by have := ZC.out; omega)
    have ZN : Hid (w.heap.size + 2 ≤ v3.heap.size) := Nat.le_trans ZC.out hv3.size
    have BN := BC.trans (hv3.mono BC.size)
    clear TC UC ZC BC
    have TC := TN
    have UC := UN
    have ZC := ZN
    have BC := BN
    clear TN UN ZN BN
    clear hv3
    go_wp2_with fail
    refine hK.out _ _ ⟨TC, UC⟩ (fun hHeld2 => ?_)
    clear hK K hHeld
    have hHeld := hHeld2
    clear hHeld2
    try simp only [Act.put, List.setIfInBounds_toArray, List.set_cons_zero, List.set_cons_succ]
    refine wpAnyH_ready (rs := [9]) (by kernel_rfl) (by simp) ?_
    refine AllReadyH.cons (i := 9) rfl (fun K hK => ?_) AllReadyH.nil
    go_simp
    refine (specShow_is a b e _).mono ?_
    rintro en v4 ⟨rfl, hv4⟩
    have TN := TC.later hv4 (by have := ZC.out; omega)
    have UN := UC.later hv4 (by have := ZC.out; omega)
    have ZN : Hid (w.heap.size + 2 ≤ v4.heap.size) := Nat.le_trans ZC.out hv4.size
    have BN := BC.trans (hv4.mono BC.size)
    clear TC UC ZC BC
    have TC := TN
    have UC := UN
    have ZC := ZN
    have BC := BN
    clear TN UN ZN BN
    clear hv4
    go_wp2_with fail
    refine hK.out _ _ ⟨TC, UC⟩ (fun hHeld2 => ?_)
    clear hK K hHeld
    have hHeld := hHeld2
    clear hHeld2
    try simp only [Act.put, List.setIfInBounds_toArray, List.set_cons_zero, List.set_cons_succ]
    obtain ⟨v5, hv5⟩ : ∃ v, (v4).alloc (.cells #[.string (numsT [2, target, nonce]), .string tk, .string (shA c t q key), .string (shR a b e), .string ae] 9) = v := ⟨_, rfl⟩
    have XA : Below (v4).heap.size (v4) v5 := by rw [← hv5]; exact (Below.refl _ _).alloc (Nat.le_refl _) _
    have TN := TC.later XA (by have := ZC.out; omega)
    have UN := UC.later XA (by have := ZC.out; omega)
    have ZN : Hid (w.heap.size + 2 ≤ v5.heap.size) := Nat.le_trans ZC.out XA.size
    have BN := BC.trans (XA.mono BC.size)
    have RLN : RowAt Value.string v5 (some ⟨(v4).heap.size, 0, none⟩) [numsT [2, target, nonce], tk, shA c t q key, shR a b e, ae] := by rw [← hv5]; exact row_new Value.string (v4) [numsT [2, target, nonce], tk, shA c t q key, shR a b e, ae] 9
    refine wpAnyH_ready (rs := [11]) (by kernel_rfl) (by simp) ?_
    refine AllReadyH.cons (i := 11) rfl (fun K hK => ?_) AllReadyH.nil
    go_simp
    refine hK.out _ _ (by (try rw [hv5]); exact ⟨TN, UN⟩) (fun hHeld2 => ?_)
    clear hK K hHeld
    have hHeld := hHeld2
    clear hHeld2
    try simp only [Act.put, List.setIfInBounds_toArray, List.set_cons_zero, List.set_cons_succ]
    clear TC UC ZC BC
    have TC := TN
    have UC := UN
    have ZC := ZN
    have BC := BN
    clear TN UN ZN BN
    have RL := RLN
    clear RLN XA
    try rw [hv5]
    clear hv5
    refine wpAnyH_ready (rs := [12]) (by kernel_rfl) (by simp) ?_
    refine AllReadyH.cons (i := 12) rfl (fun K hK => ?_) AllReadyH.nil
    go_simp
    refine (spec_list _ 5 [numsT [2, target, nonce], tk, shA c t q key, shR a b e, ae] _ RL (by simp) (by intro x hx; simp only [List.mem_cons, List.not_mem_nil, or_false] at hx; rcases hx with rfl | rfl | rfl | rfl | rfl; exact Nat.le_trans (listT_size _) (by omega); exact ht; exact Nat.le_trans (shA_size c t q key) (by omega); exact Nat.le_trans (shR_size a b e) (by omega); exact Nat.le_trans hz (by omega))).mono ?_
    rintro en v6 ⟨rfl, hv6⟩
    have TN := TC.later hv6 (by have := ZC.out; omega)
    have UN := UC.later hv6 (by have := ZC.out; omega)
    have ZN : Hid (w.heap.size + 2 ≤ v6.heap.size) := Nat.le_trans ZC.out hv6.size
    have BN := BC.trans (hv6.mono BC.size)
    have RLN := RowAt.later RL hv6
    clear TC UC ZC BC RL
    have TC := TN
    have UC := UN
    have ZC := ZN
    have BC := BN
    have RL := RLN
    clear TN UN ZN BN RLN
    clear hv6
    go_wp2_with fail
    refine hK.out _ _ ⟨TC, UC⟩ (fun hHeld2 => ?_)
    clear hK K hHeld
    have hHeld := hHeld2
    clear hHeld2
    try simp only [Act.put, List.setIfInBounds_toArray, List.set_cons_zero, List.set_cons_succ]
    clear RL
    refine take_one 13 14 (v := ?_) rfl rfl (by kernel_rfl) (by kernel_rfl) (by kernel_rfl) (fun _ _ _ h => h) (Or.inl ⟨by rfl, ?_⟩) hHeld ?_
    rotate_left
    · intro w' hSw; (try dsimp only at hSw); have d0 := hSw.1.at 0 rfl; have d1 := hSw.1.at 1 rfl; have d2 := hSw.1.at 2 rfl; have e0 := hSw.2.at 0 rfl; have e1 := hSw.2.at 1 rfl; have e2 := hSw.2.at 2 rfl; go_simp; try with_reducible rfl
    try simp only [Act.put, List.setIfInBounds_toArray, List.set_cons_zero, List.set_cons_succ]
    refine wpAnyH_done (by kernel_rfl) ?_ _
    go_wp2
    go_ret
    exact ⟨by rw [HR.out]; rfl, BC⟩
  · have HR : Hid (askT tk key c t q target a b e nonce ev = listT [numsT [2, target, nonce], tk, shA c t q key, shR a b e, ev]) := by show _ = _; unfold askT evT; rw [if_neg h]
    have e1 := not_empty h
    go_enter Try.func7, Try.ntmps7
    go_wp2_with fail
    try rw [hW2]
    clear hW2 e1
    have TCD := TC.drew
    have UCD := UC.drew
    have BCD := BC.drew
    have ZCD : Hid (w.heap.size + 2 ≤ W2.drew.heap.size) := ZC
    clear TC UC BC ZC
    have TC := TCD
    have UC := UCD
    have BC := BCD
    have ZC := ZCD
    clear TCD UCD BCD ZCD
    refine wp_region_held_drew (S := (fun Vw => Blk w.heap.size [.int .i64 c, .int .i64 t, .int .i64 q] Vw ∧ Blk (w.heap.size + 1) [.int .i64 a, .int .i64 b, .int .i64 e] Vw)) (by kernel_rfl) ⟨TC, UC⟩ (fun hHeld => ?_)
    refine take_one 0 18 (v := ?_) rfl rfl (by kernel_rfl) (by kernel_rfl) (by kernel_rfl) (fun _ _ _ h => h) (Or.inl ⟨by rfl, ?_⟩) hHeld ?_
    rotate_left
    · intro w' hSw; (try dsimp only at hSw); have d0 := hSw.1.at 0 rfl; have d1 := hSw.1.at 1 rfl; have d2 := hSw.1.at 2 rfl; have e0 := hSw.2.at 0 rfl; have e1 := hSw.2.at 1 rfl; have e2 := hSw.2.at 2 rfl; go_simp; try with_reducible rfl
    try simp only [Act.put, List.setIfInBounds_toArray, List.set_cons_zero, List.set_cons_succ]
    refine take_one 1 19 (v := ?_) rfl rfl (by kernel_rfl) (by kernel_rfl) (by kernel_rfl) (fun _ _ _ h => h) (Or.inl ⟨by rfl, ?_⟩) hHeld ?_
    rotate_left
    · intro w' hSw; (try dsimp only at hSw); have d0 := hSw.1.at 0 rfl; have d1 := hSw.1.at 1 rfl; have d2 := hSw.1.at 2 rfl; have e0 := hSw.2.at 0 rfl; have e1 := hSw.2.at 1 rfl; have e2 := hSw.2.at 2 rfl; go_simp; try with_reducible rfl
    try simp only [Act.put, List.setIfInBounds_toArray, List.set_cons_zero, List.set_cons_succ]
    refine take_one 4 22 (v := ?_) rfl rfl (by kernel_rfl) (by kernel_rfl) (by kernel_rfl) (fun _ _ _ h => h) (Or.inl ⟨by rfl, ?_⟩) hHeld ?_
    rotate_left
    · intro w' hSw; (try dsimp only at hSw); have d0 := hSw.1.at 0 rfl; have d1 := hSw.1.at 1 rfl; have d2 := hSw.1.at 2 rfl; have e0 := hSw.2.at 0 rfl; have e1 := hSw.2.at 1 rfl; have e2 := hSw.2.at 2 rfl; go_simp; try with_reducible rfl
    try simp only [Act.put, List.setIfInBounds_toArray, List.set_cons_zero, List.set_cons_succ]
    refine take_one 5 23 (v := ?_) rfl rfl (by kernel_rfl) (by kernel_rfl) (by kernel_rfl) (fun _ _ _ h => h) (Or.inl ⟨by rfl, ?_⟩) hHeld ?_
    rotate_left
    · intro w' hSw; (try dsimp only at hSw); have d0 := hSw.1.at 0 rfl; have d1 := hSw.1.at 1 rfl; have d2 := hSw.1.at 2 rfl; have e0 := hSw.2.at 0 rfl; have e1 := hSw.2.at 1 rfl; have e2 := hSw.2.at 2 rfl; go_simp; try with_reducible rfl
    try simp only [Act.put, List.setIfInBounds_toArray, List.set_cons_zero, List.set_cons_succ]
    refine take_one 6 24 (v := ?_) rfl rfl (by kernel_rfl) (by kernel_rfl) (by kernel_rfl) (fun _ _ _ h => h) (Or.inl ⟨by rfl, ?_⟩) hHeld ?_
    rotate_left
    · intro w' hSw; (try dsimp only at hSw); have d0 := hSw.1.at 0 rfl; have d1 := hSw.1.at 1 rfl; have d2 := hSw.1.at 2 rfl; have e0 := hSw.2.at 0 rfl; have e1 := hSw.2.at 1 rfl; have e2 := hSw.2.at 2 rfl; go_simp; try with_reducible rfl
    try simp only [Act.put, List.setIfInBounds_toArray, List.set_cons_zero, List.set_cons_succ]
    refine take_one 8 26 (v := ?_) rfl rfl (by kernel_rfl) (by kernel_rfl) (by kernel_rfl) (fun _ _ _ h => h) (Or.inl ⟨by rfl, ?_⟩) hHeld ?_
    rotate_left
    · intro w' hSw; (try dsimp only at hSw); have d0 := hSw.1.at 0 rfl; have d1 := hSw.1.at 1 rfl; have d2 := hSw.1.at 2 rfl; have e0 := hSw.2.at 0 rfl; have e1 := hSw.2.at 1 rfl; have e2 := hSw.2.at 2 rfl; go_simp; try with_reducible rfl
    try simp only [Act.put, List.setIfInBounds_toArray, List.set_cons_zero, List.set_cons_succ]
    refine take_one 10 28 (v := ?_) rfl rfl (by kernel_rfl) (by kernel_rfl) (by kernel_rfl) (fun _ _ _ h => h) (Or.inl ⟨by rfl, ?_⟩) hHeld ?_
    rotate_left
    · intro w' hSw; (try dsimp only at hSw); have d0 := hSw.1.at 0 rfl; have d1 := hSw.1.at 1 rfl; have d2 := hSw.1.at 2 rfl; have e0 := hSw.2.at 0 rfl; have e1 := hSw.2.at 1 rfl; have e2 := hSw.2.at 2 rfl; go_simp; try with_reducible rfl
    try simp only [Act.put, List.setIfInBounds_toArray, List.set_cons_zero, List.set_cons_succ]
    obtain ⟨v1, hv1⟩ : ∃ v, (W2.drew).alloc (.cells #[.int .i64 2, .int .i64 target, .int .i64 nonce] 3) = v := ⟨_, rfl⟩
    have XA : Below (W2.drew).heap.size (W2.drew) v1 := by rw [← hv1]; exact (Below.refl _ _).alloc (Nat.le_refl _) _
    have TN := TC.later XA (by have := ZC.out; omega)
    have UN := UC.later XA (by have := ZC.out; omega)
    have ZN : Hid (w.heap.size + 2 ≤ v1.heap.size) := Nat.le_trans ZC.out XA.size
    have BN := BC.trans (XA.mono BC.size)
    have RAN : RowAt (Value.int .i64) v1 (some ⟨(W2.drew).heap.size, 0, none⟩) [2, target, nonce] := by rw [← hv1]; exact row_new (Value.int .i64) (W2.drew) [2, target, nonce] 3
    refine wpAnyH_ready (rs := [2]) (by kernel_rfl) (by simp) ?_
    refine AllReadyH.cons (i := 2) rfl (fun K hK => ?_) AllReadyH.nil
    go_simp
    refine hK.out _ _ (by (try rw [hv1]); exact ⟨TN, UN⟩) (fun hHeld2 => ?_)
    clear hK K hHeld
    have hHeld := hHeld2
    clear hHeld2
    try simp only [Act.put, List.setIfInBounds_toArray, List.set_cons_zero, List.set_cons_succ]
    clear TC UC ZC BC
    have TC := TN
    have UC := UN
    have ZC := ZN
    have BC := BN
    clear TN UN ZN BN
    have RA := RAN
    clear RAN XA
    try rw [hv1]
    clear hv1
    refine wpAnyH_ready (rs := [3]) (by kernel_rfl) (by simp) ?_
    refine AllReadyH.cons (i := 3) rfl (fun K hK => ?_) AllReadyH.nil
    go_simp
    refine (spec_nums _ 3 [2, target, nonce] _ RA (by simp)).mono ?_
    rintro en v2 ⟨rfl, hv2⟩
    have TN := TC.later hv2 (by have := ZC.out; omega)
    have UN := UC.later hv2 (by have := ZC.out; omega)
    have ZN : Hid (w.heap.size + 2 ≤ v2.heap.size) := Nat.le_trans ZC.out hv2.size
    have BN := BC.trans (hv2.mono BC.size)
    have RAN := RowAt.later RA hv2
    clear TC UC ZC BC RA
    have TC := TN
    have UC := UN
    have ZC := ZN
    have BC := BN
    have RA := RAN
    clear TN UN ZN BN RAN
    clear hv2
    go_wp2_with fail
    refine hK.out _ _ ⟨TC, UC⟩ (fun hHeld2 => ?_)
    clear hK K hHeld
    have hHeld := hHeld2
    clear hHeld2
    try simp only [Act.put, List.setIfInBounds_toArray, List.set_cons_zero, List.set_cons_succ]
    clear RA
    refine wpAnyH_ready (rs := [7]) (by kernel_rfl) (by simp) ?_
    refine AllReadyH.cons (i := 7) rfl (fun K hK => ?_) AllReadyH.nil
    go_simp
    refine (specShowA_is c t q key _).mono ?_
    rintro en v3 ⟨rfl, hv3⟩
    have TN := TC.later hv3 (by have := ZC.out; omega)
    have UN := UC.later hv3 (by have := ZC.out; omega)
    have ZN : Hid (w.heap.size + 2 ≤ v3.heap.size) := Nat.le_trans ZC.out hv3.size
    have BN := BC.trans (hv3.mono BC.size)
    clear TC UC ZC BC
    have TC := TN
    have UC := UN
    have ZC := ZN
    have BC := BN
    clear TN UN ZN BN
    clear hv3
    go_wp2_with fail
    refine hK.out _ _ ⟨TC, UC⟩ (fun hHeld2 => ?_)
    clear hK K hHeld
    have hHeld := hHeld2
    clear hHeld2
    try simp only [Act.put, List.setIfInBounds_toArray, List.set_cons_zero, List.set_cons_succ]
    refine wpAnyH_ready (rs := [9]) (by kernel_rfl) (by simp) ?_
    refine AllReadyH.cons (i := 9) rfl (fun K hK => ?_) AllReadyH.nil
    go_simp
    refine (specShow_is a b e _).mono ?_
    rintro en v4 ⟨rfl, hv4⟩
    have TN := TC.later hv4 (by have := ZC.out; omega)
    have UN := UC.later hv4 (by have := ZC.out; omega)
    have ZN : Hid (w.heap.size + 2 ≤ v4.heap.size) := Nat.le_trans ZC.out hv4.size
    have BN := BC.trans (hv4.mono BC.size)
    clear TC UC ZC BC
    have TC := TN
    have UC := UN
    have ZC := ZN
    have BC := BN
    clear TN UN ZN BN
    clear hv4
    go_wp2_with fail
    refine hK.out _ _ ⟨TC, UC⟩ (fun hHeld2 => ?_)
    clear hK K hHeld
    have hHeld := hHeld2
    clear hHeld2
    try simp only [Act.put, List.setIfInBounds_toArray, List.set_cons_zero, List.set_cons_succ]
    obtain ⟨v5, hv5⟩ : ∃ v, (v4).alloc (.cells #[.string (numsT [2, target, nonce]), .string tk, .string (shA c t q key), .string (shR a b e), .string ev] 9) = v := ⟨_, rfl⟩
    have XA : Below (v4).heap.size (v4) v5 := by rw [← hv5]; exact (Below.refl _ _).alloc (Nat.le_refl _) _
    have TN := TC.later XA (by have := ZC.out; omega)
    have UN := UC.later XA (by have := ZC.out; omega)
    have ZN : Hid (w.heap.size + 2 ≤ v5.heap.size) := Nat.le_trans ZC.out XA.size
    have BN := BC.trans (XA.mono BC.size)
    have RLN : RowAt Value.string v5 (some ⟨(v4).heap.size, 0, none⟩) [numsT [2, target, nonce], tk, shA c t q key, shR a b e, ev] := by rw [← hv5]; exact row_new Value.string (v4) [numsT [2, target, nonce], tk, shA c t q key, shR a b e, ev] 9
    refine wpAnyH_ready (rs := [11]) (by kernel_rfl) (by simp) ?_
    refine AllReadyH.cons (i := 11) rfl (fun K hK => ?_) AllReadyH.nil
    go_simp
    refine hK.out _ _ (by (try rw [hv5]); exact ⟨TN, UN⟩) (fun hHeld2 => ?_)
    clear hK K hHeld
    have hHeld := hHeld2
    clear hHeld2
    try simp only [Act.put, List.setIfInBounds_toArray, List.set_cons_zero, List.set_cons_succ]
    clear TC UC ZC BC
    have TC := TN
    have UC := UN
    have ZC := ZN
    have BC := BN
    clear TN UN ZN BN
    have RL := RLN
    clear RLN XA
    try rw [hv5]
    clear hv5
    refine wpAnyH_ready (rs := [12]) (by kernel_rfl) (by simp) ?_
    refine AllReadyH.cons (i := 12) rfl (fun K hK => ?_) AllReadyH.nil
    go_simp
    refine (spec_list _ 5 [numsT [2, target, nonce], tk, shA c t q key, shR a b e, ev] _ RL (by simp) (by intro x hx; simp only [List.mem_cons, List.not_mem_nil, or_false] at hx; rcases hx with rfl | rfl | rfl | rfl | rfl; exact Nat.le_trans (listT_size _) (by omega); exact ht; exact Nat.le_trans (shA_size c t q key) (by omega); exact Nat.le_trans (shR_size a b e) (by omega); exact hv)).mono ?_
    rintro en v6 ⟨rfl, hv6⟩
    have TN := TC.later hv6 (by have := ZC.out; omega)
    have UN := UC.later hv6 (by have := ZC.out; omega)
    have ZN : Hid (w.heap.size + 2 ≤ v6.heap.size) := Nat.le_trans ZC.out hv6.size
    have BN := BC.trans (hv6.mono BC.size)
    have RLN := RowAt.later RL hv6
    clear TC UC ZC BC RL
    have TC := TN
    have UC := UN
    have ZC := ZN
    have BC := BN
    have RL := RLN
    clear TN UN ZN BN RLN
    clear hv6
    go_wp2_with fail
    refine hK.out _ _ ⟨TC, UC⟩ (fun hHeld2 => ?_)
    clear hK K hHeld
    have hHeld := hHeld2
    clear hHeld2
    try simp only [Act.put, List.setIfInBounds_toArray, List.set_cons_zero, List.set_cons_succ]
    clear RL
    refine take_one 13 14 (v := ?_) rfl rfl (by kernel_rfl) (by kernel_rfl) (by kernel_rfl) (fun _ _ _ h => h) (Or.inl ⟨by rfl, ?_⟩) hHeld ?_
    rotate_left
    · intro w' hSw; (try dsimp only at hSw); have d0 := hSw.1.at 0 rfl; have d1 := hSw.1.at 1 rfl; have d2 := hSw.1.at 2 rfl; have e0 := hSw.2.at 0 rfl; have e1 := hSw.2.at 1 rfl; have e2 := hSw.2.at 2 rfl; go_simp; try with_reducible rfl
    try simp only [Act.put, List.setIfInBounds_toArray, List.set_cons_zero, List.set_cons_succ]
    refine wpAnyH_done (by kernel_rfl) ?_ _
    go_wp2
    go_ret
    exact ⟨by rw [HR.out]; rfl, BC⟩
end Go.Proofs.Ytcaieniddnhkbaa
