/- Chapter 16: Times read, the program's. -/
import Derived.Test.YtaeecaebjafnpaaTmM
set_option linter.unusedVariables false
set_option maxRecDepth 100000
namespace Go.Proofs.Ytaeecaebjafnpaa
open Go.RowKit Own Var Term

set_option maxHeartbeats 6400000 in
theorem implRead_is (s : ByteArray) (w : World) (hs : s.size ≤ 1048576) : Calls Try.prog 24 #[.string s] w fun en w' => en = .returned (trV (numsR s).1) ∧ Below w.heap.size w w' := by
  obtain ⟨ie, hie, hsz⟩ := info_times
  have HN := nums_len s
  have HB := nums_back s
  have RN := fun w => impl_readNums s w hs
  obtain ⟨L, hL⟩ : ∃ L, (numsR s).1 = L := ⟨_, rfl⟩
  obtain ⟨t, ht⟩ : ∃ t, (numsR s).2 = t := ⟨_, rfl⟩
  rw [hL] at RN HN HB ⊢
  rw [ht] at RN HN HB
  have h0s := numsR_nil
  have BC : Below w.heap.size w (w.alloc (.cells #[.int .i64 0, .int .i64 0, .int .i64 0, .int .i64 0] 25)) := (Below.refl _ _).alloc (by simp <;> omega) _
  have UC : Blk w.heap.size [.int .i64 0, .int .i64 0, .int .i64 0, .int .i64 0] (w.alloc (.cells #[.int .i64 0, .int .i64 0, .int .i64 0, .int .i64 0] 25)) := by have h_ := (Blk.new w #[.int .i64 0, .int .i64 0, .int .i64 0, .int .i64 0] 25); simpa using h_
  go_enter Try.func24, Try.ntmps24
  go_wp2_with fail
  refine (RN _).mono ?_
  rintro en w2 ⟨v, rfl, ho, hb⟩
  replace UC := UC.later hb UC.lt
  replace BC := BC.trans (hb.mono BC.size)
  clear hb
  clear RN
  by_cases h4 : L.length = 4
  · obtain ⟨x, y, z, q, rfl⟩ : ∃ x y z q, L = [x, y, z, q] := by
      match L, h4 with
      | [x, y, z, q], _ => exact ⟨x, y, z, q, rfl⟩
    obtain ⟨gn, capn, rfl, hcap, hg, hlt, NC⟩ := own_blk (f := Value.int .i64) (xs := [x, y, z, q]) ho (by simp)
    simp only [List.length_cons, List.length_nil, Nat.zero_add, Nat.reduceAdd] at hcap
    have hc4 : (4 : Int) ≤ (capn : Int) := by omega
    replace NC : Blk gn [.int .i64 x, .int .i64 y, .int .i64 z, .int .i64 q] w2 := NC
    have hg0 : w.heap.size < gn := by have h_ := hg; simp at h_; omega
    clear ho hg hlt hcap HN HB h0s hL ht h4
    go_wp2_with fail
    replace UC := UC.drew
    replace NC := NC.drew
    replace BC := BC.drew
    refine wp_region_held_drew (S := (fun Vw => Blk gn [.int .i64 x, .int .i64 y, .int .i64 z, .int .i64 q] Vw)) (by kernel_rfl) NC (fun hHeld => ?_)
    generalize World.drew w2 = wd at *
    refine take_one 0 15 (v := ?_) rfl rfl (by kernel_rfl) (by kernel_rfl) (by kernel_rfl) (fun _ _ _ h => h) (Or.inl ⟨by rfl, ?_⟩) hHeld ?_
    rotate_left
    · intro w' hSw; (try dsimp only at hSw); have d0 := hSw.at 0 rfl; have d1 := hSw.at 1 rfl; have d2 := hSw.at 2 rfl; have d3 := hSw.at 3 rfl; go_simp; try with_reducible rfl
    try simp only [Act.put, List.setIfInBounds_toArray, List.set_cons_zero, List.set_cons_succ]
    refine take_one 1 16 (v := ?_) rfl rfl (by kernel_rfl) (by kernel_rfl) (by kernel_rfl) (fun _ _ _ h => h) (Or.inl ⟨by rfl, ?_⟩) hHeld ?_
    rotate_left
    · intro w' hSw; (try dsimp only at hSw); have d0 := hSw.at 0 rfl; have d1 := hSw.at 1 rfl; have d2 := hSw.at 2 rfl; have d3 := hSw.at 3 rfl; go_simp; try with_reducible rfl
    try simp only [Act.put, List.setIfInBounds_toArray, List.set_cons_zero, List.set_cons_succ]
    refine take_one 2 17 (v := ?_) rfl rfl (by kernel_rfl) (by kernel_rfl) (by kernel_rfl) (fun _ _ _ h => h) (Or.inl ⟨by rfl, ?_⟩) hHeld ?_
    rotate_left
    · intro w' hSw; (try dsimp only at hSw); have d0 := hSw.at 0 rfl; have d1 := hSw.at 1 rfl; have d2 := hSw.at 2 rfl; have d3 := hSw.at 3 rfl; go_simp; try with_reducible rfl
    try simp only [Act.put, List.setIfInBounds_toArray, List.set_cons_zero, List.set_cons_succ]
    refine take_one 3 18 (v := ?_) rfl rfl (by kernel_rfl) (by kernel_rfl) (by kernel_rfl) (fun _ _ _ h => h) (Or.inl ⟨by rfl, ?_⟩) hHeld ?_
    rotate_left
    · intro w' hSw; (try dsimp only at hSw); have d0 := hSw.at 0 rfl; have d1 := hSw.at 1 rfl; have d2 := hSw.at 2 rfl; have d3 := hSw.at 3 rfl; go_simp; try with_reducible rfl
    try simp only [Act.put, List.setIfInBounds_toArray, List.set_cons_zero, List.set_cons_succ]
    refine take_one 4 19 (v := ?_) rfl rfl (by kernel_rfl) (by kernel_rfl) (by kernel_rfl) (fun _ _ _ h => h) (Or.inl ⟨by rfl, ?_⟩) hHeld ?_
    rotate_left
    · intro w' hSw; (try dsimp only at hSw); have d0 := hSw.at 0 rfl; have d1 := hSw.at 1 rfl; have d2 := hSw.at 2 rfl; have d3 := hSw.at 3 rfl; go_simp; try with_reducible rfl
    try simp only [Act.put, List.setIfInBounds_toArray, List.set_cons_zero, List.set_cons_succ]
    refine take_one 5 20 (v := ?_) rfl rfl (by kernel_rfl) (by kernel_rfl) (by kernel_rfl) (fun _ _ _ h => h) (Or.inl ⟨by rfl, ?_⟩) hHeld ?_
    rotate_left
    · intro w' hSw; (try dsimp only at hSw); have d0 := hSw.at 0 rfl; have d1 := hSw.at 1 rfl; have d2 := hSw.at 2 rfl; have d3 := hSw.at 3 rfl; go_simp; try with_reducible rfl
    try simp only [Act.put, List.setIfInBounds_toArray, List.set_cons_zero, List.set_cons_succ]
    refine take_one 6 21 (v := ?_) rfl rfl (by kernel_rfl) (by kernel_rfl) (by kernel_rfl) (fun _ _ _ h => h) (Or.inl ⟨by rfl, ?_⟩) hHeld ?_
    rotate_left
    · intro w' hSw; (try dsimp only at hSw); have d0 := hSw.at 0 rfl; have d1 := hSw.at 1 rfl; have d2 := hSw.at 2 rfl; have d3 := hSw.at 3 rfl; go_simp; try with_reducible rfl
    try simp only [Act.put, List.setIfInBounds_toArray, List.set_cons_zero, List.set_cons_succ]
    refine take_one 7 22 (v := ?_) rfl rfl (by kernel_rfl) (by kernel_rfl) (by kernel_rfl) (fun _ _ _ h => h) (Or.inl ⟨by rfl, ?_⟩) hHeld ?_
    rotate_left
    · intro w' hSw; (try dsimp only at hSw); have d0 := hSw.at 0 rfl; have d1 := hSw.at 1 rfl; have d2 := hSw.at 2 rfl; have d3 := hSw.at 3 rfl; go_simp; try with_reducible rfl
    try simp only [Act.put, List.setIfInBounds_toArray, List.set_cons_zero, List.set_cons_succ]
    refine take_one 8 23 (v := ?_) rfl rfl (by kernel_rfl) (by kernel_rfl) (by kernel_rfl) (fun _ _ _ h => h) (Or.inl ⟨by rfl, ?_⟩) hHeld ?_
    rotate_left
    · intro w' hSw; (try dsimp only at hSw); have d0 := hSw.at 0 rfl; have d1 := hSw.at 1 rfl; have d2 := hSw.at 2 rfl; have d3 := hSw.at 3 rfl; go_simp; try with_reducible rfl
    try simp only [Act.put, List.setIfInBounds_toArray, List.set_cons_zero, List.set_cons_succ]
    refine take_one 9 24 (v := ?_) rfl rfl (by kernel_rfl) (by kernel_rfl) (by kernel_rfl) (fun _ _ _ h => h) (Or.inl ⟨by rfl, ?_⟩) hHeld ?_
    rotate_left
    · intro w' hSw; (try dsimp only at hSw); have d0 := hSw.at 0 rfl; have d1 := hSw.at 1 rfl; have d2 := hSw.at 2 rfl; have d3 := hSw.at 3 rfl; go_simp; try with_reducible rfl
    try simp only [Act.put, List.setIfInBounds_toArray, List.set_cons_zero, List.set_cons_succ]
    refine take_one 10 25 (v := ?_) rfl rfl (by kernel_rfl) (by kernel_rfl) (by kernel_rfl) (fun _ _ _ h => h) (Or.inl ⟨by rfl, ?_⟩) hHeld ?_
    rotate_left
    · intro w' hSw; (try dsimp only at hSw); have d0 := hSw.at 0 rfl; have d1 := hSw.at 1 rfl; have d2 := hSw.at 2 rfl; have d3 := hSw.at 3 rfl; go_simp; try with_reducible rfl
    try simp only [Act.put, List.setIfInBounds_toArray, List.set_cons_zero, List.set_cons_succ]
    refine take_one 11 26 (v := ?_) rfl rfl (by kernel_rfl) (by kernel_rfl) (by kernel_rfl) (fun _ _ _ h => h) (Or.inl ⟨by rfl, ?_⟩) hHeld ?_
    rotate_left
    · intro w' hSw; (try dsimp only at hSw); have d0 := hSw.at 0 rfl; have d1 := hSw.at 1 rfl; have d2 := hSw.at 2 rfl; have d3 := hSw.at 3 rfl; go_simp; try with_reducible rfl
    try simp only [Act.put, List.setIfInBounds_toArray, List.set_cons_zero, List.set_cons_succ]
    refine take_one 12 27 (v := ?_) rfl rfl (by kernel_rfl) (by kernel_rfl) (by kernel_rfl) (fun _ _ _ h => h) (Or.inl ⟨by rfl, ?_⟩) hHeld ?_
    rotate_left
    · intro w' hSw; (try dsimp only at hSw); have d0 := hSw.at 0 rfl; have d1 := hSw.at 1 rfl; have d2 := hSw.at 2 rfl; have d3 := hSw.at 3 rfl; go_simp; try with_reducible rfl
    try simp only [Act.put, List.setIfInBounds_toArray, List.set_cons_zero, List.set_cons_succ]
    refine wpAnyH_ready (rs := [13]) (by kernel_rfl) (by simp) ?_
    refine AllReadyH.cons (i := 13) rfl (fun K hK => ?_) AllReadyH.nil
    go_simp
    refine (rightTimes_is x y z q _).mono ?_
    rintro en w3 ⟨rfl, hb⟩
    replace UC := UC.later hb UC.lt
    replace NC := NC.later hb NC.lt
    replace BC := BC.trans (hb.mono BC.size)
    clear hb
    unfold tmIf
    generalize hbb : tmOk x y z q = bb
    cases bb with
    | true =>
      rw [if_pos rfl]
      go_wp2_with fail
      refine hK.out _ _ NC (fun hHeld2 => ?_)
      clear hK K hHeld
      have hHeld := hHeld2
      clear hHeld2
      try simp only [Act.put, List.setIfInBounds_toArray, List.set_cons_zero, List.set_cons_succ]
      refine take_one 14 29 (v := ?_) rfl rfl (by kernel_rfl) (by kernel_rfl) (by kernel_rfl) (fun _ _ _ h => h) (Or.inl ⟨by rfl, ?_⟩) hHeld ?_
      rotate_left
      · intro w' hSw; (try dsimp only at hSw); go_simp; try with_reducible rfl
      try simp only [Act.put, List.setIfInBounds_toArray, List.set_cons_zero, List.set_cons_succ]
      refine take_one 15 30 (v := ?_) rfl rfl (by kernel_rfl) (by kernel_rfl) (by kernel_rfl) (fun _ _ _ h => h) (Or.inl ⟨by rfl, ?_⟩) hHeld ?_
      rotate_left
      · intro w' hSw; (try dsimp only at hSw); go_simp; try with_reducible rfl
      try simp only [Act.put, List.setIfInBounds_toArray, List.set_cons_zero, List.set_cons_succ]
      have N_ : Blk w.heap.size [.int .i64 x, .int .i64 y, .int .i64 z, .int .i64 q] ((w3).setCells w.heap.size 0 [.int .i64 x, .int .i64 y, .int .i64 z, .int .i64 q]) := UC.part 0 [.int .i64 x, .int .i64 y, .int .i64 z, .int .i64 q] _ (by simp) rfl
      have NC_ := Blk.farS (q := w.heap.size) (by omega) [.int .i64 x, .int .i64 y, .int .i64 z, .int .i64 q] 0 _ NC
      have BC_ := below_sets (m := w.heap.size) (g := w.heap.size) (by omega) [.int .i64 x, .int .i64 y, .int .i64 z, .int .i64 q] 0 _ BC
      refine wpAnyH_ready (rs := [16]) (by kernel_rfl) (by simp) ?_
      refine AllReadyH.cons (i := 16) rfl (fun K hK => ?_) AllReadyH.nil
      refine stepB 25 _ _ (w.heap.size) 0 [.int .i64 0, .int .i64 0, .int .i64 0, .int .i64 0] [.int .i64 x, .int .i64 y, .int .i64 z, .int .i64 q] ie hie UC (by rw [hsz]; rfl) (by simp) rfl rfl rfl rfl rfl ?_
      try simp only [Act.put, List.setIfInBounds_toArray]
      obtain ⟨V1, hV1⟩ : ∃ Wz, (w3).setCells (w.heap.size) 0 [.int .i64 x, .int .i64 y, .int .i64 z, .int .i64 q] = Wz := ⟨_, rfl⟩
      rw [hV1] at N_ BC_ NC_ ⊢
      clear hV1 UC BC NC
      have UC := N_
      have BC := BC_
      have NC := NC_
      clear N_ BC_ NC_
      refine hK.out _ _ NC (fun hHeld2 => ?_)
      clear hK K hHeld
      have hHeld := hHeld2
      clear hHeld2
      try simp only [Act.put, List.setIfInBounds_toArray, List.set_cons_zero, List.set_cons_succ]
      refine take_one 17 3 (v := ?_) rfl rfl (by kernel_rfl) (by kernel_rfl) (by kernel_rfl) (fun _ _ _ h => h) (Or.inl ⟨by rfl, ?_⟩) hHeld ?_
      rotate_left
      · intro w' hSw; (try dsimp only at hSw); go_simp; try with_reducible rfl
      try simp only [Act.put]
      refine wpAnyH_done (by kernel_rfl) ?_ _
      go_wp2_with fail
      exact bodyPost_ret (res_B2 rfl _ _ w.heap.size _ (.bool true) ie hie ag25 UC (by rw [hsz]; rfl) rfl rfl) rfl ⟨by rw [trV_yes x y z q hbb], BC⟩
    | false =>
      rw [if_neg (by decide)]
      go_wp2_with fail
      refine hK.out _ _ NC (fun hHeld2 => ?_)
      clear hK K hHeld
      have hHeld := hHeld2
      clear hHeld2
      try simp only [Act.put, List.setIfInBounds_toArray, List.set_cons_zero, List.set_cons_succ]
      refine take_one 14 29 (v := ?_) rfl rfl (by kernel_rfl) (by kernel_rfl) (by kernel_rfl) (fun _ _ _ h => h) (Or.inl ⟨by rfl, ?_⟩) hHeld ?_
      rotate_left
      · intro w' hSw; (try dsimp only at hSw); go_simp; try with_reducible rfl
      try simp only [Act.put, List.setIfInBounds_toArray, List.set_cons_zero, List.set_cons_succ]
      refine take_one 15 30 (v := ?_) rfl rfl (by kernel_rfl) (by kernel_rfl) (by kernel_rfl) (fun _ _ _ h => h) (Or.inl ⟨by rfl, ?_⟩) hHeld ?_
      rotate_left
      · intro w' hSw; (try dsimp only at hSw); go_simp; try with_reducible rfl
      try simp only [Act.put, List.setIfInBounds_toArray, List.set_cons_zero, List.set_cons_succ]
      have N_ : Blk w.heap.size [.int .i64 0, .int .i64 0, .int .i64 0, .int .i64 0] ((w3).setCells w.heap.size 0 [.int .i64 0, .int .i64 0, .int .i64 0, .int .i64 0]) := UC.part 0 [.int .i64 0, .int .i64 0, .int .i64 0, .int .i64 0] _ (by simp) rfl
      have NC_ := Blk.farS (q := w.heap.size) (by omega) [.int .i64 0, .int .i64 0, .int .i64 0, .int .i64 0] 0 _ NC
      have BC_ := below_sets (m := w.heap.size) (g := w.heap.size) (by omega) [.int .i64 0, .int .i64 0, .int .i64 0, .int .i64 0] 0 _ BC
      refine wpAnyH_ready (rs := [16]) (by kernel_rfl) (by simp) ?_
      refine AllReadyH.cons (i := 16) rfl (fun K hK => ?_) AllReadyH.nil
      refine stepB 25 _ _ (w.heap.size) 0 [.int .i64 0, .int .i64 0, .int .i64 0, .int .i64 0] [.int .i64 0, .int .i64 0, .int .i64 0, .int .i64 0] ie hie UC (by rw [hsz]; rfl) (by simp) rfl rfl rfl rfl rfl ?_
      try simp only [Act.put, List.setIfInBounds_toArray]
      obtain ⟨V1, hV1⟩ : ∃ Wz, (w3).setCells (w.heap.size) 0 [.int .i64 0, .int .i64 0, .int .i64 0, .int .i64 0] = Wz := ⟨_, rfl⟩
      rw [hV1] at N_ BC_ NC_ ⊢
      clear hV1 UC BC NC
      have UC := N_
      have BC := BC_
      have NC := NC_
      clear N_ BC_ NC_
      refine hK.out _ _ NC (fun hHeld2 => ?_)
      clear hK K hHeld
      have hHeld := hHeld2
      clear hHeld2
      try simp only [Act.put, List.setIfInBounds_toArray, List.set_cons_zero, List.set_cons_succ]
      refine take_one 17 3 (v := ?_) rfl rfl (by kernel_rfl) (by kernel_rfl) (by kernel_rfl) (fun _ _ _ h => h) (Or.inl ⟨by rfl, ?_⟩) hHeld ?_
      rotate_left
      · intro w' hSw; (try dsimp only at hSw); go_simp; try with_reducible rfl
      try simp only [Act.put]
      refine wpAnyH_done (by kernel_rfl) ?_ _
      go_wp2_with fail
      exact bodyPost_ret (res_B2 rfl _ _ w.heap.size _ (.bool false) ie hie ag25 UC (by rw [hsz]; rfl) rfl rfl) rfl ⟨by rw [trV_no _ (trK_no x y z q hbb)], BC⟩
  · obtain ⟨an, capn, rfl, hcapn, _⟩ := own_row (f := Value.int .i64) (xs := L) ho
    have e4 : ((L.length : Int) == 4) = false := by simp; omega
    clear ho HN HB h0s hL ht
    have HT : Hid (trK L = false) := trK_len L h4
    clear h4
    have FU := UC.sets [.int .i64 0, .int .i64 0, .int .i64 0, .int .i64 0] rfl
    have FB := below_sets (m := w.heap.size) (g := w.heap.size) (by omega) [.int .i64 0, .int .i64 0, .int .i64 0, .int .i64 0] 0 _ BC
    go_wp2_with (refine wpList_stB 25 _ _ w.heap.size 0 [.int .i64 0, .int .i64 0, .int .i64 0, .int .i64 0] [.int .i64 0, .int .i64 0, .int .i64 0, .int .i64 0] ie hie UC (by rw [hsz]; rfl) (by simp) rfl rfl rfl rfl rfl ?_; try simp only [Act.put])
    exact bodyPost_ret (res_B2 rfl _ _ w.heap.size _ (.bool false) ie hie ag25 FU (by rw [hsz]; rfl) rfl rfl) rfl ⟨by rw [trV_no L HT.out], FB⟩

end Go.Proofs.Ytaeecaebjafnpaa
