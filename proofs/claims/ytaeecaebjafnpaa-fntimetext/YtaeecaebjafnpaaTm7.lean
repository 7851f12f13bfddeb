/- Chapter 16: Times read, the model's. -/
import Derived.Test.YtaeecaebjafnpaaTm5
set_option linter.unusedVariables false
set_option maxRecDepth 100000
namespace Go.Proofs.Ytaeecaebjafnpaa
open Go.RowKit Own Var Term

set_option maxHeartbeats 6400000 in
theorem specRead_is (s : ByteArray) (w : World) (hs : s.size ≤ 1048576) : Calls Try.prog 27 #[.string s] w fun en w' => en = .returned (trV (numsR s).1) ∧ Below w.heap.size w w' := by
  obtain ⟨ie, hie, hsz⟩ := info_times
  have HN := nums_len s
  have HB := nums_back s
  have RN := fun w => spec_readNums s w hs
  obtain ⟨L, hL⟩ : ∃ L, (numsR s).1 = L := ⟨_, rfl⟩
  obtain ⟨t, ht⟩ : ∃ t, (numsR s).2 = t := ⟨_, rfl⟩
  rw [hL] at RN HN HB ⊢
  rw [ht] at RN HN HB
  have h0s := numsR_nil
  have BC : Below w.heap.size w (w.alloc (.cells #[.int .i64 0, .int .i64 0, .int .i64 0, .int .i64 0] 25)) := (Below.refl _ _).alloc (by simp <;> omega) _
  have UC : Blk w.heap.size [.int .i64 0, .int .i64 0, .int .i64 0, .int .i64 0] (w.alloc (.cells #[.int .i64 0, .int .i64 0, .int .i64 0, .int .i64 0] 25)) := by have h_ := (Blk.new w #[.int .i64 0, .int .i64 0, .int .i64 0, .int .i64 0] 25); simpa using h_
  go_enter Try.func27, Try.ntmps27
  go_wp2_with fail
  refine (RN _).mono ?_
  rintro en w2 ⟨v, rfl, ho, hb⟩
  replace UC := UC.later hb UC.lt
  replace BC := BC.trans (hb.mono BC.size)
  clear hb
  clear RN
  cases t with
  | false =>
    obtain rfl : L = [] := HN rfl
    obtain ⟨an, capn, rfl, hcapn, _⟩ := own_row (f := Value.int .i64) (xs := []) ho
    clear ho HN HB h0s hL ht
    have FU := UC.sets [.int .i64 0, .int .i64 0, .int .i64 0, .int .i64 0] rfl
    have FB := below_sets (m := w.heap.size) (g := w.heap.size) (by omega) [.int .i64 0, .int .i64 0, .int .i64 0, .int .i64 0] 0 _ BC
    go_wp2_with (refine wpList_stB 25 _ _ w.heap.size 0 [.int .i64 0, .int .i64 0, .int .i64 0, .int .i64 0] [.int .i64 0, .int .i64 0, .int .i64 0, .int .i64 0] ie hie UC (by rw [hsz]; rfl) (by simp) rfl rfl rfl rfl rfl ?_; try simp only [Act.put])
    exact bodyPost_ret (res_B2 rfl _ _ w.heap.size _ (.bool false) ie hie ag25 FU (by rw [hsz]; rfl) rfl rfl) rfl ⟨by rw [trV_no [] rfl], FB⟩
  | true =>
    by_cases h4 : L.length = 4
    · obtain ⟨x, y, z, q, rfl⟩ : ∃ x y z q, L = [x, y, z, q] := by
        match L, h4 with
        | [x, y, z, q], _ => exact ⟨x, y, z, q, rfl⟩
      obtain ⟨gn, capn, rfl, hcap, hg, hlt, NC⟩ := own_blk (f := Value.int .i64) (xs := [x, y, z, q]) ho (by simp)
      simp only [List.length_cons, List.length_nil, Nat.zero_add, Nat.reduceAdd] at hcap
      have hc4 : (4 : Int) ≤ (capn : Int) := by omega
      replace NC : Blk gn [.int .i64 x, .int .i64 y, .int .i64 z, .int .i64 q] w2 := NC
      have hg0 : w.heap.size < gn := by have h_ := hg; simp at h_; omega
      have hT : tmT x y z q = s ∨ (tmOk x y z q = false ∧ ¬ tmT x y z q = s) := by
        unfold tmT
        cases hq : tmOk x y z q with
        | true => rw [if_pos rfl]; exact Or.inl (HB rfl)
        | false =>
          rw [if_neg (by decide)]
          refine Or.inr ⟨rfl, fun he => ?_⟩
          rw [← he, h0s] at ht
          cases ht
      have HT : Hid (tmT x y z q = s ∨ (tmOk x y z q = false ∧ ¬ tmT x y z q = s)) := hT
      have HO : Hid (tmOk x y z q = true ∨ tmT x y z q = ⟨#[]⟩) := by
        show _ ∨ _
        unfold tmT
        cases hq : tmOk x y z q with
        | true => exact Or.inl rfl
        | false => exact Or.inr (if_neg (by decide))
      have HZ : Hid (¬ s = ⟨#[]⟩) := by
        show ¬ _
        intro he
        rw [he, h0s] at ht
        cases ht
      clear ho hg hlt hcap HN HB h0s hL ht h4 hT
      go_wp2_with fail
      replace UC := UC.drew
      replace NC := NC.drew
      replace BC := BC.drew
      refine wp_region_held_drew (S := (fun Vw => Blk gn [.int .i64 x, .int .i64 y, .int .i64 z, .int .i64 q] Vw)) (by kernel_rfl) NC (fun hHeld => ?_)
      generalize World.drew w2 = wd at *
      have Z4 : Hid (w.heap.size < wd.heap.size) := UC.lt
      refine take_one 0 20 (v := ?_) rfl rfl (by kernel_rfl) (by kernel_rfl) (by kernel_rfl) (fun _ _ _ h => h) (Or.inl ⟨by rfl, ?_⟩) hHeld ?_
      rotate_left
      · intro w' hSw; (try dsimp only at hSw); have d0 := hSw.at 0 rfl; have d1 := hSw.at 1 rfl; have d2 := hSw.at 2 rfl; have d3 := hSw.at 3 rfl; go_simp; try with_reducible rfl
      try simp only [Act.put, List.setIfInBounds_toArray, List.set_cons_zero, List.set_cons_succ]
      refine take_one 1 21 (v := ?_) rfl rfl (by kernel_rfl) (by kernel_rfl) (by kernel_rfl) (fun _ _ _ h => h) (Or.inl ⟨by rfl, ?_⟩) hHeld ?_
      rotate_left
      · intro w' hSw; (try dsimp only at hSw); have d0 := hSw.at 0 rfl; have d1 := hSw.at 1 rfl; have d2 := hSw.at 2 rfl; have d3 := hSw.at 3 rfl; go_simp; try with_reducible rfl
      try simp only [Act.put, List.setIfInBounds_toArray, List.set_cons_zero, List.set_cons_succ]
      refine take_one 2 22 (v := ?_) rfl rfl (by kernel_rfl) (by kernel_rfl) (by kernel_rfl) (fun _ _ _ h => h) (Or.inl ⟨by rfl, ?_⟩) hHeld ?_
      rotate_left
      · intro w' hSw; (try dsimp only at hSw); have d0 := hSw.at 0 rfl; have d1 := hSw.at 1 rfl; have d2 := hSw.at 2 rfl; have d3 := hSw.at 3 rfl; go_simp; try with_reducible rfl
      try simp only [Act.put, List.setIfInBounds_toArray, List.set_cons_zero, List.set_cons_succ]
      refine take_one 3 23 (v := ?_) rfl rfl (by kernel_rfl) (by kernel_rfl) (by kernel_rfl) (fun _ _ _ h => h) (Or.inl ⟨by rfl, ?_⟩) hHeld ?_
      rotate_left
      · intro w' hSw; (try dsimp only at hSw); have d0 := hSw.at 0 rfl; have d1 := hSw.at 1 rfl; have d2 := hSw.at 2 rfl; have d3 := hSw.at 3 rfl; go_simp; try with_reducible rfl
      try simp only [Act.put, List.setIfInBounds_toArray, List.set_cons_zero, List.set_cons_succ]
      refine take_one 4 24 (v := ?_) rfl rfl (by kernel_rfl) (by kernel_rfl) (by kernel_rfl) (fun _ _ _ h => h) (Or.inl ⟨by rfl, ?_⟩) hHeld ?_
      rotate_left
      · intro w' hSw; (try dsimp only at hSw); have d0 := hSw.at 0 rfl; have d1 := hSw.at 1 rfl; have d2 := hSw.at 2 rfl; have d3 := hSw.at 3 rfl; go_simp; try with_reducible rfl
      try simp only [Act.put, List.setIfInBounds_toArray, List.set_cons_zero, List.set_cons_succ]
      refine take_one 5 25 (v := ?_) rfl rfl (by kernel_rfl) (by kernel_rfl) (by kernel_rfl) (fun _ _ _ h => h) (Or.inl ⟨by rfl, ?_⟩) hHeld ?_
      rotate_left
      · intro w' hSw; (try dsimp only at hSw); have d0 := hSw.at 0 rfl; have d1 := hSw.at 1 rfl; have d2 := hSw.at 2 rfl; have d3 := hSw.at 3 rfl; go_simp; try with_reducible rfl
      try simp only [Act.put, List.setIfInBounds_toArray, List.set_cons_zero, List.set_cons_succ]
      refine take_one 6 26 (v := ?_) rfl rfl (by kernel_rfl) (by kernel_rfl) (by kernel_rfl) (fun _ _ _ h => h) (Or.inl ⟨by rfl, ?_⟩) hHeld ?_
      rotate_left
      · intro w' hSw; (try dsimp only at hSw); have d0 := hSw.at 0 rfl; have d1 := hSw.at 1 rfl; have d2 := hSw.at 2 rfl; have d3 := hSw.at 3 rfl; go_simp; try with_reducible rfl
      try simp only [Act.put, List.setIfInBounds_toArray, List.set_cons_zero, List.set_cons_succ]
      refine take_one 7 27 (v := ?_) rfl rfl (by kernel_rfl) (by kernel_rfl) (by kernel_rfl) (fun _ _ _ h => h) (Or.inl ⟨by rfl, ?_⟩) hHeld ?_
      rotate_left
      · intro w' hSw; (try dsimp only at hSw); have d0 := hSw.at 0 rfl; have d1 := hSw.at 1 rfl; have d2 := hSw.at 2 rfl; have d3 := hSw.at 3 rfl; go_simp; try with_reducible rfl
      try simp only [Act.put, List.setIfInBounds_toArray, List.set_cons_zero, List.set_cons_succ]
      refine take_one 8 28 (v := ?_) rfl rfl (by kernel_rfl) (by kernel_rfl) (by kernel_rfl) (fun _ _ _ h => h) (Or.inl ⟨by rfl, ?_⟩) hHeld ?_
      rotate_left
      · intro w' hSw; (try dsimp only at hSw); have d0 := hSw.at 0 rfl; have d1 := hSw.at 1 rfl; have d2 := hSw.at 2 rfl; have d3 := hSw.at 3 rfl; go_simp; try with_reducible rfl
      try simp only [Act.put, List.setIfInBounds_toArray, List.set_cons_zero, List.set_cons_succ]
      refine take_one 9 29 (v := ?_) rfl rfl (by kernel_rfl) (by kernel_rfl) (by kernel_rfl) (fun _ _ _ h => h) (Or.inl ⟨by rfl, ?_⟩) hHeld ?_
      rotate_left
      · intro w' hSw; (try dsimp only at hSw); have d0 := hSw.at 0 rfl; have d1 := hSw.at 1 rfl; have d2 := hSw.at 2 rfl; have d3 := hSw.at 3 rfl; go_simp; try with_reducible rfl
      try simp only [Act.put, List.setIfInBounds_toArray, List.set_cons_zero, List.set_cons_succ]
      refine take_one 10 30 (v := ?_) rfl rfl (by kernel_rfl) (by kernel_rfl) (by kernel_rfl) (fun _ _ _ h => h) (Or.inl ⟨by rfl, ?_⟩) hHeld ?_
      rotate_left
      · intro w' hSw; (try dsimp only at hSw); have d0 := hSw.at 0 rfl; have d1 := hSw.at 1 rfl; have d2 := hSw.at 2 rfl; have d3 := hSw.at 3 rfl; go_simp; try with_reducible rfl
      try simp only [Act.put, List.setIfInBounds_toArray, List.set_cons_zero, List.set_cons_succ]
      refine take_one 11 31 (v := ?_) rfl rfl (by kernel_rfl) (by kernel_rfl) (by kernel_rfl) (fun _ _ _ h => h) (Or.inl ⟨by rfl, ?_⟩) hHeld ?_
      rotate_left
      · intro w' hSw; (try dsimp only at hSw); have d0 := hSw.at 0 rfl; have d1 := hSw.at 1 rfl; have d2 := hSw.at 2 rfl; have d3 := hSw.at 3 rfl; go_simp; try with_reducible rfl
      try simp only [Act.put, List.setIfInBounds_toArray, List.set_cons_zero, List.set_cons_succ]
      refine take_one 12 32 (v := ?_) rfl rfl (by kernel_rfl) (by kernel_rfl) (by kernel_rfl) (fun _ _ _ h => h) (Or.inl ⟨by rfl, ?_⟩) hHeld ?_
      rotate_left
      · intro w' hSw; (try dsimp only at hSw); have d0 := hSw.at 0 rfl; have d1 := hSw.at 1 rfl; have d2 := hSw.at 2 rfl; have d3 := hSw.at 3 rfl; go_simp; try with_reducible rfl
      try simp only [Act.put, List.setIfInBounds_toArray, List.set_cons_zero, List.set_cons_succ]
      refine wpAnyH_ready (rs := [13]) (by kernel_rfl) (by simp) ?_
      refine AllReadyH.cons (i := 13) rfl (fun K hK => ?_) AllReadyH.nil
      go_simp
      have OC : Blk wd.heap.size [.int .i64 0, .int .i64 0, .int .i64 0, .int .i64 0] (wd.alloc (.cells #[.int .i64 0, .int .i64 0, .int .i64 0, .int .i64 0] 25)) := Blk.new _ _ _
      have XA_ : Below wd.heap.size wd (wd.alloc (.cells #[.int .i64 0, .int .i64 0, .int .i64 0, .int .i64 0] 25)) := (Below.refl _ _).alloc (Nat.le_refl _) _
      replace UC := UC.later XA_ UC.lt
      replace NC := NC.later XA_ NC.lt
      have Z5 : Hid (gn < wd.heap.size) := by show _ < _; have h_ := hHeld.lt; exact h_
      replace BC := BC.trans (XA_.mono BC.size)
      clear XA_
      obtain ⟨V0, hV0⟩ : ∃ Wz, (wd.alloc (.cells #[.int .i64 0, .int .i64 0, .int .i64 0, .int .i64 0] 25)) = Wz := ⟨_, rfl⟩
      rw [hV0] at UC NC OC BC ⊢
      clear hV0
      have z4_ := Z4.out
      have z5_ := Z5.out
      refine hK.out _ _ NC (fun hHeld2 => ?_)
      clear hK K hHeld
      have hHeld := hHeld2
      clear hHeld2
      try simp only [Act.put, List.setIfInBounds_toArray, List.set_cons_zero, List.set_cons_succ]
      have N_ : Blk wd.heap.size [.int .i64 x, .int .i64 y, .int .i64 z, .int .i64 q] ((V0).setCells wd.heap.size 0 [.int .i64 x, .int .i64 y, .int .i64 z, .int .i64 q]) := OC.part 0 [.int .i64 x, .int .i64 y, .int .i64 z, .int .i64 q] _ (by simp) rfl
      have UC_ := Blk.farS (q := wd.heap.size) (by omega) [.int .i64 x, .int .i64 y, .int .i64 z, .int .i64 q] 0 _ UC
      have NC_ := Blk.farS (q := wd.heap.size) (by omega) [.int .i64 x, .int .i64 y, .int .i64 z, .int .i64 q] 0 _ NC
      have BC_ := below_sets (m := w.heap.size) (g := wd.heap.size) (by omega) [.int .i64 x, .int .i64 y, .int .i64 z, .int .i64 q] 0 _ BC
      refine wpAnyH_ready (rs := [14]) (by kernel_rfl) (by simp) ?_
      refine AllReadyH.cons (i := 14) rfl (fun K hK => ?_) AllReadyH.nil
      refine stepB 25 _ _ (wd.heap.size) 0 [.int .i64 0, .int .i64 0, .int .i64 0, .int .i64 0] [.int .i64 x, .int .i64 y, .int .i64 z, .int .i64 q] ie hie OC (by rw [hsz]; rfl) (by simp) rfl rfl rfl rfl rfl ?_
      try simp only [Act.put, List.setIfInBounds_toArray]
      obtain ⟨V1, hV1⟩ : ∃ Wz, (V0).setCells (wd.heap.size) 0 [.int .i64 x, .int .i64 y, .int .i64 z, .int .i64 q] = Wz := ⟨_, rfl⟩
      rw [hV1] at N_ BC_ UC_ NC_ ⊢
      clear hV1 OC BC UC NC
      have OC := N_
      have BC := BC_
      have UC := UC_
      have NC := NC_
      clear N_ BC_ UC_ NC_
      refine hK.out _ _ NC (fun hHeld2 => ?_)
      clear hK K hHeld
      have hHeld := hHeld2
      clear hHeld2
      try simp only [Act.put, List.setIfInBounds_toArray, List.set_cons_zero, List.set_cons_succ]
      refine wpAnyH_done (by kernel_rfl) ?_ _
      have q1_ := OC.at 0 rfl
      have q2_ := OC.at 1 rfl
      have q3_ := OC.at 2 rfl
      have q4_ := OC.at 3 rfl
      go_wp2_with fail
      refine (specShow_is x y z q _).mono ?_
      rintro en w4 ⟨rfl, hb⟩
      replace UC := UC.later hb UC.lt
      replace NC := NC.later hb NC.lt
      replace OC := OC.later hb OC.lt
      replace BC := BC.trans (hb.mono BC.size)
      clear hb
      clear q1_ q2_ q3_ q4_
      by_cases he : tmT x y z q = s
      · have hk : tmOk x y z q = true := by
          rcases HO.out with h | h
          · exact h
          · exact absurd (he.symm.trans h) HZ.out
        rw [he]
        clear he HT
        have q5_ := OC.at 0 rfl
        have q6_ := OC.at 1 rfl
        have q7_ := OC.at 2 rfl
        have q8_ := OC.at 3 rfl
        have HK : Hid (tmOk x y z q = true) := hk
        clear hk
        have FU := UC.sets [.int .i64 x, .int .i64 y, .int .i64 z, .int .i64 q] rfl
        have FB := below_sets (m := w.heap.size) (g := w.heap.size) (by omega) [.int .i64 x, .int .i64 y, .int .i64 z, .int .i64 q] 0 _ BC
        go_wp2_with (refine wpList_stB 25 _ _ w.heap.size 0 [.int .i64 0, .int .i64 0, .int .i64 0, .int .i64 0] [.int .i64 x, .int .i64 y, .int .i64 z, .int .i64 q] ie hie UC (by rw [hsz]; rfl) (by simp) rfl rfl rfl rfl rfl ?_; try simp only [Act.put])
        exact bodyPost_ret (res_B2 rfl _ _ w.heap.size _ (.bool true) ie hie ag25 FU (by rw [hsz]; rfl) rfl rfl) rfl ⟨by rw [trV_yes x y z q HK.out], FB⟩
      · have hk : tmOk x y z q = false := by
          rcases HT.out with h | h
          · exact absurd h he
          · exact h.1
        have hne := same_list he
        clear he HT
        have HK : Hid (tmOk x y z q = false) := hk
        clear hk
        generalize tmT x y z q = T at *
        have FU := UC.sets [.int .i64 0, .int .i64 0, .int .i64 0, .int .i64 0] rfl
        have FB := below_sets (m := w.heap.size) (g := w.heap.size) (by omega) [.int .i64 0, .int .i64 0, .int .i64 0, .int .i64 0] 0 _ BC
        go_wp2_with (refine wpList_stB 25 _ _ w.heap.size 0 [.int .i64 0, .int .i64 0, .int .i64 0, .int .i64 0] [.int .i64 0, .int .i64 0, .int .i64 0, .int .i64 0] ie hie UC (by rw [hsz]; rfl) (by simp) rfl rfl rfl rfl rfl ?_; try simp only [Act.put])
        exact bodyPost_ret (res_B2 rfl _ _ w.heap.size _ (.bool false) ie hie ag25 FU (by rw [hsz]; rfl) rfl rfl) rfl ⟨by rw [trV_no _ (trK_no x y z q HK.out)], FB⟩
    · obtain ⟨an, capn, rfl, hcapn, _⟩ := own_row (f := Value.int .i64) (xs := L) ho
      have e4 : ((L.length : Int) == 4) = false := by simp; omega
      clear ho HN HB h0s hL ht
      have HT : Hid (trK L = false) := trK_len L h4
      clear h4
      have FU := UC.sets [.int .i64 0, .int .i64 0, .int .i64 0, .int .i64 0] rfl
      have FB := below_sets (m := w.heap.size) (g := w.heap.size) (by omega) [.int .i64 0, .int .i64 0, .int .i64 0, .int .i64 0] 0 _ BC
      go_wp2_with (refine wpList_stB 25 _ _ w.heap.size 0 [.int .i64 0, .int .i64 0, .int .i64 0, .int .i64 0] [.int .i64 0, .int .i64 0, .int .i64 0, .int .i64 0] ie hie UC (by rw [hsz]; rfl) (by simp) rfl rfl rfl rfl rfl ?_; try simp only [Act.put])
      exact bodyPost_ret (res_B2 rfl _ _ w.heap.size _ (.bool false) ie hie ag25 FU (by rw [hsz]; rfl) rfl rfl) rfl ⟨by rw [trV_no L HT.out], FB⟩

end Go.Proofs.Ytaeecaebjafnpaa
