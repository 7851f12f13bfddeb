/- Chapter 16: what lies inside, of the model. -/
import Derived.Test.YtaeecaebjafnpaaTm3
set_option linter.unusedVariables false
set_option maxRecDepth 100000
namespace Go.Proofs.Ytaeecaebjafnpaa
open Go Go.RowKit

set_option maxHeartbeats 12800000 in
theorem specInside_is (a b c d x y z q : Int) (w : World) : Calls Try.prog 18 #[tv a b c d, tv x y z q] w fun en w' => en = .returned (inV a b c d x y z q) ∧ Below w.heap.size w w' := by
  obtain ⟨ie, hie, hsz⟩ := info_times
  obtain ⟨i1, hi1, hz1⟩ := info_int
  have BC : Below w.heap.size w (((w.alloc (.cells #[.int .i64 a, .int .i64 b, .int .i64 c, .int .i64 d] 25)).alloc (.cells #[.int .i64 x, .int .i64 y, .int .i64 z, .int .i64 q] 25)).alloc (.cells #[.int .i64 0, .int .i64 0, .int .i64 0, .int .i64 0] 25)) := (((Below.refl _ _).alloc (by simp <;> omega) _).alloc (by simp <;> omega) _).alloc (by simp <;> omega) _
  have TC : Blk w.heap.size [.int .i64 a, .int .i64 b, .int .i64 c, .int .i64 d] (((w.alloc (.cells #[.int .i64 a, .int .i64 b, .int .i64 c, .int .i64 d] 25)).alloc (.cells #[.int .i64 x, .int .i64 y, .int .i64 z, .int .i64 q] 25)).alloc (.cells #[.int .i64 0, .int .i64 0, .int .i64 0, .int .i64 0] 25)) := by have h_ := (((Blk.new w #[.int .i64 a, .int .i64 b, .int .i64 c, .int .i64 d] 25).alloc (by simp <;> omega) (.cells #[.int .i64 x, .int .i64 y, .int .i64 z, .int .i64 q] 25)).alloc (by simp <;> omega) (.cells #[.int .i64 0, .int .i64 0, .int .i64 0, .int .i64 0] 25)); simpa using h_
  have XC : Blk (w.heap.size + 1) [.int .i64 x, .int .i64 y, .int .i64 z, .int .i64 q] (((w.alloc (.cells #[.int .i64 a, .int .i64 b, .int .i64 c, .int .i64 d] 25)).alloc (.cells #[.int .i64 x, .int .i64 y, .int .i64 z, .int .i64 q] 25)).alloc (.cells #[.int .i64 0, .int .i64 0, .int .i64 0, .int .i64 0] 25)) := by have h_ := ((Blk.new (w.alloc (.cells #[.int .i64 a, .int .i64 b, .int .i64 c, .int .i64 d] 25)) #[.int .i64 x, .int .i64 y, .int .i64 z, .int .i64 q] 25).alloc (by simp <;> omega) (.cells #[.int .i64 0, .int .i64 0, .int .i64 0, .int .i64 0] 25)); simpa using h_
  have UC : Blk (w.heap.size + 1 + 1) [.int .i64 0, .int .i64 0, .int .i64 0, .int .i64 0] (((w.alloc (.cells #[.int .i64 a, .int .i64 b, .int .i64 c, .int .i64 d] 25)).alloc (.cells #[.int .i64 x, .int .i64 y, .int .i64 z, .int .i64 q] 25)).alloc (.cells #[.int .i64 0, .int .i64 0, .int .i64 0, .int .i64 0] 25)) := by have h_ := (Blk.new ((w.alloc (.cells #[.int .i64 a, .int .i64 b, .int .i64 c, .int .i64 d] 25)).alloc (.cells #[.int .i64 x, .int .i64 y, .int .i64 z, .int .i64 q] 25)) #[.int .i64 0, .int .i64 0, .int .i64 0, .int .i64 0] 25); simpa using h_
  have q1_ := TC.at 0 rfl
  have q2_ := TC.at 1 rfl
  have q3_ := TC.at 2 rfl
  have q4_ := TC.at 3 rfl
  go_enter Try.func18, Try.ntmps18
  go_wp2_with fail
  refine (specOk_is a b c d _).mono ?_
  rintro en w1 ⟨rfl, hb⟩
  replace TC := TC.later hb TC.lt
  replace XC := XC.later hb XC.lt
  replace UC := UC.later hb UC.lt
  replace BC := BC.trans (hb.mono BC.size)
  clear hb
  clear q1_ q2_ q3_ q4_
  by_cases hk : tmOk a b c d = true
  · rw [hk]
    have q5_ := XC.at 0 rfl
    have q6_ := XC.at 1 rfl
    have q7_ := XC.at 2 rfl
    have q8_ := XC.at 3 rfl
    go_wp2_with fail
    refine (specOk_is x y z q _).mono ?_
    rintro en w2 ⟨rfl, hb⟩
    replace TC := TC.later hb TC.lt
    replace XC := XC.later hb XC.lt
    replace UC := UC.later hb UC.lt
    replace BC := BC.trans (hb.mono BC.size)
    clear hb
    clear q5_ q6_ q7_ q8_
    by_cases hj : tmOk x y z q = true
    · rw [hj]
      have Z3 : Hid (w.heap.size + 1 + 1 < w2.heap.size) := UC.lt
      go_wp2_with fail
      replace TC := TC.drew
      replace XC := XC.drew
      replace UC := UC.drew
      replace BC := BC.drew
      refine wp_region_held_drew (S := (fun Vw => Blk w.heap.size [.int .i64 a, .int .i64 b, .int .i64 c, .int .i64 d] Vw ∧ Blk (w.heap.size + 1) [.int .i64 x, .int .i64 y, .int .i64 z, .int .i64 q] Vw)) (by kernel_rfl) ⟨TC, XC⟩ (fun hHeld => ?_)
      have gz_ : (World.drew w2).heap.size = w2.heap.size := rfl
      generalize World.drew w2 = wd at *
      have Z4 : Hid (w.heap.size + 1 + 1 < wd.heap.size) := UC.lt
      clear gz_ Z3
      refine take_one 0 16 (v := ?_) rfl rfl (by kernel_rfl) (by kernel_rfl) (by kernel_rfl) (fun _ _ _ h => h) (Or.inl ⟨by rfl, ?_⟩) hHeld ?_
      rotate_left
      · intro w' hSw; (try dsimp only at hSw); have d0 := hSw.1.at 0 rfl; have d1 := hSw.1.at 1 rfl; have d2 := hSw.1.at 2 rfl; have d3 := hSw.1.at 3 rfl; have e0 := hSw.2.at 0 rfl; have e1 := hSw.2.at 1 rfl; have e2 := hSw.2.at 2 rfl; have e3 := hSw.2.at 3 rfl; go_simp; try with_reducible rfl
      try simp only [Act.put, List.setIfInBounds_toArray, List.set_cons_zero, List.set_cons_succ]
      refine take_one 1 17 (v := ?_) rfl rfl (by kernel_rfl) (by kernel_rfl) (by kernel_rfl) (fun _ _ _ h => h) (Or.inl ⟨by rfl, ?_⟩) hHeld ?_
      rotate_left
      · intro w' hSw; (try dsimp only at hSw); have d0 := hSw.1.at 0 rfl; have d1 := hSw.1.at 1 rfl; have d2 := hSw.1.at 2 rfl; have d3 := hSw.1.at 3 rfl; have e0 := hSw.2.at 0 rfl; have e1 := hSw.2.at 1 rfl; have e2 := hSw.2.at 2 rfl; have e3 := hSw.2.at 3 rfl; go_simp; try with_reducible rfl
      try simp only [Act.put, List.setIfInBounds_toArray, List.set_cons_zero, List.set_cons_succ]
      refine take_one 2 18 (v := ?_) rfl rfl (by kernel_rfl) (by kernel_rfl) (by kernel_rfl) (fun _ _ _ h => h) (Or.inl ⟨by rfl, ?_⟩) hHeld ?_
      rotate_left
      · intro w' hSw; (try dsimp only at hSw); have d0 := hSw.1.at 0 rfl; have d1 := hSw.1.at 1 rfl; have d2 := hSw.1.at 2 rfl; have d3 := hSw.1.at 3 rfl; have e0 := hSw.2.at 0 rfl; have e1 := hSw.2.at 1 rfl; have e2 := hSw.2.at 2 rfl; have e3 := hSw.2.at 3 rfl; go_simp; try with_reducible rfl
      try simp only [Act.put, List.setIfInBounds_toArray, List.set_cons_zero, List.set_cons_succ]
      refine take_one 3 19 (v := ?_) rfl rfl (by kernel_rfl) (by kernel_rfl) (by kernel_rfl) (fun _ _ _ h => h) (Or.inl ⟨by rfl, ?_⟩) hHeld ?_
      rotate_left
      · intro w' hSw; (try dsimp only at hSw); have d0 := hSw.1.at 0 rfl; have d1 := hSw.1.at 1 rfl; have d2 := hSw.1.at 2 rfl; have d3 := hSw.1.at 3 rfl; have e0 := hSw.2.at 0 rfl; have e1 := hSw.2.at 1 rfl; have e2 := hSw.2.at 2 rfl; have e3 := hSw.2.at 3 rfl; go_simp; try with_reducible rfl
      try simp only [Act.put, List.setIfInBounds_toArray, List.set_cons_zero, List.set_cons_succ]
      refine take_one 4 20 (v := ?_) rfl rfl (by kernel_rfl) (by kernel_rfl) (by kernel_rfl) (fun _ _ _ h => h) (Or.inl ⟨by rfl, ?_⟩) hHeld ?_
      rotate_left
      · intro w' hSw; (try dsimp only at hSw); have d0 := hSw.1.at 0 rfl; have d1 := hSw.1.at 1 rfl; have d2 := hSw.1.at 2 rfl; have d3 := hSw.1.at 3 rfl; have e0 := hSw.2.at 0 rfl; have e1 := hSw.2.at 1 rfl; have e2 := hSw.2.at 2 rfl; have e3 := hSw.2.at 3 rfl; go_simp; try with_reducible rfl
      try simp only [Act.put, List.setIfInBounds_toArray, List.set_cons_zero, List.set_cons_succ]
      refine take_one 5 21 (v := ?_) rfl rfl (by kernel_rfl) (by kernel_rfl) (by kernel_rfl) (fun _ _ _ h => h) (Or.inl ⟨by rfl, ?_⟩) hHeld ?_
      rotate_left
      · intro w' hSw; (try dsimp only at hSw); have d0 := hSw.1.at 0 rfl; have d1 := hSw.1.at 1 rfl; have d2 := hSw.1.at 2 rfl; have d3 := hSw.1.at 3 rfl; have e0 := hSw.2.at 0 rfl; have e1 := hSw.2.at 1 rfl; have e2 := hSw.2.at 2 rfl; have e3 := hSw.2.at 3 rfl; go_simp; try with_reducible rfl
      try simp only [Act.put, List.setIfInBounds_toArray, List.set_cons_zero, List.set_cons_succ]
      refine take_one 6 22 (v := ?_) rfl rfl (by kernel_rfl) (by kernel_rfl) (by kernel_rfl) (fun _ _ _ h => h) (Or.inl ⟨by rfl, ?_⟩) hHeld ?_
      rotate_left
      · intro w' hSw; (try dsimp only at hSw); have d0 := hSw.1.at 0 rfl; have d1 := hSw.1.at 1 rfl; have d2 := hSw.1.at 2 rfl; have d3 := hSw.1.at 3 rfl; have e0 := hSw.2.at 0 rfl; have e1 := hSw.2.at 1 rfl; have e2 := hSw.2.at 2 rfl; have e3 := hSw.2.at 3 rfl; go_simp; try with_reducible rfl
      try simp only [Act.put, List.setIfInBounds_toArray, List.set_cons_zero, List.set_cons_succ]
      refine take_one 7 23 (v := ?_) rfl rfl (by kernel_rfl) (by kernel_rfl) (by kernel_rfl) (fun _ _ _ h => h) (Or.inl ⟨by rfl, ?_⟩) hHeld ?_
      rotate_left
      · intro w' hSw; (try dsimp only at hSw); have d0 := hSw.1.at 0 rfl; have d1 := hSw.1.at 1 rfl; have d2 := hSw.1.at 2 rfl; have d3 := hSw.1.at 3 rfl; have e0 := hSw.2.at 0 rfl; have e1 := hSw.2.at 1 rfl; have e2 := hSw.2.at 2 rfl; have e3 := hSw.2.at 3 rfl; go_simp; try with_reducible rfl
      try simp only [Act.put, List.setIfInBounds_toArray, List.set_cons_zero, List.set_cons_succ]
      refine take_one 9 25 (v := ?_) rfl rfl (by kernel_rfl) (by kernel_rfl) (by kernel_rfl) (fun _ _ _ h => h) (Or.inl ⟨by rfl, ?_⟩) hHeld ?_
      rotate_left
      · intro w' hSw; (try dsimp only at hSw); have d0 := hSw.1.at 0 rfl; have d1 := hSw.1.at 1 rfl; have d2 := hSw.1.at 2 rfl; have d3 := hSw.1.at 3 rfl; have e0 := hSw.2.at 0 rfl; have e1 := hSw.2.at 1 rfl; have e2 := hSw.2.at 2 rfl; have e3 := hSw.2.at 3 rfl; go_simp; try with_reducible rfl
      try simp only [Act.put, List.setIfInBounds_toArray, List.set_cons_zero, List.set_cons_succ]
      refine take_one 10 26 (v := ?_) rfl rfl (by kernel_rfl) (by kernel_rfl) (by kernel_rfl) (fun _ _ _ h => h) (Or.inl ⟨by rfl, ?_⟩) hHeld ?_
      rotate_left
      · intro w' hSw; (try dsimp only at hSw); have d0 := hSw.1.at 0 rfl; have d1 := hSw.1.at 1 rfl; have d2 := hSw.1.at 2 rfl; have d3 := hSw.1.at 3 rfl; have e0 := hSw.2.at 0 rfl; have e1 := hSw.2.at 1 rfl; have e2 := hSw.2.at 2 rfl; have e3 := hSw.2.at 3 rfl; go_simp; try with_reducible rfl
      try simp only [Act.put, List.setIfInBounds_toArray, List.set_cons_zero, List.set_cons_succ]
      refine take_one 11 27 (v := ?_) rfl rfl (by kernel_rfl) (by kernel_rfl) (by kernel_rfl) (fun _ _ _ h => h) (Or.inl ⟨by rfl, ?_⟩) hHeld ?_
      rotate_left
      · intro w' hSw; (try dsimp only at hSw); have d0 := hSw.1.at 0 rfl; have d1 := hSw.1.at 1 rfl; have d2 := hSw.1.at 2 rfl; have d3 := hSw.1.at 3 rfl; have e0 := hSw.2.at 0 rfl; have e1 := hSw.2.at 1 rfl; have e2 := hSw.2.at 2 rfl; have e3 := hSw.2.at 3 rfl; go_simp; try with_reducible rfl
      try simp only [Act.put, List.setIfInBounds_toArray, List.set_cons_zero, List.set_cons_succ]
      refine take_one 12 28 (v := ?_) rfl rfl (by kernel_rfl) (by kernel_rfl) (by kernel_rfl) (fun _ _ _ h => h) (Or.inl ⟨by rfl, ?_⟩) hHeld ?_
      rotate_left
      · intro w' hSw; (try dsimp only at hSw); have d0 := hSw.1.at 0 rfl; have d1 := hSw.1.at 1 rfl; have d2 := hSw.1.at 2 rfl; have d3 := hSw.1.at 3 rfl; have e0 := hSw.2.at 0 rfl; have e1 := hSw.2.at 1 rfl; have e2 := hSw.2.at 2 rfl; have e3 := hSw.2.at 3 rfl; go_simp; try with_reducible rfl
      try simp only [Act.put, List.setIfInBounds_toArray, List.set_cons_zero, List.set_cons_succ]
      refine wpAnyH_ready (rs := [8, 15]) (by kernel_rfl) (by simp) ?_
      refine AllReadyH.cons (i := 8) rfl (fun K hK => ?_) (AllReadyH.cons (i := 15) rfl (fun K hK => ?_) AllReadyH.nil)
      · skip
        go_simp
        refine (least_is c z _).mono ?_
        rintro en w_ ⟨rfl, rfl⟩
        go_wp2_with fail
        refine hK.out _ _ ⟨TC, XC⟩ (fun hHeld2 => ?_)
        clear hK K hHeld
        have hHeld := hHeld2
        clear hHeld2
        try simp only [Act.put, List.setIfInBounds_toArray, List.set_cons_zero, List.set_cons_succ]
        refine wpAnyH_ready (rs := [13, 15]) (by kernel_rfl) (by simp) ?_
        refine AllReadyH.cons (i := 13) rfl (fun K hK => ?_) (AllReadyH.cons (i := 15) rfl (fun K hK => ?_) AllReadyH.nil)
        · skip
          go_simp
          refine (least_is d q _).mono ?_
          rintro en w_ ⟨rfl, rfl⟩
          go_wp2_with fail
          refine hK.out _ _ ⟨TC, XC⟩ (fun hHeld2 => ?_)
          clear hK K hHeld
          have hHeld := hHeld2
          clear hHeld2
          try simp only [Act.put, List.setIfInBounds_toArray, List.set_cons_zero, List.set_cons_succ]
          refine take_one 14 30 (v := ?_) rfl rfl (by kernel_rfl) (by kernel_rfl) (by kernel_rfl) (fun _ _ _ h => h) (Or.inl ⟨by rfl, ?_⟩) hHeld ?_
          rotate_left
          · intro w' hSw; (try dsimp only at hSw); go_simp; try with_reducible rfl
          try simp only [Act.put, List.setIfInBounds_toArray, List.set_cons_zero, List.set_cons_succ]
          refine wpAnyH_ready (rs := [15]) (by kernel_rfl) (by simp) ?_
          refine AllReadyH.cons (i := 15) rfl (fun K hK => ?_) AllReadyH.nil
          go_simp
          have OC : Blk wd.heap.size [.int .i64 0, .int .i64 0, .int .i64 0, .int .i64 0] (wd.alloc (.cells #[.int .i64 0, .int .i64 0, .int .i64 0, .int .i64 0] 25)) := Blk.new _ _ _
          have XA_ : Below wd.heap.size wd (wd.alloc (.cells #[.int .i64 0, .int .i64 0, .int .i64 0, .int .i64 0] 25)) := (Below.refl _ _).alloc (Nat.le_refl _) _
          replace TC := TC.later XA_ TC.lt
          replace XC := XC.later XA_ XC.lt
          replace UC := UC.later XA_ UC.lt
          replace BC := BC.trans (XA_.mono BC.size)
          clear XA_
          obtain ⟨V0, hV0⟩ : ∃ Wz, (wd.alloc (.cells #[.int .i64 0, .int .i64 0, .int .i64 0, .int .i64 0] 25)) = Wz := ⟨_, rfl⟩
          rw [hV0] at TC XC UC OC BC ⊢
          clear hV0
          have z4_ := Z4.out
          refine hK.out _ _ ⟨TC, XC⟩ (fun hHeld2 => ?_)
          clear hK K hHeld
          have hHeld := hHeld2
          clear hHeld2
          try simp only [Act.put, List.setIfInBounds_toArray, List.set_cons_zero, List.set_cons_succ]
          have N_ : Blk wd.heap.size [.int .i64 a, .int .i64 b, .int .i64 (min c z), .int .i64 (min d q)] ((V0).setCells wd.heap.size 0 [.int .i64 a, .int .i64 b, .int .i64 (min c z), .int .i64 (min d q)]) := OC.part 0 [.int .i64 a, .int .i64 b, .int .i64 (min c z), .int .i64 (min d q)] _ (by simp) rfl
          have TC_ := Blk.farS (q := wd.heap.size) (by omega) [.int .i64 a, .int .i64 b, .int .i64 (min c z), .int .i64 (min d q)] 0 _ TC
          have XC_ := Blk.farS (q := wd.heap.size) (by omega) [.int .i64 a, .int .i64 b, .int .i64 (min c z), .int .i64 (min d q)] 0 _ XC
          have UC_ := Blk.farS (q := wd.heap.size) (by omega) [.int .i64 a, .int .i64 b, .int .i64 (min c z), .int .i64 (min d q)] 0 _ UC
          have BC_ := below_sets (m := w.heap.size) (g := wd.heap.size) (by omega) [.int .i64 a, .int .i64 b, .int .i64 (min c z), .int .i64 (min d q)] 0 _ BC
          refine wpAnyH_ready (rs := [16]) (by kernel_rfl) (by simp) ?_
          refine AllReadyH.cons (i := 16) rfl (fun K hK => ?_) AllReadyH.nil
          refine stepB 25 _ _ (wd.heap.size) 0 [.int .i64 0, .int .i64 0, .int .i64 0, .int .i64 0] [.int .i64 a, .int .i64 b, .int .i64 (min c z), .int .i64 (min d q)] ie hie OC (by rw [hsz]; rfl) (by simp) rfl rfl rfl rfl rfl ?_
          try simp only [Act.put, List.setIfInBounds_toArray]
          obtain ⟨V1, hV1⟩ : ∃ Wz, (V0).setCells (wd.heap.size) 0 [.int .i64 a, .int .i64 b, .int .i64 (min c z), .int .i64 (min d q)] = Wz := ⟨_, rfl⟩
          rw [hV1] at N_ BC_ TC_ XC_ UC_ ⊢
          clear hV1 OC BC TC XC UC
          have OC := N_
          have BC := BC_
          have TC := TC_
          have XC := XC_
          have UC := UC_
          clear N_ BC_ TC_ XC_ UC_
          refine hK.out _ _ ⟨TC, XC⟩ (fun hHeld2 => ?_)
          clear hK K hHeld
          have hHeld := hHeld2
          clear hHeld2
          try simp only [Act.put, List.setIfInBounds_toArray, List.set_cons_zero, List.set_cons_succ]
          refine wpAnyH_done (by kernel_rfl) ?_ _
          have z4_ := Z4.out
          have q1_ := XC.at 1 rfl
          have q2_ := OC.at 1 rfl
          by_cases hg : b < y
          · have hm : max b y = y := Int.max_eq_right (by omega)
            have HM : Hid (max b y = y) := hm
            clear hm
            obtain ⟨V2, hV2⟩ : ∃ Wz, (World.setCells V1 wd.heap.size 1 [.int .i64 y]) = Wz := ⟨_, rfl⟩
            have OC_ : Blk wd.heap.size [.int .i64 a, .int .i64 y, .int .i64 (min c z), .int .i64 (min d q)] V2 := by rw [← hV2]; exact OC.part 1 [.int .i64 y] _ (by simp) rfl
            have TC_ : Blk w.heap.size [.int .i64 a, .int .i64 b, .int .i64 c, .int .i64 d] V2 := by rw [← hV2]; exact Blk.farS (q := wd.heap.size) (by omega) [.int .i64 y] 1 _ TC
            have XC_ : Blk (w.heap.size + 1) [.int .i64 x, .int .i64 y, .int .i64 z, .int .i64 q] V2 := by rw [← hV2]; exact Blk.farS (q := wd.heap.size) (by omega) [.int .i64 y] 1 _ XC
            have UC_ : Blk (w.heap.size + 1 + 1) [.int .i64 0, .int .i64 0, .int .i64 0, .int .i64 0] V2 := by rw [← hV2]; exact Blk.farS (q := wd.heap.size) (by omega) [.int .i64 y] 1 _ UC
            have BC_ : Below w.heap.size w V2 := by rw [← hV2]; exact below_sets (g := wd.heap.size) (by omega) [.int .i64 y] 1 _ BC
            have OC0V2 := OC
            clear TC XC UC OC BC
            have TC := TC_
            have XC := XC_
            have UC := UC_
            have OC := OC_
            have BC := BC_
            clear TC_ XC_ UC_ OC_ BC_
            have q3_ := OC.at 0 rfl
            have q4_ := OC.at 1 rfl
            have q5_ := OC.at 2 rfl
            have q6_ := OC.at 3 rfl
            go_wp2_with (first | (refine wpList_st1 3 _ _ wd.heap.size 1 [.int .i64 a, .int .i64 b, .int .i64 (min c z), .int .i64 (min d q)] (.int .i64 y) i1 hi1 OC0V2 hz1 (by simp) rfl rfl rfl rfl rfl ?_; try simp only [Act.put]; rw [hV2]))
            refine (specOk_is a y (min c z) (min d q) _).mono ?_
            rintro en w8 ⟨rfl, hb⟩
            replace TC := TC.later hb TC.lt
            replace XC := XC.later hb XC.lt
            replace UC := UC.later hb UC.lt
            replace OC := OC.later hb OC.lt
            replace BC := BC.trans (hb.mono BC.size)
            clear hb
            clear q1_ q2_ OC0V2 q3_ q4_ q5_ q6_ hV2
            generalize hbb : tmOk a y (min c z) (min d q) = bb
            cases bb with
            | true =>
              have q7_ := OC.at 0 rfl
              have q8_ := OC.at 1 rfl
              have q9_ := OC.at 2 rfl
              have q10_ := OC.at 3 rfl
              have FU := UC.sets [.int .i64 a, .int .i64 y, .int .i64 (min c z), .int .i64 (min d q)] rfl
              have FB := below_sets (m := w.heap.size) (g := (w.heap.size + 1 + 1)) (by omega) [.int .i64 a, .int .i64 y, .int .i64 (min c z), .int .i64 (min d q)] 0 _ BC
              go_wp2_with (refine wpList_stB 25 _ _ (w.heap.size + 1 + 1) 0 [.int .i64 0, .int .i64 0, .int .i64 0, .int .i64 0] [.int .i64 a, .int .i64 y, .int .i64 (min c z), .int .i64 (min d q)] ie hie UC (by rw [hsz]; rfl) (by simp) rfl rfl rfl rfl rfl ?_; try simp only [Act.put])
              exact bodyPost_ret (res_B2 rfl _ _ (w.heap.size + 1 + 1) _ (.bool true) ie hie ag25 FU (by rw [hsz]; rfl) rfl rfl) rfl ⟨by have h_ := inV_yes a b c d x y z q (by unfold inOk; rw [hk, hj, HM.out, hbb]; rfl); rw [HM.out] at h_; rw [h_], FB⟩
            | false =>
              have FU := UC.sets [.int .i64 0, .int .i64 0, .int .i64 0, .int .i64 0] rfl
              have FB := below_sets (m := w.heap.size) (g := (w.heap.size + 1 + 1)) (by omega) [.int .i64 0, .int .i64 0, .int .i64 0, .int .i64 0] 0 _ BC
              go_wp2_with (refine wpList_stB 25 _ _ (w.heap.size + 1 + 1) 0 [.int .i64 0, .int .i64 0, .int .i64 0, .int .i64 0] [.int .i64 0, .int .i64 0, .int .i64 0, .int .i64 0] ie hie UC (by rw [hsz]; rfl) (by simp) rfl rfl rfl rfl rfl ?_; try simp only [Act.put])
              exact bodyPost_ret (res_B2 rfl _ _ (w.heap.size + 1 + 1) _ (.bool false) ie hie ag25 FU (by rw [hsz]; rfl) rfl rfl) rfl ⟨by rw [inV_no a b c d x y z q (by unfold inOk; rw [hk, hj, HM.out, hbb]; rfl)], FB⟩
          · have hm : max b y = b := Int.max_eq_left (by omega)
            have HM : Hid (max b y = b) := hm
            clear hm
            have q3_ := OC.at 0 rfl
            have q4_ := OC.at 1 rfl
            have q5_ := OC.at 2 rfl
            have q6_ := OC.at 3 rfl
            go_wp2_with fail
            refine (specOk_is a b (min c z) (min d q) _).mono ?_
            rintro en w8 ⟨rfl, hb⟩
            replace TC := TC.later hb TC.lt
            replace XC := XC.later hb XC.lt
            replace UC := UC.later hb UC.lt
            replace OC := OC.later hb OC.lt
            replace BC := BC.trans (hb.mono BC.size)
            clear hb
            clear q1_ q2_ q3_ q4_ q5_ q6_
            generalize hbb : tmOk a b (min c z) (min d q) = bb
            cases bb with
            | true =>
              have q7_ := OC.at 0 rfl
              have q8_ := OC.at 1 rfl
              have q9_ := OC.at 2 rfl
              have q10_ := OC.at 3 rfl
              have FU := UC.sets [.int .i64 a, .int .i64 b, .int .i64 (min c z), .int .i64 (min d q)] rfl
              have FB := below_sets (m := w.heap.size) (g := (w.heap.size + 1 + 1)) (by omega) [.int .i64 a, .int .i64 b, .int .i64 (min c z), .int .i64 (min d q)] 0 _ BC
              go_wp2_with (refine wpList_stB 25 _ _ (w.heap.size + 1 + 1) 0 [.int .i64 0, .int .i64 0, .int .i64 0, .int .i64 0] [.int .i64 a, .int .i64 b, .int .i64 (min c z), .int .i64 (min d q)] ie hie UC (by rw [hsz]; rfl) (by simp) rfl rfl rfl rfl rfl ?_; try simp only [Act.put])
              exact bodyPost_ret (res_B2 rfl _ _ (w.heap.size + 1 + 1) _ (.bool true) ie hie ag25 FU (by rw [hsz]; rfl) rfl rfl) rfl ⟨by have h_ := inV_yes a b c d x y z q (by unfold inOk; rw [hk, hj, HM.out, hbb]; rfl); rw [HM.out] at h_; rw [h_], FB⟩
            | false =>
              have FU := UC.sets [.int .i64 0, .int .i64 0, .int .i64 0, .int .i64 0] rfl
              have FB := below_sets (m := w.heap.size) (g := (w.heap.size + 1 + 1)) (by omega) [.int .i64 0, .int .i64 0, .int .i64 0, .int .i64 0] 0 _ BC
              go_wp2_with (refine wpList_stB 25 _ _ (w.heap.size + 1 + 1) 0 [.int .i64 0, .int .i64 0, .int .i64 0, .int .i64 0] [.int .i64 0, .int .i64 0, .int .i64 0, .int .i64 0] ie hie UC (by rw [hsz]; rfl) (by simp) rfl rfl rfl rfl rfl ?_; try simp only [Act.put])
              exact bodyPost_ret (res_B2 rfl _ _ (w.heap.size + 1 + 1) _ (.bool false) ie hie ag25 FU (by rw [hsz]; rfl) rfl rfl) rfl ⟨by rw [inV_no a b c d x y z q (by unfold inOk; rw [hk, hj, HM.out, hbb]; rfl)], FB⟩
        · skip
          go_simp
          have OC : Blk wd.heap.size [.int .i64 0, .int .i64 0, .int .i64 0, .int .i64 0] (wd.alloc (.cells #[.int .i64 0, .int .i64 0, .int .i64 0, .int .i64 0] 25)) := Blk.new _ _ _
          have XA_ : Below wd.heap.size wd (wd.alloc (.cells #[.int .i64 0, .int .i64 0, .int .i64 0, .int .i64 0] 25)) := (Below.refl _ _).alloc (Nat.le_refl _) _
          replace TC := TC.later XA_ TC.lt
          replace XC := XC.later XA_ XC.lt
          replace UC := UC.later XA_ UC.lt
          replace BC := BC.trans (XA_.mono BC.size)
          clear XA_
          obtain ⟨V0, hV0⟩ : ∃ Wz, (wd.alloc (.cells #[.int .i64 0, .int .i64 0, .int .i64 0, .int .i64 0] 25)) = Wz := ⟨_, rfl⟩
          rw [hV0] at TC XC UC OC BC ⊢
          clear hV0
          have z4_ := Z4.out
          refine hK.out _ _ ⟨TC, XC⟩ (fun hHeld2 => ?_)
          clear hK K hHeld
          have hHeld := hHeld2
          clear hHeld2
          try simp only [Act.put, List.setIfInBounds_toArray, List.set_cons_zero, List.set_cons_succ]
          refine wpAnyH_ready (rs := [13]) (by kernel_rfl) (by simp) ?_
          refine AllReadyH.cons (i := 13) rfl (fun K hK => ?_) AllReadyH.nil
          go_simp
          refine (least_is d q _).mono ?_
          rintro en w_ ⟨rfl, rfl⟩
          go_wp2_with fail
          refine hK.out _ _ ⟨TC, XC⟩ (fun hHeld2 => ?_)
          clear hK K hHeld
          have hHeld := hHeld2
          clear hHeld2
          try simp only [Act.put, List.setIfInBounds_toArray, List.set_cons_zero, List.set_cons_succ]
          refine take_one 14 30 (v := ?_) rfl rfl (by kernel_rfl) (by kernel_rfl) (by kernel_rfl) (fun _ _ _ h => h) (Or.inl ⟨by rfl, ?_⟩) hHeld ?_
          rotate_left
          · intro w' hSw; (try dsimp only at hSw); go_simp; try with_reducible rfl
          try simp only [Act.put, List.setIfInBounds_toArray, List.set_cons_zero, List.set_cons_succ]
          have N_ : Blk wd.heap.size [.int .i64 a, .int .i64 b, .int .i64 (min c z), .int .i64 (min d q)] ((V0).setCells wd.heap.size 0 [.int .i64 a, .int .i64 b, .int .i64 (min c z), .int .i64 (min d q)]) := OC.part 0 [.int .i64 a, .int .i64 b, .int .i64 (min c z), .int .i64 (min d q)] _ (by simp) rfl
          have TC_ := Blk.farS (q := wd.heap.size) (by omega) [.int .i64 a, .int .i64 b, .int .i64 (min c z), .int .i64 (min d q)] 0 _ TC
          have XC_ := Blk.farS (q := wd.heap.size) (by omega) [.int .i64 a, .int .i64 b, .int .i64 (min c z), .int .i64 (min d q)] 0 _ XC
          have UC_ := Blk.farS (q := wd.heap.size) (by omega) [.int .i64 a, .int .i64 b, .int .i64 (min c z), .int .i64 (min d q)] 0 _ UC
          have BC_ := below_sets (m := w.heap.size) (g := wd.heap.size) (by omega) [.int .i64 a, .int .i64 b, .int .i64 (min c z), .int .i64 (min d q)] 0 _ BC
          refine wpAnyH_ready (rs := [16]) (by kernel_rfl) (by simp) ?_
          refine AllReadyH.cons (i := 16) rfl (fun K hK => ?_) AllReadyH.nil
          refine stepB 25 _ _ (wd.heap.size) 0 [.int .i64 0, .int .i64 0, .int .i64 0, .int .i64 0] [.int .i64 a, .int .i64 b, .int .i64 (min c z), .int .i64 (min d q)] ie hie OC (by rw [hsz]; rfl) (by simp) rfl rfl rfl rfl rfl ?_
          try simp only [Act.put, List.setIfInBounds_toArray]
          obtain ⟨V1, hV1⟩ : ∃ Wz, (V0).setCells (wd.heap.size) 0 [.int .i64 a, .int .i64 b, .int .i64 (min c z), .int .i64 (min d q)] = Wz := ⟨_, rfl⟩
          rw [hV1] at N_ BC_ TC_ XC_ UC_ ⊢
          clear hV1 OC BC TC XC UC
          have OC := N_
          have BC := BC_
          have TC := TC_
          have XC := XC_
          have UC := UC_
          clear N_ BC_ TC_ XC_ UC_
          refine hK.out _ _ ⟨TC, XC⟩ (fun hHeld2 => ?_)
          clear hK K hHeld
          have hHeld := hHeld2
          clear hHeld2
          try simp only [Act.put, List.setIfInBounds_toArray, List.set_cons_zero, List.set_cons_succ]
          refine wpAnyH_done (by kernel_rfl) ?_ _
          have z4_ := Z4.out
          have q1_ := XC.at 1 rfl
          have q2_ := OC.at 1 rfl
          by_cases hg : b < y
          · have hm : max b y = y := Int.max_eq_right (by omega)
            have HM : Hid (max b y = y) := hm
            clear hm
            obtain ⟨V2, hV2⟩ : ∃ Wz, (World.setCells V1 wd.heap.size 1 [.int .i64 y]) = Wz := ⟨_, rfl⟩
            have OC_ : Blk wd.heap.size [.int .i64 a, .int .i64 y, .int .i64 (min c z), .int .i64 (min d q)] V2 := by rw [← hV2]; exact OC.part 1 [.int .i64 y] _ (by simp) rfl
            have TC_ : Blk w.heap.size [.int .i64 a, .int .i64 b, .int .i64 c, .int .i64 d] V2 := by rw [← hV2]; exact Blk.farS (q := wd.heap.size) (by omega) [.int .i64 y] 1 _ TC
            have XC_ : Blk (w.heap.size + 1) [.int .i64 x, .int .i64 y, .int .i64 z, .int .i64 q] V2 := by rw [← hV2]; exact Blk.farS (q := wd.heap.size) (by omega) [.int .i64 y] 1 _ XC
            have UC_ : Blk (w.heap.size + 1 + 1) [.int .i64 0, .int .i64 0, .int .i64 0, .int .i64 0] V2 := by rw [← hV2]; exact Blk.farS (q := wd.heap.size) (by omega) [.int .i64 y] 1 _ UC
            have BC_ : Below w.heap.size w V2 := by rw [← hV2]; exact below_sets (g := wd.heap.size) (by omega) [.int .i64 y] 1 _ BC
            have OC0V2 := OC
            clear TC XC UC OC BC
            have TC := TC_
            have XC := XC_
            have UC := UC_
            have OC := OC_
            have BC := BC_
            clear TC_ XC_ UC_ OC_ BC_
            have q3_ := OC.at 0 rfl
            have q4_ := OC.at 1 rfl
            have q5_ := OC.at 2 rfl
            have q6_ := OC.at 3 rfl
            go_wp2_with (first | (refine wpList_st1 3 _ _ wd.heap.size 1 [.int .i64 a, .int .i64 b, .int .i64 (min c z), .int .i64 (min d q)] (.int .i64 y) i1 hi1 OC0V2 hz1 (by simp) rfl rfl rfl rfl rfl ?_; try simp only [Act.put]; rw [hV2]))
            refine (specOk_is a y (min c z) (min d q) _).mono ?_
            rintro en w8 ⟨rfl, hb⟩
            replace TC := TC.later hb TC.lt
            replace XC := XC.later hb XC.lt
            replace UC := UC.later hb UC.lt
            replace OC := OC.later hb OC.lt
            replace BC := BC.trans (hb.mono BC.size)
            clear hb
            clear q1_ q2_ OC0V2 q3_ q4_ q5_ q6_ hV2
            generalize hbb : tmOk a y (min c z) (min d q) = bb
            cases bb with
            | true =>
              have q7_ := OC.at 0 rfl
              have q8_ := OC.at 1 rfl
              have q9_ := OC.at 2 rfl
              have q10_ := OC.at 3 rfl
              have FU := UC.sets [.int .i64 a, .int .i64 y, .int .i64 (min c z), .int .i64 (min d q)] rfl
              have FB := below_sets (m := w.heap.size) (g := (w.heap.size + 1 + 1)) (by omega) [.int .i64 a, .int .i64 y, .int .i64 (min c z), .int .i64 (min d q)] 0 _ BC
              go_wp2_with (refine wpList_stB 25 _ _ (w.heap.size + 1 + 1) 0 [.int .i64 0, .int .i64 0, .int .i64 0, .int .i64 0] [.int .i64 a, .int .i64 y, .int .i64 (min c z), .int .i64 (min d q)] ie hie UC (by rw [hsz]; rfl) (by simp) rfl rfl rfl rfl rfl ?_; try simp only [Act.put])
              exact bodyPost_ret (res_B2 rfl _ _ (w.heap.size + 1 + 1) _ (.bool true) ie hie ag25 FU (by rw [hsz]; rfl) rfl rfl) rfl ⟨by have h_ := inV_yes a b c d x y z q (by unfold inOk; rw [hk, hj, HM.out, hbb]; rfl); rw [HM.out] at h_; rw [h_], FB⟩
            | false =>
              have FU := UC.sets [.int .i64 0, .int .i64 0, .int .i64 0, .int .i64 0] rfl
              have FB := below_sets (m := w.heap.size) (g := (w.heap.size + 1 + 1)) (by omega) [.int .i64 0, .int .i64 0, .int .i64 0, .int .i64 0] 0 _ BC
              go_wp2_with (refine wpList_stB 25 _ _ (w.heap.size + 1 + 1) 0 [.int .i64 0, .int .i64 0, .int .i64 0, .int .i64 0] [.int .i64 0, .int .i64 0, .int .i64 0, .int .i64 0] ie hie UC (by rw [hsz]; rfl) (by simp) rfl rfl rfl rfl rfl ?_; try simp only [Act.put])
              exact bodyPost_ret (res_B2 rfl _ _ (w.heap.size + 1 + 1) _ (.bool false) ie hie ag25 FU (by rw [hsz]; rfl) rfl rfl) rfl ⟨by rw [inV_no a b c d x y z q (by unfold inOk; rw [hk, hj, HM.out, hbb]; rfl)], FB⟩
          · have hm : max b y = b := Int.max_eq_left (by omega)
            have HM : Hid (max b y = b) := hm
            clear hm
            have q3_ := OC.at 0 rfl
            have q4_ := OC.at 1 rfl
            have q5_ := OC.at 2 rfl
            have q6_ := OC.at 3 rfl
            go_wp2_with fail
            refine (specOk_is a b (min c z) (min d q) _).mono ?_
            rintro en w8 ⟨rfl, hb⟩
            replace TC := TC.later hb TC.lt
            replace XC := XC.later hb XC.lt
            replace UC := UC.later hb UC.lt
            replace OC := OC.later hb OC.lt
            replace BC := BC.trans (hb.mono BC.size)
            clear hb
            clear q1_ q2_ q3_ q4_ q5_ q6_
            generalize hbb : tmOk a b (min c z) (min d q) = bb
            cases bb with
            | true =>
              have q7_ := OC.at 0 rfl
              have q8_ := OC.at 1 rfl
              have q9_ := OC.at 2 rfl
              have q10_ := OC.at 3 rfl
              have FU := UC.sets [.int .i64 a, .int .i64 b, .int .i64 (min c z), .int .i64 (min d q)] rfl
              have FB := below_sets (m := w.heap.size) (g := (w.heap.size + 1 + 1)) (by omega) [.int .i64 a, .int .i64 b, .int .i64 (min c z), .int .i64 (min d q)] 0 _ BC
              go_wp2_with (refine wpList_stB 25 _ _ (w.heap.size + 1 + 1) 0 [.int .i64 0, .int .i64 0, .int .i64 0, .int .i64 0] [.int .i64 a, .int .i64 b, .int .i64 (min c z), .int .i64 (min d q)] ie hie UC (by rw [hsz]; rfl) (by simp) rfl rfl rfl rfl rfl ?_; try simp only [Act.put])
              exact bodyPost_ret (res_B2 rfl _ _ (w.heap.size + 1 + 1) _ (.bool true) ie hie ag25 FU (by rw [hsz]; rfl) rfl rfl) rfl ⟨by have h_ := inV_yes a b c d x y z q (by unfold inOk; rw [hk, hj, HM.out, hbb]; rfl); rw [HM.out] at h_; rw [h_], FB⟩
            | false =>
              have FU := UC.sets [.int .i64 0, .int .i64 0, .int .i64 0, .int .i64 0] rfl
              have FB := below_sets (m := w.heap.size) (g := (w.heap.size + 1 + 1)) (by omega) [.int .i64 0, .int .i64 0, .int .i64 0, .int .i64 0] 0 _ BC
              go_wp2_with (refine wpList_stB 25 _ _ (w.heap.size + 1 + 1) 0 [.int .i64 0, .int .i64 0, .int .i64 0, .int .i64 0] [.int .i64 0, .int .i64 0, .int .i64 0, .int .i64 0] ie hie UC (by rw [hsz]; rfl) (by simp) rfl rfl rfl rfl rfl ?_; try simp only [Act.put])
              exact bodyPost_ret (res_B2 rfl _ _ (w.heap.size + 1 + 1) _ (.bool false) ie hie ag25 FU (by rw [hsz]; rfl) rfl rfl) rfl ⟨by rw [inV_no a b c d x y z q (by unfold inOk; rw [hk, hj, HM.out, hbb]; rfl)], FB⟩
      · skip
        go_simp
        have OC : Blk wd.heap.size [.int .i64 0, .int .i64 0, .int .i64 0, .int .i64 0] (wd.alloc (.cells #[.int .i64 0, .int .i64 0, .int .i64 0, .int .i64 0] 25)) := Blk.new _ _ _
        have XA_ : Below wd.heap.size wd (wd.alloc (.cells #[.int .i64 0, .int .i64 0, .int .i64 0, .int .i64 0] 25)) := (Below.refl _ _).alloc (Nat.le_refl _) _
        replace TC := TC.later XA_ TC.lt
        replace XC := XC.later XA_ XC.lt
        replace UC := UC.later XA_ UC.lt
        replace BC := BC.trans (XA_.mono BC.size)
        clear XA_
        obtain ⟨V0, hV0⟩ : ∃ Wz, (wd.alloc (.cells #[.int .i64 0, .int .i64 0, .int .i64 0, .int .i64 0] 25)) = Wz := ⟨_, rfl⟩
        rw [hV0] at TC XC UC OC BC ⊢
        clear hV0
        have z4_ := Z4.out
        refine hK.out _ _ ⟨TC, XC⟩ (fun hHeld2 => ?_)
        clear hK K hHeld
        have hHeld := hHeld2
        clear hHeld2
        try simp only [Act.put, List.setIfInBounds_toArray, List.set_cons_zero, List.set_cons_succ]
        refine wpAnyH_ready (rs := [8]) (by kernel_rfl) (by simp) ?_
        refine AllReadyH.cons (i := 8) rfl (fun K hK => ?_) AllReadyH.nil
        go_simp
        refine (least_is c z _).mono ?_
        rintro en w_ ⟨rfl, rfl⟩
        go_wp2_with fail
        refine hK.out _ _ ⟨TC, XC⟩ (fun hHeld2 => ?_)
        clear hK K hHeld
        have hHeld := hHeld2
        clear hHeld2
        try simp only [Act.put, List.setIfInBounds_toArray, List.set_cons_zero, List.set_cons_succ]
        refine wpAnyH_ready (rs := [13]) (by kernel_rfl) (by simp) ?_
        refine AllReadyH.cons (i := 13) rfl (fun K hK => ?_) AllReadyH.nil
        go_simp
        refine (least_is d q _).mono ?_
        rintro en w_ ⟨rfl, rfl⟩
        go_wp2_with fail
        refine hK.out _ _ ⟨TC, XC⟩ (fun hHeld2 => ?_)
        clear hK K hHeld
        have hHeld := hHeld2
        clear hHeld2
        try simp only [Act.put, List.setIfInBounds_toArray, List.set_cons_zero, List.set_cons_succ]
        refine take_one 14 30 (v := ?_) rfl rfl (by kernel_rfl) (by kernel_rfl) (by kernel_rfl) (fun _ _ _ h => h) (Or.inl ⟨by rfl, ?_⟩) hHeld ?_
        rotate_left
        · intro w' hSw; (try dsimp only at hSw); go_simp; try with_reducible rfl
        try simp only [Act.put, List.setIfInBounds_toArray, List.set_cons_zero, List.set_cons_succ]
        have N_ : Blk wd.heap.size [.int .i64 a, .int .i64 b, .int .i64 (min c z), .int .i64 (min d q)] ((V0).setCells wd.heap.size 0 [.int .i64 a, .int .i64 b, .int .i64 (min c z), .int .i64 (min d q)]) := OC.part 0 [.int .i64 a, .int .i64 b, .int .i64 (min c z), .int .i64 (min d q)] _ (by simp) rfl
        have TC_ := Blk.farS (q := wd.heap.size) (by omega) [.int .i64 a, .int .i64 b, .int .i64 (min c z), .int .i64 (min d q)] 0 _ TC
        have XC_ := Blk.farS (q := wd.heap.size) (by omega) [.int .i64 a, .int .i64 b, .int .i64 (min c z), .int .i64 (min d q)] 0 _ XC
        have UC_ := Blk.farS (q := wd.heap.size) (by omega) [.int .i64 a, .int .i64 b, .int .i64 (min c z), .int .i64 (min d q)] 0 _ UC
        have BC_ := below_sets (m := w.heap.size) (g := wd.heap.size) (by omega) [.int .i64 a, .int .i64 b, .int .i64 (min c z), .int .i64 (min d q)] 0 _ BC
        refine wpAnyH_ready (rs := [16]) (by kernel_rfl) (by simp) ?_
        refine AllReadyH.cons (i := 16) rfl (fun K hK => ?_) AllReadyH.nil
        refine stepB 25 _ _ (wd.heap.size) 0 [.int .i64 0, .int .i64 0, .int .i64 0, .int .i64 0] [.int .i64 a, .int .i64 b, .int .i64 (min c z), .int .i64 (min d q)] ie hie OC (by rw [hsz]; rfl) (by simp) rfl rfl rfl rfl rfl ?_
        try simp only [Act.put, List.setIfInBounds_toArray]
        obtain ⟨V1, hV1⟩ : ∃ Wz, (V0).setCells (wd.heap.size) 0 [.int .i64 a, .int .i64 b, .int .i64 (min c z), .int .i64 (min d q)] = Wz := ⟨_, rfl⟩
        rw [hV1] at N_ BC_ TC_ XC_ UC_ ⊢
        clear hV1 OC BC TC XC UC
        have OC := N_
        have BC := BC_
        have TC := TC_
        have XC := XC_
        have UC := UC_
        clear N_ BC_ TC_ XC_ UC_
        refine hK.out _ _ ⟨TC, XC⟩ (fun hHeld2 => ?_)
        clear hK K hHeld
        have hHeld := hHeld2
        clear hHeld2
        try simp only [Act.put, List.setIfInBounds_toArray, List.set_cons_zero, List.set_cons_succ]
        refine wpAnyH_done (by kernel_rfl) ?_ _
        have z4_ := Z4.out
        have q1_ := XC.at 1 rfl
        have q2_ := OC.at 1 rfl
        by_cases hg : b < y
        · have hm : max b y = y := Int.max_eq_right (by omega)
          have HM : Hid (max b y = y) := hm
          clear hm
          obtain ⟨V2, hV2⟩ : ∃ Wz, (World.setCells V1 wd.heap.size 1 [.int .i64 y]) = Wz := ⟨_, rfl⟩
          have OC_ : Blk wd.heap.size [.int .i64 a, .int .i64 y, .int .i64 (min c z), .int .i64 (min d q)] V2 := by rw [← hV2]; exact OC.part 1 [.int .i64 y] _ (by simp) rfl
          have TC_ : Blk w.heap.size [.int .i64 a, .int .i64 b, .int .i64 c, .int .i64 d] V2 := by rw [← hV2]; exact Blk.farS (q := wd.heap.size) (by omega) [.int .i64 y] 1 _ TC
          have XC_ : Blk (w.heap.size + 1) [.int .i64 x, .int .i64 y, .int .i64 z, .int .i64 q] V2 := by rw [← hV2]; exact Blk.farS (q := wd.heap.size) (by omega) [.int .i64 y] 1 _ XC
          have UC_ : Blk (w.heap.size + 1 + 1) [.int .i64 0, .int .i64 0, .int .i64 0, .int .i64 0] V2 := by rw [← hV2]; exact Blk.farS (q := wd.heap.size) (by omega) [.int .i64 y] 1 _ UC
          have BC_ : Below w.heap.size w V2 := by rw [← hV2]; exact below_sets (g := wd.heap.size) (by omega) [.int .i64 y] 1 _ BC
          have OC0V2 := OC
          clear TC XC UC OC BC
          have TC := TC_
          have XC := XC_
          have UC := UC_
          have OC := OC_
          have BC := BC_
          clear TC_ XC_ UC_ OC_ BC_
          have q3_ := OC.at 0 rfl
          have q4_ := OC.at 1 rfl
          have q5_ := OC.at 2 rfl
          have q6_ := OC.at 3 rfl
          go_wp2_with (first | (refine wpList_st1 3 _ _ wd.heap.size 1 [.int .i64 a, .int .i64 b, .int .i64 (min c z), .int .i64 (min d q)] (.int .i64 y) i1 hi1 OC0V2 hz1 (by simp) rfl rfl rfl rfl rfl ?_; try simp only [Act.put]; rw [hV2]))
          refine (specOk_is a y (min c z) (min d q) _).mono ?_
          rintro en w8 ⟨rfl, hb⟩
          replace TC := TC.later hb TC.lt
          replace XC := XC.later hb XC.lt
          replace UC := UC.later hb UC.lt
          replace OC := OC.later hb OC.lt
          replace BC := BC.trans (hb.mono BC.size)
          clear hb
          clear q1_ q2_ OC0V2 q3_ q4_ q5_ q6_ hV2
          generalize hbb : tmOk a y (min c z) (min d q) = bb
          cases bb with
          | true =>
            have q7_ := OC.at 0 rfl
            have q8_ := OC.at 1 rfl
            have q9_ := OC.at 2 rfl
            have q10_ := OC.at 3 rfl
            have FU := UC.sets [.int .i64 a, .int .i64 y, .int .i64 (min c z), .int .i64 (min d q)] rfl
            have FB := below_sets (m := w.heap.size) (g := (w.heap.size + 1 + 1)) (by omega) [.int .i64 a, .int .i64 y, .int .i64 (min c z), .int .i64 (min d q)] 0 _ BC
            go_wp2_with (refine wpList_stB 25 _ _ (w.heap.size + 1 + 1) 0 [.int .i64 0, .int .i64 0, .int .i64 0, .int .i64 0] [.int .i64 a, .int .i64 y, .int .i64 (min c z), .int .i64 (min d q)] ie hie UC (by rw [hsz]; rfl) (by simp) rfl rfl rfl rfl rfl ?_; try simp only [Act.put])
            exact bodyPost_ret (res_B2 rfl _ _ (w.heap.size + 1 + 1) _ (.bool true) ie hie ag25 FU (by rw [hsz]; rfl) rfl rfl) rfl ⟨by have h_ := inV_yes a b c d x y z q (by unfold inOk; rw [hk, hj, HM.out, hbb]; rfl); rw [HM.out] at h_; rw [h_], FB⟩
          | false =>
            have FU := UC.sets [.int .i64 0, .int .i64 0, .int .i64 0, .int .i64 0] rfl
            have FB := below_sets (m := w.heap.size) (g := (w.heap.size + 1 + 1)) (by omega) [.int .i64 0, .int .i64 0, .int .i64 0, .int .i64 0] 0 _ BC
            go_wp2_with (refine wpList_stB 25 _ _ (w.heap.size + 1 + 1) 0 [.int .i64 0, .int .i64 0, .int .i64 0, .int .i64 0] [.int .i64 0, .int .i64 0, .int .i64 0, .int .i64 0] ie hie UC (by rw [hsz]; rfl) (by simp) rfl rfl rfl rfl rfl ?_; try simp only [Act.put])
            exact bodyPost_ret (res_B2 rfl _ _ (w.heap.size + 1 + 1) _ (.bool false) ie hie ag25 FU (by rw [hsz]; rfl) rfl rfl) rfl ⟨by rw [inV_no a b c d x y z q (by unfold inOk; rw [hk, hj, HM.out, hbb]; rfl)], FB⟩
        · have hm : max b y = b := Int.max_eq_left (by omega)
          have HM : Hid (max b y = b) := hm
          clear hm
          have q3_ := OC.at 0 rfl
          have q4_ := OC.at 1 rfl
          have q5_ := OC.at 2 rfl
          have q6_ := OC.at 3 rfl
          go_wp2_with fail
          refine (specOk_is a b (min c z) (min d q) _).mono ?_
          rintro en w8 ⟨rfl, hb⟩
          replace TC := TC.later hb TC.lt
          replace XC := XC.later hb XC.lt
          replace UC := UC.later hb UC.lt
          replace OC := OC.later hb OC.lt
          replace BC := BC.trans (hb.mono BC.size)
          clear hb
          clear q1_ q2_ q3_ q4_ q5_ q6_
          generalize hbb : tmOk a b (min c z) (min d q) = bb
          cases bb with
          | true =>
            have q7_ := OC.at 0 rfl
            have q8_ := OC.at 1 rfl
            have q9_ := OC.at 2 rfl
            have q10_ := OC.at 3 rfl
            have FU := UC.sets [.int .i64 a, .int .i64 b, .int .i64 (min c z), .int .i64 (min d q)] rfl
            have FB := below_sets (m := w.heap.size) (g := (w.heap.size + 1 + 1)) (by omega) [.int .i64 a, .int .i64 b, .int .i64 (min c z), .int .i64 (min d q)] 0 _ BC
            go_wp2_with (refine wpList_stB 25 _ _ (w.heap.size + 1 + 1) 0 [.int .i64 0, .int .i64 0, .int .i64 0, .int .i64 0] [.int .i64 a, .int .i64 b, .int .i64 (min c z), .int .i64 (min d q)] ie hie UC (by rw [hsz]; rfl) (by simp) rfl rfl rfl rfl rfl ?_; try simp only [Act.put])
            exact bodyPost_ret (res_B2 rfl _ _ (w.heap.size + 1 + 1) _ (.bool true) ie hie ag25 FU (by rw [hsz]; rfl) rfl rfl) rfl ⟨by have h_ := inV_yes a b c d x y z q (by unfold inOk; rw [hk, hj, HM.out, hbb]; rfl); rw [HM.out] at h_; rw [h_], FB⟩
          | false =>
            have FU := UC.sets [.int .i64 0, .int .i64 0, .int .i64 0, .int .i64 0] rfl
            have FB := below_sets (m := w.heap.size) (g := (w.heap.size + 1 + 1)) (by omega) [.int .i64 0, .int .i64 0, .int .i64 0, .int .i64 0] 0 _ BC
            go_wp2_with (refine wpList_stB 25 _ _ (w.heap.size + 1 + 1) 0 [.int .i64 0, .int .i64 0, .int .i64 0, .int .i64 0] [.int .i64 0, .int .i64 0, .int .i64 0, .int .i64 0] ie hie UC (by rw [hsz]; rfl) (by simp) rfl rfl rfl rfl rfl ?_; try simp only [Act.put])
            exact bodyPost_ret (res_B2 rfl _ _ (w.heap.size + 1 + 1) _ (.bool false) ie hie ag25 FU (by rw [hsz]; rfl) rfl rfl) rfl ⟨by rw [inV_no a b c d x y z q (by unfold inOk; rw [hk, hj, HM.out, hbb]; rfl)], FB⟩
    · rw [Bool.not_eq_true] at hj
      rw [hj]
      have FU := UC.sets [.int .i64 0, .int .i64 0, .int .i64 0, .int .i64 0] rfl
      have FB := below_sets (m := w.heap.size) (g := (w.heap.size + 1 + 1)) (by omega) [.int .i64 0, .int .i64 0, .int .i64 0, .int .i64 0] 0 _ BC
      go_wp2_with (refine wpList_stB 25 _ _ (w.heap.size + 1 + 1) 0 [.int .i64 0, .int .i64 0, .int .i64 0, .int .i64 0] [.int .i64 0, .int .i64 0, .int .i64 0, .int .i64 0] ie hie UC (by rw [hsz]; rfl) (by simp) rfl rfl rfl rfl rfl ?_; try simp only [Act.put])
      exact bodyPost_ret (res_B2 rfl _ _ (w.heap.size + 1 + 1) _ (.bool false) ie hie ag25 FU (by rw [hsz]; rfl) rfl rfl) rfl ⟨by rw [inV_no a b c d x y z q (by unfold inOk; rw [hk, hj]; rfl)], FB⟩
  · rw [Bool.not_eq_true] at hk
    rw [hk]
    have FU := UC.sets [.int .i64 0, .int .i64 0, .int .i64 0, .int .i64 0] rfl
    have FB := below_sets (m := w.heap.size) (g := (w.heap.size + 1 + 1)) (by omega) [.int .i64 0, .int .i64 0, .int .i64 0, .int .i64 0] 0 _ BC
    go_wp2_with (refine wpList_stB 25 _ _ (w.heap.size + 1 + 1) 0 [.int .i64 0, .int .i64 0, .int .i64 0, .int .i64 0] [.int .i64 0, .int .i64 0, .int .i64 0, .int .i64 0] ie hie UC (by rw [hsz]; rfl) (by simp) rfl rfl rfl rfl rfl ?_; try simp only [Act.put])
    exact bodyPost_ret (res_B2 rfl _ _ (w.heap.size + 1 + 1) _ (.bool false) ie hie ag25 FU (by rw [hsz]; rfl) rfl rfl) rfl ⟨by rw [inV_no a b c d x y z q (by unfold inOk; rw [hk]; rfl)], FB⟩

end Go.Proofs.Ytaeecaebjafnpaa
