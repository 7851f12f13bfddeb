/- Chapter 16: the law on what lies inside. -/
import Derived.Test.YtaeecaebjafnpaaTm4
import Derived.Test.YtaeecaebjafnpaaLt2
set_option linter.unusedVariables false
set_option maxRecDepth 100000
namespace Go.Proofs.Ytaeecaebjafnpaa
open Go Go.RowKit

set_option maxHeartbeats 12800000 in
theorem lawInside (a b c d x y z q : Int) (w : World) : Calls Try.prog 8 #[tv a b c d, tv x y z q] w fun en w' => en = .returned (.bool true) ∧ Below w.heap.size w w' := by
  obtain ⟨ie, hie, hsz⟩ := info_times
  have R1 := fun w => specInside_is a b c d x y z q w
  have R2 := fun w => implInside_is a b c d x y z q w
  obtain ⟨p0, p1, p2, p3, kk, hV⟩ : ∃ p0 p1 p2 p3 : Int, ∃ kk : Bool, inV a b c d x y z q = .tuple #[tv p0 p1 p2 p3, .bool kk] := tmIf_form _ _ _ _ _
  rw [hV] at R1 R2
  clear hV
  have BC : Below w.heap.size w ((w.alloc (.cells #[.int .i64 a, .int .i64 b, .int .i64 c, .int .i64 d] 40)).alloc (.cells #[.int .i64 x, .int .i64 y, .int .i64 z, .int .i64 q] 40)) := ((Below.refl _ _).alloc (by simp <;> omega) _).alloc (by simp <;> omega) _
  have TC : Blk w.heap.size [.int .i64 a, .int .i64 b, .int .i64 c, .int .i64 d] ((w.alloc (.cells #[.int .i64 a, .int .i64 b, .int .i64 c, .int .i64 d] 40)).alloc (.cells #[.int .i64 x, .int .i64 y, .int .i64 z, .int .i64 q] 40)) := by have h_ := ((Blk.new w #[.int .i64 a, .int .i64 b, .int .i64 c, .int .i64 d] 40).alloc (by simp <;> omega) (.cells #[.int .i64 x, .int .i64 y, .int .i64 z, .int .i64 q] 40)); simpa using h_
  have XC : Blk (w.heap.size + 1) [.int .i64 x, .int .i64 y, .int .i64 z, .int .i64 q] ((w.alloc (.cells #[.int .i64 a, .int .i64 b, .int .i64 c, .int .i64 d] 40)).alloc (.cells #[.int .i64 x, .int .i64 y, .int .i64 z, .int .i64 q] 40)) := by have h_ := (Blk.new (w.alloc (.cells #[.int .i64 a, .int .i64 b, .int .i64 c, .int .i64 d] 40)) #[.int .i64 x, .int .i64 y, .int .i64 z, .int .i64 q] 40); simpa using h_
  go_enter Try.func8, Try.ntmps8
  go_wp2_with fail
  refine Code.wp_mono (Q := (fun ex a' w' => ∃ pa, ex = .normal ∧ a' = { tmps := #[tv a b c d, tv x y z q, .pointer (some ⟨w.heap.size, 0, none⟩), .pointer (some ⟨(w.heap.size + 1), 0, none⟩), .bool false, .pointer (some ⟨pa, 0, none⟩), .bool kk, undef, undef, .tuple #[tv p0 p1 p2 p3, .bool kk], .agg #[.int .i64 a, .int .i64 b, .int .i64 c, .int .i64 d], tv a b c d, .agg #[.int .i64 x, .int .i64 y, .int .i64 z, .int .i64 q], tv x y z q, .tuple #[tv p0 p1 p2 p3, .bool kk], tv p0 p1 p2 p3, .bool kk, undef, undef, undef, undef, undef, undef, undef, undef, undef, undef, undef, undef, undef, undef, undef, undef, undef], defers := [] } ∧ Blk pa [.int .i64 p0, .int .i64 p1, .int .i64 p2, .int .i64 p3] w' ∧ Blk w.heap.size [.int .i64 a, .int .i64 b, .int .i64 c, .int .i64 d] w' ∧ Blk (w.heap.size + 1) [.int .i64 x, .int .i64 y, .int .i64 z, .int .i64 q] w' ∧ Below w.heap.size w w')) ?imp1 ?reg1
  case reg1 =>
    replace TC := TC.drew
    replace XC := XC.drew
    replace BC := BC.drew
    refine wp_region_held_drew (S := (fun Vw => Blk w.heap.size [.int .i64 a, .int .i64 b, .int .i64 c, .int .i64 d] Vw ∧ Blk (w.heap.size + 1) [.int .i64 x, .int .i64 y, .int .i64 z, .int .i64 q] Vw)) (by kernel_rfl) ⟨TC, XC⟩ (fun hHeld => ?_)
    generalize World.drew ((w.alloc (.cells #[.int .i64 a, .int .i64 b, .int .i64 c, .int .i64 d] 40)).alloc (.cells #[.int .i64 x, .int .i64 y, .int .i64 z, .int .i64 q] 40)) = wd at *
    refine take_one 0 10 (v := ?_) rfl rfl (by kernel_rfl) (by kernel_rfl) (by kernel_rfl) (fun _ _ _ h => by obtain ⟨_, h, _⟩ := h; cases h) (Or.inl ⟨by rfl, ?_⟩) hHeld ?_
    rotate_left
    · intro w' hSw; (try dsimp only at hSw); have d0 := hSw.1.at 0 rfl; have d1 := hSw.1.at 1 rfl; have d2 := hSw.1.at 2 rfl; have d3 := hSw.1.at 3 rfl; have e0 := hSw.2.at 0 rfl; have e1 := hSw.2.at 1 rfl; have e2 := hSw.2.at 2 rfl; have e3 := hSw.2.at 3 rfl; go_simp; try with_reducible rfl
    try simp only [Act.put, List.setIfInBounds_toArray, List.set_cons_zero, List.set_cons_succ]
    refine take_one 2 12 (v := ?_) rfl rfl (by kernel_rfl) (by kernel_rfl) (by kernel_rfl) (fun _ _ _ h => by obtain ⟨_, h, _⟩ := h; cases h) (Or.inl ⟨by rfl, ?_⟩) hHeld ?_
    rotate_left
    · intro w' hSw; (try dsimp only at hSw); have d0 := hSw.1.at 0 rfl; have d1 := hSw.1.at 1 rfl; have d2 := hSw.1.at 2 rfl; have d3 := hSw.1.at 3 rfl; have e0 := hSw.2.at 0 rfl; have e1 := hSw.2.at 1 rfl; have e2 := hSw.2.at 2 rfl; have e3 := hSw.2.at 3 rfl; go_simp; try with_reducible rfl
    try simp only [Act.put, List.setIfInBounds_toArray, List.set_cons_zero, List.set_cons_succ]
    refine wpAnyH_ready (rs := [1, 8]) (by kernel_rfl) (by simp) ?_
    refine AllReadyH.cons (i := 1) rfl (fun K hK => ?_) (AllReadyH.cons (i := 8) rfl (fun K hK => ?_) AllReadyH.nil)
    · skip
      go_simp
      refine (toTimes_is a b c d _).mono ?_
      rintro en u0 ⟨rfl, hb⟩
      replace TC := TC.later hb TC.lt
      replace XC := XC.later hb XC.lt
      replace BC := BC.trans (hb.mono BC.size)
      clear hb
      go_wp2_with fail
      refine hK.out _ _ ⟨TC, XC⟩ (fun hHeld2 => ?_)
      clear hK K hHeld
      have hHeld := hHeld2
      clear hHeld2
      try simp only [Act.put, List.setIfInBounds_toArray, List.set_cons_zero, List.set_cons_succ]
      refine wpAnyH_ready (rs := [3, 8]) (by kernel_rfl) (by simp) ?_
      refine AllReadyH.cons (i := 3) rfl (fun K hK => ?_) (AllReadyH.cons (i := 8) rfl (fun K hK => ?_) AllReadyH.nil)
      · skip
        go_simp
        refine (toTimes_is x y z q _).mono ?_
        rintro en u1 ⟨rfl, hb⟩
        replace TC := TC.later hb TC.lt
        replace XC := XC.later hb XC.lt
        replace BC := BC.trans (hb.mono BC.size)
        clear hb
        go_wp2_with fail
        refine hK.out _ _ ⟨TC, XC⟩ (fun hHeld2 => ?_)
        clear hK K hHeld
        have hHeld := hHeld2
        clear hHeld2
        try simp only [Act.put, List.setIfInBounds_toArray, List.set_cons_zero, List.set_cons_succ]
        refine wpAnyH_ready (rs := [4, 8]) (by kernel_rfl) (by simp) ?_
        refine AllReadyH.cons (i := 4) rfl (fun K hK => ?_) (AllReadyH.cons (i := 8) rfl (fun K hK => ?_) AllReadyH.nil)
        · skip
          go_simp
          refine (R1 _).mono ?_
          rintro en u2 ⟨rfl, hb⟩
          replace TC := TC.later hb TC.lt
          replace XC := XC.later hb XC.lt
          replace BC := BC.trans (hb.mono BC.size)
          clear hb
          go_wp2_with fail
          refine hK.out _ _ ⟨TC, XC⟩ (fun hHeld2 => ?_)
          clear hK K hHeld
          have hHeld := hHeld2
          clear hHeld2
          try simp only [Act.put, List.setIfInBounds_toArray, List.set_cons_zero, List.set_cons_succ]
          refine take_one 5 9 (v := ?_) rfl rfl (by kernel_rfl) (by kernel_rfl) (by kernel_rfl) (fun _ _ _ h => by obtain ⟨_, h, _⟩ := h; cases h) (Or.inl ⟨by rfl, ?_⟩) hHeld ?_
          rotate_left
          · intro w' hSw; (try dsimp only at hSw); go_simp; try with_reducible rfl
          try simp only [Act.put, List.setIfInBounds_toArray, List.set_cons_zero, List.set_cons_succ]
          refine take_one 6 15 (v := ?_) rfl rfl (by kernel_rfl) (by kernel_rfl) (by kernel_rfl) (fun _ _ _ h => by obtain ⟨_, h, _⟩ := h; cases h) (Or.inl ⟨by rfl, ?_⟩) hHeld ?_
          rotate_left
          · intro w' hSw; (try dsimp only at hSw); go_simp; try with_reducible rfl
          try simp only [Act.put, List.setIfInBounds_toArray, List.set_cons_zero, List.set_cons_succ]
          refine take_one 7 16 (v := ?_) rfl rfl (by kernel_rfl) (by kernel_rfl) (by kernel_rfl) (fun _ _ _ h => by obtain ⟨_, h, _⟩ := h; cases h) (Or.inl ⟨by rfl, ?_⟩) hHeld ?_
          rotate_left
          · intro w' hSw; (try dsimp only at hSw); go_simp; try with_reducible rfl
          try simp only [Act.put, List.setIfInBounds_toArray, List.set_cons_zero, List.set_cons_succ]
          refine wpAnyH_ready (rs := [8]) (by kernel_rfl) (by simp) ?_
          refine AllReadyH.cons (i := 8) rfl (fun K hK => ?_) AllReadyH.nil
          go_simp
          have OC : Blk u2.heap.size [.int .i64 0, .int .i64 0, .int .i64 0, .int .i64 0] (u2.alloc (.cells #[.int .i64 0, .int .i64 0, .int .i64 0, .int .i64 0] 25)) := Blk.new _ _ _
          have XA_ : Below u2.heap.size u2 (u2.alloc (.cells #[.int .i64 0, .int .i64 0, .int .i64 0, .int .i64 0] 25)) := (Below.refl _ _).alloc (Nat.le_refl _) _
          have nTC : Hid (_ < u2.heap.size) := TC.lt
          replace TC := TC.later XA_ TC.lt
          have nXC : Hid (_ < u2.heap.size) := XC.lt
          replace XC := XC.later XA_ XC.lt
          have nBC : Hid (w.heap.size ≤ u2.heap.size) := BC.size
          replace BC := BC.trans (XA_.mono BC.size)
          clear XA_
          obtain ⟨go_, hgo⟩ : ∃ go_, u2.heap.size = go_ := ⟨_, rfl⟩
          obtain ⟨V0, hV0⟩ : ∃ Wz, (u2.alloc (.cells #[.int .i64 0, .int .i64 0, .int .i64 0, .int .i64 0] 25)) = Wz := ⟨_, rfl⟩
          rw [hV0] at TC XC OC BC ⊢
          rw [hgo] at OC nTC nXC nBC ⊢
          clear hV0 hgo
          have mTC := nTC.out
          have mXC := nXC.out
          have mBC := nBC.out
          refine hK.out _ _ ⟨TC, XC⟩ (fun hHeld2 => ?_)
          clear hK K hHeld
          have hHeld := hHeld2
          clear hHeld2
          try simp only [Act.put, List.setIfInBounds_toArray, List.set_cons_zero, List.set_cons_succ]
          have N_ : Blk go_ [.int .i64 p0, .int .i64 p1, .int .i64 p2, .int .i64 p3] ((V0).setCells go_ 0 [.int .i64 p0, .int .i64 p1, .int .i64 p2, .int .i64 p3]) := OC.part 0 [.int .i64 p0, .int .i64 p1, .int .i64 p2, .int .i64 p3] _ (by simp) rfl
          have TC_ := Blk.farS (q := go_) (by omega) [.int .i64 p0, .int .i64 p1, .int .i64 p2, .int .i64 p3] 0 _ TC
          have XC_ := Blk.farS (q := go_) (by omega) [.int .i64 p0, .int .i64 p1, .int .i64 p2, .int .i64 p3] 0 _ XC
          have BC_ := below_sets (m := w.heap.size) (g := go_) (by omega) [.int .i64 p0, .int .i64 p1, .int .i64 p2, .int .i64 p3] 0 _ BC
          refine wpAnyH_ready (rs := [9]) (by kernel_rfl) (by simp) ?_
          refine AllReadyH.cons (i := 9) rfl (fun K hK => ?_) AllReadyH.nil
          refine stepB 25 _ _ (go_) 0 [.int .i64 0, .int .i64 0, .int .i64 0, .int .i64 0] [.int .i64 p0, .int .i64 p1, .int .i64 p2, .int .i64 p3] ie hie OC (by rw [hsz]; rfl) (by simp) rfl rfl rfl rfl rfl ?_
          try simp only [Act.put, List.setIfInBounds_toArray]
          obtain ⟨V9, hV9⟩ : ∃ Wz, (V0).setCells (go_) 0 [.int .i64 p0, .int .i64 p1, .int .i64 p2, .int .i64 p3] = Wz := ⟨_, rfl⟩
          rw [hV9] at N_ BC_ TC_ XC_ ⊢
          clear hV9 OC BC TC XC
          have OC := N_
          have BC := BC_
          have TC := TC_
          have XC := XC_
          clear N_ BC_ TC_ XC_
          refine hK.out _ _ ⟨TC, XC⟩ (fun hHeld2 => ?_)
          clear hK K hHeld
          have hHeld := hHeld2
          clear hHeld2
          try simp only [Act.put, List.setIfInBounds_toArray, List.set_cons_zero, List.set_cons_succ]
          have hkk := hHeld
          refine take_one 10 6 (v := ?_) rfl rfl (by kernel_rfl) (by kernel_rfl) (by kernel_rfl) (fun _ _ _ h => by obtain ⟨_, h, _⟩ := h; cases h) (Or.inl ⟨by rfl, ?_⟩) hHeld ?_
          rotate_left
          · intro w' hSw; (try dsimp only at hSw); go_simp; try with_reducible rfl
          try simp only [Act.put]
          refine wpAnyH_done (by kernel_rfl) ?_ _
          exact ⟨_, rfl, rfl, OC, TC, XC, BC⟩
        · skip
          go_simp
          have OC : Blk u1.heap.size [.int .i64 0, .int .i64 0, .int .i64 0, .int .i64 0] (u1.alloc (.cells #[.int .i64 0, .int .i64 0, .int .i64 0, .int .i64 0] 25)) := Blk.new _ _ _
          have XA_ : Below u1.heap.size u1 (u1.alloc (.cells #[.int .i64 0, .int .i64 0, .int .i64 0, .int .i64 0] 25)) := (Below.refl _ _).alloc (Nat.le_refl _) _
          have nTC : Hid (_ < u1.heap.size) := TC.lt
          replace TC := TC.later XA_ TC.lt
          have nXC : Hid (_ < u1.heap.size) := XC.lt
          replace XC := XC.later XA_ XC.lt
          have nBC : Hid (w.heap.size ≤ u1.heap.size) := BC.size
          replace BC := BC.trans (XA_.mono BC.size)
          clear XA_
          obtain ⟨go_, hgo⟩ : ∃ go_, u1.heap.size = go_ := ⟨_, rfl⟩
          obtain ⟨V0, hV0⟩ : ∃ Wz, (u1.alloc (.cells #[.int .i64 0, .int .i64 0, .int .i64 0, .int .i64 0] 25)) = Wz := ⟨_, rfl⟩
          rw [hV0] at TC XC OC BC ⊢
          rw [hgo] at OC nTC nXC nBC ⊢
          clear hV0 hgo
          have mTC := nTC.out
          have mXC := nXC.out
          have mBC := nBC.out
          refine hK.out _ _ ⟨TC, XC⟩ (fun hHeld2 => ?_)
          clear hK K hHeld
          have hHeld := hHeld2
          clear hHeld2
          try simp only [Act.put, List.setIfInBounds_toArray, List.set_cons_zero, List.set_cons_succ]
          refine wpAnyH_ready (rs := [4]) (by kernel_rfl) (by simp) ?_
          refine AllReadyH.cons (i := 4) rfl (fun K hK => ?_) AllReadyH.nil
          go_simp
          refine (R1 _).mono ?_
          rintro en u2 ⟨rfl, hb⟩
          replace TC := TC.later hb TC.lt
          replace XC := XC.later hb XC.lt
          replace OC := OC.later hb OC.lt
          replace BC := BC.trans (hb.mono BC.size)
          clear hb
          go_wp2_with fail
          refine hK.out _ _ ⟨TC, XC⟩ (fun hHeld2 => ?_)
          clear hK K hHeld
          have hHeld := hHeld2
          clear hHeld2
          try simp only [Act.put, List.setIfInBounds_toArray, List.set_cons_zero, List.set_cons_succ]
          refine take_one 5 9 (v := ?_) rfl rfl (by kernel_rfl) (by kernel_rfl) (by kernel_rfl) (fun _ _ _ h => by obtain ⟨_, h, _⟩ := h; cases h) (Or.inl ⟨by rfl, ?_⟩) hHeld ?_
          rotate_left
          · intro w' hSw; (try dsimp only at hSw); go_simp; try with_reducible rfl
          try simp only [Act.put, List.setIfInBounds_toArray, List.set_cons_zero, List.set_cons_succ]
          refine take_one 6 15 (v := ?_) rfl rfl (by kernel_rfl) (by kernel_rfl) (by kernel_rfl) (fun _ _ _ h => by obtain ⟨_, h, _⟩ := h; cases h) (Or.inl ⟨by rfl, ?_⟩) hHeld ?_
          rotate_left
          · intro w' hSw; (try dsimp only at hSw); go_simp; try with_reducible rfl
          try simp only [Act.put, List.setIfInBounds_toArray, List.set_cons_zero, List.set_cons_succ]
          refine take_one 7 16 (v := ?_) rfl rfl (by kernel_rfl) (by kernel_rfl) (by kernel_rfl) (fun _ _ _ h => by obtain ⟨_, h, _⟩ := h; cases h) (Or.inl ⟨by rfl, ?_⟩) hHeld ?_
          rotate_left
          · intro w' hSw; (try dsimp only at hSw); go_simp; try with_reducible rfl
          try simp only [Act.put, List.setIfInBounds_toArray, List.set_cons_zero, List.set_cons_succ]
          have N_ : Blk go_ [.int .i64 p0, .int .i64 p1, .int .i64 p2, .int .i64 p3] ((u2).setCells go_ 0 [.int .i64 p0, .int .i64 p1, .int .i64 p2, .int .i64 p3]) := OC.part 0 [.int .i64 p0, .int .i64 p1, .int .i64 p2, .int .i64 p3] _ (by simp) rfl
          have TC_ := Blk.farS (q := go_) (by omega) [.int .i64 p0, .int .i64 p1, .int .i64 p2, .int .i64 p3] 0 _ TC
          have XC_ := Blk.farS (q := go_) (by omega) [.int .i64 p0, .int .i64 p1, .int .i64 p2, .int .i64 p3] 0 _ XC
          have BC_ := below_sets (m := w.heap.size) (g := go_) (by omega) [.int .i64 p0, .int .i64 p1, .int .i64 p2, .int .i64 p3] 0 _ BC
          refine wpAnyH_ready (rs := [9]) (by kernel_rfl) (by simp) ?_
          refine AllReadyH.cons (i := 9) rfl (fun K hK => ?_) AllReadyH.nil
          refine stepB 25 _ _ (go_) 0 [.int .i64 0, .int .i64 0, .int .i64 0, .int .i64 0] [.int .i64 p0, .int .i64 p1, .int .i64 p2, .int .i64 p3] ie hie OC (by rw [hsz]; rfl) (by simp) rfl rfl rfl rfl rfl ?_
          try simp only [Act.put, List.setIfInBounds_toArray]
          obtain ⟨V9, hV9⟩ : ∃ Wz, (u2).setCells (go_) 0 [.int .i64 p0, .int .i64 p1, .int .i64 p2, .int .i64 p3] = Wz := ⟨_, rfl⟩
          rw [hV9] at N_ BC_ TC_ XC_ ⊢
          clear hV9 OC BC TC XC
          have OC := N_
          have BC := BC_
          have TC := TC_
          have XC := XC_
          clear N_ BC_ TC_ XC_
          refine hK.out _ _ ⟨TC, XC⟩ (fun hHeld2 => ?_)
          clear hK K hHeld
          have hHeld := hHeld2
          clear hHeld2
          try simp only [Act.put, List.setIfInBounds_toArray, List.set_cons_zero, List.set_cons_succ]
          have hkk := hHeld
          refine take_one 10 6 (v := ?_) rfl rfl (by kernel_rfl) (by kernel_rfl) (by kernel_rfl) (fun _ _ _ h => by obtain ⟨_, h, _⟩ := h; cases h) (Or.inl ⟨by rfl, ?_⟩) hHeld ?_
          rotate_left
          · intro w' hSw; (try dsimp only at hSw); go_simp; try with_reducible rfl
          try simp only [Act.put]
          refine wpAnyH_done (by kernel_rfl) ?_ _
          exact ⟨_, rfl, rfl, OC, TC, XC, BC⟩
      · skip
        go_simp
        have OC : Blk u0.heap.size [.int .i64 0, .int .i64 0, .int .i64 0, .int .i64 0] (u0.alloc (.cells #[.int .i64 0, .int .i64 0, .int .i64 0, .int .i64 0] 25)) := Blk.new _ _ _
        have XA_ : Below u0.heap.size u0 (u0.alloc (.cells #[.int .i64 0, .int .i64 0, .int .i64 0, .int .i64 0] 25)) := (Below.refl _ _).alloc (Nat.le_refl _) _
        have nTC : Hid (_ < u0.heap.size) := TC.lt
        replace TC := TC.later XA_ TC.lt
        have nXC : Hid (_ < u0.heap.size) := XC.lt
        replace XC := XC.later XA_ XC.lt
        have nBC : Hid (w.heap.size ≤ u0.heap.size) := BC.size
        replace BC := BC.trans (XA_.mono BC.size)
        clear XA_
        obtain ⟨go_, hgo⟩ : ∃ go_, u0.heap.size = go_ := ⟨_, rfl⟩
        obtain ⟨V0, hV0⟩ : ∃ Wz, (u0.alloc (.cells #[.int .i64 0, .int .i64 0, .int .i64 0, .int .i64 0] 25)) = Wz := ⟨_, rfl⟩
        rw [hV0] at TC XC OC BC ⊢
        rw [hgo] at OC nTC nXC nBC ⊢
        clear hV0 hgo
        have mTC := nTC.out
        have mXC := nXC.out
        have mBC := nBC.out
        refine hK.out _ _ ⟨TC, XC⟩ (fun hHeld2 => ?_)
        clear hK K hHeld
        have hHeld := hHeld2
        clear hHeld2
        try simp only [Act.put, List.setIfInBounds_toArray, List.set_cons_zero, List.set_cons_succ]
        refine wpAnyH_ready (rs := [3]) (by kernel_rfl) (by simp) ?_
        refine AllReadyH.cons (i := 3) rfl (fun K hK => ?_) AllReadyH.nil
        go_simp
        refine (toTimes_is x y z q _).mono ?_
        rintro en u1 ⟨rfl, hb⟩
        replace TC := TC.later hb TC.lt
        replace XC := XC.later hb XC.lt
        replace OC := OC.later hb OC.lt
        replace BC := BC.trans (hb.mono BC.size)
        clear hb
        go_wp2_with fail
        refine hK.out _ _ ⟨TC, XC⟩ (fun hHeld2 => ?_)
        clear hK K hHeld
        have hHeld := hHeld2
        clear hHeld2
        try simp only [Act.put, List.setIfInBounds_toArray, List.set_cons_zero, List.set_cons_succ]
        refine wpAnyH_ready (rs := [4]) (by kernel_rfl) (by simp) ?_
        refine AllReadyH.cons (i := 4) rfl (fun K hK => ?_) AllReadyH.nil
        go_simp
        refine (R1 _).mono ?_
        rintro en u2 ⟨rfl, hb⟩
        replace TC := TC.later hb TC.lt
        replace XC := XC.later hb XC.lt
        replace OC := OC.later hb OC.lt
        replace BC := BC.trans (hb.mono BC.size)
        clear hb
        go_wp2_with fail
        refine hK.out _ _ ⟨TC, XC⟩ (fun hHeld2 => ?_)
        clear hK K hHeld
        have hHeld := hHeld2
        clear hHeld2
        try simp only [Act.put, List.setIfInBounds_toArray, List.set_cons_zero, List.set_cons_succ]
        refine take_one 5 9 (v := ?_) rfl rfl (by kernel_rfl) (by kernel_rfl) (by kernel_rfl) (fun _ _ _ h => by obtain ⟨_, h, _⟩ := h; cases h) (Or.inl ⟨by rfl, ?_⟩) hHeld ?_
        rotate_left
        · intro w' hSw; (try dsimp only at hSw); go_simp; try with_reducible rfl
        try simp only [Act.put, List.setIfInBounds_toArray, List.set_cons_zero, List.set_cons_succ]
        refine take_one 6 15 (v := ?_) rfl rfl (by kernel_rfl) (by kernel_rfl) (by kernel_rfl) (fun _ _ _ h => by obtain ⟨_, h, _⟩ := h; cases h) (Or.inl ⟨by rfl, ?_⟩) hHeld ?_
        rotate_left
        · intro w' hSw; (try dsimp only at hSw); go_simp; try with_reducible rfl
        try simp only [Act.put, List.setIfInBounds_toArray, List.set_cons_zero, List.set_cons_succ]
        refine take_one 7 16 (v := ?_) rfl rfl (by kernel_rfl) (by kernel_rfl) (by kernel_rfl) (fun _ _ _ h => by obtain ⟨_, h, _⟩ := h; cases h) (Or.inl ⟨by rfl, ?_⟩) hHeld ?_
        rotate_left
        · intro w' hSw; (try dsimp only at hSw); go_simp; try with_reducible rfl
        try simp only [Act.put, List.setIfInBounds_toArray, List.set_cons_zero, List.set_cons_succ]
        have N_ : Blk go_ [.int .i64 p0, .int .i64 p1, .int .i64 p2, .int .i64 p3] ((u2).setCells go_ 0 [.int .i64 p0, .int .i64 p1, .int .i64 p2, .int .i64 p3]) := OC.part 0 [.int .i64 p0, .int .i64 p1, .int .i64 p2, .int .i64 p3] _ (by simp) rfl
        have TC_ := Blk.farS (q := go_) (by omega) [.int .i64 p0, .int .i64 p1, .int .i64 p2, .int .i64 p3] 0 _ TC
        have XC_ := Blk.farS (q := go_) (by omega) [.int .i64 p0, .int .i64 p1, .int .i64 p2, .int .i64 p3] 0 _ XC
        have BC_ := below_sets (m := w.heap.size) (g := go_) (by omega) [.int .i64 p0, .int .i64 p1, .int .i64 p2, .int .i64 p3] 0 _ BC
        refine wpAnyH_ready (rs := [9]) (by kernel_rfl) (by simp) ?_
        refine AllReadyH.cons (i := 9) rfl (fun K hK => ?_) AllReadyH.nil
        refine stepB 25 _ _ (go_) 0 [.int .i64 0, .int .i64 0, .int .i64 0, .int .i64 0] [.int .i64 p0, .int .i64 p1, .int .i64 p2, .int .i64 p3] ie hie OC (by rw [hsz]; rfl) (by simp) rfl rfl rfl rfl rfl ?_
        try simp only [Act.put, List.setIfInBounds_toArray]
        obtain ⟨V9, hV9⟩ : ∃ Wz, (u2).setCells (go_) 0 [.int .i64 p0, .int .i64 p1, .int .i64 p2, .int .i64 p3] = Wz := ⟨_, rfl⟩
        rw [hV9] at N_ BC_ TC_ XC_ ⊢
        clear hV9 OC BC TC XC
        have OC := N_
        have BC := BC_
        have TC := TC_
        have XC := XC_
        clear N_ BC_ TC_ XC_
        refine hK.out _ _ ⟨TC, XC⟩ (fun hHeld2 => ?_)
        clear hK K hHeld
        have hHeld := hHeld2
        clear hHeld2
        try simp only [Act.put, List.setIfInBounds_toArray, List.set_cons_zero, List.set_cons_succ]
        have hkk := hHeld
        refine take_one 10 6 (v := ?_) rfl rfl (by kernel_rfl) (by kernel_rfl) (by kernel_rfl) (fun _ _ _ h => by obtain ⟨_, h, _⟩ := h; cases h) (Or.inl ⟨by rfl, ?_⟩) hHeld ?_
        rotate_left
        · intro w' hSw; (try dsimp only at hSw); go_simp; try with_reducible rfl
        try simp only [Act.put]
        refine wpAnyH_done (by kernel_rfl) ?_ _
        exact ⟨_, rfl, rfl, OC, TC, XC, BC⟩
    · skip
      go_simp
      have OC : Blk wd.heap.size [.int .i64 0, .int .i64 0, .int .i64 0, .int .i64 0] (wd.alloc (.cells #[.int .i64 0, .int .i64 0, .int .i64 0, .int .i64 0] 25)) := Blk.new _ _ _
      have XA_ : Below wd.heap.size wd (wd.alloc (.cells #[.int .i64 0, .int .i64 0, .int .i64 0, .int .i64 0] 25)) := (Below.refl _ _).alloc (Nat.le_refl _) _
      have nTC : Hid (_ < wd.heap.size) := TC.lt
      replace TC := TC.later XA_ TC.lt
      have nXC : Hid (_ < wd.heap.size) := XC.lt
      replace XC := XC.later XA_ XC.lt
      have nBC : Hid (w.heap.size ≤ wd.heap.size) := BC.size
      replace BC := BC.trans (XA_.mono BC.size)
      clear XA_
      obtain ⟨go_, hgo⟩ : ∃ go_, wd.heap.size = go_ := ⟨_, rfl⟩
      obtain ⟨V0, hV0⟩ : ∃ Wz, (wd.alloc (.cells #[.int .i64 0, .int .i64 0, .int .i64 0, .int .i64 0] 25)) = Wz := ⟨_, rfl⟩
      rw [hV0] at TC XC OC BC ⊢
      rw [hgo] at OC nTC nXC nBC ⊢
      clear hV0 hgo
      have mTC := nTC.out
      have mXC := nXC.out
      have mBC := nBC.out
      refine hK.out _ _ ⟨TC, XC⟩ (fun hHeld2 => ?_)
      clear hK K hHeld
      have hHeld := hHeld2
      clear hHeld2
      try simp only [Act.put, List.setIfInBounds_toArray, List.set_cons_zero, List.set_cons_succ]
      refine wpAnyH_ready (rs := [1]) (by kernel_rfl) (by simp) ?_
      refine AllReadyH.cons (i := 1) rfl (fun K hK => ?_) AllReadyH.nil
      go_simp
      refine (toTimes_is a b c d _).mono ?_
      rintro en u0 ⟨rfl, hb⟩
      replace TC := TC.later hb TC.lt
      replace XC := XC.later hb XC.lt
      replace OC := OC.later hb OC.lt
      replace BC := BC.trans (hb.mono BC.size)
      clear hb
      go_wp2_with fail
      refine hK.out _ _ ⟨TC, XC⟩ (fun hHeld2 => ?_)
      clear hK K hHeld
      have hHeld := hHeld2
      clear hHeld2
      try simp only [Act.put, List.setIfInBounds_toArray, List.set_cons_zero, List.set_cons_succ]
      refine wpAnyH_ready (rs := [3]) (by kernel_rfl) (by simp) ?_
      refine AllReadyH.cons (i := 3) rfl (fun K hK => ?_) AllReadyH.nil
      go_simp
      refine (toTimes_is x y z q _).mono ?_
      rintro en u1 ⟨rfl, hb⟩
      replace TC := TC.later hb TC.lt
      replace XC := XC.later hb XC.lt
      replace OC := OC.later hb OC.lt
      replace BC := BC.trans (hb.mono BC.size)
      clear hb
      go_wp2_with fail
      refine hK.out _ _ ⟨TC, XC⟩ (fun hHeld2 => ?_)
      clear hK K hHeld
      have hHeld := hHeld2
      clear hHeld2
      try simp only [Act.put, List.setIfInBounds_toArray, List.set_cons_zero, List.set_cons_succ]
      refine wpAnyH_ready (rs := [4]) (by kernel_rfl) (by simp) ?_
      refine AllReadyH.cons (i := 4) rfl (fun K hK => ?_) AllReadyH.nil
      go_simp
      refine (R1 _).mono ?_
      rintro en u2 ⟨rfl, hb⟩
      replace TC := TC.later hb TC.lt
      replace XC := XC.later hb XC.lt
      replace OC := OC.later hb OC.lt
      replace BC := BC.trans (hb.mono BC.size)
      clear hb
      go_wp2_with fail
      refine hK.out _ _ ⟨TC, XC⟩ (fun hHeld2 => ?_)
      clear hK K hHeld
      have hHeld := hHeld2
      clear hHeld2
      try simp only [Act.put, List.setIfInBounds_toArray, List.set_cons_zero, List.set_cons_succ]
      refine take_one 5 9 (v := ?_) rfl rfl (by kernel_rfl) (by kernel_rfl) (by kernel_rfl) (fun _ _ _ h => by obtain ⟨_, h, _⟩ := h; cases h) (Or.inl ⟨by rfl, ?_⟩) hHeld ?_
      rotate_left
      · intro w' hSw; (try dsimp only at hSw); go_simp; try with_reducible rfl
      try simp only [Act.put, List.setIfInBounds_toArray, List.set_cons_zero, List.set_cons_succ]
      refine take_one 6 15 (v := ?_) rfl rfl (by kernel_rfl) (by kernel_rfl) (by kernel_rfl) (fun _ _ _ h => by obtain ⟨_, h, _⟩ := h; cases h) (Or.inl ⟨by rfl, ?_⟩) hHeld ?_
      rotate_left
      · intro w' hSw; (try dsimp only at hSw); go_simp; try with_reducible rfl
      try simp only [Act.put, List.setIfInBounds_toArray, List.set_cons_zero, List.set_cons_succ]
      refine take_one 7 16 (v := ?_) rfl rfl (by kernel_rfl) (by kernel_rfl) (by kernel_rfl) (fun _ _ _ h => by obtain ⟨_, h, _⟩ := h; cases h) (Or.inl ⟨by rfl, ?_⟩) hHeld ?_
      rotate_left
      · intro w' hSw; (try dsimp only at hSw); go_simp; try with_reducible rfl
      try simp only [Act.put, List.setIfInBounds_toArray, List.set_cons_zero, List.set_cons_succ]
      have N_ : Blk go_ [.int .i64 p0, .int .i64 p1, .int .i64 p2, .int .i64 p3] ((u2).setCells go_ 0 [.int .i64 p0, .int .i64 p1, .int .i64 p2, .int .i64 p3]) := OC.part 0 [.int .i64 p0, .int .i64 p1, .int .i64 p2, .int .i64 p3] _ (by simp) rfl
      have TC_ := Blk.farS (q := go_) (by omega) [.int .i64 p0, .int .i64 p1, .int .i64 p2, .int .i64 p3] 0 _ TC
      have XC_ := Blk.farS (q := go_) (by omega) [.int .i64 p0, .int .i64 p1, .int .i64 p2, .int .i64 p3] 0 _ XC
      have BC_ := below_sets (m := w.heap.size) (g := go_) (by omega) [.int .i64 p0, .int .i64 p1, .int .i64 p2, .int .i64 p3] 0 _ BC
      refine wpAnyH_ready (rs := [9]) (by kernel_rfl) (by simp) ?_
      refine AllReadyH.cons (i := 9) rfl (fun K hK => ?_) AllReadyH.nil
      refine stepB 25 _ _ (go_) 0 [.int .i64 0, .int .i64 0, .int .i64 0, .int .i64 0] [.int .i64 p0, .int .i64 p1, .int .i64 p2, .int .i64 p3] ie hie OC (by rw [hsz]; rfl) (by simp) rfl rfl rfl rfl rfl ?_
      try simp only [Act.put, List.setIfInBounds_toArray]
      obtain ⟨V9, hV9⟩ : ∃ Wz, (u2).setCells (go_) 0 [.int .i64 p0, .int .i64 p1, .int .i64 p2, .int .i64 p3] = Wz := ⟨_, rfl⟩
      rw [hV9] at N_ BC_ TC_ XC_ ⊢
      clear hV9 OC BC TC XC
      have OC := N_
      have BC := BC_
      have TC := TC_
      have XC := XC_
      clear N_ BC_ TC_ XC_
      refine hK.out _ _ ⟨TC, XC⟩ (fun hHeld2 => ?_)
      clear hK K hHeld
      have hHeld := hHeld2
      clear hHeld2
      try simp only [Act.put, List.setIfInBounds_toArray, List.set_cons_zero, List.set_cons_succ]
      have hkk := hHeld
      refine take_one 10 6 (v := ?_) rfl rfl (by kernel_rfl) (by kernel_rfl) (by kernel_rfl) (fun _ _ _ h => by obtain ⟨_, h, _⟩ := h; cases h) (Or.inl ⟨by rfl, ?_⟩) hHeld ?_
      rotate_left
      · intro w' hSw; (try dsimp only at hSw); go_simp; try with_reducible rfl
      try simp only [Act.put]
      refine wpAnyH_done (by kernel_rfl) ?_ _
      exact ⟨_, rfl, rfl, OC, TC, XC, BC⟩
  rintro ex a' w2 ⟨pa, rfl, rfl, VC, TC, XC, BC⟩
  go_wp2_with fail
  refine Code.wp_mono (Q := (fun ex a' w' => ∃ pb, ex = .normal ∧ a' = { tmps := #[tv a b c d, tv x y z q, .pointer (some ⟨w.heap.size, 0, none⟩), .pointer (some ⟨(w.heap.size + 1), 0, none⟩), .bool false, .pointer (some ⟨pa, 0, none⟩), .bool kk, .pointer (some ⟨pb, 0, none⟩), .bool kk, .tuple #[tv p0 p1 p2 p3, .bool kk], .agg #[.int .i64 a, .int .i64 b, .int .i64 c, .int .i64 d], tv a b c d, .agg #[.int .i64 x, .int .i64 y, .int .i64 z, .int .i64 q], tv x y z q, .tuple #[tv p0 p1 p2 p3, .bool kk], tv p0 p1 p2 p3, .bool kk, .tuple #[tv p0 p1 p2 p3, .bool kk], .agg #[.int .i64 a, .int .i64 b, .int .i64 c, .int .i64 d], tv a b c d, .agg #[.int .i64 x, .int .i64 y, .int .i64 z, .int .i64 q], tv x y z q, .tuple #[tv p0 p1 p2 p3, .bool kk], tv p0 p1 p2 p3, .bool kk, undef, undef, undef, undef, undef, undef, undef, undef, undef], defers := [] } ∧ Blk pb [.int .i64 p0, .int .i64 p1, .int .i64 p2, .int .i64 p3] w' ∧ Blk w.heap.size [.int .i64 a, .int .i64 b, .int .i64 c, .int .i64 d] w' ∧ Blk (w.heap.size + 1) [.int .i64 x, .int .i64 y, .int .i64 z, .int .i64 q] w' ∧ Blk pa [.int .i64 p0, .int .i64 p1, .int .i64 p2, .int .i64 p3] w' ∧ Below w.heap.size w w')) ?imp2 ?reg2
  case reg2 =>
    replace TC := TC.drew
    replace XC := XC.drew
    replace VC := VC.drew
    replace BC := BC.drew
    refine wp_region_held_drew (S := (fun Vw => Blk w.heap.size [.int .i64 a, .int .i64 b, .int .i64 c, .int .i64 d] Vw ∧ Blk (w.heap.size + 1) [.int .i64 x, .int .i64 y, .int .i64 z, .int .i64 q] Vw)) (by kernel_rfl) ⟨TC, XC⟩ (fun hHeld => ?_)
    generalize World.drew w2 = wd at *
    refine take_one 0 18 (v := ?_) rfl rfl (by kernel_rfl) (by kernel_rfl) (by kernel_rfl) (fun _ _ _ h => by obtain ⟨_, h, _⟩ := h; cases h) (Or.inl ⟨by rfl, ?_⟩) hHeld ?_
    rotate_left
    · intro w' hSw; (try dsimp only at hSw); have d0 := hSw.1.at 0 rfl; have d1 := hSw.1.at 1 rfl; have d2 := hSw.1.at 2 rfl; have d3 := hSw.1.at 3 rfl; have e0 := hSw.2.at 0 rfl; have e1 := hSw.2.at 1 rfl; have e2 := hSw.2.at 2 rfl; have e3 := hSw.2.at 3 rfl; go_simp; try with_reducible rfl
    try simp only [Act.put, List.setIfInBounds_toArray, List.set_cons_zero, List.set_cons_succ]
    refine take_one 2 20 (v := ?_) rfl rfl (by kernel_rfl) (by kernel_rfl) (by kernel_rfl) (fun _ _ _ h => by obtain ⟨_, h, _⟩ := h; cases h) (Or.inl ⟨by rfl, ?_⟩) hHeld ?_
    rotate_left
    · intro w' hSw; (try dsimp only at hSw); have d0 := hSw.1.at 0 rfl; have d1 := hSw.1.at 1 rfl; have d2 := hSw.1.at 2 rfl; have d3 := hSw.1.at 3 rfl; have e0 := hSw.2.at 0 rfl; have e1 := hSw.2.at 1 rfl; have e2 := hSw.2.at 2 rfl; have e3 := hSw.2.at 3 rfl; go_simp; try with_reducible rfl
    try simp only [Act.put, List.setIfInBounds_toArray, List.set_cons_zero, List.set_cons_succ]
    refine wpAnyH_ready (rs := [1, 8]) (by kernel_rfl) (by simp) ?_
    refine AllReadyH.cons (i := 1) rfl (fun K hK => ?_) (AllReadyH.cons (i := 8) rfl (fun K hK => ?_) AllReadyH.nil)
    · skip
      go_simp
      refine (toTimes_is a b c d _).mono ?_
      rintro en u0 ⟨rfl, hb⟩
      replace TC := TC.later hb TC.lt
      replace XC := XC.later hb XC.lt
      replace VC := VC.later hb VC.lt
      replace BC := BC.trans (hb.mono BC.size)
      clear hb
      go_wp2_with fail
      refine hK.out _ _ ⟨TC, XC⟩ (fun hHeld2 => ?_)
      clear hK K hHeld
      have hHeld := hHeld2
      clear hHeld2
      try simp only [Act.put, List.setIfInBounds_toArray, List.set_cons_zero, List.set_cons_succ]
      refine wpAnyH_ready (rs := [3, 8]) (by kernel_rfl) (by simp) ?_
      refine AllReadyH.cons (i := 3) rfl (fun K hK => ?_) (AllReadyH.cons (i := 8) rfl (fun K hK => ?_) AllReadyH.nil)
      · skip
        go_simp
        refine (toTimes_is x y z q _).mono ?_
        rintro en u1 ⟨rfl, hb⟩
        replace TC := TC.later hb TC.lt
        replace XC := XC.later hb XC.lt
        replace VC := VC.later hb VC.lt
        replace BC := BC.trans (hb.mono BC.size)
        clear hb
        go_wp2_with fail
        refine hK.out _ _ ⟨TC, XC⟩ (fun hHeld2 => ?_)
        clear hK K hHeld
        have hHeld := hHeld2
        clear hHeld2
        try simp only [Act.put, List.setIfInBounds_toArray, List.set_cons_zero, List.set_cons_succ]
        refine wpAnyH_ready (rs := [4, 8]) (by kernel_rfl) (by simp) ?_
        refine AllReadyH.cons (i := 4) rfl (fun K hK => ?_) (AllReadyH.cons (i := 8) rfl (fun K hK => ?_) AllReadyH.nil)
        · skip
          go_simp
          refine (R2 _).mono ?_
          rintro en u2 ⟨rfl, hb⟩
          replace TC := TC.later hb TC.lt
          replace XC := XC.later hb XC.lt
          replace VC := VC.later hb VC.lt
          replace BC := BC.trans (hb.mono BC.size)
          clear hb
          go_wp2_with fail
          refine hK.out _ _ ⟨TC, XC⟩ (fun hHeld2 => ?_)
          clear hK K hHeld
          have hHeld := hHeld2
          clear hHeld2
          try simp only [Act.put, List.setIfInBounds_toArray, List.set_cons_zero, List.set_cons_succ]
          refine take_one 5 17 (v := ?_) rfl rfl (by kernel_rfl) (by kernel_rfl) (by kernel_rfl) (fun _ _ _ h => by obtain ⟨_, h, _⟩ := h; cases h) (Or.inl ⟨by rfl, ?_⟩) hHeld ?_
          rotate_left
          · intro w' hSw; (try dsimp only at hSw); go_simp; try with_reducible rfl
          try simp only [Act.put, List.setIfInBounds_toArray, List.set_cons_zero, List.set_cons_succ]
          refine take_one 6 23 (v := ?_) rfl rfl (by kernel_rfl) (by kernel_rfl) (by kernel_rfl) (fun _ _ _ h => by obtain ⟨_, h, _⟩ := h; cases h) (Or.inl ⟨by rfl, ?_⟩) hHeld ?_
          rotate_left
          · intro w' hSw; (try dsimp only at hSw); go_simp; try with_reducible rfl
          try simp only [Act.put, List.setIfInBounds_toArray, List.set_cons_zero, List.set_cons_succ]
          refine take_one 7 24 (v := ?_) rfl rfl (by kernel_rfl) (by kernel_rfl) (by kernel_rfl) (fun _ _ _ h => by obtain ⟨_, h, _⟩ := h; cases h) (Or.inl ⟨by rfl, ?_⟩) hHeld ?_
          rotate_left
          · intro w' hSw; (try dsimp only at hSw); go_simp; try with_reducible rfl
          try simp only [Act.put, List.setIfInBounds_toArray, List.set_cons_zero, List.set_cons_succ]
          refine wpAnyH_ready (rs := [8]) (by kernel_rfl) (by simp) ?_
          refine AllReadyH.cons (i := 8) rfl (fun K hK => ?_) AllReadyH.nil
          go_simp
          have OC : Blk u2.heap.size [.int .i64 0, .int .i64 0, .int .i64 0, .int .i64 0] (u2.alloc (.cells #[.int .i64 0, .int .i64 0, .int .i64 0, .int .i64 0] 25)) := Blk.new _ _ _
          have XA_ : Below u2.heap.size u2 (u2.alloc (.cells #[.int .i64 0, .int .i64 0, .int .i64 0, .int .i64 0] 25)) := (Below.refl _ _).alloc (Nat.le_refl _) _
          have nTC : Hid (_ < u2.heap.size) := TC.lt
          replace TC := TC.later XA_ TC.lt
          have nXC : Hid (_ < u2.heap.size) := XC.lt
          replace XC := XC.later XA_ XC.lt
          have nVC : Hid (_ < u2.heap.size) := VC.lt
          replace VC := VC.later XA_ VC.lt
          have nBC : Hid (w.heap.size ≤ u2.heap.size) := BC.size
          replace BC := BC.trans (XA_.mono BC.size)
          clear XA_
          obtain ⟨go_, hgo⟩ : ∃ go_, u2.heap.size = go_ := ⟨_, rfl⟩
          obtain ⟨V0, hV0⟩ : ∃ Wz, (u2.alloc (.cells #[.int .i64 0, .int .i64 0, .int .i64 0, .int .i64 0] 25)) = Wz := ⟨_, rfl⟩
          rw [hV0] at TC XC VC OC BC ⊢
          rw [hgo] at OC nTC nXC nVC nBC ⊢
          clear hV0 hgo
          have mTC := nTC.out
          have mXC := nXC.out
          have mVC := nVC.out
          have mBC := nBC.out
          refine hK.out _ _ ⟨TC, XC⟩ (fun hHeld2 => ?_)
          clear hK K hHeld
          have hHeld := hHeld2
          clear hHeld2
          try simp only [Act.put, List.setIfInBounds_toArray, List.set_cons_zero, List.set_cons_succ]
          have N_ : Blk go_ [.int .i64 p0, .int .i64 p1, .int .i64 p2, .int .i64 p3] ((V0).setCells go_ 0 [.int .i64 p0, .int .i64 p1, .int .i64 p2, .int .i64 p3]) := OC.part 0 [.int .i64 p0, .int .i64 p1, .int .i64 p2, .int .i64 p3] _ (by simp) rfl
          have TC_ := Blk.farS (q := go_) (by omega) [.int .i64 p0, .int .i64 p1, .int .i64 p2, .int .i64 p3] 0 _ TC
          have XC_ := Blk.farS (q := go_) (by omega) [.int .i64 p0, .int .i64 p1, .int .i64 p2, .int .i64 p3] 0 _ XC
          have VC_ := Blk.farS (q := go_) (by omega) [.int .i64 p0, .int .i64 p1, .int .i64 p2, .int .i64 p3] 0 _ VC
          have BC_ := below_sets (m := w.heap.size) (g := go_) (by omega) [.int .i64 p0, .int .i64 p1, .int .i64 p2, .int .i64 p3] 0 _ BC
          refine wpAnyH_ready (rs := [9]) (by kernel_rfl) (by simp) ?_
          refine AllReadyH.cons (i := 9) rfl (fun K hK => ?_) AllReadyH.nil
          refine stepB 25 _ _ (go_) 0 [.int .i64 0, .int .i64 0, .int .i64 0, .int .i64 0] [.int .i64 p0, .int .i64 p1, .int .i64 p2, .int .i64 p3] ie hie OC (by rw [hsz]; rfl) (by simp) rfl rfl rfl rfl rfl ?_
          try simp only [Act.put, List.setIfInBounds_toArray]
          obtain ⟨V9, hV9⟩ : ∃ Wz, (V0).setCells (go_) 0 [.int .i64 p0, .int .i64 p1, .int .i64 p2, .int .i64 p3] = Wz := ⟨_, rfl⟩
          rw [hV9] at N_ BC_ TC_ XC_ VC_ ⊢
          clear hV9 OC BC TC XC VC
          have OC := N_
          have BC := BC_
          have TC := TC_
          have XC := XC_
          have VC := VC_
          clear N_ BC_ TC_ XC_ VC_
          refine hK.out _ _ ⟨TC, XC⟩ (fun hHeld2 => ?_)
          clear hK K hHeld
          have hHeld := hHeld2
          clear hHeld2
          try simp only [Act.put, List.setIfInBounds_toArray, List.set_cons_zero, List.set_cons_succ]
          have hkk := hHeld
          refine take_one 10 8 (v := ?_) rfl rfl (by kernel_rfl) (by kernel_rfl) (by kernel_rfl) (fun _ _ _ h => by obtain ⟨_, h, _⟩ := h; cases h) (Or.inl ⟨by rfl, ?_⟩) hHeld ?_
          rotate_left
          · intro w' hSw; (try dsimp only at hSw); go_simp; try with_reducible rfl
          try simp only [Act.put]
          refine wpAnyH_done (by kernel_rfl) ?_ _
          exact ⟨_, rfl, rfl, OC, TC, XC, VC, BC⟩
        · skip
          go_simp
          have OC : Blk u1.heap.size [.int .i64 0, .int .i64 0, .int .i64 0, .int .i64 0] (u1.alloc (.cells #[.int .i64 0, .int .i64 0, .int .i64 0, .int .i64 0] 25)) := Blk.new _ _ _
          have XA_ : Below u1.heap.size u1 (u1.alloc (.cells #[.int .i64 0, .int .i64 0, .int .i64 0, .int .i64 0] 25)) := (Below.refl _ _).alloc (Nat.le_refl _) _
          have nTC : Hid (_ < u1.heap.size) := TC.lt
          replace TC := TC.later XA_ TC.lt
          have nXC : Hid (_ < u1.heap.size) := XC.lt
          replace XC := XC.later XA_ XC.lt
          have nVC : Hid (_ < u1.heap.size) := VC.lt
          replace VC := VC.later XA_ VC.lt
          have nBC : Hid (w.heap.size ≤ u1.heap.size) := BC.size
          replace BC := BC.trans (XA_.mono BC.size)
          clear XA_
          obtain ⟨go_, hgo⟩ : ∃ go_, u1.heap.size = go_ := ⟨_, rfl⟩
          obtain ⟨V0, hV0⟩ : ∃ Wz, (u1.alloc (.cells #[.int .i64 0, .int .i64 0, .int .i64 0, .int .i64 0] 25)) = Wz := ⟨_, rfl⟩
          rw [hV0] at TC XC VC OC BC ⊢
          rw [hgo] at OC nTC nXC nVC nBC ⊢
          clear hV0 hgo
          have mTC := nTC.out
          have mXC := nXC.out
          have mVC := nVC.out
          have mBC := nBC.out
          refine hK.out _ _ ⟨TC, XC⟩ (fun hHeld2 => ?_)
          clear hK K hHeld
          have hHeld := hHeld2
          clear hHeld2
          try simp only [Act.put, List.setIfInBounds_toArray, List.set_cons_zero, List.set_cons_succ]
          refine wpAnyH_ready (rs := [4]) (by kernel_rfl) (by simp) ?_
          refine AllReadyH.cons (i := 4) rfl (fun K hK => ?_) AllReadyH.nil
          go_simp
          refine (R2 _).mono ?_
          rintro en u2 ⟨rfl, hb⟩
          replace TC := TC.later hb TC.lt
          replace XC := XC.later hb XC.lt
          replace VC := VC.later hb VC.lt
          replace OC := OC.later hb OC.lt
          replace BC := BC.trans (hb.mono BC.size)
          clear hb
          go_wp2_with fail
          refine hK.out _ _ ⟨TC, XC⟩ (fun hHeld2 => ?_)
          clear hK K hHeld
          have hHeld := hHeld2
          clear hHeld2
          try simp only [Act.put, List.setIfInBounds_toArray, List.set_cons_zero, List.set_cons_succ]
          refine take_one 5 17 (v := ?_) rfl rfl (by kernel_rfl) (by kernel_rfl) (by kernel_rfl) (fun _ _ _ h => by obtain ⟨_, h, _⟩ := h; cases h) (Or.inl ⟨by rfl, ?_⟩) hHeld ?_
          rotate_left
          · intro w' hSw; (try dsimp only at hSw); go_simp; try with_reducible rfl
          try simp only [Act.put, List.setIfInBounds_toArray, List.set_cons_zero, List.set_cons_succ]
          refine take_one 6 23 (v := ?_) rfl rfl (by kernel_rfl) (by kernel_rfl) (by kernel_rfl) (fun _ _ _ h => by obtain ⟨_, h, _⟩ := h; cases h) (Or.inl ⟨by rfl, ?_⟩) hHeld ?_
          rotate_left
          · intro w' hSw; (try dsimp only at hSw); go_simp; try with_reducible rfl
          try simp only [Act.put, List.setIfInBounds_toArray, List.set_cons_zero, List.set_cons_succ]
          refine take_one 7 24 (v := ?_) rfl rfl (by kernel_rfl) (by kernel_rfl) (by kernel_rfl) (fun _ _ _ h => by obtain ⟨_, h, _⟩ := h; cases h) (Or.inl ⟨by rfl, ?_⟩) hHeld ?_
          rotate_left
          · intro w' hSw; (try dsimp only at hSw); go_simp; try with_reducible rfl
          try simp only [Act.put, List.setIfInBounds_toArray, List.set_cons_zero, List.set_cons_succ]
          have N_ : Blk go_ [.int .i64 p0, .int .i64 p1, .int .i64 p2, .int .i64 p3] ((u2).setCells go_ 0 [.int .i64 p0, .int .i64 p1, .int .i64 p2, .int .i64 p3]) := OC.part 0 [.int .i64 p0, .int .i64 p1, .int .i64 p2, .int .i64 p3] _ (by simp) rfl
          have TC_ := Blk.farS (q := go_) (by omega) [.int .i64 p0, .int .i64 p1, .int .i64 p2, .int .i64 p3] 0 _ TC
          have XC_ := Blk.farS (q := go_) (by omega) [.int .i64 p0, .int .i64 p1, .int .i64 p2, .int .i64 p3] 0 _ XC
          have VC_ := Blk.farS (q := go_) (by omega) [.int .i64 p0, .int .i64 p1, .int .i64 p2, .int .i64 p3] 0 _ VC
          have BC_ := below_sets (m := w.heap.size) (g := go_) (by omega) [.int .i64 p0, .int .i64 p1, .int .i64 p2, .int .i64 p3] 0 _ BC
          refine wpAnyH_ready (rs := [9]) (by kernel_rfl) (by simp) ?_
          refine AllReadyH.cons (i := 9) rfl (fun K hK => ?_) AllReadyH.nil
          refine stepB 25 _ _ (go_) 0 [.int .i64 0, .int .i64 0, .int .i64 0, .int .i64 0] [.int .i64 p0, .int .i64 p1, .int .i64 p2, .int .i64 p3] ie hie OC (by rw [hsz]; rfl) (by simp) rfl rfl rfl rfl rfl ?_
          try simp only [Act.put, List.setIfInBounds_toArray]
          obtain ⟨V9, hV9⟩ : ∃ Wz, (u2).setCells (go_) 0 [.int .i64 p0, .int .i64 p1, .int .i64 p2, .int .i64 p3] = Wz := ⟨_, rfl⟩
          rw [hV9] at N_ BC_ TC_ XC_ VC_ ⊢
          clear hV9 OC BC TC XC VC
          have OC := N_
          have BC := BC_
          have TC := TC_
          have XC := XC_
          have VC := VC_
          clear N_ BC_ TC_ XC_ VC_
          refine hK.out _ _ ⟨TC, XC⟩ (fun hHeld2 => ?_)
          clear hK K hHeld
          have hHeld := hHeld2
          clear hHeld2
          try simp only [Act.put, List.setIfInBounds_toArray, List.set_cons_zero, List.set_cons_succ]
          have hkk := hHeld
          refine take_one 10 8 (v := ?_) rfl rfl (by kernel_rfl) (by kernel_rfl) (by kernel_rfl) (fun _ _ _ h => by obtain ⟨_, h, _⟩ := h; cases h) (Or.inl ⟨by rfl, ?_⟩) hHeld ?_
          rotate_left
          · intro w' hSw; (try dsimp only at hSw); go_simp; try with_reducible rfl
          try simp only [Act.put]
          refine wpAnyH_done (by kernel_rfl) ?_ _
          exact ⟨_, rfl, rfl, OC, TC, XC, VC, BC⟩
      · skip
        go_simp
        have OC : Blk u0.heap.size [.int .i64 0, .int .i64 0, .int .i64 0, .int .i64 0] (u0.alloc (.cells #[.int .i64 0, .int .i64 0, .int .i64 0, .int .i64 0] 25)) := Blk.new _ _ _
        have XA_ : Below u0.heap.size u0 (u0.alloc (.cells #[.int .i64 0, .int .i64 0, .int .i64 0, .int .i64 0] 25)) := (Below.refl _ _).alloc (Nat.le_refl _) _
        have nTC : Hid (_ < u0.heap.size) := TC.lt
        replace TC := TC.later XA_ TC.lt
        have nXC : Hid (_ < u0.heap.size) := XC.lt
        replace XC := XC.later XA_ XC.lt
        have nVC : Hid (_ < u0.heap.size) := VC.lt
        replace VC := VC.later XA_ VC.lt
        have nBC : Hid (w.heap.size ≤ u0.heap.size) := BC.size
        replace BC := BC.trans (XA_.mono BC.size)
        clear XA_
        obtain ⟨go_, hgo⟩ : ∃ go_, u0.heap.size = go_ := ⟨_, rfl⟩
        obtain ⟨V0, hV0⟩ : ∃ Wz, (u0.alloc (.cells #[.int .i64 0, .int .i64 0, .int .i64 0, .int .i64 0] 25)) = Wz := ⟨_, rfl⟩
        rw [hV0] at TC XC VC OC BC ⊢
        rw [hgo] at OC nTC nXC nVC nBC ⊢
        clear hV0 hgo
        have mTC := nTC.out
        have mXC := nXC.out
        have mVC := nVC.out
        have mBC := nBC.out
        refine hK.out _ _ ⟨TC, XC⟩ (fun hHeld2 => ?_)
        clear hK K hHeld
        have hHeld := hHeld2
        clear hHeld2
        try simp only [Act.put, List.setIfInBounds_toArray, List.set_cons_zero, List.set_cons_succ]
        refine wpAnyH_ready (rs := [3]) (by kernel_rfl) (by simp) ?_
        refine AllReadyH.cons (i := 3) rfl (fun K hK => ?_) AllReadyH.nil
        go_simp
        refine (toTimes_is x y z q _).mono ?_
        rintro en u1 ⟨rfl, hb⟩
        replace TC := TC.later hb TC.lt
        replace XC := XC.later hb XC.lt
        replace VC := VC.later hb VC.lt
        replace OC := OC.later hb OC.lt
        replace BC := BC.trans (hb.mono BC.size)
        clear hb
        go_wp2_with fail
        refine hK.out _ _ ⟨TC, XC⟩ (fun hHeld2 => ?_)
        clear hK K hHeld
        have hHeld := hHeld2
        clear hHeld2
        try simp only [Act.put, List.setIfInBounds_toArray, List.set_cons_zero, List.set_cons_succ]
        refine wpAnyH_ready (rs := [4]) (by kernel_rfl) (by simp) ?_
        refine AllReadyH.cons (i := 4) rfl (fun K hK => ?_) AllReadyH.nil
        go_simp
        refine (R2 _).mono ?_
        rintro en u2 ⟨rfl, hb⟩
        replace TC := TC.later hb TC.lt
        replace XC := XC.later hb XC.lt
        replace VC := VC.later hb VC.lt
        replace OC := OC.later hb OC.lt
        replace BC := BC.trans (hb.mono BC.size)
        clear hb
        go_wp2_with fail
        refine hK.out _ _ ⟨TC, XC⟩ (fun hHeld2 => ?_)
        clear hK K hHeld
        have hHeld := hHeld2
        clear hHeld2
        try simp only [Act.put, List.setIfInBounds_toArray, List.set_cons_zero, List.set_cons_succ]
        refine take_one 5 17 (v := ?_) rfl rfl (by kernel_rfl) (by kernel_rfl) (by kernel_rfl) (fun _ _ _ h => by obtain ⟨_, h, _⟩ := h; cases h) (Or.inl ⟨by rfl, ?_⟩) hHeld ?_
        rotate_left
        · intro w' hSw; (try dsimp only at hSw); go_simp; try with_reducible rfl
        try simp only [Act.put, List.setIfInBounds_toArray, List.set_cons_zero, List.set_cons_succ]
        refine take_one 6 23 (v := ?_) rfl rfl (by kernel_rfl) (by kernel_rfl) (by kernel_rfl) (fun _ _ _ h => by obtain ⟨_, h, _⟩ := h; cases h) (Or.inl ⟨by rfl, ?_⟩) hHeld ?_
        rotate_left
        · intro w' hSw; (try dsimp only at hSw); go_simp; try with_reducible rfl
        try simp only [Act.put, List.setIfInBounds_toArray, List.set_cons_zero, List.set_cons_succ]
        refine take_one 7 24 (v := ?_) rfl rfl (by kernel_rfl) (by kernel_rfl) (by kernel_rfl) (fun _ _ _ h => by obtain ⟨_, h, _⟩ := h; cases h) (Or.inl ⟨by rfl, ?_⟩) hHeld ?_
        rotate_left
        · intro w' hSw; (try dsimp only at hSw); go_simp; try with_reducible rfl
        try simp only [Act.put, List.setIfInBounds_toArray, List.set_cons_zero, List.set_cons_succ]
        have N_ : Blk go_ [.int .i64 p0, .int .i64 p1, .int .i64 p2, .int .i64 p3] ((u2).setCells go_ 0 [.int .i64 p0, .int .i64 p1, .int .i64 p2, .int .i64 p3]) := OC.part 0 [.int .i64 p0, .int .i64 p1, .int .i64 p2, .int .i64 p3] _ (by simp) rfl
        have TC_ := Blk.farS (q := go_) (by omega) [.int .i64 p0, .int .i64 p1, .int .i64 p2, .int .i64 p3] 0 _ TC
        have XC_ := Blk.farS (q := go_) (by omega) [.int .i64 p0, .int .i64 p1, .int .i64 p2, .int .i64 p3] 0 _ XC
        have VC_ := Blk.farS (q := go_) (by omega) [.int .i64 p0, .int .i64 p1, .int .i64 p2, .int .i64 p3] 0 _ VC
        have BC_ := below_sets (m := w.heap.size) (g := go_) (by omega) [.int .i64 p0, .int .i64 p1, .int .i64 p2, .int .i64 p3] 0 _ BC
        refine wpAnyH_ready (rs := [9]) (by kernel_rfl) (by simp) ?_
        refine AllReadyH.cons (i := 9) rfl (fun K hK => ?_) AllReadyH.nil
        refine stepB 25 _ _ (go_) 0 [.int .i64 0, .int .i64 0, .int .i64 0, .int .i64 0] [.int .i64 p0, .int .i64 p1, .int .i64 p2, .int .i64 p3] ie hie OC (by rw [hsz]; rfl) (by simp) rfl rfl rfl rfl rfl ?_
        try simp only [Act.put, List.setIfInBounds_toArray]
        obtain ⟨V9, hV9⟩ : ∃ Wz, (u2).setCells (go_) 0 [.int .i64 p0, .int .i64 p1, .int .i64 p2, .int .i64 p3] = Wz := ⟨_, rfl⟩
        rw [hV9] at N_ BC_ TC_ XC_ VC_ ⊢
        clear hV9 OC BC TC XC VC
        have OC := N_
        have BC := BC_
        have TC := TC_
        have XC := XC_
        have VC := VC_
        clear N_ BC_ TC_ XC_ VC_
        refine hK.out _ _ ⟨TC, XC⟩ (fun hHeld2 => ?_)
        clear hK K hHeld
        have hHeld := hHeld2
        clear hHeld2
        try simp only [Act.put, List.setIfInBounds_toArray, List.set_cons_zero, List.set_cons_succ]
        have hkk := hHeld
        refine take_one 10 8 (v := ?_) rfl rfl (by kernel_rfl) (by kernel_rfl) (by kernel_rfl) (fun _ _ _ h => by obtain ⟨_, h, _⟩ := h; cases h) (Or.inl ⟨by rfl, ?_⟩) hHeld ?_
        rotate_left
        · intro w' hSw; (try dsimp only at hSw); go_simp; try with_reducible rfl
        try simp only [Act.put]
        refine wpAnyH_done (by kernel_rfl) ?_ _
        exact ⟨_, rfl, rfl, OC, TC, XC, VC, BC⟩
    · skip
      go_simp
      have OC : Blk wd.heap.size [.int .i64 0, .int .i64 0, .int .i64 0, .int .i64 0] (wd.alloc (.cells #[.int .i64 0, .int .i64 0, .int .i64 0, .int .i64 0] 25)) := Blk.new _ _ _
      have XA_ : Below wd.heap.size wd (wd.alloc (.cells #[.int .i64 0, .int .i64 0, .int .i64 0, .int .i64 0] 25)) := (Below.refl _ _).alloc (Nat.le_refl _) _
      have nTC : Hid (_ < wd.heap.size) := TC.lt
      replace TC := TC.later XA_ TC.lt
      have nXC : Hid (_ < wd.heap.size) := XC.lt
      replace XC := XC.later XA_ XC.lt
      have nVC : Hid (_ < wd.heap.size) := VC.lt
      replace VC := VC.later XA_ VC.lt
      have nBC : Hid (w.heap.size ≤ wd.heap.size) := BC.size
      replace BC := BC.trans (XA_.mono BC.size)
      clear XA_
      obtain ⟨go_, hgo⟩ : ∃ go_, wd.heap.size = go_ := ⟨_, rfl⟩
      obtain ⟨V0, hV0⟩ : ∃ Wz, (wd.alloc (.cells #[.int .i64 0, .int .i64 0, .int .i64 0, .int .i64 0] 25)) = Wz := ⟨_, rfl⟩
      rw [hV0] at TC XC VC OC BC ⊢
      rw [hgo] at OC nTC nXC nVC nBC ⊢
      clear hV0 hgo
      have mTC := nTC.out
      have mXC := nXC.out
      have mVC := nVC.out
      have mBC := nBC.out
      refine hK.out _ _ ⟨TC, XC⟩ (fun hHeld2 => ?_)
      clear hK K hHeld
      have hHeld := hHeld2
      clear hHeld2
      try simp only [Act.put, List.setIfInBounds_toArray, List.set_cons_zero, List.set_cons_succ]
      refine wpAnyH_ready (rs := [1]) (by kernel_rfl) (by simp) ?_
      refine AllReadyH.cons (i := 1) rfl (fun K hK => ?_) AllReadyH.nil
      go_simp
      refine (toTimes_is a b c d _).mono ?_
      rintro en u0 ⟨rfl, hb⟩
      replace TC := TC.later hb TC.lt
      replace XC := XC.later hb XC.lt
      replace VC := VC.later hb VC.lt
      replace OC := OC.later hb OC.lt
      replace BC := BC.trans (hb.mono BC.size)
      clear hb
      go_wp2_with fail
      refine hK.out _ _ ⟨TC, XC⟩ (fun hHeld2 => ?_)
      clear hK K hHeld
      have hHeld := hHeld2
      clear hHeld2
      try simp only [Act.put, List.setIfInBounds_toArray, List.set_cons_zero, List.set_cons_succ]
      refine wpAnyH_ready (rs := [3]) (by kernel_rfl) (by simp) ?_
      refine AllReadyH.cons (i := 3) rfl (fun K hK => ?_) AllReadyH.nil
      go_simp
      refine (toTimes_is x y z q _).mono ?_
      rintro en u1 ⟨rfl, hb⟩
      replace TC := TC.later hb TC.lt
      replace XC := XC.later hb XC.lt
      replace VC := VC.later hb VC.lt
      replace OC := OC.later hb OC.lt
      replace BC := BC.trans (hb.mono BC.size)
      clear hb
      go_wp2_with fail
      refine hK.out _ _ ⟨TC, XC⟩ (fun hHeld2 => ?_)
      clear hK K hHeld
      have hHeld := hHeld2
      clear hHeld2
      try simp only [Act.put, List.setIfInBounds_toArray, List.set_cons_zero, List.set_cons_succ]
      refine wpAnyH_ready (rs := [4]) (by kernel_rfl) (by simp) ?_
      refine AllReadyH.cons (i := 4) rfl (fun K hK => ?_) AllReadyH.nil
      go_simp
      refine (R2 _).mono ?_
      rintro en u2 ⟨rfl, hb⟩
      replace TC := TC.later hb TC.lt
      replace XC := XC.later hb XC.lt
      replace VC := VC.later hb VC.lt
      replace OC := OC.later hb OC.lt
      replace BC := BC.trans (hb.mono BC.size)
      clear hb
      go_wp2_with fail
      refine hK.out _ _ ⟨TC, XC⟩ (fun hHeld2 => ?_)
      clear hK K hHeld
      have hHeld := hHeld2
      clear hHeld2
      try simp only [Act.put, List.setIfInBounds_toArray, List.set_cons_zero, List.set_cons_succ]
      refine take_one 5 17 (v := ?_) rfl rfl (by kernel_rfl) (by kernel_rfl) (by kernel_rfl) (fun _ _ _ h => by obtain ⟨_, h, _⟩ := h; cases h) (Or.inl ⟨by rfl, ?_⟩) hHeld ?_
      rotate_left
      · intro w' hSw; (try dsimp only at hSw); go_simp; try with_reducible rfl
      try simp only [Act.put, List.setIfInBounds_toArray, List.set_cons_zero, List.set_cons_succ]
      refine take_one 6 23 (v := ?_) rfl rfl (by kernel_rfl) (by kernel_rfl) (by kernel_rfl) (fun _ _ _ h => by obtain ⟨_, h, _⟩ := h; cases h) (Or.inl ⟨by rfl, ?_⟩) hHeld ?_
      rotate_left
      · intro w' hSw; (try dsimp only at hSw); go_simp; try with_reducible rfl
      try simp only [Act.put, List.setIfInBounds_toArray, List.set_cons_zero, List.set_cons_succ]
      refine take_one 7 24 (v := ?_) rfl rfl (by kernel_rfl) (by kernel_rfl) (by kernel_rfl) (fun _ _ _ h => by obtain ⟨_, h, _⟩ := h; cases h) (Or.inl ⟨by rfl, ?_⟩) hHeld ?_
      rotate_left
      · intro w' hSw; (try dsimp only at hSw); go_simp; try with_reducible rfl
      try simp only [Act.put, List.setIfInBounds_toArray, List.set_cons_zero, List.set_cons_succ]
      have N_ : Blk go_ [.int .i64 p0, .int .i64 p1, .int .i64 p2, .int .i64 p3] ((u2).setCells go_ 0 [.int .i64 p0, .int .i64 p1, .int .i64 p2, .int .i64 p3]) := OC.part 0 [.int .i64 p0, .int .i64 p1, .int .i64 p2, .int .i64 p3] _ (by simp) rfl
      have TC_ := Blk.farS (q := go_) (by omega) [.int .i64 p0, .int .i64 p1, .int .i64 p2, .int .i64 p3] 0 _ TC
      have XC_ := Blk.farS (q := go_) (by omega) [.int .i64 p0, .int .i64 p1, .int .i64 p2, .int .i64 p3] 0 _ XC
      have VC_ := Blk.farS (q := go_) (by omega) [.int .i64 p0, .int .i64 p1, .int .i64 p2, .int .i64 p3] 0 _ VC
      have BC_ := below_sets (m := w.heap.size) (g := go_) (by omega) [.int .i64 p0, .int .i64 p1, .int .i64 p2, .int .i64 p3] 0 _ BC
      refine wpAnyH_ready (rs := [9]) (by kernel_rfl) (by simp) ?_
      refine AllReadyH.cons (i := 9) rfl (fun K hK => ?_) AllReadyH.nil
      refine stepB 25 _ _ (go_) 0 [.int .i64 0, .int .i64 0, .int .i64 0, .int .i64 0] [.int .i64 p0, .int .i64 p1, .int .i64 p2, .int .i64 p3] ie hie OC (by rw [hsz]; rfl) (by simp) rfl rfl rfl rfl rfl ?_
      try simp only [Act.put, List.setIfInBounds_toArray]
      obtain ⟨V9, hV9⟩ : ∃ Wz, (u2).setCells (go_) 0 [.int .i64 p0, .int .i64 p1, .int .i64 p2, .int .i64 p3] = Wz := ⟨_, rfl⟩
      rw [hV9] at N_ BC_ TC_ XC_ VC_ ⊢
      clear hV9 OC BC TC XC VC
      have OC := N_
      have BC := BC_
      have TC := TC_
      have XC := XC_
      have VC := VC_
      clear N_ BC_ TC_ XC_ VC_
      refine hK.out _ _ ⟨TC, XC⟩ (fun hHeld2 => ?_)
      clear hK K hHeld
      have hHeld := hHeld2
      clear hHeld2
      try simp only [Act.put, List.setIfInBounds_toArray, List.set_cons_zero, List.set_cons_succ]
      have hkk := hHeld
      refine take_one 10 8 (v := ?_) rfl rfl (by kernel_rfl) (by kernel_rfl) (by kernel_rfl) (fun _ _ _ h => by obtain ⟨_, h, _⟩ := h; cases h) (Or.inl ⟨by rfl, ?_⟩) hHeld ?_
      rotate_left
      · intro w' hSw; (try dsimp only at hSw); go_simp; try with_reducible rfl
      try simp only [Act.put]
      refine wpAnyH_done (by kernel_rfl) ?_ _
      exact ⟨_, rfl, rfl, OC, TC, XC, VC, BC⟩
  rintro ex a' w3 ⟨pb, rfl, rfl, YC, TC, XC, VC, BC⟩
  have q1_ := VC.at 0 rfl
  have q2_ := VC.at 1 rfl
  have q3_ := VC.at 2 rfl
  have q4_ := VC.at 3 rfl
  have q5_ := YC.at 0 rfl
  have q6_ := YC.at 1 rfl
  have q7_ := YC.at 2 rfl
  have q8_ := YC.at 3 rfl
  go_wp2_with fail
  refine (eqTimes_is p0 p1 p2 p3 _).mono ?_
  rintro en w7 ⟨rfl, hb⟩
  replace TC := TC.later hb TC.lt
  replace XC := XC.later hb XC.lt
  replace VC := VC.later hb VC.lt
  replace YC := YC.later hb YC.lt
  replace BC := BC.trans (hb.mono BC.size)
  clear hb
  clear q1_ q2_ q3_ q4_ q5_ q6_ q7_ q8_
  clear R1 R2
  cases kk <;> (go_wp2; go_ret; exact ⟨rfl, BC⟩)

end Go.Proofs.Ytaeecaebjafnpaa
