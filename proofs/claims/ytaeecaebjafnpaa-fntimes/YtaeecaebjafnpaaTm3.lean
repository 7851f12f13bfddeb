/- Chapter 16: what lies inside. -/
import Derived.Test.YtaeecaebjafnpaaTm1
import Derived.Lib.MinMax
set_option linter.unusedVariables false
set_option maxRecDepth 100000
namespace Go.Proofs.Ytaeecaebjafnpaa
open Go Go.RowKit

/-- Does what is asked for lie within a parent? -/
def inOk (a b c d x y z q : Int) : Bool := tmOk a b c d && (tmOk x y z q && tmOk a (max b y) (min c z) (min d q))
def inV (a b c d x y z q : Int) : Value := tmIf (inOk a b c d x y z q) a (max b y) (min c z) (min d q)
theorem inV_no (a b c d x y z q : Int) (h : inOk a b c d x y z q = false) : .tuple #[tv 0 0 0 0, .bool false] = inV a b c d x y z q := by
  unfold inV
  rw [h]
  rfl
theorem inV_yes (a b c d x y z q : Int) (h : inOk a b c d x y z q = true) : .tuple #[tv a (max b y) (min c z) (min d q), .bool true] = inV a b c d x y z q := by
  unfold inV
  rw [h]
  rfl
set_option maxHeartbeats 6400000 in
theorem implInside_is (a b c d x y z q : Int) (w : World) : Calls Try.prog 17 #[tv a b c d, tv x y z q] w fun en w' => en = .returned (inV a b c d x y z q) ∧ Below w.heap.size w w' := by
  obtain ⟨ie, hie, hsz⟩ := info_times
  obtain ⟨i1, hi1, hz1⟩ := info_int
  have hmf : ∀ (fn : Fn) (first cap : Array Value) (w : World), (Instr.makeFunc fn first cap).run Try.prog w = .ok (.func fn first cap) w := fun _ _ _ _ => rfl
  have BC : Below w.heap.size w (((w.alloc (.cells #[.int .i64 a, .int .i64 b, .int .i64 c, .int .i64 d] 25)).alloc (.cells #[.int .i64 x, .int .i64 y, .int .i64 z, .int .i64 q] 25)).alloc (.cells #[.int .i64 0, .int .i64 0, .int .i64 0, .int .i64 0] 25)) := (((Below.refl _ _).alloc (by simp <;> omega) _).alloc (by simp <;> omega) _).alloc (by simp <;> omega) _
  have TC : Blk w.heap.size [.int .i64 a, .int .i64 b, .int .i64 c, .int .i64 d] (((w.alloc (.cells #[.int .i64 a, .int .i64 b, .int .i64 c, .int .i64 d] 25)).alloc (.cells #[.int .i64 x, .int .i64 y, .int .i64 z, .int .i64 q] 25)).alloc (.cells #[.int .i64 0, .int .i64 0, .int .i64 0, .int .i64 0] 25)) := by have h_ := (((Blk.new w #[.int .i64 a, .int .i64 b, .int .i64 c, .int .i64 d] 25).alloc (by simp <;> omega) (.cells #[.int .i64 x, .int .i64 y, .int .i64 z, .int .i64 q] 25)).alloc (by simp <;> omega) (.cells #[.int .i64 0, .int .i64 0, .int .i64 0, .int .i64 0] 25)); simpa using h_
  have XC : Blk (w.heap.size + 1) [.int .i64 x, .int .i64 y, .int .i64 z, .int .i64 q] (((w.alloc (.cells #[.int .i64 a, .int .i64 b, .int .i64 c, .int .i64 d] 25)).alloc (.cells #[.int .i64 x, .int .i64 y, .int .i64 z, .int .i64 q] 25)).alloc (.cells #[.int .i64 0, .int .i64 0, .int .i64 0, .int .i64 0] 25)) := by have h_ := ((Blk.new (w.alloc (.cells #[.int .i64 a, .int .i64 b, .int .i64 c, .int .i64 d] 25)) #[.int .i64 x, .int .i64 y, .int .i64 z, .int .i64 q] 25).alloc (by simp <;> omega) (.cells #[.int .i64 0, .int .i64 0, .int .i64 0, .int .i64 0] 25)); simpa using h_
  have UC : Blk (w.heap.size + 1 + 1) [.int .i64 0, .int .i64 0, .int .i64 0, .int .i64 0] (((w.alloc (.cells #[.int .i64 a, .int .i64 b, .int .i64 c, .int .i64 d] 25)).alloc (.cells #[.int .i64 x, .int .i64 y, .int .i64 z, .int .i64 q] 25)).alloc (.cells #[.int .i64 0, .int .i64 0, .int .i64 0, .int .i64 0] 25)) := by have h_ := (Blk.new ((w.alloc (.cells #[.int .i64 a, .int .i64 b, .int .i64 c, .int .i64 d] 25)).alloc (.cells #[.int .i64 x, .int .i64 y, .int .i64 z, .int .i64 q] 25)) #[.int .i64 0, .int .i64 0, .int .i64 0, .int .i64 0] 25); simpa using h_
  have q1_ := TC.at 0 rfl
  have q2_ := TC.at 1 rfl
  have q3_ := TC.at 2 rfl
  have q4_ := TC.at 3 rfl
  go_enter Try.func17, Try.ntmps17
  go_wp2_with fail
  refine (right_is a b c d _).mono ?_
  rintro en w1 ⟨rfl, hb⟩
  replace TC := TC.later hb TC.lt
  replace XC := XC.later hb XC.lt
  replace UC := UC.later hb UC.lt
  replace BC := BC.trans (hb.mono BC.size)
  clear hb
  clear q1_ q2_ q3_ q4_
  by_cases hk : tmOk a b c d = true
  · rw [hk]
    have q5_ := XC.at 0 rfl
    have q6_ := XC.at 1 rfl
    have q7_ := XC.at 2 rfl
    have q8_ := XC.at 3 rfl
    go_wp2_with fail
    refine (right_is x y z q _).mono ?_
    rintro en w2 ⟨rfl, hb⟩
    replace TC := TC.later hb TC.lt
    replace XC := XC.later hb XC.lt
    replace UC := UC.later hb UC.lt
    replace BC := BC.trans (hb.mono BC.size)
    clear hb
    clear q5_ q6_ q7_ q8_
    by_cases hj : tmOk x y z q = true
    · rw [hj]
      have q9_ := TC.at 0 rfl
      have q10_ := TC.at 1 rfl
      have q11_ := TC.at 2 rfl
      have q12_ := TC.at 3 rfl
      have q13_ := XC.at 0 rfl
      have q14_ := XC.at 1 rfl
      have q15_ := XC.at 2 rfl
      have q16_ := XC.at 3 rfl
      go_wp2_with fail
      refine (lesser_is a b c d x y z q _).mono ?_
      rintro en w3 ⟨rfl, hb⟩
      replace TC := TC.later hb TC.lt
      replace XC := XC.later hb XC.lt
      replace UC := UC.later hb UC.lt
      replace BC := BC.trans (hb.mono BC.size)
      clear hb
      clear q9_ q10_ q11_ q12_ q13_ q14_ q15_ q16_
      have Z3 : Hid (w.heap.size + 1 + 1 < w3.heap.size) := UC.lt
      have XA_ : Below w3.heap.size w3 (w3.alloc (.cells #[.int .i64 0, .int .i64 0, .int .i64 0, .int .i64 0] 25)) := (Below.refl _ _).alloc (Nat.le_refl _) _
      have OC : Blk w3.heap.size [.int .i64 0, .int .i64 0, .int .i64 0, .int .i64 0] (w3.alloc (.cells #[.int .i64 0, .int .i64 0, .int .i64 0, .int .i64 0] 25)) := Blk.new _ _ _
      replace TC := TC.later XA_ TC.lt
      replace XC := XC.later XA_ XC.lt
      replace UC := UC.later XA_ UC.lt
      replace BC := BC.trans (XA_.mono BC.size)
      clear XA_
      obtain ⟨W5, hW5⟩ : ∃ Wz, (w3.alloc (.cells #[.int .i64 0, .int .i64 0, .int .i64 0, .int .i64 0] 25)) = Wz := ⟨_, rfl⟩
      rw [hW5] at TC XC UC OC BC
      have z3_ := Z3.out
      obtain ⟨W6, hW6⟩ : ∃ Wz, (World.setCells W5 w3.heap.size 0 [.int .i64 (min a x), .int .i64 (min b y), .int .i64 (min c z), .int .i64 (min d q)]) = Wz := ⟨_, rfl⟩
      have OC_ : Blk w3.heap.size [.int .i64 (min a x), .int .i64 (min b y), .int .i64 (min c z), .int .i64 (min d q)] W6 := by rw [← hW6]; exact OC.part 0 [.int .i64 (min a x), .int .i64 (min b y), .int .i64 (min c z), .int .i64 (min d q)] _ (by simp) rfl
      have TC_ : Blk w.heap.size [.int .i64 a, .int .i64 b, .int .i64 c, .int .i64 d] W6 := by rw [← hW6]; exact Blk.farS (q := w3.heap.size) (by omega) [.int .i64 (min a x), .int .i64 (min b y), .int .i64 (min c z), .int .i64 (min d q)] 0 _ TC
      have XC_ : Blk (w.heap.size + 1) [.int .i64 x, .int .i64 y, .int .i64 z, .int .i64 q] W6 := by rw [← hW6]; exact Blk.farS (q := w3.heap.size) (by omega) [.int .i64 (min a x), .int .i64 (min b y), .int .i64 (min c z), .int .i64 (min d q)] 0 _ XC
      have UC_ : Blk (w.heap.size + 1 + 1) [.int .i64 0, .int .i64 0, .int .i64 0, .int .i64 0] W6 := by rw [← hW6]; exact Blk.farS (q := w3.heap.size) (by omega) [.int .i64 (min a x), .int .i64 (min b y), .int .i64 (min c z), .int .i64 (min d q)] 0 _ UC
      have BC_ : Below w.heap.size w W6 := by rw [← hW6]; exact below_sets (g := w3.heap.size) (by omega) [.int .i64 (min a x), .int .i64 (min b y), .int .i64 (min c z), .int .i64 (min d q)] 0 _ BC
      have OC0W6 := OC
      clear TC XC UC OC BC
      have TC := TC_
      have XC := XC_
      have UC := UC_
      have OC := OC_
      have BC := BC_
      clear TC_ XC_ UC_ OC_ BC_
      go_wp2_with (first | (rw [hW5]) | (refine wpList_stB 25 _ _ w3.heap.size 0 [.int .i64 0, .int .i64 0, .int .i64 0, .int .i64 0] [.int .i64 (min a x), .int .i64 (min b y), .int .i64 (min c z), .int .i64 (min d q)] ie hie OC0W6 (by rw [hsz]; rfl) (by simp) rfl rfl rfl rfl rfl ?_; try simp only [Act.put]; rw [hW6]))
      clear OC0W6 hW5 hW6
      clear hmf
      replace TC := TC.drew
      replace XC := XC.drew
      replace UC := UC.drew
      replace OC := OC.drew
      replace BC := BC.drew
      refine wp_region_held_drew (S := (fun Vw => Blk w.heap.size [.int .i64 a, .int .i64 b, .int .i64 c, .int .i64 d] Vw ∧ Blk (w.heap.size + 1) [.int .i64 x, .int .i64 y, .int .i64 z, .int .i64 q] Vw)) (by kernel_rfl) ⟨TC, XC⟩ (fun hHeld => ?_)
      generalize World.drew W6 = wd at *
      refine take_one 0 22 (v := ?_) rfl rfl (by kernel_rfl) (by kernel_rfl) (by kernel_rfl) (fun _ _ _ h => h) (Or.inl ⟨by rfl, ?_⟩) hHeld ?_
      rotate_left
      · intro w' hSw; (try dsimp only at hSw); have d0 := hSw.1.at 0 rfl; have d1 := hSw.1.at 1 rfl; have d2 := hSw.1.at 2 rfl; have d3 := hSw.1.at 3 rfl; have e0 := hSw.2.at 0 rfl; have e1 := hSw.2.at 1 rfl; have e2 := hSw.2.at 2 rfl; have e3 := hSw.2.at 3 rfl; go_simp; try with_reducible rfl
      try simp only [Act.put, List.setIfInBounds_toArray, List.set_cons_zero, List.set_cons_succ]
      refine take_one 1 23 (v := ?_) rfl rfl (by kernel_rfl) (by kernel_rfl) (by kernel_rfl) (fun _ _ _ h => h) (Or.inl ⟨by rfl, ?_⟩) hHeld ?_
      rotate_left
      · intro w' hSw; (try dsimp only at hSw); have d0 := hSw.1.at 0 rfl; have d1 := hSw.1.at 1 rfl; have d2 := hSw.1.at 2 rfl; have d3 := hSw.1.at 3 rfl; have e0 := hSw.2.at 0 rfl; have e1 := hSw.2.at 1 rfl; have e2 := hSw.2.at 2 rfl; have e3 := hSw.2.at 3 rfl; go_simp; try with_reducible rfl
      try simp only [Act.put, List.setIfInBounds_toArray, List.set_cons_zero, List.set_cons_succ]
      refine take_one 2 24 (v := ?_) rfl rfl (by kernel_rfl) (by kernel_rfl) (by kernel_rfl) (fun _ _ _ h => h) (Or.inl ⟨by rfl, ?_⟩) hHeld ?_
      rotate_left
      · intro w' hSw; (try dsimp only at hSw); have d0 := hSw.1.at 0 rfl; have d1 := hSw.1.at 1 rfl; have d2 := hSw.1.at 2 rfl; have d3 := hSw.1.at 3 rfl; have e0 := hSw.2.at 0 rfl; have e1 := hSw.2.at 1 rfl; have e2 := hSw.2.at 2 rfl; have e3 := hSw.2.at 3 rfl; go_simp; try with_reducible rfl
      try simp only [Act.put, List.setIfInBounds_toArray, List.set_cons_zero, List.set_cons_succ]
      refine take_one 3 25 (v := ?_) rfl rfl (by kernel_rfl) (by kernel_rfl) (by kernel_rfl) (fun _ _ _ h => h) (Or.inl ⟨by rfl, ?_⟩) hHeld ?_
      rotate_left
      · intro w' hSw; (try dsimp only at hSw); have d0 := hSw.1.at 0 rfl; have d1 := hSw.1.at 1 rfl; have d2 := hSw.1.at 2 rfl; have d3 := hSw.1.at 3 rfl; have e0 := hSw.2.at 0 rfl; have e1 := hSw.2.at 1 rfl; have e2 := hSw.2.at 2 rfl; have e3 := hSw.2.at 3 rfl; go_simp; try with_reducible rfl
      try simp only [Act.put, List.setIfInBounds_toArray, List.set_cons_zero, List.set_cons_succ]
      refine take_one 4 26 (v := ?_) rfl rfl (by kernel_rfl) (by kernel_rfl) (by kernel_rfl) (fun _ _ _ h => h) (Or.inl ⟨by rfl, ?_⟩) hHeld ?_
      rotate_left
      · intro w' hSw; (try dsimp only at hSw); have d0 := hSw.1.at 0 rfl; have d1 := hSw.1.at 1 rfl; have d2 := hSw.1.at 2 rfl; have d3 := hSw.1.at 3 rfl; have e0 := hSw.2.at 0 rfl; have e1 := hSw.2.at 1 rfl; have e2 := hSw.2.at 2 rfl; have e3 := hSw.2.at 3 rfl; go_simp; try with_reducible rfl
      try simp only [Act.put, List.setIfInBounds_toArray, List.set_cons_zero, List.set_cons_succ]
      refine take_one 5 27 (v := ?_) rfl rfl (by kernel_rfl) (by kernel_rfl) (by kernel_rfl) (fun _ _ _ h => h) (Or.inl ⟨by rfl, ?_⟩) hHeld ?_
      rotate_left
      · intro w' hSw; (try dsimp only at hSw); have d0 := hSw.1.at 0 rfl; have d1 := hSw.1.at 1 rfl; have d2 := hSw.1.at 2 rfl; have d3 := hSw.1.at 3 rfl; have e0 := hSw.2.at 0 rfl; have e1 := hSw.2.at 1 rfl; have e2 := hSw.2.at 2 rfl; have e3 := hSw.2.at 3 rfl; go_simp; try with_reducible rfl
      try simp only [Act.put, List.setIfInBounds_toArray, List.set_cons_zero, List.set_cons_succ]
      refine take_one 6 28 (v := ?_) rfl rfl (by kernel_rfl) (by kernel_rfl) (by kernel_rfl) (fun _ _ _ h => h) (Or.inl ⟨by rfl, ?_⟩) hHeld ?_
      rotate_left
      · intro w' hSw; (try dsimp only at hSw); have d0 := hSw.1.at 0 rfl; have d1 := hSw.1.at 1 rfl; have d2 := hSw.1.at 2 rfl; have d3 := hSw.1.at 3 rfl; have e0 := hSw.2.at 0 rfl; have e1 := hSw.2.at 1 rfl; have e2 := hSw.2.at 2 rfl; have e3 := hSw.2.at 3 rfl; go_simp; try with_reducible rfl
      try simp only [Act.put, List.setIfInBounds_toArray, List.set_cons_zero, List.set_cons_succ]
      refine take_one 7 29 (v := ?_) rfl rfl (by kernel_rfl) (by kernel_rfl) (by kernel_rfl) (fun _ _ _ h => h) (Or.inl ⟨by rfl, ?_⟩) hHeld ?_
      rotate_left
      · intro w' hSw; (try dsimp only at hSw); have d0 := hSw.1.at 0 rfl; have d1 := hSw.1.at 1 rfl; have d2 := hSw.1.at 2 rfl; have d3 := hSw.1.at 3 rfl; have e0 := hSw.2.at 0 rfl; have e1 := hSw.2.at 1 rfl; have e2 := hSw.2.at 2 rfl; have e3 := hSw.2.at 3 rfl; go_simp; try with_reducible rfl
      try simp only [Act.put, List.setIfInBounds_toArray, List.set_cons_zero, List.set_cons_succ]
      have N_ : Blk w3.heap.size [.int .i64 a, .int .i64 (min b y), .int .i64 (min c z), .int .i64 (min d q)] ((wd).setCells w3.heap.size 0 [.int .i64 a]) := OC.part 0 [.int .i64 a] _ (by simp) rfl
      have TC_ := Blk.farS (q := w3.heap.size) (by omega) [.int .i64 a] 0 _ TC
      have XC_ := Blk.farS (q := w3.heap.size) (by omega) [.int .i64 a] 0 _ XC
      have UC_ := Blk.farS (q := w3.heap.size) (by omega) [.int .i64 a] 0 _ UC
      have BC_ := below_sets (m := w.heap.size) (g := w3.heap.size) (by omega) [.int .i64 a] 0 _ BC
      have s0 := OC.at 0 rfl
      have f0 := OC.fz 0 rfl
      refine wpAnyH_ready (rs := [8]) (by kernel_rfl) (by simp) ?_
      refine AllReadyH.cons (i := 8) rfl (fun K hK => ?_) AllReadyH.nil
      go_simp
      clear s0 f0
      change K _ ((wd).setCells w3.heap.size 0 [.int .i64 a])
      obtain ⟨V1, hV1⟩ : ∃ Wz, (wd).setCells (w3.heap.size) 0 [.int .i64 a] = Wz := ⟨_, rfl⟩
      rw [hV1] at N_ BC_ TC_ XC_ UC_ ⊢
      clear hV1 OC BC TC XC UC
      have OC := N_
      have BC := BC_
      have TC := TC_
      have XC := XC_
      have UC := UC_
      clear N_ BC_ TC_ XC_ UC_
      refine hK.out _ _ ⟨TC, XC⟩ (fun hHeld2 => ?_)
      clear hK K hHeld
      have hHeld := hHeld2
      clear hHeld2
      try simp only [Act.put, List.setIfInBounds_toArray, List.set_cons_zero, List.set_cons_succ]
      refine take_one 9 30 (v := ?_) rfl rfl (by kernel_rfl) (by kernel_rfl) (by kernel_rfl) (fun _ _ _ h => h) (Or.inl ⟨by rfl, ?_⟩) hHeld ?_
      rotate_left
      · intro w' hSw; (try dsimp only at hSw); go_simp; try with_reducible rfl
      try simp only [Act.put, List.setIfInBounds_toArray, List.set_cons_zero, List.set_cons_succ]
      have N_ : Blk w3.heap.size [.int .i64 a, .int .i64 (max b y), .int .i64 (min c z), .int .i64 (min d q)] ((V1).setCells w3.heap.size 1 [.int .i64 (max b y)]) := OC.part 1 [.int .i64 (max b y)] _ (by simp) rfl
      have TC_ := Blk.farS (q := w3.heap.size) (by omega) [.int .i64 (max b y)] 1 _ TC
      have XC_ := Blk.farS (q := w3.heap.size) (by omega) [.int .i64 (max b y)] 1 _ XC
      have UC_ := Blk.farS (q := w3.heap.size) (by omega) [.int .i64 (max b y)] 1 _ UC
      have BC_ := below_sets (m := w.heap.size) (g := w3.heap.size) (by omega) [.int .i64 (max b y)] 1 _ BC
      have s0 := OC.at 1 rfl
      have f0 := OC.fz 1 rfl
      refine wpAnyH_ready (rs := [10]) (by kernel_rfl) (by simp) ?_
      refine AllReadyH.cons (i := 10) rfl (fun K hK => ?_) AllReadyH.nil
      go_simp
      clear s0 f0
      change K _ ((V1).setCells w3.heap.size 1 [.int .i64 (max b y)])
      obtain ⟨V2, hV2⟩ : ∃ Wz, (V1).setCells (w3.heap.size) 1 [.int .i64 (max b y)] = Wz := ⟨_, rfl⟩
      rw [hV2] at N_ BC_ TC_ XC_ UC_ ⊢
      clear hV2 OC BC TC XC UC
      have OC := N_
      have BC := BC_
      have TC := TC_
      have XC := XC_
      have UC := UC_
      clear N_ BC_ TC_ XC_ UC_
      refine hK.out _ _ ⟨TC, XC⟩ (fun hHeld2 => ?_)
      clear hK K hHeld
      have hHeld := hHeld2
      clear hHeld2
      try simp only [Act.put, List.setIfInBounds_toArray, List.set_cons_zero, List.set_cons_succ]
      refine wpAnyH_done (by kernel_rfl) ?_ _
      have q17_ := OC.at 0 rfl
      have q18_ := OC.at 1 rfl
      have q19_ := OC.at 2 rfl
      have q20_ := OC.at 3 rfl
      go_wp2_with fail
      refine (rightTimes_is a (max b y) (min c z) (min d q) _).mono ?_
      rintro en w8 ⟨rfl, hb⟩
      replace TC := TC.later hb TC.lt
      replace XC := XC.later hb XC.lt
      replace UC := UC.later hb UC.lt
      replace OC := OC.later hb OC.lt
      replace BC := BC.trans (hb.mono BC.size)
      clear hb
      clear q17_ q18_ q19_ q20_
      unfold tmIf
      generalize hbb : tmOk a (max b y) (min c z) (min d q) = bb
      cases bb with
      | true =>
        rw [if_pos rfl]
        have FU := UC.sets [.int .i64 a, .int .i64 (max b y), .int .i64 (min c z), .int .i64 (min d q)] rfl
        have FB := below_sets (m := w.heap.size) (g := (w.heap.size + 1 + 1)) (by omega) [.int .i64 a, .int .i64 (max b y), .int .i64 (min c z), .int .i64 (min d q)] 0 _ BC
        go_wp2_with (refine wpList_stB 25 _ _ (w.heap.size + 1 + 1) 0 [.int .i64 0, .int .i64 0, .int .i64 0, .int .i64 0] [.int .i64 a, .int .i64 (max b y), .int .i64 (min c z), .int .i64 (min d q)] ie hie UC (by rw [hsz]; rfl) (by simp) rfl rfl rfl rfl rfl ?_; try simp only [Act.put])
        exact bodyPost_ret (res_B2 rfl _ _ (w.heap.size + 1 + 1) _ (.bool true) ie hie ag25 FU (by rw [hsz]; rfl) rfl rfl) rfl ⟨by rw [inV_yes a b c d x y z q (by unfold inOk; rw [hk, hj, hbb]; rfl)], FB⟩
      | false =>
        rw [if_neg (by decide)]
        have FU := UC.sets [.int .i64 0, .int .i64 0, .int .i64 0, .int .i64 0] rfl
        have FB := below_sets (m := w.heap.size) (g := (w.heap.size + 1 + 1)) (by omega) [.int .i64 0, .int .i64 0, .int .i64 0, .int .i64 0] 0 _ BC
        go_wp2_with (refine wpList_stB 25 _ _ (w.heap.size + 1 + 1) 0 [.int .i64 0, .int .i64 0, .int .i64 0, .int .i64 0] [.int .i64 0, .int .i64 0, .int .i64 0, .int .i64 0] ie hie UC (by rw [hsz]; rfl) (by simp) rfl rfl rfl rfl rfl ?_; try simp only [Act.put])
        exact bodyPost_ret (res_B2 rfl _ _ (w.heap.size + 1 + 1) _ (.bool false) ie hie ag25 FU (by rw [hsz]; rfl) rfl rfl) rfl ⟨by rw [inV_no a b c d x y z q (by unfold inOk; rw [hk, hj, hbb]; rfl)], FB⟩
    · rw [Bool.not_eq_true] at hj
      rw [hj]
      have FU := UC.sets [.int .i64 0, .int .i64 0, .int .i64 0, .int .i64 0] rfl
      have FB := below_sets (m := w.heap.size) (g := (w.heap.size + 1 + 1)) (by omega) [.int .i64 0, .int .i64 0, .int .i64 0, .int .i64 0] 0 _ BC
      go_wp2_with (refine wpList_stB 25 _ _ (w.heap.size + 1 + 1) 0 [.int .i64 0, .int .i64 0, .int .i64 0, .int .i64 0] [.int .i64 0, .int .i64 0, .int .i64 0, .int .i64 0] ie hie UC (by rw [hsz]; rfl) (by simp) rfl rfl rfl rfl rfl ?_; try simp only [Act.put])
      exact bodyPost_ret (res_B2 rfl _ _ (w.heap.size + 1 + 1) _ (.bool false) ie hie ag25 FU (by rw [hsz]; rfl) rfl rfl) rfl ⟨by rw [inV_no a b c d x y z q (by unfold inOk; rw [hk, hj]; rfl)], FB⟩
  · rw [Bool.not_eq_true] at hk
    rw [hk]
    have FU := UC.sets [.int .i64 0, .int .i64 0, .int .i64 0, .int .i64 0] rfl
    have FB := below_sets (m := w.heap.size) (g := (w.heap.size + 1 + 1)) (by omega) [.int .i64 0, .int .i64 0, .int .i64 0, .int .i64 0] 0 _ BC
    go_wp2_with (refine wpList_stB 25 _ _ (w.heap.size + 1 + 1) 0 [.int .i64 0, .int .i64 0, .int .i64 0, .int .i64 0] [.int .i64 0, .int .i64 0, .int .i64 0, .int .i64 0] ie hie UC (by rw [hsz]; rfl) (by simp) rfl rfl rfl rfl rfl ?_; try simp only [Act.put])
    exact bodyPost_ret (res_B2 rfl _ _ (w.heap.size + 1 + 1) _ (.bool false) ie hie ag25 FU (by rw [hsz]; rfl) rfl rfl) rfl ⟨by rw [inV_no a b c d x y z q (by unfold inOk; rw [hk]; rfl)], FB⟩

end Go.Proofs.Ytaeecaebjafnpaa
