/- Chapter 16: what is right, by a method value; when Times live. -/
import Derived.Test.YtaeecaebjafnpaaTm0
set_option linter.unusedVariables false
set_option maxRecDepth 100000
namespace Go.Proofs.Ytaeecaebjafnpaa
open Go Go.RowKit

set_option maxHeartbeats 3200000 in
theorem right_is (a b c d : Int) (w : World) : Calls Try.prog 36 #[tv a b c d] w fun en w' => en = .returned (.bool (tmOk a b c d)) ∧ Below w.heap.size w w' := by
  by_cases h0 : 0 ≤ a
  · have hd : decide (0 ≤ a) = true := decide_eq_true h0
    have BC : Below w.heap.size w (w.alloc (.cells #[.int .i64 a, .int .i64 b, .int .i64 c, .int .i64 d] 25)) := (Below.refl _ _).alloc (by simp <;> omega) _
    have TC : Blk w.heap.size [.int .i64 a, .int .i64 b, .int .i64 c, .int .i64 d] (w.alloc (.cells #[.int .i64 a, .int .i64 b, .int .i64 c, .int .i64 d] 25)) := by have h_ := (Blk.new w #[.int .i64 a, .int .i64 b, .int .i64 c, .int .i64 d] 25); simpa using h_
    have q1_ := TC.at 0 rfl
    have q2_ := TC.at 1 rfl
    have q3_ := TC.at 2 rfl
    have q4_ := TC.at 3 rfl
    have hmf : ∀ (fn : Fn) (first cap : Array Value) (w : World), (Instr.makeFunc fn first cap).run Try.prog w = .ok (.func fn first cap) w := fun _ _ _ _ => rfl
    go_enter Try.func36, Try.ntmps36
    go_wp2_with fail
    refine (bounds_is a b c d _).mono ?_
    rintro en w1 ⟨rfl, hb⟩
    replace TC := TC.later hb TC.lt
    replace BC := BC.trans (hb.mono BC.size)
    clear hb
    clear q1_ q2_ q3_ q4_
    have q5_ := TC.at 0 rfl
    have q6_ := TC.at 1 rfl
    have q7_ := TC.at 2 rfl
    have q8_ := TC.at 3 rfl
    go_wp2_with fail
    clear q5_ q6_ q7_ q8_
    replace TC := TC.drew
    replace BC := BC.drew
    refine wp_region_held_drew (S := (fun Vw => Blk w.heap.size [.int .i64 a, .int .i64 b, .int .i64 c, .int .i64 d] Vw)) (by kernel_rfl) TC (fun hHeld => ?_)
    refine take_one 0 7 (v := ?_) rfl rfl (by kernel_rfl) (by kernel_rfl) (by kernel_rfl) (fun _ _ _ h => h) (Or.inl ⟨by rfl, ?_⟩) hHeld ?_
    rotate_left
    · intro w' hSw; (try dsimp only at hSw); have d0 := hSw.at 0 rfl; have d1 := hSw.at 1 rfl; have d2 := hSw.at 2 rfl; have d3 := hSw.at 3 rfl; go_simp; try with_reducible rfl
    try simp only [Act.put, List.setIfInBounds_toArray, List.set_cons_zero, List.set_cons_succ]
    refine take_one 1 8 (v := ?_) rfl rfl (by kernel_rfl) (by kernel_rfl) (by kernel_rfl) (fun _ _ _ h => h) (Or.inl ⟨by rfl, ?_⟩) hHeld ?_
    rotate_left
    · intro w' hSw; (try dsimp only at hSw); have d0 := hSw.at 0 rfl; have d1 := hSw.at 1 rfl; have d2 := hSw.at 2 rfl; have d3 := hSw.at 3 rfl; go_simp; try with_reducible rfl
    try simp only [Act.put, List.setIfInBounds_toArray, List.set_cons_zero, List.set_cons_succ]
    refine take_one 2 9 (v := ?_) rfl rfl (by kernel_rfl) (by kernel_rfl) (by kernel_rfl) (fun _ _ _ h => h) (Or.inl ⟨by rfl, ?_⟩) hHeld ?_
    rotate_left
    · intro w' hSw; (try dsimp only at hSw); have d0 := hSw.at 0 rfl; have d1 := hSw.at 1 rfl; have d2 := hSw.at 2 rfl; have d3 := hSw.at 3 rfl; go_simp; try with_reducible rfl
    try simp only [Act.put, List.setIfInBounds_toArray, List.set_cons_zero, List.set_cons_succ]
    refine take_one 3 10 (v := ?_) rfl rfl (by kernel_rfl) (by kernel_rfl) (by kernel_rfl) (fun _ _ _ h => h) (Or.inl ⟨by rfl, ?_⟩) hHeld ?_
    rotate_left
    · intro w' hSw; (try dsimp only at hSw); have d0 := hSw.at 0 rfl; have d1 := hSw.at 1 rfl; have d2 := hSw.at 2 rfl; have d3 := hSw.at 3 rfl; go_simp; try with_reducible rfl
    try simp only [Act.put, List.setIfInBounds_toArray, List.set_cons_zero, List.set_cons_succ]
    refine take_one 4 11 (v := ?_) rfl rfl (by kernel_rfl) (by kernel_rfl) (by kernel_rfl) (fun _ _ _ h => h) (Or.inl ⟨by rfl, ?_⟩) hHeld ?_
    rotate_left
    · intro w' hSw; (try dsimp only at hSw); have d0 := hSw.at 0 rfl; have d1 := hSw.at 1 rfl; have d2 := hSw.at 2 rfl; have d3 := hSw.at 3 rfl; go_simp; try with_reducible rfl
    try simp only [Act.put, List.setIfInBounds_toArray, List.set_cons_zero, List.set_cons_succ]
    refine take_one 5 12 (v := ?_) rfl rfl (by kernel_rfl) (by kernel_rfl) (by kernel_rfl) (fun _ _ _ h => h) (Or.inl ⟨by rfl, ?_⟩) hHeld ?_
    rotate_left
    · intro w' hSw; (try dsimp only at hSw); have d0 := hSw.at 0 rfl; have d1 := hSw.at 1 rfl; have d2 := hSw.at 2 rfl; have d3 := hSw.at 3 rfl; go_simp; try with_reducible rfl
    try simp only [Act.put, List.setIfInBounds_toArray, List.set_cons_zero, List.set_cons_succ]
    refine take_one 7 14 (v := ?_) rfl rfl (by kernel_rfl) (by kernel_rfl) (by kernel_rfl) (fun _ _ _ h => h) (Or.inl ⟨by rfl, ?_⟩) hHeld ?_
    rotate_left
    · intro w' hSw; (try dsimp only at hSw); have d0 := hSw.at 0 rfl; have d1 := hSw.at 1 rfl; have d2 := hSw.at 2 rfl; have d3 := hSw.at 3 rfl; go_simp; try with_reducible rfl
    try simp only [Act.put, List.setIfInBounds_toArray, List.set_cons_zero, List.set_cons_succ]
    refine wpAnyH_ready (rs := [6]) (by kernel_rfl) (by simp) ?_
    refine AllReadyH.cons (i := 6) rfl (fun K hK => ?_) AllReadyH.nil
    go_simp
    refine (lesser_is b c d 100000 a b c d _).mono ?_
    rintro en w2 ⟨rfl, hb⟩
    replace TC := TC.later hb TC.lt
    replace BC := BC.trans (hb.mono BC.size)
    clear hb
    go_wp2_with fail
    refine hK.out _ _ TC (fun hHeld2 => ?_)
    clear hK K hHeld
    have hHeld := hHeld2
    clear hHeld2
    try simp only [Act.put, List.setIfInBounds_toArray, List.set_cons_zero, List.set_cons_succ]
    refine take_one 8 15 (v := (.bool (tmOk a b c d))) rfl rfl (by kernel_rfl) (by kernel_rfl) (by kernel_rfl) (fun _ _ _ h => h) (Or.inl ⟨by rfl, ?_⟩) hHeld ?_
    · intro w' hSw; (try dsimp only at hSw); go_simp; rw [← tmOk_min a b c d h0]; by_cases e1 : min b a = a <;> by_cases e2 : min c b = b <;> by_cases e3 : min d c = c <;> by_cases e4 : min 100000 d = d <;> simp only [e1, e2, e3, e4, if_true, if_false, decide_true, decide_false, Bool.and_true, Bool.and_false]
    try simp only [Act.put, List.setIfInBounds_toArray, List.set_cons_zero, List.set_cons_succ]
    generalize hbb : tmOk a b c d = bb
    refine take_one 9 16 (v := ?_) rfl rfl (by kernel_rfl) (by kernel_rfl) (by kernel_rfl) (fun _ _ _ h => h) (Or.inl ⟨by rfl, ?_⟩) hHeld ?_
    rotate_left
    · intro w' hSw; (try dsimp only at hSw); go_simp; try with_reducible rfl
    try simp only [Act.put, List.setIfInBounds_toArray, List.set_cons_zero, List.set_cons_succ]
    refine take_one 10 2 (v := ?_) rfl rfl (by kernel_rfl) (by kernel_rfl) (by kernel_rfl) (fun _ _ _ h => h) (Or.inl ⟨by rfl, ?_⟩) hHeld ?_
    rotate_left
    · intro w' hSw; (try dsimp only at hSw); go_simp; try with_reducible rfl
    try simp only [Act.put, List.setIfInBounds_toArray, List.set_cons_zero, List.set_cons_succ]
    refine wpAnyH_done (by kernel_rfl) ?_ _
    go_wp2_with fail
    go_ret
    exact ⟨by rw [hbb]; rfl, BC⟩
  · have hd : decide (0 ≤ a) = false := decide_eq_false h0
    clear h0
    have BC : Below w.heap.size w (w.alloc (.cells #[.int .i64 a, .int .i64 b, .int .i64 c, .int .i64 d] 25)) := (Below.refl _ _).alloc (by simp <;> omega) _
    have TC : Blk w.heap.size [.int .i64 a, .int .i64 b, .int .i64 c, .int .i64 d] (w.alloc (.cells #[.int .i64 a, .int .i64 b, .int .i64 c, .int .i64 d] 25)) := by have h_ := (Blk.new w #[.int .i64 a, .int .i64 b, .int .i64 c, .int .i64 d] 25); simpa using h_
    have q1_ := TC.at 0 rfl
    have q2_ := TC.at 1 rfl
    have q3_ := TC.at 2 rfl
    have q4_ := TC.at 3 rfl
    have hmf : ∀ (fn : Fn) (first cap : Array Value) (w : World), (Instr.makeFunc fn first cap).run Try.prog w = .ok (.func fn first cap) w := fun _ _ _ _ => rfl
    go_enter Try.func36, Try.ntmps36
    go_wp2_with fail
    refine (bounds_is a b c d _).mono ?_
    rintro en w1 ⟨rfl, hb⟩
    replace TC := TC.later hb TC.lt
    replace BC := BC.trans (hb.mono BC.size)
    clear hb
    clear q1_ q2_ q3_ q4_
    have q5_ := TC.at 0 rfl
    have q6_ := TC.at 1 rfl
    have q7_ := TC.at 2 rfl
    have q8_ := TC.at 3 rfl
    go_wp2_with fail
    clear q5_ q6_ q7_ q8_
    replace TC := TC.drew
    replace BC := BC.drew
    refine wp_region_held_drew (S := (fun Vw => Blk w.heap.size [.int .i64 a, .int .i64 b, .int .i64 c, .int .i64 d] Vw)) (by kernel_rfl) TC (fun hHeld => ?_)
    refine take_one 0 7 (v := ?_) rfl rfl (by kernel_rfl) (by kernel_rfl) (by kernel_rfl) (fun _ _ _ h => h) (Or.inl ⟨by rfl, ?_⟩) hHeld ?_
    rotate_left
    · intro w' hSw; (try dsimp only at hSw); have d0 := hSw.at 0 rfl; have d1 := hSw.at 1 rfl; have d2 := hSw.at 2 rfl; have d3 := hSw.at 3 rfl; go_simp; try with_reducible rfl
    try simp only [Act.put, List.setIfInBounds_toArray, List.set_cons_zero, List.set_cons_succ]
    refine take_one 1 8 (v := ?_) rfl rfl (by kernel_rfl) (by kernel_rfl) (by kernel_rfl) (fun _ _ _ h => h) (Or.inl ⟨by rfl, ?_⟩) hHeld ?_
    rotate_left
    · intro w' hSw; (try dsimp only at hSw); have d0 := hSw.at 0 rfl; have d1 := hSw.at 1 rfl; have d2 := hSw.at 2 rfl; have d3 := hSw.at 3 rfl; go_simp; try with_reducible rfl
    try simp only [Act.put, List.setIfInBounds_toArray, List.set_cons_zero, List.set_cons_succ]
    refine take_one 2 9 (v := ?_) rfl rfl (by kernel_rfl) (by kernel_rfl) (by kernel_rfl) (fun _ _ _ h => h) (Or.inl ⟨by rfl, ?_⟩) hHeld ?_
    rotate_left
    · intro w' hSw; (try dsimp only at hSw); have d0 := hSw.at 0 rfl; have d1 := hSw.at 1 rfl; have d2 := hSw.at 2 rfl; have d3 := hSw.at 3 rfl; go_simp; try with_reducible rfl
    try simp only [Act.put, List.setIfInBounds_toArray, List.set_cons_zero, List.set_cons_succ]
    refine take_one 3 10 (v := ?_) rfl rfl (by kernel_rfl) (by kernel_rfl) (by kernel_rfl) (fun _ _ _ h => h) (Or.inl ⟨by rfl, ?_⟩) hHeld ?_
    rotate_left
    · intro w' hSw; (try dsimp only at hSw); have d0 := hSw.at 0 rfl; have d1 := hSw.at 1 rfl; have d2 := hSw.at 2 rfl; have d3 := hSw.at 3 rfl; go_simp; try with_reducible rfl
    try simp only [Act.put, List.setIfInBounds_toArray, List.set_cons_zero, List.set_cons_succ]
    refine skip_one 4 11 rfl rfl (by kernel_rfl) (by kernel_rfl) (by kernel_rfl) (fun _ _ _ h => h) (unwanted (c := false) rfl rfl (by simp) rfl) hHeld ?_
    try simp only [Act.put, List.setIfInBounds_toArray, List.set_cons_zero, List.set_cons_succ]
    refine skip_one 5 12 rfl rfl (by kernel_rfl) (by kernel_rfl) (by kernel_rfl) (fun _ _ _ h => h) (unwanted (c := false) rfl rfl (by simp) rfl) hHeld ?_
    try simp only [Act.put, List.setIfInBounds_toArray, List.set_cons_zero, List.set_cons_succ]
    refine skip_one 7 14 rfl rfl (by kernel_rfl) (by kernel_rfl) (by kernel_rfl) (fun _ _ _ h => h) (unwanted (c := false) rfl rfl (by simp) rfl) hHeld ?_
    try simp only [Act.put, List.setIfInBounds_toArray, List.set_cons_zero, List.set_cons_succ]
    refine skip_one 6 13 rfl rfl (by kernel_rfl) (by kernel_rfl) (by kernel_rfl) (fun _ _ _ h => h) (unwanted (c := false) rfl rfl (by simp) rfl) hHeld ?_
    try simp only [Act.put, List.setIfInBounds_toArray, List.set_cons_zero, List.set_cons_succ]
    refine skip_one 8 15 rfl rfl (by kernel_rfl) (by kernel_rfl) (by kernel_rfl) (fun _ _ _ h => h) (unwanted (c := false) rfl rfl (by simp) rfl) hHeld ?_
    try simp only [Act.put, List.setIfInBounds_toArray, List.set_cons_zero, List.set_cons_succ]
    refine take_one 9 16 (v := ?_) rfl rfl (by kernel_rfl) (by kernel_rfl) (by kernel_rfl) (fun _ _ _ h => h) (Or.inl ⟨by rfl, ?_⟩) hHeld ?_
    rotate_left
    · intro w' hSw; (try dsimp only at hSw); have d0 := hSw.at 0 rfl; have d1 := hSw.at 1 rfl; have d2 := hSw.at 2 rfl; have d3 := hSw.at 3 rfl; go_simp; try with_reducible rfl
    try simp only [Act.put, List.setIfInBounds_toArray, List.set_cons_zero, List.set_cons_succ]
    refine take_one 10 2 (v := ?_) rfl rfl (by kernel_rfl) (by kernel_rfl) (by kernel_rfl) (fun _ _ _ h => h) (Or.inl ⟨by rfl, ?_⟩) hHeld ?_
    rotate_left
    · intro w' hSw; (try dsimp only at hSw); have d0 := hSw.at 0 rfl; have d1 := hSw.at 1 rfl; have d2 := hSw.at 2 rfl; have d3 := hSw.at 3 rfl; go_simp; try with_reducible rfl
    try simp only [Act.put, List.setIfInBounds_toArray, List.set_cons_zero, List.set_cons_succ]
    refine wpAnyH_done (by kernel_rfl) ?_ _
    go_wp2_with fail
    go_ret
    exact ⟨by unfold tmOk; rw [hd]; rfl, BC⟩

set_option maxHeartbeats 1600000 in
theorem within_is (n g : Int) (w : World) : Calls Try.prog 41 #[.int .i64 n, .int .i64 g] w fun en w' => en = .returned (.bool (inB n g)) ∧ w = w' := by
  by_cases h0 : 0 ≤ n
  · by_cases h1 : n ≤ g
    · go_enter Try.func41, Try.ntmps41
      go_wp2
      go_ret
      exact ⟨by simp [inB, h0, h1], rfl⟩
    · go_enter Try.func41, Try.ntmps41
      go_wp2
      go_ret
      exact ⟨by simp [inB, h0, h1], rfl⟩
  · go_enter Try.func41, Try.ntmps41
    go_wp2
    go_ret
    exact ⟨by unfold inB; rw [show decide (0 ≤ n) = false by simp; omega]; rfl, rfl⟩

set_option maxHeartbeats 1600000 in
theorem implOk_is (a b c d : Int) (w : World) : Calls Try.prog 29 #[tv a b c d] w fun en w' => en = .returned (.bool (tmOk a b c d)) ∧ Below w.heap.size w w' := by
  have BC : Below w.heap.size w (w.alloc (.cells #[.int .i64 a, .int .i64 b, .int .i64 c, .int .i64 d] 25)) := (Below.refl _ _).alloc (by simp <;> omega) _
  have TC : Blk w.heap.size [.int .i64 a, .int .i64 b, .int .i64 c, .int .i64 d] (w.alloc (.cells #[.int .i64 a, .int .i64 b, .int .i64 c, .int .i64 d] 25)) := by have h_ := (Blk.new w #[.int .i64 a, .int .i64 b, .int .i64 c, .int .i64 d] 25); simpa using h_
  have q1_ := TC.at 0 rfl
  have q2_ := TC.at 1 rfl
  have q3_ := TC.at 2 rfl
  have q4_ := TC.at 3 rfl
  go_enter Try.func29, Try.ntmps29
  go_wp2_with fail
  refine (right_is a b c d _).mono ?_
  rintro en w1 ⟨rfl, hb⟩
  replace TC := TC.later hb TC.lt
  replace BC := BC.trans (hb.mono BC.size)
  clear hb
  clear q1_ q2_ q3_ q4_
  go_wp2
  go_ret
  exact ⟨rfl, BC⟩

/-- Times and whether they are; the zero ones else. -/
def tmIf (k : Bool) (a b c d : Int) : Value := if k = true then .tuple #[tv a b c d, .bool true] else .tuple #[tv 0 0 0 0, .bool false]
set_option maxHeartbeats 1600000 in
theorem rightTimes_is (a b c d : Int) (w : World) : Calls Try.prog 39 #[tv a b c d] w fun en w' => en = .returned (tmIf (tmOk a b c d) a b c d) ∧ Below w.heap.size w w' := by
  obtain ⟨ie, hie, hsz⟩ := info_times
  have BC : Below w.heap.size w ((w.alloc (.cells #[.int .i64 a, .int .i64 b, .int .i64 c, .int .i64 d] 25)).alloc (.cells #[.int .i64 0, .int .i64 0, .int .i64 0, .int .i64 0] 25)) := ((Below.refl _ _).alloc (by simp <;> omega) _).alloc (by simp <;> omega) _
  have TC : Blk w.heap.size [.int .i64 a, .int .i64 b, .int .i64 c, .int .i64 d] ((w.alloc (.cells #[.int .i64 a, .int .i64 b, .int .i64 c, .int .i64 d] 25)).alloc (.cells #[.int .i64 0, .int .i64 0, .int .i64 0, .int .i64 0] 25)) := by have h_ := ((Blk.new w #[.int .i64 a, .int .i64 b, .int .i64 c, .int .i64 d] 25).alloc (by simp <;> omega) (.cells #[.int .i64 0, .int .i64 0, .int .i64 0, .int .i64 0] 25)); simpa using h_
  have UC : Blk (w.heap.size + 1) [.int .i64 0, .int .i64 0, .int .i64 0, .int .i64 0] ((w.alloc (.cells #[.int .i64 a, .int .i64 b, .int .i64 c, .int .i64 d] 25)).alloc (.cells #[.int .i64 0, .int .i64 0, .int .i64 0, .int .i64 0] 25)) := by have h_ := (Blk.new (w.alloc (.cells #[.int .i64 a, .int .i64 b, .int .i64 c, .int .i64 d] 25)) #[.int .i64 0, .int .i64 0, .int .i64 0, .int .i64 0] 25); simpa using h_
  have q1_ := TC.at 0 rfl
  have q2_ := TC.at 1 rfl
  have q3_ := TC.at 2 rfl
  have q4_ := TC.at 3 rfl
  go_enter Try.func39, Try.ntmps39
  go_wp2_with fail
  refine (right_is a b c d _).mono ?_
  rintro en w1 ⟨rfl, hb⟩
  replace TC := TC.later hb TC.lt
  replace UC := UC.later hb UC.lt
  replace BC := BC.trans (hb.mono BC.size)
  clear hb
  clear q1_ q2_ q3_ q4_
  generalize hbb : tmOk a b c d = bb
  cases bb with
  | true =>
    have q5_ := TC.at 0 rfl
    have q6_ := TC.at 1 rfl
    have q7_ := TC.at 2 rfl
    have q8_ := TC.at 3 rfl
    have FU := UC.sets [.int .i64 a, .int .i64 b, .int .i64 c, .int .i64 d] rfl
    have FB := below_sets (m := w.heap.size) (g := (w.heap.size + 1)) (by omega) [.int .i64 a, .int .i64 b, .int .i64 c, .int .i64 d] 0 _ BC
    go_wp2_with (refine wpList_stB 25 _ _ (w.heap.size + 1) 0 [.int .i64 0, .int .i64 0, .int .i64 0, .int .i64 0] [.int .i64 a, .int .i64 b, .int .i64 c, .int .i64 d] ie hie UC (by rw [hsz]; rfl) (by simp) rfl rfl rfl rfl rfl ?_; try simp only [Act.put])
    exact bodyPost_ret (res_B2 rfl _ _ (w.heap.size + 1) _ (.bool true) ie hie ag25 FU (by rw [hsz]; rfl) rfl rfl) rfl ⟨by rw [hbb]; rfl, FB⟩
  | false =>
    have FU := UC.sets [.int .i64 0, .int .i64 0, .int .i64 0, .int .i64 0] rfl
    have FB := below_sets (m := w.heap.size) (g := (w.heap.size + 1)) (by omega) [.int .i64 0, .int .i64 0, .int .i64 0, .int .i64 0] 0 _ BC
    go_wp2_with (refine wpList_stB 25 _ _ (w.heap.size + 1) 0 [.int .i64 0, .int .i64 0, .int .i64 0, .int .i64 0] [.int .i64 0, .int .i64 0, .int .i64 0, .int .i64 0] ie hie UC (by rw [hsz]; rfl) (by simp) rfl rfl rfl rfl rfl ?_; try simp only [Act.put])
    exact bodyPost_ret (res_B2 rfl _ _ (w.heap.size + 1) _ (.bool false) ie hie ag25 FU (by rw [hsz]; rfl) rfl rfl) rfl ⟨by rw [hbb]; rfl, FB⟩

/-- When Times live. -/
def tmL (a b c d n s : Int) : Bool := tmOk a b c d && (inB s 100 && (decide (b - s ≤ n) && decide (n ≤ c + s)))
set_option maxHeartbeats 3200000 in
theorem implLives_is (a b c d n s : Int) (w : World) : Calls Try.prog 21 #[tv a b c d, .int .i64 n, .int .i64 s] w fun en w' => en = .returned (.bool (tmL a b c d n s)) ∧ Below w.heap.size w w' := by
  have BC : Below w.heap.size w (w.alloc (.cells #[.int .i64 a, .int .i64 b, .int .i64 c, .int .i64 d] 25)) := (Below.refl _ _).alloc (by simp <;> omega) _
  have TC : Blk w.heap.size [.int .i64 a, .int .i64 b, .int .i64 c, .int .i64 d] (w.alloc (.cells #[.int .i64 a, .int .i64 b, .int .i64 c, .int .i64 d] 25)) := by have h_ := (Blk.new w #[.int .i64 a, .int .i64 b, .int .i64 c, .int .i64 d] 25); simpa using h_
  have q1_ := TC.at 0 rfl
  have q2_ := TC.at 1 rfl
  have q3_ := TC.at 2 rfl
  have q4_ := TC.at 3 rfl
  go_enter Try.func21, Try.ntmps21
  go_wp2_with fail
  refine (right_is a b c d _).mono ?_
  rintro en w1 ⟨rfl, hb⟩
  replace TC := TC.later hb TC.lt
  replace BC := BC.trans (hb.mono BC.size)
  clear hb
  clear q1_ q2_ q3_ q4_
  by_cases hk : tmOk a b c d = true
  · rw [hk]
    obtain ⟨k0, k1, k2, k3, k4⟩ := (tmOk_iff a b c d).1 hk
    go_wp2_with fail
    refine (within_is s 100 _).mono ?_
    rintro en w_ ⟨rfl, rfl⟩
    by_cases hs : inB s 100 = true
    · rw [hs]
      have q5_ := TC.at 0 rfl
      have q6_ := TC.at 1 rfl
      have q7_ := TC.at 2 rfl
      have q8_ := TC.at 3 rfl
      obtain ⟨s0, s1⟩ : 0 ≤ s ∧ s ≤ 100 := (btw_iff s 0 100).1 hs
      by_cases h1 : b - s ≤ n
      · by_cases h2 : n ≤ c + s
        · go_wp2
          go_ret
          exact ⟨by unfold tmL; rw [hk, hs, decide_eq_true (show b - s ≤ n by omega), decide_eq_true (show n ≤ c + s by omega)]; rfl, BC⟩
        · go_wp2
          go_ret
          exact ⟨by unfold tmL; rw [hk, hs, decide_eq_true (show b - s ≤ n by omega), decide_eq_false (show ¬ n ≤ c + s by omega)]; rfl, BC⟩
      · go_wp2
        go_ret
        exact ⟨by unfold tmL; rw [hk, hs, decide_eq_false (show ¬ b - s ≤ n by omega)]; rfl, BC⟩
    · rw [Bool.not_eq_true] at hs
      rw [hs]
      go_wp2
      go_ret
      exact ⟨by unfold tmL; rw [hk, hs]; rfl, BC⟩
  · rw [Bool.not_eq_true] at hk
    rw [hk]
    go_wp2
    go_ret
    exact ⟨by unfold tmL; rw [hk]; rfl, BC⟩

set_option maxHeartbeats 3200000 in
theorem specLives_is (a b c d n s : Int) (w : World) : Calls Try.prog 22 #[tv a b c d, .int .i64 n, .int .i64 s] w fun en w' => en = .returned (.bool (tmL a b c d n s)) ∧ Below w.heap.size w w' := by
  have BC : Below w.heap.size w (w.alloc (.cells #[.int .i64 a, .int .i64 b, .int .i64 c, .int .i64 d] 25)) := (Below.refl _ _).alloc (by simp <;> omega) _
  have TC : Blk w.heap.size [.int .i64 a, .int .i64 b, .int .i64 c, .int .i64 d] (w.alloc (.cells #[.int .i64 a, .int .i64 b, .int .i64 c, .int .i64 d] 25)) := by have h_ := (Blk.new w #[.int .i64 a, .int .i64 b, .int .i64 c, .int .i64 d] 25); simpa using h_
  have q1_ := TC.at 0 rfl
  have q2_ := TC.at 1 rfl
  have q3_ := TC.at 2 rfl
  have q4_ := TC.at 3 rfl
  go_enter Try.func22, Try.ntmps22
  go_wp2_with fail
  refine (specOk_is a b c d _).mono ?_
  rintro en w1 ⟨rfl, hb⟩
  replace TC := TC.later hb TC.lt
  replace BC := BC.trans (hb.mono BC.size)
  clear hb
  clear q1_ q2_ q3_ q4_
  by_cases hk : tmOk a b c d = true
  · rw [hk]
    obtain ⟨k0, k1, k2, k3, k4⟩ := (tmOk_iff a b c d).1 hk
    go_wp2_with fail
    refine (in_is s 0 100 _).mono ?_
    rintro en w_ ⟨rfl, rfl⟩
    rw [show (decide (0 ≤ s) && decide (s ≤ 100)) = inB s 100 from rfl]
    by_cases hs : inB s 100 = true
    · rw [hs]
      have q5_ := TC.at 0 rfl
      have q6_ := TC.at 1 rfl
      have q7_ := TC.at 2 rfl
      have q8_ := TC.at 3 rfl
      obtain ⟨s0, s1⟩ : 0 ≤ s ∧ s ≤ 100 := (btw_iff s 0 100).1 hs
      by_cases h1 : b - s ≤ n
      · by_cases h2 : n ≤ c + s
        · go_wp2
          go_ret
          exact ⟨by unfold tmL; rw [hk, hs, decide_eq_true (show b - s ≤ n by omega), decide_eq_true (show n ≤ c + s by omega)]; rfl, BC⟩
        · go_wp2
          go_ret
          exact ⟨by unfold tmL; rw [hk, hs, decide_eq_true (show b - s ≤ n by omega), decide_eq_false (show ¬ n ≤ c + s by omega)]; rfl, BC⟩
      · go_wp2
        go_ret
        exact ⟨by unfold tmL; rw [hk, hs, decide_eq_false (show ¬ b - s ≤ n by omega)]; rfl, BC⟩
    · rw [Bool.not_eq_true] at hs
      rw [hs]
      go_wp2
      go_ret
      exact ⟨by unfold tmL; rw [hk, hs]; rfl, BC⟩
  · rw [Bool.not_eq_true] at hk
    rw [hk]
    go_wp2
    go_ret
    exact ⟨by unfold tmL; rw [hk]; rfl, BC⟩

end Go.Proofs.Ytaeecaebjafnpaa
