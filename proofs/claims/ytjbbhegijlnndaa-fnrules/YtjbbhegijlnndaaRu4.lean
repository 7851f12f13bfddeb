/- Allows of the program. -/
import Derived.Test.YtjbbhegijlnndaaRu2
import Derived.Test.YtjbbhegijlnndaaRu3
import Derived.Test.YtjbbhegijlnndaaSe2
set_option linter.unusedVariables false
set_option maxRecDepth 100000
namespace Go.Proofs.Ytjbbhegijlnndaa.Nd
open Go Go.RowKit Go.Joins Own Draw Go.Proofs.Ytjbbhegijlnndaa

theorem small_wf {xs : List Int} (h : ∀ x ∈ xs, -1 < x ∧ x ≤ 30) : ∀ x ∈ xs, (Lit.int .i64 x).wf = true := fun x hx => wf_small (h x hx)
theorem okP_set {p : PT} (h : okP p = true) : riB (-1) p.2.1 = true := by
  unfold okP at h
  split at h
  · simp only [Bool.and_eq_true] at h; exact h.2
  · simp only [Bool.and_eq_true, decide_eq_true_eq] at h
    rw [List.eq_nil_of_length_eq_zero h.2.1]
    rfl
/-- What is asked is within range. -/
def wfA (q : PA) : Prop := (Lit.int .i64 q.1).wf = true ∧ (Lit.int .i64 q.2.1).wf = true ∧ ∀ g ∈ q.2.2.1, (Lit.int .i64 g).wf = true
set_option maxHeartbeats 3200000 in
theorem allows_is (x : TT) (q : TA) (w : World) (hd : DpT w x) (hok : okP (stT x) = true) (hq : DpA w q) (hgl : q.2.2.1.2.2.length ≤ 1048576) (hwa : wfA (stA q)) : Calls Try.prog 61 #[vT x, vA q] w fun e w' => e = .returned (.bool (onP (stT x) (stA q))) ∧ Below w.heap.size w w' := by
  obtain ⟨k, ⟨a, cap, xs⟩, n⟩ := x
  obtain ⟨sv, op, ⟨ga, gc, gs⟩, nw, us⟩ := q
  have hr : RowAt (Value.int .i64) w a xs := hd
  have hg : RowAt (Value.int .i64) w ga gs := hq
  clear hd hq
  dsimp only at hgl
  have hri : riB (-1) xs = true := okP_set hok
  have hwf := small_wf (ri_mem hri)
  have hl3 : xs.length ≤ 1048576 := by have := ri_len hri; omega
  have hgl3 : gs.length ≤ 1048576 := hgl
  have hw : (Lit.int .i64 sv).wf = true ∧ (Lit.int .i64 op).wf = true ∧ ∀ g ∈ gs, (Lit.int .i64 g).wf = true := hwa
  clear hok hri hwa hgl
  have HE : Hid (onP (stT (k, (a, cap, xs), n)) (stA (sv, op, (ga, gc, gs), nw, us)) = if k = 1 then xs.contains sv else if k = 2 then xs.contains op else if k = 3 then xs.all (fun m => gs.contains m) else if k = 4 then decide (nw ≤ n) else decide (us < n)) := (rfl : onP (stT (k, (a, cap, xs), n)) (stA (sv, op, (ga, gc, gs), nw, us)) = _)
  generalize onP (stT (k, (a, cap, xs), n)) (stA (sv, op, (ga, gc, gs), nw, us)) = ok at HE ⊢
  have BC : Below w.heap.size w ((w.alloc (.cells #[.int .i64 k, .slice a xs.length cap, .int .i64 n] 59)).alloc (.cells #[.int .i64 sv, .int .i64 op, .slice ga gs.length gc, .int .i64 nw, .int .i64 us] 34)) := ((Below.refl _ _).alloc (by simp <;> omega) _).alloc (by simp <;> omega) _
  have TC : Blk w.heap.size [.int .i64 k, .slice a xs.length cap, .int .i64 n] ((w.alloc (.cells #[.int .i64 k, .slice a xs.length cap, .int .i64 n] 59)).alloc (.cells #[.int .i64 sv, .int .i64 op, .slice ga gs.length gc, .int .i64 nw, .int .i64 us] 34)) := by have h_ := ((Blk.new w #[.int .i64 k, .slice a xs.length cap, .int .i64 n] 59).alloc (by simp <;> omega) (.cells #[.int .i64 sv, .int .i64 op, .slice ga gs.length gc, .int .i64 nw, .int .i64 us] 34)); simpa using h_
  have UC : Blk (w.heap.size + 1) [.int .i64 sv, .int .i64 op, .slice ga gs.length gc, .int .i64 nw, .int .i64 us] ((w.alloc (.cells #[.int .i64 k, .slice a xs.length cap, .int .i64 n] 59)).alloc (.cells #[.int .i64 sv, .int .i64 op, .slice ga gs.length gc, .int .i64 nw, .int .i64 us] 34)) := by have h_ := (Blk.new (w.alloc (.cells #[.int .i64 k, .slice a xs.length cap, .int .i64 n] 59)) #[.int .i64 sv, .int .i64 op, .slice ga gs.length gc, .int .i64 nw, .int .i64 us] 34); simpa using h_
  have hr2 := hr.later BC
  have hg2 := hg.later BC
  have q1_ := TC.at 0 rfl
  have q2_ := TC.at 1 rfl
  have q3_ := TC.at 2 rfl
  have q4_ := UC.at 0 rfl
  have q5_ := UC.at 1 rfl
  have q6_ := UC.at 2 rfl
  have q7_ := UC.at 3 rfl
  have q8_ := UC.at 4 rfl
  clear hr hg
  go_enter Try.func61, Try.ntmps61
  by_cases h1 : k = 1
  · have q1 : (k == 1) = true := beq_iff_eq.2 h1
    have HV : Hid (ok = xs.contains sv) := by show _ = _; rw [HE.out, if_pos h1]
    clear HE
    clear h1
    go_wp2_with fail
    replace TC := TC.drew
    replace UC := UC.drew
    replace BC := BC.drew
    replace hr2 := hr2.drew
    replace hg2 := hg2.drew
    refine wp_region_held_drew (S := (fun Vw => Blk w.heap.size [.int .i64 k, .slice a xs.length cap, .int .i64 n] Vw ∧ Blk (w.heap.size + 1) [.int .i64 sv, .int .i64 op, .slice ga gs.length gc, .int .i64 nw, .int .i64 us] Vw)) (by kernel_rfl) ⟨TC, UC⟩ (fun hHeld => ?_)
    refine take_one 0 9 (v := ?_) rfl rfl (by kernel_rfl) (by kernel_rfl) (by kernel_rfl) (fun _ _ _ h => h) (Or.inl ⟨by rfl, ?_⟩) hHeld ?_
    rotate_left
    · intro w' hSw; (try dsimp only at hSw); have d0 := hSw.1.at 0 rfl; have d1 := hSw.1.at 1 rfl; have d2 := hSw.1.at 2 rfl; have e0 := hSw.2.at 0 rfl; have e1 := hSw.2.at 1 rfl; have e2 := hSw.2.at 2 rfl; have e3 := hSw.2.at 3 rfl; have e4 := hSw.2.at 4 rfl; go_simp; try with_reducible rfl
    try simp only [Act.put, List.setIfInBounds_toArray, List.set_cons_zero, List.set_cons_succ]
    refine take_one 2 11 (v := ?_) rfl rfl (by kernel_rfl) (by kernel_rfl) (by kernel_rfl) (fun _ _ _ h => h) (Or.inl ⟨by rfl, ?_⟩) hHeld ?_
    rotate_left
    · intro w' hSw; (try dsimp only at hSw); have d0 := hSw.1.at 0 rfl; have d1 := hSw.1.at 1 rfl; have d2 := hSw.1.at 2 rfl; have e0 := hSw.2.at 0 rfl; have e1 := hSw.2.at 1 rfl; have e2 := hSw.2.at 2 rfl; have e3 := hSw.2.at 3 rfl; have e4 := hSw.2.at 4 rfl; go_simp; try with_reducible rfl
    try simp only [Act.put, List.setIfInBounds_toArray, List.set_cons_zero, List.set_cons_succ]
    refine take_one 3 12 (v := ?_) rfl rfl (by kernel_rfl) (by kernel_rfl) (by kernel_rfl) (fun _ _ _ h => h) (Or.inl ⟨by rfl, ?_⟩) hHeld ?_
    rotate_left
    · intro w' hSw; (try dsimp only at hSw); have d0 := hSw.1.at 0 rfl; have d1 := hSw.1.at 1 rfl; have d2 := hSw.1.at 2 rfl; have e0 := hSw.2.at 0 rfl; have e1 := hSw.2.at 1 rfl; have e2 := hSw.2.at 2 rfl; have e3 := hSw.2.at 3 rfl; have e4 := hSw.2.at 4 rfl; go_simp; try with_reducible rfl
    try simp only [Act.put, List.setIfInBounds_toArray, List.set_cons_zero, List.set_cons_succ]
    refine wpAnyH_ready (rs := [1]) (by kernel_rfl) (by simp) ?_
    refine AllReadyH.cons (i := 1) rfl (fun K hK => ?_) AllReadyH.nil
    go_simp
    refine (numbers_is k n hr2 hwf hl3).mono ?_
    rintro en w1 ⟨g1, rfl, hg1, hs1, hb⟩
    replace TC := TC.later hb TC.lt
    replace UC := UC.later hb UC.lt
    replace hr2 := hr2.later hb
    replace hg2 := hg2.later hb
    replace BC := BC.trans (hb.mono BC.size)
    clear hb
    go_wp2_with fail
    refine hK.out _ _ ⟨TC, UC⟩ (fun hHeld2 => ?_)
    clear hK K hHeld
    have hHeld := hHeld2
    clear hHeld2
    try simp only [Act.put, List.setIfInBounds_toArray, List.set_cons_zero, List.set_cons_succ]
    refine wpAnyH_ready (rs := [4]) (by kernel_rfl) (by simp) ?_
    refine AllReadyH.cons (i := 4) rfl (fun K hK => ?_) AllReadyH.nil
    go_simp
    refine (has_is g1 xs sv hw.1 _ hs1).mono ?_
    rintro en w2 ⟨rfl, hb⟩
    replace TC := TC.later hb TC.lt
    replace UC := UC.later hb UC.lt
    replace hr2 := hr2.later hb
    replace hg2 := hg2.later hb
    replace BC := BC.trans (hb.mono BC.size)
    clear hb
    go_wp2_with fail
    refine hK.out _ _ ⟨TC, UC⟩ (fun hHeld2 => ?_)
    clear hK K hHeld
    have hHeld := hHeld2
    clear hHeld2
    try simp only [Act.put, List.setIfInBounds_toArray, List.set_cons_zero, List.set_cons_succ]
    refine take_one 5 4 (v := ?_) rfl rfl (by kernel_rfl) (by kernel_rfl) (by kernel_rfl) (fun _ _ _ h => h) (Or.inl ⟨by rfl, ?_⟩) hHeld ?_
    rotate_left
    · intro w' hSw; (try dsimp only at hSw); go_simp; try with_reducible rfl
    try simp only [Act.put, List.setIfInBounds_toArray, List.set_cons_zero, List.set_cons_succ]
    refine wpAnyH_done (by kernel_rfl) ?_ _
    go_wp2_with fail
    go_ret
    exact ⟨by rw [HV.out]; simp, BC⟩
  · have q1 : (k == 1) = false := beq_eq_false_iff_ne.2 h1
    by_cases h2 : k = 2
    · have q2 : (k == 2) = true := beq_iff_eq.2 h2
      have HV : Hid (ok = xs.contains op) := by show _ = _; rw [HE.out, if_neg h1, if_pos h2]
      clear HE
      clear h1 h2
      go_wp2_with fail
      replace TC := TC.drew
      replace UC := UC.drew
      replace BC := BC.drew
      replace hr2 := hr2.drew
      replace hg2 := hg2.drew
      refine wp_region_held_drew (S := (fun Vw => Blk w.heap.size [.int .i64 k, .slice a xs.length cap, .int .i64 n] Vw ∧ Blk (w.heap.size + 1) [.int .i64 sv, .int .i64 op, .slice ga gs.length gc, .int .i64 nw, .int .i64 us] Vw)) (by kernel_rfl) ⟨TC, UC⟩ (fun hHeld => ?_)
      refine take_one 0 16 (v := ?_) rfl rfl (by kernel_rfl) (by kernel_rfl) (by kernel_rfl) (fun _ _ _ h => h) (Or.inl ⟨by rfl, ?_⟩) hHeld ?_
      rotate_left
      · intro w' hSw; (try dsimp only at hSw); have d0 := hSw.1.at 0 rfl; have d1 := hSw.1.at 1 rfl; have d2 := hSw.1.at 2 rfl; have e0 := hSw.2.at 0 rfl; have e1 := hSw.2.at 1 rfl; have e2 := hSw.2.at 2 rfl; have e3 := hSw.2.at 3 rfl; have e4 := hSw.2.at 4 rfl; go_simp; try with_reducible rfl
      try simp only [Act.put, List.setIfInBounds_toArray, List.set_cons_zero, List.set_cons_succ]
      refine take_one 2 18 (v := ?_) rfl rfl (by kernel_rfl) (by kernel_rfl) (by kernel_rfl) (fun _ _ _ h => h) (Or.inl ⟨by rfl, ?_⟩) hHeld ?_
      rotate_left
      · intro w' hSw; (try dsimp only at hSw); have d0 := hSw.1.at 0 rfl; have d1 := hSw.1.at 1 rfl; have d2 := hSw.1.at 2 rfl; have e0 := hSw.2.at 0 rfl; have e1 := hSw.2.at 1 rfl; have e2 := hSw.2.at 2 rfl; have e3 := hSw.2.at 3 rfl; have e4 := hSw.2.at 4 rfl; go_simp; try with_reducible rfl
      try simp only [Act.put, List.setIfInBounds_toArray, List.set_cons_zero, List.set_cons_succ]
      refine take_one 3 19 (v := ?_) rfl rfl (by kernel_rfl) (by kernel_rfl) (by kernel_rfl) (fun _ _ _ h => h) (Or.inl ⟨by rfl, ?_⟩) hHeld ?_
      rotate_left
      · intro w' hSw; (try dsimp only at hSw); have d0 := hSw.1.at 0 rfl; have d1 := hSw.1.at 1 rfl; have d2 := hSw.1.at 2 rfl; have e0 := hSw.2.at 0 rfl; have e1 := hSw.2.at 1 rfl; have e2 := hSw.2.at 2 rfl; have e3 := hSw.2.at 3 rfl; have e4 := hSw.2.at 4 rfl; go_simp; try with_reducible rfl
      try simp only [Act.put, List.setIfInBounds_toArray, List.set_cons_zero, List.set_cons_succ]
      refine wpAnyH_ready (rs := [1]) (by kernel_rfl) (by simp) ?_
      refine AllReadyH.cons (i := 1) rfl (fun K hK => ?_) AllReadyH.nil
      go_simp
      refine (numbers_is k n hr2 hwf hl3).mono ?_
      rintro en w1 ⟨g1, rfl, hg1, hs1, hb⟩
      replace TC := TC.later hb TC.lt
      replace UC := UC.later hb UC.lt
      replace hr2 := hr2.later hb
      replace hg2 := hg2.later hb
      replace BC := BC.trans (hb.mono BC.size)
      clear hb
      go_wp2_with fail
      refine hK.out _ _ ⟨TC, UC⟩ (fun hHeld2 => ?_)
      clear hK K hHeld
      have hHeld := hHeld2
      clear hHeld2
      try simp only [Act.put, List.setIfInBounds_toArray, List.set_cons_zero, List.set_cons_succ]
      refine wpAnyH_ready (rs := [4]) (by kernel_rfl) (by simp) ?_
      refine AllReadyH.cons (i := 4) rfl (fun K hK => ?_) AllReadyH.nil
      go_simp
      refine (has_is g1 xs op hw.2.1 _ hs1).mono ?_
      rintro en w2 ⟨rfl, hb⟩
      replace TC := TC.later hb TC.lt
      replace UC := UC.later hb UC.lt
      replace hr2 := hr2.later hb
      replace hg2 := hg2.later hb
      replace BC := BC.trans (hb.mono BC.size)
      clear hb
      go_wp2_with fail
      refine hK.out _ _ ⟨TC, UC⟩ (fun hHeld2 => ?_)
      clear hK K hHeld
      have hHeld := hHeld2
      clear hHeld2
      try simp only [Act.put, List.setIfInBounds_toArray, List.set_cons_zero, List.set_cons_succ]
      refine take_one 5 4 (v := ?_) rfl rfl (by kernel_rfl) (by kernel_rfl) (by kernel_rfl) (fun _ _ _ h => h) (Or.inl ⟨by rfl, ?_⟩) hHeld ?_
      rotate_left
      · intro w' hSw; (try dsimp only at hSw); go_simp; try with_reducible rfl
      try simp only [Act.put, List.setIfInBounds_toArray, List.set_cons_zero, List.set_cons_succ]
      refine wpAnyH_done (by kernel_rfl) ?_ _
      go_wp2_with fail
      go_ret
      exact ⟨by rw [HV.out]; simp, BC⟩
    · have q2 : (k == 2) = false := beq_eq_false_iff_ne.2 h2
      by_cases h3 : k = 3
      · have q3 : (k == 3) = true := beq_iff_eq.2 h3
        have HV : Hid (ok = xs.all (fun m => gs.contains m)) := by show _ = _; rw [HE.out, if_neg h1, if_neg h2, if_pos h3]
        clear HE
        clear h1 h2 h3
        go_wp2_with fail
        replace TC := TC.drew
        replace UC := UC.drew
        replace BC := BC.drew
        replace hr2 := hr2.drew
        replace hg2 := hg2.drew
        refine wp_region_held_drew (S := (fun Vw => Blk w.heap.size [.int .i64 k, .slice a xs.length cap, .int .i64 n] Vw ∧ Blk (w.heap.size + 1) [.int .i64 sv, .int .i64 op, .slice ga gs.length gc, .int .i64 nw, .int .i64 us] Vw)) (by kernel_rfl) ⟨TC, UC⟩ (fun hHeld => ?_)
        refine take_one 0 23 (v := ?_) rfl rfl (by kernel_rfl) (by kernel_rfl) (by kernel_rfl) (fun _ _ _ h => h) (Or.inl ⟨by rfl, ?_⟩) hHeld ?_
        rotate_left
        · intro w' hSw; (try dsimp only at hSw); have d0 := hSw.1.at 0 rfl; have d1 := hSw.1.at 1 rfl; have d2 := hSw.1.at 2 rfl; have e0 := hSw.2.at 0 rfl; have e1 := hSw.2.at 1 rfl; have e2 := hSw.2.at 2 rfl; have e3 := hSw.2.at 3 rfl; have e4 := hSw.2.at 4 rfl; go_simp; try with_reducible rfl
        try simp only [Act.put, List.setIfInBounds_toArray, List.set_cons_zero, List.set_cons_succ]
        refine take_one 2 25 (v := ?_) rfl rfl (by kernel_rfl) (by kernel_rfl) (by kernel_rfl) (fun _ _ _ h => h) (Or.inl ⟨by rfl, ?_⟩) hHeld ?_
        rotate_left
        · intro w' hSw; (try dsimp only at hSw); have d0 := hSw.1.at 0 rfl; have d1 := hSw.1.at 1 rfl; have d2 := hSw.1.at 2 rfl; have e0 := hSw.2.at 0 rfl; have e1 := hSw.2.at 1 rfl; have e2 := hSw.2.at 2 rfl; have e3 := hSw.2.at 3 rfl; have e4 := hSw.2.at 4 rfl; go_simp; try with_reducible rfl
        try simp only [Act.put, List.setIfInBounds_toArray, List.set_cons_zero, List.set_cons_succ]
        refine take_one 3 26 (v := ?_) rfl rfl (by kernel_rfl) (by kernel_rfl) (by kernel_rfl) (fun _ _ _ h => h) (Or.inl ⟨by rfl, ?_⟩) hHeld ?_
        rotate_left
        · intro w' hSw; (try dsimp only at hSw); have d0 := hSw.1.at 0 rfl; have d1 := hSw.1.at 1 rfl; have d2 := hSw.1.at 2 rfl; have e0 := hSw.2.at 0 rfl; have e1 := hSw.2.at 1 rfl; have e2 := hSw.2.at 2 rfl; have e3 := hSw.2.at 3 rfl; have e4 := hSw.2.at 4 rfl; go_simp; try with_reducible rfl
        try simp only [Act.put, List.setIfInBounds_toArray, List.set_cons_zero, List.set_cons_succ]
        refine wpAnyH_ready (rs := [1]) (by kernel_rfl) (by simp) ?_
        refine AllReadyH.cons (i := 1) rfl (fun K hK => ?_) AllReadyH.nil
        go_simp
        refine (numbers_is k n hr2 hwf hl3).mono ?_
        rintro en w1 ⟨g1, rfl, hg1, hs1, hb⟩
        replace TC := TC.later hb TC.lt
        replace UC := UC.later hb UC.lt
        replace hr2 := hr2.later hb
        replace hg2 := hg2.later hb
        replace BC := BC.trans (hb.mono BC.size)
        clear hb
        go_wp2_with fail
        refine hK.out _ _ ⟨TC, UC⟩ (fun hHeld2 => ?_)
        clear hK K hHeld
        have hHeld := hHeld2
        clear hHeld2
        try simp only [Act.put, List.setIfInBounds_toArray, List.set_cons_zero, List.set_cons_succ]
        refine wpAnyH_ready (rs := [4]) (by kernel_rfl) (by simp) ?_
        refine AllReadyH.cons (i := 4) rfl (fun K hK => ?_) AllReadyH.nil
        go_simp
        refine (vals_is (cap := gc) hg2 hw.2.2 hgl3).mono ?_
        rintro en w2 ⟨Bs, rfl, hBs, hi1, hb⟩
        replace TC := TC.later hb TC.lt
        replace UC := UC.later hb UC.lt
        replace hr2 := hr2.later hb
        replace hg2 := hg2.later hb
        replace BC := BC.trans (hb.mono BC.size)
        have hs2 := hs1.later hb
        clear hb
        go_wp2_with fail
        refine hK.out _ _ ⟨TC, UC⟩ (fun hHeld2 => ?_)
        clear hK K hHeld
        have hHeld := hHeld2
        clear hHeld2
        try simp only [Act.put, List.setIfInBounds_toArray, List.set_cons_zero, List.set_cons_succ]
        refine wpAnyH_ready (rs := [5]) (by kernel_rfl) (by simp) ?_
        refine AllReadyH.cons (i := 5) rfl (fun K hK => ?_) AllReadyH.nil
        go_simp
        refine (allAmong_is hs2 hi1).mono ?_
        rintro en w3 ⟨rfl, hb⟩
        replace TC := TC.later hb TC.lt
        replace UC := UC.later hb UC.lt
        replace hr2 := hr2.later hb
        replace hg2 := hg2.later hb
        replace BC := BC.trans (hb.mono BC.size)
        clear hb
        go_wp2_with fail
        refine hK.out _ _ ⟨TC, UC⟩ (fun hHeld2 => ?_)
        clear hK K hHeld
        have hHeld := hHeld2
        clear hHeld2
        try simp only [Act.put, List.setIfInBounds_toArray, List.set_cons_zero, List.set_cons_succ]
        refine take_one 6 4 (v := ?_) rfl rfl (by kernel_rfl) (by kernel_rfl) (by kernel_rfl) (fun _ _ _ h => h) (Or.inl ⟨by rfl, ?_⟩) hHeld ?_
        rotate_left
        · intro w' hSw; (try dsimp only at hSw); go_simp; try with_reducible rfl
        try simp only [Act.put, List.setIfInBounds_toArray, List.set_cons_zero, List.set_cons_succ]
        refine wpAnyH_done (by kernel_rfl) ?_ _
        go_wp2_with fail
        go_ret
        exact ⟨by rw [HV.out]; simp, BC⟩
      · have q3 : (k == 3) = false := beq_eq_false_iff_ne.2 h3
        by_cases h4 : k = 4
        · have q4 : (k == 4) = true := beq_iff_eq.2 h4
          have HV : Hid (ok = decide (nw ≤ n)) := by show _ = _; rw [HE.out, if_neg h1, if_neg h2, if_neg h3, if_pos h4]
          clear HE
          clear h1 h2 h3 h4
          by_cases hc : nw ≤ n
          · have HW : Hid (ok = true) := by show _ = _; rw [HV.out, decide_eq_true hc]
            clear HV
            go_wp2
            go_ret
            exact ⟨by rw [HW.out]; rfl, BC⟩
          · have HW : Hid (ok = false) := by show _ = _; rw [HV.out, decide_eq_false hc]
            clear HV
            go_wp2
            go_ret
            exact ⟨by rw [HW.out]; rfl, BC⟩
        · have q4 : (k == 4) = false := beq_eq_false_iff_ne.2 h4
          have HV : Hid (ok = decide (us < n)) := by show _ = _; rw [HE.out, if_neg h1, if_neg h2, if_neg h3, if_neg h4]
          clear HE h1 h2 h3 h4
          by_cases hc : us < n
          · have HW : Hid (ok = true) := by show _ = _; rw [HV.out, decide_eq_true hc]
            clear HV
            go_wp2
            go_ret
            exact ⟨by rw [HW.out]; rfl, BC⟩
          · have HW : Hid (ok = false) := by show _ = _; rw [HV.out, decide_eq_false hc]
            clear HV
            go_wp2
            go_ret
            exact ⟨by rw [HW.out]; rfl, BC⟩
set_option maxHeartbeats 3200000 in
theorem aclo_is (x : TT) (q : TA) (ap : Nat) (w : World) (hd : DpT w x) (hok : okP (stT x) = true) (hq : DpA w q) (hgl : q.2.2.1.2.2.length ≤ 1048576) (hwa : wfA (stA q)) (hap : ap < w.heap.size) (UC : Blk ap [.int .i64 q.1, .int .i64 q.2.1, .slice q.2.2.1.1 q.2.2.1.2.2.length q.2.2.1.2.1, .int .i64 q.2.2.2.1, .int .i64 q.2.2.2.2] w) :
    Calls Try.prog 60 #[vT x, .pointer (some ⟨ap, 0, none⟩)] w fun e w' => e = .returned (.bool (onP (stT x) (stA q))) ∧ Below w.heap.size w w' := by
  obtain ⟨V, hV⟩ : ∃ V, w.alloc (.cells #[.int .i64 x.1, .slice x.2.1.1 x.2.1.2.2.length x.2.1.2.1, .int .i64 x.2.2] 59) = V := ⟨_, rfl⟩
  have TV : Blk w.heap.size [.int .i64 x.1, .slice x.2.1.1 x.2.1.2.2.length x.2.1.2.1, .int .i64 x.2.2] V := by rw [← hV]; exact Blk.new _ _ _
  have BC : Below w.heap.size w V := by rw [← hV]; exact (Below.refl _ _).alloc (Nat.le_refl _) _
  have UV := UC.later BC hap
  have K := allows_is x q V (hd.later BC) hok (hq.later BC) hgl hwa
  generalize onP (stT x) (stA q) = ok at K ⊢
  have d0 := TV.at 0 rfl
  have d1 := TV.at 1 rfl
  have d2 := TV.at 2 rfl
  have e0 := UV.at 0 rfl
  have e1 := UV.at 1 rfl
  have e2 := UV.at 2 rfl
  have e3 := UV.at 3 rfl
  have e4 := UV.at 4 rfl
  clear hd hok hq UC TV UV
  go_enter Try.func60, Try.ntmps60
  go_wp2_with fail
  try rw [hV]
  refine K.mono ?_
  clear K d0 d1 d2 e0 e1 e2 e3 e4 hV
  rintro en v0 ⟨rfl, hb⟩
  replace BC := BC.trans (hb.mono BC.size)
  clear hb
  go_wp2
  go_ret
  exact ⟨rfl, BC⟩
set_option maxRecDepth 100000 in
set_option maxHeartbeats 3200000 in
theorem cloA_is (lp : Nat) (q : PA) (x : TT) (fp : Nat) (w : World) (hfp : fp < w.heap.size) (hc : w.cell? ⟨fp, 0, none⟩ = some (.func (.func 60) #[] #[.pointer (some ⟨lp, 0, none⟩)])) (HG : ∀ w', Below w.heap.size w w' → Calls Try.prog 60 #[.agg #[.int .i64 x.1, .slice x.2.1.1 x.2.1.2.2.length x.2.1.2.1, .int .i64 x.2.2], .pointer (some ⟨lp, 0, none⟩)] w' fun e w'' => e = .returned (.bool (onP (stT x) q)) ∧ Below w'.heap.size w' w'') :
    Calls Try.prog 81 #[.agg #[.int .i64 x.1, .slice x.2.1.1 x.2.1.2.2.length x.2.1.2.1, .int .i64 x.2.2], .pointer (some ⟨fp, 0, none⟩)] w fun e w' => e = .returned (.bool (!(onP (stT x) q))) ∧ Below w.heap.size w w' := by
  generalize onP (stT x) q = b at HG ⊢
  obtain ⟨V, hV⟩ : ∃ V, w.alloc (.cells #[.int .i64 x.1, .slice x.2.1.1 x.2.1.2.2.length x.2.1.2.1, .int .i64 x.2.2] 59) = V := ⟨_, rfl⟩
  have TV : Blk w.heap.size [.int .i64 x.1, .slice x.2.1.1 x.2.1.2.2.length x.2.1.2.1, .int .i64 x.2.2] V := by rw [← hV]; exact Blk.new _ _ _
  have BC : Below w.heap.size w V := by rw [← hV]; exact (Below.refl _ _).alloc (Nat.le_refl _) _
  have K1 := HG V BC
  have c0 := (BC.cell (p := ⟨fp, 0, none⟩) hfp).trans hc
  have d0 := TV.at 0 rfl
  have d1 := TV.at 1 rfl
  have d2 := TV.at 2 rfl
  clear HG
  go_enter Try.func81, Try.ntmps81
  go_wp2_with fail
  try rw [hV]
  refine K1.mono ?_
  clear K1
  rintro en v0 ⟨rfl, hb⟩
  replace BC := BC.trans (hb.mono BC.size)
  clear hb
  cases b with
  | true =>
    go_wp2
    go_ret
    exact ⟨rfl, BC⟩
  | false =>
    go_wp2
    go_ret
    exact ⟨rfl, BC⟩
set_option maxRecDepth 100000 in
set_option maxHeartbeats 3200000 in
theorem idxA_is (lp : Nat) (q : PA) (a : Option Addr) (cap : Nat) (xs : List TT) (fp : Nat) (w : World) (hr : FRow 3 cT w a xs) (hl : xs.length ≤ 1048576) (hfp : fp < w.heap.size) (hc : w.cell? ⟨fp, 0, none⟩ = some (.func (.func 60) #[] #[.pointer (some ⟨lp, 0, none⟩)])) (HG : ∀ x ∈ xs, ∀ w', Below w.heap.size w w' → Calls Try.prog 60 #[.agg #[.int .i64 x.1, .slice x.2.1.1 x.2.1.2.2.length x.2.1.2.1, .int .i64 x.2.2], .pointer (some ⟨lp, 0, none⟩)] w' fun e w'' => e = .returned (.bool (onP (stT x) q)) ∧ Below w'.heap.size w' w'') :
    Calls Try.prog 80 #[.slice a xs.length cap, .func (.func 81) #[] #[.pointer (some ⟨fp, 0, none⟩)]] w fun e w' => IdxP (xs.all (fun x => onP (stT x) q)) e ∧ Below w.heap.size w w' := by
  go_enter Try.func80, Try.ntmps80
  go_wp2
  go_loopw [8] (fun i wr => ∃ k : Nat, k ≤ xs.length ∧ i = .int .i64 k ∧ Hid (∀ j (h : j < xs.length), j < k → (fun x => onP (stT x) q) xs[j] = true) ∧ Below w.heap.size w wr) (fun i _ => xs.length - (intOf i).toNat)
  case atStart => exact ⟨0, by omega, rfl, fun j h hj => absurd hj (by omega), Below.refl _ _⟩
  case round =>
    obtain ⟨k, hk, rfl, hno, hbel⟩ := hrel
    by_cases hlt : k < xs.length
    · obtain ⟨b1, o1, rfl, l1, hcc⟩ := hr k hlt
      have c0 : wr.cell? ⟨b1, o1 + k * 3, none⟩ = some (.int .i64 xs[k].1) := (hbel.cell (p := ⟨b1, o1 + k * 3, none⟩) l1).trans (hcc 0 _ rfl)
      have c1 : wr.cell? ⟨b1, o1 + k * 3 + 1, none⟩ = some (.slice xs[k].2.1.1 xs[k].2.1.2.2.length xs[k].2.1.2.1) := (hbel.cell (p := ⟨b1, o1 + k * 3 + 1, none⟩) l1).trans (hcc 1 _ rfl)
      have c2 : wr.cell? ⟨b1, o1 + k * 3 + 2, none⟩ = some (.int .i64 xs[k].2.2) := (hbel.cell (p := ⟨b1, o1 + k * 3 + 2, none⟩) l1).trans (hcc 2 _ rfl)
      have hlt2 : (k : Int) < (xs.length : Int) := by omega
      have K1 := cloA_is lp q xs[k] fp wr (Nat.lt_of_lt_of_le hfp hbel.size) ((hbel.cell (p := ⟨fp, 0, none⟩) hfp).trans hc) (fun w' hb => HG xs[k] (List.getElem_mem hlt) w' (hbel.trans (hb.mono hbel.size)))
      have hno2 : (fun x => onP (stT x) q) xs[k] = true → Hid (∀ j (h : j < xs.length), j < k + 1 → (fun x => onP (stT x) q) xs[j] = true) := fun he j h hj => by
        by_cases e : j = k
        · subst e; exact he
        · exact hno.out j h (by omega)
      have hbad : (fun x => onP (stT x) q) xs[k] = false → Hid (xs.all (fun x => onP (stT x) q) = false) := fun he => by
        show _ = _
        rw [List.all_eq_false]
        exact ⟨xs[k], List.getElem_mem hlt, fun h => absurd (h.symm.trans he) (by decide)⟩
      clear HG hno
      generalize hxk : xs[k] = x at K1 hno2 hbad c0 c1 c2
      clear hxk hcc
      dsimp only at hno2 hbad
      generalize hb0 : onP (stT x) q = b at K1 hno2 hbad
      clear hb0
      go_wp2_with fail
      refine K1.mono ?_
      clear K1 c0 c1 c2
      rintro en v0 ⟨rfl, hb⟩
      replace hbel := hbel.trans (hb.mono hbel.size)
      clear hb
      cases b with
      | true =>
        have hno3 := hno2 rfl
        clear hno2 hbad
        go_wp2
        go_roundw
        case rel => exact ⟨k + 1, by omega, by go_num, hno3, hbel⟩
        case measure => simp [intOf]; omega
      | false =>
        have hbd := hbad rfl
        clear hno2 hbad
        go_wp2
        go_ret
        refine ⟨?_, hbel⟩
        rw [hbd.out]
        exact ⟨(k : Int), rfl, by simp⟩
    · have HV : Hid (xs.all (fun x => onP (stT x) q) = true) := by
        show _ = _
        rw [List.all_eq_true]
        intro x hx
        obtain ⟨j, hj, rfl⟩ := List.mem_iff_getElem.1 hx
        exact hno.out j hj (by omega)
      have hlt2 : ¬ (k : Int) < (xs.length : Int) := by omega
      clear hno HG hr
      go_wp2
      go_ret
      refine ⟨?_, hbel⟩
      rw [HV.out]
      exact ⟨-1, rfl, by simp⟩
set_option maxRecDepth 100000 in
set_option maxHeartbeats 3200000 in
theorem allA_is (lp : Nat) (q : PA) (a : Option Addr) (cap : Nat) (xs : List TT) (w : World) (hr : FRow 3 cT w a xs) (hl : xs.length ≤ 1048576) (HG : ∀ x ∈ xs, ∀ w', Below w.heap.size w w' → Calls Try.prog 60 #[.agg #[.int .i64 x.1, .slice x.2.1.1 x.2.1.2.2.length x.2.1.2.1, .int .i64 x.2.2], .pointer (some ⟨lp, 0, none⟩)] w' fun e w'' => e = .returned (.bool (onP (stT x) q)) ∧ Below w'.heap.size w' w'') :
    Calls Try.prog 48 #[.slice a xs.length cap, .func (.func 60) #[] #[.pointer (some ⟨lp, 0, none⟩)]] w fun e w' => e = .returned (.bool (xs.all (fun x => onP (stT x) q))) ∧ Below w.heap.size w w' := by
  obtain ⟨V, hV⟩ : ∃ V, w.alloc (.cells #[.func (.func 60) #[] #[.pointer (some ⟨lp, 0, none⟩)]] 65) = V := ⟨_, rfl⟩
  have TV : Blk w.heap.size [.func (.func 60) #[] #[.pointer (some ⟨lp, 0, none⟩)]] V := by rw [← hV]; exact Blk.new _ _ _
  have BC : Below w.heap.size w V := by rw [← hV]; exact (Below.refl _ _).alloc (Nat.le_refl _) _
  have sV : w.heap.size < V.heap.size := by rw [← hV]; simp
  have K1 := idxA_is lp q a cap xs w.heap.size V (hr.later BC) hl sV (TV.at 0 rfl) (fun x hx w' hb => HG x hx w' (BC.trans (hb.mono BC.size)))
  clear HG hr TV sV
  generalize xs.all (fun x => onP (stT x) q) = b at K1 ⊢
  have K2 : Calls Try.prog 46 #[.slice a xs.length cap, .func (.func 81) #[] #[.pointer (some ⟨w.heap.size, 0, none⟩)]] V fun e w' => e = .returned (.bool (!b)) ∧ Below V.heap.size V w' := by
    go_enter Try.func46, Try.ntmps46
    go_wp2_with fail
    refine K1.mono ?_
    clear K1
    rintro en v0 ⟨⟨r, rfl, hd⟩, hb⟩
    cases b with
    | true =>
      have hr2 : ¬ (0 ≤ r) := by simpa using hd
      go_wp2
      go_ret
      exact ⟨rfl, hb⟩
    | false =>
      have hr2 : 0 ≤ r := by simpa using hd
      go_wp2
      go_ret
      exact ⟨rfl, hb⟩
  clear K1
  go_enter Try.func48, Try.ntmps48
  go_wp2_with fail
  try rw [hV]
  refine K2.mono ?_
  clear K2
  rintro en v0 ⟨rfl, hb⟩
  replace BC := BC.trans (hb.mono BC.size)
  clear hb
  cases b with
  | true =>
    go_wp2
    go_ret
    exact ⟨rfl, BC⟩
  | false =>
    go_wp2
    go_ret
    exact ⟨rfl, BC⟩
set_option maxHeartbeats 3200000 in
theorem implAllows_is (r : Rw TT) (q : TA) (w : World) (hr : RpT w r) (hl : ∀ x ∈ r.2.2, x.2.1.2.2.length ≤ 1048576) (hx : r.2.2.length ≤ 1048576) (hq : DpA w q) (hgl : q.2.2.1.2.2.length ≤ 1048576) (hwa : wfA (stA q)) :
    Calls Try.prog 24 #[.slice r.1 r.2.2.length r.2.1, vA q] w fun e w' => e = .returned (.bool (alB (rsT r) (stA q))) ∧ Below w.heap.size w w' := by
  obtain ⟨V, hV⟩ : ∃ V, w.alloc (.cells #[.int .i64 q.1, .int .i64 q.2.1, .slice q.2.2.1.1 q.2.2.1.2.2.length q.2.2.1.2.1, .int .i64 q.2.2.2.1, .int .i64 q.2.2.2.2] 34) = V := ⟨_, rfl⟩
  have UC : Blk w.heap.size [.int .i64 q.1, .int .i64 q.2.1, .slice q.2.2.1.1 q.2.2.1.2.2.length q.2.2.1.2.1, .int .i64 q.2.2.2.1, .int .i64 q.2.2.2.2] V := by rw [← hV]; exact Blk.new _ _ _
  have BC : Below w.heap.size w V := by rw [← hV]; exact (Below.refl _ _).alloc (Nat.le_refl _) _
  have hlv : w.heap.size < V.heap.size := by rw [← hV]; simp
  have K0 := implRulesOk_is r V (hr.later BC) hl hx
  obtain ⟨a, cap, xs⟩ := r
  dsimp only at hl hx K0 ⊢
  have hrow : FRow 3 cT w a xs := hr.1
  have hdp : ∀ x ∈ xs, DpT w x := hr.2
  clear hr
  have HE : Hid (alB (rsT (a, cap, xs)) (stA q) = (okL (rsT (a, cap, xs)) && xs.all (fun x => onP (stT x) (stA q)))) := by
    show _ = _
    unfold alB
    congr 1
    unfold rsT
    rw [List.all_map]; rfl
  have HO : Hid (okL (rsT (a, cap, xs)) = true → ∀ x ∈ xs, okP (stT x) = true) := by
    intro h x hx2
    unfold okL at h
    rw [Bool.and_eq_true] at h
    exact List.all_eq_true.1 h.2 (stT x) (List.mem_map_of_mem hx2)
  generalize alB (rsT (a, cap, xs)) (stA q) = ok at HE ⊢
  generalize okL (rsT (a, cap, xs)) = bb at HE K0 HO
  go_enter Try.func24, Try.ntmps24
  go_wp2_with fail
  try rw [hV]
  refine K0.mono ?_
  clear K0
  rintro en w1 ⟨rfl, b1⟩
  have UC1 := UC.later b1 hlv
  have BC1 := BC.trans (b1.mono BC.size)
  have hlv1 : w.heap.size < w1.heap.size := Nat.lt_of_lt_of_le hlv b1.size
  clear b1 UC hV hlv BC
  cases bb with
  | false =>
    have HV : Hid (ok = false) := by show _ = _; rw [HE.out]; rfl
    clear HE HO UC1
    go_wp2
    go_ret
    exact ⟨by rw [HV.out]; rfl, BC1⟩
  | true =>
    have HW : Hid (ok = xs.all (fun x => onP (stT x) (stA q))) := by show _ = _; rw [HE.out]; rfl
    clear HE
    have hok := HO.out rfl
    have K := allA_is w.heap.size (stA q) a cap xs w1 (hrow.later BC1) hx (fun x hx2 w' hb => aclo_is x q w.heap.size w' ((hdp x hx2).later (BC1.trans (hb.mono BC1.size))) (hok x hx2) (hq.later (BC1.trans (hb.mono BC1.size))) hgl hwa (Nat.lt_of_lt_of_le hlv1 hb.size) (UC1.later hb hlv1))
    clear HO hok UC1 hlv1 hrow hdp
    generalize xs.all (fun x => onP (stT x) (stA q)) = al at HW K
    go_wp2_with fail
    refine K.mono ?_
    clear K
    rintro en v0 ⟨rfl, hb⟩
    replace BC1 := BC1.trans (hb.mono BC1.size)
    clear hb
    go_wp2
    go_ret
    exact ⟨by rw [HW.out]; rfl, BC1⟩
end Go.Proofs.Ytjbbhegijlnndaa.Nd
