/- Do rules ask what a rule asks: the program. -/
import Derived.Test.YtjbbhegijlnndaaSt0
import Derived.Test.YtjbbhegijlnndaaRn2
set_option linter.unusedVariables false
set_option maxRecDepth 100000
namespace Go.Proofs.Ytjbbhegijlnndaa.Nd
open Go Go.RowKit Go.Joins Own Draw Go.Proofs.Ytjbbhegijlnndaa

theorem DpT.drew {w : World} {x : TT} (h : DpT w x) : DpT w.drew x := h
set_option maxHeartbeats 6400000 in
theorem asks_is (q : Rw TT) (r : TT) (w : World) (hq : RpT w q) (hok : okL (rsT q) = true) (hr : DpT w r) (hrk : okP (stT r) = true) :
    Calls Try.prog 50 #[.slice q.1 q.2.2.length q.2.1, vT r] w fun e w' => e = .returned (.bool (asksP (rsT q) (stT r))) ∧ Below w.heap.size w w' := by
  obtain ⟨V, hV⟩ : ∃ V, w.alloc (.cells #[.int .i64 r.1, .slice r.2.1.1 r.2.1.2.2.length r.2.1.2.1, .int .i64 r.2.2] 59) = V := ⟨_, rfl⟩
  have BC : Below w.heap.size w V := by rw [← hV]; exact (Below.refl _ _).alloc (Nat.le_refl _) _
  have UC : Blk w.heap.size [.int .i64 r.1, .slice r.2.1.1 r.2.1.2.2.length r.2.1.2.1, .int .i64 r.2.2] V := by rw [← hV]; exact Blk.new _ _ _
  have rr : riB (-1) r.2.1.2.2 = true := okP_set hrk
  have lr := ri_len rr
  have K0 := ofKind_is q r.1 V (hq.later BC) hok
  have HAC : Hid (AccOk r.1 (ofK r.1 (rsT q))) := ofK_ok r.1 _ _ rfl (okL_mem hok).2
  have HC : Hid (asksP (rsT q) (stT r) = condK r.1 (ofK r.1 (rsT q)) (stT r, true)) := (rfl : asksP (rsT q) (stT r) = _)
  generalize asksP (rsT q) (stT r) = ans at HC ⊢
  generalize ofK r.1 (rsT q) = f at K0 HAC HC
  obtain ⟨p, b⟩ := f
  have q0 := UC.at 0 rfl
  have q1 := UC.at 1 rfl
  have q2 := UC.at 2 rfl
  clear hok hrk hq
  go_enter Try.func50, Try.ntmps50
  go_wp2_with fail
  try rw [hV]
  refine K0.mono ?_
  clear K0 hV
  rintro en W1 ⟨⟨y, rfl, hy, oy⟩, hb⟩
  dsimp only at hy ⊢
  have hys := hb.size
  have hVs := UC.lt
  replace UC := UC.later hb UC.lt
  replace BC := BC.trans (hb.mono BC.size)
  have hr2 := hr.later BC
  have hy2 := oy.dp
  clear hb oy hr q0 q1 q2
  obtain ⟨W, hW⟩ : ∃ Z, W1.alloc (.cells #[.int .i64 y.1, .slice y.2.1.1 y.2.1.2.2.length y.2.1.2.1, .int .i64 y.2.2] 59) = Z := ⟨_, rfl⟩
  have XA : Below W1.heap.size W1 W := by rw [← hW]; exact (Below.refl _ _).alloc (Nat.le_refl _) _
  have TC : Blk W1.heap.size [.int .i64 y.1, .slice y.2.1.1 y.2.1.2.2.length y.2.1.2.1, .int .i64 y.2.2] W := by rw [← hW]; exact Blk.new _ _ _
  replace UC := UC.later XA UC.lt
  replace BC := BC.trans (XA.mono BC.size)
  replace hr2 := hr2.later XA
  replace hy2 := hy2.later XA
  clear XA
  obtain ⟨yb, hyb⟩ : ∃ yb, W1.heap.size = yb := ⟨_, rfl⟩
  rw [hyb] at TC
  have ry : riB (-1) y.2.1.2.2 = true := by have h_ := acc_rise HAC.out; dsimp only at h_; rw [← hy] at h_; exact h_
  have ly := ri_len ry
  have HY : Hid (stT y = p) := hy
  clear hy HAC
  have q0 := UC.at 0 rfl
  have q1 := UC.at 1 rfl
  have q2 := UC.at 2 rfl
  have p0 := TC.at 0 rfl
  have p1 := TC.at 1 rfl
  have p2 := TC.at 2 rfl
  by_cases hk : r.1 = 1 ∨ r.1 = 2
  · have HA : Hid (ans = (b && y.2.1.2.2.all (fun n => r.2.1.2.2.contains n))) := by
      show _ = _
      rw [HC.out, ← HY.out]
      unfold condK
      rw [if_pos hk]
      rfl
    have HK : Hid (r.1 = 1 ∨ r.1 = 2) := hk
    clear HC HY
    cases b with
    | false =>
      have HA2 : Hid (ans = false) := by show _ = _; rw [HA.out]; rfl
      clear HA
      by_cases h1 : r.1 = 1
      · have e1 : (r.1 == 1) = true := beq_iff_eq.2 h1
        clear h1 hk
        go_wp2_with fail
        try rw [hW]
        try rw [hyb]
        clear q0 q1 q2 p0 p1 p2 hW hyb
        replace UC := UC.drew
        replace TC := TC.drew
        replace BC := BC.drew
        replace hr2 := hr2.drew
        replace hy2 := hy2.drew
        refine wp_region_held_drew (S := (fun Vw => Blk w.heap.size [.int .i64 r.1, .slice r.2.1.1 r.2.1.2.2.length r.2.1.2.1, .int .i64 r.2.2] Vw ∧ Blk yb [.int .i64 y.1, .slice y.2.1.1 y.2.1.2.2.length y.2.1.2.1, .int .i64 y.2.2] Vw)) (by kernel_rfl) ⟨UC, TC⟩ (fun hHeld => ?_)
        refine take_one 0 19 (v := ?_) rfl rfl (by kernel_rfl) (by kernel_rfl) (by kernel_rfl) (fun _ _ _ h => h) (Or.inl ⟨by rfl, ?_⟩) hHeld ?_
        rotate_left
        · intro w' hSw; (try dsimp only at hSw); obtain ⟨hU_, hV_⟩ := hSw; have d0 := hU_.at 0 rfl; have d1 := hU_.at 1 rfl; have d2 := hU_.at 2 rfl; have e0 := hV_.at 0 rfl; have e1 := hV_.at 1 rfl; have e2 := hV_.at 2 rfl; go_simp; try with_reducible rfl
        try simp only [Act.put, List.setIfInBounds_toArray, List.set_cons_zero, List.set_cons_succ]
        refine take_one 1 20 (v := ?_) rfl rfl (by kernel_rfl) (by kernel_rfl) (by kernel_rfl) (fun _ _ _ h => h) (Or.inl ⟨by rfl, ?_⟩) hHeld ?_
        rotate_left
        · intro w' hSw; (try dsimp only at hSw); obtain ⟨hU_, hV_⟩ := hSw; have d0 := hU_.at 0 rfl; have d1 := hU_.at 1 rfl; have d2 := hU_.at 2 rfl; have e0 := hV_.at 0 rfl; have e1 := hV_.at 1 rfl; have e2 := hV_.at 2 rfl; go_simp; try with_reducible rfl
        try simp only [Act.put, List.setIfInBounds_toArray, List.set_cons_zero, List.set_cons_succ]
        refine skip_one 2 21 rfl rfl (by kernel_rfl) (by kernel_rfl) (by kernel_rfl) (fun _ _ _ h => h) (unwanted (c := false) rfl rfl (by simp) rfl) hHeld ?_
        try simp only [Act.put, List.setIfInBounds_toArray, List.set_cons_zero, List.set_cons_succ]
        refine skip_one 3 22 rfl rfl (by kernel_rfl) (by kernel_rfl) (by kernel_rfl) (fun _ _ _ h => h) (unwanted (c := false) rfl rfl (by simp) rfl) hHeld ?_
        try simp only [Act.put, List.setIfInBounds_toArray, List.set_cons_zero, List.set_cons_succ]
        refine skip_one 4 23 rfl rfl (by kernel_rfl) (by kernel_rfl) (by kernel_rfl) (fun _ _ _ h => h) (unwanted (c := false) rfl rfl (by simp) rfl) hHeld ?_
        try simp only [Act.put, List.setIfInBounds_toArray, List.set_cons_zero, List.set_cons_succ]
        refine skip_one 5 24 rfl rfl (by kernel_rfl) (by kernel_rfl) (by kernel_rfl) (fun _ _ _ h => h) (unwanted (c := false) rfl rfl (by simp) rfl) hHeld ?_
        try simp only [Act.put, List.setIfInBounds_toArray, List.set_cons_zero, List.set_cons_succ]
        refine skip_one 6 25 rfl rfl (by kernel_rfl) (by kernel_rfl) (by kernel_rfl) (fun _ _ _ h => h) (unwanted (c := false) rfl rfl (by simp) rfl) hHeld ?_
        try simp only [Act.put, List.setIfInBounds_toArray, List.set_cons_zero, List.set_cons_succ]
        refine skip_one 7 26 rfl rfl (by kernel_rfl) (by kernel_rfl) (by kernel_rfl) (fun _ _ _ h => h) (unwanted (c := false) rfl rfl (by simp) rfl) hHeld ?_
        try simp only [Act.put, List.setIfInBounds_toArray, List.set_cons_zero, List.set_cons_succ]
        refine take_one 8 27 (v := ?_) rfl rfl (by kernel_rfl) (by kernel_rfl) (by kernel_rfl) (fun _ _ _ h => h) (Or.inl ⟨by rfl, ?_⟩) hHeld ?_
        rotate_left
        · intro w' hSw; (try dsimp only at hSw); obtain ⟨hU_, hV_⟩ := hSw; have d0 := hU_.at 0 rfl; have d1 := hU_.at 1 rfl; have d2 := hU_.at 2 rfl; have e0 := hV_.at 0 rfl; have e1 := hV_.at 1 rfl; have e2 := hV_.at 2 rfl; go_simp; try with_reducible rfl
        try simp only [Act.put, List.setIfInBounds_toArray, List.set_cons_zero, List.set_cons_succ]
        refine take_one 9 4 (v := ?_) rfl rfl (by kernel_rfl) (by kernel_rfl) (by kernel_rfl) (fun _ _ _ h => h) (Or.inl ⟨by rfl, ?_⟩) hHeld ?_
        rotate_left
        · intro w' hSw; (try dsimp only at hSw); obtain ⟨hU_, hV_⟩ := hSw; have d0 := hU_.at 0 rfl; have d1 := hU_.at 1 rfl; have d2 := hU_.at 2 rfl; have e0 := hV_.at 0 rfl; have e1 := hV_.at 1 rfl; have e2 := hV_.at 2 rfl; go_simp; try with_reducible rfl
        try simp only [Act.put, List.setIfInBounds_toArray, List.set_cons_zero, List.set_cons_succ]
        refine wpAnyH_done (by kernel_rfl) ?_ _
        go_wp2_with fail
        go_ret
        exact ⟨by first | rfl | (rw [HA2.out]; rfl), BC⟩
      · have e1 : (r.1 == 1) = false := beq_eq_false_iff_ne.2 h1
        have e2 : (r.1 == 2) = true := beq_iff_eq.2 (hk.resolve_left h1)
        clear h1 hk
        go_wp2_with fail
        try rw [hW]
        try rw [hyb]
        clear q0 q1 q2 p0 p1 p2 hW hyb
        replace UC := UC.drew
        replace TC := TC.drew
        replace BC := BC.drew
        replace hr2 := hr2.drew
        replace hy2 := hy2.drew
        refine wp_region_held_drew (S := (fun Vw => Blk w.heap.size [.int .i64 r.1, .slice r.2.1.1 r.2.1.2.2.length r.2.1.2.1, .int .i64 r.2.2] Vw ∧ Blk yb [.int .i64 y.1, .slice y.2.1.1 y.2.1.2.2.length y.2.1.2.1, .int .i64 y.2.2] Vw)) (by kernel_rfl) ⟨UC, TC⟩ (fun hHeld => ?_)
        refine take_one 0 19 (v := ?_) rfl rfl (by kernel_rfl) (by kernel_rfl) (by kernel_rfl) (fun _ _ _ h => h) (Or.inl ⟨by rfl, ?_⟩) hHeld ?_
        rotate_left
        · intro w' hSw; (try dsimp only at hSw); obtain ⟨hU_, hV_⟩ := hSw; have d0 := hU_.at 0 rfl; have d1 := hU_.at 1 rfl; have d2 := hU_.at 2 rfl; have e0 := hV_.at 0 rfl; have e1 := hV_.at 1 rfl; have e2 := hV_.at 2 rfl; go_simp; try with_reducible rfl
        try simp only [Act.put, List.setIfInBounds_toArray, List.set_cons_zero, List.set_cons_succ]
        refine take_one 1 20 (v := ?_) rfl rfl (by kernel_rfl) (by kernel_rfl) (by kernel_rfl) (fun _ _ _ h => h) (Or.inl ⟨by rfl, ?_⟩) hHeld ?_
        rotate_left
        · intro w' hSw; (try dsimp only at hSw); obtain ⟨hU_, hV_⟩ := hSw; have d0 := hU_.at 0 rfl; have d1 := hU_.at 1 rfl; have d2 := hU_.at 2 rfl; have e0 := hV_.at 0 rfl; have e1 := hV_.at 1 rfl; have e2 := hV_.at 2 rfl; go_simp; try with_reducible rfl
        try simp only [Act.put, List.setIfInBounds_toArray, List.set_cons_zero, List.set_cons_succ]
        refine skip_one 2 21 rfl rfl (by kernel_rfl) (by kernel_rfl) (by kernel_rfl) (fun _ _ _ h => h) (unwanted (c := false) rfl rfl (by simp) rfl) hHeld ?_
        try simp only [Act.put, List.setIfInBounds_toArray, List.set_cons_zero, List.set_cons_succ]
        refine skip_one 3 22 rfl rfl (by kernel_rfl) (by kernel_rfl) (by kernel_rfl) (fun _ _ _ h => h) (unwanted (c := false) rfl rfl (by simp) rfl) hHeld ?_
        try simp only [Act.put, List.setIfInBounds_toArray, List.set_cons_zero, List.set_cons_succ]
        refine skip_one 4 23 rfl rfl (by kernel_rfl) (by kernel_rfl) (by kernel_rfl) (fun _ _ _ h => h) (unwanted (c := false) rfl rfl (by simp) rfl) hHeld ?_
        try simp only [Act.put, List.setIfInBounds_toArray, List.set_cons_zero, List.set_cons_succ]
        refine skip_one 5 24 rfl rfl (by kernel_rfl) (by kernel_rfl) (by kernel_rfl) (fun _ _ _ h => h) (unwanted (c := false) rfl rfl (by simp) rfl) hHeld ?_
        try simp only [Act.put, List.setIfInBounds_toArray, List.set_cons_zero, List.set_cons_succ]
        refine skip_one 6 25 rfl rfl (by kernel_rfl) (by kernel_rfl) (by kernel_rfl) (fun _ _ _ h => h) (unwanted (c := false) rfl rfl (by simp) rfl) hHeld ?_
        try simp only [Act.put, List.setIfInBounds_toArray, List.set_cons_zero, List.set_cons_succ]
        refine skip_one 7 26 rfl rfl (by kernel_rfl) (by kernel_rfl) (by kernel_rfl) (fun _ _ _ h => h) (unwanted (c := false) rfl rfl (by simp) rfl) hHeld ?_
        try simp only [Act.put, List.setIfInBounds_toArray, List.set_cons_zero, List.set_cons_succ]
        refine take_one 8 27 (v := ?_) rfl rfl (by kernel_rfl) (by kernel_rfl) (by kernel_rfl) (fun _ _ _ h => h) (Or.inl ⟨by rfl, ?_⟩) hHeld ?_
        rotate_left
        · intro w' hSw; (try dsimp only at hSw); obtain ⟨hU_, hV_⟩ := hSw; have d0 := hU_.at 0 rfl; have d1 := hU_.at 1 rfl; have d2 := hU_.at 2 rfl; have e0 := hV_.at 0 rfl; have e1 := hV_.at 1 rfl; have e2 := hV_.at 2 rfl; go_simp; try with_reducible rfl
        try simp only [Act.put, List.setIfInBounds_toArray, List.set_cons_zero, List.set_cons_succ]
        refine take_one 9 4 (v := ?_) rfl rfl (by kernel_rfl) (by kernel_rfl) (by kernel_rfl) (fun _ _ _ h => h) (Or.inl ⟨by rfl, ?_⟩) hHeld ?_
        rotate_left
        · intro w' hSw; (try dsimp only at hSw); obtain ⟨hU_, hV_⟩ := hSw; have d0 := hU_.at 0 rfl; have d1 := hU_.at 1 rfl; have d2 := hU_.at 2 rfl; have e0 := hV_.at 0 rfl; have e1 := hV_.at 1 rfl; have e2 := hV_.at 2 rfl; go_simp; try with_reducible rfl
        try simp only [Act.put, List.setIfInBounds_toArray, List.set_cons_zero, List.set_cons_succ]
        refine wpAnyH_done (by kernel_rfl) ?_ _
        go_wp2_with fail
        go_ret
        exact ⟨by first | rfl | (rw [HA2.out]; rfl), BC⟩
    | true =>
      have HA2 : Hid (ans = y.2.1.2.2.all (fun n => r.2.1.2.2.contains n)) := by show _ = _; rw [HA.out]; rfl
      clear HA
      by_cases h1 : r.1 = 1
      · have e1 : (r.1 == 1) = true := beq_iff_eq.2 h1
        clear h1 hk
        go_wp2_with fail
        try rw [hW]
        try rw [hyb]
        clear q0 q1 q2 p0 p1 p2 hW hyb
        replace UC := UC.drew
        replace TC := TC.drew
        replace BC := BC.drew
        replace hr2 := hr2.drew
        replace hy2 := hy2.drew
        refine wp_region_held_drew (S := (fun Vw => Blk w.heap.size [.int .i64 r.1, .slice r.2.1.1 r.2.1.2.2.length r.2.1.2.1, .int .i64 r.2.2] Vw ∧ Blk yb [.int .i64 y.1, .slice y.2.1.1 y.2.1.2.2.length y.2.1.2.1, .int .i64 y.2.2] Vw)) (by kernel_rfl) ⟨UC, TC⟩ (fun hHeld => ?_)
        refine take_one 0 19 (v := ?_) rfl rfl (by kernel_rfl) (by kernel_rfl) (by kernel_rfl) (fun _ _ _ h => h) (Or.inl ⟨by rfl, ?_⟩) hHeld ?_
        rotate_left
        · intro w' hSw; (try dsimp only at hSw); obtain ⟨hU_, hV_⟩ := hSw; have d0 := hU_.at 0 rfl; have d1 := hU_.at 1 rfl; have d2 := hU_.at 2 rfl; have e0 := hV_.at 0 rfl; have e1 := hV_.at 1 rfl; have e2 := hV_.at 2 rfl; go_simp; try with_reducible rfl
        try simp only [Act.put, List.setIfInBounds_toArray, List.set_cons_zero, List.set_cons_succ]
        refine take_one 1 20 (v := ?_) rfl rfl (by kernel_rfl) (by kernel_rfl) (by kernel_rfl) (fun _ _ _ h => h) (Or.inl ⟨by rfl, ?_⟩) hHeld ?_
        rotate_left
        · intro w' hSw; (try dsimp only at hSw); obtain ⟨hU_, hV_⟩ := hSw; have d0 := hU_.at 0 rfl; have d1 := hU_.at 1 rfl; have d2 := hU_.at 2 rfl; have e0 := hV_.at 0 rfl; have e1 := hV_.at 1 rfl; have e2 := hV_.at 2 rfl; go_simp; try with_reducible rfl
        try simp only [Act.put, List.setIfInBounds_toArray, List.set_cons_zero, List.set_cons_succ]
        refine take_one 2 21 (v := ?_) rfl rfl (by kernel_rfl) (by kernel_rfl) (by kernel_rfl) (fun _ _ _ h => h) (Or.inl ⟨by rfl, ?_⟩) hHeld ?_
        rotate_left
        · intro w' hSw; (try dsimp only at hSw); obtain ⟨hU_, hV_⟩ := hSw; have d0 := hU_.at 0 rfl; have d1 := hU_.at 1 rfl; have d2 := hU_.at 2 rfl; have e0 := hV_.at 0 rfl; have e1 := hV_.at 1 rfl; have e2 := hV_.at 2 rfl; go_simp; try with_reducible rfl
        try simp only [Act.put, List.setIfInBounds_toArray, List.set_cons_zero, List.set_cons_succ]
        refine take_one 4 23 (v := ?_) rfl rfl (by kernel_rfl) (by kernel_rfl) (by kernel_rfl) (fun _ _ _ h => h) (Or.inl ⟨by rfl, ?_⟩) hHeld ?_
        rotate_left
        · intro w' hSw; (try dsimp only at hSw); obtain ⟨hU_, hV_⟩ := hSw; have d0 := hU_.at 0 rfl; have d1 := hU_.at 1 rfl; have d2 := hU_.at 2 rfl; have e0 := hV_.at 0 rfl; have e1 := hV_.at 1 rfl; have e2 := hV_.at 2 rfl; go_simp; try with_reducible rfl
        try simp only [Act.put, List.setIfInBounds_toArray, List.set_cons_zero, List.set_cons_succ]
        refine wpAnyH_ready (rs := [3]) (by kernel_rfl) (by simp) ?_
        refine AllReadyH.cons (i := 3) rfl (fun K hK => ?_) AllReadyH.nil
        go_simp
        refine (numbers_is y.1 y.2.2 hy2 (wf_ri ry) (by omega)).mono ?_
        rintro en v1 ⟨g1, rfl, hg1, hs1, hb⟩
        replace UC := UC.later hb UC.lt
        replace TC := TC.later hb TC.lt
        replace hr2 := hr2.later hb
        replace hy2 := hy2.later hb
        replace BC := BC.trans (hb.mono BC.size)
        clear hb
        go_wp2_with fail
        refine hK.out _ _ ⟨UC, TC⟩ (fun hHeld2 => ?_)
        clear hK K hHeld
        have hHeld := hHeld2
        clear hHeld2
        try simp only [Act.put, List.setIfInBounds_toArray, List.set_cons_zero, List.set_cons_succ]
        refine wpAnyH_ready (rs := [5]) (by kernel_rfl) (by simp) ?_
        refine AllReadyH.cons (i := 5) rfl (fun K hK => ?_) AllReadyH.nil
        go_simp
        refine (numbers_is r.1 r.2.2 hr2 (wf_ri rr) (by omega)).mono ?_
        rintro en v2 ⟨g2, rfl, hg2, hs2, hb⟩
        replace UC := UC.later hb UC.lt
        replace TC := TC.later hb TC.lt
        replace hr2 := hr2.later hb
        replace hy2 := hy2.later hb
        replace hs1 := hs1.later hb
        replace BC := BC.trans (hb.mono BC.size)
        clear hb
        go_wp2_with fail
        refine hK.out _ _ ⟨UC, TC⟩ (fun hHeld2 => ?_)
        clear hK K hHeld
        have hHeld := hHeld2
        clear hHeld2
        try simp only [Act.put, List.setIfInBounds_toArray, List.set_cons_zero, List.set_cons_succ]
        refine wpAnyH_ready (rs := [6]) (by kernel_rfl) (by simp) ?_
        refine AllReadyH.cons (i := 6) rfl (fun K hK => ?_) AllReadyH.nil
        go_simp
        refine (rising_is (wf_ri rr) (by omega) hs2).mono ?_
        rintro en v3 ⟨B3, L3, rfl, hB3, hi3, hL3, hb⟩
        replace UC := UC.later hb UC.lt
        replace TC := TC.later hb TC.lt
        replace hr2 := hr2.later hb
        replace hy2 := hy2.later hb
        replace hs1 := hs1.later hb
        replace hs2 := hs2.later hb
        replace BC := BC.trans (hb.mono BC.size)
        clear hb
        go_wp2_with fail
        refine hK.out _ _ ⟨UC, TC⟩ (fun hHeld2 => ?_)
        clear hK K hHeld
        have hHeld := hHeld2
        clear hHeld2
        try simp only [Act.put, List.setIfInBounds_toArray, List.set_cons_zero, List.set_cons_succ]
        refine wpAnyH_ready (rs := [7]) (by kernel_rfl) (by simp) ?_
        refine AllReadyH.cons (i := 7) rfl (fun K hK => ?_) AllReadyH.nil
        go_simp
        refine (allAmong_is hs1 hi3).mono ?_
        rintro en v4 ⟨rfl, hb⟩
        replace UC := UC.later hb UC.lt
        replace TC := TC.later hb TC.lt
        replace hr2 := hr2.later hb
        replace hy2 := hy2.later hb
        replace hs1 := hs1.later hb
        replace hi3 := hi3.later hb
        replace BC := BC.trans (hb.mono BC.size)
        clear hb
        rw [all_cong hL3.2, ← HA2.out]
        go_wp2_with fail
        refine hK.out _ _ ⟨UC, TC⟩ (fun hHeld2 => ?_)
        clear hK K hHeld
        have hHeld := hHeld2
        clear hHeld2
        try simp only [Act.put, List.setIfInBounds_toArray, List.set_cons_zero, List.set_cons_succ]
        refine take_one 8 27 (v := ?_) rfl rfl (by kernel_rfl) (by kernel_rfl) (by kernel_rfl) (fun _ _ _ h => h) (Or.inl ⟨by rfl, ?_⟩) hHeld ?_
        rotate_left
        · intro w' hSw; (try dsimp only at hSw); obtain ⟨hU_, hV_⟩ := hSw; have d0 := hU_.at 0 rfl; have d1 := hU_.at 1 rfl; have d2 := hU_.at 2 rfl; have e0 := hV_.at 0 rfl; have e1 := hV_.at 1 rfl; have e2 := hV_.at 2 rfl; go_simp; try with_reducible rfl
        try simp only [Act.put, List.setIfInBounds_toArray, List.set_cons_zero, List.set_cons_succ]
        refine take_one 9 4 (v := ?_) rfl rfl (by kernel_rfl) (by kernel_rfl) (by kernel_rfl) (fun _ _ _ h => h) (Or.inl ⟨by rfl, ?_⟩) hHeld ?_
        rotate_left
        · intro w' hSw; (try dsimp only at hSw); obtain ⟨hU_, hV_⟩ := hSw; have d0 := hU_.at 0 rfl; have d1 := hU_.at 1 rfl; have d2 := hU_.at 2 rfl; have e0 := hV_.at 0 rfl; have e1 := hV_.at 1 rfl; have e2 := hV_.at 2 rfl; go_simp; try with_reducible rfl
        try simp only [Act.put, List.setIfInBounds_toArray, List.set_cons_zero, List.set_cons_succ]
        refine wpAnyH_done (by kernel_rfl) ?_ _
        go_wp2_with fail
        go_ret
        exact ⟨by first | rfl | (rw [HA2.out]; rfl), BC⟩
      · have e1 : (r.1 == 1) = false := beq_eq_false_iff_ne.2 h1
        have e2 : (r.1 == 2) = true := beq_iff_eq.2 (hk.resolve_left h1)
        clear h1 hk
        go_wp2_with fail
        try rw [hW]
        try rw [hyb]
        clear q0 q1 q2 p0 p1 p2 hW hyb
        replace UC := UC.drew
        replace TC := TC.drew
        replace BC := BC.drew
        replace hr2 := hr2.drew
        replace hy2 := hy2.drew
        refine wp_region_held_drew (S := (fun Vw => Blk w.heap.size [.int .i64 r.1, .slice r.2.1.1 r.2.1.2.2.length r.2.1.2.1, .int .i64 r.2.2] Vw ∧ Blk yb [.int .i64 y.1, .slice y.2.1.1 y.2.1.2.2.length y.2.1.2.1, .int .i64 y.2.2] Vw)) (by kernel_rfl) ⟨UC, TC⟩ (fun hHeld => ?_)
        refine take_one 0 19 (v := ?_) rfl rfl (by kernel_rfl) (by kernel_rfl) (by kernel_rfl) (fun _ _ _ h => h) (Or.inl ⟨by rfl, ?_⟩) hHeld ?_
        rotate_left
        · intro w' hSw; (try dsimp only at hSw); obtain ⟨hU_, hV_⟩ := hSw; have d0 := hU_.at 0 rfl; have d1 := hU_.at 1 rfl; have d2 := hU_.at 2 rfl; have e0 := hV_.at 0 rfl; have e1 := hV_.at 1 rfl; have e2 := hV_.at 2 rfl; go_simp; try with_reducible rfl
        try simp only [Act.put, List.setIfInBounds_toArray, List.set_cons_zero, List.set_cons_succ]
        refine take_one 1 20 (v := ?_) rfl rfl (by kernel_rfl) (by kernel_rfl) (by kernel_rfl) (fun _ _ _ h => h) (Or.inl ⟨by rfl, ?_⟩) hHeld ?_
        rotate_left
        · intro w' hSw; (try dsimp only at hSw); obtain ⟨hU_, hV_⟩ := hSw; have d0 := hU_.at 0 rfl; have d1 := hU_.at 1 rfl; have d2 := hU_.at 2 rfl; have e0 := hV_.at 0 rfl; have e1 := hV_.at 1 rfl; have e2 := hV_.at 2 rfl; go_simp; try with_reducible rfl
        try simp only [Act.put, List.setIfInBounds_toArray, List.set_cons_zero, List.set_cons_succ]
        refine take_one 2 21 (v := ?_) rfl rfl (by kernel_rfl) (by kernel_rfl) (by kernel_rfl) (fun _ _ _ h => h) (Or.inl ⟨by rfl, ?_⟩) hHeld ?_
        rotate_left
        · intro w' hSw; (try dsimp only at hSw); obtain ⟨hU_, hV_⟩ := hSw; have d0 := hU_.at 0 rfl; have d1 := hU_.at 1 rfl; have d2 := hU_.at 2 rfl; have e0 := hV_.at 0 rfl; have e1 := hV_.at 1 rfl; have e2 := hV_.at 2 rfl; go_simp; try with_reducible rfl
        try simp only [Act.put, List.setIfInBounds_toArray, List.set_cons_zero, List.set_cons_succ]
        refine take_one 4 23 (v := ?_) rfl rfl (by kernel_rfl) (by kernel_rfl) (by kernel_rfl) (fun _ _ _ h => h) (Or.inl ⟨by rfl, ?_⟩) hHeld ?_
        rotate_left
        · intro w' hSw; (try dsimp only at hSw); obtain ⟨hU_, hV_⟩ := hSw; have d0 := hU_.at 0 rfl; have d1 := hU_.at 1 rfl; have d2 := hU_.at 2 rfl; have e0 := hV_.at 0 rfl; have e1 := hV_.at 1 rfl; have e2 := hV_.at 2 rfl; go_simp; try with_reducible rfl
        try simp only [Act.put, List.setIfInBounds_toArray, List.set_cons_zero, List.set_cons_succ]
        refine wpAnyH_ready (rs := [3]) (by kernel_rfl) (by simp) ?_
        refine AllReadyH.cons (i := 3) rfl (fun K hK => ?_) AllReadyH.nil
        go_simp
        refine (numbers_is y.1 y.2.2 hy2 (wf_ri ry) (by omega)).mono ?_
        rintro en v1 ⟨g1, rfl, hg1, hs1, hb⟩
        replace UC := UC.later hb UC.lt
        replace TC := TC.later hb TC.lt
        replace hr2 := hr2.later hb
        replace hy2 := hy2.later hb
        replace BC := BC.trans (hb.mono BC.size)
        clear hb
        go_wp2_with fail
        refine hK.out _ _ ⟨UC, TC⟩ (fun hHeld2 => ?_)
        clear hK K hHeld
        have hHeld := hHeld2
        clear hHeld2
        try simp only [Act.put, List.setIfInBounds_toArray, List.set_cons_zero, List.set_cons_succ]
        refine wpAnyH_ready (rs := [5]) (by kernel_rfl) (by simp) ?_
        refine AllReadyH.cons (i := 5) rfl (fun K hK => ?_) AllReadyH.nil
        go_simp
        refine (numbers_is r.1 r.2.2 hr2 (wf_ri rr) (by omega)).mono ?_
        rintro en v2 ⟨g2, rfl, hg2, hs2, hb⟩
        replace UC := UC.later hb UC.lt
        replace TC := TC.later hb TC.lt
        replace hr2 := hr2.later hb
        replace hy2 := hy2.later hb
        replace hs1 := hs1.later hb
        replace BC := BC.trans (hb.mono BC.size)
        clear hb
        go_wp2_with fail
        refine hK.out _ _ ⟨UC, TC⟩ (fun hHeld2 => ?_)
        clear hK K hHeld
        have hHeld := hHeld2
        clear hHeld2
        try simp only [Act.put, List.setIfInBounds_toArray, List.set_cons_zero, List.set_cons_succ]
        refine wpAnyH_ready (rs := [6]) (by kernel_rfl) (by simp) ?_
        refine AllReadyH.cons (i := 6) rfl (fun K hK => ?_) AllReadyH.nil
        go_simp
        refine (rising_is (wf_ri rr) (by omega) hs2).mono ?_
        rintro en v3 ⟨B3, L3, rfl, hB3, hi3, hL3, hb⟩
        replace UC := UC.later hb UC.lt
        replace TC := TC.later hb TC.lt
        replace hr2 := hr2.later hb
        replace hy2 := hy2.later hb
        replace hs1 := hs1.later hb
        replace hs2 := hs2.later hb
        replace BC := BC.trans (hb.mono BC.size)
        clear hb
        go_wp2_with fail
        refine hK.out _ _ ⟨UC, TC⟩ (fun hHeld2 => ?_)
        clear hK K hHeld
        have hHeld := hHeld2
        clear hHeld2
        try simp only [Act.put, List.setIfInBounds_toArray, List.set_cons_zero, List.set_cons_succ]
        refine wpAnyH_ready (rs := [7]) (by kernel_rfl) (by simp) ?_
        refine AllReadyH.cons (i := 7) rfl (fun K hK => ?_) AllReadyH.nil
        go_simp
        refine (allAmong_is hs1 hi3).mono ?_
        rintro en v4 ⟨rfl, hb⟩
        replace UC := UC.later hb UC.lt
        replace TC := TC.later hb TC.lt
        replace hr2 := hr2.later hb
        replace hy2 := hy2.later hb
        replace hs1 := hs1.later hb
        replace hi3 := hi3.later hb
        replace BC := BC.trans (hb.mono BC.size)
        clear hb
        rw [all_cong hL3.2, ← HA2.out]
        go_wp2_with fail
        refine hK.out _ _ ⟨UC, TC⟩ (fun hHeld2 => ?_)
        clear hK K hHeld
        have hHeld := hHeld2
        clear hHeld2
        try simp only [Act.put, List.setIfInBounds_toArray, List.set_cons_zero, List.set_cons_succ]
        refine take_one 8 27 (v := ?_) rfl rfl (by kernel_rfl) (by kernel_rfl) (by kernel_rfl) (fun _ _ _ h => h) (Or.inl ⟨by rfl, ?_⟩) hHeld ?_
        rotate_left
        · intro w' hSw; (try dsimp only at hSw); obtain ⟨hU_, hV_⟩ := hSw; have d0 := hU_.at 0 rfl; have d1 := hU_.at 1 rfl; have d2 := hU_.at 2 rfl; have e0 := hV_.at 0 rfl; have e1 := hV_.at 1 rfl; have e2 := hV_.at 2 rfl; go_simp; try with_reducible rfl
        try simp only [Act.put, List.setIfInBounds_toArray, List.set_cons_zero, List.set_cons_succ]
        refine take_one 9 4 (v := ?_) rfl rfl (by kernel_rfl) (by kernel_rfl) (by kernel_rfl) (fun _ _ _ h => h) (Or.inl ⟨by rfl, ?_⟩) hHeld ?_
        rotate_left
        · intro w' hSw; (try dsimp only at hSw); obtain ⟨hU_, hV_⟩ := hSw; have d0 := hU_.at 0 rfl; have d1 := hU_.at 1 rfl; have d2 := hU_.at 2 rfl; have e0 := hV_.at 0 rfl; have e1 := hV_.at 1 rfl; have e2 := hV_.at 2 rfl; go_simp; try with_reducible rfl
        try simp only [Act.put, List.setIfInBounds_toArray, List.set_cons_zero, List.set_cons_succ]
        refine wpAnyH_done (by kernel_rfl) ?_ _
        go_wp2_with fail
        go_ret
        exact ⟨by first | rfl | (rw [HA2.out]; rfl), BC⟩
  · have e1 : (r.1 == 1) = false := beq_eq_false_iff_ne.2 (fun c => hk (Or.inl c))
    have e2 : (r.1 == 2) = false := beq_eq_false_iff_ne.2 (fun c => hk (Or.inr c))
    by_cases h3 : r.1 = 3
    · have e3 : (r.1 == 3) = true := beq_iff_eq.2 h3
      have HA2 : Hid (ans = r.2.1.2.2.all (fun n => y.2.1.2.2.contains n)) := by
        show _ = _
        rw [HC.out, ← HY.out]
        unfold condK
        rw [if_neg hk, if_pos h3]
        rfl
      clear HC HY hk h3
      go_wp2_with fail
      try rw [hW]
      try rw [hyb]
      clear q0 q1 q2 p0 p1 p2 hW hyb
      replace UC := UC.drew
      replace TC := TC.drew
      replace BC := BC.drew
      replace hr2 := hr2.drew
      replace hy2 := hy2.drew
      refine wp_region_held_drew (S := (fun Vw => Blk w.heap.size [.int .i64 r.1, .slice r.2.1.1 r.2.1.2.2.length r.2.1.2.1, .int .i64 r.2.2] Vw ∧ Blk yb [.int .i64 y.1, .slice y.2.1.1 y.2.1.2.2.length y.2.1.2.1, .int .i64 y.2.2] Vw)) (by kernel_rfl) ⟨UC, TC⟩ (fun hHeld => ?_)
      refine take_one 0 30 (v := ?_) rfl rfl (by kernel_rfl) (by kernel_rfl) (by kernel_rfl) (fun _ _ _ h => h) (Or.inl ⟨by rfl, ?_⟩) hHeld ?_
      rotate_left
      · intro w' hSw; (try dsimp only at hSw); obtain ⟨hU_, hV_⟩ := hSw; have d0 := hU_.at 0 rfl; have d1 := hU_.at 1 rfl; have d2 := hU_.at 2 rfl; have e0 := hV_.at 0 rfl; have e1 := hV_.at 1 rfl; have e2 := hV_.at 2 rfl; go_simp; try with_reducible rfl
      try simp only [Act.put, List.setIfInBounds_toArray, List.set_cons_zero, List.set_cons_succ]
      refine take_one 2 32 (v := ?_) rfl rfl (by kernel_rfl) (by kernel_rfl) (by kernel_rfl) (fun _ _ _ h => h) (Or.inl ⟨by rfl, ?_⟩) hHeld ?_
      rotate_left
      · intro w' hSw; (try dsimp only at hSw); obtain ⟨hU_, hV_⟩ := hSw; have d0 := hU_.at 0 rfl; have d1 := hU_.at 1 rfl; have d2 := hU_.at 2 rfl; have e0 := hV_.at 0 rfl; have e1 := hV_.at 1 rfl; have e2 := hV_.at 2 rfl; go_simp; try with_reducible rfl
      try simp only [Act.put, List.setIfInBounds_toArray, List.set_cons_zero, List.set_cons_succ]
      refine wpAnyH_ready (rs := [1]) (by kernel_rfl) (by simp) ?_
      refine AllReadyH.cons (i := 1) rfl (fun K hK => ?_) AllReadyH.nil
      go_simp
      refine (numbers_is r.1 r.2.2 hr2 (wf_ri rr) (by omega)).mono ?_
      rintro en v1 ⟨g1, rfl, hg1, hs1, hb⟩
      replace UC := UC.later hb UC.lt
      replace TC := TC.later hb TC.lt
      replace hr2 := hr2.later hb
      replace hy2 := hy2.later hb
      replace BC := BC.trans (hb.mono BC.size)
      clear hb
      go_wp2_with fail
      refine hK.out _ _ ⟨UC, TC⟩ (fun hHeld2 => ?_)
      clear hK K hHeld
      have hHeld := hHeld2
      clear hHeld2
      try simp only [Act.put, List.setIfInBounds_toArray, List.set_cons_zero, List.set_cons_succ]
      refine wpAnyH_ready (rs := [3]) (by kernel_rfl) (by simp) ?_
      refine AllReadyH.cons (i := 3) rfl (fun K hK => ?_) AllReadyH.nil
      go_simp
      refine (numbers_is y.1 y.2.2 hy2 (wf_ri ry) (by omega)).mono ?_
      rintro en v2 ⟨g2, rfl, hg2, hs2, hb⟩
      replace UC := UC.later hb UC.lt
      replace TC := TC.later hb TC.lt
      replace hr2 := hr2.later hb
      replace hy2 := hy2.later hb
      replace hs1 := hs1.later hb
      replace BC := BC.trans (hb.mono BC.size)
      clear hb
      go_wp2_with fail
      refine hK.out _ _ ⟨UC, TC⟩ (fun hHeld2 => ?_)
      clear hK K hHeld
      have hHeld := hHeld2
      clear hHeld2
      try simp only [Act.put, List.setIfInBounds_toArray, List.set_cons_zero, List.set_cons_succ]
      refine wpAnyH_ready (rs := [4]) (by kernel_rfl) (by simp) ?_
      refine AllReadyH.cons (i := 4) rfl (fun K hK => ?_) AllReadyH.nil
      go_simp
      refine (rising_is (wf_ri ry) (by omega) hs2).mono ?_
      rintro en v3 ⟨B3, L3, rfl, hB3, hi3, hL3, hb⟩
      replace UC := UC.later hb UC.lt
      replace TC := TC.later hb TC.lt
      replace hr2 := hr2.later hb
      replace hy2 := hy2.later hb
      replace hs1 := hs1.later hb
      replace hs2 := hs2.later hb
      replace BC := BC.trans (hb.mono BC.size)
      clear hb
      go_wp2_with fail
      refine hK.out _ _ ⟨UC, TC⟩ (fun hHeld2 => ?_)
      clear hK K hHeld
      have hHeld := hHeld2
      clear hHeld2
      try simp only [Act.put, List.setIfInBounds_toArray, List.set_cons_zero, List.set_cons_succ]
      refine wpAnyH_ready (rs := [5]) (by kernel_rfl) (by simp) ?_
      refine AllReadyH.cons (i := 5) rfl (fun K hK => ?_) AllReadyH.nil
      go_simp
      refine (allAmong_is hs1 hi3).mono ?_
      rintro en v4 ⟨rfl, hb⟩
      replace UC := UC.later hb UC.lt
      replace TC := TC.later hb TC.lt
      replace hr2 := hr2.later hb
      replace hy2 := hy2.later hb
      replace hs1 := hs1.later hb
      replace hi3 := hi3.later hb
      replace BC := BC.trans (hb.mono BC.size)
      clear hb
      rw [all_cong hL3.2, ← HA2.out]
      go_wp2_with fail
      refine hK.out _ _ ⟨UC, TC⟩ (fun hHeld2 => ?_)
      clear hK K hHeld
      have hHeld := hHeld2
      clear hHeld2
      try simp only [Act.put, List.setIfInBounds_toArray, List.set_cons_zero, List.set_cons_succ]
      refine take_one 6 4 (v := ?_) rfl rfl (by kernel_rfl) (by kernel_rfl) (by kernel_rfl) (fun _ _ _ h => h) (Or.inl ⟨by rfl, ?_⟩) hHeld ?_
      rotate_left
      · intro w' hSw; (try dsimp only at hSw); obtain ⟨hU_, hV_⟩ := hSw; have d0 := hU_.at 0 rfl; have d1 := hU_.at 1 rfl; have d2 := hU_.at 2 rfl; have e0 := hV_.at 0 rfl; have e1 := hV_.at 1 rfl; have e2 := hV_.at 2 rfl; go_simp; try with_reducible rfl
      try simp only [Act.put, List.setIfInBounds_toArray, List.set_cons_zero, List.set_cons_succ]
      refine wpAnyH_done (by kernel_rfl) ?_ _
      go_wp2_with fail
      go_ret
      exact ⟨by first | rfl | (rw [HA2.out]; rfl), BC⟩
    · have e3 : (r.1 == 3) = false := beq_eq_false_iff_ne.2 h3
      have HA2 : Hid (ans = (b && decide (y.2.2 ≤ r.2.2))) := by
        show _ = _
        rw [HC.out, ← HY.out]
        unfold condK
        rw [if_neg hk, if_neg h3]
        rfl
      clear HC HY hk h3
      cases b with
      | false =>
        have HA3 : Hid (ans = false) := by show _ = _; rw [HA2.out]; rfl
        clear HA2
        go_wp2
        go_ret
        exact ⟨by rw [HA3.out]; rfl, BC⟩
      | true =>
        have HA3 : Hid (ans = decide (y.2.2 ≤ r.2.2)) := by show _ = _; rw [HA2.out]; rfl
        clear HA2
        go_wp2
        go_ret
        exact ⟨by rw [HA3.out]; rfl, BC⟩
end Go.Proofs.Ytjbbhegijlnndaa.Nd
