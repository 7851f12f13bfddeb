/- The laws on RulesOk and Allows. -/
import Derived.Test.YtjbbhegijlnndaaRu2
import Derived.Test.YtjbbhegijlnndaaRu4
import Derived.Test.YtjbbhegijlnndaaNz1
import Derived.Test.YtjbbhegijlnndaaNc6
import Derived.Test.YtjbbhegijlnndaaNa1
set_option linter.unusedVariables false
set_option maxRecDepth 100000
namespace Go.Proofs.Ytjbbhegijlnndaa.Nd
open Go Go.RowKit Go.Joins Own Draw

theorem rt_rs (q : Rw TT) : rtT q = (rsT q).length + ((rsT q).map (fun p => p.2.1.length)).sum := by
  unfold rtT rsT
  rw [List.length_map, List.map_map]
  rfl
theorem rt_same {q r : Rw TT} (h : rsT q = rsT r) : rtT q = rtT r := by rw [rt_rs, rt_rs, h]
theorem ra_same {q r : TA} (h : stA q = stA r) : totA q = totA r := by
  have : ∀ x : TA, totA x = (stA x).2.2.1.length := fun _ => rfl
  rw [this, this, h]
theorem rt_parts {q : Rw TT} {n : Nat} (h : rtT q ≤ n) : q.2.2.length ≤ n ∧ ∀ x ∈ q.2.2, x.2.1.2.2.length ≤ n := by
  have h1 : q.2.2.length + (q.2.2.map totT).sum ≤ n := h
  refine ⟨by omega, fun x hx => ?_⟩
  have hm : totT x ≤ (q.2.2.map totT).sum := le_sum_of_mem (List.mem_map_of_mem hx)
  have h3 : totT x = x.2.1.2.2.length := rfl
  omega
set_option maxHeartbeats 6400000 in
theorem law_ok (r : Rw TT) (w : World) (hr : RpT w r) (lr : RlT r) : Calls Try.prog 5 #[.slice r.1 r.2.2.length r.2.1] w fun en w' => en = .returned (.bool true) ∧ Below w.heap.size w w' := by
  go_enter Try.func5, Try.ntmps5
  have K0 := szST_is r 1048576 w (Nat.le_refl _) hr lr
  go_wp2_with fail
  refine K0.mono ?_
  clear K0
  rintro en w1 ⟨rfl, hb⟩
  have BC : Below w.heap.size w w1 := hb
  clear hb
  by_cases sr : rtT r ≤ 1048576
  rotate_left
  · have e : szV (rtT r) 1048576 = -1 := if_neg sr
    rw [e]
    go_wp2
    go_ret
    exact ⟨rfl, BC⟩
  have e : szV (rtT r) 1048576 = ((1048576 - rtT r : Nat) : Int) := if_pos sr
  rw [e]
  clear e
  obtain ⟨k0, hk0⟩ : ∃ k, 1048576 - rtT r = k := ⟨_, rfl⟩
  rw [hk0]
  have sr_ := sr
  have hkb0 : k0 ≤ 1048576 := by omega
  clear hk0 sr
  have K0 := toST_is r w1 (hr.later BC) sr_
  go_wp2_with fail
  refine K0.mono ?_
  clear K0
  rintro en w2 ⟨x0, rfl, ex0, ox0, hb⟩
  replace BC := BC.trans (hb.mono BC.size)
  replace ox0 := ox0.dp
  have Ex0 : Hid (rsT x0 = rsT r) := ex0
  clear hb ex0
  have p0 := rt_parts (show rtT x0 ≤ 1048576 by rw [rt_same Ex0.out]; exact sr_)
  have K1 := specRulesOk_is x0 w2 ox0 p0.2 p0.1
  rw [Ex0.out] at K1
  clear p0
  go_wp2_with fail
  refine K1.mono ?_
  clear K1
  rintro en w3 ⟨rfl, hb⟩
  replace BC := BC.trans (hb.mono BC.size)
  clear hb ox0 Ex0
  have K0 := toST_is r w3 (hr.later BC) sr_
  go_wp2_with fail
  refine K0.mono ?_
  clear K0
  rintro en w4 ⟨y0, rfl, ey0, oy0, hb⟩
  replace BC := BC.trans (hb.mono BC.size)
  replace oy0 := oy0.dp
  have Ey0 : Hid (rsT y0 = rsT r) := ey0
  clear hb ey0
  have p0 := rt_parts (show rtT y0 ≤ 1048576 by rw [rt_same Ey0.out]; exact sr_)
  have K1 := implRulesOk_is y0 w4 oy0 p0.2 p0.1
  rw [Ey0.out] at K1
  clear p0
  go_wp2_with fail
  refine K1.mono ?_
  clear K1
  rintro en w5 ⟨rfl, hb⟩
  replace oy0 := oy0.later hb
  replace BC := BC.trans (hb.mono BC.size)
  clear hb
  obtain ⟨z0, hz0⟩ : ∃ z, okL (rsT r) = z := ⟨_, rfl⟩
  rw [hz0]
  have hzz : (z0 != z0) = false := by simp
  clear hz0
  have K0 := toST_is r w5 (hr.later BC) sr_
  go_wp2_with fail
  refine K0.mono ?_
  clear K0
  rintro en w6 ⟨z, rfl, ez, oz, hb⟩
  replace oy0 := oy0.later hb
  replace BC := BC.trans (hb.mono BC.size)
  replace oz := oz.dp
  have Ez : Hid (rsT z = rsT r) := ez
  clear hb ez
  have K0 := eqST_is y0 z w6 oy0 oz (by rw [Ey0.out, Ez.out]) (by rw [rt_same Ey0.out]; exact sr_)
  clear oz Ez
  go_wp2_with fail
  refine K0.mono ?_
  clear K0
  rintro en w7 ⟨rfl, hb⟩
  replace oy0 := oy0.later hb
  replace BC := BC.trans (hb.mono BC.size)
  clear hb
  go_wp2
  go_ret
  exact ⟨rfl, BC⟩
theorem RpT.drew {w : World} {r : Rw TT} (h : RpT w r) : RpT w.drew r := h
theorem DpA.drew {w : World} {q : TA} (h : DpA w q) : DpA w.drew q := h
set_option maxHeartbeats 6400000 in
theorem law_allows (r : Rw TT) (q : TA) (w : World) (hr : RpT w r) (lr : RlT r) (hq : DpA w q) (lq : LmA q) (hwq : wfA (stA q)) : Calls Try.prog 6 #[.slice r.1 r.2.2.length r.2.1, vA q] w fun en w' => en = .returned (.bool true) ∧ Below w.heap.size w w' := by
  obtain ⟨V, hV⟩ : ∃ V, (w.alloc (.cells #[.int .i64 q.1, .int .i64 q.2.1, .slice q.2.2.1.1 q.2.2.1.2.2.length q.2.2.1.2.1, .int .i64 q.2.2.2.1, .int .i64 q.2.2.2.2] 47)) = V := ⟨_, rfl⟩
  have BC : Below w.heap.size w V := by rw [← hV]; exact (Below.refl _ _).alloc (by simp <;> omega) _
  have U1 : Blk w.heap.size [.int .i64 q.1, .int .i64 q.2.1, .slice q.2.2.1.1 q.2.2.1.2.2.length q.2.2.1.2.1, .int .i64 q.2.2.2.1, .int .i64 q.2.2.2.2] V := by rw [← hV]; have h_ := (Blk.new w #[.int .i64 q.1, .int .i64 q.2.1, .slice q.2.2.1.1 q.2.2.1.2.2.length q.2.2.1.2.1, .int .i64 q.2.2.2.1, .int .i64 q.2.2.2.2] 47); simpa using h_
  go_enter Try.func6, Try.ntmps6
  have K0 := szST_is r 1048576 V (Nat.le_refl _) (hr.later BC) lr
  have qU10 := U1.at 0 rfl
  have qU11 := U1.at 1 rfl
  have qU12 := U1.at 2 rfl
  have qU13 := U1.at 3 rfl
  have qU14 := U1.at 4 rfl
  go_wp2_with fail
  try rw [hV]
  refine K0.mono ?_
  clear K0
  rintro en w1 ⟨rfl, hb⟩
  clear qU10 qU11 qU12 qU13 qU14
  replace U1 := U1.later hb U1.lt
  replace BC := BC.trans (hb.mono BC.size)
  clear hb
  by_cases sr : rtT r ≤ 1048576
  rotate_left
  · have e : szV (rtT r) 1048576 = -1 := if_neg sr
    rw [e]
    go_wp2
    go_ret
    exact ⟨rfl, BC⟩
  have e : szV (rtT r) 1048576 = ((1048576 - rtT r : Nat) : Int) := if_pos sr
  rw [e]
  clear e
  obtain ⟨k0, hk0⟩ : ∃ k, 1048576 - rtT r = k := ⟨_, rfl⟩
  rw [hk0]
  have sr_ := sr
  have hkb0 : k0 ≤ 1048576 := by omega
  have K0 := szA_is q k0 w1 (by omega) (hq.later BC) lq
  have qU10 := U1.at 0 rfl
  have qU11 := U1.at 1 rfl
  have qU12 := U1.at 2 rfl
  have qU13 := U1.at 3 rfl
  have qU14 := U1.at 4 rfl
  go_wp2_with fail
  refine K0.mono ?_
  clear K0
  rintro en w2 ⟨rfl, hb⟩
  clear qU10 qU11 qU12 qU13 qU14
  replace U1 := U1.later hb U1.lt
  replace BC := BC.trans (hb.mono BC.size)
  clear hb
  by_cases sq : totA q ≤ k0
  rotate_left
  · have e : szV (totA q) k0 = -1 := if_neg sq
    rw [e]
    go_wp2
    go_ret
    exact ⟨rfl, BC⟩
  have e : szV (totA q) k0 = ((k0 - totA q : Nat) : Int) := if_pos sq
  rw [e]
  clear e
  obtain ⟨k1, hk1⟩ : ∃ k, k0 - totA q = k := ⟨_, rfl⟩
  rw [hk1]
  have sq_ : totA q ≤ 1048576 := by omega
  have hkb1 : k1 ≤ 1048576 := by omega
  clear hk0 sr hk1 sq
  go_wp2_with fail
  replace U1 := U1.drew
  replace BC := BC.drew
  refine wp_region_held_drew (S := (fun Vw => Blk w.heap.size [.int .i64 q.1, .int .i64 q.2.1, .slice q.2.2.1.1 q.2.2.1.2.2.length q.2.2.1.2.1, .int .i64 q.2.2.2.1, .int .i64 q.2.2.2.2] Vw)) (by kernel_rfl) U1 (fun hHeld => ?_)
  refine take_one 0 20 (v := ?_) rfl rfl (by kernel_rfl) (by kernel_rfl) (by kernel_rfl) (fun _ _ _ h => h) (Or.inl ⟨by rfl, ?_⟩) hHeld ?_
  rotate_left
  · intro w' hSw; (try dsimp only at hSw); have d0 := hSw.at 0 rfl; have d1 := hSw.at 1 rfl; have d2 := hSw.at 2 rfl; have d3 := hSw.at 3 rfl; have d4 := hSw.at 4 rfl; go_simp; try with_reducible rfl
  try simp only [Act.put, List.setIfInBounds_toArray, List.set_cons_zero, List.set_cons_succ]
  refine take_one 2 22 (v := ?_) rfl rfl (by kernel_rfl) (by kernel_rfl) (by kernel_rfl) (fun _ _ _ h => h) (Or.inl ⟨by rfl, ?_⟩) hHeld ?_
  rotate_left
  · intro w' hSw; (try dsimp only at hSw); have d0 := hSw.at 0 rfl; have d1 := hSw.at 1 rfl; have d2 := hSw.at 2 rfl; have d3 := hSw.at 3 rfl; have d4 := hSw.at 4 rfl; go_simp; try with_reducible rfl
  try simp only [Act.put, List.setIfInBounds_toArray, List.set_cons_zero, List.set_cons_succ]
  refine wpAnyH_ready (rs := [1]) (by kernel_rfl) (by simp) ?_
  refine AllReadyH.cons (i := 1) rfl (fun K hK => ?_) AllReadyH.nil
  go_simp
  refine (toST_is r _ (hr.later BC) sr_).mono ?_
  rintro en v1 ⟨x0, rfl, ex0, ox0, hb⟩
  replace U1 := U1.later hb U1.lt
  replace BC := BC.trans (hb.mono BC.size)
  clear hb
  replace ox0 := ox0.dp
  have Ex0 : Hid (rsT x0 = rsT r) := ex0
  clear ex0
  go_wp2_with fail
  refine hK.out _ _ U1 (fun hHeld2 => ?_)
  clear hK K hHeld
  have hHeld := hHeld2
  clear hHeld2
  try simp only [Act.put, List.setIfInBounds_toArray, List.set_cons_zero, List.set_cons_succ]
  refine wpAnyH_ready (rs := [3]) (by kernel_rfl) (by simp) ?_
  refine AllReadyH.cons (i := 3) rfl (fun K hK => ?_) AllReadyH.nil
  go_simp
  refine (toA_is q _ (hq.later BC) sq_).mono ?_
  rintro en v2 ⟨x1, rfl, ex1, ox1, hb⟩
  replace U1 := U1.later hb U1.lt
  replace ox0 := ox0.later hb
  replace BC := BC.trans (hb.mono BC.size)
  clear hb
  replace ox1 := ox1.dp
  have Ex1 : Hid (stA x1 = stA q) := ex1
  clear ex1
  have p0 := rt_parts (show rtT x0 ≤ 1048576 by rw [rt_same Ex0.out]; exact sr_)
  have p1 : x1.2.2.1.2.2.length ≤ 1048576 := (show totA x1 ≤ 1048576 by rw [ra_same Ex1.out]; exact sq_)
  go_wp2_with fail
  refine hK.out _ _ U1 (fun hHeld2 => ?_)
  clear hK K hHeld
  have hHeld := hHeld2
  clear hHeld2
  try simp only [Act.put, List.setIfInBounds_toArray, List.set_cons_zero, List.set_cons_succ]
  refine wpAnyH_ready (rs := [4]) (by kernel_rfl) (by simp) ?_
  refine AllReadyH.cons (i := 4) rfl (fun K hK => ?_) AllReadyH.nil
  go_simp
  refine (specAllows_is x0 x1 _ ox0 p0.2 p0.1 ox1 p1).mono ?_
  rintro en v3 ⟨rfl, hb⟩
  replace U1 := U1.later hb U1.lt
  replace ox0 := ox0.later hb
  replace ox1 := ox1.later hb
  replace BC := BC.trans (hb.mono BC.size)
  clear hb
  rw [Ex0.out, Ex1.out]
  obtain ⟨z0, hz0⟩ : ∃ z, alB (rsT r) (stA q) = z := ⟨_, rfl⟩
  rw [hz0]
  have HZ : Hid (alB (rsT r) (stA q) = z0) := hz0
  clear hz0 p0 p1 ox0 ox1 Ex0 Ex1
  go_wp2_with fail
  refine hK.out _ _ U1 (fun hHeld2 => ?_)
  clear hK K hHeld
  have hHeld := hHeld2
  clear hHeld2
  try simp only [Act.put, List.setIfInBounds_toArray, List.set_cons_zero, List.set_cons_succ]
  refine take_one 5 6 (v := ?_) rfl rfl (by kernel_rfl) (by kernel_rfl) (by kernel_rfl) (fun _ _ _ h => h) (Or.inl ⟨by rfl, ?_⟩) hHeld ?_
  rotate_left
  · intro w' hSw; (try dsimp only at hSw); go_simp; try with_reducible rfl
  try simp only [Act.put, List.setIfInBounds_toArray, List.set_cons_zero, List.set_cons_succ]
  refine wpAnyH_done (by kernel_rfl) ?_ _
  have K0 := toST_is r v3 (hr.later BC) sr_
  have qU10 := U1.at 0 rfl
  have qU11 := U1.at 1 rfl
  have qU12 := U1.at 2 rfl
  have qU13 := U1.at 3 rfl
  have qU14 := U1.at 4 rfl
  go_wp2_with fail
  refine K0.mono ?_
  clear K0
  rintro en w3 ⟨y0, rfl, ey0, oy0, hb⟩
  clear qU10 qU11 qU12 qU13 qU14
  replace U1 := U1.later hb U1.lt
  replace BC := BC.trans (hb.mono BC.size)
  replace oy0 := oy0.dp
  have Ey0 : Hid (rsT y0 = rsT r) := ey0
  clear hb ey0
  have K0 := toA_is q w3 (hq.later BC) sq_
  have qU10 := U1.at 0 rfl
  have qU11 := U1.at 1 rfl
  have qU12 := U1.at 2 rfl
  have qU13 := U1.at 3 rfl
  have qU14 := U1.at 4 rfl
  go_wp2_with fail
  refine K0.mono ?_
  clear K0
  rintro en w4 ⟨y1, rfl, ey1, oy1, hb⟩
  clear qU10 qU11 qU12 qU13 qU14
  replace U1 := U1.later hb U1.lt
  replace oy0 := oy0.later hb
  replace BC := BC.trans (hb.mono BC.size)
  replace oy1 := oy1.dp
  have Ey1 : Hid (stA y1 = stA q) := ey1
  clear hb ey1
  obtain ⟨V2, hV2⟩ : ∃ V, w4.alloc (.cells #[.int .i64 y1.1, .int .i64 y1.2.1, .slice y1.2.2.1.1 y1.2.2.1.2.2.length y1.2.2.1.2.1, .int .i64 y1.2.2.2.1, .int .i64 y1.2.2.2.2] 34) = V := ⟨_, rfl⟩
  have hb2 : Below w4.heap.size w4 V2 := by rw [← hV2]; exact (Below.refl _ _).alloc (Nat.le_refl _) _
  have UY : Blk w4.heap.size [.int .i64 y1.1, .int .i64 y1.2.1, .slice y1.2.2.1.1 y1.2.2.1.2.2.length y1.2.2.1.2.1, .int .i64 y1.2.2.2.1, .int .i64 y1.2.2.2.2] V2 := by rw [← hV2]; exact Blk.new _ _ _
  have hsy := BC.size
  replace BC := BC.trans (hb2.mono BC.size)
  replace U1 := U1.later hb2 U1.lt
  replace oy0 := oy0.later hb2
  replace oy1 := oy1.later hb2
  clear hb2
  obtain ⟨yb, hyb⟩ : ∃ yb, w4.heap.size = yb := ⟨_, rfl⟩
  rw [hyb] at UY hsy
  have p0 := rt_parts (show rtT y0 ≤ 1048576 by rw [rt_same Ey0.out]; exact sr_)
  have p1 : y1.2.2.1.2.2.length ≤ 1048576 := (show totA y1 ≤ 1048576 by rw [ra_same Ey1.out]; exact sq_)
  have K1 := implAllows_is y0 y1 V2 oy0 p0.2 p0.1 oy1 p1 (by rw [Ey1.out]; exact hwq)
  rw [Ey0.out, Ey1.out, HZ.out] at K1
  clear p0 p1
  have qU10 := U1.at 0 rfl
  have qU11 := U1.at 1 rfl
  have qU12 := U1.at 2 rfl
  have qU13 := U1.at 3 rfl
  have qU14 := U1.at 4 rfl
  have qUY0 := UY.at 0 rfl
  have qUY1 := UY.at 1 rfl
  have qUY2 := UY.at 2 rfl
  have qUY3 := UY.at 3 rfl
  have qUY4 := UY.at 4 rfl
  have hzz : (z0 != z0) = false := by simp
  go_wp2_with fail
  try rw [hV2]
  try rw [hyb]
  refine K1.mono ?_
  clear K1
  rintro en u1 ⟨rfl, hb⟩
  clear qU10 qU11 qU12 qU13 qU14 qUY0 qUY1 qUY2 qUY3 qUY4 hV2 HZ
  replace U1 := U1.later hb U1.lt
  replace UY := UY.later hb UY.lt
  replace oy0 := oy0.later hb
  replace oy1 := oy1.later hb
  replace BC := BC.trans (hb.mono BC.size)
  clear hb
  have K0 := toST_is r u1 (hr.later BC) sr_
  have qU10 := U1.at 0 rfl
  have qU11 := U1.at 1 rfl
  have qU12 := U1.at 2 rfl
  have qU13 := U1.at 3 rfl
  have qU14 := U1.at 4 rfl
  have qUY0 := UY.at 0 rfl
  have qUY1 := UY.at 1 rfl
  have qUY2 := UY.at 2 rfl
  have qUY3 := UY.at 3 rfl
  have qUY4 := UY.at 4 rfl
  go_wp2_with fail
  refine K0.mono ?_
  clear K0
  rintro en w5 ⟨z, rfl, ez, oz, hb⟩
  clear qU10 qU11 qU12 qU13 qU14 qUY0 qUY1 qUY2 qUY3 qUY4
  replace U1 := U1.later hb U1.lt
  replace UY := UY.later hb UY.lt
  replace oy0 := oy0.later hb
  replace oy1 := oy1.later hb
  replace BC := BC.trans (hb.mono BC.size)
  replace oz := oz.dp
  have Ez : Hid (rsT z = rsT r) := ez
  clear hb ez
  have K0 := eqST_is y0 z w5 oy0 oz (by rw [Ey0.out, Ez.out]) (by rw [rt_same Ey0.out]; exact sr_)
  clear oz Ez
  have qU10 := U1.at 0 rfl
  have qU11 := U1.at 1 rfl
  have qU12 := U1.at 2 rfl
  have qU13 := U1.at 3 rfl
  have qU14 := U1.at 4 rfl
  have qUY0 := UY.at 0 rfl
  have qUY1 := UY.at 1 rfl
  have qUY2 := UY.at 2 rfl
  have qUY3 := UY.at 3 rfl
  have qUY4 := UY.at 4 rfl
  go_wp2_with fail
  refine K0.mono ?_
  clear K0
  rintro en w6 ⟨rfl, hb⟩
  clear qU10 qU11 qU12 qU13 qU14 qUY0 qUY1 qUY2 qUY3 qUY4
  replace U1 := U1.later hb U1.lt
  replace UY := UY.later hb UY.lt
  replace oy0 := oy0.later hb
  replace oy1 := oy1.later hb
  replace BC := BC.trans (hb.mono BC.size)
  clear hb
  have qU10 := U1.at 0 rfl
  have qU11 := U1.at 1 rfl
  have qU12 := U1.at 2 rfl
  have qU13 := U1.at 3 rfl
  have qU14 := U1.at 4 rfl
  have qUY0 := UY.at 0 rfl
  have qUY1 := UY.at 1 rfl
  have qUY2 := UY.at 2 rfl
  have qUY3 := UY.at 3 rfl
  have qUY4 := UY.at 4 rfl
  go_wp2_with fail
  clear qU10 qU11 qU12 qU13 qU14 qUY0 qUY1 qUY2 qUY3 qUY4
  replace U1 := U1.drew
  replace UY := UY.drew
  replace BC := BC.drew
  replace oy1 := oy1.drew
  refine wp_region_held_drew (S := (fun Vw => Blk w.heap.size [.int .i64 q.1, .int .i64 q.2.1, .slice q.2.2.1.1 q.2.2.1.2.2.length q.2.2.1.2.1, .int .i64 q.2.2.2.1, .int .i64 q.2.2.2.2] Vw ∧ Blk yb [.int .i64 y1.1, .int .i64 y1.2.1, .slice y1.2.2.1.1 y1.2.2.1.2.2.length y1.2.2.1.2.1, .int .i64 y1.2.2.2.1, .int .i64 y1.2.2.2.2] Vw)) (by kernel_rfl) ⟨U1, UY⟩ (fun hHeld => ?_)
  refine take_one 0 40 (v := ?_) rfl rfl (by kernel_rfl) (by kernel_rfl) (by kernel_rfl) (fun _ _ _ h => h) (Or.inl ⟨by rfl, ?_⟩) hHeld ?_
  rotate_left
  · intro w' hSw; (try dsimp only at hSw); have d0 := hSw.1.at 0 rfl; have f0 := hSw.2.at 0 rfl; have d1 := hSw.1.at 1 rfl; have f1 := hSw.2.at 1 rfl; have d2 := hSw.1.at 2 rfl; have f2 := hSw.2.at 2 rfl; have d3 := hSw.1.at 3 rfl; have f3 := hSw.2.at 3 rfl; have d4 := hSw.1.at 4 rfl; have f4 := hSw.2.at 4 rfl; go_simp; try with_reducible rfl
  try simp only [Act.put, List.setIfInBounds_toArray, List.set_cons_zero, List.set_cons_succ]
  refine take_one 1 41 (v := ?_) rfl rfl (by kernel_rfl) (by kernel_rfl) (by kernel_rfl) (fun _ _ _ h => h) (Or.inl ⟨by rfl, ?_⟩) hHeld ?_
  rotate_left
  · intro w' hSw; (try dsimp only at hSw); have d0 := hSw.1.at 0 rfl; have f0 := hSw.2.at 0 rfl; have d1 := hSw.1.at 1 rfl; have f1 := hSw.2.at 1 rfl; have d2 := hSw.1.at 2 rfl; have f2 := hSw.2.at 2 rfl; have d3 := hSw.1.at 3 rfl; have f3 := hSw.2.at 3 rfl; have d4 := hSw.1.at 4 rfl; have f4 := hSw.2.at 4 rfl; go_simp; try with_reducible rfl
  try simp only [Act.put, List.setIfInBounds_toArray, List.set_cons_zero, List.set_cons_succ]
  refine wpAnyH_ready (rs := [2]) (by kernel_rfl) (by simp) ?_
  refine AllReadyH.cons (i := 2) rfl (fun K hK => ?_) AllReadyH.nil
  go_simp
  refine (toA_is q _ (hq.later BC) sq_).mono ?_
  rintro en v4 ⟨z1, rfl, ez, oz, hb⟩
  replace U1 := U1.later hb U1.lt
  replace UY := UY.later hb UY.lt
  replace oy1 := oy1.later hb
  replace BC := BC.trans (hb.mono BC.size)
  clear hb
  replace oz := oz.dp
  have Ez : Hid (stA z1 = stA q) := ez
  clear ez
  go_wp2_with fail
  refine hK.out _ _ ⟨U1, UY⟩ (fun hHeld2 => ?_)
  clear hK K hHeld
  have hHeld := hHeld2
  clear hHeld2
  try simp only [Act.put, List.setIfInBounds_toArray, List.set_cons_zero, List.set_cons_succ]
  refine wpAnyH_ready (rs := [3]) (by kernel_rfl) (by simp) ?_
  refine AllReadyH.cons (i := 3) rfl (fun K hK => ?_) AllReadyH.nil
  go_simp
  refine (eqA_is y1 z1 _ oy1 oz (by rw [Ey1.out, Ez.out]) (by rw [ra_same Ey1.out]; exact sq_)).mono ?_
  rintro en v5 ⟨rfl, hb⟩
  replace U1 := U1.later hb U1.lt
  replace UY := UY.later hb UY.lt
  replace oy1 := oy1.later hb
  replace oz := oz.later hb
  replace BC := BC.trans (hb.mono BC.size)
  clear hb
  go_wp2_with fail
  refine hK.out _ _ ⟨U1, UY⟩ (fun hHeld2 => ?_)
  clear hK K hHeld
  have hHeld := hHeld2
  clear hHeld2
  try simp only [Act.put, List.setIfInBounds_toArray, List.set_cons_zero, List.set_cons_succ]
  refine take_one 4 44 (v := ?_) rfl rfl (by kernel_rfl) (by kernel_rfl) (by kernel_rfl) (fun _ _ _ h => h) (Or.inl ⟨by rfl, ?_⟩) hHeld ?_
  rotate_left
  · intro w' hSw; (try dsimp only at hSw); go_simp; try with_reducible rfl
  try simp only [Act.put, List.setIfInBounds_toArray, List.set_cons_zero, List.set_cons_succ]
  refine wpAnyH_done (by kernel_rfl) ?_ _
  go_wp2_with fail
  go_ret
  exact ⟨rfl, BC⟩
end Go.Proofs.Ytjbbhegijlnndaa.Nd
