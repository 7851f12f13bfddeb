/- Flow of the program. -/
import Derived.Test.YtflajkbbggmdjaaFw2
set_option linter.unusedVariables false
set_option maxRecDepth 100000
namespace Go.Proofs.Ytflajkbbggmdjaa
open Go Go.RowKit Go.Joins Own Draw

theorem frow_blk {xs : List TA} {g : Nat} {W : World} (h : Blk g (fl cA xs) W) (hg : g < W.heap.size) : FRow 9 cA W (some ⟨g, 0, none⟩) xs := by
  intro j hj
  refine ⟨g, 0, rfl, hg, fun i v e => ?_⟩
  have hi : i < 9 := by
    by_cases hi : i < 9
    · exact hi
    · rw [List.getElem?_eq_none (by rw [lA]; omega)] at e; cases e
  refine h.at _ ?_
  rw [Nat.zero_add, fl_get lA xs j hj i hi]
  exact e
theorem lit_row (w : World) (xs : List TA) (arr : Array Value) (h : arr.toList = fl cA xs) : FRow 9 cA (w.alloc (.cells arr 71)) (some ⟨w.heap.size, 0, none⟩) xs := by
  refine frow_blk ?_ (by simp)
  rw [← h]
  exact Blk.new _ _ _
theorem flow_no {c : Cf} {p s q : Int} {t : TR} (h : okF c p s t q = false) : flowL c p s t q = [] := by unfold flowL; rw [h]; rfl
theorem way_head {c : Cf} {a b : Int} (h : ¬ wayL c a b = []) : ∃ r, wayL c a b = a :: r := by
  unfold wayL at h ⊢
  split
  · exact ⟨_, rfl⟩
  · rename_i h1
    rw [if_neg h1] at h
    split
    · rename_i h2; rw [if_pos h2] at h; exact absurd rfl h
    · split <;> exact ⟨_, rfl⟩
set_option maxRecDepth 100000 in
set_option maxHeartbeats 6400000 in
theorem implFlow_is (c : Cf) (p s : Int) (t : TR) (q : Int) (w : World) (C : CfAt c w) (KC : CfOk c) :
    Calls Try.prog 13 #[c.val, .int .i64 p, .int .i64 s, vR t, .int .i64 q] w fun en w' => ∃ (ra : Option Addr) (rc : Nat), en = .returned (.slice ra (flowL c p s t q).length rc) ∧ FOwn 71 9 cA w.heap.size ra rc (flowL c p s t q) w' ∧ Below w.heap.size w w' := by
  obtain ⟨t0, t1, t2⟩ := t
  obtain ⟨W1, hW1⟩ : ∃ W1, w.alloc (.cells #[.slice c.ua c.U.length c.uc, .slice c.sa c.S.length c.sc, .slice c.la c.L.length c.lc, .slice c.xa c.X.length c.xc, .int .i64 c.k] 30) = W1 := ⟨_, rfl⟩
  have B1 : Below w.heap.size w W1 := by rw [← hW1]; exact (Below.refl _ _).alloc (Nat.le_refl _) _
  have T1 : Blk w.heap.size c.cells W1 := by rw [← hW1]; exact Blk.new _ _ _
  have Z1 : W1.heap.size = w.heap.size + 1 := by rw [← hW1]; simp
  obtain ⟨W2, hW2⟩ : ∃ W2, W1.alloc (.cells #[.int .i64 t0, .int .i64 t1, .int .i64 t2] 38) = W2 := ⟨_, rfl⟩
  have B2 : Below w.heap.size w W2 := by rw [← hW2]; exact B1.alloc B1.size _
  have T2 : Blk w.heap.size c.cells W2 := by rw [← hW2]; exact T1.alloc (by omega) _
  have R2 : Blk (w.heap.size + 1) [.int .i64 t0, .int .i64 t1, .int .i64 t2] W2 := by rw [← hW2, ← Z1]; exact Blk.new _ _ _
  have d0 := T2.at 0 rfl
  have d1 := T2.at 1 rfl
  have d2 := T2.at 2 rfl
  have d3 := T2.at 3 rfl
  have d4 := T2.at 4 rfl
  have HO : Hid (okF c p s (t0, t1, t2) q = (confB c && (btw p 0 5 && (btw s 0 2 && (restB (t0, t1, t2) && btw q 0 7))))) := (rfl : okF c p s (t0, t1, t2) q = _)
  go_enter Try.func13, Try.ntmps13
  go_wp2_with fail
  try rw [hW1]
  try rw [hW2]
  refine (right_is c W2 (C.later B2) KC).mono ?_
  clear hW1 hW2 d0 d1 d2 d3 d4 B1 T1 Z1
  rintro en w3 ⟨rfl, hb⟩
  replace T2 := T2.later hb T2.lt
  replace R2 := R2.later hb R2.lt
  replace B2 := B2.trans (hb.mono B2.size)
  clear hb
  by_cases h0 : confB c = true
  rotate_left
  · rw [Bool.eq_false_iff.2 h0]
    have HV : Hid (flowL c p s (t0, t1, t2) q = []) := flow_no (by rw [HO.out, Bool.eq_false_iff.2 h0]; rfl)
    clear HO T2 R2
    go_wp2
    go_ret
    exact ⟨none, 0, by rw [HV.out]; rfl, by rw [HV.out]; exact FOwn.nil _ _ _ _ _, B2⟩
  rw [h0]
  go_wp2_with fail
  refine (prin_is p _).mono ?_
  rintro en wx ⟨rfl, rfl⟩
  by_cases h1 : btw p 0 5 = true
  rotate_left
  · rw [Bool.eq_false_iff.2 h1]
    have HV : Hid (flowL c p s (t0, t1, t2) q = []) := flow_no (by rw [HO.out, h0, Bool.eq_false_iff.2 h1]; rfl)
    clear HO T2 R2
    go_wp2
    go_ret
    exact ⟨none, 0, by rw [HV.out]; rfl, by rw [HV.out]; exact FOwn.nil _ _ _ _ _, B2⟩
  rw [h1]
  go_wp2_with fail
  refine (serv_is s _).mono ?_
  rintro en wx ⟨rfl, rfl⟩
  by_cases h2 : btw s 0 2 = true
  rotate_left
  · rw [Bool.eq_false_iff.2 h2]
    have HV : Hid (flowL c p s (t0, t1, t2) q = []) := flow_no (by rw [HO.out, h0, h1, Bool.eq_false_iff.2 h2]; rfl)
    clear HO T2 R2
    go_wp2
    go_ret
    exact ⟨none, 0, by rw [HV.out]; rfl, by rw [HV.out]; exact FOwn.nil _ _ _ _ _, B2⟩
  rw [h2]
  have e0 := R2.at 0 rfl
  have e1 := R2.at 1 rfl
  have e2 := R2.at 2 rfl
  go_wp2_with fail
  refine (restI_is (t0, t1, t2) _).mono ?_
  clear e0 e1 e2
  rintro en w4 ⟨rfl, hb⟩
  replace T2 := T2.later hb T2.lt
  replace R2 := R2.later hb R2.lt
  replace B2 := B2.trans (hb.mono B2.size)
  clear hb
  by_cases h3 : restB (t0, t1, t2) = true
  rotate_left
  · rw [Bool.eq_false_iff.2 h3]
    have HV : Hid (flowL c p s (t0, t1, t2) q = []) := flow_no (by rw [HO.out, h0, h1, h2, Bool.eq_false_iff.2 h3]; rfl)
    clear HO T2 R2
    go_wp2
    go_ret
    exact ⟨none, 0, by rw [HV.out]; rfl, by rw [HV.out]; exact FOwn.nil _ _ _ _ _, B2⟩
  rw [h3]
  go_wp2_with fail
  refine (within_is q 7 _).mono ?_
  rintro en wx ⟨rfl, rfl⟩
  by_cases h4 : btw q 0 7 = true
  rotate_left
  · rw [show inB q 7 = false from Bool.eq_false_iff.2 h4]
    have HV : Hid (flowL c p s (t0, t1, t2) q = []) := flow_no (by rw [HO.out, h0, h1, h2, h3, Bool.eq_false_iff.2 h4]; rfl)
    clear HO T2 R2
    go_wp2
    go_ret
    exact ⟨none, 0, by rw [HV.out]; rfl, by rw [HV.out]; exact FOwn.nil _ _ _ _ _, B2⟩
  rw [show inB q 7 = true from h4]
  have HF : Hid (flowL c p s (t0, t1, t2) q = if wayL c (roV c p) (roV c (3 + s)) = [] then [] else actsF p s (t0, t1, t2) q (roV c p) (wayL c (roV c p) (roV c (3 + s)))) := by
    show _ = _
    unfold flowL
    rw [if_pos (by rw [HO.out, h0, h1, h2, h3, h4]; rfl)]
  have hs := (btw_iff _ _ _).1 h2
  have hs0 := hs.1
  have hs2 := hs.2
  clear HO h0 h1 h2 h3 h4 hs
  have CD : CfAt c w4.drew := (C.later B2).later (Below.refl _ _).drew
  have c0 : w4.drew.cell? ⟨w.heap.size, 0, none⟩ = some (.slice c.ua c.U.length c.uc) := T2.at 0 rfl
  have c1 : w4.drew.cell? ⟨w.heap.size, 1, none⟩ = some (.slice c.sa c.S.length c.sc) := T2.at 1 rfl
  have c2 : w4.drew.cell? ⟨w.heap.size, 2, none⟩ = some (.slice c.la c.L.length c.lc) := T2.at 2 rfl
  have c3 : w4.drew.cell? ⟨w.heap.size, 3, none⟩ = some (.slice c.xa c.X.length c.xc) := T2.at 3 rfl
  have c4 : w4.drew.cell? ⟨w.heap.size, 4, none⟩ = some (.int .i64 c.k) := T2.at 4 rfl
  have cl : w.heap.size < w4.drew.heap.size := T2.lt
  have HW : Hid (IntKind.i64.wrap (3 + s) = 3 + s) := by show _ = _; rw [IntKind.wrap_i64]; omega
  go_wp2_with fail
  refine wp_region_held_drew (S := (fun V : World => V.cell? ⟨w.heap.size, 0, none⟩ = some (.slice c.ua c.U.length c.uc) ∧ V.cell? ⟨w.heap.size, 1, none⟩ = some (.slice c.sa c.S.length c.sc) ∧ V.cell? ⟨w.heap.size, 2, none⟩ = some (.slice c.la c.L.length c.lc) ∧ V.cell? ⟨w.heap.size, 3, none⟩ = some (.slice c.xa c.X.length c.xc) ∧ V.cell? ⟨w.heap.size, 4, none⟩ = some (.int .i64 c.k))) (by kernel_rfl) ⟨c0, c1, c2, c3, c4⟩ (fun hHeld => ?_)
  refine take_one 0 41 (v := ?_) rfl rfl (by kernel_rfl) (by kernel_rfl) (by kernel_rfl) (fun _ _ _ h => h) (Or.inl ⟨by rfl, ?_⟩) hHeld ?_
  rotate_left
  · intro w' hSw; (try dsimp only at hSw); obtain ⟨c0, c1, c2, c3, c4⟩ := hSw; go_simp; try with_reducible rfl
  try simp only [Act.put, List.setIfInBounds_toArray, List.set_cons_zero, List.set_cons_succ]
  refine take_one 1 42 (v := ?_) rfl rfl (by kernel_rfl) (by kernel_rfl) (by kernel_rfl) (fun _ _ _ h => h) (Or.inl ⟨by rfl, ?_⟩) hHeld ?_
  rotate_left
  · intro w' hSw; (try dsimp only at hSw); obtain ⟨c0, c1, c2, c3, c4⟩ := hSw; go_simp; try with_reducible rfl
  try simp only [Act.put, List.setIfInBounds_toArray, List.set_cons_zero, List.set_cons_succ]
  refine take_one 2 43 (v := ?_) rfl rfl (by kernel_rfl) (by kernel_rfl) (by kernel_rfl) (fun _ _ _ h => h) (Or.inl ⟨by rfl, ?_⟩) hHeld ?_
  rotate_left
  · intro w' hSw; (try dsimp only at hSw); obtain ⟨c0, c1, c2, c3, c4⟩ := hSw; go_simp; try with_reducible rfl
  try simp only [Act.put, List.setIfInBounds_toArray, List.set_cons_zero, List.set_cons_succ]
  refine take_one 4 45 (v := ?_) rfl rfl (by kernel_rfl) (by kernel_rfl) (by kernel_rfl) (fun _ _ _ h => h) (Or.inl ⟨by rfl, ?_⟩) hHeld ?_
  rotate_left
  · intro w' hSw; (try dsimp only at hSw); obtain ⟨c0, c1, c2, c3, c4⟩ := hSw; go_simp; try with_reducible rfl
  try simp only [Act.put, List.setIfInBounds_toArray, List.set_cons_zero, List.set_cons_succ]
  refine take_one 5 46 (v := ?_) rfl rfl (by kernel_rfl) (by kernel_rfl) (by kernel_rfl) (fun _ _ _ h => h) (Or.inl ⟨by rfl, ?_⟩) hHeld ?_
  rotate_left
  · intro w' hSw; (try dsimp only at hSw); obtain ⟨c0, c1, c2, c3, c4⟩ := hSw; go_simp; try with_reducible rfl
  try simp only [Act.put, List.setIfInBounds_toArray, List.set_cons_zero, List.set_cons_succ]
  refine take_one 6 47 (v := .int .i64 (3 + s)) rfl rfl (by kernel_rfl) (by kernel_rfl) (by kernel_rfl) (fun _ _ _ h => h) (Or.inl ⟨by rfl, ?_⟩) hHeld ?_
  · intro w' hSw; (try dsimp only at hSw); go_simp; exact HW.out
  try simp only [Act.put, List.setIfInBounds_toArray, List.set_cons_zero, List.set_cons_succ]
  refine wpAnyH_ready (rs := [3]) (by kernel_rfl) (by simp) ?_
  refine AllReadyH.cons (i := 3) rfl (fun K hK => ?_) AllReadyH.nil
  go_simp
  refine (implRO_is c p _ CD KC).mono ?_
  rintro en w5 ⟨rfl, hb5⟩
  go_wp2_with fail
  refine hK.out _ _ ⟨(hb5.cell (p := ⟨w.heap.size, 0, none⟩) cl).trans c0, (hb5.cell (p := ⟨w.heap.size, 1, none⟩) cl).trans c1, (hb5.cell (p := ⟨w.heap.size, 2, none⟩) cl).trans c2, (hb5.cell (p := ⟨w.heap.size, 3, none⟩) cl).trans c3, (hb5.cell (p := ⟨w.heap.size, 4, none⟩) cl).trans c4⟩ (fun hHeld2 => ?_)
  clear hK K hHeld
  have hHeld := hHeld2
  clear hHeld2
  try simp only [Act.put, List.setIfInBounds_toArray, List.set_cons_zero, List.set_cons_succ]
  have D5 := (hb5 : Below w4.drew.heap.size w4.drew w5)
  refine wpAnyH_ready (rs := [7]) (by kernel_rfl) (by simp) ?_
  refine AllReadyH.cons (i := 7) rfl (fun K hK => ?_) AllReadyH.nil
  go_simp
  refine (implRO_is c (3 + s) _ (CD.later D5) KC).mono ?_
  rintro en w6 ⟨rfl, hb6⟩
  go_wp2_with fail
  refine hK.out _ _ ⟨((D5.trans (hb6.mono D5.size)).cell (p := ⟨w.heap.size, 0, none⟩) cl).trans c0, ((D5.trans (hb6.mono D5.size)).cell (p := ⟨w.heap.size, 1, none⟩) cl).trans c1, ((D5.trans (hb6.mono D5.size)).cell (p := ⟨w.heap.size, 2, none⟩) cl).trans c2, ((D5.trans (hb6.mono D5.size)).cell (p := ⟨w.heap.size, 3, none⟩) cl).trans c3, ((D5.trans (hb6.mono D5.size)).cell (p := ⟨w.heap.size, 4, none⟩) cl).trans c4⟩ (fun hHeld2 => ?_)
  clear hK K hHeld
  have hHeld := hHeld2
  clear hHeld2
  try simp only [Act.put, List.setIfInBounds_toArray, List.set_cons_zero, List.set_cons_succ]
  have D6 := D5.trans (hb6.mono D5.size)
  refine wpAnyH_ready (rs := [8]) (by kernel_rfl) (by simp) ?_
  refine AllReadyH.cons (i := 8) rfl (fun K hK => ?_) AllReadyH.nil
  go_simp
  refine (way_is c (roV c p) (roV c (3 + s)) _ (CD.later D6) KC).mono ?_
  rintro en w7 ⟨ga, gc, rfl, hrw, hb7⟩
  go_wp2_with fail
  refine hK.out _ _ ⟨((D6.trans (hb7.mono D6.size)).cell (p := ⟨w.heap.size, 0, none⟩) cl).trans c0, ((D6.trans (hb7.mono D6.size)).cell (p := ⟨w.heap.size, 1, none⟩) cl).trans c1, ((D6.trans (hb7.mono D6.size)).cell (p := ⟨w.heap.size, 2, none⟩) cl).trans c2, ((D6.trans (hb7.mono D6.size)).cell (p := ⟨w.heap.size, 3, none⟩) cl).trans c3, ((D6.trans (hb7.mono D6.size)).cell (p := ⟨w.heap.size, 4, none⟩) cl).trans c4⟩ (fun hHeld2 => ?_)
  clear hK K hHeld
  have hHeld := hHeld2
  clear hHeld2
  try simp only [Act.put, List.setIfInBounds_toArray, List.set_cons_zero, List.set_cons_succ]
  refine take_one 9 11 (v := ?_) rfl rfl (by kernel_rfl) (by kernel_rfl) (by kernel_rfl) (fun _ _ _ h => h) (Or.inl ⟨by rfl, ?_⟩) hHeld ?_
  rotate_left
  · intro w' hSw; (try dsimp only at hSw); obtain ⟨c0, c1, c2, c3, c4⟩ := hSw; go_simp; try with_reducible rfl
  try simp only [Act.put, List.setIfInBounds_toArray, List.set_cons_zero, List.set_cons_succ]
  refine wpAnyH_done (by kernel_rfl) ?_ _
  have D7 : Below w4.heap.size w4 w7 := ((Below.refl w4.heap.size w4).drew).trans (D6.trans (hb7.mono D6.size))
  replace R2 := R2.later D7 R2.lt
  replace B2 := B2.trans (D7.mono B2.size)
  clear hHeld c0 c1 c2 c3 c4 cl CD D5 D6 D7 hb5 hb6 hb7 T2
  have hL3 := wayL_len c (roV c p) (roV c (3 + s))
  by_cases hw : wayL c (roV c p) (roV c (3 + s)) = []
  · have HV : Hid (flowL c p s (t0, t1, t2) q = []) := by show _ = _; rw [HF.out, if_pos hw]
    rw [hw]
    clear hrw HF
    go_wp2
    go_ret
    exact ⟨none, 0, by rw [HV.out]; rfl, by rw [HV.out]; exact FOwn.nil _ _ _ _ _, B2⟩
  obtain ⟨ls, hls⟩ := way_head hw
  have HV : Hid (flowL c p s (t0, t1, t2) q = actsF p s (t0, t1, t2) q (roV c p) (wayL c (roV c p) (roV c (3 + s)))) := by show _ = _; rw [HF.out, if_neg hw]
  rw [hls] at HV
  rw [hls] at hrw hL3 ⊢
  generalize roV c p = r0 at *
  clear HF hw hls
  have hrow : RowAt (Value.int .i64) w7 ga (r0 :: ls) := Nd.row_own hrw
  obtain ⟨gb, go, rfl, hgl, hgc⟩ := hrow 0 (by simp)
  obtain ⟨L, hL⟩ : ∃ L, r0 :: ls = L := ⟨_, rfl⟩
  have hl0 : 0 < L.length := by rw [← hL]; simp
  have hc0 : w7.cell? ⟨gb, go, none⟩ = some (.int .i64 r0) := hgc
  rw [hL] at HV hL3 hrow ⊢
  clear hrw hgc hL
  -- the box of the acts
  obtain ⟨W8, hW8⟩ : ∃ W8, w7.alloc (.cells #[.slice none 0 0] 36) = W8 := ⟨_, rfl⟩
  have Z8 : W8.heap.size = w7.heap.size + 1 := by rw [← hW8]; simp
  have B8 : Below w7.heap.size w7 W8 := by rw [← hW8]; exact (Below.refl _ _).alloc (Nat.le_refl _) _
  have T8 : Blk w7.heap.size [.slice none 0 0] W8 := by rw [← hW8]; exact Blk.new _ _ _
  have c8 : W8.cell? ⟨gb, go, none⟩ = some (.int .i64 r0) := (B8.cell (p := ⟨gb, go, none⟩) hgl).trans hc0
  obtain ⟨W9, hW9⟩ : ∃ W9, W8.alloc (.cells #[.int .i64 2, .int .i64 p, .int .i64 0, .int .i64 0, .int .i64 0, .int .i64 0, .int .i64 0, .int .i64 0, .string ⟨#[]⟩, .int .i64 4, .int .i64 r0, .int .i64 0, .int .i64 0, .int .i64 0, .int .i64 0, .int .i64 0, .int .i64 0, .string ⟨#[]⟩, .int .i64 5, .int .i64 p, .int .i64 1, .int .i64 0, .int .i64 0, .int .i64 0, .int .i64 0, .int .i64 0, .string ⟨#[]⟩] 71) = W9 := ⟨_, rfl⟩
  have B9 : Below W8.heap.size W8 W9 := by rw [← hW9]; exact (Below.refl _ _).alloc (Nat.le_refl _) _
  have F9 : FRow 9 cA W9 (some ⟨W8.heap.size, 0, none⟩) (headA p r0) := by rw [← hW9]; exact lit_row _ _ _ rfl
  have P9 := put_is w7.heap.size [] (headA p r0) none (some ⟨W8.heap.size, 0, none⟩) 0 3 W9 (T8.later B9 T8.lt) (FOwn.nil _ _ _ _ _) F9 (by simp [headA])
  rw [Z8] at P9
  go_wp2_with fail
  refine P9.mono ?_
  clear P9 hW8 hW9 c8 F9
  rintro en w10 ⟨⟨v9, rfl⟩, a0, cp0, T10, O10, hb10⟩
  rw [List.nil_append] at T10 O10
  have E10 : Below w7.heap.size w7 w10 := B8.trans ((B9.mono B8.size).trans hb10)
  clear T8 B8 B9 hb10 Z8
  have hR := R2.lt
  have HX0 : Hid (headA p r0 = headA p r0 ++ stepsA p s (t0, t1, t2) 0 (L.take 0)) := by show _ = _; simp [stepsA]
  have hX0 : (headA p r0).length = 3 := rfl
  rw [HX0.out] at T10 O10
  clear hc0 hl0
  go_wp2
  go_loopw [14, 15, 67] (fun cv sv iv wr => ∃ (k : Nat) (oa : Option Addr) (oc : Nat), k ≤ L.length ∧ iv = .int .i64 (k : Int) ∧ cv = .int .i64 (k : Int) ∧ sv = .int .i64 (2 + 2 * (k : Int)) ∧ Blk w7.heap.size [.slice oa (headA p r0 ++ stepsA p s (t0, t1, t2) 0 (L.take k)).length oc] wr ∧ FOwn 71 9 cA (w7.heap.size + 1) oa oc (headA p r0 ++ stepsA p s (t0, t1, t2) 0 (L.take k)) wr ∧ Below w7.heap.size w7 wr) (fun _ _ iv _ => L.length - (intOf iv).toNat)
  case atStart => exact ⟨0, a0, cp0, by omega, rfl, rfl, rfl, T10, O10, E10⟩
  case round =>
    clear T10 O10 E10 HX0
    obtain ⟨k, oa, oc, hk, rfl, rfl, rfl, T, O, E⟩ := hrel
    have hXl : (headA p r0 ++ stepsA p s (t0, t1, t2) 0 (L.take k)).length ≤ 12 := by rw [List.length_append, stepsA_len, List.length_take, hX0]; omega
    by_cases hlt : k < L.length
    · obtain ⟨b1, o1, e1, _, hc1⟩ := hrow k hlt
      cases e1
      have ck : wr.cell? ⟨gb, go + k, none⟩ = some (.int .i64 L[k]) := (E.cell (p := ⟨gb, go + k, none⟩) hgl).trans hc1
      have HT : Hid (headA p r0 ++ stepsA p s (t0, t1, t2) 0 (L.take k) ++ stepA p s (t0, t1, t2) k L[k] = headA p r0 ++ stepsA p s (t0, t1, t2) 0 (L.take (k + 1))) := by
        show _ = _
        rw [List.take_succ_eq_append_getElem hlt, stepsA_snoc, List.append_assoc, List.length_take, Nat.min_eq_left hk, Nat.zero_add]
      generalize L[k] = rk at ck HT
      have RK := R2.lower E hR
      have g0 := RK.at 0 rfl
      have g1 := RK.at 1 rfl
      have g2 := RK.at 2 rfl
      obtain ⟨WN, hWN⟩ : ∃ WN, wr.alloc (.cells #[.int .i64 3, .int .i64 p, .int .i64 (k : Int), .int .i64 s, .int .i64 0, .int .i64 t0, .int .i64 t1, .int .i64 t2, .string ⟨#[]⟩, .int .i64 4, .int .i64 rk, .int .i64 (2 + 2 * (k : Int)), .int .i64 0, .int .i64 0, .int .i64 0, .int .i64 0, .int .i64 0, .string ⟨#[]⟩, .int .i64 5, .int .i64 p, .int .i64 (2 + 2 * (k : Int) + 1), .int .i64 0, .int .i64 0, .int .i64 0, .int .i64 0, .int .i64 0, .string ⟨#[]⟩] 71) = WN := ⟨_, rfl⟩
      have BN : Below wr.heap.size wr WN := by rw [← hWN]; exact (Below.refl _ _).alloc (Nat.le_refl _) _
      have FN : FRow 9 cA WN (some ⟨wr.heap.size, 0, none⟩) (stepA p s (t0, t1, t2) k rk) := by rw [← hWN]; exact lit_row _ _ _ rfl
      have PN := put_is w7.heap.size _ (stepA p s (t0, t1, t2) k rk) oa (some ⟨wr.heap.size, 0, none⟩) oc 3 WN (T.later BN T.lt) (own_later O BN) FN (by have : (stepA p s (t0, t1, t2) k rk).length = 3 := rfl; omega)
      rw [HT.out] at PN
      have EN := E.trans (BN.mono E.size)
      have hlt2 : (k : Int) < (L.length : Int) := by omega
      clear T O BN FN hc1 RK HT hXl
      go_wp2_with fail
      refine PN.mono ?_
      clear PN hWN g0 g1 g2 ck
      rintro en w11 ⟨⟨v9, rfl⟩, na, nc, T11, O11, hb11⟩
      replace EN := EN.trans hb11
      clear E hb11
      go_wp2
      go_roundw
      case rel => exact ⟨k + 1, na, nc, by omega, by go_num, by go_num, by congr 1 <;> omega, T11, O11, EN⟩
      case measure => simp [intOf]; omega
    · obtain rfl : k = L.length := by omega
      rw [List.take_length] at T O hXl
      have HT : Hid (headA p r0 ++ stepsA p s (t0, t1, t2) 0 L ++ lastA p s q L.length = flowL c p s (t0, t1, t2) q) := by show _ = _; rw [HV.out]; rfl
      obtain ⟨WN, hWN⟩ : ∃ WN, wr.alloc (.cells #[.int .i64 6, .int .i64 p, .int .i64 (L.length : Int), .int .i64 q, .int .i64 0, .int .i64 0, .int .i64 0, .int .i64 0, .string ⟨#[]⟩, .int .i64 7, .int .i64 s, .int .i64 (2 + 2 * (L.length : Int)), .int .i64 0, .int .i64 0, .int .i64 0, .int .i64 0, .int .i64 0, .string ⟨#[]⟩] 71) = WN := ⟨_, rfl⟩
      have BN : Below wr.heap.size wr WN := by rw [← hWN]; exact (Below.refl _ _).alloc (Nat.le_refl _) _
      have FN : FRow 9 cA WN (some ⟨wr.heap.size, 0, none⟩) (lastA p s q L.length) := by rw [← hWN]; exact lit_row _ _ _ rfl
      have PN := put_is w7.heap.size _ (lastA p s q L.length) oa (some ⟨wr.heap.size, 0, none⟩) oc 2 WN (T.later BN T.lt) (own_later O BN) FN (by have : (lastA p s q L.length).length = 2 := rfl; omega)
      rw [HT.out] at PN
      have EN := E.trans (BN.mono E.size)
      clear T O BN FN HT hXl HV
      go_wp2_with fail
      refine PN.mono ?_
      clear PN hWN
      rintro en w11 ⟨⟨v9, rfl⟩, na, nc, T11, O11, hb11⟩
      replace EN := EN.trans hb11
      clear E hb11
      have m0 := T11.at 0 rfl
      have hBB := B2.trans (EN.mono B2.size)
      go_wp2
      go_ret
      exact ⟨na, nc, rfl, O11.le (by have := B2.size; omega), hBB⟩
end Go.Proofs.Ytflajkbbggmdjaa
