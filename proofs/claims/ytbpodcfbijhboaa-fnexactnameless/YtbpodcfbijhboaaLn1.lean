/- The laws on NameOk, NameFits and NameLess. -/
import Derived.Test.YtbpodcfbijhboaaNf1
import Derived.Test.YtbpodcfbijhboaaNf2
import Derived.Test.YtbpodcfbijhboaaNz1
import Derived.Test.YtbpodcfbijhboaaNc6
set_option linter.unusedVariables false
set_option maxRecDepth 100000
namespace Go.Proofs.Ytbpodcfbijhboaa.Nd
open Go Go.RowKit Go.Joins Own Draw

theorem DpT.drew {w : World} {p : TT} (h : DpT w p) : DpT w.drew p := h
theorem specNameOk_u (x : TT) (w : World) (hx : DpT w x) (sx : SmT x) : Calls Try.prog 13 #[vT x] w fun e w' => e = .returned (.bool (okN (stT x))) ∧ Below w.heap.size w w' := specNameOk_is x w hx sx.1 sx.2.1 sx.2.2
theorem implNameOk_u (x : TT) (w : World) (hx : DpT w x) (sx : SmT x) : Calls Try.prog 25 #[vT x] w fun e w' => e = .returned (.bool (okN (stT x))) ∧ Below w.heap.size w w' := implNameOk_is x w hx sx.1 sx.2.1 sx.2.2
set_option maxHeartbeats 6400000 in
theorem law_ok (x : TT) (w : World) (hx : DpT w x) (lx : LmT x) : Calls Try.prog 4 #[vT x] w fun en w' => en = .returned (.bool true) ∧ Below w.heap.size w w' := by
  obtain ⟨V, hV⟩ : ∃ V, (w.alloc (.cells #[.slice x.1.1 x.1.2.2.length x.1.2.1, .string x.2] 37)) = V := ⟨_, rfl⟩
  have BC : Below w.heap.size w V := by rw [← hV]; exact (Below.refl _ _).alloc (by simp <;> omega) _
  have U0 : Blk w.heap.size [.slice x.1.1 x.1.2.2.length x.1.2.1, .string x.2] V := by rw [← hV]; have h_ := (Blk.new w #[.slice x.1.1 x.1.2.2.length x.1.2.1, .string x.2] 37); simpa using h_
  go_enter Try.func4, Try.ntmps4
  have K0 := szT_is x 1048576 V (Nat.le_refl _) (hx.later BC) lx
  have qU00 := U0.at 0 rfl
  have qU01 := U0.at 1 rfl
  go_wp2_with fail
  try rw [hV]
  refine K0.mono ?_
  clear K0
  rintro en w1 ⟨rfl, hb⟩
  clear qU00 qU01
  replace U0 := U0.later hb U0.lt
  replace BC := BC.trans (hb.mono BC.size)
  clear hb
  by_cases sx : totT x ≤ 1048576
  rotate_left
  · have e : szV (totT x) 1048576 = -1 := if_neg sx
    rw [e]
    go_wp2
    go_ret
    exact ⟨rfl, BC⟩
  have e : szV (totT x) 1048576 = ((1048576 - totT x : Nat) : Int) := if_pos sx
  rw [e]
  clear e
  obtain ⟨k0, hk0⟩ : ∃ k, 1048576 - totT x = k := ⟨_, rfl⟩
  rw [hk0]
  have sx_ := sx
  have hkb0 : k0 ≤ 1048576 := by omega
  clear hk0 sx
  have K0 := toT_is x w1 (hx.later BC) sx_
  have qU00 := U0.at 0 rfl
  have qU01 := U0.at 1 rfl
  go_wp2_with fail
  refine K0.mono ?_
  clear K0
  rintro en w2 ⟨x0, rfl, ex0, ox0, hb⟩
  clear qU00 qU01
  replace U0 := U0.later hb U0.lt
  replace BC := BC.trans (hb.mono BC.size)
  replace ox0 := ox0.dp
  have Ex0 : Hid (stT x0 = stT x) := ex0
  clear hb ex0
  have p0 := t_parts (show totT x0 ≤ 1048576 by rw [t_same Ex0.out]; exact sx_)
  have K1 := specNameOk_u x0 w2 ox0 p0
  rw [Ex0.out] at K1
  clear p0
  obtain ⟨z0, hz0⟩ : ∃ z, okN (stT x) = z := ⟨_, rfl⟩
  rw [hz0] at K1
  have HZ : Hid (okN (stT x) = z0) := hz0
  clear hz0
  have qU00 := U0.at 0 rfl
  have qU01 := U0.at 1 rfl
  go_wp2_with fail
  refine K1.mono ?_
  clear K1
  rintro en w3 ⟨rfl, hb⟩
  clear qU00 qU01
  replace U0 := U0.later hb U0.lt
  replace BC := BC.trans (hb.mono BC.size)
  clear hb ox0 Ex0
  have K0 := toT_is x w3 (hx.later BC) sx_
  have qU00 := U0.at 0 rfl
  have qU01 := U0.at 1 rfl
  go_wp2_with fail
  refine K0.mono ?_
  clear K0
  rintro en w4 ⟨y0, rfl, ey0, oy0, hb⟩
  clear qU00 qU01
  replace U0 := U0.later hb U0.lt
  replace BC := BC.trans (hb.mono BC.size)
  replace oy0 := oy0.dp
  have Ey0 : Hid (stT y0 = stT x) := ey0
  clear hb ey0
  obtain ⟨V2, hV2⟩ : ∃ V, w4.alloc (.cells #[.slice y0.1.1 y0.1.2.2.length y0.1.2.1, .string y0.2] 26) = V := ⟨_, rfl⟩
  have hb : Below w4.heap.size w4 V2 := by rw [← hV2]; exact (Below.refl _ _).alloc (Nat.le_refl _) _
  have UY0 : Blk w4.heap.size [.slice y0.1.1 y0.1.2.2.length y0.1.2.1, .string y0.2] V2 := by rw [← hV2]; exact Blk.new _ _ _
  have hsy0 := BC.size
  replace U0 := U0.later hb U0.lt
  replace oy0 := oy0.later hb
  replace BC := BC.trans (hb.mono BC.size)
  clear hb
  obtain ⟨yb0, hyb0⟩ : ∃ yb, w4.heap.size = yb := ⟨_, rfl⟩
  rw [hyb0] at UY0 hsy0
  have hP0 : w4.alloc (.cells #[.slice y0.1.1 y0.1.2.2.length y0.1.2.1, .string y0.2] 26) = V2 := hV2
  clear hV2
  have p0 := t_parts (show totT y0 ≤ 1048576 by rw [t_same Ey0.out]; exact sx_)
  have K1 := implNameOk_u y0 V2 oy0 p0
  rw [Ey0.out, HZ.out] at K1
  clear p0
  have qU00 := U0.at 0 rfl
  have qU01 := U0.at 1 rfl
  have qUY00 := UY0.at 0 rfl
  have qUY01 := UY0.at 1 rfl
  have hzz : (z0 != z0) = false := by simp
  go_wp2_with fail
  try rw [hP0]
  try rw [hyb0]
  refine K1.mono ?_
  clear K1
  rintro en u1 ⟨rfl, hb⟩
  clear qU00 qU01 qUY00 qUY01 hP0 hyb0 HZ
  replace U0 := U0.later hb U0.lt
  replace UY0 := UY0.later hb UY0.lt
  replace oy0 := oy0.later hb
  replace BC := BC.trans (hb.mono BC.size)
  clear hb
  have qU00 := U0.at 0 rfl
  have qU01 := U0.at 1 rfl
  have qUY00 := UY0.at 0 rfl
  have qUY01 := UY0.at 1 rfl
  go_wp2_with fail
  clear qU00 qU01 qUY00 qUY01
  replace U0 := U0.drew
  replace UY0 := UY0.drew
  replace BC := BC.drew
  replace oy0 := oy0.drew
  refine wp_region_held_drew (S := (fun Vw => Blk w.heap.size [.slice x.1.1 x.1.2.2.length x.1.2.1, .string x.2] Vw ∧ Blk yb0 [.slice y0.1.1 y0.1.2.2.length y0.1.2.1, .string y0.2] Vw)) (by kernel_rfl) ⟨U0, UY0⟩ (fun hHeld => ?_)
  refine take_one 0 22 (v := ?_) rfl rfl (by kernel_rfl) (by kernel_rfl) (by kernel_rfl) (fun _ _ _ h => h) (Or.inl ⟨by rfl, ?_⟩) hHeld ?_
  rotate_left
  · intro w' hSw; (try dsimp only at hSw); have d0 := hSw.1.at 0 rfl; have f0 := hSw.2.at 0 rfl; have d1 := hSw.1.at 1 rfl; have f1 := hSw.2.at 1 rfl; go_simp; try with_reducible rfl
  try simp only [Act.put, List.setIfInBounds_toArray, List.set_cons_zero, List.set_cons_succ]
  refine take_one 1 23 (v := ?_) rfl rfl (by kernel_rfl) (by kernel_rfl) (by kernel_rfl) (fun _ _ _ h => h) (Or.inl ⟨by rfl, ?_⟩) hHeld ?_
  rotate_left
  · intro w' hSw; (try dsimp only at hSw); have d0 := hSw.1.at 0 rfl; have f0 := hSw.2.at 0 rfl; have d1 := hSw.1.at 1 rfl; have f1 := hSw.2.at 1 rfl; go_simp; try with_reducible rfl
  try simp only [Act.put, List.setIfInBounds_toArray, List.set_cons_zero, List.set_cons_succ]
  refine wpAnyH_ready (rs := [2]) (by kernel_rfl) (by simp) ?_
  refine AllReadyH.cons (i := 2) rfl (fun K hK => ?_) AllReadyH.nil
  go_simp
  refine (toT_is x _ (hx.later BC) sx_).mono ?_
  rintro en v40 ⟨z1, rfl, ez, oz, hb⟩
  replace U0 := U0.later hb U0.lt
  replace UY0 := UY0.later hb UY0.lt
  replace oy0 := oy0.later hb
  replace BC := BC.trans (hb.mono BC.size)
  clear hb
  replace oz := oz.dp
  have Ez : Hid (stT z1 = stT x) := ez
  clear ez
  go_wp2_with fail
  refine hK.out _ _ ⟨U0, UY0⟩ (fun hHeld2 => ?_)
  clear hK K hHeld
  have hHeld := hHeld2
  clear hHeld2
  try simp only [Act.put, List.setIfInBounds_toArray, List.set_cons_zero, List.set_cons_succ]
  refine wpAnyH_ready (rs := [3]) (by kernel_rfl) (by simp) ?_
  refine AllReadyH.cons (i := 3) rfl (fun K hK => ?_) AllReadyH.nil
  go_simp
  refine (eqT_is y0 z1 _ oy0 oz (by rw [Ey0.out, Ez.out]) (by rw [t_same Ey0.out]; exact sx_)).mono ?_
  rintro en v50 ⟨rfl, hb⟩
  replace U0 := U0.later hb U0.lt
  replace UY0 := UY0.later hb UY0.lt
  replace oy0 := oy0.later hb
  replace oz := oz.later hb
  replace BC := BC.trans (hb.mono BC.size)
  clear hb
  go_wp2_with fail
  refine hK.out _ _ ⟨U0, UY0⟩ (fun hHeld2 => ?_)
  clear hK K hHeld
  have hHeld := hHeld2
  clear hHeld2
  try simp only [Act.put, List.setIfInBounds_toArray, List.set_cons_zero, List.set_cons_succ]
  refine take_one 4 26 (v := ?_) rfl rfl (by kernel_rfl) (by kernel_rfl) (by kernel_rfl) (fun _ _ _ h => h) (Or.inl ⟨by rfl, ?_⟩) hHeld ?_
  rotate_left
  · intro w' hSw; (try dsimp only at hSw); go_simp; try with_reducible rfl
  try simp only [Act.put, List.setIfInBounds_toArray, List.set_cons_zero, List.set_cons_succ]
  refine wpAnyH_done (by kernel_rfl) ?_ _
  clear oz Ez
  go_wp2_with fail
  go_ret
  exact ⟨rfl, BC⟩
set_option maxHeartbeats 6400000 in
theorem law_fits (x y : TT) (w : World) (hx : DpT w x) (lx : LmT x) (hy : DpT w y) (ly : LmT y) : Calls Try.prog 7 #[vT x, vT y] w fun en w' => en = .returned (.bool true) ∧ Below w.heap.size w w' := by
  obtain ⟨V, hV⟩ : ∃ V, ((w.alloc (.cells #[.slice x.1.1 x.1.2.2.length x.1.2.1, .string x.2] 37)).alloc (.cells #[.slice y.1.1 y.1.2.2.length y.1.2.1, .string y.2] 37)) = V := ⟨_, rfl⟩
  have BC : Below w.heap.size w V := by rw [← hV]; exact ((Below.refl _ _).alloc (by simp <;> omega) _).alloc (by simp <;> omega) _
  have U0 : Blk w.heap.size [.slice x.1.1 x.1.2.2.length x.1.2.1, .string x.2] V := by rw [← hV]; have h_ := ((Blk.new w #[.slice x.1.1 x.1.2.2.length x.1.2.1, .string x.2] 37).alloc (by simp <;> omega) (.cells #[.slice y.1.1 y.1.2.2.length y.1.2.1, .string y.2] 37)); simpa using h_
  have U1 : Blk (w.heap.size + 1) [.slice y.1.1 y.1.2.2.length y.1.2.1, .string y.2] V := by rw [← hV]; have h_ := (Blk.new (w.alloc (.cells #[.slice x.1.1 x.1.2.2.length x.1.2.1, .string x.2] 37)) #[.slice y.1.1 y.1.2.2.length y.1.2.1, .string y.2] 37); simpa using h_
  go_enter Try.func7, Try.ntmps7
  have K0 := szT_is x 1048576 V (Nat.le_refl _) (hx.later BC) lx
  have qU00 := U0.at 0 rfl
  have qU01 := U0.at 1 rfl
  have qU10 := U1.at 0 rfl
  have qU11 := U1.at 1 rfl
  go_wp2_with fail
  try rw [hV]
  refine K0.mono ?_
  clear K0
  rintro en w1 ⟨rfl, hb⟩
  clear qU00 qU01 qU10 qU11
  replace U0 := U0.later hb U0.lt
  replace U1 := U1.later hb U1.lt
  replace BC := BC.trans (hb.mono BC.size)
  clear hb
  by_cases sx : totT x ≤ 1048576
  rotate_left
  · have e : szV (totT x) 1048576 = -1 := if_neg sx
    rw [e]
    go_wp2
    go_ret
    exact ⟨rfl, BC⟩
  have e : szV (totT x) 1048576 = ((1048576 - totT x : Nat) : Int) := if_pos sx
  rw [e]
  clear e
  obtain ⟨k0, hk0⟩ : ∃ k, 1048576 - totT x = k := ⟨_, rfl⟩
  rw [hk0]
  have sx_ := sx
  have hkb0 : k0 ≤ 1048576 := by omega
  have K0 := szT_is y k0 w1 (by omega) (hy.later BC) ly
  have qU00 := U0.at 0 rfl
  have qU01 := U0.at 1 rfl
  have qU10 := U1.at 0 rfl
  have qU11 := U1.at 1 rfl
  go_wp2_with fail
  refine K0.mono ?_
  clear K0
  rintro en w2 ⟨rfl, hb⟩
  clear qU00 qU01 qU10 qU11
  replace U0 := U0.later hb U0.lt
  replace U1 := U1.later hb U1.lt
  replace BC := BC.trans (hb.mono BC.size)
  clear hb
  by_cases sy : totT y ≤ k0
  rotate_left
  · have e : szV (totT y) k0 = -1 := if_neg sy
    rw [e]
    go_wp2
    go_ret
    exact ⟨rfl, BC⟩
  have e : szV (totT y) k0 = ((k0 - totT y : Nat) : Int) := if_pos sy
  rw [e]
  clear e
  obtain ⟨k1, hk1⟩ : ∃ k, k0 - totT y = k := ⟨_, rfl⟩
  rw [hk1]
  have sy_ : totT y ≤ 1048576 := by omega
  have hkb1 : k1 ≤ 1048576 := by omega
  have ssum_ : totT x + totT y ≤ 1048576 := by omega
  clear hk0 sx hk1 sy
  go_wp2_with fail
  replace U0 := U0.drew
  replace U1 := U1.drew
  replace BC := BC.drew
  refine wp_region_held_drew (S := (fun Vw => Blk w.heap.size [.slice x.1.1 x.1.2.2.length x.1.2.1, .string x.2] Vw ∧ Blk (w.heap.size + 1) [.slice y.1.1 y.1.2.2.length y.1.2.1, .string y.2] Vw)) (by kernel_rfl) ⟨U0, U1⟩ (fun hHeld => ?_)
  refine take_one 0 20 (v := ?_) rfl rfl (by kernel_rfl) (by kernel_rfl) (by kernel_rfl) (fun _ _ _ h => h) (Or.inl ⟨by rfl, ?_⟩) hHeld ?_
  rotate_left
  · intro w' hSw; (try dsimp only at hSw); have d0 := hSw.1.at 0 rfl; have f0 := hSw.2.at 0 rfl; have d1 := hSw.1.at 1 rfl; have f1 := hSw.2.at 1 rfl; go_simp; try with_reducible rfl
  try simp only [Act.put, List.setIfInBounds_toArray, List.set_cons_zero, List.set_cons_succ]
  refine take_one 2 22 (v := ?_) rfl rfl (by kernel_rfl) (by kernel_rfl) (by kernel_rfl) (fun _ _ _ h => h) (Or.inl ⟨by rfl, ?_⟩) hHeld ?_
  rotate_left
  · intro w' hSw; (try dsimp only at hSw); have d0 := hSw.1.at 0 rfl; have f0 := hSw.2.at 0 rfl; have d1 := hSw.1.at 1 rfl; have f1 := hSw.2.at 1 rfl; go_simp; try with_reducible rfl
  try simp only [Act.put, List.setIfInBounds_toArray, List.set_cons_zero, List.set_cons_succ]
  refine wpAnyH_ready (rs := [1]) (by kernel_rfl) (by simp) ?_
  refine AllReadyH.cons (i := 1) rfl (fun K hK => ?_) AllReadyH.nil
  go_simp
  refine (toT_is x _ (hx.later BC) sx_).mono ?_
  rintro en v1 ⟨x0, rfl, ex0, ox0, hb⟩
  replace U0 := U0.later hb U0.lt
  replace U1 := U1.later hb U1.lt
  replace BC := BC.trans (hb.mono BC.size)
  clear hb
  replace ox0 := ox0.dp
  have Ex0 : Hid (stT x0 = stT x) := ex0
  clear ex0
  go_wp2_with fail
  refine hK.out _ _ ⟨U0, U1⟩ (fun hHeld2 => ?_)
  clear hK K hHeld
  have hHeld := hHeld2
  clear hHeld2
  try simp only [Act.put, List.setIfInBounds_toArray, List.set_cons_zero, List.set_cons_succ]
  refine wpAnyH_ready (rs := [3]) (by kernel_rfl) (by simp) ?_
  refine AllReadyH.cons (i := 3) rfl (fun K hK => ?_) AllReadyH.nil
  go_simp
  refine (toT_is y _ (hy.later BC) sy_).mono ?_
  rintro en v2 ⟨x1, rfl, ex1, ox1, hb⟩
  replace U0 := U0.later hb U0.lt
  replace U1 := U1.later hb U1.lt
  replace ox0 := ox0.later hb
  replace BC := BC.trans (hb.mono BC.size)
  clear hb
  replace ox1 := ox1.dp
  have Ex1 : Hid (stT x1 = stT y) := ex1
  clear ex1
  have p0 := t_parts (show totT x0 ≤ 1048576 by rw [t_same Ex0.out]; exact sx_)
  have p1 := t_parts (show totT x1 ≤ 1048576 by rw [t_same Ex1.out]; exact sy_)
  go_wp2_with fail
  refine hK.out _ _ ⟨U0, U1⟩ (fun hHeld2 => ?_)
  clear hK K hHeld
  have hHeld := hHeld2
  clear hHeld2
  try simp only [Act.put, List.setIfInBounds_toArray, List.set_cons_zero, List.set_cons_succ]
  refine wpAnyH_ready (rs := [4]) (by kernel_rfl) (by simp) ?_
  refine AllReadyH.cons (i := 4) rfl (fun K hK => ?_) AllReadyH.nil
  go_simp
  refine (specFits_is x0 x1 _ ox0 ox1 p0 p1).mono ?_
  rintro en v3 ⟨rfl, hb⟩
  replace U0 := U0.later hb U0.lt
  replace U1 := U1.later hb U1.lt
  replace ox0 := ox0.later hb
  replace ox1 := ox1.later hb
  replace BC := BC.trans (hb.mono BC.size)
  clear hb
  rw [Ex0.out, Ex1.out]
  obtain ⟨z0, hz0⟩ : ∃ z, fitsN (stT x) (stT y) = z := ⟨_, rfl⟩
  rw [hz0]
  have HZ : Hid (fitsN (stT x) (stT y) = z0) := hz0
  clear hz0 p0 p1 ox0 ox1 Ex0 Ex1
  go_wp2_with fail
  refine hK.out _ _ ⟨U0, U1⟩ (fun hHeld2 => ?_)
  clear hK K hHeld
  have hHeld := hHeld2
  clear hHeld2
  try simp only [Act.put, List.setIfInBounds_toArray, List.set_cons_zero, List.set_cons_succ]
  refine take_one 5 6 (v := ?_) rfl rfl (by kernel_rfl) (by kernel_rfl) (by kernel_rfl) (fun _ _ _ h => h) (Or.inl ⟨by rfl, ?_⟩) hHeld ?_
  rotate_left
  · intro w' hSw; (try dsimp only at hSw); go_simp; try with_reducible rfl
  try simp only [Act.put, List.setIfInBounds_toArray, List.set_cons_zero, List.set_cons_succ]
  refine wpAnyH_done (by kernel_rfl) ?_ _
  have K0 := toT_is x v3 (hx.later BC) sx_
  have qU00 := U0.at 0 rfl
  have qU01 := U0.at 1 rfl
  have qU10 := U1.at 0 rfl
  have qU11 := U1.at 1 rfl
  go_wp2_with fail
  refine K0.mono ?_
  clear K0
  rintro en w3 ⟨y0, rfl, ey0, oy0, hb⟩
  clear qU00 qU01 qU10 qU11
  replace U0 := U0.later hb U0.lt
  replace U1 := U1.later hb U1.lt
  replace BC := BC.trans (hb.mono BC.size)
  replace oy0 := oy0.dp
  have Ey0 : Hid (stT y0 = stT x) := ey0
  clear hb ey0
  obtain ⟨V2, hV2⟩ : ∃ V, w3.alloc (.cells #[.slice y0.1.1 y0.1.2.2.length y0.1.2.1, .string y0.2] 26) = V := ⟨_, rfl⟩
  have hb : Below w3.heap.size w3 V2 := by rw [← hV2]; exact (Below.refl _ _).alloc (Nat.le_refl _) _
  have UY0 : Blk w3.heap.size [.slice y0.1.1 y0.1.2.2.length y0.1.2.1, .string y0.2] V2 := by rw [← hV2]; exact Blk.new _ _ _
  have hsy0 := BC.size
  replace U0 := U0.later hb U0.lt
  replace U1 := U1.later hb U1.lt
  replace oy0 := oy0.later hb
  replace BC := BC.trans (hb.mono BC.size)
  clear hb
  obtain ⟨yb0, hyb0⟩ : ∃ yb, w3.heap.size = yb := ⟨_, rfl⟩
  rw [hyb0] at UY0 hsy0
  have hP0 : w3.alloc (.cells #[.slice y0.1.1 y0.1.2.2.length y0.1.2.1, .string y0.2] 26) = V2 := hV2
  clear hV2
  have K0 := toT_is y V2 (hy.later BC) sy_
  have qU00 := U0.at 0 rfl
  have qU01 := U0.at 1 rfl
  have qU10 := U1.at 0 rfl
  have qU11 := U1.at 1 rfl
  have qUY00 := UY0.at 0 rfl
  have qUY01 := UY0.at 1 rfl
  go_wp2_with fail
  try rw [hP0]
  try rw [hyb0]
  refine K0.mono ?_
  clear K0
  rintro en w91 ⟨y1, rfl, ey1, oy1, hb⟩
  clear hP0 hyb0 qU00 qU01 qU10 qU11 qUY00 qUY01
  replace U0 := U0.later hb U0.lt
  replace U1 := U1.later hb U1.lt
  replace UY0 := UY0.later hb UY0.lt
  replace oy0 := oy0.later hb
  replace BC := BC.trans (hb.mono BC.size)
  replace oy1 := oy1.dp
  have Ey1 : Hid (stT y1 = stT y) := ey1
  clear hb ey1
  obtain ⟨V3, hV3⟩ : ∃ V, w91.alloc (.cells #[.slice y1.1.1 y1.1.2.2.length y1.1.2.1, .string y1.2] 26) = V := ⟨_, rfl⟩
  have hb : Below w91.heap.size w91 V3 := by rw [← hV3]; exact (Below.refl _ _).alloc (Nat.le_refl _) _
  have UY1 : Blk w91.heap.size [.slice y1.1.1 y1.1.2.2.length y1.1.2.1, .string y1.2] V3 := by rw [← hV3]; exact Blk.new _ _ _
  have hsy1 := BC.size
  replace U0 := U0.later hb U0.lt
  replace U1 := U1.later hb U1.lt
  replace UY0 := UY0.later hb UY0.lt
  replace oy0 := oy0.later hb
  replace oy1 := oy1.later hb
  replace BC := BC.trans (hb.mono BC.size)
  clear hb
  obtain ⟨yb1, hyb1⟩ : ∃ yb, w91.heap.size = yb := ⟨_, rfl⟩
  rw [hyb1] at UY1 hsy1
  have hP1 : w91.alloc (.cells #[.slice y1.1.1 y1.1.2.2.length y1.1.2.1, .string y1.2] 26) = V3 := hV3
  clear hV3
  have p0 := t_parts (show totT y0 ≤ 1048576 by rw [t_same Ey0.out]; exact sx_)
  have p1 := t_parts (show totT y1 ≤ 1048576 by rw [t_same Ey1.out]; exact sy_)
  have K1 := implFits_is y0 y1 V3 oy0 oy1 p0 p1
  rw [Ey0.out, Ey1.out, HZ.out] at K1
  clear p0 p1
  have qU00 := U0.at 0 rfl
  have qU01 := U0.at 1 rfl
  have qU10 := U1.at 0 rfl
  have qU11 := U1.at 1 rfl
  have qUY00 := UY0.at 0 rfl
  have qUY01 := UY0.at 1 rfl
  have qUY10 := UY1.at 0 rfl
  have qUY11 := UY1.at 1 rfl
  have hzz : (z0 != z0) = false := by simp
  go_wp2_with fail
  try rw [hP1]
  try rw [hyb1]
  refine K1.mono ?_
  clear K1
  rintro en u1 ⟨rfl, hb⟩
  clear qU00 qU01 qU10 qU11 qUY00 qUY01 qUY10 qUY11 hP1 hyb1 HZ
  replace U0 := U0.later hb U0.lt
  replace U1 := U1.later hb U1.lt
  replace UY0 := UY0.later hb UY0.lt
  replace UY1 := UY1.later hb UY1.lt
  replace oy0 := oy0.later hb
  replace oy1 := oy1.later hb
  replace BC := BC.trans (hb.mono BC.size)
  clear hb
  have qU00 := U0.at 0 rfl
  have qU01 := U0.at 1 rfl
  have qU10 := U1.at 0 rfl
  have qU11 := U1.at 1 rfl
  have qUY00 := UY0.at 0 rfl
  have qUY01 := UY0.at 1 rfl
  have qUY10 := UY1.at 0 rfl
  have qUY11 := UY1.at 1 rfl
  go_wp2_with fail
  clear qU00 qU01 qU10 qU11 qUY00 qUY01 qUY10 qUY11
  replace U0 := U0.drew
  replace U1 := U1.drew
  replace UY0 := UY0.drew
  replace UY1 := UY1.drew
  replace BC := BC.drew
  replace oy0 := oy0.drew
  replace oy1 := oy1.drew
  refine wp_region_held_drew (S := (fun Vw => Blk w.heap.size [.slice x.1.1 x.1.2.2.length x.1.2.1, .string x.2] Vw ∧ Blk yb0 [.slice y0.1.1 y0.1.2.2.length y0.1.2.1, .string y0.2] Vw)) (by kernel_rfl) ⟨U0, UY0⟩ (fun hHeld => ?_)
  refine take_one 0 35 (v := ?_) rfl rfl (by kernel_rfl) (by kernel_rfl) (by kernel_rfl) (fun _ _ _ h => h) (Or.inl ⟨by rfl, ?_⟩) hHeld ?_
  rotate_left
  · intro w' hSw; (try dsimp only at hSw); have d0 := hSw.1.at 0 rfl; have f0 := hSw.2.at 0 rfl; have d1 := hSw.1.at 1 rfl; have f1 := hSw.2.at 1 rfl; go_simp; try with_reducible rfl
  try simp only [Act.put, List.setIfInBounds_toArray, List.set_cons_zero, List.set_cons_succ]
  refine take_one 1 36 (v := ?_) rfl rfl (by kernel_rfl) (by kernel_rfl) (by kernel_rfl) (fun _ _ _ h => h) (Or.inl ⟨by rfl, ?_⟩) hHeld ?_
  rotate_left
  · intro w' hSw; (try dsimp only at hSw); have d0 := hSw.1.at 0 rfl; have f0 := hSw.2.at 0 rfl; have d1 := hSw.1.at 1 rfl; have f1 := hSw.2.at 1 rfl; go_simp; try with_reducible rfl
  try simp only [Act.put, List.setIfInBounds_toArray, List.set_cons_zero, List.set_cons_succ]
  refine wpAnyH_ready (rs := [2]) (by kernel_rfl) (by simp) ?_
  refine AllReadyH.cons (i := 2) rfl (fun K hK => ?_) AllReadyH.nil
  go_simp
  refine (toT_is x _ (hx.later BC) sx_).mono ?_
  rintro en v40 ⟨z1, rfl, ez, oz, hb⟩
  replace U0 := U0.later hb U0.lt
  replace U1 := U1.later hb U1.lt
  replace UY0 := UY0.later hb UY0.lt
  replace UY1 := UY1.later hb UY1.lt
  replace oy0 := oy0.later hb
  replace oy1 := oy1.later hb
  replace BC := BC.trans (hb.mono BC.size)
  clear hb
  replace oz := oz.dp
  have Ez : Hid (stT z1 = stT x) := ez
  clear ez
  go_wp2_with fail
  refine hK.out _ _ ⟨U0, UY0⟩ (fun hHeld2 => ?_)
  clear hK K hHeld
  have hHeld := hHeld2
  clear hHeld2
  try simp only [Act.put, List.setIfInBounds_toArray, List.set_cons_zero, List.set_cons_succ]
  refine wpAnyH_ready (rs := [3]) (by kernel_rfl) (by simp) ?_
  refine AllReadyH.cons (i := 3) rfl (fun K hK => ?_) AllReadyH.nil
  go_simp
  refine (eqT_is y0 z1 _ oy0 oz (by rw [Ey0.out, Ez.out]) (by rw [t_same Ey0.out]; exact sx_)).mono ?_
  rintro en v50 ⟨rfl, hb⟩
  replace U0 := U0.later hb U0.lt
  replace U1 := U1.later hb U1.lt
  replace UY0 := UY0.later hb UY0.lt
  replace UY1 := UY1.later hb UY1.lt
  replace oy0 := oy0.later hb
  replace oy1 := oy1.later hb
  replace oz := oz.later hb
  replace BC := BC.trans (hb.mono BC.size)
  clear hb
  go_wp2_with fail
  refine hK.out _ _ ⟨U0, UY0⟩ (fun hHeld2 => ?_)
  clear hK K hHeld
  have hHeld := hHeld2
  clear hHeld2
  try simp only [Act.put, List.setIfInBounds_toArray, List.set_cons_zero, List.set_cons_succ]
  refine take_one 4 39 (v := ?_) rfl rfl (by kernel_rfl) (by kernel_rfl) (by kernel_rfl) (fun _ _ _ h => h) (Or.inl ⟨by rfl, ?_⟩) hHeld ?_
  rotate_left
  · intro w' hSw; (try dsimp only at hSw); go_simp; try with_reducible rfl
  try simp only [Act.put, List.setIfInBounds_toArray, List.set_cons_zero, List.set_cons_succ]
  refine wpAnyH_done (by kernel_rfl) ?_ _
  clear oz Ez
  have qU00 := U0.at 0 rfl
  have qU01 := U0.at 1 rfl
  have qU10 := U1.at 0 rfl
  have qU11 := U1.at 1 rfl
  have qUY00 := UY0.at 0 rfl
  have qUY01 := UY0.at 1 rfl
  have qUY10 := UY1.at 0 rfl
  have qUY11 := UY1.at 1 rfl
  go_wp2_with fail
  clear qU00 qU01 qU10 qU11 qUY00 qUY01 qUY10 qUY11
  replace U0 := U0.drew
  replace U1 := U1.drew
  replace UY0 := UY0.drew
  replace UY1 := UY1.drew
  replace BC := BC.drew
  replace oy0 := oy0.drew
  replace oy1 := oy1.drew
  refine wp_region_held_drew (S := (fun Vw => Blk (w.heap.size + 1) [.slice y.1.1 y.1.2.2.length y.1.2.1, .string y.2] Vw ∧ Blk yb1 [.slice y1.1.1 y1.1.2.2.length y1.1.2.1, .string y1.2] Vw)) (by kernel_rfl) ⟨U1, UY1⟩ (fun hHeld => ?_)
  refine take_one 0 40 (v := ?_) rfl rfl (by kernel_rfl) (by kernel_rfl) (by kernel_rfl) (fun _ _ _ h => h) (Or.inl ⟨by rfl, ?_⟩) hHeld ?_
  rotate_left
  · intro w' hSw; (try dsimp only at hSw); have d0 := hSw.1.at 0 rfl; have f0 := hSw.2.at 0 rfl; have d1 := hSw.1.at 1 rfl; have f1 := hSw.2.at 1 rfl; go_simp; try with_reducible rfl
  try simp only [Act.put, List.setIfInBounds_toArray, List.set_cons_zero, List.set_cons_succ]
  refine take_one 1 41 (v := ?_) rfl rfl (by kernel_rfl) (by kernel_rfl) (by kernel_rfl) (fun _ _ _ h => h) (Or.inl ⟨by rfl, ?_⟩) hHeld ?_
  rotate_left
  · intro w' hSw; (try dsimp only at hSw); have d0 := hSw.1.at 0 rfl; have f0 := hSw.2.at 0 rfl; have d1 := hSw.1.at 1 rfl; have f1 := hSw.2.at 1 rfl; go_simp; try with_reducible rfl
  try simp only [Act.put, List.setIfInBounds_toArray, List.set_cons_zero, List.set_cons_succ]
  refine wpAnyH_ready (rs := [2]) (by kernel_rfl) (by simp) ?_
  refine AllReadyH.cons (i := 2) rfl (fun K hK => ?_) AllReadyH.nil
  go_simp
  refine (toT_is y _ (hy.later BC) sy_).mono ?_
  rintro en v41 ⟨z1, rfl, ez, oz, hb⟩
  replace U0 := U0.later hb U0.lt
  replace U1 := U1.later hb U1.lt
  replace UY0 := UY0.later hb UY0.lt
  replace UY1 := UY1.later hb UY1.lt
  replace oy0 := oy0.later hb
  replace oy1 := oy1.later hb
  replace BC := BC.trans (hb.mono BC.size)
  clear hb
  replace oz := oz.dp
  have Ez : Hid (stT z1 = stT y) := ez
  clear ez
  go_wp2_with fail
  refine hK.out _ _ ⟨U1, UY1⟩ (fun hHeld2 => ?_)
  clear hK K hHeld
  have hHeld := hHeld2
  clear hHeld2
  try simp only [Act.put, List.setIfInBounds_toArray, List.set_cons_zero, List.set_cons_succ]
  refine wpAnyH_ready (rs := [3]) (by kernel_rfl) (by simp) ?_
  refine AllReadyH.cons (i := 3) rfl (fun K hK => ?_) AllReadyH.nil
  go_simp
  refine (eqT_is y1 z1 _ oy1 oz (by rw [Ey1.out, Ez.out]) (by rw [t_same Ey1.out]; exact sy_)).mono ?_
  rintro en v51 ⟨rfl, hb⟩
  replace U0 := U0.later hb U0.lt
  replace U1 := U1.later hb U1.lt
  replace UY0 := UY0.later hb UY0.lt
  replace UY1 := UY1.later hb UY1.lt
  replace oy0 := oy0.later hb
  replace oy1 := oy1.later hb
  replace oz := oz.later hb
  replace BC := BC.trans (hb.mono BC.size)
  clear hb
  go_wp2_with fail
  refine hK.out _ _ ⟨U1, UY1⟩ (fun hHeld2 => ?_)
  clear hK K hHeld
  have hHeld := hHeld2
  clear hHeld2
  try simp only [Act.put, List.setIfInBounds_toArray, List.set_cons_zero, List.set_cons_succ]
  refine take_one 4 44 (v := ?_) rfl rfl (by kernel_rfl) (by kernel_rfl) (by kernel_rfl) (fun _ _ _ h => h) (Or.inl ⟨by rfl, ?_⟩) hHeld ?_
  rotate_left
  · intro w' hSw; (try dsimp only at hSw); go_simp; try with_reducible rfl
  try simp only [Act.put, List.setIfInBounds_toArray, List.set_cons_zero, List.set_cons_succ]
  refine wpAnyH_done (by kernel_rfl) ?_ _
  clear oz Ez
  go_wp2_with fail
  go_ret
  exact ⟨rfl, BC⟩
set_option maxHeartbeats 6400000 in
theorem law_less (x y : TT) (w : World) (hx : DpT w x) (lx : LmT x) (hy : DpT w y) (ly : LmT y) : Calls Try.prog 8 #[vT x, vT y] w fun en w' => en = .returned (.bool true) ∧ Below w.heap.size w w' := by
  obtain ⟨V, hV⟩ : ∃ V, ((w.alloc (.cells #[.slice x.1.1 x.1.2.2.length x.1.2.1, .string x.2] 37)).alloc (.cells #[.slice y.1.1 y.1.2.2.length y.1.2.1, .string y.2] 37)) = V := ⟨_, rfl⟩
  have BC : Below w.heap.size w V := by rw [← hV]; exact ((Below.refl _ _).alloc (by simp <;> omega) _).alloc (by simp <;> omega) _
  have U0 : Blk w.heap.size [.slice x.1.1 x.1.2.2.length x.1.2.1, .string x.2] V := by rw [← hV]; have h_ := ((Blk.new w #[.slice x.1.1 x.1.2.2.length x.1.2.1, .string x.2] 37).alloc (by simp <;> omega) (.cells #[.slice y.1.1 y.1.2.2.length y.1.2.1, .string y.2] 37)); simpa using h_
  have U1 : Blk (w.heap.size + 1) [.slice y.1.1 y.1.2.2.length y.1.2.1, .string y.2] V := by rw [← hV]; have h_ := (Blk.new (w.alloc (.cells #[.slice x.1.1 x.1.2.2.length x.1.2.1, .string x.2] 37)) #[.slice y.1.1 y.1.2.2.length y.1.2.1, .string y.2] 37); simpa using h_
  go_enter Try.func8, Try.ntmps8
  have K0 := szT_is x 1048576 V (Nat.le_refl _) (hx.later BC) lx
  have qU00 := U0.at 0 rfl
  have qU01 := U0.at 1 rfl
  have qU10 := U1.at 0 rfl
  have qU11 := U1.at 1 rfl
  go_wp2_with fail
  try rw [hV]
  refine K0.mono ?_
  clear K0
  rintro en w1 ⟨rfl, hb⟩
  clear qU00 qU01 qU10 qU11
  replace U0 := U0.later hb U0.lt
  replace U1 := U1.later hb U1.lt
  replace BC := BC.trans (hb.mono BC.size)
  clear hb
  by_cases sx : totT x ≤ 1048576
  rotate_left
  · have e : szV (totT x) 1048576 = -1 := if_neg sx
    rw [e]
    go_wp2
    go_ret
    exact ⟨rfl, BC⟩
  have e : szV (totT x) 1048576 = ((1048576 - totT x : Nat) : Int) := if_pos sx
  rw [e]
  clear e
  obtain ⟨k0, hk0⟩ : ∃ k, 1048576 - totT x = k := ⟨_, rfl⟩
  rw [hk0]
  have sx_ := sx
  have hkb0 : k0 ≤ 1048576 := by omega
  have K0 := szT_is y k0 w1 (by omega) (hy.later BC) ly
  have qU00 := U0.at 0 rfl
  have qU01 := U0.at 1 rfl
  have qU10 := U1.at 0 rfl
  have qU11 := U1.at 1 rfl
  go_wp2_with fail
  refine K0.mono ?_
  clear K0
  rintro en w2 ⟨rfl, hb⟩
  clear qU00 qU01 qU10 qU11
  replace U0 := U0.later hb U0.lt
  replace U1 := U1.later hb U1.lt
  replace BC := BC.trans (hb.mono BC.size)
  clear hb
  by_cases sy : totT y ≤ k0
  rotate_left
  · have e : szV (totT y) k0 = -1 := if_neg sy
    rw [e]
    go_wp2
    go_ret
    exact ⟨rfl, BC⟩
  have e : szV (totT y) k0 = ((k0 - totT y : Nat) : Int) := if_pos sy
  rw [e]
  clear e
  obtain ⟨k1, hk1⟩ : ∃ k, k0 - totT y = k := ⟨_, rfl⟩
  rw [hk1]
  have sy_ : totT y ≤ 1048576 := by omega
  have hkb1 : k1 ≤ 1048576 := by omega
  have ssum_ : totT x + totT y ≤ 1048576 := by omega
  clear hk0 sx hk1 sy
  go_wp2_with fail
  replace U0 := U0.drew
  replace U1 := U1.drew
  replace BC := BC.drew
  refine wp_region_held_drew (S := (fun Vw => Blk w.heap.size [.slice x.1.1 x.1.2.2.length x.1.2.1, .string x.2] Vw ∧ Blk (w.heap.size + 1) [.slice y.1.1 y.1.2.2.length y.1.2.1, .string y.2] Vw)) (by kernel_rfl) ⟨U0, U1⟩ (fun hHeld => ?_)
  refine take_one 0 20 (v := ?_) rfl rfl (by kernel_rfl) (by kernel_rfl) (by kernel_rfl) (fun _ _ _ h => h) (Or.inl ⟨by rfl, ?_⟩) hHeld ?_
  rotate_left
  · intro w' hSw; (try dsimp only at hSw); have d0 := hSw.1.at 0 rfl; have f0 := hSw.2.at 0 rfl; have d1 := hSw.1.at 1 rfl; have f1 := hSw.2.at 1 rfl; go_simp; try with_reducible rfl
  try simp only [Act.put, List.setIfInBounds_toArray, List.set_cons_zero, List.set_cons_succ]
  refine take_one 2 22 (v := ?_) rfl rfl (by kernel_rfl) (by kernel_rfl) (by kernel_rfl) (fun _ _ _ h => h) (Or.inl ⟨by rfl, ?_⟩) hHeld ?_
  rotate_left
  · intro w' hSw; (try dsimp only at hSw); have d0 := hSw.1.at 0 rfl; have f0 := hSw.2.at 0 rfl; have d1 := hSw.1.at 1 rfl; have f1 := hSw.2.at 1 rfl; go_simp; try with_reducible rfl
  try simp only [Act.put, List.setIfInBounds_toArray, List.set_cons_zero, List.set_cons_succ]
  refine wpAnyH_ready (rs := [1]) (by kernel_rfl) (by simp) ?_
  refine AllReadyH.cons (i := 1) rfl (fun K hK => ?_) AllReadyH.nil
  go_simp
  refine (toT_is x _ (hx.later BC) sx_).mono ?_
  rintro en v1 ⟨x0, rfl, ex0, ox0, hb⟩
  replace U0 := U0.later hb U0.lt
  replace U1 := U1.later hb U1.lt
  replace BC := BC.trans (hb.mono BC.size)
  clear hb
  replace ox0 := ox0.dp
  have Ex0 : Hid (stT x0 = stT x) := ex0
  clear ex0
  go_wp2_with fail
  refine hK.out _ _ ⟨U0, U1⟩ (fun hHeld2 => ?_)
  clear hK K hHeld
  have hHeld := hHeld2
  clear hHeld2
  try simp only [Act.put, List.setIfInBounds_toArray, List.set_cons_zero, List.set_cons_succ]
  refine wpAnyH_ready (rs := [3]) (by kernel_rfl) (by simp) ?_
  refine AllReadyH.cons (i := 3) rfl (fun K hK => ?_) AllReadyH.nil
  go_simp
  refine (toT_is y _ (hy.later BC) sy_).mono ?_
  rintro en v2 ⟨x1, rfl, ex1, ox1, hb⟩
  replace U0 := U0.later hb U0.lt
  replace U1 := U1.later hb U1.lt
  replace ox0 := ox0.later hb
  replace BC := BC.trans (hb.mono BC.size)
  clear hb
  replace ox1 := ox1.dp
  have Ex1 : Hid (stT x1 = stT y) := ex1
  clear ex1
  have p0 := t_parts (show totT x0 ≤ 1048576 by rw [t_same Ex0.out]; exact sx_)
  have p1 := t_parts (show totT x1 ≤ 1048576 by rw [t_same Ex1.out]; exact sy_)
  go_wp2_with fail
  refine hK.out _ _ ⟨U0, U1⟩ (fun hHeld2 => ?_)
  clear hK K hHeld
  have hHeld := hHeld2
  clear hHeld2
  try simp only [Act.put, List.setIfInBounds_toArray, List.set_cons_zero, List.set_cons_succ]
  refine wpAnyH_ready (rs := [4]) (by kernel_rfl) (by simp) ?_
  refine AllReadyH.cons (i := 4) rfl (fun K hK => ?_) AllReadyH.nil
  go_simp
  refine (specLess_is x0 x1 _ ox0 ox1 p0 p1).mono ?_
  rintro en v3 ⟨rfl, hb⟩
  replace U0 := U0.later hb U0.lt
  replace U1 := U1.later hb U1.lt
  replace ox0 := ox0.later hb
  replace ox1 := ox1.later hb
  replace BC := BC.trans (hb.mono BC.size)
  clear hb
  rw [Ex0.out, Ex1.out]
  obtain ⟨z0, hz0⟩ : ∃ z, lessN (stT x) (stT y) = z := ⟨_, rfl⟩
  rw [hz0]
  have HZ : Hid (lessN (stT x) (stT y) = z0) := hz0
  clear hz0 p0 p1 ox0 ox1 Ex0 Ex1
  go_wp2_with fail
  refine hK.out _ _ ⟨U0, U1⟩ (fun hHeld2 => ?_)
  clear hK K hHeld
  have hHeld := hHeld2
  clear hHeld2
  try simp only [Act.put, List.setIfInBounds_toArray, List.set_cons_zero, List.set_cons_succ]
  refine take_one 5 6 (v := ?_) rfl rfl (by kernel_rfl) (by kernel_rfl) (by kernel_rfl) (fun _ _ _ h => h) (Or.inl ⟨by rfl, ?_⟩) hHeld ?_
  rotate_left
  · intro w' hSw; (try dsimp only at hSw); go_simp; try with_reducible rfl
  try simp only [Act.put, List.setIfInBounds_toArray, List.set_cons_zero, List.set_cons_succ]
  refine wpAnyH_done (by kernel_rfl) ?_ _
  have K0 := toT_is x v3 (hx.later BC) sx_
  have qU00 := U0.at 0 rfl
  have qU01 := U0.at 1 rfl
  have qU10 := U1.at 0 rfl
  have qU11 := U1.at 1 rfl
  go_wp2_with fail
  refine K0.mono ?_
  clear K0
  rintro en w3 ⟨y0, rfl, ey0, oy0, hb⟩
  clear qU00 qU01 qU10 qU11
  replace U0 := U0.later hb U0.lt
  replace U1 := U1.later hb U1.lt
  replace BC := BC.trans (hb.mono BC.size)
  replace oy0 := oy0.dp
  have Ey0 : Hid (stT y0 = stT x) := ey0
  clear hb ey0
  obtain ⟨V2, hV2⟩ : ∃ V, w3.alloc (.cells #[.slice y0.1.1 y0.1.2.2.length y0.1.2.1, .string y0.2] 26) = V := ⟨_, rfl⟩
  have hb : Below w3.heap.size w3 V2 := by rw [← hV2]; exact (Below.refl _ _).alloc (Nat.le_refl _) _
  have UY0 : Blk w3.heap.size [.slice y0.1.1 y0.1.2.2.length y0.1.2.1, .string y0.2] V2 := by rw [← hV2]; exact Blk.new _ _ _
  have hsy0 := BC.size
  replace U0 := U0.later hb U0.lt
  replace U1 := U1.later hb U1.lt
  replace oy0 := oy0.later hb
  replace BC := BC.trans (hb.mono BC.size)
  clear hb
  obtain ⟨yb0, hyb0⟩ : ∃ yb, w3.heap.size = yb := ⟨_, rfl⟩
  rw [hyb0] at UY0 hsy0
  have hP0 : w3.alloc (.cells #[.slice y0.1.1 y0.1.2.2.length y0.1.2.1, .string y0.2] 26) = V2 := hV2
  clear hV2
  have K0 := toT_is y V2 (hy.later BC) sy_
  have qU00 := U0.at 0 rfl
  have qU01 := U0.at 1 rfl
  have qU10 := U1.at 0 rfl
  have qU11 := U1.at 1 rfl
  have qUY00 := UY0.at 0 rfl
  have qUY01 := UY0.at 1 rfl
  go_wp2_with fail
  try rw [hP0]
  try rw [hyb0]
  refine K0.mono ?_
  clear K0
  rintro en w91 ⟨y1, rfl, ey1, oy1, hb⟩
  clear hP0 hyb0 qU00 qU01 qU10 qU11 qUY00 qUY01
  replace U0 := U0.later hb U0.lt
  replace U1 := U1.later hb U1.lt
  replace UY0 := UY0.later hb UY0.lt
  replace oy0 := oy0.later hb
  replace BC := BC.trans (hb.mono BC.size)
  replace oy1 := oy1.dp
  have Ey1 : Hid (stT y1 = stT y) := ey1
  clear hb ey1
  obtain ⟨V3, hV3⟩ : ∃ V, w91.alloc (.cells #[.slice y1.1.1 y1.1.2.2.length y1.1.2.1, .string y1.2] 26) = V := ⟨_, rfl⟩
  have hb : Below w91.heap.size w91 V3 := by rw [← hV3]; exact (Below.refl _ _).alloc (Nat.le_refl _) _
  have UY1 : Blk w91.heap.size [.slice y1.1.1 y1.1.2.2.length y1.1.2.1, .string y1.2] V3 := by rw [← hV3]; exact Blk.new _ _ _
  have hsy1 := BC.size
  replace U0 := U0.later hb U0.lt
  replace U1 := U1.later hb U1.lt
  replace UY0 := UY0.later hb UY0.lt
  replace oy0 := oy0.later hb
  replace oy1 := oy1.later hb
  replace BC := BC.trans (hb.mono BC.size)
  clear hb
  obtain ⟨yb1, hyb1⟩ : ∃ yb, w91.heap.size = yb := ⟨_, rfl⟩
  rw [hyb1] at UY1 hsy1
  have hP1 : w91.alloc (.cells #[.slice y1.1.1 y1.1.2.2.length y1.1.2.1, .string y1.2] 26) = V3 := hV3
  clear hV3
  have p0 := t_parts (show totT y0 ≤ 1048576 by rw [t_same Ey0.out]; exact sx_)
  have p1 := t_parts (show totT y1 ≤ 1048576 by rw [t_same Ey1.out]; exact sy_)
  have K1 := implLess_is y0 y1 V3 oy0 oy1 p0 p1
  rw [Ey0.out, Ey1.out, HZ.out] at K1
  clear p0 p1
  have qU00 := U0.at 0 rfl
  have qU01 := U0.at 1 rfl
  have qU10 := U1.at 0 rfl
  have qU11 := U1.at 1 rfl
  have qUY00 := UY0.at 0 rfl
  have qUY01 := UY0.at 1 rfl
  have qUY10 := UY1.at 0 rfl
  have qUY11 := UY1.at 1 rfl
  have hzz : (z0 != z0) = false := by simp
  go_wp2_with fail
  try rw [hP1]
  try rw [hyb1]
  refine K1.mono ?_
  clear K1
  rintro en u1 ⟨rfl, hb⟩
  clear qU00 qU01 qU10 qU11 qUY00 qUY01 qUY10 qUY11 hP1 hyb1 HZ
  replace U0 := U0.later hb U0.lt
  replace U1 := U1.later hb U1.lt
  replace UY0 := UY0.later hb UY0.lt
  replace UY1 := UY1.later hb UY1.lt
  replace oy0 := oy0.later hb
  replace oy1 := oy1.later hb
  replace BC := BC.trans (hb.mono BC.size)
  clear hb
  have qU00 := U0.at 0 rfl
  have qU01 := U0.at 1 rfl
  have qU10 := U1.at 0 rfl
  have qU11 := U1.at 1 rfl
  have qUY00 := UY0.at 0 rfl
  have qUY01 := UY0.at 1 rfl
  have qUY10 := UY1.at 0 rfl
  have qUY11 := UY1.at 1 rfl
  go_wp2_with fail
  clear qU00 qU01 qU10 qU11 qUY00 qUY01 qUY10 qUY11
  replace U0 := U0.drew
  replace U1 := U1.drew
  replace UY0 := UY0.drew
  replace UY1 := UY1.drew
  replace BC := BC.drew
  replace oy0 := oy0.drew
  replace oy1 := oy1.drew
  refine wp_region_held_drew (S := (fun Vw => Blk w.heap.size [.slice x.1.1 x.1.2.2.length x.1.2.1, .string x.2] Vw ∧ Blk yb0 [.slice y0.1.1 y0.1.2.2.length y0.1.2.1, .string y0.2] Vw)) (by kernel_rfl) ⟨U0, UY0⟩ (fun hHeld => ?_)
  refine take_one 0 35 (v := ?_) rfl rfl (by kernel_rfl) (by kernel_rfl) (by kernel_rfl) (fun _ _ _ h => h) (Or.inl ⟨by rfl, ?_⟩) hHeld ?_
  rotate_left
  · intro w' hSw; (try dsimp only at hSw); have d0 := hSw.1.at 0 rfl; have f0 := hSw.2.at 0 rfl; have d1 := hSw.1.at 1 rfl; have f1 := hSw.2.at 1 rfl; go_simp; try with_reducible rfl
  try simp only [Act.put, List.setIfInBounds_toArray, List.set_cons_zero, List.set_cons_succ]
  refine take_one 1 36 (v := ?_) rfl rfl (by kernel_rfl) (by kernel_rfl) (by kernel_rfl) (fun _ _ _ h => h) (Or.inl ⟨by rfl, ?_⟩) hHeld ?_
  rotate_left
  · intro w' hSw; (try dsimp only at hSw); have d0 := hSw.1.at 0 rfl; have f0 := hSw.2.at 0 rfl; have d1 := hSw.1.at 1 rfl; have f1 := hSw.2.at 1 rfl; go_simp; try with_reducible rfl
  try simp only [Act.put, List.setIfInBounds_toArray, List.set_cons_zero, List.set_cons_succ]
  refine wpAnyH_ready (rs := [2]) (by kernel_rfl) (by simp) ?_
  refine AllReadyH.cons (i := 2) rfl (fun K hK => ?_) AllReadyH.nil
  go_simp
  refine (toT_is x _ (hx.later BC) sx_).mono ?_
  rintro en v40 ⟨z1, rfl, ez, oz, hb⟩
  replace U0 := U0.later hb U0.lt
  replace U1 := U1.later hb U1.lt
  replace UY0 := UY0.later hb UY0.lt
  replace UY1 := UY1.later hb UY1.lt
  replace oy0 := oy0.later hb
  replace oy1 := oy1.later hb
  replace BC := BC.trans (hb.mono BC.size)
  clear hb
  replace oz := oz.dp
  have Ez : Hid (stT z1 = stT x) := ez
  clear ez
  go_wp2_with fail
  refine hK.out _ _ ⟨U0, UY0⟩ (fun hHeld2 => ?_)
  clear hK K hHeld
  have hHeld := hHeld2
  clear hHeld2
  try simp only [Act.put, List.setIfInBounds_toArray, List.set_cons_zero, List.set_cons_succ]
  refine wpAnyH_ready (rs := [3]) (by kernel_rfl) (by simp) ?_
  refine AllReadyH.cons (i := 3) rfl (fun K hK => ?_) AllReadyH.nil
  go_simp
  refine (eqT_is y0 z1 _ oy0 oz (by rw [Ey0.out, Ez.out]) (by rw [t_same Ey0.out]; exact sx_)).mono ?_
  rintro en v50 ⟨rfl, hb⟩
  replace U0 := U0.later hb U0.lt
  replace U1 := U1.later hb U1.lt
  replace UY0 := UY0.later hb UY0.lt
  replace UY1 := UY1.later hb UY1.lt
  replace oy0 := oy0.later hb
  replace oy1 := oy1.later hb
  replace oz := oz.later hb
  replace BC := BC.trans (hb.mono BC.size)
  clear hb
  go_wp2_with fail
  refine hK.out _ _ ⟨U0, UY0⟩ (fun hHeld2 => ?_)
  clear hK K hHeld
  have hHeld := hHeld2
  clear hHeld2
  try simp only [Act.put, List.setIfInBounds_toArray, List.set_cons_zero, List.set_cons_succ]
  refine take_one 4 39 (v := ?_) rfl rfl (by kernel_rfl) (by kernel_rfl) (by kernel_rfl) (fun _ _ _ h => h) (Or.inl ⟨by rfl, ?_⟩) hHeld ?_
  rotate_left
  · intro w' hSw; (try dsimp only at hSw); go_simp; try with_reducible rfl
  try simp only [Act.put, List.setIfInBounds_toArray, List.set_cons_zero, List.set_cons_succ]
  refine wpAnyH_done (by kernel_rfl) ?_ _
  clear oz Ez
  have qU00 := U0.at 0 rfl
  have qU01 := U0.at 1 rfl
  have qU10 := U1.at 0 rfl
  have qU11 := U1.at 1 rfl
  have qUY00 := UY0.at 0 rfl
  have qUY01 := UY0.at 1 rfl
  have qUY10 := UY1.at 0 rfl
  have qUY11 := UY1.at 1 rfl
  go_wp2_with fail
  clear qU00 qU01 qU10 qU11 qUY00 qUY01 qUY10 qUY11
  replace U0 := U0.drew
  replace U1 := U1.drew
  replace UY0 := UY0.drew
  replace UY1 := UY1.drew
  replace BC := BC.drew
  replace oy0 := oy0.drew
  replace oy1 := oy1.drew
  refine wp_region_held_drew (S := (fun Vw => Blk (w.heap.size + 1) [.slice y.1.1 y.1.2.2.length y.1.2.1, .string y.2] Vw ∧ Blk yb1 [.slice y1.1.1 y1.1.2.2.length y1.1.2.1, .string y1.2] Vw)) (by kernel_rfl) ⟨U1, UY1⟩ (fun hHeld => ?_)
  refine take_one 0 40 (v := ?_) rfl rfl (by kernel_rfl) (by kernel_rfl) (by kernel_rfl) (fun _ _ _ h => h) (Or.inl ⟨by rfl, ?_⟩) hHeld ?_
  rotate_left
  · intro w' hSw; (try dsimp only at hSw); have d0 := hSw.1.at 0 rfl; have f0 := hSw.2.at 0 rfl; have d1 := hSw.1.at 1 rfl; have f1 := hSw.2.at 1 rfl; go_simp; try with_reducible rfl
  try simp only [Act.put, List.setIfInBounds_toArray, List.set_cons_zero, List.set_cons_succ]
  refine take_one 1 41 (v := ?_) rfl rfl (by kernel_rfl) (by kernel_rfl) (by kernel_rfl) (fun _ _ _ h => h) (Or.inl ⟨by rfl, ?_⟩) hHeld ?_
  rotate_left
  · intro w' hSw; (try dsimp only at hSw); have d0 := hSw.1.at 0 rfl; have f0 := hSw.2.at 0 rfl; have d1 := hSw.1.at 1 rfl; have f1 := hSw.2.at 1 rfl; go_simp; try with_reducible rfl
  try simp only [Act.put, List.setIfInBounds_toArray, List.set_cons_zero, List.set_cons_succ]
  refine wpAnyH_ready (rs := [2]) (by kernel_rfl) (by simp) ?_
  refine AllReadyH.cons (i := 2) rfl (fun K hK => ?_) AllReadyH.nil
  go_simp
  refine (toT_is y _ (hy.later BC) sy_).mono ?_
  rintro en v41 ⟨z1, rfl, ez, oz, hb⟩
  replace U0 := U0.later hb U0.lt
  replace U1 := U1.later hb U1.lt
  replace UY0 := UY0.later hb UY0.lt
  replace UY1 := UY1.later hb UY1.lt
  replace oy0 := oy0.later hb
  replace oy1 := oy1.later hb
  replace BC := BC.trans (hb.mono BC.size)
  clear hb
  replace oz := oz.dp
  have Ez : Hid (stT z1 = stT y) := ez
  clear ez
  go_wp2_with fail
  refine hK.out _ _ ⟨U1, UY1⟩ (fun hHeld2 => ?_)
  clear hK K hHeld
  have hHeld := hHeld2
  clear hHeld2
  try simp only [Act.put, List.setIfInBounds_toArray, List.set_cons_zero, List.set_cons_succ]
  refine wpAnyH_ready (rs := [3]) (by kernel_rfl) (by simp) ?_
  refine AllReadyH.cons (i := 3) rfl (fun K hK => ?_) AllReadyH.nil
  go_simp
  refine (eqT_is y1 z1 _ oy1 oz (by rw [Ey1.out, Ez.out]) (by rw [t_same Ey1.out]; exact sy_)).mono ?_
  rintro en v51 ⟨rfl, hb⟩
  replace U0 := U0.later hb U0.lt
  replace U1 := U1.later hb U1.lt
  replace UY0 := UY0.later hb UY0.lt
  replace UY1 := UY1.later hb UY1.lt
  replace oy0 := oy0.later hb
  replace oy1 := oy1.later hb
  replace oz := oz.later hb
  replace BC := BC.trans (hb.mono BC.size)
  clear hb
  go_wp2_with fail
  refine hK.out _ _ ⟨U1, UY1⟩ (fun hHeld2 => ?_)
  clear hK K hHeld
  have hHeld := hHeld2
  clear hHeld2
  try simp only [Act.put, List.setIfInBounds_toArray, List.set_cons_zero, List.set_cons_succ]
  refine take_one 4 44 (v := ?_) rfl rfl (by kernel_rfl) (by kernel_rfl) (by kernel_rfl) (fun _ _ _ h => h) (Or.inl ⟨by rfl, ?_⟩) hHeld ?_
  rotate_left
  · intro w' hSw; (try dsimp only at hSw); go_simp; try with_reducible rfl
  try simp only [Act.put, List.setIfInBounds_toArray, List.set_cons_zero, List.set_cons_succ]
  refine wpAnyH_done (by kernel_rfl) ?_ _
  clear oz Ez
  go_wp2_with fail
  go_ret
  exact ⟨rfl, BC⟩
end Go.Proofs.Ytbpodcfbijhboaa.Nd
