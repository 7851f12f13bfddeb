/- The law on ShowName. -/
import Derived.Test.YtbpodcfbijhboaaNg2
import Derived.Test.YtbpodcfbijhboaaNg3
import Derived.Test.YtbpodcfbijhboaaNz1
import Derived.Test.YtbpodcfbijhboaaNc6
set_option linter.unusedVariables false
set_option maxRecDepth 100000
namespace Go.Proofs.Ytbpodcfbijhboaa.Nd
open Go Go.RowKit Go.Joins Own Draw

theorem DpT.drew {w : World} {p : TT} (h : DpT w p) : DpT w.drew p := h
theorem own_cap {B : Nat} {w : World} {p : TT} (h : OwT B w p) : p.1.2.2.length ≤ p.1.2.1 := by
  have h1 : RoS B w p.1 := h
  rcases h1.2 with ⟨e, h0⟩ | ⟨g, cap, cur, e, _, _, hnc, _⟩
  · omega
  · injection e with _ _ e3
    omega
set_option maxHeartbeats 6400000 in
theorem law_show (x : TT) (w : World) (hx : DpT w x) (lx : LmT x) : Calls Try.prog 5 #[vT x] w fun en w' => en = .returned (.bool true) ∧ Below w.heap.size w w' := by
  obtain ⟨V, hV⟩ : ∃ V, (w.alloc (.cells #[.slice x.1.1 x.1.2.2.length x.1.2.1, .string x.2] 37)) = V := ⟨_, rfl⟩
  have BC : Below w.heap.size w V := by rw [← hV]; exact (Below.refl _ _).alloc (by simp <;> omega) _
  have U0 : Blk w.heap.size [.slice x.1.1 x.1.2.2.length x.1.2.1, .string x.2] V := by rw [← hV]; have h_ := (Blk.new w #[.slice x.1.1 x.1.2.2.length x.1.2.1, .string x.2] 37); simpa using h_
  go_enter Try.func5, Try.ntmps5
  have K0 := szT_is x 1048576 V (Nat.le_refl _) (hx.later BC) lx
  have qU00 := U0.at 0 rfl
  have qU01 := U0.at 1 rfl
  go_wp2_with fail
  try rw [hV]
  refine K0.mono ?_
  clear K0
  rintro en w1 ⟨rfl, hb⟩
  clear qU00 qU01
  replace U0 := U0.later hb U0.lt
  replace BC := BC.trans (hb.mono BC.size)
  clear hb
  by_cases sx : totT x ≤ 1048576
  rotate_left
  · have e : szV (totT x) 1048576 = -1 := if_neg sx
    rw [e]
    go_wp2
    go_ret
    exact ⟨rfl, BC⟩
  have e : szV (totT x) 1048576 = ((1048576 - totT x : Nat) : Int) := if_pos sx
  rw [e]
  clear e
  obtain ⟨k0, hk0⟩ : ∃ k, 1048576 - totT x = k := ⟨_, rfl⟩
  rw [hk0]
  have sx_ := sx
  have hkb0 : k0 ≤ 1048576 := by omega
  clear hk0 sx
  have K0 := toT_is x w1 (hx.later BC) sx_
  have qU00 := U0.at 0 rfl
  have qU01 := U0.at 1 rfl
  go_wp2_with fail
  refine K0.mono ?_
  clear K0
  rintro en w2 ⟨x0, rfl, ex0, ox0, hb⟩
  clear qU00 qU01
  replace U0 := U0.later hb U0.lt
  replace BC := BC.trans (hb.mono BC.size)
  replace ox0 := ox0.dp
  have Ex0 : Hid (stT x0 = stT x) := ex0
  clear hb ex0
  have p0 := t_parts (show totT x0 ≤ 1048576 by rw [t_same Ex0.out]; exact sx_)
  have K1 := specShow_is x0 w2 ox0 p0
  rw [Ex0.out] at K1
  clear p0
  obtain ⟨z0, hz0⟩ : ∃ z, showN (stT x) = z := ⟨_, rfl⟩
  rw [hz0] at K1
  have HZ : Hid (showN (stT x) = z0) := hz0
  clear hz0
  have qU00 := U0.at 0 rfl
  have qU01 := U0.at 1 rfl
  go_wp2_with fail
  refine K1.mono ?_
  clear K1
  rintro en w3 ⟨rfl, hb⟩
  clear qU00 qU01
  replace U0 := U0.later hb U0.lt
  replace BC := BC.trans (hb.mono BC.size)
  clear hb ox0 Ex0
  have K0 := toT_is x w3 (hx.later BC) sx_
  have qU00 := U0.at 0 rfl
  have qU01 := U0.at 1 rfl
  go_wp2_with fail
  refine K0.mono ?_
  clear K0
  rintro en w4 ⟨y0, rfl, ey0, oy0, hb⟩
  clear qU00 qU01
  replace U0 := U0.later hb U0.lt
  replace BC := BC.trans (hb.mono BC.size)
  have cy0 : y0.1.2.2.length ≤ y0.1.2.1 := own_cap oy0
  replace oy0 := oy0.dp
  have Ey0 : Hid (stT y0 = stT x) := ey0
  clear hb ey0
  obtain ⟨V2, hV2⟩ : ∃ V, w4.alloc (.cells #[.slice y0.1.1 y0.1.2.2.length y0.1.2.1, .string y0.2] 26) = V := ⟨_, rfl⟩
  have hb : Below w4.heap.size w4 V2 := by rw [← hV2]; exact (Below.refl _ _).alloc (Nat.le_refl _) _
  have UY0 : Blk w4.heap.size [.slice y0.1.1 y0.1.2.2.length y0.1.2.1, .string y0.2] V2 := by rw [← hV2]; exact Blk.new _ _ _
  have hsy0 := BC.size
  replace U0 := U0.later hb U0.lt
  replace oy0 := oy0.later hb
  replace BC := BC.trans (hb.mono BC.size)
  clear hb
  obtain ⟨yb0, hyb0⟩ : ∃ yb, w4.heap.size = yb := ⟨_, rfl⟩
  rw [hyb0] at UY0 hsy0
  have hP0 : w4.alloc (.cells #[.slice y0.1.1 y0.1.2.2.length y0.1.2.1, .string y0.2] 26) = V2 := hV2
  clear hV2
  have p0 := t_parts (show totT y0 ≤ 1048576 by rw [t_same Ey0.out]; exact sx_)
  have K1 := implShow_is y0 V2 oy0 p0 cy0
  rw [Ey0.out, HZ.out] at K1
  clear p0
  have qU00 := U0.at 0 rfl
  have qU01 := U0.at 1 rfl
  have qUY00 := UY0.at 0 rfl
  have qUY01 := UY0.at 1 rfl
  have hzz : (z0.toList == z0.toList) = true := beq_self_eq_true _
  go_wp2_with fail
  try rw [hP0]
  try rw [hyb0]
  refine K1.mono ?_
  clear K1
  rintro en u1 ⟨rfl, hb⟩
  clear qU00 qU01 qUY00 qUY01 hP0 hyb0 HZ
  replace U0 := U0.later hb U0.lt
  replace UY0 := UY0.later hb UY0.lt
  replace oy0 := oy0.later hb
  replace BC := BC.trans (hb.mono BC.size)
  clear hb
  have qU00 := U0.at 0 rfl
  have qU01 := U0.at 1 rfl
  have qUY00 := UY0.at 0 rfl
  have qUY01 := UY0.at 1 rfl
  go_wp2_with fail
  clear qU00 qU01 qUY00 qUY01
  replace U0 := U0.drew
  replace UY0 := UY0.drew
  replace BC := BC.drew
  replace oy0 := oy0.drew
  refine wp_region_held_drew (S := (fun Vw => Blk w.heap.size [.slice x.1.1 x.1.2.2.length x.1.2.1, .string x.2] Vw ∧ Blk yb0 [.slice y0.1.1 y0.1.2.2.length y0.1.2.1, .string y0.2] Vw)) (by kernel_rfl) ⟨U0, UY0⟩ (fun hHeld => ?_)
  refine take_one 0 22 (v := ?_) rfl rfl (by kernel_rfl) (by kernel_rfl) (by kernel_rfl) (fun _ _ _ h => h) (Or.inl ⟨by rfl, ?_⟩) hHeld ?_
  rotate_left
  · intro w' hSw; (try dsimp only at hSw); have d0 := hSw.1.at 0 rfl; have f0 := hSw.2.at 0 rfl; have d1 := hSw.1.at 1 rfl; have f1 := hSw.2.at 1 rfl; go_simp; try with_reducible rfl
  try simp only [Act.put, List.setIfInBounds_toArray, List.set_cons_zero, List.set_cons_succ]
  refine take_one 1 23 (v := ?_) rfl rfl (by kernel_rfl) (by kernel_rfl) (by kernel_rfl) (fun _ _ _ h => h) (Or.inl ⟨by rfl, ?_⟩) hHeld ?_
  rotate_left
  · intro w' hSw; (try dsimp only at hSw); have d0 := hSw.1.at 0 rfl; have f0 := hSw.2.at 0 rfl; have d1 := hSw.1.at 1 rfl; have f1 := hSw.2.at 1 rfl; go_simp; try with_reducible rfl
  try simp only [Act.put, List.setIfInBounds_toArray, List.set_cons_zero, List.set_cons_succ]
  refine wpAnyH_ready (rs := [2]) (by kernel_rfl) (by simp) ?_
  refine AllReadyH.cons (i := 2) rfl (fun K hK => ?_) AllReadyH.nil
  go_simp
  refine (toT_is x _ (hx.later BC) sx_).mono ?_
  rintro en v40 ⟨z1, rfl, ez, oz, hb⟩
  replace U0 := U0.later hb U0.lt
  replace UY0 := UY0.later hb UY0.lt
  replace oy0 := oy0.later hb
  replace BC := BC.trans (hb.mono BC.size)
  clear hb
  replace oz := oz.dp
  have Ez : Hid (stT z1 = stT x) := ez
  clear ez
  go_wp2_with fail
  refine hK.out _ _ ⟨U0, UY0⟩ (fun hHeld2 => ?_)
  clear hK K hHeld
  have hHeld := hHeld2
  clear hHeld2
  try simp only [Act.put, List.setIfInBounds_toArray, List.set_cons_zero, List.set_cons_succ]
  refine wpAnyH_ready (rs := [3]) (by kernel_rfl) (by simp) ?_
  refine AllReadyH.cons (i := 3) rfl (fun K hK => ?_) AllReadyH.nil
  go_simp
  refine (eqT_is y0 z1 _ oy0 oz (by rw [Ey0.out, Ez.out]) (by rw [t_same Ey0.out]; exact sx_)).mono ?_
  rintro en v50 ⟨rfl, hb⟩
  replace U0 := U0.later hb U0.lt
  replace UY0 := UY0.later hb UY0.lt
  replace oy0 := oy0.later hb
  replace oz := oz.later hb
  replace BC := BC.trans (hb.mono BC.size)
  clear hb
  go_wp2_with fail
  refine hK.out _ _ ⟨U0, UY0⟩ (fun hHeld2 => ?_)
  clear hK K hHeld
  have hHeld := hHeld2
  clear hHeld2
  try simp only [Act.put, List.setIfInBounds_toArray, List.set_cons_zero, List.set_cons_succ]
  refine take_one 4 26 (v := ?_) rfl rfl (by kernel_rfl) (by kernel_rfl) (by kernel_rfl) (fun _ _ _ h => h) (Or.inl ⟨by rfl, ?_⟩) hHeld ?_
  rotate_left
  · intro w' hSw; (try dsimp only at hSw); go_simp; try with_reducible rfl
  try simp only [Act.put, List.setIfInBounds_toArray, List.set_cons_zero, List.set_cons_succ]
  refine wpAnyH_done (by kernel_rfl) ?_ _
  clear oz Ez
  go_wp2_with fail
  go_ret
  exact ⟨rfl, BC⟩
end Go.Proofs.Ytbpodcfbijhboaa.Nd
