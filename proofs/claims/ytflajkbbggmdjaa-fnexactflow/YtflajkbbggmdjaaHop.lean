/- The next hop: the model. -/
import Derived.Test.YtflajkbbggmdjaaHop1
set_option linter.unusedVariables false
namespace Go.Proofs.Ytflajkbbggmdjaa
open Go Go.RowKit Draw Own

theorem best_no {h : Nat → Nat → Bool} {f t k : Nat} (hn : (h f k && (decide (far h t k < 3) && (decide (bestN h f t k < 0) || decide (far h t k < far h t (bestN h f t k).toNat)))) = false) : bestN h f t (k + 1) = bestN h f t k := by
  show (if (h f k && (decide (far h t k < 3) && (decide (bestN h f t k < 0) || decide (far h t k < far h t (bestN h f t k).toNat)))) = true then (k : Int) else bestN h f t k) = _
  rw [hn]; rfl
theorem best_yes {h : Nat → Nat → Bool} {f t k : Nat} (hn : (h f k && (decide (far h t k < 3) && (decide (bestN h f t k < 0) || decide (far h t k < far h t (bestN h f t k).toNat)))) = true) : bestN h f t (k + 1) = (k : Int) := by
  show (if (h f k && (decide (far h t k < 3) && (decide (bestN h f t k < 0) || decide (far h t k < far h t (bestN h f t k).toNat)))) = true then (k : Int) else bestN h f t k) = _
  rw [hn]; rfl

set_option maxRecDepth 100000 in
set_option maxHeartbeats 12800000 in
theorem specNH_is (c : Cf) (p q : Int) (w : World) (C : CfAt c w) (K : CfOk c) : Calls Try.prog 36 #[c.val, .int .i64 p, .int .i64 q] w fun en w' => en = .returned (.int .i64 (nhV c p q)) ∧ Below w.heap.size w w' := by
  obtain ⟨W1, hW1⟩ : ∃ W1, w.alloc (.cells #[.slice c.ua c.U.length c.uc, .slice c.sa c.S.length c.sc, .slice c.la c.L.length c.lc, .slice c.xa c.X.length c.xc, .int .i64 c.k] 30) = W1 := ⟨_, rfl⟩
  have B0 : Below w.heap.size w W1 := by rw [← hW1]; exact (Below.refl _ _).alloc (Nat.le_refl _) _
  have T0 : Blk w.heap.size c.cells W1 := by rw [← hW1]; exact Blk.new _ _ _
  have Z0 : Hid (w.heap.size < W1.heap.size) := by show _ < _; rw [← hW1]; simp
  have d0 := T0.at 0 rfl
  have d1 := T0.at 1 rfl
  have d2 := T0.at 2 rfl
  have d3 := T0.at 3 rfl
  have d4 := T0.at 4 rfl
  go_enter Try.func36, Try.ntmps36
  go_wp2_with fail
  try rw [hW1]
  refine (specOk_is c W1 (C.later B0) K).mono ?_
  clear hW1 d0 d1 d2 d3 d4
  rintro en w2 ⟨rfl, hb⟩
  have T2 := T0.later hb Z0.out
  have B2 := B0.trans (hb.mono B0.size)
  have Z2 : Hid (w.heap.size < w2.heap.size) := Nat.lt_of_lt_of_le Z0.out hb.size
  clear T0 Z0 B0 hb
  by_cases hc : confB c = true
  · rw [hc]
    go_wp2_with fail
    refine (specRealm_is p _).mono ?_
    rintro e w3 ⟨rfl, rfl⟩
    by_cases hp : btw p 0 2 = true
    · rw [hp]
      go_wp2_with fail
      refine (specRealm_is q _).mono ?_
      rintro e w3 ⟨rfl, rfl⟩
      by_cases hq : btw q 0 2 = true
      · rw [hq]
        obtain ⟨hin, h6, hdiag⟩ := conf_links hc
        obtain ⟨f, rfl⟩ : ∃ f : Nat, p = (f : Int) := ⟨p.toNat, by have := (btw_iff _ _ _).1 hp; omega⟩
        obtain ⟨t, rfl⟩ : ∃ t : Nat, q = (t : Int) := ⟨q.toNat, by have := (btw_iff _ _ _).1 hq; omega⟩
        have hf : f < 3 := by have := (btw_iff _ _ _).1 hp; omega
        have ht : t < 3 := by have := (btw_iff _ _ _).1 hq; omega
        have HV0 : Hid (nhV c (f : Int) (t : Int) = hopN (lkH c.L) f t) := nhV_in c f t hc hf ht
        clear hc hp hq
        by_cases hft : f = t
        · have HV : Hid (nhV c (f : Int) (t : Int) = -1) := by show nhV c (f : Int) (t : Int) = -1; rw [HV0.out, hft]; exact hop_alike hdiag ht
          have e1 : ((f : Int) == (t : Int)) = true := beq_iff_eq.2 (by omega)
          have e2 : decide ((f : Int) = (t : Int)) = true := decide_eq_true (by omega)
          have e3 : (f == t) = true := beq_iff_eq.2 hft
          have e4 : decide (f = t) = true := decide_eq_true hft
          clear hft HV0 hdiag hin
          go_wp2
          go_ret
          exact ⟨by rw [HV.out]; rfl, B2⟩
        · have HV : Hid (nhV c (f : Int) (t : Int) = bestN (lkH c.L) f t 3) := by show nhV c (f : Int) (t : Int) = _; rw [HV0.out, best_hop hdiag hf ht hft]
          have e1 : ((f : Int) == (t : Int)) = false := beq_eq_false_iff_ne.2 (by omega)
          have e2 : decide ((f : Int) = (t : Int)) = false := decide_eq_false (by omega)
          have e3 : (f == t) = false := beq_eq_false_iff_ne.2 hft
          have e4 : decide (f = t) = false := decide_eq_false hft
          have HF := far_is c t ht w2 (C.later B2) K hin
          clear HV0 hdiag hin
          have d0 := T2.at 0 rfl
          have d1 := T2.at 1 rfl
          have d2 := T2.at 2 rfl
          have d3 := T2.at 3 rfl
          have d4 := T2.at 4 rfl
          go_wp2_with fail
          refine HF.mono ?_
          clear HF d0 d1 d2 d3 d4 e1 e2 e3 e4 hft
          rintro e w4 ⟨g, cap, zs, rfl, hz3, hzr, Y4, hg, hb4⟩
          have T4 := T2.later hb4 Z2.out
          have B4 := B2.trans (hb4.mono B2.size)
          have H0 : Hid (∀ r, r < 3 → gt zs r = far (lkH c.L) t r) := hzr
          clear hb4 B2 T2 Z2 hzr hg
          go_wp2
          go_loopw [8, 9] (fun v i wr => ∃ k : Nat, k ≤ 3 ∧ i = .int .i64 k ∧ v = .int .i64 (bestN (lkH c.L) f t k) ∧ Blk w.heap.size c.cells wr ∧ Blk g (intV zs) wr ∧ Below w.heap.size w wr) (fun _ i _ => 3 - (intOf i).toNat)
          case atStart => exact ⟨0, by omega, rfl, rfl, T4, Y4, B4⟩
          case round =>
            clear T4 Y4 B4
            obtain ⟨k, hk, rfl, rfl, T1, Y1, B1⟩ := hrel
            by_cases hlt : k < 3
            · have k2 : (k : Int) < 3 := by omega
              have BD := B1.drew
              have ZT : Hid (w.heap.size < wr.drew.heap.size) := World.block_lt_of_cell? wr _ (T1.at 0 rfl)
              have ZY : Hid (g < wr.drew.heap.size) := World.block_lt_of_cell? wr _ (Y1.at 0 (cell3 hz3 (by omega)))
              have HH := has_is c.la c.lc c.L (f : Int) (k : Int) wr.drew (C.hl.later BD) K.ll
              have bb := best_bd (h := lkH c.L) f t k
              have hfk := H0.out k hlt
              by_cases hl : lkH c.L f k = true
              · rw [show decide (((f : Int), (k : Int)) ∈ c.L) = true from hl] at HH
                by_cases h3 : gt zs k < 3
                · have p3 : decide (gt zs k < 3) = true := decide_eq_true h3
                  by_cases hb : bestN (lkH c.L) f t k < 0
                  · have HB : Hid (bestN (lkH c.L) f t (k + 1) = (k : Int)) := best_yes (by rw [hl, ← hfk, p3, decide_eq_true hb]; rfl)
                    have pb : decide (bestN (lkH c.L) f t k < 0) = true := decide_eq_true hb
                    clear hl h3 hb hfk
                    generalize bestN (lkH c.L) f t k = bst at pb bb
                    go_wp2_with fail
                    refine wp_region_held_drew (S := (fun W : World => Blk w.heap.size c.cells W ∧ Blk g (intV zs) W)) (by kernel_rfl) ⟨T1.drew, Y1.drew⟩ (fun hHeld => ?_)
                    refine take_one 0 35 (v := ?_) rfl rfl (by kernel_rfl) (by kernel_rfl) (by kernel_rfl) (fun _ _ _ h => h) (Or.inl ⟨by rfl, ?_⟩) hHeld ?_
                    rotate_left
                    · intro w' hSw; (try dsimp only at hSw); have c0 := hSw.2.at k (cell3 hz3 hlt); have d2 := hSw.1.at 2 rfl; go_simp; try with_reducible rfl
                    try simp only [Act.put, List.setIfInBounds_toArray, List.set_cons_zero, List.set_cons_succ]
                    refine take_one 1 36 (v := ?_) rfl rfl (by kernel_rfl) (by kernel_rfl) (by kernel_rfl) (fun _ _ _ h => h) (Or.inl ⟨by rfl, ?_⟩) hHeld ?_
                    rotate_left
                    · intro w' hSw; (try dsimp only at hSw); have c0 := hSw.2.at k (cell3 hz3 hlt); have d2 := hSw.1.at 2 rfl; go_simp; try with_reducible rfl
                    try simp only [Act.put, List.setIfInBounds_toArray, List.set_cons_zero, List.set_cons_succ]
                    refine take_one 2 37 (v := ?_) rfl rfl (by kernel_rfl) (by kernel_rfl) (by kernel_rfl) (fun _ _ _ h => h) (Or.inl ⟨by rfl, ?_⟩) hHeld ?_
                    rotate_left
                    · intro w' hSw; (try dsimp only at hSw); have c0 := hSw.2.at k (cell3 hz3 hlt); have d2 := hSw.1.at 2 rfl; go_simp; try with_reducible rfl
                    try simp only [Act.put, List.setIfInBounds_toArray, List.set_cons_zero, List.set_cons_succ]
                    refine take_one 3 38 (v := ?_) rfl rfl (by kernel_rfl) (by kernel_rfl) (by kernel_rfl) (fun _ _ _ h => h) (Or.inl ⟨by rfl, ?_⟩) hHeld ?_
                    rotate_left
                    · intro w' hSw; (try dsimp only at hSw); have c0 := hSw.2.at k (cell3 hz3 hlt); have d2 := hSw.1.at 2 rfl; go_simp; try with_reducible rfl
                    try simp only [Act.put, List.setIfInBounds_toArray, List.set_cons_zero, List.set_cons_succ]
                    refine take_one 4 39 (v := ?_) rfl rfl (by kernel_rfl) (by kernel_rfl) (by kernel_rfl) (fun _ _ _ h => h) (Or.inl ⟨by rfl, ?_⟩) hHeld ?_
                    rotate_left
                    · intro w' hSw; (try dsimp only at hSw); have c0 := hSw.2.at k (cell3 hz3 hlt); have d2 := hSw.1.at 2 rfl; go_simp; try with_reducible rfl
                    try simp only [Act.put, List.setIfInBounds_toArray, List.set_cons_zero, List.set_cons_succ]
                    refine wpAnyH_ready (rs := [5]) (by kernel_rfl) (by simp) ?_
                    refine AllReadyH.cons (i := 5) rfl (fun K hK => ?_) AllReadyH.nil
                    go_simp
                    refine (HH).mono ?_
                    rintro e w9 ⟨rfl, hb9⟩
                    have TN := T1.drew.later hb9 ZT.out
                    have YN := Y1.drew.later hb9 ZY.out
                    have BN := BD.trans (hb9.mono BD.size)
                    go_wp2_with fail
                    refine hK.out _ _ ⟨TN, YN⟩ (fun hHeld2 => ?_)
                    clear hK K hHeld
                    have hHeld := hHeld2
                    clear hHeld2
                    try simp only [Act.put, List.setIfInBounds_toArray, List.set_cons_zero, List.set_cons_succ]
                    refine take_one 6 41 (v := ?_) rfl rfl (by kernel_rfl) (by kernel_rfl) (by kernel_rfl) (fun _ _ _ h => h) (Or.inl ⟨by rfl, ?_⟩) hHeld ?_
                    rotate_left
                    · intro w' hSw; (try dsimp only at hSw); have c0 := hSw.2.at k (cell3 hz3 hlt); have d2 := hSw.1.at 2 rfl; go_simp; try with_reducible rfl
                    try simp only [Act.put, List.setIfInBounds_toArray, List.set_cons_zero, List.set_cons_succ]
                    refine take_one 7 42 (v := ?_) rfl rfl (by kernel_rfl) (by kernel_rfl) (by kernel_rfl) (fun _ _ _ h => h) (Or.inl ⟨by rfl, ?_⟩) hHeld ?_
                    rotate_left
                    · intro w' hSw; (try dsimp only at hSw); have c0 := hSw.2.at k (cell3 hz3 hlt); have d2 := hSw.1.at 2 rfl; go_simp; try with_reducible rfl
                    try simp only [Act.put, List.setIfInBounds_toArray, List.set_cons_zero, List.set_cons_succ]
                    refine take_one 8 43 (v := ?_) rfl rfl (by kernel_rfl) (by kernel_rfl) (by kernel_rfl) (fun _ _ _ h => h) (Or.inl ⟨by rfl, ?_⟩) hHeld ?_
                    rotate_left
                    · intro w' hSw; (try dsimp only at hSw); have c0 := hSw.2.at k (cell3 hz3 hlt); have d2 := hSw.1.at 2 rfl; go_simp; try with_reducible rfl
                    try simp only [Act.put, List.setIfInBounds_toArray, List.set_cons_zero, List.set_cons_succ]
                    refine take_one 9 44 (v := ?_) rfl rfl (by kernel_rfl) (by kernel_rfl) (by kernel_rfl) (fun _ _ _ h => h) (Or.inl ⟨by rfl, ?_⟩) hHeld ?_
                    rotate_left
                    · intro w' hSw; (try dsimp only at hSw); have c0 := hSw.2.at k (cell3 hz3 hlt); have d2 := hSw.1.at 2 rfl; go_simp; try with_reducible rfl
                    try simp only [Act.put, List.setIfInBounds_toArray, List.set_cons_zero, List.set_cons_succ]
                    refine take_one 10 45 (v := ?_) rfl rfl (by kernel_rfl) (by kernel_rfl) (by kernel_rfl) (fun _ _ _ h => h) (Or.inl ⟨by rfl, ?_⟩) hHeld ?_
                    rotate_left
                    · intro w' hSw; (try dsimp only at hSw); have c0 := hSw.2.at k (cell3 hz3 hlt); have d2 := hSw.1.at 2 rfl; go_simp; try with_reducible rfl
                    try simp only [Act.put, List.setIfInBounds_toArray, List.set_cons_zero, List.set_cons_succ]
                    refine take_one 11 46 (v := ?_) rfl rfl (by kernel_rfl) (by kernel_rfl) (by kernel_rfl) (fun _ _ _ h => h) (Or.inl ⟨by rfl, ?_⟩) hHeld ?_
                    rotate_left
                    · intro w' hSw; (try dsimp only at hSw); have c0 := hSw.2.at k (cell3 hz3 hlt); have d2 := hSw.1.at 2 rfl; go_simp; try with_reducible rfl
                    try simp only [Act.put, List.setIfInBounds_toArray, List.set_cons_zero, List.set_cons_succ]
                    refine take_one 12 47 (v := ?_) rfl rfl (by kernel_rfl) (by kernel_rfl) (by kernel_rfl) (fun _ _ _ h => h) (Or.inl ⟨by rfl, ?_⟩) hHeld ?_
                    rotate_left
                    · intro w' hSw; (try dsimp only at hSw); have c0 := hSw.2.at k (cell3 hz3 hlt); have d2 := hSw.1.at 2 rfl; go_simp; try with_reducible rfl
                    try simp only [Act.put, List.setIfInBounds_toArray, List.set_cons_zero, List.set_cons_succ]
                    refine take_one 13 48 (v := ?_) rfl rfl (by kernel_rfl) (by kernel_rfl) (by kernel_rfl) (fun _ _ _ h => h) (Or.inl ⟨by rfl, ?_⟩) hHeld ?_
                    rotate_left
                    · intro w' hSw; (try dsimp only at hSw); have c0 := hSw.2.at k (cell3 hz3 hlt); have d2 := hSw.1.at 2 rfl; go_simp; try with_reducible rfl
                    try simp only [Act.put, List.setIfInBounds_toArray, List.set_cons_zero, List.set_cons_succ]
                    refine take_one 14 49 (v := ?_) rfl rfl (by kernel_rfl) (by kernel_rfl) (by kernel_rfl) (fun _ _ _ h => h) (Or.inl ⟨by rfl, ?_⟩) hHeld ?_
                    rotate_left
                    · intro w' hSw; (try dsimp only at hSw); have c0 := hSw.2.at k (cell3 hz3 hlt); have d2 := hSw.1.at 2 rfl; go_simp; try with_reducible rfl
                    try simp only [Act.put, List.setIfInBounds_toArray, List.set_cons_zero, List.set_cons_succ]
                    refine take_one 15 50 (v := ?_) rfl rfl (by kernel_rfl) (by kernel_rfl) (by kernel_rfl) (fun _ _ _ h => h) (Or.inl ⟨by rfl, ?_⟩) hHeld ?_
                    rotate_left
                    · intro w' hSw; (try dsimp only at hSw); have c0 := hSw.2.at k (cell3 hz3 hlt); have d2 := hSw.1.at 2 rfl; go_simp; try with_reducible rfl
                    try simp only [Act.put, List.setIfInBounds_toArray, List.set_cons_zero, List.set_cons_succ]
                    refine take_one 16 51 (v := ?_) rfl rfl (by kernel_rfl) (by kernel_rfl) (by kernel_rfl) (fun _ _ _ h => h) (Or.inl ⟨by rfl, ?_⟩) hHeld ?_
                    rotate_left
                    · intro w' hSw; (try dsimp only at hSw); have c0 := hSw.2.at k (cell3 hz3 hlt); have d2 := hSw.1.at 2 rfl; go_simp; try with_reducible rfl
                    try simp only [Act.put, List.setIfInBounds_toArray, List.set_cons_zero, List.set_cons_succ]
                    refine skip_one 17 52 rfl rfl (by kernel_rfl) (by kernel_rfl) (by kernel_rfl) (fun _ _ _ h => h) (unwanted (c := true) rfl rfl (by simp) rfl) hHeld ?_
                    try simp only [Act.put, List.setIfInBounds_toArray, List.set_cons_zero, List.set_cons_succ]
                    refine skip_one 18 53 rfl rfl (by kernel_rfl) (by kernel_rfl) (by kernel_rfl) (fun _ _ _ h => h) (unwanted (c := true) rfl rfl (by simp) rfl) hHeld ?_
                    try simp only [Act.put, List.setIfInBounds_toArray, List.set_cons_zero, List.set_cons_succ]
                    refine skip_one 19 54 rfl rfl (by kernel_rfl) (by kernel_rfl) (by kernel_rfl) (fun _ _ _ h => h) (unwanted (c := true) rfl rfl (by simp) rfl) hHeld ?_
                    try simp only [Act.put, List.setIfInBounds_toArray, List.set_cons_zero, List.set_cons_succ]
                    refine skip_one 20 55 rfl rfl (by kernel_rfl) (by kernel_rfl) (by kernel_rfl) (fun _ _ _ h => h) (unwanted (c := true) rfl rfl (by simp) rfl) hHeld ?_
                    try simp only [Act.put, List.setIfInBounds_toArray, List.set_cons_zero, List.set_cons_succ]
                    refine skip_one 21 56 rfl rfl (by kernel_rfl) (by kernel_rfl) (by kernel_rfl) (fun _ _ _ h => h) (unwanted (c := true) rfl rfl (by simp) rfl) hHeld ?_
                    try simp only [Act.put, List.setIfInBounds_toArray, List.set_cons_zero, List.set_cons_succ]
                    refine skip_one 22 57 rfl rfl (by kernel_rfl) (by kernel_rfl) (by kernel_rfl) (fun _ _ _ h => h) (unwanted (c := true) rfl rfl (by simp) rfl) hHeld ?_
                    try simp only [Act.put, List.setIfInBounds_toArray, List.set_cons_zero, List.set_cons_succ]
                    refine skip_one 23 58 rfl rfl (by kernel_rfl) (by kernel_rfl) (by kernel_rfl) (fun _ _ _ h => h) (unwanted (c := true) rfl rfl (by simp) rfl) hHeld ?_
                    try simp only [Act.put, List.setIfInBounds_toArray, List.set_cons_zero, List.set_cons_succ]
                    refine skip_one 24 59 rfl rfl (by kernel_rfl) (by kernel_rfl) (by kernel_rfl) (fun _ _ _ h => h) (unwanted (c := true) rfl rfl (by simp) rfl) hHeld ?_
                    try simp only [Act.put, List.setIfInBounds_toArray, List.set_cons_zero, List.set_cons_succ]
                    refine skip_one 25 60 rfl rfl (by kernel_rfl) (by kernel_rfl) (by kernel_rfl) (fun _ _ _ h => h) (unwanted (c := true) rfl rfl (by simp) rfl) hHeld ?_
                    try simp only [Act.put, List.setIfInBounds_toArray, List.set_cons_zero, List.set_cons_succ]
                    refine take_one 26 61 (v := ?_) rfl rfl (by kernel_rfl) (by kernel_rfl) (by kernel_rfl) (fun _ _ _ h => h) (Or.inl ⟨by rfl, ?_⟩) hHeld ?_
                    rotate_left
                    · intro w' hSw; (try dsimp only at hSw); have c0 := hSw.2.at k (cell3 hz3 hlt); have d2 := hSw.1.at 2 rfl; go_simp; try with_reducible rfl
                    try simp only [Act.put, List.setIfInBounds_toArray, List.set_cons_zero, List.set_cons_succ]
                    refine take_one 27 62 (v := ?_) rfl rfl (by kernel_rfl) (by kernel_rfl) (by kernel_rfl) (fun _ _ _ h => h) (Or.inl ⟨by rfl, ?_⟩) hHeld ?_
                    rotate_left
                    · intro w' hSw; (try dsimp only at hSw); have c0 := hSw.2.at k (cell3 hz3 hlt); have d2 := hSw.1.at 2 rfl; go_simp; try with_reducible rfl
                    try simp only [Act.put, List.setIfInBounds_toArray, List.set_cons_zero, List.set_cons_succ]
                    refine wpAnyH_done (by kernel_rfl) ?_ _
                    clear hHeld
                    go_wp2
                    go_roundw
                    case rel =>
                      have R : ∃ k' : Nat, k' ≤ 3 ∧ Value.int .i64 ((k : Int) + 1) = .int .i64 k' ∧ Value.int .i64 (k : Int) = .int .i64 (bestN (lkH c.L) f t k') ∧ Blk w.heap.size c.cells w9 ∧ Blk g (intV zs) w9 ∧ Below w.heap.size w w9 := ⟨k + 1, by omega, by go_num, by rw [HB.out], TN, YN, BN⟩
                      first | exact R | ((repeat apply Exists.intro); exact ⟨R, rfl⟩)
                    case measure => simp [intOf]; omega
                  · obtain ⟨b, hbb⟩ : ∃ b : Nat, bestN (lkH c.L) f t k = (b : Int) := ⟨(bestN (lkH c.L) f t k).toNat, by omega⟩
                    have hb3 : b < 3 := by omega
                    have b2 : (b : Int) < 3 := by omega
                    have hfb := H0.out b hb3
                    have pb : decide (bestN (lkH c.L) f t k < 0) = false := decide_eq_false hb
                    by_cases hx : gt zs k < gt zs b
                    · have HB : Hid (bestN (lkH c.L) f t (k + 1) = (k : Int)) := best_yes (by rw [hl, ← hfk, p3, pb, hbb, Int.toNat_natCast, ← hfb, decide_eq_true hx]; rfl)
                      have px : decide (gt zs k < gt zs b) = true := decide_eq_true hx
                      rw [hbb] at pb
                      rw [hbb]
                      clear hl h3 hb hfk hfb hx hbb
                      go_wp2_with fail
                      refine wp_region_held_drew (S := (fun W : World => Blk w.heap.size c.cells W ∧ Blk g (intV zs) W)) (by kernel_rfl) ⟨T1.drew, Y1.drew⟩ (fun hHeld => ?_)
                      refine take_one 0 35 (v := ?_) rfl rfl (by kernel_rfl) (by kernel_rfl) (by kernel_rfl) (fun _ _ _ h => h) (Or.inl ⟨by rfl, ?_⟩) hHeld ?_
                      rotate_left
                      · intro w' hSw; (try dsimp only at hSw); have c0 := hSw.2.at k (cell3 hz3 hlt); have d2 := hSw.1.at 2 rfl; have c2 := hSw.2.at b (cell3 hz3 hb3); go_simp; try with_reducible rfl
                      try simp only [Act.put, List.setIfInBounds_toArray, List.set_cons_zero, List.set_cons_succ]
                      refine take_one 1 36 (v := ?_) rfl rfl (by kernel_rfl) (by kernel_rfl) (by kernel_rfl) (fun _ _ _ h => h) (Or.inl ⟨by rfl, ?_⟩) hHeld ?_
                      rotate_left
                      · intro w' hSw; (try dsimp only at hSw); have c0 := hSw.2.at k (cell3 hz3 hlt); have d2 := hSw.1.at 2 rfl; have c2 := hSw.2.at b (cell3 hz3 hb3); go_simp; try with_reducible rfl
                      try simp only [Act.put, List.setIfInBounds_toArray, List.set_cons_zero, List.set_cons_succ]
                      refine take_one 2 37 (v := ?_) rfl rfl (by kernel_rfl) (by kernel_rfl) (by kernel_rfl) (fun _ _ _ h => h) (Or.inl ⟨by rfl, ?_⟩) hHeld ?_
                      rotate_left
                      · intro w' hSw; (try dsimp only at hSw); have c0 := hSw.2.at k (cell3 hz3 hlt); have d2 := hSw.1.at 2 rfl; have c2 := hSw.2.at b (cell3 hz3 hb3); go_simp; try with_reducible rfl
                      try simp only [Act.put, List.setIfInBounds_toArray, List.set_cons_zero, List.set_cons_succ]
                      refine take_one 3 38 (v := ?_) rfl rfl (by kernel_rfl) (by kernel_rfl) (by kernel_rfl) (fun _ _ _ h => h) (Or.inl ⟨by rfl, ?_⟩) hHeld ?_
                      rotate_left
                      · intro w' hSw; (try dsimp only at hSw); have c0 := hSw.2.at k (cell3 hz3 hlt); have d2 := hSw.1.at 2 rfl; have c2 := hSw.2.at b (cell3 hz3 hb3); go_simp; try with_reducible rfl
                      try simp only [Act.put, List.setIfInBounds_toArray, List.set_cons_zero, List.set_cons_succ]
                      refine take_one 4 39 (v := ?_) rfl rfl (by kernel_rfl) (by kernel_rfl) (by kernel_rfl) (fun _ _ _ h => h) (Or.inl ⟨by rfl, ?_⟩) hHeld ?_
                      rotate_left
                      · intro w' hSw; (try dsimp only at hSw); have c0 := hSw.2.at k (cell3 hz3 hlt); have d2 := hSw.1.at 2 rfl; have c2 := hSw.2.at b (cell3 hz3 hb3); go_simp; try with_reducible rfl
                      try simp only [Act.put, List.setIfInBounds_toArray, List.set_cons_zero, List.set_cons_succ]
                      refine wpAnyH_ready (rs := [5]) (by kernel_rfl) (by simp) ?_
                      refine AllReadyH.cons (i := 5) rfl (fun K hK => ?_) AllReadyH.nil
                      go_simp
                      refine (HH).mono ?_
                      rintro e w9 ⟨rfl, hb9⟩
                      have TN := T1.drew.later hb9 ZT.out
                      have YN := Y1.drew.later hb9 ZY.out
                      have BN := BD.trans (hb9.mono BD.size)
                      go_wp2_with fail
                      refine hK.out _ _ ⟨TN, YN⟩ (fun hHeld2 => ?_)
                      clear hK K hHeld
                      have hHeld := hHeld2
                      clear hHeld2
                      try simp only [Act.put, List.setIfInBounds_toArray, List.set_cons_zero, List.set_cons_succ]
                      refine take_one 6 41 (v := ?_) rfl rfl (by kernel_rfl) (by kernel_rfl) (by kernel_rfl) (fun _ _ _ h => h) (Or.inl ⟨by rfl, ?_⟩) hHeld ?_
                      rotate_left
                      · intro w' hSw; (try dsimp only at hSw); have c0 := hSw.2.at k (cell3 hz3 hlt); have d2 := hSw.1.at 2 rfl; have c2 := hSw.2.at b (cell3 hz3 hb3); go_simp; try with_reducible rfl
                      try simp only [Act.put, List.setIfInBounds_toArray, List.set_cons_zero, List.set_cons_succ]
                      refine take_one 7 42 (v := ?_) rfl rfl (by kernel_rfl) (by kernel_rfl) (by kernel_rfl) (fun _ _ _ h => h) (Or.inl ⟨by rfl, ?_⟩) hHeld ?_
                      rotate_left
                      · intro w' hSw; (try dsimp only at hSw); have c0 := hSw.2.at k (cell3 hz3 hlt); have d2 := hSw.1.at 2 rfl; have c2 := hSw.2.at b (cell3 hz3 hb3); go_simp; try with_reducible rfl
                      try simp only [Act.put, List.setIfInBounds_toArray, List.set_cons_zero, List.set_cons_succ]
                      refine take_one 8 43 (v := ?_) rfl rfl (by kernel_rfl) (by kernel_rfl) (by kernel_rfl) (fun _ _ _ h => h) (Or.inl ⟨by rfl, ?_⟩) hHeld ?_
                      rotate_left
                      · intro w' hSw; (try dsimp only at hSw); have c0 := hSw.2.at k (cell3 hz3 hlt); have d2 := hSw.1.at 2 rfl; have c2 := hSw.2.at b (cell3 hz3 hb3); go_simp; try with_reducible rfl
                      try simp only [Act.put, List.setIfInBounds_toArray, List.set_cons_zero, List.set_cons_succ]
                      refine take_one 9 44 (v := ?_) rfl rfl (by kernel_rfl) (by kernel_rfl) (by kernel_rfl) (fun _ _ _ h => h) (Or.inl ⟨by rfl, ?_⟩) hHeld ?_
                      rotate_left
                      · intro w' hSw; (try dsimp only at hSw); have c0 := hSw.2.at k (cell3 hz3 hlt); have d2 := hSw.1.at 2 rfl; have c2 := hSw.2.at b (cell3 hz3 hb3); go_simp; try with_reducible rfl
                      try simp only [Act.put, List.setIfInBounds_toArray, List.set_cons_zero, List.set_cons_succ]
                      refine take_one 10 45 (v := ?_) rfl rfl (by kernel_rfl) (by kernel_rfl) (by kernel_rfl) (fun _ _ _ h => h) (Or.inl ⟨by rfl, ?_⟩) hHeld ?_
                      rotate_left
                      · intro w' hSw; (try dsimp only at hSw); have c0 := hSw.2.at k (cell3 hz3 hlt); have d2 := hSw.1.at 2 rfl; have c2 := hSw.2.at b (cell3 hz3 hb3); go_simp; try with_reducible rfl
                      try simp only [Act.put, List.setIfInBounds_toArray, List.set_cons_zero, List.set_cons_succ]
                      refine take_one 11 46 (v := ?_) rfl rfl (by kernel_rfl) (by kernel_rfl) (by kernel_rfl) (fun _ _ _ h => h) (Or.inl ⟨by rfl, ?_⟩) hHeld ?_
                      rotate_left
                      · intro w' hSw; (try dsimp only at hSw); have c0 := hSw.2.at k (cell3 hz3 hlt); have d2 := hSw.1.at 2 rfl; have c2 := hSw.2.at b (cell3 hz3 hb3); go_simp; try with_reducible rfl
                      try simp only [Act.put, List.setIfInBounds_toArray, List.set_cons_zero, List.set_cons_succ]
                      refine take_one 12 47 (v := ?_) rfl rfl (by kernel_rfl) (by kernel_rfl) (by kernel_rfl) (fun _ _ _ h => h) (Or.inl ⟨by rfl, ?_⟩) hHeld ?_
                      rotate_left
                      · intro w' hSw; (try dsimp only at hSw); have c0 := hSw.2.at k (cell3 hz3 hlt); have d2 := hSw.1.at 2 rfl; have c2 := hSw.2.at b (cell3 hz3 hb3); go_simp; try with_reducible rfl
                      try simp only [Act.put, List.setIfInBounds_toArray, List.set_cons_zero, List.set_cons_succ]
                      refine take_one 13 48 (v := ?_) rfl rfl (by kernel_rfl) (by kernel_rfl) (by kernel_rfl) (fun _ _ _ h => h) (Or.inl ⟨by rfl, ?_⟩) hHeld ?_
                      rotate_left
                      · intro w' hSw; (try dsimp only at hSw); have c0 := hSw.2.at k (cell3 hz3 hlt); have d2 := hSw.1.at 2 rfl; have c2 := hSw.2.at b (cell3 hz3 hb3); go_simp; try with_reducible rfl
                      try simp only [Act.put, List.setIfInBounds_toArray, List.set_cons_zero, List.set_cons_succ]
                      refine take_one 14 49 (v := ?_) rfl rfl (by kernel_rfl) (by kernel_rfl) (by kernel_rfl) (fun _ _ _ h => h) (Or.inl ⟨by rfl, ?_⟩) hHeld ?_
                      rotate_left
                      · intro w' hSw; (try dsimp only at hSw); have c0 := hSw.2.at k (cell3 hz3 hlt); have d2 := hSw.1.at 2 rfl; have c2 := hSw.2.at b (cell3 hz3 hb3); go_simp; try with_reducible rfl
                      try simp only [Act.put, List.setIfInBounds_toArray, List.set_cons_zero, List.set_cons_succ]
                      refine take_one 15 50 (v := ?_) rfl rfl (by kernel_rfl) (by kernel_rfl) (by kernel_rfl) (fun _ _ _ h => h) (Or.inl ⟨by rfl, ?_⟩) hHeld ?_
                      rotate_left
                      · intro w' hSw; (try dsimp only at hSw); have c0 := hSw.2.at k (cell3 hz3 hlt); have d2 := hSw.1.at 2 rfl; have c2 := hSw.2.at b (cell3 hz3 hb3); go_simp; try with_reducible rfl
                      try simp only [Act.put, List.setIfInBounds_toArray, List.set_cons_zero, List.set_cons_succ]
                      refine take_one 16 51 (v := ?_) rfl rfl (by kernel_rfl) (by kernel_rfl) (by kernel_rfl) (fun _ _ _ h => h) (Or.inl ⟨by rfl, ?_⟩) hHeld ?_
                      rotate_left
                      · intro w' hSw; (try dsimp only at hSw); have c0 := hSw.2.at k (cell3 hz3 hlt); have d2 := hSw.1.at 2 rfl; have c2 := hSw.2.at b (cell3 hz3 hb3); go_simp; try with_reducible rfl
                      try simp only [Act.put, List.setIfInBounds_toArray, List.set_cons_zero, List.set_cons_succ]
                      refine take_one 17 52 (v := ?_) rfl rfl (by kernel_rfl) (by kernel_rfl) (by kernel_rfl) (fun _ _ _ h => h) (Or.inl ⟨by rfl, ?_⟩) hHeld ?_
                      rotate_left
                      · intro w' hSw; (try dsimp only at hSw); have c0 := hSw.2.at k (cell3 hz3 hlt); have d2 := hSw.1.at 2 rfl; have c2 := hSw.2.at b (cell3 hz3 hb3); go_simp; try with_reducible rfl
                      try simp only [Act.put, List.setIfInBounds_toArray, List.set_cons_zero, List.set_cons_succ]
                      refine take_one 18 53 (v := ?_) rfl rfl (by kernel_rfl) (by kernel_rfl) (by kernel_rfl) (fun _ _ _ h => h) (Or.inl ⟨by rfl, ?_⟩) hHeld ?_
                      rotate_left
                      · intro w' hSw; (try dsimp only at hSw); have c0 := hSw.2.at k (cell3 hz3 hlt); have d2 := hSw.1.at 2 rfl; have c2 := hSw.2.at b (cell3 hz3 hb3); go_simp; try with_reducible rfl
                      try simp only [Act.put, List.setIfInBounds_toArray, List.set_cons_zero, List.set_cons_succ]
                      refine take_one 19 54 (v := ?_) rfl rfl (by kernel_rfl) (by kernel_rfl) (by kernel_rfl) (fun _ _ _ h => h) (Or.inl ⟨by rfl, ?_⟩) hHeld ?_
                      rotate_left
                      · intro w' hSw; (try dsimp only at hSw); have c0 := hSw.2.at k (cell3 hz3 hlt); have d2 := hSw.1.at 2 rfl; have c2 := hSw.2.at b (cell3 hz3 hb3); go_simp; try with_reducible rfl
                      try simp only [Act.put, List.setIfInBounds_toArray, List.set_cons_zero, List.set_cons_succ]
                      refine take_one 20 55 (v := ?_) rfl rfl (by kernel_rfl) (by kernel_rfl) (by kernel_rfl) (fun _ _ _ h => h) (Or.inl ⟨by rfl, ?_⟩) hHeld ?_
                      rotate_left
                      · intro w' hSw; (try dsimp only at hSw); have c0 := hSw.2.at k (cell3 hz3 hlt); have d2 := hSw.1.at 2 rfl; have c2 := hSw.2.at b (cell3 hz3 hb3); go_simp; try with_reducible rfl
                      try simp only [Act.put, List.setIfInBounds_toArray, List.set_cons_zero, List.set_cons_succ]
                      refine take_one 21 56 (v := ?_) rfl rfl (by kernel_rfl) (by kernel_rfl) (by kernel_rfl) (fun _ _ _ h => h) (Or.inl ⟨by rfl, ?_⟩) hHeld ?_
                      rotate_left
                      · intro w' hSw; (try dsimp only at hSw); have c0 := hSw.2.at k (cell3 hz3 hlt); have d2 := hSw.1.at 2 rfl; have c2 := hSw.2.at b (cell3 hz3 hb3); go_simp; try with_reducible rfl
                      try simp only [Act.put, List.setIfInBounds_toArray, List.set_cons_zero, List.set_cons_succ]
                      refine take_one 22 57 (v := ?_) rfl rfl (by kernel_rfl) (by kernel_rfl) (by kernel_rfl) (fun _ _ _ h => h) (Or.inl ⟨by rfl, ?_⟩) hHeld ?_
                      rotate_left
                      · intro w' hSw; (try dsimp only at hSw); have c0 := hSw.2.at k (cell3 hz3 hlt); have d2 := hSw.1.at 2 rfl; have c2 := hSw.2.at b (cell3 hz3 hb3); go_simp; try with_reducible rfl
                      try simp only [Act.put, List.setIfInBounds_toArray, List.set_cons_zero, List.set_cons_succ]
                      refine take_one 23 58 (v := ?_) rfl rfl (by kernel_rfl) (by kernel_rfl) (by kernel_rfl) (fun _ _ _ h => h) (Or.inl ⟨by rfl, ?_⟩) hHeld ?_
                      rotate_left
                      · intro w' hSw; (try dsimp only at hSw); have c0 := hSw.2.at k (cell3 hz3 hlt); have d2 := hSw.1.at 2 rfl; have c2 := hSw.2.at b (cell3 hz3 hb3); go_simp; try with_reducible rfl
                      try simp only [Act.put, List.setIfInBounds_toArray, List.set_cons_zero, List.set_cons_succ]
                      refine take_one 24 59 (v := ?_) rfl rfl (by kernel_rfl) (by kernel_rfl) (by kernel_rfl) (fun _ _ _ h => h) (Or.inl ⟨by rfl, ?_⟩) hHeld ?_
                      rotate_left
                      · intro w' hSw; (try dsimp only at hSw); have c0 := hSw.2.at k (cell3 hz3 hlt); have d2 := hSw.1.at 2 rfl; have c2 := hSw.2.at b (cell3 hz3 hb3); go_simp; try with_reducible rfl
                      try simp only [Act.put, List.setIfInBounds_toArray, List.set_cons_zero, List.set_cons_succ]
                      refine take_one 25 60 (v := ?_) rfl rfl (by kernel_rfl) (by kernel_rfl) (by kernel_rfl) (fun _ _ _ h => h) (Or.inl ⟨by rfl, ?_⟩) hHeld ?_
                      rotate_left
                      · intro w' hSw; (try dsimp only at hSw); have c0 := hSw.2.at k (cell3 hz3 hlt); have d2 := hSw.1.at 2 rfl; have c2 := hSw.2.at b (cell3 hz3 hb3); go_simp; try with_reducible rfl
                      try simp only [Act.put, List.setIfInBounds_toArray, List.set_cons_zero, List.set_cons_succ]
                      refine take_one 26 61 (v := ?_) rfl rfl (by kernel_rfl) (by kernel_rfl) (by kernel_rfl) (fun _ _ _ h => h) (Or.inl ⟨by rfl, ?_⟩) hHeld ?_
                      rotate_left
                      · intro w' hSw; (try dsimp only at hSw); have c0 := hSw.2.at k (cell3 hz3 hlt); have d2 := hSw.1.at 2 rfl; have c2 := hSw.2.at b (cell3 hz3 hb3); go_simp; try with_reducible rfl
                      try simp only [Act.put, List.setIfInBounds_toArray, List.set_cons_zero, List.set_cons_succ]
                      refine take_one 27 62 (v := ?_) rfl rfl (by kernel_rfl) (by kernel_rfl) (by kernel_rfl) (fun _ _ _ h => h) (Or.inl ⟨by rfl, ?_⟩) hHeld ?_
                      rotate_left
                      · intro w' hSw; (try dsimp only at hSw); have c0 := hSw.2.at k (cell3 hz3 hlt); have d2 := hSw.1.at 2 rfl; have c2 := hSw.2.at b (cell3 hz3 hb3); go_simp; try with_reducible rfl
                      try simp only [Act.put, List.setIfInBounds_toArray, List.set_cons_zero, List.set_cons_succ]
                      refine wpAnyH_done (by kernel_rfl) ?_ _
                      clear hHeld
                      go_wp2
                      go_roundw
                      case rel =>
                        have R : ∃ k' : Nat, k' ≤ 3 ∧ Value.int .i64 ((k : Int) + 1) = .int .i64 k' ∧ Value.int .i64 (k : Int) = .int .i64 (bestN (lkH c.L) f t k') ∧ Blk w.heap.size c.cells w9 ∧ Blk g (intV zs) w9 ∧ Below w.heap.size w w9 := ⟨k + 1, by omega, by go_num, by rw [HB.out], TN, YN, BN⟩
                        first | exact R | ((repeat apply Exists.intro); exact ⟨R, rfl⟩)
                      case measure => simp [intOf]; omega
                    · have HB : Hid (bestN (lkH c.L) f t (k + 1) = (b : Int)) := by
                        show bestN (lkH c.L) f t (k + 1) = (b : Int)
                        rw [best_no (by rw [hl, ← hfk, p3, pb, hbb, Int.toNat_natCast, ← hfb, decide_eq_false hx]; rfl), hbb]
                      have px : decide (gt zs k < gt zs b) = false := decide_eq_false hx
                      rw [hbb] at pb
                      rw [hbb]
                      clear hl h3 hb hfk hfb hx hbb
                      go_wp2_with fail
                      refine wp_region_held_drew (S := (fun W : World => Blk w.heap.size c.cells W ∧ Blk g (intV zs) W)) (by kernel_rfl) ⟨T1.drew, Y1.drew⟩ (fun hHeld => ?_)
                      refine take_one 0 35 (v := ?_) rfl rfl (by kernel_rfl) (by kernel_rfl) (by kernel_rfl) (fun _ _ _ h => h) (Or.inl ⟨by rfl, ?_⟩) hHeld ?_
                      rotate_left
                      · intro w' hSw; (try dsimp only at hSw); have c0 := hSw.2.at k (cell3 hz3 hlt); have d2 := hSw.1.at 2 rfl; have c2 := hSw.2.at b (cell3 hz3 hb3); go_simp; try with_reducible rfl
                      try simp only [Act.put, List.setIfInBounds_toArray, List.set_cons_zero, List.set_cons_succ]
                      refine take_one 1 36 (v := ?_) rfl rfl (by kernel_rfl) (by kernel_rfl) (by kernel_rfl) (fun _ _ _ h => h) (Or.inl ⟨by rfl, ?_⟩) hHeld ?_
                      rotate_left
                      · intro w' hSw; (try dsimp only at hSw); have c0 := hSw.2.at k (cell3 hz3 hlt); have d2 := hSw.1.at 2 rfl; have c2 := hSw.2.at b (cell3 hz3 hb3); go_simp; try with_reducible rfl
                      try simp only [Act.put, List.setIfInBounds_toArray, List.set_cons_zero, List.set_cons_succ]
                      refine take_one 2 37 (v := ?_) rfl rfl (by kernel_rfl) (by kernel_rfl) (by kernel_rfl) (fun _ _ _ h => h) (Or.inl ⟨by rfl, ?_⟩) hHeld ?_
                      rotate_left
                      · intro w' hSw; (try dsimp only at hSw); have c0 := hSw.2.at k (cell3 hz3 hlt); have d2 := hSw.1.at 2 rfl; have c2 := hSw.2.at b (cell3 hz3 hb3); go_simp; try with_reducible rfl
                      try simp only [Act.put, List.setIfInBounds_toArray, List.set_cons_zero, List.set_cons_succ]
                      refine take_one 3 38 (v := ?_) rfl rfl (by kernel_rfl) (by kernel_rfl) (by kernel_rfl) (fun _ _ _ h => h) (Or.inl ⟨by rfl, ?_⟩) hHeld ?_
                      rotate_left
                      · intro w' hSw; (try dsimp only at hSw); have c0 := hSw.2.at k (cell3 hz3 hlt); have d2 := hSw.1.at 2 rfl; have c2 := hSw.2.at b (cell3 hz3 hb3); go_simp; try with_reducible rfl
                      try simp only [Act.put, List.setIfInBounds_toArray, List.set_cons_zero, List.set_cons_succ]
                      refine take_one 4 39 (v := ?_) rfl rfl (by kernel_rfl) (by kernel_rfl) (by kernel_rfl) (fun _ _ _ h => h) (Or.inl ⟨by rfl, ?_⟩) hHeld ?_
                      rotate_left
                      · intro w' hSw; (try dsimp only at hSw); have c0 := hSw.2.at k (cell3 hz3 hlt); have d2 := hSw.1.at 2 rfl; have c2 := hSw.2.at b (cell3 hz3 hb3); go_simp; try with_reducible rfl
                      try simp only [Act.put, List.setIfInBounds_toArray, List.set_cons_zero, List.set_cons_succ]
                      refine wpAnyH_ready (rs := [5]) (by kernel_rfl) (by simp) ?_
                      refine AllReadyH.cons (i := 5) rfl (fun K hK => ?_) AllReadyH.nil
                      go_simp
                      refine (HH).mono ?_
                      rintro e w9 ⟨rfl, hb9⟩
                      have TN := T1.drew.later hb9 ZT.out
                      have YN := Y1.drew.later hb9 ZY.out
                      have BN := BD.trans (hb9.mono BD.size)
                      go_wp2_with fail
                      refine hK.out _ _ ⟨TN, YN⟩ (fun hHeld2 => ?_)
                      clear hK K hHeld
                      have hHeld := hHeld2
                      clear hHeld2
                      try simp only [Act.put, List.setIfInBounds_toArray, List.set_cons_zero, List.set_cons_succ]
                      refine take_one 6 41 (v := ?_) rfl rfl (by kernel_rfl) (by kernel_rfl) (by kernel_rfl) (fun _ _ _ h => h) (Or.inl ⟨by rfl, ?_⟩) hHeld ?_
                      rotate_left
                      · intro w' hSw; (try dsimp only at hSw); have c0 := hSw.2.at k (cell3 hz3 hlt); have d2 := hSw.1.at 2 rfl; have c2 := hSw.2.at b (cell3 hz3 hb3); go_simp; try with_reducible rfl
                      try simp only [Act.put, List.setIfInBounds_toArray, List.set_cons_zero, List.set_cons_succ]
                      refine take_one 7 42 (v := ?_) rfl rfl (by kernel_rfl) (by kernel_rfl) (by kernel_rfl) (fun _ _ _ h => h) (Or.inl ⟨by rfl, ?_⟩) hHeld ?_
                      rotate_left
                      · intro w' hSw; (try dsimp only at hSw); have c0 := hSw.2.at k (cell3 hz3 hlt); have d2 := hSw.1.at 2 rfl; have c2 := hSw.2.at b (cell3 hz3 hb3); go_simp; try with_reducible rfl
                      try simp only [Act.put, List.setIfInBounds_toArray, List.set_cons_zero, List.set_cons_succ]
                      refine take_one 8 43 (v := ?_) rfl rfl (by kernel_rfl) (by kernel_rfl) (by kernel_rfl) (fun _ _ _ h => h) (Or.inl ⟨by rfl, ?_⟩) hHeld ?_
                      rotate_left
                      · intro w' hSw; (try dsimp only at hSw); have c0 := hSw.2.at k (cell3 hz3 hlt); have d2 := hSw.1.at 2 rfl; have c2 := hSw.2.at b (cell3 hz3 hb3); go_simp; try with_reducible rfl
                      try simp only [Act.put, List.setIfInBounds_toArray, List.set_cons_zero, List.set_cons_succ]
                      refine take_one 9 44 (v := ?_) rfl rfl (by kernel_rfl) (by kernel_rfl) (by kernel_rfl) (fun _ _ _ h => h) (Or.inl ⟨by rfl, ?_⟩) hHeld ?_
                      rotate_left
                      · intro w' hSw; (try dsimp only at hSw); have c0 := hSw.2.at k (cell3 hz3 hlt); have d2 := hSw.1.at 2 rfl; have c2 := hSw.2.at b (cell3 hz3 hb3); go_simp; try with_reducible rfl
                      try simp only [Act.put, List.setIfInBounds_toArray, List.set_cons_zero, List.set_cons_succ]
                      refine take_one 10 45 (v := ?_) rfl rfl (by kernel_rfl) (by kernel_rfl) (by kernel_rfl) (fun _ _ _ h => h) (Or.inl ⟨by rfl, ?_⟩) hHeld ?_
                      rotate_left
                      · intro w' hSw; (try dsimp only at hSw); have c0 := hSw.2.at k (cell3 hz3 hlt); have d2 := hSw.1.at 2 rfl; have c2 := hSw.2.at b (cell3 hz3 hb3); go_simp; try with_reducible rfl
                      try simp only [Act.put, List.setIfInBounds_toArray, List.set_cons_zero, List.set_cons_succ]
                      refine take_one 11 46 (v := ?_) rfl rfl (by kernel_rfl) (by kernel_rfl) (by kernel_rfl) (fun _ _ _ h => h) (Or.inl ⟨by rfl, ?_⟩) hHeld ?_
                      rotate_left
                      · intro w' hSw; (try dsimp only at hSw); have c0 := hSw.2.at k (cell3 hz3 hlt); have d2 := hSw.1.at 2 rfl; have c2 := hSw.2.at b (cell3 hz3 hb3); go_simp; try with_reducible rfl
                      try simp only [Act.put, List.setIfInBounds_toArray, List.set_cons_zero, List.set_cons_succ]
                      refine take_one 12 47 (v := ?_) rfl rfl (by kernel_rfl) (by kernel_rfl) (by kernel_rfl) (fun _ _ _ h => h) (Or.inl ⟨by rfl, ?_⟩) hHeld ?_
                      rotate_left
                      · intro w' hSw; (try dsimp only at hSw); have c0 := hSw.2.at k (cell3 hz3 hlt); have d2 := hSw.1.at 2 rfl; have c2 := hSw.2.at b (cell3 hz3 hb3); go_simp; try with_reducible rfl
                      try simp only [Act.put, List.setIfInBounds_toArray, List.set_cons_zero, List.set_cons_succ]
                      refine take_one 13 48 (v := ?_) rfl rfl (by kernel_rfl) (by kernel_rfl) (by kernel_rfl) (fun _ _ _ h => h) (Or.inl ⟨by rfl, ?_⟩) hHeld ?_
                      rotate_left
                      · intro w' hSw; (try dsimp only at hSw); have c0 := hSw.2.at k (cell3 hz3 hlt); have d2 := hSw.1.at 2 rfl; have c2 := hSw.2.at b (cell3 hz3 hb3); go_simp; try with_reducible rfl
                      try simp only [Act.put, List.setIfInBounds_toArray, List.set_cons_zero, List.set_cons_succ]
                      refine take_one 14 49 (v := ?_) rfl rfl (by kernel_rfl) (by kernel_rfl) (by kernel_rfl) (fun _ _ _ h => h) (Or.inl ⟨by rfl, ?_⟩) hHeld ?_
                      rotate_left
                      · intro w' hSw; (try dsimp only at hSw); have c0 := hSw.2.at k (cell3 hz3 hlt); have d2 := hSw.1.at 2 rfl; have c2 := hSw.2.at b (cell3 hz3 hb3); go_simp; try with_reducible rfl
                      try simp only [Act.put, List.setIfInBounds_toArray, List.set_cons_zero, List.set_cons_succ]
                      refine take_one 15 50 (v := ?_) rfl rfl (by kernel_rfl) (by kernel_rfl) (by kernel_rfl) (fun _ _ _ h => h) (Or.inl ⟨by rfl, ?_⟩) hHeld ?_
                      rotate_left
                      · intro w' hSw; (try dsimp only at hSw); have c0 := hSw.2.at k (cell3 hz3 hlt); have d2 := hSw.1.at 2 rfl; have c2 := hSw.2.at b (cell3 hz3 hb3); go_simp; try with_reducible rfl
                      try simp only [Act.put, List.setIfInBounds_toArray, List.set_cons_zero, List.set_cons_succ]
                      refine take_one 16 51 (v := ?_) rfl rfl (by kernel_rfl) (by kernel_rfl) (by kernel_rfl) (fun _ _ _ h => h) (Or.inl ⟨by rfl, ?_⟩) hHeld ?_
                      rotate_left
                      · intro w' hSw; (try dsimp only at hSw); have c0 := hSw.2.at k (cell3 hz3 hlt); have d2 := hSw.1.at 2 rfl; have c2 := hSw.2.at b (cell3 hz3 hb3); go_simp; try with_reducible rfl
                      try simp only [Act.put, List.setIfInBounds_toArray, List.set_cons_zero, List.set_cons_succ]
                      refine take_one 17 52 (v := ?_) rfl rfl (by kernel_rfl) (by kernel_rfl) (by kernel_rfl) (fun _ _ _ h => h) (Or.inl ⟨by rfl, ?_⟩) hHeld ?_
                      rotate_left
                      · intro w' hSw; (try dsimp only at hSw); have c0 := hSw.2.at k (cell3 hz3 hlt); have d2 := hSw.1.at 2 rfl; have c2 := hSw.2.at b (cell3 hz3 hb3); go_simp; try with_reducible rfl
                      try simp only [Act.put, List.setIfInBounds_toArray, List.set_cons_zero, List.set_cons_succ]
                      refine take_one 18 53 (v := ?_) rfl rfl (by kernel_rfl) (by kernel_rfl) (by kernel_rfl) (fun _ _ _ h => h) (Or.inl ⟨by rfl, ?_⟩) hHeld ?_
                      rotate_left
                      · intro w' hSw; (try dsimp only at hSw); have c0 := hSw.2.at k (cell3 hz3 hlt); have d2 := hSw.1.at 2 rfl; have c2 := hSw.2.at b (cell3 hz3 hb3); go_simp; try with_reducible rfl
                      try simp only [Act.put, List.setIfInBounds_toArray, List.set_cons_zero, List.set_cons_succ]
                      refine take_one 19 54 (v := ?_) rfl rfl (by kernel_rfl) (by kernel_rfl) (by kernel_rfl) (fun _ _ _ h => h) (Or.inl ⟨by rfl, ?_⟩) hHeld ?_
                      rotate_left
                      · intro w' hSw; (try dsimp only at hSw); have c0 := hSw.2.at k (cell3 hz3 hlt); have d2 := hSw.1.at 2 rfl; have c2 := hSw.2.at b (cell3 hz3 hb3); go_simp; try with_reducible rfl
                      try simp only [Act.put, List.setIfInBounds_toArray, List.set_cons_zero, List.set_cons_succ]
                      refine take_one 20 55 (v := ?_) rfl rfl (by kernel_rfl) (by kernel_rfl) (by kernel_rfl) (fun _ _ _ h => h) (Or.inl ⟨by rfl, ?_⟩) hHeld ?_
                      rotate_left
                      · intro w' hSw; (try dsimp only at hSw); have c0 := hSw.2.at k (cell3 hz3 hlt); have d2 := hSw.1.at 2 rfl; have c2 := hSw.2.at b (cell3 hz3 hb3); go_simp; try with_reducible rfl
                      try simp only [Act.put, List.setIfInBounds_toArray, List.set_cons_zero, List.set_cons_succ]
                      refine take_one 21 56 (v := ?_) rfl rfl (by kernel_rfl) (by kernel_rfl) (by kernel_rfl) (fun _ _ _ h => h) (Or.inl ⟨by rfl, ?_⟩) hHeld ?_
                      rotate_left
                      · intro w' hSw; (try dsimp only at hSw); have c0 := hSw.2.at k (cell3 hz3 hlt); have d2 := hSw.1.at 2 rfl; have c2 := hSw.2.at b (cell3 hz3 hb3); go_simp; try with_reducible rfl
                      try simp only [Act.put, List.setIfInBounds_toArray, List.set_cons_zero, List.set_cons_succ]
                      refine take_one 22 57 (v := ?_) rfl rfl (by kernel_rfl) (by kernel_rfl) (by kernel_rfl) (fun _ _ _ h => h) (Or.inl ⟨by rfl, ?_⟩) hHeld ?_
                      rotate_left
                      · intro w' hSw; (try dsimp only at hSw); have c0 := hSw.2.at k (cell3 hz3 hlt); have d2 := hSw.1.at 2 rfl; have c2 := hSw.2.at b (cell3 hz3 hb3); go_simp; try with_reducible rfl
                      try simp only [Act.put, List.setIfInBounds_toArray, List.set_cons_zero, List.set_cons_succ]
                      refine take_one 23 58 (v := ?_) rfl rfl (by kernel_rfl) (by kernel_rfl) (by kernel_rfl) (fun _ _ _ h => h) (Or.inl ⟨by rfl, ?_⟩) hHeld ?_
                      rotate_left
                      · intro w' hSw; (try dsimp only at hSw); have c0 := hSw.2.at k (cell3 hz3 hlt); have d2 := hSw.1.at 2 rfl; have c2 := hSw.2.at b (cell3 hz3 hb3); go_simp; try with_reducible rfl
                      try simp only [Act.put, List.setIfInBounds_toArray, List.set_cons_zero, List.set_cons_succ]
                      refine take_one 24 59 (v := ?_) rfl rfl (by kernel_rfl) (by kernel_rfl) (by kernel_rfl) (fun _ _ _ h => h) (Or.inl ⟨by rfl, ?_⟩) hHeld ?_
                      rotate_left
                      · intro w' hSw; (try dsimp only at hSw); have c0 := hSw.2.at k (cell3 hz3 hlt); have d2 := hSw.1.at 2 rfl; have c2 := hSw.2.at b (cell3 hz3 hb3); go_simp; try with_reducible rfl
                      try simp only [Act.put, List.setIfInBounds_toArray, List.set_cons_zero, List.set_cons_succ]
                      refine take_one 25 60 (v := ?_) rfl rfl (by kernel_rfl) (by kernel_rfl) (by kernel_rfl) (fun _ _ _ h => h) (Or.inl ⟨by rfl, ?_⟩) hHeld ?_
                      rotate_left
                      · intro w' hSw; (try dsimp only at hSw); have c0 := hSw.2.at k (cell3 hz3 hlt); have d2 := hSw.1.at 2 rfl; have c2 := hSw.2.at b (cell3 hz3 hb3); go_simp; try with_reducible rfl
                      try simp only [Act.put, List.setIfInBounds_toArray, List.set_cons_zero, List.set_cons_succ]
                      refine take_one 26 61 (v := ?_) rfl rfl (by kernel_rfl) (by kernel_rfl) (by kernel_rfl) (fun _ _ _ h => h) (Or.inl ⟨by rfl, ?_⟩) hHeld ?_
                      rotate_left
                      · intro w' hSw; (try dsimp only at hSw); have c0 := hSw.2.at k (cell3 hz3 hlt); have d2 := hSw.1.at 2 rfl; have c2 := hSw.2.at b (cell3 hz3 hb3); go_simp; try with_reducible rfl
                      try simp only [Act.put, List.setIfInBounds_toArray, List.set_cons_zero, List.set_cons_succ]
                      refine take_one 27 62 (v := ?_) rfl rfl (by kernel_rfl) (by kernel_rfl) (by kernel_rfl) (fun _ _ _ h => h) (Or.inl ⟨by rfl, ?_⟩) hHeld ?_
                      rotate_left
                      · intro w' hSw; (try dsimp only at hSw); have c0 := hSw.2.at k (cell3 hz3 hlt); have d2 := hSw.1.at 2 rfl; have c2 := hSw.2.at b (cell3 hz3 hb3); go_simp; try with_reducible rfl
                      try simp only [Act.put, List.setIfInBounds_toArray, List.set_cons_zero, List.set_cons_succ]
                      refine wpAnyH_done (by kernel_rfl) ?_ _
                      clear hHeld
                      go_wp2
                      go_roundw
                      case rel =>
                        have R : ∃ k' : Nat, k' ≤ 3 ∧ Value.int .i64 ((k : Int) + 1) = .int .i64 k' ∧ Value.int .i64 (b : Int) = .int .i64 (bestN (lkH c.L) f t k') ∧ Blk w.heap.size c.cells w9 ∧ Blk g (intV zs) w9 ∧ Below w.heap.size w w9 := ⟨k + 1, by omega, by go_num, by rw [HB.out], TN, YN, BN⟩
                        first | exact R | ((repeat apply Exists.intro); exact ⟨R, rfl⟩)
                      case measure => simp [intOf]; omega
                · have p3 : decide (gt zs k < 3) = false := decide_eq_false h3
                  have HB : Hid (bestN (lkH c.L) f t (k + 1) = bestN (lkH c.L) f t k) := best_no (by rw [hl, ← hfk, p3]; rfl)
                  clear hl h3 hfk
                  generalize bestN (lkH c.L) f t k = bst at HB bb
                  go_wp2_with fail
                  refine wp_region_held_drew (S := (fun W : World => Blk w.heap.size c.cells W ∧ Blk g (intV zs) W)) (by kernel_rfl) ⟨T1.drew, Y1.drew⟩ (fun hHeld => ?_)
                  refine take_one 0 35 (v := ?_) rfl rfl (by kernel_rfl) (by kernel_rfl) (by kernel_rfl) (fun _ _ _ h => h) (Or.inl ⟨by rfl, ?_⟩) hHeld ?_
                  rotate_left
                  · intro w' hSw; (try dsimp only at hSw); have c0 := hSw.2.at k (cell3 hz3 hlt); have d2 := hSw.1.at 2 rfl; go_simp; try with_reducible rfl
                  try simp only [Act.put, List.setIfInBounds_toArray, List.set_cons_zero, List.set_cons_succ]
                  refine take_one 1 36 (v := ?_) rfl rfl (by kernel_rfl) (by kernel_rfl) (by kernel_rfl) (fun _ _ _ h => h) (Or.inl ⟨by rfl, ?_⟩) hHeld ?_
                  rotate_left
                  · intro w' hSw; (try dsimp only at hSw); have c0 := hSw.2.at k (cell3 hz3 hlt); have d2 := hSw.1.at 2 rfl; go_simp; try with_reducible rfl
                  try simp only [Act.put, List.setIfInBounds_toArray, List.set_cons_zero, List.set_cons_succ]
                  refine take_one 2 37 (v := ?_) rfl rfl (by kernel_rfl) (by kernel_rfl) (by kernel_rfl) (fun _ _ _ h => h) (Or.inl ⟨by rfl, ?_⟩) hHeld ?_
                  rotate_left
                  · intro w' hSw; (try dsimp only at hSw); have c0 := hSw.2.at k (cell3 hz3 hlt); have d2 := hSw.1.at 2 rfl; go_simp; try with_reducible rfl
                  try simp only [Act.put, List.setIfInBounds_toArray, List.set_cons_zero, List.set_cons_succ]
                  refine take_one 3 38 (v := ?_) rfl rfl (by kernel_rfl) (by kernel_rfl) (by kernel_rfl) (fun _ _ _ h => h) (Or.inl ⟨by rfl, ?_⟩) hHeld ?_
                  rotate_left
                  · intro w' hSw; (try dsimp only at hSw); have c0 := hSw.2.at k (cell3 hz3 hlt); have d2 := hSw.1.at 2 rfl; go_simp; try with_reducible rfl
                  try simp only [Act.put, List.setIfInBounds_toArray, List.set_cons_zero, List.set_cons_succ]
                  refine take_one 4 39 (v := ?_) rfl rfl (by kernel_rfl) (by kernel_rfl) (by kernel_rfl) (fun _ _ _ h => h) (Or.inl ⟨by rfl, ?_⟩) hHeld ?_
                  rotate_left
                  · intro w' hSw; (try dsimp only at hSw); have c0 := hSw.2.at k (cell3 hz3 hlt); have d2 := hSw.1.at 2 rfl; go_simp; try with_reducible rfl
                  try simp only [Act.put, List.setIfInBounds_toArray, List.set_cons_zero, List.set_cons_succ]
                  refine wpAnyH_ready (rs := [5]) (by kernel_rfl) (by simp) ?_
                  refine AllReadyH.cons (i := 5) rfl (fun K hK => ?_) AllReadyH.nil
                  go_simp
                  refine (HH).mono ?_
                  rintro e w9 ⟨rfl, hb9⟩
                  have TN := T1.drew.later hb9 ZT.out
                  have YN := Y1.drew.later hb9 ZY.out
                  have BN := BD.trans (hb9.mono BD.size)
                  go_wp2_with fail
                  refine hK.out _ _ ⟨TN, YN⟩ (fun hHeld2 => ?_)
                  clear hK K hHeld
                  have hHeld := hHeld2
                  clear hHeld2
                  try simp only [Act.put, List.setIfInBounds_toArray, List.set_cons_zero, List.set_cons_succ]
                  refine take_one 6 41 (v := ?_) rfl rfl (by kernel_rfl) (by kernel_rfl) (by kernel_rfl) (fun _ _ _ h => h) (Or.inl ⟨by rfl, ?_⟩) hHeld ?_
                  rotate_left
                  · intro w' hSw; (try dsimp only at hSw); have c0 := hSw.2.at k (cell3 hz3 hlt); have d2 := hSw.1.at 2 rfl; go_simp; try with_reducible rfl
                  try simp only [Act.put, List.setIfInBounds_toArray, List.set_cons_zero, List.set_cons_succ]
                  refine take_one 7 42 (v := ?_) rfl rfl (by kernel_rfl) (by kernel_rfl) (by kernel_rfl) (fun _ _ _ h => h) (Or.inl ⟨by rfl, ?_⟩) hHeld ?_
                  rotate_left
                  · intro w' hSw; (try dsimp only at hSw); have c0 := hSw.2.at k (cell3 hz3 hlt); have d2 := hSw.1.at 2 rfl; go_simp; try with_reducible rfl
                  try simp only [Act.put, List.setIfInBounds_toArray, List.set_cons_zero, List.set_cons_succ]
                  refine take_one 8 43 (v := ?_) rfl rfl (by kernel_rfl) (by kernel_rfl) (by kernel_rfl) (fun _ _ _ h => h) (Or.inl ⟨by rfl, ?_⟩) hHeld ?_
                  rotate_left
                  · intro w' hSw; (try dsimp only at hSw); have c0 := hSw.2.at k (cell3 hz3 hlt); have d2 := hSw.1.at 2 rfl; go_simp; try with_reducible rfl
                  try simp only [Act.put, List.setIfInBounds_toArray, List.set_cons_zero, List.set_cons_succ]
                  refine take_one 9 44 (v := ?_) rfl rfl (by kernel_rfl) (by kernel_rfl) (by kernel_rfl) (fun _ _ _ h => h) (Or.inl ⟨by rfl, ?_⟩) hHeld ?_
                  rotate_left
                  · intro w' hSw; (try dsimp only at hSw); have c0 := hSw.2.at k (cell3 hz3 hlt); have d2 := hSw.1.at 2 rfl; go_simp; try with_reducible rfl
                  try simp only [Act.put, List.setIfInBounds_toArray, List.set_cons_zero, List.set_cons_succ]
                  refine take_one 10 45 (v := ?_) rfl rfl (by kernel_rfl) (by kernel_rfl) (by kernel_rfl) (fun _ _ _ h => h) (Or.inl ⟨by rfl, ?_⟩) hHeld ?_
                  rotate_left
                  · intro w' hSw; (try dsimp only at hSw); have c0 := hSw.2.at k (cell3 hz3 hlt); have d2 := hSw.1.at 2 rfl; go_simp; try with_reducible rfl
                  try simp only [Act.put, List.setIfInBounds_toArray, List.set_cons_zero, List.set_cons_succ]
                  refine take_one 11 46 (v := ?_) rfl rfl (by kernel_rfl) (by kernel_rfl) (by kernel_rfl) (fun _ _ _ h => h) (Or.inl ⟨by rfl, ?_⟩) hHeld ?_
                  rotate_left
                  · intro w' hSw; (try dsimp only at hSw); have c0 := hSw.2.at k (cell3 hz3 hlt); have d2 := hSw.1.at 2 rfl; go_simp; try with_reducible rfl
                  try simp only [Act.put, List.setIfInBounds_toArray, List.set_cons_zero, List.set_cons_succ]
                  refine take_one 12 47 (v := ?_) rfl rfl (by kernel_rfl) (by kernel_rfl) (by kernel_rfl) (fun _ _ _ h => h) (Or.inl ⟨by rfl, ?_⟩) hHeld ?_
                  rotate_left
                  · intro w' hSw; (try dsimp only at hSw); have c0 := hSw.2.at k (cell3 hz3 hlt); have d2 := hSw.1.at 2 rfl; go_simp; try with_reducible rfl
                  try simp only [Act.put, List.setIfInBounds_toArray, List.set_cons_zero, List.set_cons_succ]
                  refine take_one 13 48 (v := ?_) rfl rfl (by kernel_rfl) (by kernel_rfl) (by kernel_rfl) (fun _ _ _ h => h) (Or.inl ⟨by rfl, ?_⟩) hHeld ?_
                  rotate_left
                  · intro w' hSw; (try dsimp only at hSw); have c0 := hSw.2.at k (cell3 hz3 hlt); have d2 := hSw.1.at 2 rfl; go_simp; try with_reducible rfl
                  try simp only [Act.put, List.setIfInBounds_toArray, List.set_cons_zero, List.set_cons_succ]
                  refine skip_one 14 49 rfl rfl (by kernel_rfl) (by kernel_rfl) (by kernel_rfl) (fun _ _ _ h => h) (unwanted (c := false) rfl rfl (by simp) rfl) hHeld ?_
                  try simp only [Act.put, List.setIfInBounds_toArray, List.set_cons_zero, List.set_cons_succ]
                  refine skip_one 15 50 rfl rfl (by kernel_rfl) (by kernel_rfl) (by kernel_rfl) (fun _ _ _ h => h) (unwanted (c := false) rfl rfl (by simp) rfl) hHeld ?_
                  try simp only [Act.put, List.setIfInBounds_toArray, List.set_cons_zero, List.set_cons_succ]
                  refine skip_one 16 51 rfl rfl (by kernel_rfl) (by kernel_rfl) (by kernel_rfl) (fun _ _ _ h => h) (unwanted (c := false) rfl rfl (by simp) rfl) hHeld ?_
                  try simp only [Act.put, List.setIfInBounds_toArray, List.set_cons_zero, List.set_cons_succ]
                  refine skip_one 17 52 rfl rfl (by kernel_rfl) (by kernel_rfl) (by kernel_rfl) (fun _ _ _ h => h) (unwanted_undef rfl rfl (by simp)) hHeld ?_
                  try simp only [Act.put, List.setIfInBounds_toArray, List.set_cons_zero, List.set_cons_succ]
                  refine skip_one 18 53 rfl rfl (by kernel_rfl) (by kernel_rfl) (by kernel_rfl) (fun _ _ _ h => h) (unwanted_undef rfl rfl (by simp)) hHeld ?_
                  try simp only [Act.put, List.setIfInBounds_toArray, List.set_cons_zero, List.set_cons_succ]
                  refine skip_one 19 54 rfl rfl (by kernel_rfl) (by kernel_rfl) (by kernel_rfl) (fun _ _ _ h => h) (unwanted_undef rfl rfl (by simp)) hHeld ?_
                  try simp only [Act.put, List.setIfInBounds_toArray, List.set_cons_zero, List.set_cons_succ]
                  refine skip_one 20 55 rfl rfl (by kernel_rfl) (by kernel_rfl) (by kernel_rfl) (fun _ _ _ h => h) (unwanted_undef rfl rfl (by simp)) hHeld ?_
                  try simp only [Act.put, List.setIfInBounds_toArray, List.set_cons_zero, List.set_cons_succ]
                  refine skip_one 21 56 rfl rfl (by kernel_rfl) (by kernel_rfl) (by kernel_rfl) (fun _ _ _ h => h) (unwanted_undef rfl rfl (by simp)) hHeld ?_
                  try simp only [Act.put, List.setIfInBounds_toArray, List.set_cons_zero, List.set_cons_succ]
                  refine skip_one 22 57 rfl rfl (by kernel_rfl) (by kernel_rfl) (by kernel_rfl) (fun _ _ _ h => h) (unwanted_undef rfl rfl (by simp)) hHeld ?_
                  try simp only [Act.put, List.setIfInBounds_toArray, List.set_cons_zero, List.set_cons_succ]
                  refine skip_one 23 58 rfl rfl (by kernel_rfl) (by kernel_rfl) (by kernel_rfl) (fun _ _ _ h => h) (unwanted_undef rfl rfl (by simp)) hHeld ?_
                  try simp only [Act.put, List.setIfInBounds_toArray, List.set_cons_zero, List.set_cons_succ]
                  refine skip_one 24 59 rfl rfl (by kernel_rfl) (by kernel_rfl) (by kernel_rfl) (fun _ _ _ h => h) (unwanted_undef rfl rfl (by simp)) hHeld ?_
                  try simp only [Act.put, List.setIfInBounds_toArray, List.set_cons_zero, List.set_cons_succ]
                  refine skip_one 25 60 rfl rfl (by kernel_rfl) (by kernel_rfl) (by kernel_rfl) (fun _ _ _ h => h) (unwanted_undef rfl rfl (by simp)) hHeld ?_
                  try simp only [Act.put, List.setIfInBounds_toArray, List.set_cons_zero, List.set_cons_succ]
                  refine skip_one 26 61 rfl rfl (by kernel_rfl) (by kernel_rfl) (by kernel_rfl) (fun _ _ _ h => h) (unwanted (c := false) rfl rfl (by simp) rfl) hHeld ?_
                  try simp only [Act.put, List.setIfInBounds_toArray, List.set_cons_zero, List.set_cons_succ]
                  refine take_one 27 62 (v := ?_) rfl rfl (by kernel_rfl) (by kernel_rfl) (by kernel_rfl) (fun _ _ _ h => h) (Or.inl ⟨by rfl, ?_⟩) hHeld ?_
                  rotate_left
                  · intro w' hSw; (try dsimp only at hSw); have c0 := hSw.2.at k (cell3 hz3 hlt); have d2 := hSw.1.at 2 rfl; go_simp; try with_reducible rfl
                  try simp only [Act.put, List.setIfInBounds_toArray, List.set_cons_zero, List.set_cons_succ]
                  refine wpAnyH_done (by kernel_rfl) ?_ _
                  clear hHeld
                  go_wp2
                  go_roundw
                  case rel =>
                    have R : ∃ k' : Nat, k' ≤ 3 ∧ Value.int .i64 ((k : Int) + 1) = .int .i64 k' ∧ Value.int .i64 bst = .int .i64 (bestN (lkH c.L) f t k') ∧ Blk w.heap.size c.cells w9 ∧ Blk g (intV zs) w9 ∧ Below w.heap.size w w9 := ⟨k + 1, by omega, by go_num, by rw [HB.out], TN, YN, BN⟩
                    first | exact R | ((repeat apply Exists.intro); exact ⟨R, rfl⟩)
                  case measure => simp [intOf]; omega
              · rw [Bool.not_eq_true] at hl
                rw [show decide (((f : Int), (k : Int)) ∈ c.L) = false from hl] at HH
                have HB : Hid (bestN (lkH c.L) f t (k + 1) = bestN (lkH c.L) f t k) := best_no (by rw [hl]; rfl)
                clear hl hfk
                generalize bestN (lkH c.L) f t k = bst at HB bb
                go_wp2_with fail
                refine wp_region_held_drew (S := (fun W : World => Blk w.heap.size c.cells W ∧ Blk g (intV zs) W)) (by kernel_rfl) ⟨T1.drew, Y1.drew⟩ (fun hHeld => ?_)
                refine take_one 0 35 (v := ?_) rfl rfl (by kernel_rfl) (by kernel_rfl) (by kernel_rfl) (fun _ _ _ h => h) (Or.inl ⟨by rfl, ?_⟩) hHeld ?_
                rotate_left
                · intro w' hSw; (try dsimp only at hSw); have c0 := hSw.2.at k (cell3 hz3 hlt); have d2 := hSw.1.at 2 rfl; go_simp; try with_reducible rfl
                try simp only [Act.put, List.setIfInBounds_toArray, List.set_cons_zero, List.set_cons_succ]
                refine take_one 1 36 (v := ?_) rfl rfl (by kernel_rfl) (by kernel_rfl) (by kernel_rfl) (fun _ _ _ h => h) (Or.inl ⟨by rfl, ?_⟩) hHeld ?_
                rotate_left
                · intro w' hSw; (try dsimp only at hSw); have c0 := hSw.2.at k (cell3 hz3 hlt); have d2 := hSw.1.at 2 rfl; go_simp; try with_reducible rfl
                try simp only [Act.put, List.setIfInBounds_toArray, List.set_cons_zero, List.set_cons_succ]
                refine take_one 2 37 (v := ?_) rfl rfl (by kernel_rfl) (by kernel_rfl) (by kernel_rfl) (fun _ _ _ h => h) (Or.inl ⟨by rfl, ?_⟩) hHeld ?_
                rotate_left
                · intro w' hSw; (try dsimp only at hSw); have c0 := hSw.2.at k (cell3 hz3 hlt); have d2 := hSw.1.at 2 rfl; go_simp; try with_reducible rfl
                try simp only [Act.put, List.setIfInBounds_toArray, List.set_cons_zero, List.set_cons_succ]
                refine take_one 3 38 (v := ?_) rfl rfl (by kernel_rfl) (by kernel_rfl) (by kernel_rfl) (fun _ _ _ h => h) (Or.inl ⟨by rfl, ?_⟩) hHeld ?_
                rotate_left
                · intro w' hSw; (try dsimp only at hSw); have c0 := hSw.2.at k (cell3 hz3 hlt); have d2 := hSw.1.at 2 rfl; go_simp; try with_reducible rfl
                try simp only [Act.put, List.setIfInBounds_toArray, List.set_cons_zero, List.set_cons_succ]
                refine take_one 4 39 (v := ?_) rfl rfl (by kernel_rfl) (by kernel_rfl) (by kernel_rfl) (fun _ _ _ h => h) (Or.inl ⟨by rfl, ?_⟩) hHeld ?_
                rotate_left
                · intro w' hSw; (try dsimp only at hSw); have c0 := hSw.2.at k (cell3 hz3 hlt); have d2 := hSw.1.at 2 rfl; go_simp; try with_reducible rfl
                try simp only [Act.put, List.setIfInBounds_toArray, List.set_cons_zero, List.set_cons_succ]
                refine wpAnyH_ready (rs := [5]) (by kernel_rfl) (by simp) ?_
                refine AllReadyH.cons (i := 5) rfl (fun K hK => ?_) AllReadyH.nil
                go_simp
                refine (HH).mono ?_
                rintro e w9 ⟨rfl, hb9⟩
                have TN := T1.drew.later hb9 ZT.out
                have YN := Y1.drew.later hb9 ZY.out
                have BN := BD.trans (hb9.mono BD.size)
                go_wp2_with fail
                refine hK.out _ _ ⟨TN, YN⟩ (fun hHeld2 => ?_)
                clear hK K hHeld
                have hHeld := hHeld2
                clear hHeld2
                try simp only [Act.put, List.setIfInBounds_toArray, List.set_cons_zero, List.set_cons_succ]
                refine take_one 6 41 (v := ?_) rfl rfl (by kernel_rfl) (by kernel_rfl) (by kernel_rfl) (fun _ _ _ h => h) (Or.inl ⟨by rfl, ?_⟩) hHeld ?_
                rotate_left
                · intro w' hSw; (try dsimp only at hSw); have c0 := hSw.2.at k (cell3 hz3 hlt); have d2 := hSw.1.at 2 rfl; go_simp; try with_reducible rfl
                try simp only [Act.put, List.setIfInBounds_toArray, List.set_cons_zero, List.set_cons_succ]
                refine skip_one 7 42 rfl rfl (by kernel_rfl) (by kernel_rfl) (by kernel_rfl) (fun _ _ _ h => h) (unwanted (c := false) rfl rfl (by simp) rfl) hHeld ?_
                try simp only [Act.put, List.setIfInBounds_toArray, List.set_cons_zero, List.set_cons_succ]
                refine skip_one 8 43 rfl rfl (by kernel_rfl) (by kernel_rfl) (by kernel_rfl) (fun _ _ _ h => h) (unwanted (c := false) rfl rfl (by simp) rfl) hHeld ?_
                try simp only [Act.put, List.setIfInBounds_toArray, List.set_cons_zero, List.set_cons_succ]
                refine skip_one 9 44 rfl rfl (by kernel_rfl) (by kernel_rfl) (by kernel_rfl) (fun _ _ _ h => h) (unwanted (c := false) rfl rfl (by simp) rfl) hHeld ?_
                try simp only [Act.put, List.setIfInBounds_toArray, List.set_cons_zero, List.set_cons_succ]
                refine skip_one 10 45 rfl rfl (by kernel_rfl) (by kernel_rfl) (by kernel_rfl) (fun _ _ _ h => h) (unwanted (c := false) rfl rfl (by simp) rfl) hHeld ?_
                try simp only [Act.put, List.setIfInBounds_toArray, List.set_cons_zero, List.set_cons_succ]
                refine skip_one 11 46 rfl rfl (by kernel_rfl) (by kernel_rfl) (by kernel_rfl) (fun _ _ _ h => h) (unwanted (c := false) rfl rfl (by simp) rfl) hHeld ?_
                try simp only [Act.put, List.setIfInBounds_toArray, List.set_cons_zero, List.set_cons_succ]
                refine take_one 12 47 (v := ?_) rfl rfl (by kernel_rfl) (by kernel_rfl) (by kernel_rfl) (fun _ _ _ h => h) (Or.inl ⟨by rfl, ?_⟩) hHeld ?_
                rotate_left
                · intro w' hSw; (try dsimp only at hSw); have c0 := hSw.2.at k (cell3 hz3 hlt); have d2 := hSw.1.at 2 rfl; go_simp; try with_reducible rfl
                try simp only [Act.put, List.setIfInBounds_toArray, List.set_cons_zero, List.set_cons_succ]
                refine take_one 13 48 (v := ?_) rfl rfl (by kernel_rfl) (by kernel_rfl) (by kernel_rfl) (fun _ _ _ h => h) (Or.inl ⟨by rfl, ?_⟩) hHeld ?_
                rotate_left
                · intro w' hSw; (try dsimp only at hSw); have c0 := hSw.2.at k (cell3 hz3 hlt); have d2 := hSw.1.at 2 rfl; go_simp; try with_reducible rfl
                try simp only [Act.put, List.setIfInBounds_toArray, List.set_cons_zero, List.set_cons_succ]
                refine skip_one 14 49 rfl rfl (by kernel_rfl) (by kernel_rfl) (by kernel_rfl) (fun _ _ _ h => h) (unwanted (c := false) rfl rfl (by simp) rfl) hHeld ?_
                try simp only [Act.put, List.setIfInBounds_toArray, List.set_cons_zero, List.set_cons_succ]
                refine skip_one 15 50 rfl rfl (by kernel_rfl) (by kernel_rfl) (by kernel_rfl) (fun _ _ _ h => h) (unwanted (c := false) rfl rfl (by simp) rfl) hHeld ?_
                try simp only [Act.put, List.setIfInBounds_toArray, List.set_cons_zero, List.set_cons_succ]
                refine skip_one 16 51 rfl rfl (by kernel_rfl) (by kernel_rfl) (by kernel_rfl) (fun _ _ _ h => h) (unwanted (c := false) rfl rfl (by simp) rfl) hHeld ?_
                try simp only [Act.put, List.setIfInBounds_toArray, List.set_cons_zero, List.set_cons_succ]
                refine skip_one 17 52 rfl rfl (by kernel_rfl) (by kernel_rfl) (by kernel_rfl) (fun _ _ _ h => h) (unwanted_undef rfl rfl (by simp)) hHeld ?_
                try simp only [Act.put, List.setIfInBounds_toArray, List.set_cons_zero, List.set_cons_succ]
                refine skip_one 18 53 rfl rfl (by kernel_rfl) (by kernel_rfl) (by kernel_rfl) (fun _ _ _ h => h) (unwanted_undef rfl rfl (by simp)) hHeld ?_
                try simp only [Act.put, List.setIfInBounds_toArray, List.set_cons_zero, List.set_cons_succ]
                refine skip_one 19 54 rfl rfl (by kernel_rfl) (by kernel_rfl) (by kernel_rfl) (fun _ _ _ h => h) (unwanted_undef rfl rfl (by simp)) hHeld ?_
                try simp only [Act.put, List.setIfInBounds_toArray, List.set_cons_zero, List.set_cons_succ]
                refine skip_one 20 55 rfl rfl (by kernel_rfl) (by kernel_rfl) (by kernel_rfl) (fun _ _ _ h => h) (unwanted_undef rfl rfl (by simp)) hHeld ?_
                try simp only [Act.put, List.setIfInBounds_toArray, List.set_cons_zero, List.set_cons_succ]
                refine skip_one 21 56 rfl rfl (by kernel_rfl) (by kernel_rfl) (by kernel_rfl) (fun _ _ _ h => h) (unwanted_undef rfl rfl (by simp)) hHeld ?_
                try simp only [Act.put, List.setIfInBounds_toArray, List.set_cons_zero, List.set_cons_succ]
                refine skip_one 22 57 rfl rfl (by kernel_rfl) (by kernel_rfl) (by kernel_rfl) (fun _ _ _ h => h) (unwanted_undef rfl rfl (by simp)) hHeld ?_
                try simp only [Act.put, List.setIfInBounds_toArray, List.set_cons_zero, List.set_cons_succ]
                refine skip_one 23 58 rfl rfl (by kernel_rfl) (by kernel_rfl) (by kernel_rfl) (fun _ _ _ h => h) (unwanted_undef rfl rfl (by simp)) hHeld ?_
                try simp only [Act.put, List.setIfInBounds_toArray, List.set_cons_zero, List.set_cons_succ]
                refine skip_one 24 59 rfl rfl (by kernel_rfl) (by kernel_rfl) (by kernel_rfl) (fun _ _ _ h => h) (unwanted_undef rfl rfl (by simp)) hHeld ?_
                try simp only [Act.put, List.setIfInBounds_toArray, List.set_cons_zero, List.set_cons_succ]
                refine skip_one 25 60 rfl rfl (by kernel_rfl) (by kernel_rfl) (by kernel_rfl) (fun _ _ _ h => h) (unwanted_undef rfl rfl (by simp)) hHeld ?_
                try simp only [Act.put, List.setIfInBounds_toArray, List.set_cons_zero, List.set_cons_succ]
                refine skip_one 26 61 rfl rfl (by kernel_rfl) (by kernel_rfl) (by kernel_rfl) (fun _ _ _ h => h) (unwanted (c := false) rfl rfl (by simp) rfl) hHeld ?_
                try simp only [Act.put, List.setIfInBounds_toArray, List.set_cons_zero, List.set_cons_succ]
                refine take_one 27 62 (v := ?_) rfl rfl (by kernel_rfl) (by kernel_rfl) (by kernel_rfl) (fun _ _ _ h => h) (Or.inl ⟨by rfl, ?_⟩) hHeld ?_
                rotate_left
                · intro w' hSw; (try dsimp only at hSw); have c0 := hSw.2.at k (cell3 hz3 hlt); have d2 := hSw.1.at 2 rfl; go_simp; try with_reducible rfl
                try simp only [Act.put, List.setIfInBounds_toArray, List.set_cons_zero, List.set_cons_succ]
                refine wpAnyH_done (by kernel_rfl) ?_ _
                clear hHeld
                go_wp2
                go_roundw
                case rel =>
                  have R : ∃ k' : Nat, k' ≤ 3 ∧ Value.int .i64 ((k : Int) + 1) = .int .i64 k' ∧ Value.int .i64 bst = .int .i64 (bestN (lkH c.L) f t k') ∧ Blk w.heap.size c.cells w9 ∧ Blk g (intV zs) w9 ∧ Below w.heap.size w w9 := ⟨k + 1, by omega, by go_num, by rw [HB.out], TN, YN, BN⟩
                  first | exact R | ((repeat apply Exists.intro); exact ⟨R, rfl⟩)
                case measure => simp [intOf]; omega
            · obtain rfl : k = 3 := by omega
              go_wp2
              go_ret
              exact ⟨by rw [HV.out]; rfl, B1⟩
      · rw [Bool.not_eq_true] at hq
        have HV : Hid (nhV c p q = -1) := by show nhV c p q = -1; unfold nhV; rw [hc, hp, hq]; rfl
        rw [hq]
        go_wp2
        go_ret
        exact ⟨by rw [HV.out]; rfl, B2⟩
    · rw [Bool.not_eq_true] at hp
      have HV : Hid (nhV c p q = -1) := by show nhV c p q = -1; unfold nhV; rw [hc, hp]; rfl
      rw [hp]
      go_wp2
      go_ret
      exact ⟨by rw [HV.out]; rfl, B2⟩
  · rw [Bool.not_eq_true] at hc
    have HV : Hid (nhV c p q = -1) := by show nhV c p q = -1; unfold nhV; rw [hc]; rfl
    rw [hc]
    go_wp2
    go_ret
    exact ⟨by rw [HV.out]; rfl, B2⟩
end Go.Proofs.Ytflajkbbggmdjaa
