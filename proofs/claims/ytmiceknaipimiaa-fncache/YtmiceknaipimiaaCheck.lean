/- Why an Auth is not taken: what the program checks. -/
import Derived.Test.YtmiceknaipimiaaClone3
set_option linter.unusedVariables false
namespace Go.Proofs.Ytmiceknaipimiaa
open Go Go.RowKit Go.Joins Own Draw

/-- How far two times are apart. -/
def apV (a b : Int) : Int := if a ≤ b then b - a else a - b
set_option maxRecDepth 100000 in
theorem apart_is (n y : Int) (w : World) (hn : 0 ≤ n ∧ n ≤ 100000) (hy : 0 ≤ y ∧ y ≤ 100000) : Calls Try.prog 51 #[.int .i64 n, .int .i64 y] w fun e w' => e = .returned (.int .i64 (apV n y)) ∧ w = w' := by
  unfold apV
  by_cases h : n ≤ y
  · rw [if_pos h]
    have h2 : max n y = y := by omega
    have h3 : min n y = n := by omega
    go_enter Try.func51, Try.ntmps51
    go_wp2
    all_goals
      go_ret
      exact ⟨by simp <;> omega, rfl⟩
  · rw [if_neg h]
    have h2 : max n y = n := by omega
    have h3 : min n y = y := by omega
    go_enter Try.func51, Try.ntmps51
    go_wp2
    all_goals
      go_ret
      exact ⟨by simp <;> omega, rfl⟩
set_option maxRecDepth 100000 in
theorem specApart_is (n y k : Int) (w : World) (hn : 0 ≤ n ∧ n ≤ 100000) (hy : 0 ≤ y ∧ y ≤ 100000) (hk : 0 ≤ k ∧ k ≤ 20) : Calls Try.prog 40 #[.int .i64 n, .int .i64 y, .int .i64 k] w fun e w' => e = .returned (.bool (decide (k < apV n y))) ∧ w = w' := by
  by_cases h : k < n - y
  · have e : decide (k < apV n y) = true := decide_eq_true (by unfold apV; split <;> omega)
    rw [e]
    go_enter Try.func40, Try.ntmps40
    go_wp2
    go_ret
    exact ⟨rfl, rfl⟩
  · have e : decide (k < apV n y) = decide (k < y - n) := by rw [decide_eq_decide]; unfold apV; split <;> omega
    rw [e]
    clear e
    go_enter Try.func40, Try.ntmps40
    go_wp2
    go_ret
    exact ⟨rfl, rfl⟩

/-- Why an Auth is not taken, whatever room there is. -/
def cdV (q : Int) (xs : List A3) (x y z n k : Int) : Int :=
  if aOk x y z && moB n k then (if k < apV n y then 2 else if n ≤ q then 3 else if (x, y, z) ∈ xs then 4 else 0) else 1
set_option maxRecDepth 100000 in
set_option maxHeartbeats 3200000 in
theorem check_is (q : Int) (a : Option Addr) (cap : Nat) (xs : List A3) (x y z n k : Int) (w : World) (hr : ARow w a xs) (hl : xs.length ≤ 6) (hin : ∀ p ∈ xs, I3 p) :
    Calls Try.prog 33 #[cv q a xs.length cap, av x y z, .int .i64 n, .int .i64 k] w fun e w' => e = .returned (.int .i64 (cdV q xs x y z n k)) ∧ Below w.heap.size w w' := by
  obtain ⟨W, hW⟩ : ∃ W, (w.alloc (.cells #[.int .i64 q, .slice a xs.length cap] 26)).alloc (.cells #[.int .i64 x, .int .i64 y, .int .i64 z] 28) = W := ⟨_, rfl⟩
  have BW : Below w.heap.size w W := by rw [← hW]; exact ((Below.refl _ _).alloc (Nat.le_refl _) _).alloc (by simp) _
  have T0 : Blk w.heap.size [.int .i64 q, .slice a xs.length cap] W := by rw [← hW]; exact (Blk.new _ _ _).alloc (by simp) _
  have T1 : Blk (w.heap.size + 1) [.int .i64 x, .int .i64 y, .int .i64 z] W := by rw [← hW]; have h := Blk.new (w.alloc (.cells #[.int .i64 q, .slice a xs.length cap] 26)) #[.int .i64 x, .int .i64 y, .int .i64 z] 28; rw [World.size_alloc] at h; exact h
  have HA := authOk_is x y z W
  have HM := fun W => moment_is n k W
  have c0 := T1.at 0 rfl
  have c1 := T1.at 1 rfl
  have c2 := T1.at 2 rfl
  by_cases hA : aOk x y z = true
  · rw [hA] at HA
    by_cases hm : moB n k = true
    · rw [hm] at HM
      obtain ⟨hn, hk⟩ := moB_iff.1 hm
      obtain ⟨hx, hy, hz⟩ := aOk_iff.1 hA
      have HP := fun W => apart_is n y W hn hy
      have ec : cdV q xs x y z n k = (if k < apV n y then 2 else if n ≤ q then 3 else if (x, y, z) ∈ xs then 4 else 0) := by unfold cdV; rw [hA, hm]; rfl
      have i0 : i64 x := by unfold i64; omega
      have i1 : i64 y := by unfold i64; omega
      have i2 : i64 z := by unfold i64; omega
      generalize apV n y = d at HP ec
      by_cases h2 : k < d
      · rw [if_pos h2] at ec
        rw [ec]
        go_enter Try.func33, Try.ntmps33
        go_wp2_with fail
        try rw [hW]
        refine HA.mono ?_
        clear HA hW c0 c1 c2
        rintro e w1 ⟨rfl, hb1⟩
        replace T0 := T0.later hb1 T0.lt
        replace T1 := T1.later hb1 T1.lt
        replace BW := BW.trans (hb1.mono BW.size)
        clear hb1
        go_wp2_with fail
        refine (HM _).mono ?_
        clear HM
        rintro e w2 ⟨rfl, rfl⟩
        have c1 := T1.at 1 rfl
        go_wp2_with fail
        refine (HP _).mono ?_
        clear HP
        rintro e w2 ⟨rfl, rfl⟩
        go_wp2
        go_ret
        exact ⟨rfl, BW⟩
      · rw [if_neg h2] at ec
        by_cases h3 : n ≤ q
        · rw [if_pos h3] at ec
          rw [ec]
          go_enter Try.func33, Try.ntmps33
          go_wp2_with fail
          try rw [hW]
          refine HA.mono ?_
          clear HA hW c0 c1 c2
          rintro e w1 ⟨rfl, hb1⟩
          replace T0 := T0.later hb1 T0.lt
          replace T1 := T1.later hb1 T1.lt
          replace BW := BW.trans (hb1.mono BW.size)
          clear hb1
          go_wp2_with fail
          refine (HM _).mono ?_
          clear HM
          rintro e w2 ⟨rfl, rfl⟩
          have c1 := T1.at 1 rfl
          go_wp2_with fail
          refine (HP _).mono ?_
          clear HP
          rintro e w2 ⟨rfl, rfl⟩
          have c0 := T0.at 0 rfl
          go_wp2
          go_ret
          exact ⟨rfl, BW⟩
        · rw [if_neg h3] at ec
          by_cases h4 : (x, y, z) ∈ xs
          · rw [if_pos h4] at ec
            rw [ec]
            go_enter Try.func33, Try.ntmps33
            go_wp2_with fail
            try rw [hW]
            refine HA.mono ?_
            clear HA hW c0 c1 c2
            rintro e w1 ⟨rfl, hb1⟩
            replace T0 := T0.later hb1 T0.lt
            replace T1 := T1.later hb1 T1.lt
            replace BW := BW.trans (hb1.mono BW.size)
            clear hb1
            go_wp2_with fail
            refine (HM _).mono ?_
            clear HM
            rintro e w2 ⟨rfl, rfl⟩
            have c1 := T1.at 1 rfl
            go_wp2_with fail
            refine (HP _).mono ?_
            clear HP
            rintro e w2 ⟨rfl, rfl⟩
            have c0 := T0.at 0 rfl
            have hrd : ARow w1.drew a xs := (hr.later BW).drew
            have BD := BW.drew
            go_wp2_with fail
            clear c0 c1
            refine wp_region_held_drew (S := (fun V : World => Blk w.heap.size [.int .i64 q, .slice a xs.length cap] V ∧ Blk (w.heap.size + 1) [.int .i64 x, .int .i64 y, .int .i64 z] V)) (by kernel_rfl) ⟨T0.drew, T1.drew⟩ (fun hHeld => ?_)
            refine take_one 0 32 (v := ?_) rfl rfl (by kernel_rfl) (by kernel_rfl) (by kernel_rfl) (fun _ _ _ h => h) (Or.inl ⟨by rfl, ?_⟩) hHeld ?_
            rotate_left
            · intro w' hSw; (try dsimp only at hSw); have c0 := hSw.1.at 0 rfl; have c1 := hSw.1.at 1 rfl; have c2 := hSw.2.at 0 rfl; have c3 := hSw.2.at 1 rfl; have c4 := hSw.2.at 2 rfl; go_simp; try with_reducible rfl
            try simp only [Act.put, List.setIfInBounds_toArray, List.set_cons_zero, List.set_cons_succ]
            refine take_one 2 34 (v := ?_) rfl rfl (by kernel_rfl) (by kernel_rfl) (by kernel_rfl) (fun _ _ _ h => h) (Or.inl ⟨by rfl, ?_⟩) hHeld ?_
            rotate_left
            · intro w' hSw; (try dsimp only at hSw); have c0 := hSw.1.at 0 rfl; have c1 := hSw.1.at 1 rfl; have c2 := hSw.2.at 0 rfl; have c3 := hSw.2.at 1 rfl; have c4 := hSw.2.at 2 rfl; go_simp; try with_reducible rfl
            try simp only [Act.put, List.setIfInBounds_toArray, List.set_cons_zero, List.set_cons_succ]
            refine wpAnyH_ready (rs := [1]) (by kernel_rfl) (by simp) ?_
            refine AllReadyH.cons (i := 1) rfl (fun K hK => ?_) AllReadyH.nil
            go_simp
            refine (counts_is q a cap xs _ hrd hl hin).mono ?_
            rintro e w2 ⟨m, rfl, hM, hm, hb2⟩
            have KN : (fun V : World => Blk w.heap.size [.int .i64 q, .slice a xs.length cap] V ∧ Blk (w.heap.size + 1) [.int .i64 x, .int .i64 y, .int .i64 z] V) w2 := ⟨T0.drew.later hb2 T0.lt, T1.drew.later hb2 T1.lt⟩
            have BN := BD.trans (hb2.mono BD.size)
            have hlook := hM.look i0 i1 i2
            have hcnt : decide ((0 : Int) < ((xs.count (x, y, z) : Nat) : Int)) = decide ((x, y, z) ∈ xs) := by rw [decide_eq_decide, ← List.count_pos_iff]; omega
            generalize ((xs.count (x, y, z) : Nat) : Int) = cnt at hlook hcnt
            clear hM hb2 hrd
            go_wp2_with fail
            refine hK.out _ _ KN (fun hHeld2 => ?_)
            clear hK K hHeld
            have hHeld := hHeld2
            clear hHeld2
            try simp only [Act.put, List.setIfInBounds_toArray, List.set_cons_zero, List.set_cons_succ]
            refine wpAnyH_ready (rs := [3]) (by kernel_rfl) (by simp) ?_
            refine AllReadyH.cons (i := 3) rfl (fun K hK => ?_) AllReadyH.nil
            go_simp
            refine hK.out _ _ KN (fun hHeld2 => ?_)
            clear hK K hHeld
            have hHeld := hHeld2
            clear hHeld2
            try simp only [Act.put, List.setIfInBounds_toArray, List.set_cons_zero, List.set_cons_succ]
            refine take_one 4 36 (v := ?_) rfl rfl (by kernel_rfl) (by kernel_rfl) (by kernel_rfl) (fun _ _ _ h => h) (Or.inl ⟨by rfl, ?_⟩) hHeld ?_
            rotate_left
            · intro w' hSw; (try dsimp only at hSw); have c0 := hSw.1.at 0 rfl; have c1 := hSw.1.at 1 rfl; have c2 := hSw.2.at 0 rfl; have c3 := hSw.2.at 1 rfl; have c4 := hSw.2.at 2 rfl; go_simp; try with_reducible rfl
            try simp only [Act.put, List.setIfInBounds_toArray, List.set_cons_zero, List.set_cons_succ]
            refine take_one 5 31 (v := ?_) rfl rfl (by kernel_rfl) (by kernel_rfl) (by kernel_rfl) (fun _ _ _ h => h) (Or.inl ⟨by rfl, ?_⟩) hHeld ?_
            rotate_left
            · intro w' hSw; (try dsimp only at hSw); have c0 := hSw.1.at 0 rfl; have c1 := hSw.1.at 1 rfl; have c2 := hSw.2.at 0 rfl; have c3 := hSw.2.at 1 rfl; have c4 := hSw.2.at 2 rfl; go_simp; try with_reducible rfl
            try simp only [Act.put, List.setIfInBounds_toArray, List.set_cons_zero, List.set_cons_succ]
            refine wpAnyH_done (by kernel_rfl) ?_ _
            clear hHeld
            rw [decide_eq_true h4] at hcnt
            go_wp2
            go_ret
            exact ⟨rfl, BN⟩
          · rw [if_neg h4] at ec
            rw [ec]
            go_enter Try.func33, Try.ntmps33
            go_wp2_with fail
            try rw [hW]
            refine HA.mono ?_
            clear HA hW c0 c1 c2
            rintro e w1 ⟨rfl, hb1⟩
            replace T0 := T0.later hb1 T0.lt
            replace T1 := T1.later hb1 T1.lt
            replace BW := BW.trans (hb1.mono BW.size)
            clear hb1
            go_wp2_with fail
            refine (HM _).mono ?_
            clear HM
            rintro e w2 ⟨rfl, rfl⟩
            have c1 := T1.at 1 rfl
            go_wp2_with fail
            refine (HP _).mono ?_
            clear HP
            rintro e w2 ⟨rfl, rfl⟩
            have c0 := T0.at 0 rfl
            have hrd : ARow w1.drew a xs := (hr.later BW).drew
            have BD := BW.drew
            go_wp2_with fail
            clear c0 c1
            refine wp_region_held_drew (S := (fun V : World => Blk w.heap.size [.int .i64 q, .slice a xs.length cap] V ∧ Blk (w.heap.size + 1) [.int .i64 x, .int .i64 y, .int .i64 z] V)) (by kernel_rfl) ⟨T0.drew, T1.drew⟩ (fun hHeld => ?_)
            refine take_one 0 32 (v := ?_) rfl rfl (by kernel_rfl) (by kernel_rfl) (by kernel_rfl) (fun _ _ _ h => h) (Or.inl ⟨by rfl, ?_⟩) hHeld ?_
            rotate_left
            · intro w' hSw; (try dsimp only at hSw); have c0 := hSw.1.at 0 rfl; have c1 := hSw.1.at 1 rfl; have c2 := hSw.2.at 0 rfl; have c3 := hSw.2.at 1 rfl; have c4 := hSw.2.at 2 rfl; go_simp; try with_reducible rfl
            try simp only [Act.put, List.setIfInBounds_toArray, List.set_cons_zero, List.set_cons_succ]
            refine take_one 2 34 (v := ?_) rfl rfl (by kernel_rfl) (by kernel_rfl) (by kernel_rfl) (fun _ _ _ h => h) (Or.inl ⟨by rfl, ?_⟩) hHeld ?_
            rotate_left
            · intro w' hSw; (try dsimp only at hSw); have c0 := hSw.1.at 0 rfl; have c1 := hSw.1.at 1 rfl; have c2 := hSw.2.at 0 rfl; have c3 := hSw.2.at 1 rfl; have c4 := hSw.2.at 2 rfl; go_simp; try with_reducible rfl
            try simp only [Act.put, List.setIfInBounds_toArray, List.set_cons_zero, List.set_cons_succ]
            refine wpAnyH_ready (rs := [1]) (by kernel_rfl) (by simp) ?_
            refine AllReadyH.cons (i := 1) rfl (fun K hK => ?_) AllReadyH.nil
            go_simp
            refine (counts_is q a cap xs _ hrd hl hin).mono ?_
            rintro e w2 ⟨m, rfl, hM, hm, hb2⟩
            have KN : (fun V : World => Blk w.heap.size [.int .i64 q, .slice a xs.length cap] V ∧ Blk (w.heap.size + 1) [.int .i64 x, .int .i64 y, .int .i64 z] V) w2 := ⟨T0.drew.later hb2 T0.lt, T1.drew.later hb2 T1.lt⟩
            have BN := BD.trans (hb2.mono BD.size)
            have hlook := hM.look i0 i1 i2
            have hcnt : decide ((0 : Int) < ((xs.count (x, y, z) : Nat) : Int)) = decide ((x, y, z) ∈ xs) := by rw [decide_eq_decide, ← List.count_pos_iff]; omega
            generalize ((xs.count (x, y, z) : Nat) : Int) = cnt at hlook hcnt
            clear hM hb2 hrd
            go_wp2_with fail
            refine hK.out _ _ KN (fun hHeld2 => ?_)
            clear hK K hHeld
            have hHeld := hHeld2
            clear hHeld2
            try simp only [Act.put, List.setIfInBounds_toArray, List.set_cons_zero, List.set_cons_succ]
            refine wpAnyH_ready (rs := [3]) (by kernel_rfl) (by simp) ?_
            refine AllReadyH.cons (i := 3) rfl (fun K hK => ?_) AllReadyH.nil
            go_simp
            refine hK.out _ _ KN (fun hHeld2 => ?_)
            clear hK K hHeld
            have hHeld := hHeld2
            clear hHeld2
            try simp only [Act.put, List.setIfInBounds_toArray, List.set_cons_zero, List.set_cons_succ]
            refine take_one 4 36 (v := ?_) rfl rfl (by kernel_rfl) (by kernel_rfl) (by kernel_rfl) (fun _ _ _ h => h) (Or.inl ⟨by rfl, ?_⟩) hHeld ?_
            rotate_left
            · intro w' hSw; (try dsimp only at hSw); have c0 := hSw.1.at 0 rfl; have c1 := hSw.1.at 1 rfl; have c2 := hSw.2.at 0 rfl; have c3 := hSw.2.at 1 rfl; have c4 := hSw.2.at 2 rfl; go_simp; try with_reducible rfl
            try simp only [Act.put, List.setIfInBounds_toArray, List.set_cons_zero, List.set_cons_succ]
            refine take_one 5 31 (v := ?_) rfl rfl (by kernel_rfl) (by kernel_rfl) (by kernel_rfl) (fun _ _ _ h => h) (Or.inl ⟨by rfl, ?_⟩) hHeld ?_
            rotate_left
            · intro w' hSw; (try dsimp only at hSw); have c0 := hSw.1.at 0 rfl; have c1 := hSw.1.at 1 rfl; have c2 := hSw.2.at 0 rfl; have c3 := hSw.2.at 1 rfl; have c4 := hSw.2.at 2 rfl; go_simp; try with_reducible rfl
            try simp only [Act.put, List.setIfInBounds_toArray, List.set_cons_zero, List.set_cons_succ]
            refine wpAnyH_done (by kernel_rfl) ?_ _
            clear hHeld
            rw [decide_eq_false h4] at hcnt
            go_wp2
            go_ret
            exact ⟨rfl, BN⟩
    · rw [Bool.not_eq_true] at hm
      rw [hm] at HM
      have ec : cdV q xs x y z n k = 1 := by unfold cdV; rw [hA, hm]; rfl
      rw [ec]
      go_enter Try.func33, Try.ntmps33
      go_wp2_with fail
      try rw [hW]
      refine HA.mono ?_
      clear HA hW c0 c1 c2
      rintro e w1 ⟨rfl, hb1⟩
      replace BW := BW.trans (hb1.mono BW.size)
      clear hb1
      go_wp2_with fail
      refine (HM _).mono ?_
      clear HM
      rintro e w2 ⟨rfl, rfl⟩
      go_wp2
      go_ret
      exact ⟨rfl, BW⟩
  · rw [Bool.not_eq_true] at hA
    rw [hA] at HA
    have ec : cdV q xs x y z n k = 1 := by unfold cdV; rw [hA]; rfl
    rw [ec]
    go_enter Try.func33, Try.ntmps33
    go_wp2_with fail
    try rw [hW]
    refine HA.mono ?_
    clear HA hW c0 c1 c2
    rintro e w1 ⟨rfl, hb1⟩
    replace BW := BW.trans (hb1.mono BW.size)
    clear hb1
    go_wp2
    go_ret
    exact ⟨rfl, BW⟩
end Go.Proofs.Ytmiceknaipimiaa
