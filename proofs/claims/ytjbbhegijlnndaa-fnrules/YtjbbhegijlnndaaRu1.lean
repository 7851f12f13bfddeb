/- RulesOk of the program and the model. -/
import Derived.Test.YtjbbhegijlnndaaRu0
import Derived.BigQuiet
set_option linter.unusedVariables false
set_option maxRecDepth 100000
namespace Go.Proofs.Ytjbbhegijlnndaa.Nd
open Go Go.RowKit Go.Joins Own Draw

set_option maxHeartbeats 3200000 in
theorem rises_is (a : Option Addr) (cap : Nat) (xs : List Int) (w : World) (hr : RowAt (Value.int .i64) w a xs) (hl : xs.length ≤ 1048576) :
    Calls Try.prog 96 #[.slice a xs.length cap, .int .i64 30] w fun e w' => e = .returned (.bool (riB (-1) xs)) ∧ w = w' := by
  go_enter Try.func96, Try.ntmps96
  go_wp2
  go_loopw [5, 10] (fun lv iv wr => ∃ (j : Nat) (l : Int), j ≤ xs.length ∧ iv = .int .i64 j ∧ lv = .int .i64 l ∧ Hid (riB l (xs.drop j) = riB (-1) xs) ∧ w = wr) (fun _ iv _ => xs.length - (intOf iv).toNat)
  case atStart => exact ⟨0, -1, Nat.zero_le _, rfl, rfl, rfl, rfl⟩
  case round =>
    obtain ⟨j, l, hj, rfl, rfl, HR, rfl⟩ := hrel
    by_cases hlt : j < xs.length
    · obtain ⟨b, off, rfl, hb, c0⟩ := hr j hlt
      have hlt2 : (j : Int) < (xs.length : Int) := by omega
      have hst := ri_step (l := l) hlt rfl
      generalize xs[j] = x at c0 hst
      by_cases h1 : x ≤ l
      · have HV : Hid (riB (-1) xs = false) := by
          show _ = _
          rw [← HR.out, hst]
          simp [show ¬ l < x by omega]
        clear hst HR
        go_wp2
        go_ret
        exact ⟨by rw [HV.out]; rfl, rfl⟩
      · by_cases h2 : x ≤ 30
        · have h3 : ¬ (30 < x) := by omega
          have HV : Hid (riB x (xs.drop (j + 1)) = riB (-1) xs) := by
            show _ = _
            rw [← HR.out, hst]
            simp [show l < x by omega, h2]
          clear hst HR
          go_wp2
          go_roundw
          case rel => exact ⟨j + 1, x, by omega, by go_num, rfl, HV, trivial⟩
          case measure => simp [intOf]; omega
        · have h3 : 30 < x := by omega
          have HV : Hid (riB (-1) xs = false) := by
            show _ = _
            rw [← HR.out, hst]
            simp [h2]
          clear hst HR
          go_wp2
          go_ret
          exact ⟨by rw [HV.out]; rfl, rfl⟩
    · obtain rfl : j = xs.length := by omega
      have HV : Hid (riB (-1) xs = true) := by show _ = _; rw [← HR.out, ri_end]
      clear HR
      have hlt2 : ¬ (xs.length : Int) < (xs.length : Int) := by omega
      go_wp2
      go_ret
      exact ⟨by rw [HV.out]; rfl, rfl⟩
theorem within_is (n g : Int) (w : World) : Calls Try.prog 97 #[.int .i64 n, .int .i64 g] w fun e w' => e = .returned (.bool (btw n 0 g)) ∧ w = w' := by
  by_cases h0 : 0 ≤ n
  · by_cases h1 : n ≤ g
    · go_enter Try.func97, Try.ntmps97
      go_wp2
      go_ret
      exact ⟨by simp [btw, h0, h1], rfl⟩
    · go_enter Try.func97, Try.ntmps97
      go_wp2
      go_ret
      exact ⟨by simp [btw, h0, h1], rfl⟩
  · go_enter Try.func97, Try.ntmps97
    go_wp2
    go_ret
    exact ⟨by simp [btw]; omega, rfl⟩
set_option maxHeartbeats 3200000 in
theorem specSet_is (a : Option Addr) (cap : Nat) (xs : List Int) (w : World) (hr : RowAt (Value.int .i64) w a xs) (hl : xs.length ≤ 1048576) :
    Calls Try.prog 86 #[.slice a xs.length cap] w fun e w' => e = .returned (.bool (riB (-1) xs)) ∧ Below w.heap.size w w' := by
  go_enter Try.func86, Try.ntmps86
  go_wp2
  go_loopw [3] (fun iv wr => ∃ (j : Nat) (l : Int), j ≤ xs.length ∧ iv = .int .i64 j ∧ -1 ≤ l ∧ (j = 0 → l = -1) ∧ Hid (∀ h : j - 1 < xs.length, 0 < j → xs[j - 1] = l) ∧ Hid (riB l (xs.drop j) = riB (-1) xs) ∧ Below w.heap.size w wr) (fun iv _ => xs.length - (intOf iv).toNat)
  case atStart => exact ⟨0, -1, Nat.zero_le _, rfl, by omega, fun _ => rfl, fun _ h => absurd h (by omega), rfl, Below.refl _ _⟩
  case round =>
    obtain ⟨j, l, hj, rfl, hm, h0, HL, HR, hB⟩ := hrel
    by_cases hlt : j < xs.length
    · obtain ⟨b, off, rfl, hb, c0⟩ := hr j hlt
      rw [← hB.cell (p := ⟨b, off + j, none⟩) hb] at c0
      have hlt2 : (j : Int) < (xs.length : Int) := by omega
      have hst := ri_step (l := l) hlt rfl
      have hlast : 0 < j → wr.cell? ⟨b, off + (j - 1), none⟩ = some (.int .i64 l) := fun h => by
        obtain ⟨b', off', e, hb', c1⟩ := hr (j - 1) (by omega)
        simp only [Option.some.injEq, Addr.mk.injEq, and_true] at e
        obtain ⟨rfl, rfl⟩ := e
        rw [HL.out (by omega) h] at c1
        exact (hB.cell (p := ⟨b, off + (j - 1), none⟩) hb).trans c1
      obtain ⟨x, hxe⟩ : ∃ x, xs[j] = x := ⟨_, rfl⟩
      rw [hxe] at c0 hst
      have HX : Hid (∀ h : j + 1 - 1 < xs.length, 0 < j + 1 → xs[j + 1 - 1] = x) := fun _ _ => hxe
      clear hxe
      by_cases h1 : 0 ≤ x ∧ x ≤ 30
      · have hin : (decide (0 ≤ x) && decide (x ≤ 30)) = true := by simp [h1.1, h1.2]
        by_cases hj0 : j = 0
        · have hl0 := h0 hj0
          subst hl0
          have HV : Hid (riB x (xs.drop (j + 1)) = riB (-1) xs) := by
            show _ = _
            rw [← HR.out, hst]
            simp [show -1 < x by omega, h1.2]
          have hjn : (j : Int) = 0 := by omega
          have hm2 : -1 ≤ x := by omega
          have hgt : ¬ (0 < (j : Int)) := by omega
          have hgt2 : decide ((0 : Int) < (j : Int)) = false := decide_eq_false hgt
          clear hst HR HL hlast h0 hj0 h1 hjn hm
          go_wp2_with fail
          refine wp_region_held_drew (S := (fun U : World => U.cell? ⟨b, off + j, none⟩ = some (.int .i64 x))) (by kernel_rfl) c0 (fun hHeld => ?_)
          refine take_one 0 10 (v := ?_) rfl rfl (by kernel_rfl) (by kernel_rfl) (by kernel_rfl) (fun _ _ _ h => h) (Or.inl ⟨by rfl, ?_⟩) hHeld ?_
          rotate_left
          · intro w' hSw; (try dsimp only at hSw); have y0 := hSw; go_simp; try with_reducible rfl
          try simp only [Act.put, List.setIfInBounds_toArray, List.set_cons_zero, List.set_cons_succ]
          refine take_one 1 11 (v := ?_) rfl rfl (by kernel_rfl) (by kernel_rfl) (by kernel_rfl) (fun _ _ _ h => h) (Or.inl ⟨by rfl, ?_⟩) hHeld ?_
          rotate_left
          · intro w' hSw; (try dsimp only at hSw); have y0 := hSw; go_simp; try with_reducible rfl
          try simp only [Act.put, List.setIfInBounds_toArray, List.set_cons_zero, List.set_cons_succ]
          refine take_one 2 12 (v := ?_) rfl rfl (by kernel_rfl) (by kernel_rfl) (by kernel_rfl) (fun _ _ _ h => h) (Or.inl ⟨by rfl, ?_⟩) hHeld ?_
          rotate_left
          · intro w' hSw; (try dsimp only at hSw); have y0 := hSw; go_simp; try with_reducible rfl
          try simp only [Act.put, List.setIfInBounds_toArray, List.set_cons_zero, List.set_cons_succ]
          refine take_one 3 13 (v := ?_) rfl rfl (by kernel_rfl) (by kernel_rfl) (by kernel_rfl) (fun _ _ _ h => h) (Or.inl ⟨by rfl, ?_⟩) hHeld ?_
          rotate_left
          · intro w' hSw; (try dsimp only at hSw); have y0 := hSw; go_simp; try with_reducible rfl
          try simp only [Act.put, List.setIfInBounds_toArray, List.set_cons_zero, List.set_cons_succ]
          refine wpAnyH_ready (rs := [4]) (by kernel_rfl) (by simp) ?_
          refine AllReadyH.cons (i := 4) rfl (fun K hK => ?_) AllReadyH.nil
          go_simp
          refine (in_is x 0 30 _).mono ?_
          rintro en w1 ⟨rfl, rfl⟩
          rw [hin]
          go_wp2_with fail
          refine hK.out _ _ hHeld (fun hHeld2 => ?_)
          clear hK K hHeld
          have hHeld := hHeld2
          clear hHeld2
          try simp only [Act.put, List.setIfInBounds_toArray, List.set_cons_zero, List.set_cons_succ]
          refine take_one 5 15 (v := ?_) rfl rfl (by kernel_rfl) (by kernel_rfl) (by kernel_rfl) (fun _ _ _ h => h) (Or.inl ⟨by rfl, ?_⟩) hHeld ?_
          rotate_left
          · intro w' hSw; (try dsimp only at hSw); have y0 := hSw; go_simp; try with_reducible rfl
          try simp only [Act.put, List.setIfInBounds_toArray, List.set_cons_zero, List.set_cons_succ]
          refine take_one 6 16 (v := ?_) rfl rfl (by kernel_rfl) (by kernel_rfl) (by kernel_rfl) (fun _ _ _ h => h) (Or.inl ⟨by rfl, ?_⟩) hHeld ?_
          rotate_left
          · intro w' hSw; (try dsimp only at hSw); have y0 := hSw; go_simp; try with_reducible rfl
          try simp only [Act.put, List.setIfInBounds_toArray, List.set_cons_zero, List.set_cons_succ]
          refine take_one 7 17 (v := ?_) rfl rfl (by kernel_rfl) (by kernel_rfl) (by kernel_rfl) (fun _ _ _ h => h) (Or.inl ⟨by rfl, ?_⟩) hHeld ?_
          rotate_left
          · intro w' hSw; (try dsimp only at hSw); have y0 := hSw; go_simp; try with_reducible rfl
          try simp only [Act.put, List.setIfInBounds_toArray, List.set_cons_zero, List.set_cons_succ]
          refine take_one 8 18 (v := (.bool false)) rfl rfl (by kernel_rfl) (by kernel_rfl) (by kernel_rfl) (fun _ _ _ h => h) (Or.inl ⟨by rfl, ?_⟩) hHeld ?_
          · intro w' hSw; (try dsimp only at hSw); go_simp; first | done | omega
          try simp only [Act.put, List.setIfInBounds_toArray, List.set_cons_zero, List.set_cons_succ]
          refine take_one 9 19 (v := ?_) rfl rfl (by kernel_rfl) (by kernel_rfl) (by kernel_rfl) (fun _ _ _ h => h) (Or.inl ⟨by rfl, ?_⟩) hHeld ?_
          rotate_left
          · intro w' hSw; (try dsimp only at hSw); have y0 := hSw; go_simp; try with_reducible rfl
          try simp only [Act.put, List.setIfInBounds_toArray, List.set_cons_zero, List.set_cons_succ]
          refine skip_one 10 20 rfl rfl (by kernel_rfl) (by kernel_rfl) (by kernel_rfl) (fun _ _ _ h => h) (unwanted (c := false) rfl rfl (by simp) rfl) hHeld ?_
          try simp only [Act.put, List.setIfInBounds_toArray, List.set_cons_zero, List.set_cons_succ]
          refine skip_one 11 21 rfl rfl (by kernel_rfl) (by kernel_rfl) (by kernel_rfl) (fun _ _ _ h => h) (unwanted (c := false) rfl rfl (by simp) rfl) hHeld ?_
          try simp only [Act.put, List.setIfInBounds_toArray, List.set_cons_zero, List.set_cons_succ]
          refine skip_one 12 22 rfl rfl (by kernel_rfl) (by kernel_rfl) (by kernel_rfl) (fun _ _ _ h => h) (unwanted (c := false) rfl rfl (by simp) rfl) hHeld ?_
          try simp only [Act.put, List.setIfInBounds_toArray, List.set_cons_zero, List.set_cons_succ]
          refine skip_one 13 23 rfl rfl (by kernel_rfl) (by kernel_rfl) (by kernel_rfl) (fun _ _ _ h => h) (unwanted (c := false) rfl rfl (by simp) rfl) hHeld ?_
          try simp only [Act.put, List.setIfInBounds_toArray, List.set_cons_zero, List.set_cons_succ]
          refine skip_one 14 24 rfl rfl (by kernel_rfl) (by kernel_rfl) (by kernel_rfl) (fun _ _ _ h => h) (unwanted (c := false) rfl rfl (by simp) rfl) hHeld ?_
          try simp only [Act.put, List.setIfInBounds_toArray, List.set_cons_zero, List.set_cons_succ]
          refine skip_one 15 25 rfl rfl (by kernel_rfl) (by kernel_rfl) (by kernel_rfl) (fun _ _ _ h => h) (unwanted (c := false) rfl rfl (by simp) rfl) hHeld ?_
          try simp only [Act.put, List.setIfInBounds_toArray, List.set_cons_zero, List.set_cons_succ]
          refine skip_one 16 26 rfl rfl (by kernel_rfl) (by kernel_rfl) (by kernel_rfl) (fun _ _ _ h => h) (unwanted (c := false) rfl rfl (by simp) rfl) hHeld ?_
          try simp only [Act.put, List.setIfInBounds_toArray, List.set_cons_zero, List.set_cons_succ]
          refine skip_one 17 27 rfl rfl (by kernel_rfl) (by kernel_rfl) (by kernel_rfl) (fun _ _ _ h => h) (unwanted (c := false) rfl rfl (by simp) rfl) hHeld ?_
          try simp only [Act.put, List.setIfInBounds_toArray, List.set_cons_zero, List.set_cons_succ]
          refine skip_one 18 28 rfl rfl (by kernel_rfl) (by kernel_rfl) (by kernel_rfl) (fun _ _ _ h => h) (unwanted (c := false) rfl rfl (by simp) rfl) hHeld ?_
          try simp only [Act.put, List.setIfInBounds_toArray, List.set_cons_zero, List.set_cons_succ]
          refine skip_one 19 29 rfl rfl (by kernel_rfl) (by kernel_rfl) (by kernel_rfl) (fun _ _ _ h => h) (unwanted (c := false) rfl rfl (by simp) rfl) hHeld ?_
          try simp only [Act.put, List.setIfInBounds_toArray, List.set_cons_zero, List.set_cons_succ]
          refine take_one 20 30 (v := ?_) rfl rfl (by kernel_rfl) (by kernel_rfl) (by kernel_rfl) (fun _ _ _ h => h) (Or.inl ⟨by rfl, ?_⟩) hHeld ?_
          rotate_left
          · intro w' hSw; (try dsimp only at hSw); have y0 := hSw; go_simp; try with_reducible rfl
          try simp only [Act.put, List.setIfInBounds_toArray, List.set_cons_zero, List.set_cons_succ]
          refine take_one 21 31 (v := ?_) rfl rfl (by kernel_rfl) (by kernel_rfl) (by kernel_rfl) (fun _ _ _ h => h) (Or.inl ⟨by rfl, ?_⟩) hHeld ?_
          rotate_left
          · intro w' hSw; (try dsimp only at hSw); have y0 := hSw; go_simp; try with_reducible rfl
          try simp only [Act.put, List.setIfInBounds_toArray, List.set_cons_zero, List.set_cons_succ]
          refine wpAnyH_done (by kernel_rfl) ?_ _
          go_wp2
          go_roundw
          case rel => exact ⟨j + 1, x, by omega, by go_num, hm2, fun h => absurd h (by omega), HX, HV, by first | exact hB.drew | exact hB⟩
          case measure => simp [intOf]; omega
        · have hjp : 0 < j := by omega
          have c1 := hlast hjp
          have hgt : 0 < (j : Int) := by omega
          have hgt2 : decide ((0 : Int) < (j : Int)) = true := decide_eq_true hgt
          have hj1 : ((j - 1 : Nat) : Int) = (j : Int) - 1 := by omega
          have hw1 : IntKind.i64.wrap ((j : Int) - 1) = ((j - 1 : Nat) : Int) := by rw [hj1]; exact (IntWalk.i64_left _).trans (IntWalk.wrap64_in _ (by omega))
          by_cases h2 : x ≤ l
          · have HV : Hid (riB (-1) xs = false) := by
              show _ = _
              rw [← HR.out, hst]
              simp [show ¬ l < x by omega]
            clear hst HR HL hlast h0 hj0 h1 hm HX
            obtain ⟨y, hy⟩ : ∃ y, l = y := ⟨_, rfl⟩
            rw [hy] at c1 h2
            clear hy
            go_wp2_with fail
            refine wp_region_held_drew (S := (fun U : World => U.cell? ⟨b, off + j, none⟩ = some (.int .i64 x) ∧ U.cell? ⟨b, off + (j - 1), none⟩ = some (.int .i64 y))) (by kernel_rfl) ⟨c0, c1⟩ (fun hHeld => ?_)
            refine take_one 0 10 (v := ?_) rfl rfl (by kernel_rfl) (by kernel_rfl) (by kernel_rfl) (fun _ _ _ h => h) (Or.inl ⟨by rfl, ?_⟩) hHeld ?_
            rotate_left
            · intro w' hSw; (try dsimp only at hSw); have y0 := hSw.1; have y1 := hSw.2; go_simp; try with_reducible rfl
            try simp only [Act.put, List.setIfInBounds_toArray, List.set_cons_zero, List.set_cons_succ]
            refine take_one 1 11 (v := ?_) rfl rfl (by kernel_rfl) (by kernel_rfl) (by kernel_rfl) (fun _ _ _ h => h) (Or.inl ⟨by rfl, ?_⟩) hHeld ?_
            rotate_left
            · intro w' hSw; (try dsimp only at hSw); have y0 := hSw.1; have y1 := hSw.2; go_simp; try with_reducible rfl
            try simp only [Act.put, List.setIfInBounds_toArray, List.set_cons_zero, List.set_cons_succ]
            refine take_one 2 12 (v := ?_) rfl rfl (by kernel_rfl) (by kernel_rfl) (by kernel_rfl) (fun _ _ _ h => h) (Or.inl ⟨by rfl, ?_⟩) hHeld ?_
            rotate_left
            · intro w' hSw; (try dsimp only at hSw); have y0 := hSw.1; have y1 := hSw.2; go_simp; try with_reducible rfl
            try simp only [Act.put, List.setIfInBounds_toArray, List.set_cons_zero, List.set_cons_succ]
            refine take_one 3 13 (v := ?_) rfl rfl (by kernel_rfl) (by kernel_rfl) (by kernel_rfl) (fun _ _ _ h => h) (Or.inl ⟨by rfl, ?_⟩) hHeld ?_
            rotate_left
            · intro w' hSw; (try dsimp only at hSw); have y0 := hSw.1; have y1 := hSw.2; go_simp; try with_reducible rfl
            try simp only [Act.put, List.setIfInBounds_toArray, List.set_cons_zero, List.set_cons_succ]
            refine wpAnyH_ready (rs := [4]) (by kernel_rfl) (by simp) ?_
            refine AllReadyH.cons (i := 4) rfl (fun K hK => ?_) AllReadyH.nil
            go_simp
            refine (in_is x 0 30 _).mono ?_
            rintro en w1 ⟨rfl, rfl⟩
            rw [hin]
            go_wp2_with fail
            refine hK.out _ _ hHeld (fun hHeld2 => ?_)
            clear hK K hHeld
            have hHeld := hHeld2
            clear hHeld2
            try simp only [Act.put, List.setIfInBounds_toArray, List.set_cons_zero, List.set_cons_succ]
            refine take_one 5 15 (v := ?_) rfl rfl (by kernel_rfl) (by kernel_rfl) (by kernel_rfl) (fun _ _ _ h => h) (Or.inl ⟨by rfl, ?_⟩) hHeld ?_
            rotate_left
            · intro w' hSw; (try dsimp only at hSw); have y0 := hSw.1; have y1 := hSw.2; go_simp; try with_reducible rfl
            try simp only [Act.put, List.setIfInBounds_toArray, List.set_cons_zero, List.set_cons_succ]
            refine take_one 6 16 (v := ?_) rfl rfl (by kernel_rfl) (by kernel_rfl) (by kernel_rfl) (fun _ _ _ h => h) (Or.inl ⟨by rfl, ?_⟩) hHeld ?_
            rotate_left
            · intro w' hSw; (try dsimp only at hSw); have y0 := hSw.1; have y1 := hSw.2; go_simp; try with_reducible rfl
            try simp only [Act.put, List.setIfInBounds_toArray, List.set_cons_zero, List.set_cons_succ]
            refine take_one 7 17 (v := ?_) rfl rfl (by kernel_rfl) (by kernel_rfl) (by kernel_rfl) (fun _ _ _ h => h) (Or.inl ⟨by rfl, ?_⟩) hHeld ?_
            rotate_left
            · intro w' hSw; (try dsimp only at hSw); have y0 := hSw.1; have y1 := hSw.2; go_simp; try with_reducible rfl
            try simp only [Act.put, List.setIfInBounds_toArray, List.set_cons_zero, List.set_cons_succ]
            refine take_one 8 18 (v := (.bool true)) rfl rfl (by kernel_rfl) (by kernel_rfl) (by kernel_rfl) (fun _ _ _ h => h) (Or.inl ⟨by rfl, ?_⟩) hHeld ?_
            · intro w' hSw; (try dsimp only at hSw); go_simp; first | done | omega
            try simp only [Act.put, List.setIfInBounds_toArray, List.set_cons_zero, List.set_cons_succ]
            refine take_one 9 19 (v := ?_) rfl rfl (by kernel_rfl) (by kernel_rfl) (by kernel_rfl) (fun _ _ _ h => h) (Or.inl ⟨by rfl, ?_⟩) hHeld ?_
            rotate_left
            · intro w' hSw; (try dsimp only at hSw); have y0 := hSw.1; have y1 := hSw.2; go_simp; try with_reducible rfl
            try simp only [Act.put, List.setIfInBounds_toArray, List.set_cons_zero, List.set_cons_succ]
            refine take_one 10 20 (v := ?_) rfl rfl (by kernel_rfl) (by kernel_rfl) (by kernel_rfl) (fun _ _ _ h => h) (Or.inl ⟨by rfl, ?_⟩) hHeld ?_
            rotate_left
            · intro w' hSw; (try dsimp only at hSw); have y0 := hSw.1; have y1 := hSw.2; go_simp; try with_reducible rfl
            try simp only [Act.put, List.setIfInBounds_toArray, List.set_cons_zero, List.set_cons_succ]
            refine take_one 11 21 (v := ?_) rfl rfl (by kernel_rfl) (by kernel_rfl) (by kernel_rfl) (fun _ _ _ h => h) (Or.inl ⟨by rfl, ?_⟩) hHeld ?_
            rotate_left
            · intro w' hSw; (try dsimp only at hSw); have y0 := hSw.1; have y1 := hSw.2; go_simp; try with_reducible rfl
            try simp only [Act.put, List.setIfInBounds_toArray, List.set_cons_zero, List.set_cons_succ]
            refine take_one 12 22 (v := ?_) rfl rfl (by kernel_rfl) (by kernel_rfl) (by kernel_rfl) (fun _ _ _ h => h) (Or.inl ⟨by rfl, ?_⟩) hHeld ?_
            rotate_left
            · intro w' hSw; (try dsimp only at hSw); have y0 := hSw.1; have y1 := hSw.2; go_simp; try with_reducible rfl
            try simp only [Act.put, List.setIfInBounds_toArray, List.set_cons_zero, List.set_cons_succ]
            refine take_one 13 23 (v := (.pointer (some ⟨b, off + (j - 1), none⟩))) rfl rfl (by kernel_rfl) (by kernel_rfl) (by kernel_rfl) (fun _ _ _ h => h) (Or.inl ⟨by rfl, ?_⟩) hHeld ?_
            · intro w' hSw; (try dsimp only at hSw); go_simp; first | done | (intro hq; omega)
            try simp only [Act.put, List.setIfInBounds_toArray, List.set_cons_zero, List.set_cons_succ]
            refine take_one 14 24 (v := ?_) rfl rfl (by kernel_rfl) (by kernel_rfl) (by kernel_rfl) (fun _ _ _ h => h) (Or.inl ⟨by rfl, ?_⟩) hHeld ?_
            rotate_left
            · intro w' hSw; (try dsimp only at hSw); have y0 := hSw.1; have y1 := hSw.2; go_simp; try with_reducible rfl
            try simp only [Act.put, List.setIfInBounds_toArray, List.set_cons_zero, List.set_cons_succ]
            refine take_one 15 25 (v := ?_) rfl rfl (by kernel_rfl) (by kernel_rfl) (by kernel_rfl) (fun _ _ _ h => h) (Or.inl ⟨by rfl, ?_⟩) hHeld ?_
            rotate_left
            · intro w' hSw; (try dsimp only at hSw); have y0 := hSw.1; have y1 := hSw.2; go_simp; try with_reducible rfl
            try simp only [Act.put, List.setIfInBounds_toArray, List.set_cons_zero, List.set_cons_succ]
            refine take_one 16 26 (v := ?_) rfl rfl (by kernel_rfl) (by kernel_rfl) (by kernel_rfl) (fun _ _ _ h => h) (Or.inl ⟨by rfl, ?_⟩) hHeld ?_
            rotate_left
            · intro w' hSw; (try dsimp only at hSw); have y0 := hSw.1; have y1 := hSw.2; go_simp; try with_reducible rfl
            try simp only [Act.put, List.setIfInBounds_toArray, List.set_cons_zero, List.set_cons_succ]
            refine take_one 17 27 (v := ?_) rfl rfl (by kernel_rfl) (by kernel_rfl) (by kernel_rfl) (fun _ _ _ h => h) (Or.inl ⟨by rfl, ?_⟩) hHeld ?_
            rotate_left
            · intro w' hSw; (try dsimp only at hSw); have y0 := hSw.1; have y1 := hSw.2; go_simp; try with_reducible rfl
            try simp only [Act.put, List.setIfInBounds_toArray, List.set_cons_zero, List.set_cons_succ]
            refine take_one 18 28 (v := ?_) rfl rfl (by kernel_rfl) (by kernel_rfl) (by kernel_rfl) (fun _ _ _ h => h) (Or.inl ⟨by rfl, ?_⟩) hHeld ?_
            rotate_left
            · intro w' hSw; (try dsimp only at hSw); have y0 := hSw.1; have y1 := hSw.2; go_simp; try with_reducible rfl
            try simp only [Act.put, List.setIfInBounds_toArray, List.set_cons_zero, List.set_cons_succ]
            refine take_one 19 29 (v := ?_) rfl rfl (by kernel_rfl) (by kernel_rfl) (by kernel_rfl) (fun _ _ _ h => h) (Or.inl ⟨by rfl, ?_⟩) hHeld ?_
            rotate_left
            · intro w' hSw; (try dsimp only at hSw); have y0 := hSw.1; have y1 := hSw.2; go_simp; try with_reducible rfl
            try simp only [Act.put, List.setIfInBounds_toArray, List.set_cons_zero, List.set_cons_succ]
            refine take_one 20 30 (v := ?_) rfl rfl (by kernel_rfl) (by kernel_rfl) (by kernel_rfl) (fun _ _ _ h => h) (Or.inl ⟨by rfl, ?_⟩) hHeld ?_
            rotate_left
            · intro w' hSw; (try dsimp only at hSw); have y0 := hSw.1; have y1 := hSw.2; go_simp; try with_reducible rfl
            try simp only [Act.put, List.setIfInBounds_toArray, List.set_cons_zero, List.set_cons_succ]
            refine take_one 21 31 (v := ?_) rfl rfl (by kernel_rfl) (by kernel_rfl) (by kernel_rfl) (fun _ _ _ h => h) (Or.inl ⟨by rfl, ?_⟩) hHeld ?_
            rotate_left
            · intro w' hSw; (try dsimp only at hSw); have y0 := hSw.1; have y1 := hSw.2; go_simp; try with_reducible rfl
            try simp only [Act.put, List.setIfInBounds_toArray, List.set_cons_zero, List.set_cons_succ]
            refine wpAnyH_done (by kernel_rfl) ?_ _
            go_wp2
            go_ret
            exact ⟨by rw [HV.out]; rfl, by first | exact hB.drew | exact hB⟩
          · have HV : Hid (riB x (xs.drop (j + 1)) = riB (-1) xs) := by
              show _ = _
              rw [← HR.out, hst]
              simp [show l < x by omega, h1.2]
            have hm2 : -1 ≤ x := by omega
            clear hst HR HL hlast h0 hj0 h1 hm
            obtain ⟨y, hy⟩ : ∃ y, l = y := ⟨_, rfl⟩
            rw [hy] at c1 h2
            clear hy
            go_wp2_with fail
            refine wp_region_held_drew (S := (fun U : World => U.cell? ⟨b, off + j, none⟩ = some (.int .i64 x) ∧ U.cell? ⟨b, off + (j - 1), none⟩ = some (.int .i64 y))) (by kernel_rfl) ⟨c0, c1⟩ (fun hHeld => ?_)
            refine take_one 0 10 (v := ?_) rfl rfl (by kernel_rfl) (by kernel_rfl) (by kernel_rfl) (fun _ _ _ h => h) (Or.inl ⟨by rfl, ?_⟩) hHeld ?_
            rotate_left
            · intro w' hSw; (try dsimp only at hSw); have y0 := hSw.1; have y1 := hSw.2; go_simp; try with_reducible rfl
            try simp only [Act.put, List.setIfInBounds_toArray, List.set_cons_zero, List.set_cons_succ]
            refine take_one 1 11 (v := ?_) rfl rfl (by kernel_rfl) (by kernel_rfl) (by kernel_rfl) (fun _ _ _ h => h) (Or.inl ⟨by rfl, ?_⟩) hHeld ?_
            rotate_left
            · intro w' hSw; (try dsimp only at hSw); have y0 := hSw.1; have y1 := hSw.2; go_simp; try with_reducible rfl
            try simp only [Act.put, List.setIfInBounds_toArray, List.set_cons_zero, List.set_cons_succ]
            refine take_one 2 12 (v := ?_) rfl rfl (by kernel_rfl) (by kernel_rfl) (by kernel_rfl) (fun _ _ _ h => h) (Or.inl ⟨by rfl, ?_⟩) hHeld ?_
            rotate_left
            · intro w' hSw; (try dsimp only at hSw); have y0 := hSw.1; have y1 := hSw.2; go_simp; try with_reducible rfl
            try simp only [Act.put, List.setIfInBounds_toArray, List.set_cons_zero, List.set_cons_succ]
            refine take_one 3 13 (v := ?_) rfl rfl (by kernel_rfl) (by kernel_rfl) (by kernel_rfl) (fun _ _ _ h => h) (Or.inl ⟨by rfl, ?_⟩) hHeld ?_
            rotate_left
            · intro w' hSw; (try dsimp only at hSw); have y0 := hSw.1; have y1 := hSw.2; go_simp; try with_reducible rfl
            try simp only [Act.put, List.setIfInBounds_toArray, List.set_cons_zero, List.set_cons_succ]
            refine wpAnyH_ready (rs := [4]) (by kernel_rfl) (by simp) ?_
            refine AllReadyH.cons (i := 4) rfl (fun K hK => ?_) AllReadyH.nil
            go_simp
            refine (in_is x 0 30 _).mono ?_
            rintro en w1 ⟨rfl, rfl⟩
            rw [hin]
            go_wp2_with fail
            refine hK.out _ _ hHeld (fun hHeld2 => ?_)
            clear hK K hHeld
            have hHeld := hHeld2
            clear hHeld2
            try simp only [Act.put, List.setIfInBounds_toArray, List.set_cons_zero, List.set_cons_succ]
            refine take_one 5 15 (v := ?_) rfl rfl (by kernel_rfl) (by kernel_rfl) (by kernel_rfl) (fun _ _ _ h => h) (Or.inl ⟨by rfl, ?_⟩) hHeld ?_
            rotate_left
            · intro w' hSw; (try dsimp only at hSw); have y0 := hSw.1; have y1 := hSw.2; go_simp; try with_reducible rfl
            try simp only [Act.put, List.setIfInBounds_toArray, List.set_cons_zero, List.set_cons_succ]
            refine take_one 6 16 (v := ?_) rfl rfl (by kernel_rfl) (by kernel_rfl) (by kernel_rfl) (fun _ _ _ h => h) (Or.inl ⟨by rfl, ?_⟩) hHeld ?_
            rotate_left
            · intro w' hSw; (try dsimp only at hSw); have y0 := hSw.1; have y1 := hSw.2; go_simp; try with_reducible rfl
            try simp only [Act.put, List.setIfInBounds_toArray, List.set_cons_zero, List.set_cons_succ]
            refine take_one 7 17 (v := ?_) rfl rfl (by kernel_rfl) (by kernel_rfl) (by kernel_rfl) (fun _ _ _ h => h) (Or.inl ⟨by rfl, ?_⟩) hHeld ?_
            rotate_left
            · intro w' hSw; (try dsimp only at hSw); have y0 := hSw.1; have y1 := hSw.2; go_simp; try with_reducible rfl
            try simp only [Act.put, List.setIfInBounds_toArray, List.set_cons_zero, List.set_cons_succ]
            refine take_one 8 18 (v := (.bool true)) rfl rfl (by kernel_rfl) (by kernel_rfl) (by kernel_rfl) (fun _ _ _ h => h) (Or.inl ⟨by rfl, ?_⟩) hHeld ?_
            · intro w' hSw; (try dsimp only at hSw); go_simp; first | done | omega
            try simp only [Act.put, List.setIfInBounds_toArray, List.set_cons_zero, List.set_cons_succ]
            refine take_one 9 19 (v := ?_) rfl rfl (by kernel_rfl) (by kernel_rfl) (by kernel_rfl) (fun _ _ _ h => h) (Or.inl ⟨by rfl, ?_⟩) hHeld ?_
            rotate_left
            · intro w' hSw; (try dsimp only at hSw); have y0 := hSw.1; have y1 := hSw.2; go_simp; try with_reducible rfl
            try simp only [Act.put, List.setIfInBounds_toArray, List.set_cons_zero, List.set_cons_succ]
            refine take_one 10 20 (v := ?_) rfl rfl (by kernel_rfl) (by kernel_rfl) (by kernel_rfl) (fun _ _ _ h => h) (Or.inl ⟨by rfl, ?_⟩) hHeld ?_
            rotate_left
            · intro w' hSw; (try dsimp only at hSw); have y0 := hSw.1; have y1 := hSw.2; go_simp; try with_reducible rfl
            try simp only [Act.put, List.setIfInBounds_toArray, List.set_cons_zero, List.set_cons_succ]
            refine take_one 11 21 (v := ?_) rfl rfl (by kernel_rfl) (by kernel_rfl) (by kernel_rfl) (fun _ _ _ h => h) (Or.inl ⟨by rfl, ?_⟩) hHeld ?_
            rotate_left
            · intro w' hSw; (try dsimp only at hSw); have y0 := hSw.1; have y1 := hSw.2; go_simp; try with_reducible rfl
            try simp only [Act.put, List.setIfInBounds_toArray, List.set_cons_zero, List.set_cons_succ]
            refine take_one 12 22 (v := ?_) rfl rfl (by kernel_rfl) (by kernel_rfl) (by kernel_rfl) (fun _ _ _ h => h) (Or.inl ⟨by rfl, ?_⟩) hHeld ?_
            rotate_left
            · intro w' hSw; (try dsimp only at hSw); have y0 := hSw.1; have y1 := hSw.2; go_simp; try with_reducible rfl
            try simp only [Act.put, List.setIfInBounds_toArray, List.set_cons_zero, List.set_cons_succ]
            refine take_one 13 23 (v := (.pointer (some ⟨b, off + (j - 1), none⟩))) rfl rfl (by kernel_rfl) (by kernel_rfl) (by kernel_rfl) (fun _ _ _ h => h) (Or.inl ⟨by rfl, ?_⟩) hHeld ?_
            · intro w' hSw; (try dsimp only at hSw); go_simp; first | done | (intro hq; omega)
            try simp only [Act.put, List.setIfInBounds_toArray, List.set_cons_zero, List.set_cons_succ]
            refine take_one 14 24 (v := ?_) rfl rfl (by kernel_rfl) (by kernel_rfl) (by kernel_rfl) (fun _ _ _ h => h) (Or.inl ⟨by rfl, ?_⟩) hHeld ?_
            rotate_left
            · intro w' hSw; (try dsimp only at hSw); have y0 := hSw.1; have y1 := hSw.2; go_simp; try with_reducible rfl
            try simp only [Act.put, List.setIfInBounds_toArray, List.set_cons_zero, List.set_cons_succ]
            refine take_one 15 25 (v := ?_) rfl rfl (by kernel_rfl) (by kernel_rfl) (by kernel_rfl) (fun _ _ _ h => h) (Or.inl ⟨by rfl, ?_⟩) hHeld ?_
            rotate_left
            · intro w' hSw; (try dsimp only at hSw); have y0 := hSw.1; have y1 := hSw.2; go_simp; try with_reducible rfl
            try simp only [Act.put, List.setIfInBounds_toArray, List.set_cons_zero, List.set_cons_succ]
            refine take_one 16 26 (v := ?_) rfl rfl (by kernel_rfl) (by kernel_rfl) (by kernel_rfl) (fun _ _ _ h => h) (Or.inl ⟨by rfl, ?_⟩) hHeld ?_
            rotate_left
            · intro w' hSw; (try dsimp only at hSw); have y0 := hSw.1; have y1 := hSw.2; go_simp; try with_reducible rfl
            try simp only [Act.put, List.setIfInBounds_toArray, List.set_cons_zero, List.set_cons_succ]
            refine take_one 17 27 (v := ?_) rfl rfl (by kernel_rfl) (by kernel_rfl) (by kernel_rfl) (fun _ _ _ h => h) (Or.inl ⟨by rfl, ?_⟩) hHeld ?_
            rotate_left
            · intro w' hSw; (try dsimp only at hSw); have y0 := hSw.1; have y1 := hSw.2; go_simp; try with_reducible rfl
            try simp only [Act.put, List.setIfInBounds_toArray, List.set_cons_zero, List.set_cons_succ]
            refine take_one 18 28 (v := ?_) rfl rfl (by kernel_rfl) (by kernel_rfl) (by kernel_rfl) (fun _ _ _ h => h) (Or.inl ⟨by rfl, ?_⟩) hHeld ?_
            rotate_left
            · intro w' hSw; (try dsimp only at hSw); have y0 := hSw.1; have y1 := hSw.2; go_simp; try with_reducible rfl
            try simp only [Act.put, List.setIfInBounds_toArray, List.set_cons_zero, List.set_cons_succ]
            refine take_one 19 29 (v := ?_) rfl rfl (by kernel_rfl) (by kernel_rfl) (by kernel_rfl) (fun _ _ _ h => h) (Or.inl ⟨by rfl, ?_⟩) hHeld ?_
            rotate_left
            · intro w' hSw; (try dsimp only at hSw); have y0 := hSw.1; have y1 := hSw.2; go_simp; try with_reducible rfl
            try simp only [Act.put, List.setIfInBounds_toArray, List.set_cons_zero, List.set_cons_succ]
            refine take_one 20 30 (v := ?_) rfl rfl (by kernel_rfl) (by kernel_rfl) (by kernel_rfl) (fun _ _ _ h => h) (Or.inl ⟨by rfl, ?_⟩) hHeld ?_
            rotate_left
            · intro w' hSw; (try dsimp only at hSw); have y0 := hSw.1; have y1 := hSw.2; go_simp; try with_reducible rfl
            try simp only [Act.put, List.setIfInBounds_toArray, List.set_cons_zero, List.set_cons_succ]
            refine take_one 21 31 (v := ?_) rfl rfl (by kernel_rfl) (by kernel_rfl) (by kernel_rfl) (fun _ _ _ h => h) (Or.inl ⟨by rfl, ?_⟩) hHeld ?_
            rotate_left
            · intro w' hSw; (try dsimp only at hSw); have y0 := hSw.1; have y1 := hSw.2; go_simp; try with_reducible rfl
            try simp only [Act.put, List.setIfInBounds_toArray, List.set_cons_zero, List.set_cons_succ]
            refine wpAnyH_done (by kernel_rfl) ?_ _
            go_wp2
            go_roundw
            case rel => exact ⟨j + 1, x, by omega, by go_num, hm2, fun h => absurd h (by omega), HX, HV, by first | exact hB.drew | exact hB⟩
            case measure => simp [intOf]; omega
      · have hin : (decide (0 ≤ x) && decide (x ≤ 30)) = false := by
          rw [Bool.and_eq_false_iff, decide_eq_false_iff_not, decide_eq_false_iff_not]
          omega
        have HV : Hid (riB (-1) xs = false) := by
          show _ = _
          rw [← HR.out, hst]
          rcases Decidable.em (l < x ∧ x ≤ 30) with h | h
          · exact absurd ⟨by omega, h.2⟩ h1
          · rw [show (decide (l < x) && decide (x ≤ 30)) = false by rw [Bool.and_eq_false_iff, decide_eq_false_iff_not, decide_eq_false_iff_not]; omega]; rfl
        clear hst HR HL hlast h0 h1 hm HX
        go_wp2_with fail
        refine wp_region_held_drew (S := (fun U : World => U.cell? ⟨b, off + j, none⟩ = some (.int .i64 x))) (by kernel_rfl) c0 (fun hHeld => ?_)
        refine take_one 0 10 (v := ?_) rfl rfl (by kernel_rfl) (by kernel_rfl) (by kernel_rfl) (fun _ _ _ h => h) (Or.inl ⟨by rfl, ?_⟩) hHeld ?_
        rotate_left
        · intro w' hSw; (try dsimp only at hSw); have y0 := hSw; go_simp; try with_reducible rfl
        try simp only [Act.put, List.setIfInBounds_toArray, List.set_cons_zero, List.set_cons_succ]
        refine take_one 1 11 (v := ?_) rfl rfl (by kernel_rfl) (by kernel_rfl) (by kernel_rfl) (fun _ _ _ h => h) (Or.inl ⟨by rfl, ?_⟩) hHeld ?_
        rotate_left
        · intro w' hSw; (try dsimp only at hSw); have y0 := hSw; go_simp; try with_reducible rfl
        try simp only [Act.put, List.setIfInBounds_toArray, List.set_cons_zero, List.set_cons_succ]
        refine take_one 2 12 (v := ?_) rfl rfl (by kernel_rfl) (by kernel_rfl) (by kernel_rfl) (fun _ _ _ h => h) (Or.inl ⟨by rfl, ?_⟩) hHeld ?_
        rotate_left
        · intro w' hSw; (try dsimp only at hSw); have y0 := hSw; go_simp; try with_reducible rfl
        try simp only [Act.put, List.setIfInBounds_toArray, List.set_cons_zero, List.set_cons_succ]
        refine take_one 3 13 (v := ?_) rfl rfl (by kernel_rfl) (by kernel_rfl) (by kernel_rfl) (fun _ _ _ h => h) (Or.inl ⟨by rfl, ?_⟩) hHeld ?_
        rotate_left
        · intro w' hSw; (try dsimp only at hSw); have y0 := hSw; go_simp; try with_reducible rfl
        try simp only [Act.put, List.setIfInBounds_toArray, List.set_cons_zero, List.set_cons_succ]
        refine wpAnyH_ready (rs := [4]) (by kernel_rfl) (by simp) ?_
        refine AllReadyH.cons (i := 4) rfl (fun K hK => ?_) AllReadyH.nil
        go_simp
        refine (in_is x 0 30 _).mono ?_
        rintro en w1 ⟨rfl, rfl⟩
        rw [hin]
        go_wp2_with fail
        refine hK.out _ _ hHeld (fun hHeld2 => ?_)
        clear hK K hHeld
        have hHeld := hHeld2
        clear hHeld2
        try simp only [Act.put, List.setIfInBounds_toArray, List.set_cons_zero, List.set_cons_succ]
        refine take_one 5 15 (v := ?_) rfl rfl (by kernel_rfl) (by kernel_rfl) (by kernel_rfl) (fun _ _ _ h => h) (Or.inl ⟨by rfl, ?_⟩) hHeld ?_
        rotate_left
        · intro w' hSw; (try dsimp only at hSw); have y0 := hSw; go_simp; try with_reducible rfl
        try simp only [Act.put, List.setIfInBounds_toArray, List.set_cons_zero, List.set_cons_succ]
        refine take_one 6 16 (v := ?_) rfl rfl (by kernel_rfl) (by kernel_rfl) (by kernel_rfl) (fun _ _ _ h => h) (Or.inl ⟨by rfl, ?_⟩) hHeld ?_
        rotate_left
        · intro w' hSw; (try dsimp only at hSw); have y0 := hSw; go_simp; try with_reducible rfl
        try simp only [Act.put, List.setIfInBounds_toArray, List.set_cons_zero, List.set_cons_succ]
        refine skip_one 7 17 rfl rfl (by kernel_rfl) (by kernel_rfl) (by kernel_rfl) (fun _ _ _ h => h) (unwanted (c := true) rfl rfl (by simp) rfl) hHeld ?_
        try simp only [Act.put, List.setIfInBounds_toArray, List.set_cons_zero, List.set_cons_succ]
        refine skip_one 8 18 rfl rfl (by kernel_rfl) (by kernel_rfl) (by kernel_rfl) (fun _ _ _ h => h) (unwanted (c := true) rfl rfl (by simp) rfl) hHeld ?_
        try simp only [Act.put, List.setIfInBounds_toArray, List.set_cons_zero, List.set_cons_succ]
        refine skip_one 9 19 rfl rfl (by kernel_rfl) (by kernel_rfl) (by kernel_rfl) (fun _ _ _ h => h) (unwanted (c := true) rfl rfl (by simp) rfl) hHeld ?_
        try simp only [Act.put, List.setIfInBounds_toArray, List.set_cons_zero, List.set_cons_succ]
        refine skip_one 10 20 rfl rfl (by kernel_rfl) (by kernel_rfl) (by kernel_rfl) (fun _ _ _ h => h) (unwanted_undef rfl rfl (by simp)) hHeld ?_
        try simp only [Act.put, List.setIfInBounds_toArray, List.set_cons_zero, List.set_cons_succ]
        refine skip_one 11 21 rfl rfl (by kernel_rfl) (by kernel_rfl) (by kernel_rfl) (fun _ _ _ h => h) (unwanted_undef rfl rfl (by simp)) hHeld ?_
        try simp only [Act.put, List.setIfInBounds_toArray, List.set_cons_zero, List.set_cons_succ]
        refine skip_one 12 22 rfl rfl (by kernel_rfl) (by kernel_rfl) (by kernel_rfl) (fun _ _ _ h => h) (unwanted_undef rfl rfl (by simp)) hHeld ?_
        try simp only [Act.put, List.setIfInBounds_toArray, List.set_cons_zero, List.set_cons_succ]
        refine skip_one 13 23 rfl rfl (by kernel_rfl) (by kernel_rfl) (by kernel_rfl) (fun _ _ _ h => h) (unwanted_undef rfl rfl (by simp)) hHeld ?_
        try simp only [Act.put, List.setIfInBounds_toArray, List.set_cons_zero, List.set_cons_succ]
        refine skip_one 14 24 rfl rfl (by kernel_rfl) (by kernel_rfl) (by kernel_rfl) (fun _ _ _ h => h) (unwanted_undef rfl rfl (by simp)) hHeld ?_
        try simp only [Act.put, List.setIfInBounds_toArray, List.set_cons_zero, List.set_cons_succ]
        refine skip_one 15 25 rfl rfl (by kernel_rfl) (by kernel_rfl) (by kernel_rfl) (fun _ _ _ h => h) (unwanted_undef rfl rfl (by simp)) hHeld ?_
        try simp only [Act.put, List.setIfInBounds_toArray, List.set_cons_zero, List.set_cons_succ]
        refine skip_one 16 26 rfl rfl (by kernel_rfl) (by kernel_rfl) (by kernel_rfl) (fun _ _ _ h => h) (unwanted_undef rfl rfl (by simp)) hHeld ?_
        try simp only [Act.put, List.setIfInBounds_toArray, List.set_cons_zero, List.set_cons_succ]
        refine skip_one 17 27 rfl rfl (by kernel_rfl) (by kernel_rfl) (by kernel_rfl) (fun _ _ _ h => h) (unwanted_undef rfl rfl (by simp)) hHeld ?_
        try simp only [Act.put, List.setIfInBounds_toArray, List.set_cons_zero, List.set_cons_succ]
        refine skip_one 18 28 rfl rfl (by kernel_rfl) (by kernel_rfl) (by kernel_rfl) (fun _ _ _ h => h) (unwanted_undef rfl rfl (by simp)) hHeld ?_
        try simp only [Act.put, List.setIfInBounds_toArray, List.set_cons_zero, List.set_cons_succ]
        refine skip_one 19 29 rfl rfl (by kernel_rfl) (by kernel_rfl) (by kernel_rfl) (fun _ _ _ h => h) (unwanted_undef rfl rfl (by simp)) hHeld ?_
        try simp only [Act.put, List.setIfInBounds_toArray, List.set_cons_zero, List.set_cons_succ]
        refine skip_one 20 30 rfl rfl (by kernel_rfl) (by kernel_rfl) (by kernel_rfl) (fun _ _ _ h => h) (unwanted (c := true) rfl rfl (by simp) rfl) hHeld ?_
        try simp only [Act.put, List.setIfInBounds_toArray, List.set_cons_zero, List.set_cons_succ]
        refine take_one 21 31 (v := ?_) rfl rfl (by kernel_rfl) (by kernel_rfl) (by kernel_rfl) (fun _ _ _ h => h) (Or.inl ⟨by rfl, ?_⟩) hHeld ?_
        rotate_left
        · intro w' hSw; (try dsimp only at hSw); have y0 := hSw; go_simp; try with_reducible rfl
        try simp only [Act.put, List.setIfInBounds_toArray, List.set_cons_zero, List.set_cons_succ]
        refine wpAnyH_done (by kernel_rfl) ?_ _
        go_wp2
        go_ret
        exact ⟨by rw [HV.out]; rfl, by first | exact hB.drew | exact hB⟩
    · obtain rfl : j = xs.length := by omega
      have HV : Hid (riB (-1) xs = true) := by show _ = _; rw [← HR.out, ri_end]
      clear HR HL h0
      have hlt2 : ¬ (xs.length : Int) < (xs.length : Int) := by omega
      go_wp2
      go_ret
      exact ⟨by rw [HV.out]; rfl, hB⟩
set_option maxHeartbeats 3200000 in
theorem specOk1_is (x : TT) (w : World) (hd : DpT w x) (hl : x.2.1.2.2.length ≤ 1048576) : Calls Try.prog 54 #[vT x] w fun e w' => e = .returned (.bool (okP (stT x))) ∧ Below w.heap.size w w' := by
  obtain ⟨k, ⟨a, cap, xs⟩, n⟩ := x
  have hr : RowAt (Value.int .i64) w a xs := hd
  clear hd
  dsimp only at hl
  have HE : Hid (okP (stT (k, (a, cap, xs), n)) = if btw k 1 3 = true then decide (n = 0) && riB (-1) xs else btw k 4 5 && (decide (xs.length = 0) && btw n 0 100000)) := (rfl : okP (stT (k, (a, cap, xs), n)) = _)
  generalize okP (stT (k, (a, cap, xs), n)) = ok at HE ⊢
  obtain ⟨V, hV⟩ : ∃ V, w.alloc (.cells #[.int .i64 k, .slice a xs.length cap, .int .i64 n] 59) = V := ⟨_, rfl⟩
  have TV : Blk w.heap.size [.int .i64 k, .slice a xs.length cap, .int .i64 n] V := by rw [← hV]; exact Blk.new _ _ _
  have BC : Below w.heap.size w V := by rw [← hV]; exact (Below.refl _ _).alloc (Nat.le_refl _) _
  have d0 := TV.at 0 rfl
  have d1 := TV.at 1 rfl
  have d2 := TV.at 2 rfl
  have KS := specSet_is a cap xs V (hr.later BC) hl
  clear hr
  go_enter Try.func54, Try.ntmps54
  go_wp2_with fail
  try rw [hV]
  refine (in_is k 1 3 _).mono ?_
  rintro en v0 ⟨rfl, rfl⟩
  rw [show (decide (1 ≤ k) && decide (k ≤ 3)) = btw k 1 3 from rfl]
  by_cases h0 : btw k 1 3 = true
  · rw [h0]
    by_cases hn : n = 0
    · have hn2 : (n == 0) = true := beq_iff_eq.2 hn
      have HV : Hid (ok = riB (-1) xs) := by show _ = _; rw [HE.out, if_pos h0, decide_eq_true hn]; rfl
      clear HE h0 hn
      generalize riB (-1) xs = rb at KS HV
      go_wp2_with fail
      refine KS.mono ?_
      clear KS
      rintro en v1 ⟨rfl, hb⟩
      replace BC := BC.trans (hb.mono BC.size)
      clear hb d0 d1 d2 TV hV
      go_wp2
      go_ret
      exact ⟨by rw [HV.out]; rfl, BC⟩
    · have hn2 : (n == 0) = false := beq_eq_false_iff_ne.2 hn
      have HV : Hid (ok = false) := by show _ = _; rw [HE.out, if_pos h0, decide_eq_false hn]; rfl
      clear HE h0 hn KS
      go_wp2
      go_ret
      exact ⟨by rw [HV.out]; rfl, BC⟩
  · rw [Bool.not_eq_true] at h0
    rw [h0]
    go_wp2_with fail
    refine (in_is k 4 5 _).mono ?_
    rintro en v0 ⟨rfl, rfl⟩
    rw [show (decide (4 ≤ k) && decide (k ≤ 5)) = btw k 4 5 from rfl]
    have hnot : ¬ btw k 1 3 = true := by rw [h0]; decide
    by_cases h1 : btw k 4 5 = true
    · rw [h1]
      by_cases hx : xs.length = 0
      · have hx2 : ((xs.length : Int) == 0) = true := beq_iff_eq.2 (by omega)
        have HV : Hid (ok = btw n 0 100000) := by show _ = _; rw [HE.out, if_neg hnot, h1, decide_eq_true hx]; rfl
        clear HE h0 h1 hnot KS
        have hx3 : (xs.length : Int) = 0 := by omega
        clear hx
        go_wp2_with fail
        refine (in_is n 0 100000 _).mono ?_
        rintro en v1 ⟨rfl, rfl⟩
        rw [show (decide (0 ≤ n) && decide (n ≤ 100000)) = btw n 0 100000 from rfl]
        generalize btw n 0 100000 = rb at HV
        clear d0 d1 d2
        go_wp2
        go_ret
        exact ⟨by rw [HV.out]; rfl, BC⟩
      · have hx2 : ((xs.length : Int) == 0) = false := beq_eq_false_iff_ne.2 (by omega)
        have HV : Hid (ok = false) := by show _ = _; rw [HE.out, if_neg hnot, h1, decide_eq_false hx]; rfl
        clear HE h0 h1 hnot KS hx
        go_wp2
        go_ret
        exact ⟨by rw [HV.out]; rfl, BC⟩
    · rw [Bool.not_eq_true] at h1
      rw [h1]
      have HV : Hid (ok = false) := by show _ = _; rw [HE.out, if_neg hnot, h1]; rfl
      clear HE h0 h1 hnot KS
      go_wp2
      go_ret
      exact ⟨by rw [HV.out]; rfl, BC⟩
set_option maxHeartbeats 3200000 in
theorem right_is (x : TT) (w : World) (hd : DpT w x) (hl : x.2.1.2.2.length ≤ 1048576) : Calls Try.prog 69 #[vT x] w fun e w' => e = .returned (.bool (okP (stT x))) ∧ Below w.heap.size w w' := by
  obtain ⟨k, ⟨a, cap, xs⟩, n⟩ := x
  have hr : RowAt (Value.int .i64) w a xs := hd
  clear hd
  dsimp only at hl
  have HE : Hid (okP (stT (k, (a, cap, xs), n)) = if btw k 1 3 = true then decide (n = 0) && riB (-1) xs else btw k 4 5 && (decide (xs.length = 0) && btw n 0 100000)) := (rfl : okP (stT (k, (a, cap, xs), n)) = _)
  generalize okP (stT (k, (a, cap, xs), n)) = ok at HE ⊢
  obtain ⟨V, hV⟩ : ∃ V, w.alloc (.cells #[.int .i64 k, .slice a xs.length cap, .int .i64 n] 59) = V := ⟨_, rfl⟩
  have TV : Blk w.heap.size [.int .i64 k, .slice a xs.length cap, .int .i64 n] V := by rw [← hV]; exact Blk.new _ _ _
  have BC : Below w.heap.size w V := by rw [← hV]; exact (Below.refl _ _).alloc (Nat.le_refl _) _
  have d0 := TV.at 0 rfl
  have d1 := TV.at 1 rfl
  have d2 := TV.at 2 rfl
  have KS := rises_is a cap xs V (hr.later BC) hl
  clear hr
  go_enter Try.func69, Try.ntmps69
  by_cases h1 : k = 1
  · have q1 : (k == 1) = true := beq_iff_eq.2 h1
    have hbt : btw k 1 3 = true := by subst h1; decide
    clear h1
    have HV : Hid (ok = (decide (n = 0) && riB (-1) xs)) := by show _ = _; rw [HE.out, if_pos hbt]
    clear HE
    by_cases hn : n = 0
    · have hn2 : (n == 0) = true := beq_iff_eq.2 hn
      have HW : Hid (ok = riB (-1) xs) := by show _ = _; rw [HV.out, decide_eq_true hn]; rfl
      clear hn HV hbt
      generalize riB (-1) xs = rb at KS HW
      go_wp2_with fail
      try rw [hV]
      refine KS.mono ?_
      clear KS
      rintro en v1 ⟨rfl, rfl⟩
      clear d0 d1 d2 TV hV
      go_wp2
      go_ret
      exact ⟨by rw [HW.out]; rfl, BC⟩
    · have hn2 : (n == 0) = false := beq_eq_false_iff_ne.2 hn
      have HW : Hid (ok = false) := by show _ = _; rw [HV.out, decide_eq_false hn]; rfl
      clear hn HV hbt KS
      go_wp2
      go_ret
      exact ⟨by rw [HW.out]; rfl, BC⟩
  · have q1 : (k == 1) = false := beq_eq_false_iff_ne.2 h1
    by_cases h2 : k = 2
    · have q2 : (k == 2) = true := beq_iff_eq.2 h2
      have hbt : btw k 1 3 = true := by subst h2; decide
      clear h2
      have HV : Hid (ok = (decide (n = 0) && riB (-1) xs)) := by show _ = _; rw [HE.out, if_pos hbt]
      clear HE
      by_cases hn : n = 0
      · have hn2 : (n == 0) = true := beq_iff_eq.2 hn
        have HW : Hid (ok = riB (-1) xs) := by show _ = _; rw [HV.out, decide_eq_true hn]; rfl
        clear hn HV hbt
        generalize riB (-1) xs = rb at KS HW
        go_wp2_with fail
        try rw [hV]
        refine KS.mono ?_
        clear KS
        rintro en v1 ⟨rfl, rfl⟩
        clear d0 d1 d2 TV hV
        go_wp2
        go_ret
        exact ⟨by rw [HW.out]; rfl, BC⟩
      · have hn2 : (n == 0) = false := beq_eq_false_iff_ne.2 hn
        have HW : Hid (ok = false) := by show _ = _; rw [HV.out, decide_eq_false hn]; rfl
        clear hn HV hbt KS
        go_wp2
        go_ret
        exact ⟨by rw [HW.out]; rfl, BC⟩
    · have q2 : (k == 2) = false := beq_eq_false_iff_ne.2 h2
      by_cases h3 : k = 3
      · have q3 : (k == 3) = true := beq_iff_eq.2 h3
        have hbt : btw k 1 3 = true := by subst h3; decide
        clear h3
        have HV : Hid (ok = (decide (n = 0) && riB (-1) xs)) := by show _ = _; rw [HE.out, if_pos hbt]
        clear HE
        by_cases hn : n = 0
        · have hn2 : (n == 0) = true := beq_iff_eq.2 hn
          have HW : Hid (ok = riB (-1) xs) := by show _ = _; rw [HV.out, decide_eq_true hn]; rfl
          clear hn HV hbt
          generalize riB (-1) xs = rb at KS HW
          go_wp2_with fail
          try rw [hV]
          refine KS.mono ?_
          clear KS
          rintro en v1 ⟨rfl, rfl⟩
          clear d0 d1 d2 TV hV
          go_wp2
          go_ret
          exact ⟨by rw [HW.out]; rfl, BC⟩
        · have hn2 : (n == 0) = false := beq_eq_false_iff_ne.2 hn
          have HW : Hid (ok = false) := by show _ = _; rw [HV.out, decide_eq_false hn]; rfl
          clear hn HV hbt KS
          go_wp2
          go_ret
          exact ⟨by rw [HW.out]; rfl, BC⟩
      · have q3 : (k == 3) = false := beq_eq_false_iff_ne.2 h3
        by_cases h4 : k = 4
        · have q4 : (k == 4) = true := beq_iff_eq.2 h4
          have hbt : btw k 4 5 = true := by subst h4; decide
          have hnot : ¬ btw k 1 3 = true := by subst h4; decide
          clear h4
          have HV : Hid (ok = (decide (xs.length = 0) && btw n 0 100000)) := by show _ = _; rw [HE.out, if_neg hnot, hbt]; rfl
          clear HE KS
          by_cases hx : xs.length = 0
          · have hx3 : (xs.length : Int) = 0 := by omega
            have hx2 : ((xs.length : Int) == 0) = true := beq_iff_eq.2 hx3
            have HW : Hid (ok = btw n 0 100000) := by show _ = _; rw [HV.out, decide_eq_true hx]; rfl
            clear hx HV hbt hnot
            go_wp2_with fail
            try rw [hV]
            refine (within_is n 100000 _).mono ?_
            rintro en v1 ⟨rfl, rfl⟩
            generalize btw n 0 100000 = rb at HW
            clear d0 d1 d2 TV hV
            go_wp2
            go_ret
            exact ⟨by rw [HW.out]; rfl, BC⟩
          · have hx2 : ((xs.length : Int) == 0) = false := beq_eq_false_iff_ne.2 (by omega)
            have HW : Hid (ok = false) := by show _ = _; rw [HV.out, decide_eq_false hx]; rfl
            clear hx HV hbt hnot
            go_wp2
            go_ret
            exact ⟨by rw [HW.out]; rfl, BC⟩
        · have q4 : (k == 4) = false := beq_eq_false_iff_ne.2 h4
          by_cases h5 : k = 5
          · have q5 : (k == 5) = true := beq_iff_eq.2 h5
            have hbt : btw k 4 5 = true := by subst h5; decide
            have hnot : ¬ btw k 1 3 = true := by subst h5; decide
            clear h5
            have HV : Hid (ok = (decide (xs.length = 0) && btw n 0 100000)) := by show _ = _; rw [HE.out, if_neg hnot, hbt]; rfl
            clear HE KS
            by_cases hx : xs.length = 0
            · have hx3 : (xs.length : Int) = 0 := by omega
              have hx2 : ((xs.length : Int) == 0) = true := beq_iff_eq.2 hx3
              have HW : Hid (ok = btw n 0 100000) := by show _ = _; rw [HV.out, decide_eq_true hx]; rfl
              clear hx HV hbt hnot
              go_wp2_with fail
              try rw [hV]
              refine (within_is n 100000 _).mono ?_
              rintro en v1 ⟨rfl, rfl⟩
              generalize btw n 0 100000 = rb at HW
              clear d0 d1 d2 TV hV
              go_wp2
              go_ret
              exact ⟨by rw [HW.out]; rfl, BC⟩
            · have hx2 : ((xs.length : Int) == 0) = false := beq_eq_false_iff_ne.2 (by omega)
              have HW : Hid (ok = false) := by show _ = _; rw [HV.out, decide_eq_false hx]; rfl
              clear hx HV hbt hnot
              go_wp2
              go_ret
              exact ⟨by rw [HW.out]; rfl, BC⟩
          · have q5 : (k == 5) = false := beq_eq_false_iff_ne.2 h5
            have HV : Hid (ok = false) := by
              show _ = _
              rw [HE.out, if_neg (by unfold btw; simp; omega), show btw k 4 5 = false by unfold btw; rw [Bool.and_eq_false_iff, decide_eq_false_iff_not, decide_eq_false_iff_not]; omega]
              rfl
            clear HE KS h1 h2 h3 h4 h5
            go_wp2
            go_ret
            exact ⟨by rw [HV.out]; rfl, BC⟩
set_option maxHeartbeats 3200000 in
theorem specRulesOk_is (r : Rw TT) (w : World) (hr : RpT w r) (hl : ∀ x ∈ r.2.2, x.2.1.2.2.length ≤ 1048576) (hx : r.2.2.length ≤ 1048576) :
    Calls Try.prog 19 #[.slice r.1 r.2.2.length r.2.1] w fun e w' => e = .returned (.bool (okL (rsT r))) ∧ Below w.heap.size w w' := by
  obtain ⟨a, cap, xs⟩ := r
  dsimp only at hl hx ⊢
  obtain ⟨hrow, hdp⟩ := hr
  dsimp only at hrow hdp
  have HE : Hid (okL (rsT (a, cap, xs)) = (decide (xs.length ≤ 20) && xs.all (fun x => okP (stT x)))) := by
    show _ = _
    unfold okL rsT
    rw [List.length_map, List.all_map]; rfl
  generalize okL (rsT (a, cap, xs)) = ok at HE ⊢
  by_cases h20 : xs.length ≤ 20
  · have h20i : ¬ (20 < (xs.length : Int)) := by omega
    have HW : Hid (ok = xs.all (fun x => okP (stT x))) := by show _ = _; rw [HE.out, decide_eq_true h20]; rfl
    clear HE
    go_enter Try.func19, Try.ntmps19
    go_wp2
    go_loopw [3] (fun iv wr => ∃ j : Nat, j ≤ xs.length ∧ iv = .int .i64 j ∧ Hid (∀ i (h : i < xs.length), i < j → okP (stT xs[i]) = true) ∧ Below w.heap.size w wr) (fun iv _ => xs.length - (intOf iv).toNat)
    case atStart => exact ⟨0, Nat.zero_le _, rfl, fun i _ h => absurd h (by omega), Below.refl _ _⟩
    case round =>
      obtain ⟨j, hj, rfl, HY, hB⟩ := hrel
      by_cases hlt : j < xs.length
      · obtain ⟨b, off, rfl, hb, hc⟩ := hrow j hlt
        have hlt2 : (j : Int) < (xs.length : Int) := by omega
        have c0 : wr.cell? ⟨b, off + j * 3, none⟩ = some (.int .i64 xs[j].1) := (hB.cell (p := ⟨b, off + j * 3, none⟩) hb).trans (hc 0 _ rfl)
        have c1 : wr.cell? ⟨b, off + j * 3 + 1, none⟩ = some (.slice xs[j].2.1.1 xs[j].2.1.2.2.length xs[j].2.1.2.1) := (hB.cell (p := ⟨b, off + j * 3 + 1, none⟩) hb).trans (hc 1 _ rfl)
        have c2 : wr.cell? ⟨b, off + j * 3 + 2, none⟩ = some (.int .i64 xs[j].2.2) := (hB.cell (p := ⟨b, off + j * 3 + 2, none⟩) hb).trans (hc 2 _ rfl)
        have K := specOk1_is xs[j] wr ((hdp _ (List.getElem_mem hlt)).later hB) (hl _ (List.getElem_mem hlt))
        have HY2 : Hid (okP (stT xs[j]) = true → ∀ i (h : i < xs.length), i < j + 1 → okP (stT xs[i]) = true) := fun he i h hi => by
          by_cases e : i = j
          · subst e; exact he
          · exact HY.out i h (by omega)
        have HN : Hid (okP (stT xs[j]) = false → ok = false) := fun he => by
          rw [HW.out, List.all_eq_false]
          exact ⟨xs[j], List.getElem_mem hlt, by rw [he]; decide⟩
        clear hc HY HW
        generalize hxj : xs[j] = x at K HY2 HN c0 c1 c2
        clear hxj
        generalize okP (stT x) = ob at K HY2 HN
        go_wp2_with fail
        refine K.mono ?_
        clear K c0 c1 c2
        rintro en v0 ⟨rfl, hb2⟩
        replace hB := hB.trans (hb2.mono hB.size)
        clear hb2
        cases ob with
        | true =>
          have HY3 := HY2.out rfl
          replace HY3 := show Hid _ from HY3
          clear HY2 HN
          go_wp2
          go_roundw
          case rel => exact ⟨j + 1, by omega, by go_num, HY3, hB⟩
          case measure => simp [intOf]; omega
        | false =>
          have HV : Hid (ok = false) := HN.out rfl
          clear HY2 HN
          go_wp2
          go_ret
          exact ⟨by rw [HV.out]; rfl, hB⟩
      · obtain rfl : j = xs.length := by omega
        have HV : Hid (ok = true) := by
          show _ = _
          rw [HW.out, List.all_eq_true]
          intro x hx
          obtain ⟨i, hi, rfl⟩ := List.mem_iff_getElem.1 hx
          exact HY.out i hi hi
        have hlt2 : ¬ ((xs.length : Int) < (xs.length : Int)) := by omega
        clear HY HW
        go_wp2
        go_ret
        exact ⟨by rw [HV.out]; rfl, hB⟩
  · have h20i : 20 < (xs.length : Int) := by omega
    have HV : Hid (ok = false) := by show _ = _; rw [HE.out, decide_eq_false h20]; rfl
    clear HE h20
    go_enter Try.func19, Try.ntmps19
    go_wp2
    go_ret
    exact ⟨by rw [HV.out]; rfl, Below.refl _ _⟩
end Go.Proofs.Ytjbbhegijlnndaa.Nd
