/- Marks of acts that are still there. -/
import Derived.Test.YtflajkbbggmdjaaRe0
set_option linter.unusedVariables false
set_option maxRecDepth 100000
namespace Go.Proofs.Ytflajkbbggmdjaa
open Go Go.RowKit Go.Joins Own Draw

set_option maxRecDepth 100000 in
set_option maxHeartbeats 1600000 in
theorem heldA_is (B k0 : Nat) (a : Option Addr) (n cap : Nat) (w : World) (h : w.ownsRow B 71 9 (.slice a n cap) n (mks (gA k0) (n * 9))) (hl : n ≤ 1000) (hk0 : k0 ≤ 1000) :
    Calls Try.prog 17 #[.slice a n cap, .int .i64 (k0 : Int)] w fun e w' => e = .returned (.int .i64 ((k0 + n * 9 : Nat) : Int)) ∧ Below w.heap.size w w' := by
  have hcell : ∀ i, i < n * 9 → ∃ g, a = some ⟨g, 0, none⟩ ∧ w.cell? ⟨g, i, none⟩ = some (gA k0 i) ∧ g < w.heap.size := by
    intro i hi
    rcases h.2 with ⟨e, h0⟩ | ⟨g, cap', cur, e, _⟩
    · omega
    · injection e with e1 e2 e3
      subst e1 e3
      exact ⟨g, rfl, by rw [h.cellAt i (by omega), mks_get _ _ _ hi], (h.lt g rfl).2⟩
  clear h
  go_enter Try.func17, Try.ntmps17
  go_wp2
  go_loopw [1, 5] (fun kv i wr => ∃ k m : Nat, k ≤ n ∧ m = k0 + k * 9 ∧ i = .int .i64 k ∧ kv = .int .i64 m ∧ Below w.heap.size w wr) (fun _ i _ => n - (intOf i).toNat)
  case atStart => exact ⟨0, k0, by omega, by omega, rfl, rfl, Below.refl _ _⟩
  case round =>
    obtain ⟨k, m, hk, hm, rfl, rfl, hbel⟩ := hrel
    by_cases hlt : k < n
    · obtain ⟨g, e0, h0, hg0⟩ := hcell (k * 9) (by omega)
      rw [← hbel.cell (p := ⟨g, k * 9, none⟩) hg0, gA_0 k0 k m hm] at h0
      obtain ⟨g1, e1, h1, hg1⟩ := hcell (k * 9 + 1) (by omega)
      obtain rfl : g = g1 := by rw [e0] at e1; injection e1 with e1; injection e1
      rw [← hbel.cell (p := ⟨g, k * 9 + 1, none⟩) hg0, gA_1 k0 k m hm] at h1
      obtain ⟨g2, e2, h2, hg2⟩ := hcell (k * 9 + 2) (by omega)
      obtain rfl : g = g2 := by rw [e0] at e2; injection e2 with e2; injection e2
      rw [← hbel.cell (p := ⟨g, k * 9 + 2, none⟩) hg0, gA_2 k0 k m hm] at h2
      obtain ⟨g3, e3, h3, hg3⟩ := hcell (k * 9 + 3) (by omega)
      obtain rfl : g = g3 := by rw [e0] at e3; injection e3 with e3; injection e3
      rw [← hbel.cell (p := ⟨g, k * 9 + 3, none⟩) hg0, gA_3 k0 k m hm] at h3
      obtain ⟨g4, e4, h4, hg4⟩ := hcell (k * 9 + 4) (by omega)
      obtain rfl : g = g4 := by rw [e0] at e4; injection e4 with e4; injection e4
      rw [← hbel.cell (p := ⟨g, k * 9 + 4, none⟩) hg0, gA_4 k0 k m hm] at h4
      obtain ⟨g5, e5, h5, hg5⟩ := hcell (k * 9 + 5) (by omega)
      obtain rfl : g = g5 := by rw [e0] at e5; injection e5 with e5; injection e5
      rw [← hbel.cell (p := ⟨g, k * 9 + 5, none⟩) hg0, gA_5 k0 k m hm] at h5
      obtain ⟨g6, e6, h6, hg6⟩ := hcell (k * 9 + 6) (by omega)
      obtain rfl : g = g6 := by rw [e0] at e6; injection e6 with e6; injection e6
      rw [← hbel.cell (p := ⟨g, k * 9 + 6, none⟩) hg0, gA_6 k0 k m hm] at h6
      obtain ⟨g7, e7, h7, hg7⟩ := hcell (k * 9 + 7) (by omega)
      obtain rfl : g = g7 := by rw [e0] at e7; injection e7 with e7; injection e7
      rw [← hbel.cell (p := ⟨g, k * 9 + 7, none⟩) hg0, gA_7 k0 k m hm] at h7
      obtain ⟨g8, e8, h8, hg8⟩ := hcell (k * 9 + 8) (by omega)
      obtain rfl : g = g8 := by rw [e0] at e8; injection e8 with e8; injection e8
      rw [← hbel.cell (p := ⟨g, k * 9 + 8, none⟩) hg0, gA_8 k0 k m hm] at h8
      subst e0
      have hlt2 : (k : Int) < (n : Int) := by omega
      have hm2 : (m : Int) ≤ 200000000 := by omega
      have hm3 : m + 1 + 1 + 1 + 1 + 1 + 1 + 1 + 1 + 1 = k0 + (k + 1) * 9 := by omega
      have hM := fun w => markText_is (m + 8) w (by omega) (by omega)
      have e8 : (((m + 8 : Nat)) : Int) = (m : Int) + 1 + 1 + 1 + 1 + 1 + 1 + 1 + 1 := by omega
      rw [e8] at hM
      have hbD := hbel.drew
      have hg9 : g < wr.drew.heap.size := Nat.lt_of_lt_of_le hg0 hbel.size
      clear hcell hm
      generalize mt (m + 8) = XX at hM h8
      have h8d : wr.drew.cell? ⟨g, k * 9 + 8, none⟩ = some (.string XX) := h8
      go_wp2_with fail
      refine wp_region_held_drew (S := (fun V : World => V.cell? ⟨g, k * 9 + 8, none⟩ = some (.string XX))) (by kernel_rfl) h8d (fun hHeld => ?_)
      refine take_one 0 87 (v := ?_) rfl rfl (by kernel_rfl) (by kernel_rfl) (by kernel_rfl) (fun _ _ _ h => h) (Or.inl ⟨by rfl, ?_⟩) hHeld ?_
      rotate_left
      · intro w' hSw; (try dsimp only at hSw); go_simp; try with_reducible rfl
      try simp only [Act.put, List.setIfInBounds_toArray, List.set_cons_zero, List.set_cons_succ]
      refine take_one 1 88 (v := ?_) rfl rfl (by kernel_rfl) (by kernel_rfl) (by kernel_rfl) (fun _ _ _ h => h) (Or.inl ⟨by rfl, ?_⟩) hHeld ?_
      rotate_left
      · intro w' hSw; (try dsimp only at hSw); go_simp; try with_reducible rfl
      try simp only [Act.put, List.setIfInBounds_toArray, List.set_cons_zero, List.set_cons_succ]
      refine take_one 2 89 (v := ?_) rfl rfl (by kernel_rfl) (by kernel_rfl) (by kernel_rfl) (fun _ _ _ h => h) (Or.inl ⟨by rfl, ?_⟩) hHeld ?_
      rotate_left
      · intro w' hSw; (try dsimp only at hSw); go_simp; try with_reducible rfl
      try simp only [Act.put, List.setIfInBounds_toArray, List.set_cons_zero, List.set_cons_succ]
      refine take_one 3 90 (v := ?_) rfl rfl (by kernel_rfl) (by kernel_rfl) (by kernel_rfl) (fun _ _ _ h => h) (Or.inl ⟨by rfl, ?_⟩) hHeld ?_
      rotate_left
      · intro w' hSw; (try dsimp only at hSw); go_simp; try with_reducible rfl
      try simp only [Act.put, List.setIfInBounds_toArray, List.set_cons_zero, List.set_cons_succ]
      refine take_one 4 91 (v := ?_) rfl rfl (by kernel_rfl) (by kernel_rfl) (by kernel_rfl) (fun _ _ _ h => h) (Or.inl ⟨by rfl, ?_⟩) hHeld ?_
      rotate_left
      · intro w' hSw; (try dsimp only at hSw); go_simp; try with_reducible rfl
      try simp only [Act.put, List.setIfInBounds_toArray, List.set_cons_zero, List.set_cons_succ]
      refine take_one 5 92 (v := ?_) rfl rfl (by kernel_rfl) (by kernel_rfl) (by kernel_rfl) (fun _ _ _ h => h) (Or.inl ⟨by rfl, ?_⟩) hHeld ?_
      rotate_left
      · intro w' hSw; (try dsimp only at hSw); go_simp; try with_reducible rfl
      try simp only [Act.put, List.setIfInBounds_toArray, List.set_cons_zero, List.set_cons_succ]
      refine wpAnyH_ready (rs := [6]) (by kernel_rfl) (by simp) ?_
      refine AllReadyH.cons (i := 6) rfl (fun K hK => ?_) AllReadyH.nil
      go_simp
      refine (hM _).mono ?_
      rintro en w2 ⟨rfl, hb2⟩
      go_wp2_with fail
      refine hK.out _ _ ((hb2.cell (p := ⟨g, k * 9 + 8, none⟩) hg9).trans h8d) (fun hHeld2 => ?_)
      clear hK K hHeld
      have hHeld := hHeld2
      clear hHeld2
      try simp only [Act.put, List.setIfInBounds_toArray, List.set_cons_zero, List.set_cons_succ]
      refine take_one 7 94 (v := ?_) rfl rfl (by kernel_rfl) (by kernel_rfl) (by kernel_rfl) (fun _ _ _ h => h) (Or.inl ⟨by rfl, ?_⟩) hHeld ?_
      rotate_left
      · intro w' hSw; (try dsimp only at hSw); go_simp; try with_reducible rfl
      try simp only [Act.put, List.setIfInBounds_toArray, List.set_cons_zero, List.set_cons_succ]
      refine wpAnyH_done (by kernel_rfl) ?_ _
      have B2 := hbD.trans (hb2.mono hbD.size)
      clear hHeld
      go_wp2
      go_roundw
      case rel => exact ⟨k + 1, m + 1 + 1 + 1 + 1 + 1 + 1 + 1 + 1 + 1, by omega, hm3, by go_num, by go_num, B2⟩
      case measure => simp [intOf]; omega
    · obtain rfl : k = n := by omega
      go_wp2
      go_ret
      exact ⟨by rw [hm]; rfl, hbel⟩
end Go.Proofs.Ytflajkbbggmdjaa
