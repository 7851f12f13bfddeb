/- Acts compared. -/
import Derived.Test.YtflajkbbggmdjaaRe0
set_option linter.unusedVariables false
set_option maxRecDepth 100000
namespace Go.Proofs.Ytflajkbbggmdjaa
open Go Go.RowKit Go.Joins Own Draw

set_option maxHeartbeats 1600000 in
set_option maxRecDepth 100000 in
theorem eqA_is (x0 : Int) (x1 : Int) (x2 : Int) (x3 : Int) (x4 : Int) (x5 : Int) (x6 : Int) (x7 : Int) (x8 : ByteArray) (w : World) : Calls Try.prog 44 #[.agg #[.int .i64 x0, .int .i64 x1, .int .i64 x2, .int .i64 x3, .int .i64 x4, .int .i64 x5, .int .i64 x6, .int .i64 x7, .string x8], .agg #[.int .i64 x0, .int .i64 x1, .int .i64 x2, .int .i64 x3, .int .i64 x4, .int .i64 x5, .int .i64 x6, .int .i64 x7, .string x8]] w fun e w' => e = .returned (.bool true) ∧ Below w.heap.size w w' := by
  go_enter Try.func44, Try.ntmps44
  go_wp2
  go_ret
  exact ⟨rfl, by repeat (first | exact Below.refl _ _ | refine Below.alloc ?_ (by simp; try omega) _)⟩
set_option maxRecDepth 100000 in
set_option maxHeartbeats 1600000 in
theorem eqSA_is (a b : Option Addr) (ca cb : Nat) (xs : List TA) (w : World) (ha : FRow 9 cA w a xs) (hb : FRow 9 cA w b xs) (hl : xs.length ≤ 1048576) :
    Calls Try.prog 14 #[.slice a xs.length ca, .slice b xs.length cb] w fun e w' => e = .returned (.bool true) ∧ Below w.heap.size w w' := by
  go_enter Try.func14, Try.ntmps14
  go_wp2
  go_loopw [5] (fun i wr => ∃ k : Nat, k ≤ xs.length ∧ i = .int .i64 k ∧ Below w.heap.size w wr) (fun i _ => xs.length - (intOf i).toNat)
  case atStart => exact ⟨0, by omega, rfl, Below.refl _ _⟩
  case round =>
    obtain ⟨k, hk, rfl, hbel⟩ := hrel
    by_cases hlt : k < xs.length
    · obtain ⟨b1, o1, rfl, l1, h⟩ := ha k hlt
      obtain ⟨b2, o2, rfl, l2, g⟩ := hb k hlt
      have hlt2 : (k : Int) < (xs.length : Int) := by omega
      have m1 : b1 < wr.drew.heap.size := Nat.lt_of_lt_of_le l1 hbel.size
      have m2 : b2 < wr.drew.heap.size := Nat.lt_of_lt_of_le l2 hbel.size
      have BD := hbel.drew
      have h0 : wr.drew.cell? ⟨b1, o1 + k * 9, none⟩ = some (.int .i64 xs[k].1) := (hbel.cell (p := ⟨b1, o1 + k * 9, none⟩) l1).trans (h 0 _ rfl)
      have h1 : wr.drew.cell? ⟨b1, o1 + k * 9 + 1, none⟩ = some (.int .i64 xs[k].2.1) := (hbel.cell (p := ⟨b1, o1 + k * 9 + 1, none⟩) l1).trans (h 1 _ rfl)
      have h2 : wr.drew.cell? ⟨b1, o1 + k * 9 + 2, none⟩ = some (.int .i64 xs[k].2.2.1) := (hbel.cell (p := ⟨b1, o1 + k * 9 + 2, none⟩) l1).trans (h 2 _ rfl)
      have h3 : wr.drew.cell? ⟨b1, o1 + k * 9 + 3, none⟩ = some (.int .i64 xs[k].2.2.2.1) := (hbel.cell (p := ⟨b1, o1 + k * 9 + 3, none⟩) l1).trans (h 3 _ rfl)
      have h4 : wr.drew.cell? ⟨b1, o1 + k * 9 + 4, none⟩ = some (.int .i64 xs[k].2.2.2.2.1) := (hbel.cell (p := ⟨b1, o1 + k * 9 + 4, none⟩) l1).trans (h 4 _ rfl)
      have h5 : wr.drew.cell? ⟨b1, o1 + k * 9 + 5, none⟩ = some (.int .i64 xs[k].2.2.2.2.2.1) := (hbel.cell (p := ⟨b1, o1 + k * 9 + 5, none⟩) l1).trans (h 5 _ rfl)
      have h6 : wr.drew.cell? ⟨b1, o1 + k * 9 + 6, none⟩ = some (.int .i64 xs[k].2.2.2.2.2.2.1) := (hbel.cell (p := ⟨b1, o1 + k * 9 + 6, none⟩) l1).trans (h 6 _ rfl)
      have h7 : wr.drew.cell? ⟨b1, o1 + k * 9 + 7, none⟩ = some (.int .i64 xs[k].2.2.2.2.2.2.2.1) := (hbel.cell (p := ⟨b1, o1 + k * 9 + 7, none⟩) l1).trans (h 7 _ rfl)
      have h8 : wr.drew.cell? ⟨b1, o1 + k * 9 + 8, none⟩ = some (.string xs[k].2.2.2.2.2.2.2.2) := (hbel.cell (p := ⟨b1, o1 + k * 9 + 8, none⟩) l1).trans (h 8 _ rfl)
      have g0 : wr.drew.cell? ⟨b2, o2 + k * 9, none⟩ = some (.int .i64 xs[k].1) := (hbel.cell (p := ⟨b2, o2 + k * 9, none⟩) l2).trans (g 0 _ rfl)
      have g1 : wr.drew.cell? ⟨b2, o2 + k * 9 + 1, none⟩ = some (.int .i64 xs[k].2.1) := (hbel.cell (p := ⟨b2, o2 + k * 9 + 1, none⟩) l2).trans (g 1 _ rfl)
      have g2 : wr.drew.cell? ⟨b2, o2 + k * 9 + 2, none⟩ = some (.int .i64 xs[k].2.2.1) := (hbel.cell (p := ⟨b2, o2 + k * 9 + 2, none⟩) l2).trans (g 2 _ rfl)
      have g3 : wr.drew.cell? ⟨b2, o2 + k * 9 + 3, none⟩ = some (.int .i64 xs[k].2.2.2.1) := (hbel.cell (p := ⟨b2, o2 + k * 9 + 3, none⟩) l2).trans (g 3 _ rfl)
      have g4 : wr.drew.cell? ⟨b2, o2 + k * 9 + 4, none⟩ = some (.int .i64 xs[k].2.2.2.2.1) := (hbel.cell (p := ⟨b2, o2 + k * 9 + 4, none⟩) l2).trans (g 4 _ rfl)
      have g5 : wr.drew.cell? ⟨b2, o2 + k * 9 + 5, none⟩ = some (.int .i64 xs[k].2.2.2.2.2.1) := (hbel.cell (p := ⟨b2, o2 + k * 9 + 5, none⟩) l2).trans (g 5 _ rfl)
      have g6 : wr.drew.cell? ⟨b2, o2 + k * 9 + 6, none⟩ = some (.int .i64 xs[k].2.2.2.2.2.2.1) := (hbel.cell (p := ⟨b2, o2 + k * 9 + 6, none⟩) l2).trans (g 6 _ rfl)
      have g7 : wr.drew.cell? ⟨b2, o2 + k * 9 + 7, none⟩ = some (.int .i64 xs[k].2.2.2.2.2.2.2.1) := (hbel.cell (p := ⟨b2, o2 + k * 9 + 7, none⟩) l2).trans (g 7 _ rfl)
      have g8 : wr.drew.cell? ⟨b2, o2 + k * 9 + 8, none⟩ = some (.string xs[k].2.2.2.2.2.2.2.2) := (hbel.cell (p := ⟨b2, o2 + k * 9 + 8, none⟩) l2).trans (g 8 _ rfl)
      generalize xs[k].1 = x0 at h0 g0
      generalize xs[k].2.1 = x1 at h1 g1
      generalize xs[k].2.2.1 = x2 at h2 g2
      generalize xs[k].2.2.2.1 = x3 at h3 g3
      generalize xs[k].2.2.2.2.1 = x4 at h4 g4
      generalize xs[k].2.2.2.2.2.1 = x5 at h5 g5
      generalize xs[k].2.2.2.2.2.2.1 = x6 at h6 g6
      generalize xs[k].2.2.2.2.2.2.2.1 = x7 at h7 g7
      generalize xs[k].2.2.2.2.2.2.2.2 = x8 at h8 g8
      clear ha hb h g
      go_wp2_with fail
      refine wp_region_held_drew (S := (fun V : World => V.cell? ⟨b1, o1 + k * 9, none⟩ = some (.int .i64 x0) ∧ V.cell? ⟨b1, o1 + k * 9 + 1, none⟩ = some (.int .i64 x1) ∧ V.cell? ⟨b1, o1 + k * 9 + 2, none⟩ = some (.int .i64 x2) ∧ V.cell? ⟨b1, o1 + k * 9 + 3, none⟩ = some (.int .i64 x3) ∧ V.cell? ⟨b1, o1 + k * 9 + 4, none⟩ = some (.int .i64 x4) ∧ V.cell? ⟨b1, o1 + k * 9 + 5, none⟩ = some (.int .i64 x5) ∧ V.cell? ⟨b1, o1 + k * 9 + 6, none⟩ = some (.int .i64 x6) ∧ V.cell? ⟨b1, o1 + k * 9 + 7, none⟩ = some (.int .i64 x7) ∧ V.cell? ⟨b1, o1 + k * 9 + 8, none⟩ = some (.string x8) ∧ V.cell? ⟨b2, o2 + k * 9, none⟩ = some (.int .i64 x0) ∧ V.cell? ⟨b2, o2 + k * 9 + 1, none⟩ = some (.int .i64 x1) ∧ V.cell? ⟨b2, o2 + k * 9 + 2, none⟩ = some (.int .i64 x2) ∧ V.cell? ⟨b2, o2 + k * 9 + 3, none⟩ = some (.int .i64 x3) ∧ V.cell? ⟨b2, o2 + k * 9 + 4, none⟩ = some (.int .i64 x4) ∧ V.cell? ⟨b2, o2 + k * 9 + 5, none⟩ = some (.int .i64 x5) ∧ V.cell? ⟨b2, o2 + k * 9 + 6, none⟩ = some (.int .i64 x6) ∧ V.cell? ⟨b2, o2 + k * 9 + 7, none⟩ = some (.int .i64 x7) ∧ V.cell? ⟨b2, o2 + k * 9 + 8, none⟩ = some (.string x8))) (by kernel_rfl) ⟨h0, h1, h2, h3, h4, h5, h6, h7, h8, g0, g1, g2, g3, g4, g5, g6, g7, g8⟩ (fun hHeld => ?_)
      refine take_one 0 17 (v := ?_) rfl rfl (by kernel_rfl) (by kernel_rfl) (by kernel_rfl) (fun _ _ _ h => h) (Or.inl ⟨by rfl, ?_⟩) hHeld ?_
      rotate_left
      · intro w' hSw; (try dsimp only at hSw); obtain ⟨c0, c1, c2, c3, c4, c5, c6, c7, c8, c9, c10, c11, c12, c13, c14, c15, c16, c17⟩ := hSw; go_simp; try with_reducible rfl
      try simp only [Act.put, List.setIfInBounds_toArray, List.set_cons_zero, List.set_cons_succ]
      refine take_one 1 18 (v := ?_) rfl rfl (by kernel_rfl) (by kernel_rfl) (by kernel_rfl) (fun _ _ _ h => h) (Or.inl ⟨by rfl, ?_⟩) hHeld ?_
      rotate_left
      · intro w' hSw; (try dsimp only at hSw); obtain ⟨c0, c1, c2, c3, c4, c5, c6, c7, c8, c9, c10, c11, c12, c13, c14, c15, c16, c17⟩ := hSw; go_simp; try with_reducible rfl
      try simp only [Act.put, List.setIfInBounds_toArray, List.set_cons_zero, List.set_cons_succ]
      refine take_one 2 19 (v := ?_) rfl rfl (by kernel_rfl) (by kernel_rfl) (by kernel_rfl) (fun _ _ _ h => h) (Or.inl ⟨by rfl, ?_⟩) hHeld ?_
      rotate_left
      · intro w' hSw; (try dsimp only at hSw); obtain ⟨c0, c1, c2, c3, c4, c5, c6, c7, c8, c9, c10, c11, c12, c13, c14, c15, c16, c17⟩ := hSw; go_simp; try with_reducible rfl
      try simp only [Act.put, List.setIfInBounds_toArray, List.set_cons_zero, List.set_cons_succ]
      refine take_one 3 20 (v := ?_) rfl rfl (by kernel_rfl) (by kernel_rfl) (by kernel_rfl) (fun _ _ _ h => h) (Or.inl ⟨by rfl, ?_⟩) hHeld ?_
      rotate_left
      · intro w' hSw; (try dsimp only at hSw); obtain ⟨c0, c1, c2, c3, c4, c5, c6, c7, c8, c9, c10, c11, c12, c13, c14, c15, c16, c17⟩ := hSw; go_simp; try with_reducible rfl
      try simp only [Act.put, List.setIfInBounds_toArray, List.set_cons_zero, List.set_cons_succ]
      refine take_one 4 21 (v := ?_) rfl rfl (by kernel_rfl) (by kernel_rfl) (by kernel_rfl) (fun _ _ _ h => h) (Or.inl ⟨by rfl, ?_⟩) hHeld ?_
      rotate_left
      · intro w' hSw; (try dsimp only at hSw); obtain ⟨c0, c1, c2, c3, c4, c5, c6, c7, c8, c9, c10, c11, c12, c13, c14, c15, c16, c17⟩ := hSw; go_simp; try with_reducible rfl
      try simp only [Act.put, List.setIfInBounds_toArray, List.set_cons_zero, List.set_cons_succ]
      refine take_one 5 22 (v := ?_) rfl rfl (by kernel_rfl) (by kernel_rfl) (by kernel_rfl) (fun _ _ _ h => h) (Or.inl ⟨by rfl, ?_⟩) hHeld ?_
      rotate_left
      · intro w' hSw; (try dsimp only at hSw); obtain ⟨c0, c1, c2, c3, c4, c5, c6, c7, c8, c9, c10, c11, c12, c13, c14, c15, c16, c17⟩ := hSw; go_simp; try with_reducible rfl
      try simp only [Act.put, List.setIfInBounds_toArray, List.set_cons_zero, List.set_cons_succ]
      refine take_one 6 23 (v := ?_) rfl rfl (by kernel_rfl) (by kernel_rfl) (by kernel_rfl) (fun _ _ _ h => h) (Or.inl ⟨by rfl, ?_⟩) hHeld ?_
      rotate_left
      · intro w' hSw; (try dsimp only at hSw); obtain ⟨c0, c1, c2, c3, c4, c5, c6, c7, c8, c9, c10, c11, c12, c13, c14, c15, c16, c17⟩ := hSw; go_simp; try with_reducible rfl
      try simp only [Act.put, List.setIfInBounds_toArray, List.set_cons_zero, List.set_cons_succ]
      refine take_one 7 24 (v := ?_) rfl rfl (by kernel_rfl) (by kernel_rfl) (by kernel_rfl) (fun _ _ _ h => h) (Or.inl ⟨by rfl, ?_⟩) hHeld ?_
      rotate_left
      · intro w' hSw; (try dsimp only at hSw); obtain ⟨c0, c1, c2, c3, c4, c5, c6, c7, c8, c9, c10, c11, c12, c13, c14, c15, c16, c17⟩ := hSw; go_simp; try with_reducible rfl
      try simp only [Act.put, List.setIfInBounds_toArray, List.set_cons_zero, List.set_cons_succ]
      refine wpAnyH_ready (rs := [8]) (by kernel_rfl) (by simp) ?_
      refine AllReadyH.cons (i := 8) rfl (fun K hK => ?_) AllReadyH.nil
      go_simp
      refine (eqA_is x0 x1 x2 x3 x4 x5 x6 x7 x8 _).mono ?_
      rintro e w2 ⟨rfl, hb2⟩
      go_wp2_with fail
      refine hK.out _ _ ⟨(hb2.cell (p := ⟨b1, o1 + k * 9, none⟩) m1).trans h0, (hb2.cell (p := ⟨b1, o1 + k * 9 + 1, none⟩) m1).trans h1, (hb2.cell (p := ⟨b1, o1 + k * 9 + 2, none⟩) m1).trans h2, (hb2.cell (p := ⟨b1, o1 + k * 9 + 3, none⟩) m1).trans h3, (hb2.cell (p := ⟨b1, o1 + k * 9 + 4, none⟩) m1).trans h4, (hb2.cell (p := ⟨b1, o1 + k * 9 + 5, none⟩) m1).trans h5, (hb2.cell (p := ⟨b1, o1 + k * 9 + 6, none⟩) m1).trans h6, (hb2.cell (p := ⟨b1, o1 + k * 9 + 7, none⟩) m1).trans h7, (hb2.cell (p := ⟨b1, o1 + k * 9 + 8, none⟩) m1).trans h8, (hb2.cell (p := ⟨b2, o2 + k * 9, none⟩) m2).trans g0, (hb2.cell (p := ⟨b2, o2 + k * 9 + 1, none⟩) m2).trans g1, (hb2.cell (p := ⟨b2, o2 + k * 9 + 2, none⟩) m2).trans g2, (hb2.cell (p := ⟨b2, o2 + k * 9 + 3, none⟩) m2).trans g3, (hb2.cell (p := ⟨b2, o2 + k * 9 + 4, none⟩) m2).trans g4, (hb2.cell (p := ⟨b2, o2 + k * 9 + 5, none⟩) m2).trans g5, (hb2.cell (p := ⟨b2, o2 + k * 9 + 6, none⟩) m2).trans g6, (hb2.cell (p := ⟨b2, o2 + k * 9 + 7, none⟩) m2).trans g7, (hb2.cell (p := ⟨b2, o2 + k * 9 + 8, none⟩) m2).trans g8⟩ (fun hHeld2 => ?_)
      clear hK K hHeld
      have hHeld := hHeld2
      clear hHeld2
      try simp only [Act.put, List.setIfInBounds_toArray, List.set_cons_zero, List.set_cons_succ]
      refine take_one 9 26 (v := ?_) rfl rfl (by kernel_rfl) (by kernel_rfl) (by kernel_rfl) (fun _ _ _ h => h) (Or.inl ⟨by rfl, ?_⟩) hHeld ?_
      rotate_left
      · intro w' hSw; (try dsimp only at hSw); obtain ⟨c0, c1, c2, c3, c4, c5, c6, c7, c8, c9, c10, c11, c12, c13, c14, c15, c16, c17⟩ := hSw; go_simp; try with_reducible rfl
      try simp only [Act.put, List.setIfInBounds_toArray, List.set_cons_zero, List.set_cons_succ]
      refine wpAnyH_done (by kernel_rfl) ?_ _
      have B2 := BD.trans (hb2.mono BD.size)
      clear hHeld h0 h1 h2 h3 h4 h5 h6 h7 h8 g0 g1 g2 g3 g4 g5 g6 g7 g8
      go_wp2
      go_roundw
      case rel => exact ⟨k + 1, by omega, by go_num, B2⟩
      case measure => simp [intOf]; omega
    · go_wp2
      go_ret
      exact ⟨rfl, hbel⟩
end Go.Proofs.Ytflajkbbggmdjaa
