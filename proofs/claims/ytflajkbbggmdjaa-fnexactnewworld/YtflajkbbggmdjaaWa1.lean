/- Waits compared. -/
import Derived.Test.YtflajkbbggmdjaaWa0
set_option linter.unusedVariables false
set_option maxRecDepth 100000
namespace Go.Proofs.Ytflajkbbggmdjaa
open Go Go.RowKit Go.Joins Own Draw

set_option maxRecDepth 100000 in
theorem eqW_is (x0 : Bool) (x1 : Int) (x2 : Int) (x3 : Int) (w : World) : Calls Try.prog 89 #[.agg #[.bool x0, .int .i64 x1, .int .i64 x2, .int .i64 x3], .agg #[.bool x0, .int .i64 x1, .int .i64 x2, .int .i64 x3]] w fun e w' => e = .returned (.bool true) ∧ Below w.heap.size w w' := by
  have hb0 : Below w.heap.size w ((w.alloc (.cells #[.bool x0, .int .i64 x1, .int .i64 x2, .int .i64 x3] 114)).alloc (.cells #[.bool x0, .int .i64 x1, .int .i64 x2, .int .i64 x3] 114)) := ((Below.refl _ _).alloc (Nat.le_refl _) _).alloc (by simp) _
  go_enter Try.func89, Try.ntmps89
  go_wp2
  go_ret
  exact ⟨rfl, hb0⟩
set_option maxRecDepth 100000 in
set_option maxHeartbeats 1600000 in
theorem eqSW_is (a b : Option Addr) (ca cb : Nat) (xs : List TW) (w : World) (ha : FRow 4 cW w a xs) (hb : FRow 4 cW w b xs) (hl : xs.length ≤ 1048576) :
    Calls Try.prog 54 #[.slice a xs.length ca, .slice b xs.length cb] w fun e w' => e = .returned (.bool true) ∧ Below w.heap.size w w' := by
  go_enter Try.func54, Try.ntmps54
  go_wp2
  go_loopw [5] (fun i wr => ∃ k : Nat, k ≤ xs.length ∧ i = .int .i64 k ∧ Below w.heap.size w wr) (fun i _ => xs.length - (intOf i).toNat)
  case atStart => exact ⟨0, by omega, rfl, Below.refl _ _⟩
  case round =>
    obtain ⟨k, hk, rfl, hbel⟩ := hrel
    by_cases hlt : k < xs.length
    · obtain ⟨b1, o1, rfl, l1, h⟩ := ha k hlt
      obtain ⟨b2, o2, rfl, l2, g⟩ := hb k hlt
      have hlt2 : (k : Int) < (xs.length : Int) := by omega
      have m1 : b1 < wr.drew.heap.size := Nat.lt_of_lt_of_le l1 hbel.size
      have m2 : b2 < wr.drew.heap.size := Nat.lt_of_lt_of_le l2 hbel.size
      have BD := hbel.drew
      have h0 : wr.drew.cell? ⟨b1, o1 + k * 4, none⟩ = some (.bool xs[k].1) := (hbel.cell (p := ⟨b1, o1 + k * 4, none⟩) l1).trans (h 0 _ rfl)
      have h1 : wr.drew.cell? ⟨b1, o1 + k * 4 + 1, none⟩ = some (.int .i64 xs[k].2.1) := (hbel.cell (p := ⟨b1, o1 + k * 4 + 1, none⟩) l1).trans (h 1 _ rfl)
      have h2 : wr.drew.cell? ⟨b1, o1 + k * 4 + 2, none⟩ = some (.int .i64 xs[k].2.2.1) := (hbel.cell (p := ⟨b1, o1 + k * 4 + 2, none⟩) l1).trans (h 2 _ rfl)
      have h3 : wr.drew.cell? ⟨b1, o1 + k * 4 + 3, none⟩ = some (.int .i64 xs[k].2.2.2) := (hbel.cell (p := ⟨b1, o1 + k * 4 + 3, none⟩) l1).trans (h 3 _ rfl)
      have g0 : wr.drew.cell? ⟨b2, o2 + k * 4, none⟩ = some (.bool xs[k].1) := (hbel.cell (p := ⟨b2, o2 + k * 4, none⟩) l2).trans (g 0 _ rfl)
      have g1 : wr.drew.cell? ⟨b2, o2 + k * 4 + 1, none⟩ = some (.int .i64 xs[k].2.1) := (hbel.cell (p := ⟨b2, o2 + k * 4 + 1, none⟩) l2).trans (g 1 _ rfl)
      have g2 : wr.drew.cell? ⟨b2, o2 + k * 4 + 2, none⟩ = some (.int .i64 xs[k].2.2.1) := (hbel.cell (p := ⟨b2, o2 + k * 4 + 2, none⟩) l2).trans (g 2 _ rfl)
      have g3 : wr.drew.cell? ⟨b2, o2 + k * 4 + 3, none⟩ = some (.int .i64 xs[k].2.2.2) := (hbel.cell (p := ⟨b2, o2 + k * 4 + 3, none⟩) l2).trans (g 3 _ rfl)
      generalize xs[k].1 = x0 at h0 g0
      generalize xs[k].2.1 = x1 at h1 g1
      generalize xs[k].2.2.1 = x2 at h2 g2
      generalize xs[k].2.2.2 = x3 at h3 g3
      clear ha hb h g
      go_wp2_with fail
      refine wp_region_held_drew (S := (fun V : World => V.cell? ⟨b1, o1 + k * 4, none⟩ = some (.bool x0) ∧ V.cell? ⟨b1, o1 + k * 4 + 1, none⟩ = some (.int .i64 x1) ∧ V.cell? ⟨b1, o1 + k * 4 + 2, none⟩ = some (.int .i64 x2) ∧ V.cell? ⟨b1, o1 + k * 4 + 3, none⟩ = some (.int .i64 x3) ∧ V.cell? ⟨b2, o2 + k * 4, none⟩ = some (.bool x0) ∧ V.cell? ⟨b2, o2 + k * 4 + 1, none⟩ = some (.int .i64 x1) ∧ V.cell? ⟨b2, o2 + k * 4 + 2, none⟩ = some (.int .i64 x2) ∧ V.cell? ⟨b2, o2 + k * 4 + 3, none⟩ = some (.int .i64 x3))) (by kernel_rfl) ⟨h0, h1, h2, h3, g0, g1, g2, g3⟩ (fun hHeld => ?_)
      refine take_one 0 17 (v := ?_) rfl rfl (by kernel_rfl) (by kernel_rfl) (by kernel_rfl) (fun _ _ _ h => h) (Or.inl ⟨by rfl, ?_⟩) hHeld ?_
      rotate_left
      · intro w' hSw; (try dsimp only at hSw); obtain ⟨c0, c1, c2, c3, c4, c5, c6, c7⟩ := hSw; go_simp; try with_reducible rfl
      try simp only [Act.put, List.setIfInBounds_toArray, List.set_cons_zero, List.set_cons_succ]
      refine take_one 1 18 (v := ?_) rfl rfl (by kernel_rfl) (by kernel_rfl) (by kernel_rfl) (fun _ _ _ h => h) (Or.inl ⟨by rfl, ?_⟩) hHeld ?_
      rotate_left
      · intro w' hSw; (try dsimp only at hSw); obtain ⟨c0, c1, c2, c3, c4, c5, c6, c7⟩ := hSw; go_simp; try with_reducible rfl
      try simp only [Act.put, List.setIfInBounds_toArray, List.set_cons_zero, List.set_cons_succ]
      refine take_one 2 19 (v := ?_) rfl rfl (by kernel_rfl) (by kernel_rfl) (by kernel_rfl) (fun _ _ _ h => h) (Or.inl ⟨by rfl, ?_⟩) hHeld ?_
      rotate_left
      · intro w' hSw; (try dsimp only at hSw); obtain ⟨c0, c1, c2, c3, c4, c5, c6, c7⟩ := hSw; go_simp; try with_reducible rfl
      try simp only [Act.put, List.setIfInBounds_toArray, List.set_cons_zero, List.set_cons_succ]
      refine take_one 3 20 (v := ?_) rfl rfl (by kernel_rfl) (by kernel_rfl) (by kernel_rfl) (fun _ _ _ h => h) (Or.inl ⟨by rfl, ?_⟩) hHeld ?_
      rotate_left
      · intro w' hSw; (try dsimp only at hSw); obtain ⟨c0, c1, c2, c3, c4, c5, c6, c7⟩ := hSw; go_simp; try with_reducible rfl
      try simp only [Act.put, List.setIfInBounds_toArray, List.set_cons_zero, List.set_cons_succ]
      refine take_one 4 21 (v := ?_) rfl rfl (by kernel_rfl) (by kernel_rfl) (by kernel_rfl) (fun _ _ _ h => h) (Or.inl ⟨by rfl, ?_⟩) hHeld ?_
      rotate_left
      · intro w' hSw; (try dsimp only at hSw); obtain ⟨c0, c1, c2, c3, c4, c5, c6, c7⟩ := hSw; go_simp; try with_reducible rfl
      try simp only [Act.put, List.setIfInBounds_toArray, List.set_cons_zero, List.set_cons_succ]
      refine take_one 5 22 (v := ?_) rfl rfl (by kernel_rfl) (by kernel_rfl) (by kernel_rfl) (fun _ _ _ h => h) (Or.inl ⟨by rfl, ?_⟩) hHeld ?_
      rotate_left
      · intro w' hSw; (try dsimp only at hSw); obtain ⟨c0, c1, c2, c3, c4, c5, c6, c7⟩ := hSw; go_simp; try with_reducible rfl
      try simp only [Act.put, List.setIfInBounds_toArray, List.set_cons_zero, List.set_cons_succ]
      refine take_one 6 23 (v := ?_) rfl rfl (by kernel_rfl) (by kernel_rfl) (by kernel_rfl) (fun _ _ _ h => h) (Or.inl ⟨by rfl, ?_⟩) hHeld ?_
      rotate_left
      · intro w' hSw; (try dsimp only at hSw); obtain ⟨c0, c1, c2, c3, c4, c5, c6, c7⟩ := hSw; go_simp; try with_reducible rfl
      try simp only [Act.put, List.setIfInBounds_toArray, List.set_cons_zero, List.set_cons_succ]
      refine take_one 7 24 (v := ?_) rfl rfl (by kernel_rfl) (by kernel_rfl) (by kernel_rfl) (fun _ _ _ h => h) (Or.inl ⟨by rfl, ?_⟩) hHeld ?_
      rotate_left
      · intro w' hSw; (try dsimp only at hSw); obtain ⟨c0, c1, c2, c3, c4, c5, c6, c7⟩ := hSw; go_simp; try with_reducible rfl
      try simp only [Act.put, List.setIfInBounds_toArray, List.set_cons_zero, List.set_cons_succ]
      refine wpAnyH_ready (rs := [8]) (by kernel_rfl) (by simp) ?_
      refine AllReadyH.cons (i := 8) rfl (fun K hK => ?_) AllReadyH.nil
      go_simp
      refine (eqW_is x0 x1 x2 x3 _).mono ?_
      rintro e w2 ⟨rfl, hb2⟩
      go_wp2_with fail
      refine hK.out _ _ ⟨(hb2.cell (p := ⟨b1, o1 + k * 4, none⟩) m1).trans h0, (hb2.cell (p := ⟨b1, o1 + k * 4 + 1, none⟩) m1).trans h1, (hb2.cell (p := ⟨b1, o1 + k * 4 + 2, none⟩) m1).trans h2, (hb2.cell (p := ⟨b1, o1 + k * 4 + 3, none⟩) m1).trans h3, (hb2.cell (p := ⟨b2, o2 + k * 4, none⟩) m2).trans g0, (hb2.cell (p := ⟨b2, o2 + k * 4 + 1, none⟩) m2).trans g1, (hb2.cell (p := ⟨b2, o2 + k * 4 + 2, none⟩) m2).trans g2, (hb2.cell (p := ⟨b2, o2 + k * 4 + 3, none⟩) m2).trans g3⟩ (fun hHeld2 => ?_)
      clear hK K hHeld
      have hHeld := hHeld2
      clear hHeld2
      try simp only [Act.put, List.setIfInBounds_toArray, List.set_cons_zero, List.set_cons_succ]
      refine take_one 9 26 (v := ?_) rfl rfl (by kernel_rfl) (by kernel_rfl) (by kernel_rfl) (fun _ _ _ h => h) (Or.inl ⟨by rfl, ?_⟩) hHeld ?_
      rotate_left
      · intro w' hSw; (try dsimp only at hSw); obtain ⟨c0, c1, c2, c3, c4, c5, c6, c7⟩ := hSw; go_simp; try with_reducible rfl
      try simp only [Act.put, List.setIfInBounds_toArray, List.set_cons_zero, List.set_cons_succ]
      refine wpAnyH_done (by kernel_rfl) ?_ _
      have B2 := BD.trans (hb2.mono BD.size)
      clear hHeld h0 h1 h2 h3 g0 g1 g2 g3
      go_wp2
      go_roundw
      case rel => exact ⟨k + 1, by omega, by go_num, B2⟩
      case measure => simp [intOf]; omega
    · go_wp2
      go_ret
      exact ⟨rfl, hbel⟩
end Go.Proofs.Ytflajkbbggmdjaa

set_option linter.unusedVariables false
set_option maxRecDepth 100000
namespace Go.Proofs.Ytflajkbbggmdjaa
open Go Go.RowKit Go.Joins Own Draw

set_option maxRecDepth 100000 in
set_option maxHeartbeats 1600000 in
theorem markW_is (B k0 : Nat) (a : Option Addr) (n cap : Nat) (vs : List Value) (w : World) (h : w.ownsRow B 114 4 (.slice a n cap) n vs) (hl : n ≤ 2000000) (hk0 : k0 ≤ 100000000) :
    Calls Try.prog 61 #[.slice a n cap, .int .i64 (k0 : Int)] w fun e w' => e = .returned (.int .i64 ((k0 + n * 4 : Nat) : Int)) ∧ w'.ownsRow B 114 4 (.slice a n cap) n (mks (gW k0) (n * 4)) ∧ w.grownBy w' (Value.slice a n cap).ownBlock := by
  rcases h.2 with ⟨e, h0⟩ | ⟨g, cap', cur, e, _⟩
  · injection e with e1 e2 e3
    subst e1 e3 h0
    have hv : vs = [] := List.length_eq_zero_iff.1 (by have := h.1; omega)
    subst hv
    go_enter Try.func61, Try.ntmps61
    go_wp2
    go_loopw [1, 5] (fun kv i wr => i = .int .i64 0 ∧ kv = .int .i64 (k0 : Int) ∧ w = wr) (fun _ _ _ => 0)
    case atStart => exact ⟨rfl, rfl, rfl⟩
    case round =>
      obtain ⟨rfl, rfl, rfl⟩ := hrel
      go_wp2
      go_ret
      exact ⟨by simp, h, World.grownBy.refl _ _⟩
  · injection e with e1 e2 e3
    subst e1 e3
    have H0 : w.ownsRow B 114 4 (.slice (some ⟨g, 0, none⟩) n cap) n (mks (gW k0) (0 * 4) ++ vs.drop (0 * 4)) := by rw [Nat.zero_mul]; exact h
    have hvl : vs.length = n * 4 := by have := h.1; omega
    have hG0 : w.grownBy w (some g) := World.grownBy.refl _ _
    clear h
    go_enter Try.func61, Try.ntmps61
    go_wp2
    go_loopw [1, 5] (fun kv i wr => ∃ k m : Nat, k ≤ n ∧ m = k0 + k * 4 ∧ i = .int .i64 k ∧ kv = .int .i64 m ∧ wr.ownsRow B 114 4 (.slice (some ⟨g, 0, none⟩) n cap) n (mks (gW k0) (k * 4) ++ vs.drop (k * 4)) ∧ w.grownBy wr (some g)) (fun _ i _ => n - (intOf i).toNat)
    case atStart => exact ⟨0, k0, by omega, by omega, rfl, rfl, H0, hG0⟩
    case round =>
      clear H0 hG0
      obtain ⟨k, m, hk, hm, rfl, rfl, hown, hG⟩ := hrel
      by_cases hlt : k < n
      · have hs0 := hown.stored (k * 4) (.bool (((m : Int)) % 3 == 0))
        have hs1 := hs0.1.stored (k * 4 + 1) (.int .i64 ((m : Int) + 1))
        have hs2 := hs1.1.stored (k * 4 + 2) (.int .i64 ((m : Int) + 1 + 1))
        have hs3 := hs2.1.stored (k * 4 + 3) (.int .i64 ((m : Int) + 1 + 1 + 1))
        have hs := hs3.1
        have hE : ((((mks (gW k0) (k * 4) ++ vs.drop (k * 4)).set (k * 4) (.bool (((m : Int)) % 3 == 0))).set (k * 4 + 1) (.int .i64 ((m : Int) + 1))).set (k * 4 + 2) (.int .i64 ((m : Int) + 1 + 1))).set (k * 4 + 3) (.int .i64 ((m : Int) + 1 + 1 + 1)) = mks (gW k0) ((k + 1) * 4) ++ vs.drop ((k + 1) * 4) := by rw [← gW_0 k0 k m hm, ← gW_1 k0 k m hm, ← gW_2 k0 k m hm, ← gW_3 k0 k m hm, mks_put (gW k0) vs (k * 4) (k * 4 + 1) (by omega) (by omega), mks_put (gW k0) vs (k * 4 + 1) (k * 4 + 2) (by omega) (by omega), mks_put (gW k0) vs (k * 4 + 2) (k * 4 + 3) (by omega) (by omega), mks_put (gW k0) vs (k * 4 + 3) ((k + 1) * 4) (by omega) (by omega)]
        rw [hE] at hs
        have HS : Hid (∃ k' m' : Nat, k' ≤ n ∧ m' = k0 + k' * 4 ∧ Value.int .i64 ((k : Int) + 1) = .int .i64 k' ∧ Value.int .i64 ((m : Int) + 1 + 1 + 1 + 1) = .int .i64 m' ∧ ((((wr.setCell ⟨g, k * 4, none⟩ (.bool (((m : Int)) % 3 == 0))).setCell ⟨g, k * 4 + 1, none⟩ (.int .i64 ((m : Int) + 1))).setCell ⟨g, k * 4 + 2, none⟩ (.int .i64 ((m : Int) + 1 + 1))).setCell ⟨g, k * 4 + 3, none⟩ (.int .i64 ((m : Int) + 1 + 1 + 1))).ownsRow B 114 4 (.slice (some ⟨g, 0, none⟩) n cap) n (mks (gW k0) (k' * 4) ++ vs.drop (k' * 4)) ∧ w.grownBy ((((wr.setCell ⟨g, k * 4, none⟩ (.bool (((m : Int)) % 3 == 0))).setCell ⟨g, k * 4 + 1, none⟩ (.int .i64 ((m : Int) + 1))).setCell ⟨g, k * 4 + 2, none⟩ (.int .i64 ((m : Int) + 1 + 1))).setCell ⟨g, k * 4 + 3, none⟩ (.int .i64 ((m : Int) + 1 + 1 + 1))) (some g)) :=
          ⟨k + 1, m + 1 + 1 + 1 + 1, by omega, by omega, by go_num, by go_num, hs, (grown_to (grown_to (grown_to (grown_to hG hs0.2) hs1.2) hs2.2) hs3.2)⟩
        have hll : (mks (gW k0) (k * 4) ++ vs.drop (k * 4)).length = n * 4 := by have := hown.1; omega
        have u0 : wr.cell? ⟨g, k * 4, none⟩ = some (mks (gW k0) (k * 4) ++ vs.drop (k * 4))[k * 4] := by rw [hown.cellAt _ (by omega)]; exact List.getElem?_eq_getElem (by omega)
        have f0 := hown.frozenAt (k * 4)
        have u1 : wr.cell? ⟨g, k * 4 + 1, none⟩ = some (mks (gW k0) (k * 4) ++ vs.drop (k * 4))[k * 4 + 1] := by rw [hown.cellAt _ (by omega)]; exact List.getElem?_eq_getElem (by omega)
        have f1 := hown.frozenAt (k * 4 + 1)
        have u2 : wr.cell? ⟨g, k * 4 + 2, none⟩ = some (mks (gW k0) (k * 4) ++ vs.drop (k * 4))[k * 4 + 2] := by rw [hown.cellAt _ (by omega)]; exact List.getElem?_eq_getElem (by omega)
        have f2 := hown.frozenAt (k * 4 + 2)
        have u3 : wr.cell? ⟨g, k * 4 + 3, none⟩ = some (mks (gW k0) (k * 4) ++ vs.drop (k * 4))[k * 4 + 3] := by rw [hown.cellAt _ (by omega)]; exact List.getElem?_eq_getElem (by omega)
        have f3 := hown.frozenAt (k * 4 + 3)
        have hlt2 : (k : Int) < (n : Int) := by omega
        have hm2 : (m : Int) ≤ 200000000 := by omega
        generalize (mks (gW k0) (k * 4) ++ vs.drop (k * 4))[k * 4] = q0 at u0
        generalize (mks (gW k0) (k * 4) ++ vs.drop (k * 4))[k * 4 + 1] = q1 at u1
        generalize (mks (gW k0) (k * 4) ++ vs.drop (k * 4))[k * 4 + 2] = q2 at u2
        generalize (mks (gW k0) (k * 4) ++ vs.drop (k * 4))[k * 4 + 3] = q3 at u3
        clear hown hG hs hs0 hs1 hs2 hs3 hll hm hE
        go_wp2
        go_roundw
        case rel => exact HS.out
        case measure => simp [intOf]; omega
      · obtain rfl : k = n := by omega
        rw [← hvl, List.drop_length, List.append_nil, hvl] at hown
        go_wp2
        go_ret
        exact ⟨by rw [hm]; rfl, hown, hG⟩
end Go.Proofs.Ytflajkbbggmdjaa

set_option linter.unusedVariables false
set_option maxRecDepth 100000
namespace Go.Proofs.Ytflajkbbggmdjaa
open Go Go.RowKit Go.Joins Own Draw

set_option maxRecDepth 100000 in
set_option maxHeartbeats 1600000 in
theorem heldW_is (B k0 : Nat) (a : Option Addr) (n cap : Nat) (w : World) (h : w.ownsRow B 114 4 (.slice a n cap) n (mks (gW k0) (n * 4))) (hl : n ≤ 2000000) (hk0 : k0 ≤ 100000000) :
    Calls Try.prog 69 #[.slice a n cap, .int .i64 (k0 : Int)] w fun e w' => e = .returned (.int .i64 ((k0 + n * 4 : Nat) : Int)) ∧ Below w.heap.size w w' := by
  have hcell : ∀ i, i < n * 4 → ∃ g, a = some ⟨g, 0, none⟩ ∧ w.cell? ⟨g, i, none⟩ = some (gW k0 i) ∧ g < w.heap.size := by
    intro i hi
    rcases h.2 with ⟨e, h0⟩ | ⟨g, cap', cur, e, _⟩
    · omega
    · injection e with e1 e2 e3
      subst e1 e3
      exact ⟨g, rfl, by rw [h.cellAt i (by omega), mks_get _ _ _ hi], (h.lt g rfl).2⟩
  clear h
  go_enter Try.func69, Try.ntmps69
  go_wp2
  go_loopw [1, 5] (fun kv i wr => ∃ k m : Nat, k ≤ n ∧ m = k0 + k * 4 ∧ i = .int .i64 k ∧ kv = .int .i64 m ∧ Below w.heap.size w wr) (fun _ i _ => n - (intOf i).toNat)
  case atStart => exact ⟨0, k0, by omega, by omega, rfl, rfl, Below.refl _ _⟩
  case round =>
    obtain ⟨k, m, hk, hm, rfl, rfl, hbel⟩ := hrel
    by_cases hlt : k < n
    · obtain ⟨g, e0, h0, hg0⟩ := hcell (k * 4) (by omega)
      rw [← hbel.cell (p := ⟨g, k * 4, none⟩) hg0, gW_0 k0 k m hm] at h0
      obtain ⟨g1, e1, h1, hg1⟩ := hcell (k * 4 + 1) (by omega)
      obtain rfl : g = g1 := by rw [e0] at e1; injection e1 with e1; injection e1
      rw [← hbel.cell (p := ⟨g, k * 4 + 1, none⟩) hg0, gW_1 k0 k m hm] at h1
      obtain ⟨g2, e2, h2, hg2⟩ := hcell (k * 4 + 2) (by omega)
      obtain rfl : g = g2 := by rw [e0] at e2; injection e2 with e2; injection e2
      rw [← hbel.cell (p := ⟨g, k * 4 + 2, none⟩) hg0, gW_2 k0 k m hm] at h2
      obtain ⟨g3, e3, h3, hg3⟩ := hcell (k * 4 + 3) (by omega)
      obtain rfl : g = g3 := by rw [e0] at e3; injection e3 with e3; injection e3
      rw [← hbel.cell (p := ⟨g, k * 4 + 3, none⟩) hg0, gW_3 k0 k m hm] at h3
      subst e0
      have hlt2 : (k : Int) < (n : Int) := by omega
      have hm2 : (m : Int) ≤ 200000000 := by omega
      have hm3 : m + 1 + 1 + 1 + 1 = k0 + (k + 1) * 4 := by omega
      clear hcell hm
      go_wp2
      go_roundw
      case rel => exact ⟨k + 1, m + 1 + 1 + 1 + 1, by omega, hm3, by go_num, by go_num, hbel⟩
      case measure => simp [intOf]; omega
    · obtain rfl : k = n := by omega
      go_wp2
      go_ret
      exact ⟨by rw [hm]; rfl, hbel⟩
end Go.Proofs.Ytflajkbbggmdjaa
