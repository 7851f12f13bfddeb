/- Caches compared. -/
import Derived.Test.YtflajkbbggmdjaaWa0
set_option linter.unusedVariables false
set_option maxRecDepth 100000
namespace Go.Proofs.Ytflajkbbggmdjaa
open Go Go.RowKit Go.Joins Own Draw

set_option maxRecDepth 100000 in
set_option maxHeartbeats 1600000 in
theorem eqC_is (x0 : Int) (w : World) : Calls Try.prog 91 #[.agg #[.int .i64 x0, .slice none 0 0], .agg #[.int .i64 x0, .slice none 0 0]] w fun e w' => e = .returned (.bool true) ∧ Below w.heap.size w w' := by
  obtain ⟨V0, hV0⟩ : ∃ V, w.alloc (.cells #[.int .i64 x0, .slice none 0 0] 82) = V := ⟨_, rfl⟩
  have t0 : Blk w.heap.size [.int .i64 x0, .slice none 0 0] V0 := by rw [← hV0]; exact Blk.new _ _ _
  have Z0 : V0.heap.size = w.heap.size + 1 := by rw [← hV0]; simp
  have hb0 : Below w.heap.size w V0 := by rw [← hV0]; exact (Below.refl _ _).alloc (Nat.le_refl _) _
  obtain ⟨V, hV⟩ : ∃ V, V0.alloc (.cells #[.int .i64 x0, .slice none 0 0] 82) = V := ⟨_, rfl⟩
  replace t0 : Blk w.heap.size [.int .i64 x0, .slice none 0 0] V := by rw [← hV]; exact t0.alloc (by omega) _
  have t1 : Blk (w.heap.size + 1) [.int .i64 x0, .slice none 0 0] V := by rw [← hV, ← Z0]; exact Blk.new _ _ _
  have d0 := t0.at 0 rfl
  have d1 := t0.at 1 rfl
  have d2 := t1.at 0 rfl
  have d3 := t1.at 1 rfl
  replace hb0 : Below w.heap.size w V := by rw [← hV]; exact hb0.alloc hb0.size _
  have K := eq0_102 none none 0 0 V
  go_enter Try.func91, Try.ntmps91
  go_wp2_with fail
  try rw [hV0]
  try rw [hV]
  refine K.mono ?_
  clear K hV hV0 Z0 d0 d1 d2 d3
  rintro en v1 ⟨rfl, hb⟩
  replace hb0 := hb0.trans (hb.mono hb0.size)
  go_wp2
  go_ret
  exact ⟨rfl, hb0⟩
set_option maxRecDepth 100000 in
set_option maxHeartbeats 1600000 in
theorem eqSC_is (a b : Option Addr) (ca cb : Nat) (xs : List TC) (w : World) (ha : FRow 2 cC w a xs) (hb : FRow 2 cC w b xs) (hl : xs.length ≤ 1048576) :
    Calls Try.prog 56 #[.slice a xs.length ca, .slice b xs.length cb] w fun e w' => e = .returned (.bool true) ∧ Below w.heap.size w w' := by
  go_enter Try.func56, Try.ntmps56
  go_wp2
  go_loopw [5] (fun i wr => ∃ k : Nat, k ≤ xs.length ∧ i = .int .i64 k ∧ Below w.heap.size w wr) (fun i _ => xs.length - (intOf i).toNat)
  case atStart => exact ⟨0, by omega, rfl, Below.refl _ _⟩
  case round =>
    obtain ⟨k, hk, rfl, hbel⟩ := hrel
    by_cases hlt : k < xs.length
    · obtain ⟨b1, o1, rfl, l1, h⟩ := ha k hlt
      obtain ⟨b2, o2, rfl, l2, g⟩ := hb k hlt
      have hlt2 : (k : Int) < (xs.length : Int) := by omega
      have m1 : b1 < wr.drew.heap.size := Nat.lt_of_lt_of_le l1 hbel.size
      have m2 : b2 < wr.drew.heap.size := Nat.lt_of_lt_of_le l2 hbel.size
      have BD := hbel.drew
      have h0 : wr.drew.cell? ⟨b1, o1 + k * 2, none⟩ = some (.int .i64 xs[k].1) := (hbel.cell (p := ⟨b1, o1 + k * 2, none⟩) l1).trans (h 0 _ rfl)
      have h1 : wr.drew.cell? ⟨b1, o1 + k * 2 + 1, none⟩ = some (.slice none 0 0) := (hbel.cell (p := ⟨b1, o1 + k * 2 + 1, none⟩) l1).trans (h 1 _ rfl)
      have g0 : wr.drew.cell? ⟨b2, o2 + k * 2, none⟩ = some (.int .i64 xs[k].1) := (hbel.cell (p := ⟨b2, o2 + k * 2, none⟩) l2).trans (g 0 _ rfl)
      have g1 : wr.drew.cell? ⟨b2, o2 + k * 2 + 1, none⟩ = some (.slice none 0 0) := (hbel.cell (p := ⟨b2, o2 + k * 2 + 1, none⟩) l2).trans (g 1 _ rfl)
      generalize xs[k].1 = x0 at h0 g0
      clear ha hb h g
      go_wp2_with fail
      refine wp_region_held_drew (S := (fun V : World => V.cell? ⟨b1, o1 + k * 2, none⟩ = some (.int .i64 x0) ∧ V.cell? ⟨b1, o1 + k * 2 + 1, none⟩ = some (.slice none 0 0) ∧ V.cell? ⟨b2, o2 + k * 2, none⟩ = some (.int .i64 x0) ∧ V.cell? ⟨b2, o2 + k * 2 + 1, none⟩ = some (.slice none 0 0))) (by kernel_rfl) ⟨h0, h1, g0, g1⟩ (fun hHeld => ?_)
      refine take_one 0 17 (v := ?_) rfl rfl (by kernel_rfl) (by kernel_rfl) (by kernel_rfl) (fun _ _ _ h => h) (Or.inl ⟨by rfl, ?_⟩) hHeld ?_
      rotate_left
      · intro w' hSw; (try dsimp only at hSw); obtain ⟨c0, c1, c2, c3⟩ := hSw; go_simp; try with_reducible rfl
      try simp only [Act.put, List.setIfInBounds_toArray, List.set_cons_zero, List.set_cons_succ]
      refine take_one 1 18 (v := ?_) rfl rfl (by kernel_rfl) (by kernel_rfl) (by kernel_rfl) (fun _ _ _ h => h) (Or.inl ⟨by rfl, ?_⟩) hHeld ?_
      rotate_left
      · intro w' hSw; (try dsimp only at hSw); obtain ⟨c0, c1, c2, c3⟩ := hSw; go_simp; try with_reducible rfl
      try simp only [Act.put, List.setIfInBounds_toArray, List.set_cons_zero, List.set_cons_succ]
      refine take_one 2 19 (v := ?_) rfl rfl (by kernel_rfl) (by kernel_rfl) (by kernel_rfl) (fun _ _ _ h => h) (Or.inl ⟨by rfl, ?_⟩) hHeld ?_
      rotate_left
      · intro w' hSw; (try dsimp only at hSw); obtain ⟨c0, c1, c2, c3⟩ := hSw; go_simp; try with_reducible rfl
      try simp only [Act.put, List.setIfInBounds_toArray, List.set_cons_zero, List.set_cons_succ]
      refine take_one 3 20 (v := ?_) rfl rfl (by kernel_rfl) (by kernel_rfl) (by kernel_rfl) (fun _ _ _ h => h) (Or.inl ⟨by rfl, ?_⟩) hHeld ?_
      rotate_left
      · intro w' hSw; (try dsimp only at hSw); obtain ⟨c0, c1, c2, c3⟩ := hSw; go_simp; try with_reducible rfl
      try simp only [Act.put, List.setIfInBounds_toArray, List.set_cons_zero, List.set_cons_succ]
      refine take_one 4 21 (v := ?_) rfl rfl (by kernel_rfl) (by kernel_rfl) (by kernel_rfl) (fun _ _ _ h => h) (Or.inl ⟨by rfl, ?_⟩) hHeld ?_
      rotate_left
      · intro w' hSw; (try dsimp only at hSw); obtain ⟨c0, c1, c2, c3⟩ := hSw; go_simp; try with_reducible rfl
      try simp only [Act.put, List.setIfInBounds_toArray, List.set_cons_zero, List.set_cons_succ]
      refine take_one 5 22 (v := ?_) rfl rfl (by kernel_rfl) (by kernel_rfl) (by kernel_rfl) (fun _ _ _ h => h) (Or.inl ⟨by rfl, ?_⟩) hHeld ?_
      rotate_left
      · intro w' hSw; (try dsimp only at hSw); obtain ⟨c0, c1, c2, c3⟩ := hSw; go_simp; try with_reducible rfl
      try simp only [Act.put, List.setIfInBounds_toArray, List.set_cons_zero, List.set_cons_succ]
      refine take_one 6 23 (v := ?_) rfl rfl (by kernel_rfl) (by kernel_rfl) (by kernel_rfl) (fun _ _ _ h => h) (Or.inl ⟨by rfl, ?_⟩) hHeld ?_
      rotate_left
      · intro w' hSw; (try dsimp only at hSw); obtain ⟨c0, c1, c2, c3⟩ := hSw; go_simp; try with_reducible rfl
      try simp only [Act.put, List.setIfInBounds_toArray, List.set_cons_zero, List.set_cons_succ]
      refine take_one 7 24 (v := ?_) rfl rfl (by kernel_rfl) (by kernel_rfl) (by kernel_rfl) (fun _ _ _ h => h) (Or.inl ⟨by rfl, ?_⟩) hHeld ?_
      rotate_left
      · intro w' hSw; (try dsimp only at hSw); obtain ⟨c0, c1, c2, c3⟩ := hSw; go_simp; try with_reducible rfl
      try simp only [Act.put, List.setIfInBounds_toArray, List.set_cons_zero, List.set_cons_succ]
      refine wpAnyH_ready (rs := [8]) (by kernel_rfl) (by simp) ?_
      refine AllReadyH.cons (i := 8) rfl (fun K hK => ?_) AllReadyH.nil
      go_simp
      refine (eqC_is x0 _).mono ?_
      rintro e w2 ⟨rfl, hb2⟩
      go_wp2_with fail
      refine hK.out _ _ ⟨(hb2.cell (p := ⟨b1, o1 + k * 2, none⟩) m1).trans h0, (hb2.cell (p := ⟨b1, o1 + k * 2 + 1, none⟩) m1).trans h1, (hb2.cell (p := ⟨b2, o2 + k * 2, none⟩) m2).trans g0, (hb2.cell (p := ⟨b2, o2 + k * 2 + 1, none⟩) m2).trans g1⟩ (fun hHeld2 => ?_)
      clear hK K hHeld
      have hHeld := hHeld2
      clear hHeld2
      try simp only [Act.put, List.setIfInBounds_toArray, List.set_cons_zero, List.set_cons_succ]
      refine take_one 9 26 (v := ?_) rfl rfl (by kernel_rfl) (by kernel_rfl) (by kernel_rfl) (fun _ _ _ h => h) (Or.inl ⟨by rfl, ?_⟩) hHeld ?_
      rotate_left
      · intro w' hSw; (try dsimp only at hSw); obtain ⟨c0, c1, c2, c3⟩ := hSw; go_simp; try with_reducible rfl
      try simp only [Act.put, List.setIfInBounds_toArray, List.set_cons_zero, List.set_cons_succ]
      refine wpAnyH_done (by kernel_rfl) ?_ _
      have B2 := BD.trans (hb2.mono BD.size)
      clear hHeld h0 h1 g0 g1
      go_wp2
      go_roundw
      case rel => exact ⟨k + 1, by omega, by go_num, B2⟩
      case measure => simp [intOf]; omega
    · go_wp2
      go_ret
      exact ⟨rfl, hbel⟩
end Go.Proofs.Ytflajkbbggmdjaa

set_option linter.unusedVariables false
set_option maxRecDepth 100000
namespace Go.Proofs.Ytflajkbbggmdjaa
open Go Go.RowKit Go.Joins Own Draw

set_option maxRecDepth 100000 in
set_option maxHeartbeats 1600000 in
theorem markC_is (B k0 : Nat) (a : Option Addr) (n cap : Nat) (vs : List Value) (w : World) (h : w.ownsRow B 82 2 (.slice a n cap) n vs) (hv : ∀ k, k < n → vs[k * 2 + 1]? = some (.slice none 0 0)) (hl : n ≤ 1000) (hk0 : k0 ≤ 100000000) :
    Calls Try.prog 63 #[.slice a n cap, .int .i64 (k0 : Int)] w fun e w' => e = .returned (.int .i64 ((k0 + n : Nat) : Int)) ∧ w'.ownsRow B 82 2 (.slice a n cap) n (mks (gC k0) (n * 2)) ∧ w.grownBy w' (Value.slice a n cap).ownBlock := by
  rcases h.2 with ⟨e, h0⟩ | ⟨g, cap', cur, e, _⟩
  · injection e with e1 e2 e3
    subst e1 e3 h0
    have hv : vs = [] := List.length_eq_zero_iff.1 (by have := h.1; omega)
    subst hv
    go_enter Try.func63, Try.ntmps63
    go_wp2
    go_loopw [1, 5] (fun kv i wr => i = .int .i64 0 ∧ kv = .int .i64 (k0 : Int) ∧ w = wr) (fun _ _ _ => 0)
    case atStart => exact ⟨rfl, rfl, rfl⟩
    case round =>
      obtain ⟨rfl, rfl, rfl⟩ := hrel
      go_wp2
      go_ret
      exact ⟨by simp, h, World.grownBy.refl _ _⟩
  · injection e with e1 e2 e3
    subst e1 e3
    have H0 : w.ownsRow B 82 2 (.slice (some ⟨g, 0, none⟩) n cap) n (mks (gC k0) (0 * 2) ++ vs.drop (0 * 2)) := by rw [Nat.zero_mul]; exact h
    have hvl : vs.length = n * 2 := by have := h.1; omega
    have hG0 : w.grownBy w (some g) := World.grownBy.refl _ _
    clear h
    go_enter Try.func63, Try.ntmps63
    go_wp2
    go_loopw [1, 5] (fun kv i wr => ∃ k m : Nat, k ≤ n ∧ m = k0 + k ∧ i = .int .i64 k ∧ kv = .int .i64 m ∧ wr.ownsRow B 82 2 (.slice (some ⟨g, 0, none⟩) n cap) n (mks (gC k0) (k * 2) ++ vs.drop (k * 2)) ∧ w.grownBy wr (some g)) (fun _ i _ => n - (intOf i).toNat)
    case atStart => exact ⟨0, k0, by omega, by omega, rfl, rfl, H0, hG0⟩
    case round =>
      clear H0 hG0
      obtain ⟨k, m, hk, hm, rfl, rfl, hown, hG⟩ := hrel
      by_cases hlt : k < n
      · have hs0 := hown.stored (k * 2) (.int .i64 (m : Int))
        have hs := hs0.1
        have hE : (mks (gC k0) (k * 2) ++ vs.drop (k * 2)).set (k * 2) (.int .i64 (m : Int)) = mks (gC k0) ((k + 1) * 2) ++ vs.drop ((k + 1) * 2) := by
          have h1 := hv k hlt
          have h2 := mks_put (gC k0) (vs.set (k * 2 + 1) (gC k0 (k * 2 + 1))) (k * 2) (k * 2 + 1) (by omega) (by rw [List.length_set]; omega)
          rw [← gC_0 k0 k m hm, mks_put (gC k0) vs (k * 2) (k * 2 + 1) (by omega) (by omega)]
          rw [List.drop_eq_getElem_cons (show k * 2 + 1 < vs.length by omega)]
          rw [show vs[k * 2 + 1]'(by omega) = gC k0 (k * 2 + 1) by rw [gC_1]; exact (List.getElem?_eq_some_iff.1 h1).2]
          rw [show (k + 1) * 2 = k * 2 + 1 + 1 by omega]
          have h3 := mks_put (gC k0) (gC k0 0 :: vs) (k * 2 + 1) (k * 2 + 1 + 1) rfl (by simp; omega)
          unfold mks
          rw [List.range_succ (n := k * 2 + 1), List.map_append, List.append_assoc]
          rfl
        rw [hE] at hs
        have HS : Hid (∀ wf : World, Below (wr.setCell ⟨g, k * 2, none⟩ (.int .i64 (m : Int))).heap.size (wr.setCell ⟨g, k * 2, none⟩ (.int .i64 (m : Int))) wf → ∃ k' m' : Nat, k' ≤ n ∧ m' = k0 + k' ∧ Value.int .i64 ((k : Int) + 1) = .int .i64 k' ∧ Value.int .i64 ((m : Int) + 1) = .int .i64 m' ∧ wf.ownsRow B 82 2 (.slice (some ⟨g, 0, none⟩) n cap) n (mks (gC k0) (k' * 2) ++ vs.drop (k' * 2)) ∧ w.grownBy wf (some g)) :=
          fun wf hb => ⟨k + 1, m + 1, by omega, by omega, by go_num, by go_num, own_later hs hb, grown_to (grown_to hG hs0.2) (⟨hb.os, hb.tape, hb.output, hb.size, fun k hk _ => hb.block k hk⟩ : World.grownBy _ wf (some g))⟩
        have hll : (mks (gC k0) (k * 2) ++ vs.drop (k * 2)).length = n * 2 := by have := hown.1; omega
        have u0 : wr.cell? ⟨g, k * 2, none⟩ = some (mks (gC k0) (k * 2) ++ vs.drop (k * 2))[k * 2] := by rw [hown.cellAt _ (by omega)]; exact List.getElem?_eq_getElem (by omega)
        have f0 := hown.frozenAt (k * 2)
        have u1 : (wr.setCell ⟨g, k * 2, none⟩ (.int .i64 (m : Int))).cell? ⟨g, k * 2 + 1, none⟩ = some (.slice none 0 0) := by
          rw [hs.cellAt _ (by omega)]
          rw [List.getElem?_append_left (by rw [mks_len]; omega), mks_get _ _ _ (by omega), gC_1]
        have hlt2 : (k : Int) < (n : Int) := by omega
        have hm2 : (m : Int) ≤ 200000000 := by omega
        generalize (mks (gC k0) (k * 2) ++ vs.drop (k * 2))[k * 2] = q0 at u0
        obtain ⟨WN, hWN⟩ : ∃ WN, wr.setCell ⟨g, k * 2, none⟩ (.int .i64 (m : Int)) = WN := ⟨_, rfl⟩
        rw [hWN] at HS u1
        have K := mk0_94 none 0 ((m : Int) + 1) WN
        clear hown hG hs hs0 hll hm hE
        go_wp2_with fail
        refine K.mono ?_
        clear K u1 u0 f0 hWN
        rintro en w2 ⟨rfl, hb2⟩
        replace HS := HS.out w2 hb2
        go_wp2
        go_roundw
        case rel => exact HS
        case measure => simp [intOf]; omega
      · obtain rfl : k = n := by omega
        rw [← hvl, List.drop_length, List.append_nil, hvl] at hown
        go_wp2
        go_ret
        exact ⟨by rw [hm]; rfl, hown, hG⟩
end Go.Proofs.Ytflajkbbggmdjaa

set_option linter.unusedVariables false
set_option maxRecDepth 100000
namespace Go.Proofs.Ytflajkbbggmdjaa
open Go Go.RowKit Go.Joins Own Draw

set_option maxRecDepth 100000 in
set_option maxHeartbeats 1600000 in
theorem heldC_is (B k0 : Nat) (a : Option Addr) (n cap : Nat) (w : World) (h : w.ownsRow B 82 2 (.slice a n cap) n (mks (gC k0) (n * 2))) (hl : n ≤ 1000) (hk0 : k0 ≤ 100000000) :
    Calls Try.prog 71 #[.slice a n cap, .int .i64 (k0 : Int)] w fun e w' => e = .returned (.int .i64 ((k0 + n : Nat) : Int)) ∧ Below w.heap.size w w' := by
  have hcell : ∀ i, i < n * 2 → ∃ g, a = some ⟨g, 0, none⟩ ∧ w.cell? ⟨g, i, none⟩ = some (gC k0 i) ∧ g < w.heap.size := by
    intro i hi
    rcases h.2 with ⟨e, h0⟩ | ⟨g, cap', cur, e, _⟩
    · omega
    · injection e with e1 e2 e3
      subst e1 e3
      exact ⟨g, rfl, by rw [h.cellAt i (by omega), mks_get _ _ _ hi], (h.lt g rfl).2⟩
  clear h
  go_enter Try.func71, Try.ntmps71
  go_wp2
  go_loopw [1, 5] (fun kv i wr => ∃ k m : Nat, k ≤ n ∧ m = k0 + k ∧ i = .int .i64 k ∧ kv = .int .i64 m ∧ Below w.heap.size w wr) (fun _ i _ => n - (intOf i).toNat)
  case atStart => exact ⟨0, k0, by omega, by omega, rfl, rfl, Below.refl _ _⟩
  case round =>
    obtain ⟨k, m, hk, hm, rfl, rfl, hbel⟩ := hrel
    by_cases hlt : k < n
    · obtain ⟨g, e0, h0, hg0⟩ := hcell (k * 2) (by omega)
      rw [← hbel.cell (p := ⟨g, k * 2, none⟩) hg0, gC_0 k0 k m hm] at h0
      obtain ⟨g1, e1, h1, hg1⟩ := hcell (k * 2 + 1) (by omega)
      obtain rfl : g = g1 := by rw [e0] at e1; injection e1 with e1; injection e1
      rw [← hbel.cell (p := ⟨g, k * 2 + 1, none⟩) hg0, gC_1] at h1
      subst e0
      have hlt2 : (k : Int) < (n : Int) := by omega
      have hm2 : (m : Int) ≤ 200000000 := by omega
      have nm : ¬ ((m : Int) + 1 < 0) := by omega
      have hm3 : m + 1 = k0 + (k + 1) := by omega
      have K := mk0_96 none 0 ((m : Int) + 1) wr
      clear hcell hm e1
      go_wp2_with fail
      refine K.mono ?_
      clear K h0 h1
      rintro en w2 ⟨rfl, hb2⟩
      replace hbel := hbel.trans (hb2.mono hbel.size)
      clear hb2
      go_wp2
      go_roundw
      case rel => exact ⟨k + 1, m + 1, by omega, hm3, by go_num, by go_num, hbel⟩
      case measure => simp [intOf]; omega
    · obtain rfl : k = n := by omega
      go_wp2
      go_ret
      exact ⟨by rw [hm]; rfl, hbel⟩
end Go.Proofs.Ytflajkbbggmdjaa
