/- Authenticators: what a text is read as, by the model; the law. -/
import Derived.Test.YtbkemhclncmicaaRdA
set_option linter.unusedVariables false
namespace Go.Proofs.Ytbkemhclncmicaa
open Go Go.RowKit Own Var Term

set_option maxRecDepth 100000 in
set_option maxHeartbeats 6400000 in
theorem specReadA_is (s : ByteArray) (key : Int) (w : World) (hs : s.size ≤ 1048576) : Calls Try.prog 21 #[.string s, .int .i64 key] w fun en w' => en = .returned (.tuple #[.agg #[.int .i64 (raV s key 1), .int .i64 (raV s key 2), .int .i64 (raV s key 3)], .bool (raK s key)]) ∧ Below w.heap.size w w' := by
  obtain ⟨W1, hW1⟩ : ∃ W1, w.alloc (.cells #[.int .i64 0, .int .i64 0, .int .i64 0] 42) = W1 := ⟨_, rfl⟩
  have B1 : Below w.heap.size w W1 := by rw [← hW1]; exact (Below.refl _ _).alloc (Nat.le_refl _) _
  have R1 : Blk w.heap.size [.int .i64 0, .int .i64 0, .int .i64 0] W1 := by rw [← hW1]; exact Blk.new w #[.int .i64 0, .int .i64 0, .int .i64 0] _
  have Z1 : Hid (w.heap.size < W1.heap.size) := by show _ < _; rw [← hW1]; simp
  have RN := fun w' => spec_readNums (openR s key).1 w' (Nat.le_trans (openR_size s key) (by omega))
  obtain ⟨L, b, hN⟩ : ∃ L b, numsR (openR s key).1 = (L, b) := ⟨_, _, rfl⟩
  have HN : b = false → L = [] := fun h => by have := nums_len (openR s key).1 (by rw [hN]; exact h); rw [hN] at this; exact this
  rw [hN] at RN
  simp only at RN
  go_enter Try.func21, Try.ntmps21
  go_wp2_with fail
  try rw [hW1]
  refine (spec_open s key _ hs).mono ?_
  clear hW1
  rintro en w2 ⟨rfl, hb2⟩
  have R2 := R1.later hb2 Z1.out
  have Z2 : Hid (w.heap.size < w2.heap.size) := Nat.lt_of_lt_of_le Z1.out hb2.size
  have B2 := B1.trans (hb2.mono B1.size)
  clear R1 Z1 B1 hb2
  generalize (openR s key).2 = ob
  go_wp2_with fail
  refine (RN _).mono ?_
  rintro en w3 ⟨v, rfl, ho, hb3⟩
  have R3 := R2.later hb3 Z2.out
  have Z3 : Hid (w.heap.size < w3.heap.size) := Nat.lt_of_lt_of_le Z2.out hb3.size
  have B3 := B2.trans (hb3.mono B2.size)
  clear R2 Z2 B2 hb3 RN
  by_cases h4 : L.length = 4
  · have hb : b = true := by
      cases b with
      | true => rfl
      | false => rw [HN rfl] at h4; cases h4
    subst hb
    obtain ⟨m, c, t, q, rfl⟩ : ∃ m c t q, L = [m, c, t, q] := by
      match L, h4 with
      | [m, c, t, q], _ => exact ⟨m, c, t, q, rfl⟩
    clear HN h4
    obtain ⟨g, cap, rfl, hcap, hg, hlt, Q3⟩ := own_blk (f := Value.int .i64) (xs := [m, c, t, q]) ho (by simp)
    simp only [List.length_cons, List.length_nil, Nat.zero_add, Nat.reduceAdd] at hcap
    have hc4 : (4 : Int) ≤ (cap : Int) := by omega
    clear ho hg
    have q0 := Q3.at 0 rfl
    by_cases h7 : m = 7
    · subst h7
      have QD : Blk g [.int .i64 7, .int .i64 c, .int .i64 t, .int .i64 q] w3.drew := Q3.drew
      obtain ⟨W4, hW4⟩ : ∃ W4, (w3.alloc (.cells #[.int .i64 c, .int .i64 t, .int .i64 q] 42)).drew = W4 := ⟨_, rfl⟩
      have B4 : Below w.heap.size w W4 := by rw [← hW4]; exact (B3.alloc (Nat.le_of_lt Z3.out) _).drew
      have R4 : Blk w.heap.size [.int .i64 0, .int .i64 0, .int .i64 0] W4 := by rw [← hW4]; exact (R3.alloc Z3.out _).drew
      have D4 : Blk w3.heap.size [.int .i64 c, .int .i64 t, .int .i64 q] W4 := by rw [← hW4]; exact (Blk.new w3 #[.int .i64 c, .int .i64 t, .int .i64 q] _).drew
      have Z4 : Hid (w3.heap.size < W4.heap.size) := by show _ < _; rw [← hW4]; simp
      have Q4 : Blk g [.int .i64 7, .int .i64 c, .int .i64 t, .int .i64 q] W4 := by rw [← hW4]; exact (Q3.alloc hlt _).drew
      go_wp2_with fail
      refine wp_region_held_drew (S := (fun V => Blk g [.int .i64 7, .int .i64 c, .int .i64 t, .int .i64 q] V)) (by kernel_rfl) QD (fun hHeld => ?_)
      refine take_one 0 36 (v := ?_) rfl rfl (by kernel_rfl) (by kernel_rfl) (by kernel_rfl) (fun _ _ _ h => h) (Or.inl ⟨by rfl, ?_⟩) hHeld ?_
      rotate_left
      · intro w' hSw; (try dsimp only at hSw); have d0 := hSw.at 0 rfl; have d1 := hSw.at 1 rfl; have d2 := hSw.at 2 rfl; have d3 := hSw.at 3 rfl; go_simp; try with_reducible rfl
      try simp only [Act.put, List.setIfInBounds_toArray, List.set_cons_zero, List.set_cons_succ]
      refine take_one 1 37 (v := ?_) rfl rfl (by kernel_rfl) (by kernel_rfl) (by kernel_rfl) (fun _ _ _ h => h) (Or.inl ⟨by rfl, ?_⟩) hHeld ?_
      rotate_left
      · intro w' hSw; (try dsimp only at hSw); have d0 := hSw.at 0 rfl; have d1 := hSw.at 1 rfl; have d2 := hSw.at 2 rfl; have d3 := hSw.at 3 rfl; go_simp; try with_reducible rfl
      try simp only [Act.put, List.setIfInBounds_toArray, List.set_cons_zero, List.set_cons_succ]
      refine take_one 2 38 (v := ?_) rfl rfl (by kernel_rfl) (by kernel_rfl) (by kernel_rfl) (fun _ _ _ h => h) (Or.inl ⟨by rfl, ?_⟩) hHeld ?_
      rotate_left
      · intro w' hSw; (try dsimp only at hSw); have d0 := hSw.at 0 rfl; have d1 := hSw.at 1 rfl; have d2 := hSw.at 2 rfl; have d3 := hSw.at 3 rfl; go_simp; try with_reducible rfl
      try simp only [Act.put, List.setIfInBounds_toArray, List.set_cons_zero, List.set_cons_succ]
      refine take_one 3 39 (v := ?_) rfl rfl (by kernel_rfl) (by kernel_rfl) (by kernel_rfl) (fun _ _ _ h => h) (Or.inl ⟨by rfl, ?_⟩) hHeld ?_
      rotate_left
      · intro w' hSw; (try dsimp only at hSw); have d0 := hSw.at 0 rfl; have d1 := hSw.at 1 rfl; have d2 := hSw.at 2 rfl; have d3 := hSw.at 3 rfl; go_simp; try with_reducible rfl
      try simp only [Act.put, List.setIfInBounds_toArray, List.set_cons_zero, List.set_cons_succ]
      refine take_one 4 40 (v := ?_) rfl rfl (by kernel_rfl) (by kernel_rfl) (by kernel_rfl) (fun _ _ _ h => h) (Or.inl ⟨by rfl, ?_⟩) hHeld ?_
      rotate_left
      · intro w' hSw; (try dsimp only at hSw); have d0 := hSw.at 0 rfl; have d1 := hSw.at 1 rfl; have d2 := hSw.at 2 rfl; have d3 := hSw.at 3 rfl; go_simp; try with_reducible rfl
      try simp only [Act.put, List.setIfInBounds_toArray, List.set_cons_zero, List.set_cons_succ]
      refine take_one 5 41 (v := ?_) rfl rfl (by kernel_rfl) (by kernel_rfl) (by kernel_rfl) (fun _ _ _ h => h) (Or.inl ⟨by rfl, ?_⟩) hHeld ?_
      rotate_left
      · intro w' hSw; (try dsimp only at hSw); have d0 := hSw.at 0 rfl; have d1 := hSw.at 1 rfl; have d2 := hSw.at 2 rfl; have d3 := hSw.at 3 rfl; go_simp; try with_reducible rfl
      try simp only [Act.put, List.setIfInBounds_toArray, List.set_cons_zero, List.set_cons_succ]
      refine take_one 6 42 (v := ?_) rfl rfl (by kernel_rfl) (by kernel_rfl) (by kernel_rfl) (fun _ _ _ h => h) (Or.inl ⟨by rfl, ?_⟩) hHeld ?_
      rotate_left
      · intro w' hSw; (try dsimp only at hSw); have d0 := hSw.at 0 rfl; have d1 := hSw.at 1 rfl; have d2 := hSw.at 2 rfl; have d3 := hSw.at 3 rfl; go_simp; try with_reducible rfl
      try simp only [Act.put, List.setIfInBounds_toArray, List.set_cons_zero, List.set_cons_succ]
      refine take_one 7 43 (v := ?_) rfl rfl (by kernel_rfl) (by kernel_rfl) (by kernel_rfl) (fun _ _ _ h => h) (Or.inl ⟨by rfl, ?_⟩) hHeld ?_
      rotate_left
      · intro w' hSw; (try dsimp only at hSw); have d0 := hSw.at 0 rfl; have d1 := hSw.at 1 rfl; have d2 := hSw.at 2 rfl; have d3 := hSw.at 3 rfl; go_simp; try with_reducible rfl
      try simp only [Act.put, List.setIfInBounds_toArray, List.set_cons_zero, List.set_cons_succ]
      refine take_one 8 44 (v := ?_) rfl rfl (by kernel_rfl) (by kernel_rfl) (by kernel_rfl) (fun _ _ _ h => h) (Or.inl ⟨by rfl, ?_⟩) hHeld ?_
      rotate_left
      · intro w' hSw; (try dsimp only at hSw); have d0 := hSw.at 0 rfl; have d1 := hSw.at 1 rfl; have d2 := hSw.at 2 rfl; have d3 := hSw.at 3 rfl; go_simp; try with_reducible rfl
      try simp only [Act.put, List.setIfInBounds_toArray, List.set_cons_zero, List.set_cons_succ]
      refine take_one 9 45 (v := ?_) rfl rfl (by kernel_rfl) (by kernel_rfl) (by kernel_rfl) (fun _ _ _ h => h) (Or.inl ⟨by rfl, ?_⟩) hHeld ?_
      rotate_left
      · intro w' hSw; (try dsimp only at hSw); have d0 := hSw.at 0 rfl; have d1 := hSw.at 1 rfl; have d2 := hSw.at 2 rfl; have d3 := hSw.at 3 rfl; go_simp; try with_reducible rfl
      try simp only [Act.put, List.setIfInBounds_toArray, List.set_cons_zero, List.set_cons_succ]
      refine wpAnyH_ready (rs := [10]) (by kernel_rfl) (by simp) ?_
      refine AllReadyH.cons (i := 10) rfl (fun K hK => ?_) AllReadyH.nil
      go_simp
      refine hK.out _ _ (QD.alloc (by simpa using hlt) _) (fun hHeld2 => ?_)
      clear hK K hHeld
      have hHeld := hHeld2
      clear hHeld2
      try simp only [Act.put, List.setIfInBounds_toArray, List.set_cons_zero, List.set_cons_succ]
      refine wpAnyH_ready (rs := [11]) (by kernel_rfl) (by simp) ?_
      refine AllReadyH.cons (i := 11) rfl (fun K hK => ?_) AllReadyH.nil
      go_simp
      refine hK.out _ _ Q4 (fun hHeld2 => ?_)
      clear hK K hHeld
      have hHeld := hHeld2
      clear hHeld2
      try simp only [Act.put, List.setIfInBounds_toArray, List.set_cons_zero, List.set_cons_succ]
      refine wpAnyH_done (by kernel_rfl) ?_ _
      try rw [hW4]
      clear hHeld q0 QD hW4 Q3 Q4
      have e0 := D4.at 0 rfl
      have e1 := D4.at 1 rfl
      have e2 := D4.at 2 rfl
      go_wp2_with fail
      refine (spec_authOk c t q _).mono ?_
      rintro en w5 ⟨rfl, hb5⟩
      clear e0 e1 e2
      have D5 := D4.later hb5 Z4.out
      have R5 := R4.later hb5 (Nat.lt_trans Z3.out Z4.out)
      have B5 := B4.trans (hb5.mono B4.size)
      have N5 : Hid (w.heap.size < w3.heap.size) := Z3.out
      clear D4 R4 B4 hb5 R3 B3 Z4 Z3 hlt
      have e0 := D5.at 0 rfl
      have e1 := D5.at 1 rfl
      have e2 := D5.at 2 rfl
      by_cases h0 : aOk c t q = true
      · have hk : raK s key = true := by rw [raK_four hN, h0]; rfl
        obtain ⟨x1, x2, x3⟩ := raV_yes hN hk
        rw [h0]
        have FG := show Hid _ from R5.fill3 B5 (Nat.le_refl _) (.int .i64 c) (.int .i64 t) (.int .i64 q)
        have r0 := R5.at 0 rfl
        have r1 := R5.at 1 rfl
        have r2 := R5.at 2 rfl
        have g0 := R5.fz 0 rfl
        have g1 := R5.fz 1 rfl
        have g2 := R5.fz 2 rfl
        go_wp2
        have G := FG.out
        exact bodyPost_ret (res_ab rfl _ _ w.heap.size _ _ _ (.bool true) rfl rfl (G.1.at 0 rfl) (G.1.at 1 rfl) (G.1.at 2 rfl)) rfl ⟨by rw [x1, x2, x3, hk], G.2⟩
      · rw [Bool.not_eq_true] at h0
        have hk : raK s key = false := by rw [raK_four hN, h0]; rfl
        rw [h0]
        have FG := show Hid _ from R5.fill3 B5 (Nat.le_refl _) (.int .i64 0) (.int .i64 0) (.int .i64 0)
        have r0 := R5.at 0 rfl
        have r1 := R5.at 1 rfl
        have r2 := R5.at 2 rfl
        have g0 := R5.fz 0 rfl
        have g1 := R5.fz 1 rfl
        have g2 := R5.fz 2 rfl
        go_wp2
        have G := FG.out
        exact bodyPost_ret (res_ab rfl _ _ w.heap.size _ _ _ (.bool false) rfl rfl (G.1.at 0 rfl) (G.1.at 1 rfl) (G.1.at 2 rfl)) rfl ⟨by rw [raV_no hk, raV_no hk, raV_no hk, hk], G.2⟩
    · have hk : raK s key = false := by rw [raK_four hN, show (m == 7) = false by simpa using h7]; rfl
      have h7' : (m == 7) = false := by simpa using h7
      have FG := show Hid _ from R3.fill3 B3 (Nat.le_refl _) (.int .i64 0) (.int .i64 0) (.int .i64 0)
      have r0 := R3.at 0 rfl
      have r1 := R3.at 1 rfl
      have r2 := R3.at 2 rfl
      have g0 := R3.fz 0 rfl
      have g1 := R3.fz 1 rfl
      have g2 := R3.fz 2 rfl
      go_wp2
      have G := FG.out
      exact bodyPost_ret (res_ab rfl _ _ w.heap.size _ _ _ (.bool false) rfl rfl (G.1.at 0 rfl) (G.1.at 1 rfl) (G.1.at 2 rfl)) rfl ⟨by rw [raV_no hk, raV_no hk, raV_no hk, hk], G.2⟩
  · have hk : raK s key = false := raK_not (by rw [hN]; exact h4)
    obtain ⟨a, cap, rfl, _, _⟩ := own_row (f := Value.int .i64) ho
    have h4' : ((L.length : Int) == 4) = false := by simp; omega
    clear ho HN
    cases b with
    | false =>
      have FG := show Hid _ from R3.fill3 B3 (Nat.le_refl _) (.int .i64 0) (.int .i64 0) (.int .i64 0)
      have r0 := R3.at 0 rfl
      have r1 := R3.at 1 rfl
      have r2 := R3.at 2 rfl
      have g0 := R3.fz 0 rfl
      have g1 := R3.fz 1 rfl
      have g2 := R3.fz 2 rfl
      go_wp2
      have G := FG.out
      exact bodyPost_ret (res_ab rfl _ _ w.heap.size _ _ _ (.bool false) rfl rfl (G.1.at 0 rfl) (G.1.at 1 rfl) (G.1.at 2 rfl)) rfl ⟨by rw [raV_no hk, raV_no hk, raV_no hk, hk], G.2⟩
    | true =>
      have FG := show Hid _ from R3.fill3 B3 (Nat.le_refl _) (.int .i64 0) (.int .i64 0) (.int .i64 0)
      have r0 := R3.at 0 rfl
      have r1 := R3.at 1 rfl
      have r2 := R3.at 2 rfl
      have g0 := R3.fz 0 rfl
      have g1 := R3.fz 1 rfl
      have g2 := R3.fz 2 rfl
      go_wp2
      have G := FG.out
      exact bodyPost_ret (res_ab rfl _ _ w.heap.size _ _ _ (.bool false) rfl rfl (G.1.at 0 rfl) (G.1.at 1 rfl) (G.1.at 2 rfl)) rfl ⟨by rw [raV_no hk, raV_no hk, raV_no hk, hk], G.2⟩

set_option maxRecDepth 100000 in
set_option maxHeartbeats 1600000 in
theorem eqAuth_is (c t q : Int) (w : World) : Calls Try.prog 23 #[.agg #[.int .i64 c, .int .i64 t, .int .i64 q], .agg #[.int .i64 c, .int .i64 t, .int .i64 q]] w fun en w' => en = .returned (.bool true) ∧ Below w.heap.size w w' := by
  have hb0 : Below w.heap.size w ((w.alloc (.cells #[.int .i64 c, .int .i64 t, .int .i64 q] 42)).alloc (.cells #[.int .i64 c, .int .i64 t, .int .i64 q] 42)) := ((Below.refl _ _).alloc (Nat.le_refl _) _).alloc (by simp) _
  go_enter Try.func23, Try.ntmps23
  go_wp2
  go_ret
  exact ⟨rfl, hb0⟩

set_option maxRecDepth 100000 in
set_option maxHeartbeats 6400000 in
theorem readA_walk (s : ByteArray) (key : Int) (w : World) (hz : s.size ≤ maxLen) : Calls Try.prog 6 #[.string s, .int .i64 key] w fun en w' => en = .returned (.bool true) ∧ Below w.heap.size w w' := by
  by_cases hs : s.size ≤ 1048576
  · have hd : decide ((1048576 : Int) < (s.size : Int)) = false := by simp; omega
    have RS := fun w => specReadA_is s key w hs
    have RI := fun w => implReadA_is s key w hs
    generalize raV s key 1 = c at RS RI
    generalize raV s key 2 = t at RS RI
    generalize raV s key 3 = q at RS RI
    generalize raK s key = kk at RS RI
    go_enter Try.func6, Try.ntmps6
    go_wp2_with fail
    refine (RS _).mono ?_
    rintro en w1 ⟨rfl, hb1⟩
    clear RS
    obtain ⟨W2, hW2⟩ : ∃ W2, w1.alloc (.cells #[.int .i64 c, .int .i64 t, .int .i64 q] 42) = W2 := ⟨_, rfl⟩
    have B2 : Below w.heap.size w W2 := by rw [← hW2]; exact hb1.alloc hb1.size _
    have T2 : Blk w1.heap.size [.int .i64 c, .int .i64 t, .int .i64 q] W2 := by rw [← hW2]; exact Blk.new _ _ _
    have Z2 : Hid (w1.heap.size < W2.heap.size) := by show _ < _; rw [← hW2]; simp
    clear hb1
    go_wp2_with fail
    try rw [hW2]
    refine (RI _).mono ?_
    rintro en w3 ⟨rfl, hb3⟩
    clear RI hW2
    have T3 := T2.later hb3 Z2.out
    have Z3 : w1.heap.size < w3.heap.size := Nat.lt_of_lt_of_le Z2.out hb3.size
    have B3 := B2.trans (hb3.mono B2.size)
    clear T2 Z2 B2 hb3
    obtain ⟨W4, hW4⟩ : ∃ W4, w3.alloc (.cells #[.int .i64 c, .int .i64 t, .int .i64 q] 42) = W4 := ⟨_, rfl⟩
    have B4 : Below w.heap.size w W4 := by rw [← hW4]; exact B3.alloc B3.size _
    have T4 : Blk w1.heap.size [.int .i64 c, .int .i64 t, .int .i64 q] W4 := by rw [← hW4]; exact T3.alloc Z3 _
    have U4 : Blk w3.heap.size [.int .i64 c, .int .i64 t, .int .i64 q] W4 := by rw [← hW4]; exact Blk.new _ _ _
    clear T3 Z3 B3
    have d0 := T4.at 0 rfl
    have d1 := T4.at 1 rfl
    have d2 := T4.at 2 rfl
    have e0 := U4.at 0 rfl
    have e1 := U4.at 1 rfl
    have e2 := U4.at 2 rfl
    go_wp2_with fail
    try rw [hW4]
    refine (eqAuth_is c t q _).mono ?_
    rintro en w5 ⟨rfl, hb5⟩
    have B5 := B4.trans (hb5.mono B4.size)
    clear d0 e0 d1 e1 d2 e2 T4 U4 B4 hb5 hW4
    go_wp2
    go_ret
    exact ⟨rfl, B5⟩
  · have hd : decide ((1048576 : Int) < (s.size : Int)) = true := by simp; omega
    go_enter Try.func6, Try.ntmps6
    go_wp2
    go_ret
    exact ⟨rfl, Below.refl _ _⟩

end Go.Proofs.Ytbkemhclncmicaa
