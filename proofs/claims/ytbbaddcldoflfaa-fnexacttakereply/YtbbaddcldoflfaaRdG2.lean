/- Grants: what a text is read as, by the model; the law. -/
import Derived.Test.YtbbaddcldoflfaaRdG
set_option linter.unusedVariables false
namespace Go.Proofs.Ytbbaddcldoflfaa
open Go Go.RowKit Own Var Term

theorem rg_yes {s : ByteArray} {key : Int} {x0 x1 x2 : ByteArray} (h : (partsR (openR s key).1).1 = [x0, x1, x2]) (ka : (keyR x0).2 = true) (nb : (numsR x1).2 = true) (rk : rdK (numsR x2).1 = true) (sv n : Int) (hw : (numsR x1).1 = [sv, n])
    (hg : gOk (keyR x0).1 sv n (rdA (numsR x2).1) (rdB (numsR x2).1) (rdC (numsR x2).1) = true) : rgK s key = true := by
  rw [rgK_three h, ka, nb, rk, hw]
  show (decide (2 = 2) && _) = true
  simpa using hg
theorem rg_no {s : ByteArray} {key : Int} {x0 x1 x2 : ByteArray} (h : (partsR (openR s key).1).1 = [x0, x1, x2])
    (hn : (keyR x0).2 = false ∨ (numsR x1).2 = false ∨ rdK (numsR x2).1 = false ∨ (numsR x1).1.length ≠ 2 ∨ ∃ sv n, (numsR x1).1 = [sv, n] ∧ gOk (keyR x0).1 sv n (rdA (numsR x2).1) (rdB (numsR x2).1) (rdC (numsR x2).1) = false) : rgK s key = false := by
  rw [rgK_three h]
  rcases hn with e | e | e | e | ⟨sv, n, e, g⟩
  · rw [e]; rfl
  · rw [e]; simp
  · rw [e]; simp
  · rw [decide_eq_false e]; simp
  · rw [e]
    simp only [Bool.and_eq_false_iff]
    exact Or.inr (Or.inr (Or.inr (Or.inr g)))
set_option maxRecDepth 100000 in
set_option maxHeartbeats 12800000 in
theorem specReadG_is (s : ByteArray) (key : Int) (w : World) (hs : s.size ≤ 1048576) : Calls Try.prog 25 #[.string s, .int .i64 key] w fun en w' => en = .returned (.tuple #[.agg #[.int .i64 (rgV s key 0), .int .i64 (rgV s key 1), .int .i64 (rgV s key 2), .int .i64 (rgV s key 3), .int .i64 (rgV s key 4), .int .i64 (rgV s key 5)], .bool (rgK s key)]) ∧ Below w.heap.size w w' := by
  obtain ⟨W1, hW1⟩ : ∃ W1, w.alloc (.cells #[.int .i64 0, .int .i64 0, .int .i64 0, .int .i64 0, .int .i64 0, .int .i64 0] 56) = W1 := ⟨_, rfl⟩
  have B1 : Below w.heap.size w W1 := by rw [← hW1]; exact (Below.refl _ _).alloc (Nat.le_refl _) _
  have R1 : Blk w.heap.size [.int .i64 0, .int .i64 0, .int .i64 0, .int .i64 0, .int .i64 0, .int .i64 0] W1 := by rw [← hW1]; exact Blk.new w #[.int .i64 0, .int .i64 0, .int .i64 0, .int .i64 0, .int .i64 0, .int .i64 0] _
  have Z1 : Hid (w.heap.size < W1.heap.size) := by show _ < _; rw [← hW1]; simp
  have RP := fun w' => spec_parts (openR s key).1 w' (Nat.le_trans (openR_size s key) (by omega))
  have HZ := parts_size (openR s key).1
  have HRG : (partsR (openR s key).1).1.length ≠ 3 → rgK s key = false := rgK_not
  obtain ⟨PL, pb, hP⟩ : ∃ L b, partsR (openR s key).1 = (L, b) := ⟨_, _, rfl⟩
  rw [hP] at RP HZ HRG
  simp only at RP HZ HRG
  go_enter Try.func25, Try.ntmps25
  go_wp2_with fail
  try rw [hW1]
  refine (spec_open s key _ hs).mono ?_
  clear hW1
  rintro en w2 ⟨rfl, hb2⟩
  have R2 := R1.later hb2 Z1.out
  have Z2 : Hid (w.heap.size < w2.heap.size) := Nat.lt_of_lt_of_le Z1.out hb2.size
  have B2 := B1.trans (hb2.mono B1.size)
  clear R1 Z1 B1 hb2
  generalize (openR s key).2 = ob
  go_wp2_with fail
  refine (RP _).mono ?_
  rintro en w3 ⟨v, rfl, ho, hb3⟩
  have R3 := R2.later hb3 Z2.out
  have Z3 : Hid (w.heap.size < w3.heap.size) := Nat.lt_of_lt_of_le Z2.out hb3.size
  have B3 := B2.trans (hb3.mono B2.size)
  clear R2 Z2 B2 hb3 RP
  by_cases h3 : PL.length = 3
  · obtain ⟨x0, x1, x2, rfl⟩ : ∃ x0 x1 x2, PL = [x0, x1, x2] := by
      match PL, h3 with
      | [x0, x1, x2], _ => exact ⟨x0, x1, x2, rfl⟩
    have hP' : (partsR (openR s key).1).1 = [x0, x1, x2] := by rw [hP]
    clear h3 HRG hP
    have z0 : x0.size ≤ 1048576 := Nat.le_trans (HZ x0 (by simp)) (by omega)
    have z1 : x1.size ≤ 1048576 := Nat.le_trans (HZ x1 (by simp)) (by omega)
    have z2 : x2.size ≤ 1048576 := Nat.le_trans (HZ x2 (by simp)) (by omega)
    clear HZ
    obtain ⟨gp, capp, rfl, hcap, hg, hlt, X3⟩ := own_blk (f := Value.string) (xs := [x0, x1, x2]) ho (by simp)
    simp only [List.length_cons, List.length_nil, Nat.zero_add, Nat.reduceAdd] at hcap
    have hc3 : (3 : Int) ≤ (capp : Int) := by omega
    have X3' : Blk gp [.string x0, .string x1, .string x2] w3 := X3
    clear ho hg X3 hcap
    have HK := fun w => spec_readKey x0 w z0
    have HM := fun w => spec_readNums x1 w z1
    have HR := fun w => specRead_is x2 w z2
    have HY := rg_yes hP'
    have HV := fun sv n hw => rgV_three (sv := sv) (n := n) hP' hw
    have HO := rg_no hP'
    have HN := nums_len x1
    generalize (keyR x0).1 = kv at HK HY HV HO
    generalize (keyR x0).2 = ka at HK HY HO
    generalize (numsR x1).1 = NL at HM HY HV HO HN
    generalize (numsR x1).2 = nb at HM HY HO HN
    generalize rdA (numsR x2).1 = ra at HR HY HV HO
    generalize rdB (numsR x2).1 = rb at HR HY HV HO
    generalize rdC (numsR x2).1 = rc at HR HY HV HO
    generalize rdK (numsR x2).1 = rk at HR HY HO
    clear hP' z0 z1 z2
    have q0 := X3'.at 0 rfl
    go_wp2_with fail
    refine (HK _).mono ?_
    rintro en w4 ⟨rfl, hb4⟩
    have R4 := R3.later hb4 Z3.out
    have X4 := X3'.later hb4 hlt
    have Z4 : Hid (w.heap.size < w4.heap.size) := Nat.lt_of_lt_of_le Z3.out hb4.size
    have l4 : gp < w4.heap.size := Nat.lt_of_lt_of_le hlt hb4.size
    have B4 := B3.trans (hb4.mono B3.size)
    clear R3 X3' Z3 hlt B3 hb4 HK q0
    have q0 := X4.at 1 rfl
    go_wp2_with fail
    refine (HM _).mono ?_
    rintro en w5 ⟨v, rfl, ho, hb5⟩
    have R5 := R4.later hb5 Z4.out
    have X5 := X4.later hb5 l4
    have Z5 : Hid (w.heap.size < w5.heap.size) := Nat.lt_of_lt_of_le Z4.out hb5.size
    have B5 := B4.trans (hb5.mono B4.size)
    clear R4 X4 Z4 l4 B4 hb5 HM q0
    have q0 := X5.at 2 rfl
    by_cases h2 : NL.length = 2
    · obtain ⟨sv, n, rfl⟩ : ∃ sv n, NL = [sv, n] := by
        match NL, h2 with
        | [sv, n], _ => exact ⟨sv, n, rfl⟩
      obtain ⟨g5, cap5, rfl, hcap, hg, l5, Q5⟩ := own_blk (f := Value.int .i64) (xs := [sv, n]) ho (by simp)
      simp only [List.length_cons, List.length_nil, Nat.zero_add, Nat.reduceAdd] at hcap
      have hc2 : (2 : Int) ≤ (cap5 : Int) := by omega
      clear ho hg hcap h2
      go_wp2_with fail
      refine (HR _).mono ?_
      rintro en w6 ⟨rfl, hb6⟩
      have R6 := R5.later hb6 Z5.out
      have Q6 : Blk g5 [.int .i64 sv, .int .i64 n] w6 := Q5.later hb6 l5
      have Z6 : w.heap.size < w6.heap.size := Nat.lt_of_lt_of_le Z5.out hb6.size
      have l56 : g5 < w6.heap.size := Nat.lt_of_lt_of_le l5 hb6.size
      have B6 := B5.trans (hb6.mono B5.size)
      clear R5 Q5 Z5 l5 B5 hb6 HR q0 X5
      obtain ⟨W7, hW7⟩ : ∃ W7, w6.alloc (.cells #[.int .i64 ra, .int .i64 rb, .int .i64 rc] 28) = W7 := ⟨_, rfl⟩
      have R7 : Blk w.heap.size [.int .i64 0, .int .i64 0, .int .i64 0, .int .i64 0, .int .i64 0, .int .i64 0] W7 := by rw [← hW7]; exact R6.alloc Z6 _
      have Q7 : Blk g5 [.int .i64 sv, .int .i64 n] W7 := by rw [← hW7]; exact Q6.alloc l56 _
      have E7 : Blk w6.heap.size [.int .i64 ra, .int .i64 rb, .int .i64 rc] W7 := by rw [← hW7]; exact Blk.new w6 _ _
      have Z7 : Hid (w.heap.size < W7.heap.size) := by show _ < _; rw [← hW7]; simp; omega
      have l57 : g5 < W7.heap.size := by rw [← hW7]; simp; omega
      have l67 : w6.heap.size < W7.heap.size := by rw [← hW7]; simp
      have B7 : Below w.heap.size w W7 := by rw [← hW7]; exact B6.alloc B6.size _
      clear R6 Q6 l56 B6
      cases ka with
      | false =>
        have hk := HO (Or.inl rfl)
        clear HY HV HO
        have FG := show Hid _ from R7.fill6 B7 (Nat.le_refl _) (.int .i64 0) (.int .i64 0) (.int .i64 0) (.int .i64 0) (.int .i64 0) (.int .i64 0)
        have r0 := R7.at 0 rfl
        have g0 := R7.fz 0 rfl
        have r1 := R7.at 1 rfl
        have g1 := R7.fz 1 rfl
        have r2 := R7.at 2 rfl
        have g2 := R7.fz 2 rfl
        have r3 := R7.at 3 rfl
        have g3 := R7.fz 3 rfl
        have r4 := R7.at 4 rfl
        have g4 := R7.fz 4 rfl
        have r5 := R7.at 5 rfl
        have g5 := R7.fz 5 rfl
        go_wp2
        have G := FG.out
        exact bodyPost_ret (res_gb rfl _ _ w.heap.size _ _ _ _ _ _ (.bool false) rfl rfl (G.1.at 0 rfl) (G.1.at 1 rfl) (G.1.at 2 rfl) (G.1.at 3 rfl) (G.1.at 4 rfl) (G.1.at 5 rfl)) rfl ⟨by rw [rgV_no hk, rgV_no hk, rgV_no hk, rgV_no hk, rgV_no hk, rgV_no hk, hk], G.2⟩
      | true =>
        cases nb with
        | false => have := HN rfl; cases this
        | true =>
        cases rk with
        | false =>
          have hk := HO (Or.inr (Or.inr (Or.inl rfl)))
          clear HY HV HO
          have FG := show Hid _ from R7.fill6 B7 (Nat.le_refl _) (.int .i64 0) (.int .i64 0) (.int .i64 0) (.int .i64 0) (.int .i64 0) (.int .i64 0)
          have r0 := R7.at 0 rfl
          have g0 := R7.fz 0 rfl
          have r1 := R7.at 1 rfl
          have g1 := R7.fz 1 rfl
          have r2 := R7.at 2 rfl
          have g2 := R7.fz 2 rfl
          have r3 := R7.at 3 rfl
          have g3 := R7.fz 3 rfl
          have r4 := R7.at 4 rfl
          have g4 := R7.fz 4 rfl
          have r5 := R7.at 5 rfl
          have g5 := R7.fz 5 rfl
          go_wp2
          have G := FG.out
          exact bodyPost_ret (res_gb rfl _ _ w.heap.size _ _ _ _ _ _ (.bool false) rfl rfl (G.1.at 0 rfl) (G.1.at 1 rfl) (G.1.at 2 rfl) (G.1.at 3 rfl) (G.1.at 4 rfl) (G.1.at 5 rfl)) rfl ⟨by rw [rgV_no hk, rgV_no hk, rgV_no hk, rgV_no hk, rgV_no hk, rgV_no hk, hk], G.2⟩
        | true =>
          obtain ⟨W8, hW8⟩ : ∃ W8, (W7.alloc (.cells #[.int .i64 kv, .int .i64 sv, .int .i64 n, .int .i64 ra, .int .i64 rb, .int .i64 rc] 56)).drew = W8 := ⟨_, rfl⟩
          have R8 : Blk w.heap.size [.int .i64 0, .int .i64 0, .int .i64 0, .int .i64 0, .int .i64 0, .int .i64 0] W8 := by rw [← hW8]; exact (R7.alloc Z7.out _).drew
          have Q8 : Blk g5 [.int .i64 sv, .int .i64 n] W8 := by rw [← hW8]; exact (Q7.alloc l57 _).drew
          have E8 : Blk w6.heap.size [.int .i64 ra, .int .i64 rb, .int .i64 rc] W8 := by rw [← hW8]; exact (E7.alloc l67 _).drew
          have D8 : Blk W7.heap.size [.int .i64 kv, .int .i64 sv, .int .i64 n, .int .i64 ra, .int .i64 rb, .int .i64 rc] W8 := by rw [← hW8]; exact (Blk.new W7 #[.int .i64 kv, .int .i64 sv, .int .i64 n, .int .i64 ra, .int .i64 rb, .int .i64 rc] _).drew
          have Z8 : Hid (W7.heap.size < W8.heap.size) := by show _ < _; rw [← hW8]; simp
          have B8 : Below w.heap.size w W8 := by rw [← hW8]; exact (B7.alloc B7.size _).drew
          go_wp2_with fail
          try rw [hW7]
          refine wp_region_held_drew (S := (fun Vw => Blk g5 [.int .i64 sv, .int .i64 n] Vw ∧ Blk w6.heap.size [.int .i64 ra, .int .i64 rb, .int .i64 rc] Vw)) (by kernel_rfl) ⟨Q7.drew, E7.drew⟩ (fun hHeld => ?_)
          refine take_one 0 69 (v := ?_) rfl rfl (by kernel_rfl) (by kernel_rfl) (by kernel_rfl) (fun _ _ _ h => h) (Or.inl ⟨by rfl, ?_⟩) hHeld ?_
          rotate_left
          · intro w' hSw; (try dsimp only at hSw); have d0 := hSw.1.at 0 rfl; have d1 := hSw.1.at 1 rfl; have e0 := hSw.2.at 0 rfl; have e1 := hSw.2.at 1 rfl; have e2 := hSw.2.at 2 rfl; go_simp; try with_reducible rfl
          try simp only [Act.put, List.setIfInBounds_toArray, List.set_cons_zero, List.set_cons_succ]
          refine take_one 1 70 (v := ?_) rfl rfl (by kernel_rfl) (by kernel_rfl) (by kernel_rfl) (fun _ _ _ h => h) (Or.inl ⟨by rfl, ?_⟩) hHeld ?_
          rotate_left
          · intro w' hSw; (try dsimp only at hSw); have d0 := hSw.1.at 0 rfl; have d1 := hSw.1.at 1 rfl; have e0 := hSw.2.at 0 rfl; have e1 := hSw.2.at 1 rfl; have e2 := hSw.2.at 2 rfl; go_simp; try with_reducible rfl
          try simp only [Act.put, List.setIfInBounds_toArray, List.set_cons_zero, List.set_cons_succ]
          refine take_one 2 71 (v := ?_) rfl rfl (by kernel_rfl) (by kernel_rfl) (by kernel_rfl) (fun _ _ _ h => h) (Or.inl ⟨by rfl, ?_⟩) hHeld ?_
          rotate_left
          · intro w' hSw; (try dsimp only at hSw); have d0 := hSw.1.at 0 rfl; have d1 := hSw.1.at 1 rfl; have e0 := hSw.2.at 0 rfl; have e1 := hSw.2.at 1 rfl; have e2 := hSw.2.at 2 rfl; go_simp; try with_reducible rfl
          try simp only [Act.put, List.setIfInBounds_toArray, List.set_cons_zero, List.set_cons_succ]
          refine take_one 3 72 (v := ?_) rfl rfl (by kernel_rfl) (by kernel_rfl) (by kernel_rfl) (fun _ _ _ h => h) (Or.inl ⟨by rfl, ?_⟩) hHeld ?_
          rotate_left
          · intro w' hSw; (try dsimp only at hSw); have d0 := hSw.1.at 0 rfl; have d1 := hSw.1.at 1 rfl; have e0 := hSw.2.at 0 rfl; have e1 := hSw.2.at 1 rfl; have e2 := hSw.2.at 2 rfl; go_simp; try with_reducible rfl
          try simp only [Act.put, List.setIfInBounds_toArray, List.set_cons_zero, List.set_cons_succ]
          refine take_one 4 73 (v := ?_) rfl rfl (by kernel_rfl) (by kernel_rfl) (by kernel_rfl) (fun _ _ _ h => h) (Or.inl ⟨by rfl, ?_⟩) hHeld ?_
          rotate_left
          · intro w' hSw; (try dsimp only at hSw); have d0 := hSw.1.at 0 rfl; have d1 := hSw.1.at 1 rfl; have e0 := hSw.2.at 0 rfl; have e1 := hSw.2.at 1 rfl; have e2 := hSw.2.at 2 rfl; go_simp; try with_reducible rfl
          try simp only [Act.put, List.setIfInBounds_toArray, List.set_cons_zero, List.set_cons_succ]
          refine take_one 5 74 (v := ?_) rfl rfl (by kernel_rfl) (by kernel_rfl) (by kernel_rfl) (fun _ _ _ h => h) (Or.inl ⟨by rfl, ?_⟩) hHeld ?_
          rotate_left
          · intro w' hSw; (try dsimp only at hSw); have d0 := hSw.1.at 0 rfl; have d1 := hSw.1.at 1 rfl; have e0 := hSw.2.at 0 rfl; have e1 := hSw.2.at 1 rfl; have e2 := hSw.2.at 2 rfl; go_simp; try with_reducible rfl
          try simp only [Act.put, List.setIfInBounds_toArray, List.set_cons_zero, List.set_cons_succ]
          refine take_one 6 75 (v := ?_) rfl rfl (by kernel_rfl) (by kernel_rfl) (by kernel_rfl) (fun _ _ _ h => h) (Or.inl ⟨by rfl, ?_⟩) hHeld ?_
          rotate_left
          · intro w' hSw; (try dsimp only at hSw); have d0 := hSw.1.at 0 rfl; have d1 := hSw.1.at 1 rfl; have e0 := hSw.2.at 0 rfl; have e1 := hSw.2.at 1 rfl; have e2 := hSw.2.at 2 rfl; go_simp; try with_reducible rfl
          try simp only [Act.put, List.setIfInBounds_toArray, List.set_cons_zero, List.set_cons_succ]
          refine take_one 7 76 (v := ?_) rfl rfl (by kernel_rfl) (by kernel_rfl) (by kernel_rfl) (fun _ _ _ h => h) (Or.inl ⟨by rfl, ?_⟩) hHeld ?_
          rotate_left
          · intro w' hSw; (try dsimp only at hSw); have d0 := hSw.1.at 0 rfl; have d1 := hSw.1.at 1 rfl; have e0 := hSw.2.at 0 rfl; have e1 := hSw.2.at 1 rfl; have e2 := hSw.2.at 2 rfl; go_simp; try with_reducible rfl
          try simp only [Act.put, List.setIfInBounds_toArray, List.set_cons_zero, List.set_cons_succ]
          refine take_one 8 77 (v := ?_) rfl rfl (by kernel_rfl) (by kernel_rfl) (by kernel_rfl) (fun _ _ _ h => h) (Or.inl ⟨by rfl, ?_⟩) hHeld ?_
          rotate_left
          · intro w' hSw; (try dsimp only at hSw); have d0 := hSw.1.at 0 rfl; have d1 := hSw.1.at 1 rfl; have e0 := hSw.2.at 0 rfl; have e1 := hSw.2.at 1 rfl; have e2 := hSw.2.at 2 rfl; go_simp; try with_reducible rfl
          try simp only [Act.put, List.setIfInBounds_toArray, List.set_cons_zero, List.set_cons_succ]
          refine wpAnyH_ready (rs := [9]) (by kernel_rfl) (by simp) ?_
          refine AllReadyH.cons (i := 9) rfl (fun K hK => ?_) AllReadyH.nil
          go_simp
          refine hK.out _ _ ⟨(Q7.drew.alloc (by simpa using l57) _), (E7.drew.alloc (by simpa using l67) _)⟩ (fun hHeld2 => ?_)
          clear hK K hHeld
          have hHeld := hHeld2
          clear hHeld2
          try simp only [Act.put, List.setIfInBounds_toArray, List.set_cons_zero, List.set_cons_succ]
          refine wpAnyH_ready (rs := [10]) (by kernel_rfl) (by simp) ?_
          refine AllReadyH.cons (i := 10) rfl (fun K hK => ?_) AllReadyH.nil
          go_simp
          refine hK.out _ _ ⟨Q8, E8⟩ (fun hHeld2 => ?_)
          clear hK K hHeld
          have hHeld := hHeld2
          clear hHeld2
          try simp only [Act.put, List.setIfInBounds_toArray, List.set_cons_zero, List.set_cons_succ]
          refine wpAnyH_done (by kernel_rfl) ?_ _
          try rw [hW8]
          clear hHeld hW7 hW8 Q7 E7 Q8 E8 R7 B7
          have e0 := D8.at 0 rfl
          have e1 := D8.at 1 rfl
          have e2 := D8.at 2 rfl
          have e3 := D8.at 3 rfl
          have e4 := D8.at 4 rfl
          have e5 := D8.at 5 rfl
          go_wp2_with fail
          refine (spec_grantOk kv sv n ra rb rc _).mono ?_
          rintro en w9 ⟨rfl, hb9⟩
          clear e0 e1 e2 e3 e4 e5
          have D9 := D8.later hb9 Z8.out
          have R9 := R8.later hb9 (Nat.lt_trans Z7.out Z8.out)
          have B9 := B8.trans (hb9.mono B8.size)
          have N9 : Hid (w.heap.size < W7.heap.size) := Z7
          clear D8 R8 B8 hb9 Z8 Z7
          have e0 := D9.at 0 rfl
          have e1 := D9.at 1 rfl
          have e2 := D9.at 2 rfl
          have e3 := D9.at 3 rfl
          have e4 := D9.at 4 rfl
          have e5 := D9.at 5 rfl
          by_cases h0 : gOk kv sv n ra rb rc = true
          · have hk := HY (by trivial) (by trivial) (by trivial) sv n rfl h0
            obtain ⟨y0, y1, y2, y3, y4, y5⟩ := HV sv n rfl hk
            clear HY HV HO
            rw [h0]
            have FG := show Hid _ from R9.fill6 B9 (Nat.le_refl _) (.int .i64 kv) (.int .i64 sv) (.int .i64 n) (.int .i64 ra) (.int .i64 rb) (.int .i64 rc)
            have r0 := R9.at 0 rfl
            have g0 := R9.fz 0 rfl
            have r1 := R9.at 1 rfl
            have g1 := R9.fz 1 rfl
            have r2 := R9.at 2 rfl
            have g2 := R9.fz 2 rfl
            have r3 := R9.at 3 rfl
            have g3 := R9.fz 3 rfl
            have r4 := R9.at 4 rfl
            have g4 := R9.fz 4 rfl
            have r5 := R9.at 5 rfl
            have g5 := R9.fz 5 rfl
            go_wp2
            have G := FG.out
            exact bodyPost_ret (res_gb rfl _ _ w.heap.size _ _ _ _ _ _ (.bool true) rfl rfl (G.1.at 0 rfl) (G.1.at 1 rfl) (G.1.at 2 rfl) (G.1.at 3 rfl) (G.1.at 4 rfl) (G.1.at 5 rfl)) rfl ⟨by rw [y0, y1, y2, y3, y4, y5, hk], G.2⟩
          · rw [Bool.not_eq_true] at h0
            have hk := HO (Or.inr (Or.inr (Or.inr (Or.inr ⟨sv, n, rfl, h0⟩))))
            clear HY HV HO
            rw [h0]
            have FG := show Hid _ from R9.fill6 B9 (Nat.le_refl _) (.int .i64 0) (.int .i64 0) (.int .i64 0) (.int .i64 0) (.int .i64 0) (.int .i64 0)
            have r0 := R9.at 0 rfl
            have g0 := R9.fz 0 rfl
            have r1 := R9.at 1 rfl
            have g1 := R9.fz 1 rfl
            have r2 := R9.at 2 rfl
            have g2 := R9.fz 2 rfl
            have r3 := R9.at 3 rfl
            have g3 := R9.fz 3 rfl
            have r4 := R9.at 4 rfl
            have g4 := R9.fz 4 rfl
            have r5 := R9.at 5 rfl
            have g5 := R9.fz 5 rfl
            go_wp2
            have G := FG.out
            exact bodyPost_ret (res_gb rfl _ _ w.heap.size _ _ _ _ _ _ (.bool false) rfl rfl (G.1.at 0 rfl) (G.1.at 1 rfl) (G.1.at 2 rfl) (G.1.at 3 rfl) (G.1.at 4 rfl) (G.1.at 5 rfl)) rfl ⟨by rw [rgV_no hk, rgV_no hk, rgV_no hk, rgV_no hk, rgV_no hk, rgV_no hk, hk], G.2⟩
    · have hk := HO (Or.inr (Or.inr (Or.inr (Or.inl h2))))
      obtain ⟨a, cap, rfl, _, _⟩ := own_row (f := Value.int .i64) ho
      have h2' : ((NL.length : Int) == 2) = false := by simp; omega
      clear ho HN HY HV HO
      go_wp2_with fail
      refine (HR _).mono ?_
      rintro en w6 ⟨rfl, hb6⟩
      have R6 := R5.later hb6 Z5.out
      have Z6 : w.heap.size < w6.heap.size := Nat.lt_of_lt_of_le Z5.out hb6.size
      have B6 := B5.trans (hb6.mono B5.size)
      clear R5 Z5 B5 hb6 HR q0 X5
      obtain ⟨W7, hW7⟩ : ∃ W7, w6.alloc (.cells #[.int .i64 ra, .int .i64 rb, .int .i64 rc] 28) = W7 := ⟨_, rfl⟩
      have R7 : Blk w.heap.size [.int .i64 0, .int .i64 0, .int .i64 0, .int .i64 0, .int .i64 0, .int .i64 0] W7 := by rw [← hW7]; exact R6.alloc Z6 _
      have B7 : Below w.heap.size w W7 := by rw [← hW7]; exact B6.alloc B6.size _
      clear R6 B6
      cases ka with
      | false =>
        have FG := show Hid _ from R7.fill6 B7 (Nat.le_refl _) (.int .i64 0) (.int .i64 0) (.int .i64 0) (.int .i64 0) (.int .i64 0) (.int .i64 0)
        have r0 := R7.at 0 rfl
        have g0 := R7.fz 0 rfl
        have r1 := R7.at 1 rfl
        have g1 := R7.fz 1 rfl
        have r2 := R7.at 2 rfl
        have g2 := R7.fz 2 rfl
        have r3 := R7.at 3 rfl
        have g3 := R7.fz 3 rfl
        have r4 := R7.at 4 rfl
        have g4 := R7.fz 4 rfl
        have r5 := R7.at 5 rfl
        have g5 := R7.fz 5 rfl
        go_wp2
        have G := FG.out
        exact bodyPost_ret (res_gb rfl _ _ w.heap.size _ _ _ _ _ _ (.bool false) rfl rfl (G.1.at 0 rfl) (G.1.at 1 rfl) (G.1.at 2 rfl) (G.1.at 3 rfl) (G.1.at 4 rfl) (G.1.at 5 rfl)) rfl ⟨by rw [rgV_no hk, rgV_no hk, rgV_no hk, rgV_no hk, rgV_no hk, rgV_no hk, hk], G.2⟩
      | true =>
        cases nb with
        | false =>
          have FG := show Hid _ from R7.fill6 B7 (Nat.le_refl _) (.int .i64 0) (.int .i64 0) (.int .i64 0) (.int .i64 0) (.int .i64 0) (.int .i64 0)
          have r0 := R7.at 0 rfl
          have g0 := R7.fz 0 rfl
          have r1 := R7.at 1 rfl
          have g1 := R7.fz 1 rfl
          have r2 := R7.at 2 rfl
          have g2 := R7.fz 2 rfl
          have r3 := R7.at 3 rfl
          have g3 := R7.fz 3 rfl
          have r4 := R7.at 4 rfl
          have g4 := R7.fz 4 rfl
          have r5 := R7.at 5 rfl
          have g5 := R7.fz 5 rfl
          go_wp2
          have G := FG.out
          exact bodyPost_ret (res_gb rfl _ _ w.heap.size _ _ _ _ _ _ (.bool false) rfl rfl (G.1.at 0 rfl) (G.1.at 1 rfl) (G.1.at 2 rfl) (G.1.at 3 rfl) (G.1.at 4 rfl) (G.1.at 5 rfl)) rfl ⟨by rw [rgV_no hk, rgV_no hk, rgV_no hk, rgV_no hk, rgV_no hk, rgV_no hk, hk], G.2⟩
        | true =>
          cases rk with
          | false =>
            have FG := show Hid _ from R7.fill6 B7 (Nat.le_refl _) (.int .i64 0) (.int .i64 0) (.int .i64 0) (.int .i64 0) (.int .i64 0) (.int .i64 0)
            have r0 := R7.at 0 rfl
            have g0 := R7.fz 0 rfl
            have r1 := R7.at 1 rfl
            have g1 := R7.fz 1 rfl
            have r2 := R7.at 2 rfl
            have g2 := R7.fz 2 rfl
            have r3 := R7.at 3 rfl
            have g3 := R7.fz 3 rfl
            have r4 := R7.at 4 rfl
            have g4 := R7.fz 4 rfl
            have r5 := R7.at 5 rfl
            have g5 := R7.fz 5 rfl
            go_wp2
            have G := FG.out
            exact bodyPost_ret (res_gb rfl _ _ w.heap.size _ _ _ _ _ _ (.bool false) rfl rfl (G.1.at 0 rfl) (G.1.at 1 rfl) (G.1.at 2 rfl) (G.1.at 3 rfl) (G.1.at 4 rfl) (G.1.at 5 rfl)) rfl ⟨by rw [rgV_no hk, rgV_no hk, rgV_no hk, rgV_no hk, rgV_no hk, rgV_no hk, hk], G.2⟩
          | true =>
            have FG := show Hid _ from R7.fill6 B7 (Nat.le_refl _) (.int .i64 0) (.int .i64 0) (.int .i64 0) (.int .i64 0) (.int .i64 0) (.int .i64 0)
            have r0 := R7.at 0 rfl
            have g0 := R7.fz 0 rfl
            have r1 := R7.at 1 rfl
            have g1 := R7.fz 1 rfl
            have r2 := R7.at 2 rfl
            have g2 := R7.fz 2 rfl
            have r3 := R7.at 3 rfl
            have g3 := R7.fz 3 rfl
            have r4 := R7.at 4 rfl
            have g4 := R7.fz 4 rfl
            have r5 := R7.at 5 rfl
            have g5 := R7.fz 5 rfl
            go_wp2
            have G := FG.out
            exact bodyPost_ret (res_gb rfl _ _ w.heap.size _ _ _ _ _ _ (.bool false) rfl rfl (G.1.at 0 rfl) (G.1.at 1 rfl) (G.1.at 2 rfl) (G.1.at 3 rfl) (G.1.at 4 rfl) (G.1.at 5 rfl)) rfl ⟨by rw [rgV_no hk, rgV_no hk, rgV_no hk, rgV_no hk, rgV_no hk, rgV_no hk, hk], G.2⟩
  · have hk := HRG h3
    obtain ⟨a, cap, rfl, _, _⟩ := own_row (f := Value.string) ho
    have h3' : ((PL.length : Int) == 3) = false := by simp; omega
    clear ho
    have FG := show Hid _ from R3.fill6 B3 (Nat.le_refl _) (.int .i64 0) (.int .i64 0) (.int .i64 0) (.int .i64 0) (.int .i64 0) (.int .i64 0)
    have r0 := R3.at 0 rfl
    have g0 := R3.fz 0 rfl
    have r1 := R3.at 1 rfl
    have g1 := R3.fz 1 rfl
    have r2 := R3.at 2 rfl
    have g2 := R3.fz 2 rfl
    have r3 := R3.at 3 rfl
    have g3 := R3.fz 3 rfl
    have r4 := R3.at 4 rfl
    have g4 := R3.fz 4 rfl
    have r5 := R3.at 5 rfl
    have g5 := R3.fz 5 rfl
    go_wp2
    have G := FG.out
    exact bodyPost_ret (res_gb rfl _ _ w.heap.size _ _ _ _ _ _ (.bool false) rfl rfl (G.1.at 0 rfl) (G.1.at 1 rfl) (G.1.at 2 rfl) (G.1.at 3 rfl) (G.1.at 4 rfl) (G.1.at 5 rfl)) rfl ⟨by rw [rgV_no hk, rgV_no hk, rgV_no hk, rgV_no hk, rgV_no hk, rgV_no hk, hk], G.2⟩
end Go.Proofs.Ytbbaddcldoflfaa
