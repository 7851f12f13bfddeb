/- Sizes. -/
import Derived.Test.YtflajkbbggmdjaaNd0
set_option linter.unusedVariables false
set_option maxRecDepth 100000
namespace Go.Proofs.Ytflajkbbggmdjaa.Nd
open Go Go.RowKit Go.Joins Own Draw

set_option maxRecDepth 100000 in
theorem szFI_is (a : Option Addr) (l cap : Nat) (n : Nat) (w : World) (hn : n ≤ 1048576) (hl : l ≤ maxLen) :
    Calls Try.prog 23 #[.slice a l cap, .int .i64 n] w fun en w' => en = .returned (.int .i64 (if l ≤ n then ((n - l : Nat) : Int) else -1)) ∧ w = w' := by
  unfold maxLen at hl
  by_cases h : l ≤ n
  · have hd : ¬ ((n : Int) - (l : Int) < 0) := by omega
    have hw : ((n : Int) - (l : Int)) = ((n - l : Nat) : Int) := by omega
    rw [if_pos h]
    go_enter Try.func23, Try.ntmps23
    go_wp2
    go_ret
    exact ⟨by rw [← hw]; rfl, rfl⟩
  · have hd : ((n : Int) - (l : Int) < 0) := by omega
    rw [if_neg h]
    go_enter Try.func23, Try.ntmps23
    go_wp2
    go_ret
    exact ⟨rfl, rfl⟩
theorem szSI_is (r : Rw Int) (n : Nat) (w : World) (hn : n ≤ 1048576) (hd : RpI w r) (hl : RlI r) : Calls Try.prog 23 #[.slice r.1 r.2.2.length r.2.1, .int .i64 n] w fun en w' => en = .returned (.int .i64 (szV (rtI r) n)) ∧ Below w.heap.size w w' :=
  (szFI_is r.1 r.2.2.length r.2.1 n w hn hl).mono fun e w' h => ⟨h.1, h.2 ▸ Below.refl _ _⟩
set_option maxRecDepth 100000 in
theorem szFP_is (a : Option Addr) (l cap : Nat) (n : Nat) (w : World) (hn : n ≤ 1048576) (hl : l ≤ maxLen) :
    Calls Try.prog 24 #[.slice a l cap, .int .i64 n] w fun en w' => en = .returned (.int .i64 (if l ≤ n then ((n - l : Nat) : Int) else -1)) ∧ w = w' := by
  unfold maxLen at hl
  by_cases h : l ≤ n
  · have hd : ¬ ((n : Int) - (l : Int) < 0) := by omega
    have hw : ((n : Int) - (l : Int)) = ((n - l : Nat) : Int) := by omega
    rw [if_pos h]
    go_enter Try.func24, Try.ntmps24
    go_wp2
    go_ret
    exact ⟨by rw [← hw]; rfl, rfl⟩
  · have hd : ((n : Int) - (l : Int) < 0) := by omega
    rw [if_neg h]
    go_enter Try.func24, Try.ntmps24
    go_wp2
    go_ret
    exact ⟨rfl, rfl⟩
theorem szSP_is (r : Rw TP) (n : Nat) (w : World) (hn : n ≤ 1048576) (hd : RpP w r) (hl : RlP r) : Calls Try.prog 24 #[.slice r.1 r.2.2.length r.2.1, .int .i64 n] w fun en w' => en = .returned (.int .i64 (szV (rtP r) n)) ∧ Below w.heap.size w w' :=
  (szFP_is r.1 r.2.2.length r.2.1 n w hn hl).mono fun e w' h => ⟨h.1, h.2 ▸ Below.refl _ _⟩
set_option maxRecDepth 100000 in
set_option maxHeartbeats 3200000 in
theorem szF_is (p : TF) (n : Nat) (w : World) (hn : n ≤ 1048576) (hd : DpF w p) (hl : LmF p) : Calls Try.prog 6 #[vF p, .int .i64 n] w fun en w' => en = .returned (.int .i64 (szV (totF p) n)) ∧ Below w.heap.size w w' := by
  obtain ⟨f0, f1, f2, f3, f4⟩ := p
  have HT : Hid (totF (f0, f1, f2, f3, f4) = rtI f0 + rtI f1 + rtP f2 + rtP f3) := (rfl : totF (f0, f1, f2, f3, f4) = _)
  unfold LmF at hl
  dsimp only at hl
  obtain ⟨hl0, hl1, hl2, hl3⟩ := hl
  unfold DpF at hd
  dsimp only at hd
  obtain ⟨hd0, hd1, hd2, hd3⟩ := hd
  obtain ⟨V, hV⟩ : ∃ V, w.alloc (.cells #[.slice f0.1 f0.2.2.length f0.2.1, .slice f1.1 f1.2.2.length f1.2.1, .slice f2.1 f2.2.2.length f2.2.1, .slice f3.1 f3.2.2.length f3.2.1, .int .i64 f4] 25) = V := ⟨_, rfl⟩
  have TA : Blk w.heap.size [.slice f0.1 f0.2.2.length f0.2.1, .slice f1.1 f1.2.2.length f1.2.1, .slice f2.1 f2.2.2.length f2.2.1, .slice f3.1 f3.2.2.length f3.2.1, .int .i64 f4] V := by rw [← hV]; exact Blk.new _ _ _
  have BC : Below w.heap.size w V := by rw [← hV]; exact (Below.refl _ _).alloc (Nat.le_refl _) _
  have d0 := TA.at 0 rfl
  have d1 := TA.at 1 rfl
  have d2 := TA.at 2 rfl
  have d3 := TA.at 3 rfl
  go_enter Try.func6, Try.ntmps6
  go_wp2_with fail
  try rw [hV]
  refine (szSI_is f0 n _ (by omega) (hd0.later BC) hl0).mono ?_
  clear hV
  rintro en v0 ⟨rfl, hb⟩
  replace TA := TA.later hb (World.block_lt_of_cell? _ _ (TA.at 0 rfl))
  replace BC := BC.trans (hb.mono BC.size)
  clear hb d0 d1 d2 d3
  have d0 := TA.at 0 rfl
  have d1 := TA.at 1 rfl
  have d2 := TA.at 2 rfl
  have d3 := TA.at 3 rfl
  by_cases h0 : rtI f0 ≤ n
  · rw [show szV (rtI f0) n = ((n - rtI f0 : Nat) : Int) from if_pos h0]
    obtain ⟨q0, hq0⟩ : ∃ q : Nat, n - rtI f0 = q := ⟨_, rfl⟩
    rw [hq0]
    have g0 : ¬ ((q0 : Int) < 0) := by omega
    have gl0 : q0 ≤ 1048576 := by omega
    replace hq0 : Hid (n - rtI f0 = q0) := hq0
    go_wp2_with fail
    try rw [hV]
    refine (szSI_is f1 q0 _ (by omega) (hd1.later BC) hl1).mono ?_
    rintro en v1 ⟨rfl, hb⟩
    replace TA := TA.later hb (World.block_lt_of_cell? _ _ (TA.at 0 rfl))
    replace BC := BC.trans (hb.mono BC.size)
    clear hb d0 d1 d2 d3
    have d0 := TA.at 0 rfl
    have d1 := TA.at 1 rfl
    have d2 := TA.at 2 rfl
    have d3 := TA.at 3 rfl
    by_cases h1 : rtI f1 ≤ q0
    · rw [show szV (rtI f1) q0 = ((q0 - rtI f1 : Nat) : Int) from if_pos h1]
      obtain ⟨q1, hq1⟩ : ∃ q : Nat, q0 - rtI f1 = q := ⟨_, rfl⟩
      rw [hq1]
      have g1 : ¬ ((q1 : Int) < 0) := by omega
      have gl1 : q1 ≤ 1048576 := by omega
      replace hq1 : Hid (q0 - rtI f1 = q1) := hq1
      go_wp2_with fail
      try rw [hV]
      refine (szSP_is f2 q1 _ (by omega) (hd2.later BC) hl2).mono ?_
      rintro en v2 ⟨rfl, hb⟩
      replace TA := TA.later hb (World.block_lt_of_cell? _ _ (TA.at 0 rfl))
      replace BC := BC.trans (hb.mono BC.size)
      clear hb d0 d1 d2 d3
      have d0 := TA.at 0 rfl
      have d1 := TA.at 1 rfl
      have d2 := TA.at 2 rfl
      have d3 := TA.at 3 rfl
      by_cases h2 : rtP f2 ≤ q1
      · rw [show szV (rtP f2) q1 = ((q1 - rtP f2 : Nat) : Int) from if_pos h2]
        obtain ⟨q2, hq2⟩ : ∃ q : Nat, q1 - rtP f2 = q := ⟨_, rfl⟩
        rw [hq2]
        have g2 : ¬ ((q2 : Int) < 0) := by omega
        have gl2 : q2 ≤ 1048576 := by omega
        replace hq2 : Hid (q1 - rtP f2 = q2) := hq2
        go_wp2_with fail
        try rw [hV]
        refine (szSP_is f3 q2 _ (by omega) (hd3.later BC) hl3).mono ?_
        rintro en v3 ⟨rfl, hb⟩
        replace TA := TA.later hb (World.block_lt_of_cell? _ _ (TA.at 0 rfl))
        replace BC := BC.trans (hb.mono BC.size)
        clear hb d0 d1 d2 d3
        have d0 := TA.at 0 rfl
        have d1 := TA.at 1 rfl
        have d2 := TA.at 2 rfl
        have d3 := TA.at 3 rfl
        by_cases h3 : rtP f3 ≤ q2
        · rw [show szV (rtP f3) q2 = ((q2 - rtP f3 : Nat) : Int) from if_pos h3]
          obtain ⟨q3, hq3⟩ : ∃ q : Nat, q2 - rtP f3 = q := ⟨_, rfl⟩
          rw [hq3]
          have g3 : ¬ ((q3 : Int) < 0) := by omega
          have gl3 : q3 ≤ 1048576 := by omega
          replace hq3 : Hid (q2 - rtP f3 = q3) := hq3
          have HE : Hid (szV (totF (f0, f1, f2, f3, f4)) n = (q3 : Int)) := by
            have hT := HT.out; have := hq0.out; have := hq1.out; have := hq2.out; have := hq3.out
            show (if _ then _ else _) = _
            rw [if_pos (by omega)]; omega
          go_wp2
          go_ret
          exact ⟨by rw [HE.out]; rfl, BC⟩
        · have HE : Hid (szV (totF (f0, f1, f2, f3, f4)) n = -1) := by
            have hT := HT.out; have := hq0.out; have := hq1.out; have := hq2.out
            show (if _ then _ else _) = _
            exact if_neg (by omega)
          rw [show szV (rtP f3) q2 = -1 from if_neg h3]
          go_wp2
          go_ret
          exact ⟨by rw [HE.out]; rfl, BC⟩
      · have HE : Hid (szV (totF (f0, f1, f2, f3, f4)) n = -1) := by
          have hT := HT.out; have := hq0.out; have := hq1.out
          show (if _ then _ else _) = _
          exact if_neg (by omega)
        rw [show szV (rtP f2) q1 = -1 from if_neg h2]
        go_wp2
        go_ret
        exact ⟨by rw [HE.out]; rfl, BC⟩
    · have HE : Hid (szV (totF (f0, f1, f2, f3, f4)) n = -1) := by
        have hT := HT.out; have := hq0.out
        show (if _ then _ else _) = _
        exact if_neg (by omega)
      rw [show szV (rtI f1) q0 = -1 from if_neg h1]
      go_wp2
      go_ret
      exact ⟨by rw [HE.out]; rfl, BC⟩
  · have HE : Hid (szV (totF (f0, f1, f2, f3, f4)) n = -1) := by
      have hT := HT.out
      show (if _ then _ else _) = _
      exact if_neg (by omega)
    rw [show szV (rtI f0) n = -1 from if_neg h0]
    go_wp2
    go_ret
    exact ⟨by rw [HE.out]; rfl, BC⟩
end Go.Proofs.Ytflajkbbggmdjaa.Nd
