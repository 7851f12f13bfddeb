/- A world is right: the program. -/
import Derived.Test.YtjcmbbnklfemcaaGreatWs6
set_option linter.unusedVariables false
set_option maxRecDepth 100000
namespace Go.Proofs.YtjcmbbnklfemcaaGreat.Nd
open Go Go.RowKit Go.Joins Own Draw Term

theorem cf_at {B : Nat} {w : World} {p : TF} (h : OwF B w p) : CfAt (cfOf p) w := ⟨h.1.dp, h.2.1.dp, prow_of h.2.2.1.dp, prow_of h.2.2.2.dp⟩
theorem cf_ok {B : Nat} {w : World} {p : TF} (h : OwF B w p) (l0 : p.1.2.2.length ≤ 1048576) (l1 : p.2.1.2.2.length ≤ 1048576) (l2 : p.2.2.1.2.2.length ≤ 1048576) (l3 : p.2.2.2.1.2.2.length ≤ 1048576) : CfOk (cfOf p) := ⟨l0, l1, l2, l3, own_cap h.2.2.1, own_cap h.2.2.2⟩
set_option maxRecDepth 100000 in
set_option maxHeartbeats 3200000 in
theorem recs_is (B : Nat) (d : TD) (w : World) (hd : WdOk B w d) : Calls Tryz.prog 85 #[vD d] w fun e w' => e = .returned (.bool (recB d)) ∧ Below w.heap.size w w' := by
  obtain ⟨⟨l10, l11, l12, l13⟩, ⟨l30, l31⟩, ⟨l40, l42, l41⟩, ⟨l50, l60, l61, l70, l71⟩, ⟨l80, l90, l91, la0⟩⟩ := tot_parts hd.le
  have hok := hd.ok
  obtain ⟨o0, o3, o4, o5, o6, o7, o8, o9, oa⟩ := hd.ow
  clear hd
  obtain ⟨f0, f1, f2, f3, f4, f5, f6, f7, f8, f9, f10⟩ := d
  dsimp only at *
  obtain ⟨V, hV⟩ : ∃ V, (w.alloc (.cells #[.slice f0.1.1 f0.1.2.2.length f0.1.2.1, .slice f0.2.1.1 f0.2.1.2.2.length f0.2.1.2.1, .slice f0.2.2.1.1 f0.2.2.1.2.2.length f0.2.2.1.2.1, .slice f0.2.2.2.1.1 f0.2.2.2.1.2.2.length f0.2.2.2.1.2.1, .int .i64 f0.2.2.2.2, .int .i64 f1, .int .i64 f2, .slice f3.1 f3.2.2.length f3.2.1, .slice f4.1.1 f4.1.2.2.length f4.1.2.1, .slice f4.2.1 f4.2.2.2.length f4.2.2.1, .slice f5.1 f5.2.2.length f5.2.1, .slice f6.1 f6.2.2.length f6.2.1, .slice f7.1 f7.2.2.length f7.2.1, .slice f8.1 f8.2.2.length f8.2.1, .slice f9.1 f9.2.2.length f9.2.1, .slice f10.1 f10.2.2.length f10.2.1] 48)).alloc (.cells #[.int .i64 (f10.2.2.length : Int)] 3) = V := ⟨_, rfl⟩
  have TV : Blk w.heap.size [.slice f0.1.1 f0.1.2.2.length f0.1.2.1, .slice f0.2.1.1 f0.2.1.2.2.length f0.2.1.2.1, .slice f0.2.2.1.1 f0.2.2.1.2.2.length f0.2.2.1.2.1, .slice f0.2.2.2.1.1 f0.2.2.2.1.2.2.length f0.2.2.2.1.2.1, .int .i64 f0.2.2.2.2, .int .i64 f1, .int .i64 f2, .slice f3.1 f3.2.2.length f3.2.1, .slice f4.1.1 f4.1.2.2.length f4.1.2.1, .slice f4.2.1 f4.2.2.2.length f4.2.2.1, .slice f5.1 f5.2.2.length f5.2.1, .slice f6.1 f6.2.2.length f6.2.1, .slice f7.1 f7.2.2.length f7.2.1, .slice f8.1 f8.2.2.length f8.2.1, .slice f9.1 f9.2.2.length f9.2.1, .slice f10.1 f10.2.2.length f10.2.1] V := by rw [← hV]; exact (Blk.new w _ _).alloc (by simp) _
  have BC : Below w.heap.size w V := by rw [← hV]; exact ((Below.refl _ _).alloc (Nat.le_refl _) _).alloc (by simp) _
  have TL : Blk (w.heap.size + 1) [.int .i64 (f10.2.2.length : Int)] V := by rw [← hV]; have := Blk.new (w.alloc (.cells #[.slice f0.1.1 f0.1.2.2.length f0.1.2.1, .slice f0.2.1.1 f0.2.1.2.2.length f0.2.1.2.1, .slice f0.2.2.1.1 f0.2.2.1.2.2.length f0.2.2.1.2.1, .slice f0.2.2.2.1.1 f0.2.2.2.1.2.2.length f0.2.2.2.1.2.1, .int .i64 f0.2.2.2.2, .int .i64 f1, .int .i64 f2, .slice f3.1 f3.2.2.length f3.2.1, .slice f4.1.1 f4.1.2.2.length f4.1.2.1, .slice f4.2.1 f4.2.2.2.length f4.2.2.1, .slice f5.1 f5.2.2.length f5.2.1, .slice f6.1 f6.2.2.length f6.2.1, .slice f7.1 f7.2.2.length f7.2.1, .slice f8.1 f8.2.2.length f8.2.1, .slice f9.1 f9.2.2.length f9.2.1, .slice f10.1 f10.2.2.length f10.2.1] 48)) #[.int .i64 (f10.2.2.length : Int)] 3; simpa using this
  have g0 := TL.at 0 rfl
  have sL : w.heap.size + 1 < V.heap.size := by rw [← hV]; simp
  have d13 := TV.at 13 rfl
  have d14 := TV.at 14 rfl
  have d15 := TV.at 15 rfl
  have HE : Hid (recB (f0, f1, f2, f3, f4, f5, f6, f7, f8, f9, f10) = (decide (f8.2.2.length ≤ 40) && (decide (f9.2.2.length ≤ 40) && (decide (f10.2.2.length ≤ 40) && ((f9.2.2.all fun x => acB f10.2.2.length x)))))) := (rfl : recB (f0, f1, f2, f3, f4, f5, f6, f7, f8, f9, f10) = _)
  go_enter Tryz.func85, Tryz.ntmps85
  by_cases h0 : decide (f8.2.2.length ≤ 40) = true
  · have t0 : ((f8.2.2.length : Nat) : Int) ≤ 40 := by have := of_decide_eq_true h0; omega
    by_cases h1 : decide (f9.2.2.length ≤ 40) = true
    · have t1 : ((f9.2.2.length : Nat) : Int) ≤ 40 := by have := of_decide_eq_true h1; omega
      by_cases h2 : decide (f10.2.2.length ≤ 40) = true
      · have t2 : ((f10.2.2.length : Nat) : Int) ≤ 40 := by have := of_decide_eq_true h2; omega
        go_wp2_with fail
        try rw [hV]
        refine (allQ_is (w.heap.size + 1) f10.2.2.length f9.1 f9.2.1 f9.2.2 _ (o9.dp.1.later BC) l90 (fun x hx w' hb => rec1_is x (w.heap.size + 1) f10.2.2.length w' (Nat.lt_of_lt_of_le sL hb.size) ((hb.cell (p := ⟨w.heap.size + 1, 0, none⟩) sL).trans (TL.at 0 rfl)) (((o9.dp.2 x hx).later BC).later hb) (l91 x hx).1 (l91 x hx).2)).mono ?_
        rintro en v3 ⟨rfl, hb⟩
        clear d13 d14 d15
        replace TV := TV.later hb (World.block_lt_of_cell? _ _ (TV.at 0 rfl))
        replace BC := BC.trans (hb.mono BC.size)
        clear hb
        have d13 := TV.at 13 rfl
        have d14 := TV.at 14 rfl
        have d15 := TV.at 15 rfl
        by_cases h3 : (f9.2.2.all fun x => acB f10.2.2.length x) = true
        · rw [h3]
          go_wp2
          go_ret
          exact ⟨by rw [HE.out, h0, h1, h2, h3]; rfl, BC⟩
        · rw [Bool.not_eq_true] at h3
          rw [h3]
          go_wp2
          go_ret
          exact ⟨by rw [HE.out, h0, h1, h2, h3]; rfl, BC⟩
      · rw [Bool.not_eq_true] at h2
        have t2 : ¬ ((f10.2.2.length : Nat) : Int) ≤ 40 := by have := of_decide_eq_false h2; omega
        go_wp2
        go_ret
        exact ⟨by rw [HE.out, h0, h1, h2]; rfl, BC⟩
    · rw [Bool.not_eq_true] at h1
      have t1 : ¬ ((f9.2.2.length : Nat) : Int) ≤ 40 := by have := of_decide_eq_false h1; omega
      go_wp2
      go_ret
      exact ⟨by rw [HE.out, h0, h1]; rfl, BC⟩
  · rw [Bool.not_eq_true] at h0
    have t0 : ¬ ((f8.2.2.length : Nat) : Int) ≤ 40 := by have := of_decide_eq_false h0; omega
    go_wp2
    go_ret
    exact ⟨by rw [HE.out, h0]; rfl, BC⟩
set_option maxRecDepth 100000 in
set_option maxHeartbeats 3200000 in
theorem worldRight_is (B : Nat) (d : TD) (w : World) (hd : WdOk B w d) : Calls Tryz.prog 45 #[vD d] w fun e w' => e = .returned (.bool (wokB d)) ∧ Below w.heap.size w w' := by
  obtain ⟨⟨l10, l11, l12, l13⟩, ⟨l30, l31⟩, ⟨l40, l42, l41⟩, ⟨l50, l60, l61, l70, l71⟩, ⟨l80, l90, l91, la0⟩⟩ := tot_parts hd.le
  have hok := hd.ok
  have HW := hd
  obtain ⟨o0, o3, o4, o5, o6, o7, o8, o9, oa⟩ := hd.ow
  clear hd
  obtain ⟨f0, f1, f2, f3, f4, f5, f6, f7, f8, f9, f10⟩ := d
  dsimp only at *
  obtain ⟨V, hV⟩ : ∃ V, w.alloc (.cells #[.slice f0.1.1 f0.1.2.2.length f0.1.2.1, .slice f0.2.1.1 f0.2.1.2.2.length f0.2.1.2.1, .slice f0.2.2.1.1 f0.2.2.1.2.2.length f0.2.2.1.2.1, .slice f0.2.2.2.1.1 f0.2.2.2.1.2.2.length f0.2.2.2.1.2.1, .int .i64 f0.2.2.2.2, .int .i64 f1, .int .i64 f2, .slice f3.1 f3.2.2.length f3.2.1, .slice f4.1.1 f4.1.2.2.length f4.1.2.1, .slice f4.2.1 f4.2.2.2.length f4.2.2.1, .slice f5.1 f5.2.2.length f5.2.1, .slice f6.1 f6.2.2.length f6.2.1, .slice f7.1 f7.2.2.length f7.2.1, .slice f8.1 f8.2.2.length f8.2.1, .slice f9.1 f9.2.2.length f9.2.1, .slice f10.1 f10.2.2.length f10.2.1] 48) = V := ⟨_, rfl⟩
  have TV : Blk w.heap.size [.slice f0.1.1 f0.1.2.2.length f0.1.2.1, .slice f0.2.1.1 f0.2.1.2.2.length f0.2.1.2.1, .slice f0.2.2.1.1 f0.2.2.1.2.2.length f0.2.2.1.2.1, .slice f0.2.2.2.1.1 f0.2.2.2.1.2.2.length f0.2.2.2.1.2.1, .int .i64 f0.2.2.2.2, .int .i64 f1, .int .i64 f2, .slice f3.1 f3.2.2.length f3.2.1, .slice f4.1.1 f4.1.2.2.length f4.1.2.1, .slice f4.2.1 f4.2.2.2.length f4.2.2.1, .slice f5.1 f5.2.2.length f5.2.1, .slice f6.1 f6.2.2.length f6.2.1, .slice f7.1 f7.2.2.length f7.2.1, .slice f8.1 f8.2.2.length f8.2.1, .slice f9.1 f9.2.2.length f9.2.1, .slice f10.1 f10.2.2.length f10.2.1] V := by rw [← hV]; exact Blk.new _ _ _
  have BC : Below w.heap.size w V := by rw [← hV]; exact (Below.refl _ _).alloc (Nat.le_refl _) _
  have d0 := TV.at 0 rfl
  have d1 := TV.at 1 rfl
  have d2 := TV.at 2 rfl
  have d3 := TV.at 3 rfl
  have d4 := TV.at 4 rfl
  have d5 := TV.at 5 rfl
  have d6 := TV.at 6 rfl
  have d7 := TV.at 7 rfl
  have d8 := TV.at 8 rfl
  have d9 := TV.at 9 rfl
  have d10 := TV.at 10 rfl
  have d11 := TV.at 11 rfl
  have d12 := TV.at 12 rfl
  have d13 := TV.at 13 rfl
  have d14 := TV.at 14 rfl
  have d15 := TV.at 15 rfl
  have HE : Hid (wokB (f0, f1, f2, f3, f4, f5, f6, f7, f8, f9, f10) = (confB (cfOf f0) && (btw f1 0 100000 && (decide (101 ≤ f2) && (btw f2 1 1000000 && (decide (f3.2.2.length ≤ 50) && ((f3.2.2.all fun x => isT x) && (Kn.kOk f4.1.2.2 f4.2.2.2 && (endB (f0, f1, f2, f3, f4, f5, f6, f7, f8, f9, f10) && (recB (f0, f1, f2, f3, f4, f5, f6, f7, f8, f9, f10))))))))))) := (rfl : wokB (f0, f1, f2, f3, f4, f5, f6, f7, f8, f9, f10) = _)
  go_enter Tryz.func45, Tryz.ntmps45
  go_wp2_with fail
  try rw [hV]
  refine (cfRight_is (cfOf f0) _ ((cf_at o0).later BC) (cf_ok o0 l10 l11 l12 l13)).mono ?_
  rintro en v0 ⟨rfl, hb⟩
  clear d0 d1 d2 d3 d4 d5 d6 d7 d8 d9 d10 d11 d12 d13 d14 d15
  replace TV := TV.later hb (World.block_lt_of_cell? _ _ (TV.at 0 rfl))
  replace BC := BC.trans (hb.mono BC.size)
  clear hb
  have d0 := TV.at 0 rfl
  have d1 := TV.at 1 rfl
  have d2 := TV.at 2 rfl
  have d3 := TV.at 3 rfl
  have d4 := TV.at 4 rfl
  have d5 := TV.at 5 rfl
  have d6 := TV.at 6 rfl
  have d7 := TV.at 7 rfl
  have d8 := TV.at 8 rfl
  have d9 := TV.at 9 rfl
  have d10 := TV.at 10 rfl
  have d11 := TV.at 11 rfl
  have d12 := TV.at 12 rfl
  have d13 := TV.at 13 rfl
  have d14 := TV.at 14 rfl
  have d15 := TV.at 15 rfl
  by_cases h0 : confB (cfOf f0) = true
  · rw [h0]
    go_wp2_with fail
    refine (within_b f1 100000 _).mono ?_
    rintro en v1 ⟨rfl, rfl⟩
    by_cases h1 : btw f1 0 100000 = true
    · rw [h1]
      by_cases h2 : decide (101 ≤ f2) = true
      · have t2 : (101 : Int) ≤ f2 := of_decide_eq_true h2
        go_wp2_with fail
        refine (key_b f2 _).mono ?_
        rintro en v3 ⟨rfl, rfl⟩
        by_cases h3 : btw f2 1 1000000 = true
        · rw [h3]
          by_cases h4 : decide (f3.2.2.length ≤ 50) = true
          · have t4 : ((f3.2.2.length : Nat) : Int) ≤ 50 := by have := of_decide_eq_true h4; omega
            go_wp2_with fail
            refine (allS_is f3.1 f3.2.1 f3.2.2 _ (o3.dp.later BC) l30 (fun x hx w' _ => impl_ok x w' (by have := l31 x hx; omega))).mono ?_
            rintro en v5 ⟨rfl, hb⟩
            clear d0 d1 d2 d3 d4 d5 d6 d7 d8 d9 d10 d11 d12 d13 d14 d15
            replace TV := TV.later hb (World.block_lt_of_cell? _ _ (TV.at 0 rfl))
            replace BC := BC.trans (hb.mono BC.size)
            clear hb
            have d0 := TV.at 0 rfl
            have d1 := TV.at 1 rfl
            have d2 := TV.at 2 rfl
            have d3 := TV.at 3 rfl
            have d4 := TV.at 4 rfl
            have d5 := TV.at 5 rfl
            have d6 := TV.at 6 rfl
            have d7 := TV.at 7 rfl
            have d8 := TV.at 8 rfl
            have d9 := TV.at 9 rfl
            have d10 := TV.at 10 rfl
            have d11 := TV.at 11 rfl
            have d12 := TV.at 12 rfl
            have d13 := TV.at 13 rfl
            have d14 := TV.at 14 rfl
            have d15 := TV.at 15 rfl
            by_cases h5 : (f3.2.2.all fun x => isT x) = true
            · rw [h5]
              go_wp2_with fail
              refine (Kn.impl_knownOk f4.1.1 f4.2.1 f4.1.2.1 f4.2.2.1 f4.1.2.2 f4.2.2.2 _ (o4.1.dp.later BC) (o4.2.dp.later BC) l40 l42 (own_cap o4.1) l41).mono ?_
              rintro en v6 ⟨rfl, hb⟩
              clear d0 d1 d2 d3 d4 d5 d6 d7 d8 d9 d10 d11 d12 d13 d14 d15
              replace TV := TV.later hb (World.block_lt_of_cell? _ _ (TV.at 0 rfl))
              replace BC := BC.trans (hb.mono BC.size)
              clear hb
              have d0 := TV.at 0 rfl
              have d1 := TV.at 1 rfl
              have d2 := TV.at 2 rfl
              have d3 := TV.at 3 rfl
              have d4 := TV.at 4 rfl
              have d5 := TV.at 5 rfl
              have d6 := TV.at 6 rfl
              have d7 := TV.at 7 rfl
              have d8 := TV.at 8 rfl
              have d9 := TV.at 9 rfl
              have d10 := TV.at 10 rfl
              have d11 := TV.at 11 rfl
              have d12 := TV.at 12 rfl
              have d13 := TV.at 13 rfl
              have d14 := TV.at 14 rfl
              have d15 := TV.at 15 rfl
              by_cases h6 : Kn.kOk f4.1.2.2 f4.2.2.2 = true
              · rw [h6]
                go_wp2_with fail
                refine (ends_is B (f0, f1, f2, f3, f4, f5, f6, f7, f8, f9, f10) _ (HW.later BC)).mono ?_
                rintro en v7 ⟨rfl, hb⟩
                clear d0 d1 d2 d3 d4 d5 d6 d7 d8 d9 d10 d11 d12 d13 d14 d15
                replace TV := TV.later hb (World.block_lt_of_cell? _ _ (TV.at 0 rfl))
                replace BC := BC.trans (hb.mono BC.size)
                clear hb
                have d0 := TV.at 0 rfl
                have d1 := TV.at 1 rfl
                have d2 := TV.at 2 rfl
                have d3 := TV.at 3 rfl
                have d4 := TV.at 4 rfl
                have d5 := TV.at 5 rfl
                have d6 := TV.at 6 rfl
                have d7 := TV.at 7 rfl
                have d8 := TV.at 8 rfl
                have d9 := TV.at 9 rfl
                have d10 := TV.at 10 rfl
                have d11 := TV.at 11 rfl
                have d12 := TV.at 12 rfl
                have d13 := TV.at 13 rfl
                have d14 := TV.at 14 rfl
                have d15 := TV.at 15 rfl
                by_cases h7 : endB (f0, f1, f2, f3, f4, f5, f6, f7, f8, f9, f10) = true
                · rw [h7]
                  go_wp2_with fail
                  refine (recs_is B (f0, f1, f2, f3, f4, f5, f6, f7, f8, f9, f10) _ (HW.later BC)).mono ?_
                  rintro en v8 ⟨rfl, hb⟩
                  clear d0 d1 d2 d3 d4 d5 d6 d7 d8 d9 d10 d11 d12 d13 d14 d15
                  replace TV := TV.later hb (World.block_lt_of_cell? _ _ (TV.at 0 rfl))
                  replace BC := BC.trans (hb.mono BC.size)
                  clear hb
                  have d0 := TV.at 0 rfl
                  have d1 := TV.at 1 rfl
                  have d2 := TV.at 2 rfl
                  have d3 := TV.at 3 rfl
                  have d4 := TV.at 4 rfl
                  have d5 := TV.at 5 rfl
                  have d6 := TV.at 6 rfl
                  have d7 := TV.at 7 rfl
                  have d8 := TV.at 8 rfl
                  have d9 := TV.at 9 rfl
                  have d10 := TV.at 10 rfl
                  have d11 := TV.at 11 rfl
                  have d12 := TV.at 12 rfl
                  have d13 := TV.at 13 rfl
                  have d14 := TV.at 14 rfl
                  have d15 := TV.at 15 rfl
                  by_cases h8 : recB (f0, f1, f2, f3, f4, f5, f6, f7, f8, f9, f10) = true
                  · rw [h8]
                    go_wp2
                    go_ret
                    exact ⟨by rw [HE.out, h0, h1, h2, h3, h4, h5, h6, h7, h8]; rfl, BC⟩
                  · rw [Bool.not_eq_true] at h8
                    rw [h8]
                    go_wp2
                    go_ret
                    exact ⟨by rw [HE.out, h0, h1, h2, h3, h4, h5, h6, h7, h8]; rfl, BC⟩
                · rw [Bool.not_eq_true] at h7
                  rw [h7]
                  go_wp2
                  go_ret
                  exact ⟨by rw [HE.out, h0, h1, h2, h3, h4, h5, h6, h7]; rfl, BC⟩
              · rw [Bool.not_eq_true] at h6
                rw [h6]
                go_wp2
                go_ret
                exact ⟨by rw [HE.out, h0, h1, h2, h3, h4, h5, h6]; rfl, BC⟩
            · rw [Bool.not_eq_true] at h5
              rw [h5]
              go_wp2
              go_ret
              exact ⟨by rw [HE.out, h0, h1, h2, h3, h4, h5]; rfl, BC⟩
          · rw [Bool.not_eq_true] at h4
            have t4 : ¬ ((f3.2.2.length : Nat) : Int) ≤ 50 := by have := of_decide_eq_false h4; omega
            go_wp2
            go_ret
            exact ⟨by rw [HE.out, h0, h1, h2, h3, h4]; rfl, BC⟩
        · rw [Bool.not_eq_true] at h3
          rw [h3]
          go_wp2
          go_ret
          exact ⟨by rw [HE.out, h0, h1, h2, h3]; rfl, BC⟩
      · rw [Bool.not_eq_true] at h2
        have t2 : ¬ (101 : Int) ≤ f2 := of_decide_eq_false h2
        go_wp2
        go_ret
        exact ⟨by rw [HE.out, h0, h1, h2]; rfl, BC⟩
    · rw [Bool.not_eq_true] at h1
      rw [h1]
      go_wp2
      go_ret
      exact ⟨by rw [HE.out, h0, h1]; rfl, BC⟩
  · rw [Bool.not_eq_true] at h0
    rw [h0]
    go_wp2
    go_ret
    exact ⟨by rw [HE.out, h0]; rfl, BC⟩
end Go.Proofs.YtjcmbbnklfemcaaGreat.Nd
