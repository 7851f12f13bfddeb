/- One that was taken is right. -/
import Derived.Test.YtjcmbbnklfemcaaGreatWs4
set_option linter.unusedVariables false
set_option maxRecDepth 100000
namespace Go.Proofs.YtjcmbbnklfemcaaGreat.Nd
open Go Go.RowKit Go.Joins Own Draw Term

set_option maxRecDepth 100000 in
set_option maxHeartbeats 3200000 in
theorem among_is (p : TQ) (n : Nat) (w : World) (hd : DpQ w p) (hp : p.2.2.2.2.2.2.2.1.2.2.length ≤ 1048576) (hv : p.2.2.2.2.2.2.2.2.1.2.2.length ≤ 1048576) : Calls Tryz.prog 124 #[vQ p, .int .i64 (n : Int)] w fun e w' => e = .returned (.bool (acB n p)) ∧ Below w.heap.size w w' := by
  obtain ⟨f0, f1, f2, f3, f4, ⟨f5_0, f5_1, f5_2⟩, ⟨f6_0, f6_1, f6_2⟩, f7, f8, f9, f10⟩ := p
  obtain ⟨hd7, hd8⟩ := hd
  dsimp only at hd7 hd8 hp hv
  obtain ⟨V, hV⟩ : ∃ V, w.alloc (.cells #[.int .i64 f0, .int .i64 f1, .int .i64 f2, .int .i64 f3, .int .i64 f4, .int .i64 f5_0, .int .i64 f5_1, .int .i64 f5_2, .int .i64 f6_0, .int .i64 f6_1, .int .i64 f6_2, .slice f7.1 f7.2.2.length f7.2.1, .slice f8.1 f8.2.2.length f8.2.1, .int .i64 f9, .string f10] 82) = V := ⟨_, rfl⟩
  have TV : Blk w.heap.size [.int .i64 f0, .int .i64 f1, .int .i64 f2, .int .i64 f3, .int .i64 f4, .int .i64 f5_0, .int .i64 f5_1, .int .i64 f5_2, .int .i64 f6_0, .int .i64 f6_1, .int .i64 f6_2, .slice f7.1 f7.2.2.length f7.2.1, .slice f8.1 f8.2.2.length f8.2.1, .int .i64 f9, .string f10] V := by rw [← hV]; exact Blk.new _ _ _
  have BC : Below w.heap.size w V := by rw [← hV]; exact (Below.refl _ _).alloc (Nat.le_refl _) _
  have HE : Hid (acB n (f0, f1, f2, f3, f4, (f5_0, f5_1, f5_2), (f6_0, f6_1, f6_2), f7, f8, f9, f10) = (btw f0 0 2 && (btw f1 0 5 && (btw f9 0 (n : Int) && (allB f7.2.2 6 && allB f8.2.2 4))))) := (rfl : acB n (f0, f1, f2, f3, f4, (f5_0, f5_1, f5_2), (f6_0, f6_1, f6_2), f7, f8, f9, f10) = _)
  have d0 := TV.at 0 rfl
  have d1 := TV.at 1 rfl
  have d11 := TV.at 11 rfl
  have d12 := TV.at 12 rfl
  have d13 := TV.at 13 rfl
  go_enter Tryz.func124, Tryz.ntmps124
  go_wp2_with fail
  try rw [hV]
  refine (serv_is f0 _).mono ?_
  rintro en v0 ⟨rfl, rfl⟩
  by_cases h0 : btw f0 0 2 = true
  · rw [h0]
    go_wp2_with fail
    refine (prin_is f1 _).mono ?_
    rintro en v1 ⟨rfl, rfl⟩
    by_cases h1 : btw f1 0 5 = true
    · rw [h1]
      go_wp2_with fail
      refine (within_b f9 (n : Int) _).mono ?_
      rintro en v2 ⟨rfl, rfl⟩
      by_cases h2 : btw f9 0 (n : Int) = true
      · rw [h2]
        go_wp2_with fail
        refine (listOk_is 153 enters95 realm_is f7.1 f7.2.1 f7.2.2 6 _ (hd7.later BC) hp (by omega)).mono ?_
        rintro en v3 ⟨rfl, hb⟩
        clear d0 d1 d11 d12 d13
        replace TV := TV.later hb (World.block_lt_of_cell? _ _ (TV.at 0 rfl))
        replace BC := BC.trans (hb.mono BC.size)
        clear hb
        have d0 := TV.at 0 rfl
        have d1 := TV.at 1 rfl
        have d11 := TV.at 11 rfl
        have d12 := TV.at 12 rfl
        have d13 := TV.at 13 rfl
        by_cases h3 : allB f7.2.2 6 = true
        · rw [h3]
          go_wp2_with fail
          refine (listOk_is 139 enters96 serv_is f8.1 f8.2.1 f8.2.2 4 _ (hd8.later BC) hv (by omega)).mono ?_
          rintro en v4 ⟨rfl, hb⟩
          clear d0 d1 d11 d12 d13
          replace TV := TV.later hb (World.block_lt_of_cell? _ _ (TV.at 0 rfl))
          replace BC := BC.trans (hb.mono BC.size)
          clear hb
          have d0 := TV.at 0 rfl
          have d1 := TV.at 1 rfl
          have d11 := TV.at 11 rfl
          have d12 := TV.at 12 rfl
          have d13 := TV.at 13 rfl
          by_cases h4 : allB f8.2.2 4 = true
          · rw [h4]
            go_wp2
            go_ret
            exact ⟨by rw [HE.out, h0, h1, h2, h3, h4]; rfl, BC⟩
          · rw [Bool.not_eq_true] at h4
            rw [h4]
            go_wp2
            go_ret
            exact ⟨by rw [HE.out, h0, h1, h2, h3, h4]; rfl, BC⟩
        · rw [Bool.not_eq_true] at h3
          rw [h3]
          go_wp2
          go_ret
          exact ⟨by rw [HE.out, h0, h1, h2, h3]; rfl, BC⟩
      · rw [Bool.not_eq_true] at h2
        rw [h2]
        go_wp2
        go_ret
        exact ⟨by rw [HE.out, h0, h1, h2]; rfl, BC⟩
    · rw [Bool.not_eq_true] at h1
      rw [h1]
      go_wp2
      go_ret
      exact ⟨by rw [HE.out, h0, h1]; rfl, BC⟩
  · rw [Bool.not_eq_true] at h0
    rw [h0]
    go_wp2
    go_ret
    exact ⟨by rw [HE.out, h0]; rfl, BC⟩
set_option maxRecDepth 100000 in
set_option maxHeartbeats 3200000 in
theorem rec1_is (p : TQ) (lp n : Nat) (w : World) (hlp : lp < w.heap.size) (hc : w.cell? ⟨lp, 0, none⟩ = some (.int .i64 (n : Int))) (hd : DpQ w p) (hp : p.2.2.2.2.2.2.2.1.2.2.length ≤ 1048576) (hv : p.2.2.2.2.2.2.2.2.1.2.2.length ≤ 1048576) : Calls Tryz.prog 123 #[vQ p, .pointer (some ⟨lp, 0, none⟩)] w fun e w' => e = .returned (.bool (acB n p)) ∧ Below w.heap.size w w' := by
  obtain ⟨V, hV⟩ : ∃ V, w.alloc (.cells #[.int .i64 p.1, .int .i64 p.2.1, .int .i64 p.2.2.1, .int .i64 p.2.2.2.1, .int .i64 p.2.2.2.2.1, .int .i64 p.2.2.2.2.2.1.1, .int .i64 p.2.2.2.2.2.1.2.1, .int .i64 p.2.2.2.2.2.1.2.2, .int .i64 p.2.2.2.2.2.2.1.1, .int .i64 p.2.2.2.2.2.2.1.2.1, .int .i64 p.2.2.2.2.2.2.1.2.2, .slice p.2.2.2.2.2.2.2.1.1 p.2.2.2.2.2.2.2.1.2.2.length p.2.2.2.2.2.2.2.1.2.1, .slice p.2.2.2.2.2.2.2.2.1.1 p.2.2.2.2.2.2.2.2.1.2.2.length p.2.2.2.2.2.2.2.2.1.2.1, .int .i64 p.2.2.2.2.2.2.2.2.2.1, .string p.2.2.2.2.2.2.2.2.2.2] 82) = V := ⟨_, rfl⟩
  have TV : Blk w.heap.size [.int .i64 p.1, .int .i64 p.2.1, .int .i64 p.2.2.1, .int .i64 p.2.2.2.1, .int .i64 p.2.2.2.2.1, .int .i64 p.2.2.2.2.2.1.1, .int .i64 p.2.2.2.2.2.1.2.1, .int .i64 p.2.2.2.2.2.1.2.2, .int .i64 p.2.2.2.2.2.2.1.1, .int .i64 p.2.2.2.2.2.2.1.2.1, .int .i64 p.2.2.2.2.2.2.1.2.2, .slice p.2.2.2.2.2.2.2.1.1 p.2.2.2.2.2.2.2.1.2.2.length p.2.2.2.2.2.2.2.1.2.1, .slice p.2.2.2.2.2.2.2.2.1.1 p.2.2.2.2.2.2.2.2.1.2.2.length p.2.2.2.2.2.2.2.2.1.2.1, .int .i64 p.2.2.2.2.2.2.2.2.2.1, .string p.2.2.2.2.2.2.2.2.2.2] V := by rw [← hV]; exact Blk.new _ _ _
  have BC : Below w.heap.size w V := by rw [← hV]; exact (Below.refl _ _).alloc (Nat.le_refl _) _
  have K1 := among_is p n V (hd.later BC) hp hv
  have c0 := (BC.cell (p := ⟨lp, 0, none⟩) hlp).trans hc
  have d0 := TV.at 0 rfl
  have d1 := TV.at 1 rfl
  have d2 := TV.at 2 rfl
  have d3 := TV.at 3 rfl
  have d4 := TV.at 4 rfl
  have d5 := TV.at 5 rfl
  have d6 := TV.at 6 rfl
  have d7 := TV.at 7 rfl
  have d8 := TV.at 8 rfl
  have d9 := TV.at 9 rfl
  have d10 := TV.at 10 rfl
  have d11 := TV.at 11 rfl
  have d12 := TV.at 12 rfl
  have d13 := TV.at 13 rfl
  have d14 := TV.at 14 rfl
  generalize acB n p = b at K1 ⊢
  clear hd
  go_enter Tryz.func123, Tryz.ntmps123
  go_wp2_with fail
  try rw [hV]
  refine K1.mono ?_
  clear K1
  rintro en v0 ⟨rfl, hb⟩
  replace BC := BC.trans (hb.mono BC.size)
  clear hb
  go_wp2
  go_ret
  exact ⟨rfl, BC⟩
end Go.Proofs.YtjcmbbnklfemcaaGreat.Nd
