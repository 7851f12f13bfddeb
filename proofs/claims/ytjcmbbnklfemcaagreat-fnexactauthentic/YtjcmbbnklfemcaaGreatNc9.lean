/- Worlds compared. -/
import Derived.Test.YtjcmbbnklfemcaaGreatNc2
import Derived.Test.YtjcmbbnklfemcaaGreatNc5
import Derived.Test.YtjcmbbnklfemcaaGreatNc7
set_option linter.unusedVariables false
set_option maxRecDepth 100000
namespace Go.Proofs.YtjcmbbnklfemcaaGreat.Nd
open Go Go.RowKit Go.Joins Own Draw

set_option maxRecDepth 100000 in
set_option maxHeartbeats 6400000 in
theorem eqD_is (x y : TD) (w : World) (hx : DpD w x) (hy : DpD w y) (hs : stD x = stD y) (hl : totD x ≤ 1048576) : Calls Tryz.prog 11 #[vD x, vD y] w fun en w' => en = .returned (.bool true) ∧ Below w.heap.size w w' := by
  obtain ⟨f0, f1, f2, f3, f4, f5, f6, f7, f8, f9, f10⟩ := x
  obtain ⟨g0, g1, g2, g3, g4, g5, g6, g7, g8, g9, g10⟩ := y
  unfold stD at hs
  unfold DpD at hx hy
  unfold totD at hl
  dsimp only at hx hy hl
  simp only [Prod.mk.injEq] at hs
  obtain ⟨e0, e1, e2, e3, e4, e5, e6, e7, e8, e9, e10⟩ := hs
  obtain ⟨hx0, hx3, hx4, hx5, hx6, hx7, hx8, hx9, hx10⟩ := hx
  obtain ⟨hy0, hy3, hy4, hy5, hy6, hy7, hy8, hy9, hy10⟩ := hy
  subst e1
  subst e2
  obtain ⟨V, hV⟩ : ∃ V, (w.alloc (.cells #[.slice f0.1.1 f0.1.2.2.length f0.1.2.1, .slice f0.2.1.1 f0.2.1.2.2.length f0.2.1.2.1, .slice f0.2.2.1.1 f0.2.2.1.2.2.length f0.2.2.1.2.1, .slice f0.2.2.2.1.1 f0.2.2.2.1.2.2.length f0.2.2.2.1.2.1, .int .i64 f0.2.2.2.2, .int .i64 f1, .int .i64 f2, .slice f3.1 f3.2.2.length f3.2.1, .slice f4.1.1 f4.1.2.2.length f4.1.2.1, .slice f4.2.1 f4.2.2.2.length f4.2.2.1, .slice f5.1 f5.2.2.length f5.2.1, .slice f6.1 f6.2.2.length f6.2.1, .slice f7.1 f7.2.2.length f7.2.1, .slice f8.1 f8.2.2.length f8.2.1, .slice f9.1 f9.2.2.length f9.2.1, .slice f10.1 f10.2.2.length f10.2.1] 48)).alloc (.cells #[.slice g0.1.1 g0.1.2.2.length g0.1.2.1, .slice g0.2.1.1 g0.2.1.2.2.length g0.2.1.2.1, .slice g0.2.2.1.1 g0.2.2.1.2.2.length g0.2.2.1.2.1, .slice g0.2.2.2.1.1 g0.2.2.2.1.2.2.length g0.2.2.2.1.2.1, .int .i64 g0.2.2.2.2, .int .i64 f1, .int .i64 f2, .slice g3.1 g3.2.2.length g3.2.1, .slice g4.1.1 g4.1.2.2.length g4.1.2.1, .slice g4.2.1 g4.2.2.2.length g4.2.2.1, .slice g5.1 g5.2.2.length g5.2.1, .slice g6.1 g6.2.2.length g6.2.1, .slice g7.1 g7.2.2.length g7.2.1, .slice g8.1 g8.2.2.length g8.2.1, .slice g9.1 g9.2.2.length g9.2.1, .slice g10.1 g10.2.2.length g10.2.1] 48) = V := ⟨_, rfl⟩
  have BC : Below w.heap.size w V := by rw [← hV]; exact ((Below.refl _ _).alloc (Nat.le_refl _) _).alloc (by simp) _
  have TA : Blk w.heap.size [.slice f0.1.1 f0.1.2.2.length f0.1.2.1, .slice f0.2.1.1 f0.2.1.2.2.length f0.2.1.2.1, .slice f0.2.2.1.1 f0.2.2.1.2.2.length f0.2.2.1.2.1, .slice f0.2.2.2.1.1 f0.2.2.2.1.2.2.length f0.2.2.2.1.2.1, .int .i64 f0.2.2.2.2, .int .i64 f1, .int .i64 f2, .slice f3.1 f3.2.2.length f3.2.1, .slice f4.1.1 f4.1.2.2.length f4.1.2.1, .slice f4.2.1 f4.2.2.2.length f4.2.2.1, .slice f5.1 f5.2.2.length f5.2.1, .slice f6.1 f6.2.2.length f6.2.1, .slice f7.1 f7.2.2.length f7.2.1, .slice f8.1 f8.2.2.length f8.2.1, .slice f9.1 f9.2.2.length f9.2.1, .slice f10.1 f10.2.2.length f10.2.1] V := by rw [← hV]; exact (Blk.new w #[.slice f0.1.1 f0.1.2.2.length f0.1.2.1, .slice f0.2.1.1 f0.2.1.2.2.length f0.2.1.2.1, .slice f0.2.2.1.1 f0.2.2.1.2.2.length f0.2.2.1.2.1, .slice f0.2.2.2.1.1 f0.2.2.2.1.2.2.length f0.2.2.2.1.2.1, .int .i64 f0.2.2.2.2, .int .i64 f1, .int .i64 f2, .slice f3.1 f3.2.2.length f3.2.1, .slice f4.1.1 f4.1.2.2.length f4.1.2.1, .slice f4.2.1 f4.2.2.2.length f4.2.2.1, .slice f5.1 f5.2.2.length f5.2.1, .slice f6.1 f6.2.2.length f6.2.1, .slice f7.1 f7.2.2.length f7.2.1, .slice f8.1 f8.2.2.length f8.2.1, .slice f9.1 f9.2.2.length f9.2.1, .slice f10.1 f10.2.2.length f10.2.1] 48).alloc (by simp) _
  have TB : Blk (w.heap.size + 1) [.slice g0.1.1 g0.1.2.2.length g0.1.2.1, .slice g0.2.1.1 g0.2.1.2.2.length g0.2.1.2.1, .slice g0.2.2.1.1 g0.2.2.1.2.2.length g0.2.2.1.2.1, .slice g0.2.2.2.1.1 g0.2.2.2.1.2.2.length g0.2.2.2.1.2.1, .int .i64 g0.2.2.2.2, .int .i64 f1, .int .i64 f2, .slice g3.1 g3.2.2.length g3.2.1, .slice g4.1.1 g4.1.2.2.length g4.1.2.1, .slice g4.2.1 g4.2.2.2.length g4.2.2.1, .slice g5.1 g5.2.2.length g5.2.1, .slice g6.1 g6.2.2.length g6.2.1, .slice g7.1 g7.2.2.length g7.2.1, .slice g8.1 g8.2.2.length g8.2.1, .slice g9.1 g9.2.2.length g9.2.1, .slice g10.1 g10.2.2.length g10.2.1] V := by rw [← hV]; have := Blk.new (w.alloc (.cells #[.slice f0.1.1 f0.1.2.2.length f0.1.2.1, .slice f0.2.1.1 f0.2.1.2.2.length f0.2.1.2.1, .slice f0.2.2.1.1 f0.2.2.1.2.2.length f0.2.2.1.2.1, .slice f0.2.2.2.1.1 f0.2.2.2.1.2.2.length f0.2.2.2.1.2.1, .int .i64 f0.2.2.2.2, .int .i64 f1, .int .i64 f2, .slice f3.1 f3.2.2.length f3.2.1, .slice f4.1.1 f4.1.2.2.length f4.1.2.1, .slice f4.2.1 f4.2.2.2.length f4.2.2.1, .slice f5.1 f5.2.2.length f5.2.1, .slice f6.1 f6.2.2.length f6.2.1, .slice f7.1 f7.2.2.length f7.2.1, .slice f8.1 f8.2.2.length f8.2.1, .slice f9.1 f9.2.2.length f9.2.1, .slice f10.1 f10.2.2.length f10.2.1] 48)) #[.slice g0.1.1 g0.1.2.2.length g0.1.2.1, .slice g0.2.1.1 g0.2.1.2.2.length g0.2.1.2.1, .slice g0.2.2.1.1 g0.2.2.1.2.2.length g0.2.2.1.2.1, .slice g0.2.2.2.1.1 g0.2.2.2.1.2.2.length g0.2.2.2.1.2.1, .int .i64 g0.2.2.2.2, .int .i64 f1, .int .i64 f2, .slice g3.1 g3.2.2.length g3.2.1, .slice g4.1.1 g4.1.2.2.length g4.1.2.1, .slice g4.2.1 g4.2.2.2.length g4.2.2.1, .slice g5.1 g5.2.2.length g5.2.1, .slice g6.1 g6.2.2.length g6.2.1, .slice g7.1 g7.2.2.length g7.2.1, .slice g8.1 g8.2.2.length g8.2.1, .slice g9.1 g9.2.2.length g9.2.1, .slice g10.1 g10.2.2.length g10.2.1] 48; simpa using this
  have p0 := TA.at 0 rfl
  have q0 := TB.at 0 rfl
  have p1 := TA.at 1 rfl
  have q1 := TB.at 1 rfl
  have p2 := TA.at 2 rfl
  have q2 := TB.at 2 rfl
  have p3 := TA.at 3 rfl
  have q3 := TB.at 3 rfl
  have p4 := TA.at 4 rfl
  have q4 := TB.at 4 rfl
  go_enter Tryz.func11, Tryz.ntmps11
  go_wp2_with fail
  try rw [hV]
  refine (eqF_is f0 g0 _ (hx0.later BC) (hy0.later BC) e0 (by omega)).mono ?_
  clear hV p0 q0 p1 q1 p2 q2 p3 q3 p4 q4
  rintro en v0 ⟨rfl, hb⟩
  replace TA := TA.later hb (World.block_lt_of_cell? _ _ (TA.at 0 rfl))
  replace TB := TB.later hb (World.block_lt_of_cell? _ _ (TB.at 0 rfl))
  replace BC := BC.trans (hb.mono BC.size)
  clear hb
  have p5 := TA.at 5 rfl
  have q5 := TB.at 5 rfl
  have p6 := TA.at 6 rfl
  have q6 := TB.at 6 rfl
  have p7 := TA.at 7 rfl
  have q7 := TB.at 7 rfl
  go_wp2_with fail
  try rw [hV]
  refine (eqSS_u f3 g3 _ (hx3.later BC) (hy3.later BC) e3 (by omega)).mono ?_
  clear p5 q5 p6 q6 p7 q7
  rintro en v3 ⟨rfl, hb⟩
  replace TA := TA.later hb (World.block_lt_of_cell? _ _ (TA.at 0 rfl))
  replace TB := TB.later hb (World.block_lt_of_cell? _ _ (TB.at 0 rfl))
  replace BC := BC.trans (hb.mono BC.size)
  clear hb
  have p8 := TA.at 8 rfl
  have q8 := TB.at 8 rfl
  have p9 := TA.at 9 rfl
  have q9 := TB.at 9 rfl
  go_wp2_with fail
  try rw [hV]
  refine (eqN_is f4 g4 _ (hx4.later BC) (hy4.later BC) e4 (by omega)).mono ?_
  clear p8 q8 p9 q9
  rintro en v4 ⟨rfl, hb⟩
  replace TA := TA.later hb (World.block_lt_of_cell? _ _ (TA.at 0 rfl))
  replace TB := TB.later hb (World.block_lt_of_cell? _ _ (TB.at 0 rfl))
  replace BC := BC.trans (hb.mono BC.size)
  clear hb
  have p10 := TA.at 10 rfl
  have q10 := TB.at 10 rfl
  go_wp2_with fail
  try rw [hV]
  refine (eqSW_u f5 g5 _ (hx5.later BC) (hy5.later BC) e5 (by omega)).mono ?_
  clear p10 q10
  rintro en v5 ⟨rfl, hb⟩
  replace TA := TA.later hb (World.block_lt_of_cell? _ _ (TA.at 0 rfl))
  replace TB := TB.later hb (World.block_lt_of_cell? _ _ (TB.at 0 rfl))
  replace BC := BC.trans (hb.mono BC.size)
  clear hb
  have p11 := TA.at 11 rfl
  have q11 := TB.at 11 rfl
  go_wp2_with fail
  try rw [hV]
  refine (eqSC_u f6 g6 _ (hx6.later BC) (hy6.later BC) e6 (by omega)).mono ?_
  clear p11 q11
  rintro en v6 ⟨rfl, hb⟩
  replace TA := TA.later hb (World.block_lt_of_cell? _ _ (TA.at 0 rfl))
  replace TB := TB.later hb (World.block_lt_of_cell? _ _ (TB.at 0 rfl))
  replace BC := BC.trans (hb.mono BC.size)
  clear hb
  have p12 := TA.at 12 rfl
  have q12 := TB.at 12 rfl
  go_wp2_with fail
  try rw [hV]
  refine (eqSK_is f7 g7 _ (hx7.later BC) (hy7.later BC) e7 (by omega)).mono ?_
  clear p12 q12
  rintro en v7 ⟨rfl, hb⟩
  replace TA := TA.later hb (World.block_lt_of_cell? _ _ (TA.at 0 rfl))
  replace TB := TB.later hb (World.block_lt_of_cell? _ _ (TB.at 0 rfl))
  replace BC := BC.trans (hb.mono BC.size)
  clear hb
  have p13 := TA.at 13 rfl
  have q13 := TB.at 13 rfl
  go_wp2_with fail
  try rw [hV]
  refine (eqSE_u f8 g8 _ (hx8.later BC) (hy8.later BC) e8 (by omega)).mono ?_
  clear p13 q13
  rintro en v8 ⟨rfl, hb⟩
  replace TA := TA.later hb (World.block_lt_of_cell? _ _ (TA.at 0 rfl))
  replace TB := TB.later hb (World.block_lt_of_cell? _ _ (TB.at 0 rfl))
  replace BC := BC.trans (hb.mono BC.size)
  clear hb
  have p14 := TA.at 14 rfl
  have q14 := TB.at 14 rfl
  go_wp2_with fail
  try rw [hV]
  refine (eqSQ_is f9 g9 _ (hx9.later BC) (hy9.later BC) e9 (by omega)).mono ?_
  clear p14 q14
  rintro en v9 ⟨rfl, hb⟩
  replace TA := TA.later hb (World.block_lt_of_cell? _ _ (TA.at 0 rfl))
  replace TB := TB.later hb (World.block_lt_of_cell? _ _ (TB.at 0 rfl))
  replace BC := BC.trans (hb.mono BC.size)
  clear hb
  have p15 := TA.at 15 rfl
  have q15 := TB.at 15 rfl
  go_wp2_with fail
  try rw [hV]
  refine (eqSI_u f10 g10 _ (hx10.later BC) (hy10.later BC) e10 (by omega)).mono ?_
  clear p15 q15
  rintro en v10 ⟨rfl, hb⟩
  replace TA := TA.later hb (World.block_lt_of_cell? _ _ (TA.at 0 rfl))
  replace TB := TB.later hb (World.block_lt_of_cell? _ _ (TB.at 0 rfl))
  replace BC := BC.trans (hb.mono BC.size)
  clear hb
  go_wp2
  go_ret
  exact ⟨rfl, BC⟩
end Go.Proofs.YtjcmbbnklfemcaaGreat.Nd
