/- The laws on a new Cache and on one that is begun anew, walked. -/
import Derived.Test.YtmiceknaipimiaaCch2
set_option linter.unusedVariables false
namespace Go.Proofs.Ytmiceknaipimiaa
open Go Go.RowKit Go.Joins Own Draw

theorem eqN_is (q : Int) (w : World) : Calls Try.prog 18 #[cv q none 0 0, cv q none 0 0] w fun e w' => e = .returned (.bool true) ∧ Below w.heap.size w w' :=
  eqC_is q none none 0 0 [] w (ARow.nil _ _) (ARow.nil _ _) (by simp)
theorem markN_is (q : Int) (w : World) : Calls Try.prog 21 #[cv q none 0 0, .int .i64 1] w fun e w' => e = .returned (.int .i64 1) ∧ Below w.heap.size w w' :=
  (markC_is w.heap.size q none 0 [] w (Own3.nil _ _) (by simp)).mono fun e w' h => ⟨h.1, ⟨h.2.2.os, h.2.2.tape, h.2.2.output, h.2.2.size, fun k hk => h.2.2.block k hk (by simp [Value.ownBlock])⟩⟩
theorem heldN_is (q : Int) (w : World) : Calls Try.prog 22 #[cv q none 0 0, .int .i64 1] w fun e w' => e = .returned (.int .i64 1) ∧ Below w.heap.size w w' :=
  heldC_is q none 0 0 w (ARow.nil _ _) (by omega)

set_option maxRecDepth 100000 in
set_option maxHeartbeats 1600000 in
theorem law_new (w : World) : Calls Try.prog 5 #[] w fun e w' => e = .returned (.bool true) ∧ Below w.heap.size w w' := by
  have b0 : Below w.heap.size w w := Below.refl _ _
  go_enter Try.func5, Try.ntmps5
  have HX := specNewC_is w
  go_wp2_with fail
  refine HX.mono ?_
  clear HX 
  rintro e w1 ⟨rfl, hb1⟩
  replace b0 := b0.trans (hb1.mono b0.size)
  clear hb1
  obtain ⟨V1_T1, hV1_T1⟩ : ∃ V, w1.alloc (.cells #[.int .i64 (-1), .slice none 0 0] 26) = V := ⟨_, rfl⟩
  have aV1_T1 : Below w1.heap.size w1 V1_T1 := by rw [← hV1_T1]; exact (Below.refl _ _).alloc (Nat.le_refl _) _
  have T1 : Blk w1.heap.size [.int .i64 (-1), .slice none 0 0] V1_T1 := by rw [← hV1_T1]; exact Blk.new _ _ _
  replace b0 := b0.trans (aV1_T1.mono b0.size)
  clear aV1_T1
  have zs1 : V1_T1.setCell ⟨w1.heap.size, 1, none⟩ (.slice none 0 0) = V1_T1 := by rw [← hV1_T1]; simp [go_sem]
  have zf1 := T1.fz 1 rfl
  have q_T1_0 := T1.at 0 rfl
  have q_T1_1 := T1.at 1 rfl
  have HX := newC_is V1_T1
  go_wp2_with fail
  try rw [hV1_T1]
  refine HX.mono ?_
  clear HX q_T1_0 q_T1_1 hV1_T1 zs1 zf1
  rintro e w2 ⟨rfl, hb2⟩
  replace T1 := T1.later hb2 T1.lt
  replace b0 := b0.trans (hb2.mono b0.size)
  clear hb2
  obtain ⟨V2_T2, hV2_T2⟩ : ∃ V, w2.alloc (.cells #[.int .i64 (-1), .slice none 0 0] 26) = V := ⟨_, rfl⟩
  have aV2_T2 : Below w2.heap.size w2 V2_T2 := by rw [← hV2_T2]; exact (Below.refl _ _).alloc (Nat.le_refl _) _
  have T2 : Blk w2.heap.size [.int .i64 (-1), .slice none 0 0] V2_T2 := by rw [← hV2_T2]; exact Blk.new _ _ _
  replace T1 := T1.later aV2_T2 T1.lt
  replace b0 := b0.trans (aV2_T2.mono b0.size)
  clear aV2_T2
  have zs1 : V2_T2.setCell ⟨w2.heap.size, 1, none⟩ (.slice none 0 0) = V2_T2 := by rw [← hV2_T2]; simp [go_sem]
  have zf1 := T2.fz 1 rfl
  have q_T1_0 := T1.at 0 rfl
  have q_T1_1 := T1.at 1 rfl
  have q_T2_0 := T2.at 0 rfl
  have q_T2_1 := T2.at 1 rfl
  have HX := eqN_is (-1) V2_T2
  go_wp2_with fail
  try rw [hV2_T2]
  refine HX.mono ?_
  clear HX q_T1_0 q_T1_1 q_T2_0 q_T2_1 hV2_T2 zs1 zf1
  rintro e w3 ⟨rfl, hb3⟩
  replace T1 := T1.later hb3 T1.lt
  replace T2 := T2.later hb3 T2.lt
  replace b0 := b0.trans (hb3.mono b0.size)
  clear hb3
  have q_T1_0 := T1.at 0 rfl
  have q_T1_1 := T1.at 1 rfl
  have q_T2_0 := T2.at 0 rfl
  have q_T2_1 := T2.at 1 rfl
  have HX := markN_is (-1) w3
  go_wp2_with fail
  refine HX.mono ?_
  clear HX q_T1_0 q_T1_1 q_T2_0 q_T2_1
  rintro e w4 ⟨rfl, hb4⟩
  replace T1 := T1.later hb4 T1.lt
  replace T2 := T2.later hb4 T2.lt
  replace b0 := b0.trans (hb4.mono b0.size)
  clear hb4
  have q_T1_0 := T1.at 0 rfl
  have q_T1_1 := T1.at 1 rfl
  have q_T2_0 := T2.at 0 rfl
  have q_T2_1 := T2.at 1 rfl
  have HX := heldN_is (-1) w4
  go_wp2_with fail
  refine HX.mono ?_
  clear HX q_T1_0 q_T1_1 q_T2_0 q_T2_1
  rintro e w5 ⟨rfl, hb5⟩
  replace T1 := T1.later hb5 T1.lt
  replace T2 := T2.later hb5 T2.lt
  replace b0 := b0.trans (hb5.mono b0.size)
  clear hb5
  have q_T1_0 := T1.at 0 rfl
  have q_T1_1 := T1.at 1 rfl
  have q_T2_0 := T2.at 0 rfl
  have q_T2_1 := T2.at 1 rfl
  have HX := newC_is w5
  go_wp2_with fail
  refine HX.mono ?_
  clear HX q_T1_0 q_T1_1 q_T2_0 q_T2_1
  rintro e w6 ⟨rfl, hb6⟩
  replace T1 := T1.later hb6 T1.lt
  replace T2 := T2.later hb6 T2.lt
  replace b0 := b0.trans (hb6.mono b0.size)
  clear hb6
  obtain ⟨V6_T3, hV6_T3⟩ : ∃ V, w6.alloc (.cells #[.int .i64 (-1), .slice none 0 0] 26) = V := ⟨_, rfl⟩
  have aV6_T3 : Below w6.heap.size w6 V6_T3 := by rw [← hV6_T3]; exact (Below.refl _ _).alloc (Nat.le_refl _) _
  have T3 : Blk w6.heap.size [.int .i64 (-1), .slice none 0 0] V6_T3 := by rw [← hV6_T3]; exact Blk.new _ _ _
  replace T1 := T1.later aV6_T3 T1.lt
  replace T2 := T2.later aV6_T3 T2.lt
  replace b0 := b0.trans (aV6_T3.mono b0.size)
  clear aV6_T3
  have zs1 : V6_T3.setCell ⟨w6.heap.size, 1, none⟩ (.slice none 0 0) = V6_T3 := by rw [← hV6_T3]; simp [go_sem]
  have zf1 := T3.fz 1 rfl
  have q_T1_0 := T1.at 0 rfl
  have q_T1_1 := T1.at 1 rfl
  have q_T2_0 := T2.at 0 rfl
  have q_T2_1 := T2.at 1 rfl
  have q_T3_0 := T3.at 0 rfl
  have q_T3_1 := T3.at 1 rfl
  have HX := eqN_is (-1) V6_T3
  go_wp2_with fail
  try rw [hV6_T3]
  refine HX.mono ?_
  clear HX q_T1_0 q_T1_1 q_T2_0 q_T2_1 q_T3_0 q_T3_1 hV6_T3 zs1 zf1
  rintro e w7 ⟨rfl, hb7⟩
  replace T1 := T1.later hb7 T1.lt
  replace T2 := T2.later hb7 T2.lt
  replace T3 := T3.later hb7 T3.lt
  replace b0 := b0.trans (hb7.mono b0.size)
  clear hb7
  have q_T1_0 := T1.at 0 rfl
  have q_T1_1 := T1.at 1 rfl
  have q_T2_0 := T2.at 0 rfl
  have q_T2_1 := T2.at 1 rfl
  have q_T3_0 := T3.at 0 rfl
  have q_T3_1 := T3.at 1 rfl
  have HX := heldN_is (-1) w7
  go_wp2_with fail
  refine HX.mono ?_
  clear HX q_T1_0 q_T1_1 q_T2_0 q_T2_1 q_T3_0 q_T3_1
  rintro e w8 ⟨rfl, hb8⟩
  replace T1 := T1.later hb8 T1.lt
  replace T2 := T2.later hb8 T2.lt
  replace T3 := T3.later hb8 T3.lt
  replace b0 := b0.trans (hb8.mono b0.size)
  clear hb8
  go_wp2
  go_ret
  exact ⟨rfl, b0⟩

set_option maxRecDepth 100000 in
set_option maxHeartbeats 1600000 in
theorem law_restart (n k : Int) (w : World) : Calls Try.prog 6 #[.int .i64 n, .int .i64 k] w fun e w' => e = .returned (.bool true) ∧ Below w.heap.size w w' := by
  have b0 : Below w.heap.size w w := Below.refl _ _
  go_enter Try.func6, Try.ntmps6
  have HX := specRestart_is n k w
  go_wp2_with fail
  refine HX.mono ?_
  clear HX 
  rintro e w1 ⟨rfl, hb1⟩
  replace b0 := b0.trans (hb1.mono b0.size)
  clear hb1
  obtain ⟨V1_T1, hV1_T1⟩ : ∃ V, w1.alloc (.cells #[.int .i64 (rsV n k), .slice none 0 0] 26) = V := ⟨_, rfl⟩
  have aV1_T1 : Below w1.heap.size w1 V1_T1 := by rw [← hV1_T1]; exact (Below.refl _ _).alloc (Nat.le_refl _) _
  have T1 : Blk w1.heap.size [.int .i64 (rsV n k), .slice none 0 0] V1_T1 := by rw [← hV1_T1]; exact Blk.new _ _ _
  replace b0 := b0.trans (aV1_T1.mono b0.size)
  clear aV1_T1
  have zs1 : V1_T1.setCell ⟨w1.heap.size, 1, none⟩ (.slice none 0 0) = V1_T1 := by rw [← hV1_T1]; simp [go_sem]
  have zf1 := T1.fz 1 rfl
  have q_T1_0 := T1.at 0 rfl
  have q_T1_1 := T1.at 1 rfl
  have HX := restart_is n k V1_T1
  go_wp2_with fail
  try rw [hV1_T1]
  refine HX.mono ?_
  clear HX q_T1_0 q_T1_1 hV1_T1 zs1 zf1
  rintro e w2 ⟨rfl, hb2⟩
  replace T1 := T1.later hb2 T1.lt
  replace b0 := b0.trans (hb2.mono b0.size)
  clear hb2
  obtain ⟨V2_T2, hV2_T2⟩ : ∃ V, w2.alloc (.cells #[.int .i64 (rsV n k), .slice none 0 0] 26) = V := ⟨_, rfl⟩
  have aV2_T2 : Below w2.heap.size w2 V2_T2 := by rw [← hV2_T2]; exact (Below.refl _ _).alloc (Nat.le_refl _) _
  have T2 : Blk w2.heap.size [.int .i64 (rsV n k), .slice none 0 0] V2_T2 := by rw [← hV2_T2]; exact Blk.new _ _ _
  replace T1 := T1.later aV2_T2 T1.lt
  replace b0 := b0.trans (aV2_T2.mono b0.size)
  clear aV2_T2
  have zs1 : V2_T2.setCell ⟨w2.heap.size, 1, none⟩ (.slice none 0 0) = V2_T2 := by rw [← hV2_T2]; simp [go_sem]
  have zf1 := T2.fz 1 rfl
  have q_T1_0 := T1.at 0 rfl
  have q_T1_1 := T1.at 1 rfl
  have q_T2_0 := T2.at 0 rfl
  have q_T2_1 := T2.at 1 rfl
  have HX := eqN_is (rsV n k) V2_T2
  go_wp2_with fail
  try rw [hV2_T2]
  refine HX.mono ?_
  clear HX q_T1_0 q_T1_1 q_T2_0 q_T2_1 hV2_T2 zs1 zf1
  rintro e w3 ⟨rfl, hb3⟩
  replace T1 := T1.later hb3 T1.lt
  replace T2 := T2.later hb3 T2.lt
  replace b0 := b0.trans (hb3.mono b0.size)
  clear hb3
  have q_T1_0 := T1.at 0 rfl
  have q_T1_1 := T1.at 1 rfl
  have q_T2_0 := T2.at 0 rfl
  have q_T2_1 := T2.at 1 rfl
  have HX := markN_is (rsV n k) w3
  go_wp2_with fail
  refine HX.mono ?_
  clear HX q_T1_0 q_T1_1 q_T2_0 q_T2_1
  rintro e w4 ⟨rfl, hb4⟩
  replace T1 := T1.later hb4 T1.lt
  replace T2 := T2.later hb4 T2.lt
  replace b0 := b0.trans (hb4.mono b0.size)
  clear hb4
  have q_T1_0 := T1.at 0 rfl
  have q_T1_1 := T1.at 1 rfl
  have q_T2_0 := T2.at 0 rfl
  have q_T2_1 := T2.at 1 rfl
  have HX := heldN_is (rsV n k) w4
  go_wp2_with fail
  refine HX.mono ?_
  clear HX q_T1_0 q_T1_1 q_T2_0 q_T2_1
  rintro e w5 ⟨rfl, hb5⟩
  replace T1 := T1.later hb5 T1.lt
  replace T2 := T2.later hb5 T2.lt
  replace b0 := b0.trans (hb5.mono b0.size)
  clear hb5
  have q_T1_0 := T1.at 0 rfl
  have q_T1_1 := T1.at 1 rfl
  have q_T2_0 := T2.at 0 rfl
  have q_T2_1 := T2.at 1 rfl
  have HX := restart_is n k w5
  go_wp2_with fail
  refine HX.mono ?_
  clear HX q_T1_0 q_T1_1 q_T2_0 q_T2_1
  rintro e w6 ⟨rfl, hb6⟩
  replace T1 := T1.later hb6 T1.lt
  replace T2 := T2.later hb6 T2.lt
  replace b0 := b0.trans (hb6.mono b0.size)
  clear hb6
  obtain ⟨V6_T3, hV6_T3⟩ : ∃ V, w6.alloc (.cells #[.int .i64 (rsV n k), .slice none 0 0] 26) = V := ⟨_, rfl⟩
  have aV6_T3 : Below w6.heap.size w6 V6_T3 := by rw [← hV6_T3]; exact (Below.refl _ _).alloc (Nat.le_refl _) _
  have T3 : Blk w6.heap.size [.int .i64 (rsV n k), .slice none 0 0] V6_T3 := by rw [← hV6_T3]; exact Blk.new _ _ _
  replace T1 := T1.later aV6_T3 T1.lt
  replace T2 := T2.later aV6_T3 T2.lt
  replace b0 := b0.trans (aV6_T3.mono b0.size)
  clear aV6_T3
  have zs1 : V6_T3.setCell ⟨w6.heap.size, 1, none⟩ (.slice none 0 0) = V6_T3 := by rw [← hV6_T3]; simp [go_sem]
  have zf1 := T3.fz 1 rfl
  have q_T1_0 := T1.at 0 rfl
  have q_T1_1 := T1.at 1 rfl
  have q_T2_0 := T2.at 0 rfl
  have q_T2_1 := T2.at 1 rfl
  have q_T3_0 := T3.at 0 rfl
  have q_T3_1 := T3.at 1 rfl
  have HX := eqN_is (rsV n k) V6_T3
  go_wp2_with fail
  try rw [hV6_T3]
  refine HX.mono ?_
  clear HX q_T1_0 q_T1_1 q_T2_0 q_T2_1 q_T3_0 q_T3_1 hV6_T3 zs1 zf1
  rintro e w7 ⟨rfl, hb7⟩
  replace T1 := T1.later hb7 T1.lt
  replace T2 := T2.later hb7 T2.lt
  replace T3 := T3.later hb7 T3.lt
  replace b0 := b0.trans (hb7.mono b0.size)
  clear hb7
  have q_T1_0 := T1.at 0 rfl
  have q_T1_1 := T1.at 1 rfl
  have q_T2_0 := T2.at 0 rfl
  have q_T2_1 := T2.at 1 rfl
  have q_T3_0 := T3.at 0 rfl
  have q_T3_1 := T3.at 1 rfl
  have HX := heldN_is (rsV n k) w7
  go_wp2_with fail
  refine HX.mono ?_
  clear HX q_T1_0 q_T1_1 q_T2_0 q_T2_1 q_T3_0 q_T3_1
  rintro e w8 ⟨rfl, hb8⟩
  replace T1 := T1.later hb8 T1.lt
  replace T2 := T2.later hb8 T2.lt
  replace T3 := T3.later hb8 T3.lt
  replace b0 := b0.trans (hb8.mono b0.size)
  clear hb8
  go_wp2
  go_ret
  exact ⟨rfl, b0⟩
end Go.Proofs.Ytmiceknaipimiaa
