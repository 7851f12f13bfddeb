/- Grants as texts: the law. -/
import Derived.Test.YtbkemhclncmicaaShG2
import Derived.Test.YtbkemhclncmicaaToG
set_option linter.unusedVariables false
namespace Go.Proofs.Ytbkemhclncmicaa
open Go Go.RowKit Own Var Term

set_option maxRecDepth 100000 in
set_option maxHeartbeats 800000 in
theorem implShowG_is (k s n a b e : Int) (key : Int) (w : World) (hs : i64 s) : Calls Try.prog 26 #[.agg #[.int .i64 k, .int .i64 s, .int .i64 n, .int .i64 a, .int .i64 b, .int .i64 e], .int .i64 key] w fun en w' => en = .returned (.string (shG k s n a b e key)) ∧ Below w.heap.size w w' := by
  have B0 : Below w.heap.size w (w.alloc (.cells #[.int .i64 k, .int .i64 s, .int .i64 n, .int .i64 a, .int .i64 b, .int .i64 e] 52)) := (Below.refl _ _).alloc (Nat.le_refl _) _
  go_enter Try.func26, Try.ntmps26
  go_wp2_with fail
  refine (showG_is k s n a b e key _ hs).mono ?_
  rintro en w1 ⟨rfl, hb1⟩
  have B1 := B0.trans (hb1.mono B0.size)
  clear B0 hb1
  go_wp2
  go_ret
  exact ⟨rfl, B1⟩

set_option maxRecDepth 100000 in
set_option maxHeartbeats 3200000 in
theorem showG_walk (k s n a b e : Int) (key : Int) (w : World) (hs : i64 s) : Calls Try.prog 7 #[.agg #[.int .i64 k, .int .i64 s, .int .i64 n, .int .i64 a, .int .i64 b, .int .i64 e], .int .i64 key] w fun en w' => en = .returned (.bool true) ∧ Below w.heap.size w w' := by
  have R1 := toGrant_is k s n a b e
  have R3 := specShowG_is k s n a b e key
  have R4 := fun w => implShowG_is k s n a b e key w hs
  generalize shG k s n a b e key = X at R3 R4
  obtain ⟨W1, hW1⟩ : ∃ W1, w.alloc (.cells #[.int .i64 k, .int .i64 s, .int .i64 n, .int .i64 a, .int .i64 b, .int .i64 e] 49) = W1 := ⟨_, rfl⟩
  have B1 : Below w.heap.size w W1 := by rw [← hW1]; exact (Below.refl _ _).alloc (Nat.le_refl _) _
  have T1 : Blk w.heap.size [.int .i64 k, .int .i64 s, .int .i64 n, .int .i64 a, .int .i64 b, .int .i64 e] W1 := by rw [← hW1]; exact Blk.new _ _ _
  have Z1 : Hid (w.heap.size < W1.heap.size) := by show _ < _; rw [← hW1]; simp
  have d0 := T1.at 0 rfl
  have d1 := T1.at 1 rfl
  have d2 := T1.at 2 rfl
  have d3 := T1.at 3 rfl
  have d4 := T1.at 4 rfl
  have d5 := T1.at 5 rfl
  go_enter Try.func7, Try.ntmps7
  go_wp2_with fail
  try rw [hW1]
  refine (R1 _).mono ?_
  clear hW1 d0 d1 d2 d3 d4 d5
  rintro en w2 ⟨rfl, hb2⟩
  have T2 := T1.later hb2 Z1.out
  have Z2 : Hid (w.heap.size < w2.heap.size) := Nat.lt_of_lt_of_le Z1.out hb2.size
  have B2 := B1.trans (hb2.mono B1.size)
  clear T1 Z1 B1 hb2
  go_wp2_with fail
  refine (R3 _).mono ?_
  rintro en w3 ⟨rfl, hb3⟩
  have T3 := T2.later hb3 Z2.out
  have B3 := B2.trans (hb3.mono B2.size)
  clear T2 Z2 B2 hb3
  have d0 := T3.at 0 rfl
  have d1 := T3.at 1 rfl
  have d2 := T3.at 2 rfl
  have d3 := T3.at 3 rfl
  have d4 := T3.at 4 rfl
  have d5 := T3.at 5 rfl
  go_wp2_with fail
  refine (R1 _).mono ?_
  rintro en w4 ⟨rfl, hb4⟩
  have B4 := B3.trans (hb4.mono B3.size)
  clear d0 d1 d2 d3 d4 d5 B3 hb4 T3
  go_wp2_with fail
  refine (R4 _).mono ?_
  rintro en w5 ⟨rfl, hb5⟩
  have B5 := B4.trans (hb5.mono B4.size)
  clear B4 hb5 R1 R3 R4
  go_wp2
  go_ret
  exact ⟨rfl, B5⟩

end Go.Proofs.Ytbkemhclncmicaa
