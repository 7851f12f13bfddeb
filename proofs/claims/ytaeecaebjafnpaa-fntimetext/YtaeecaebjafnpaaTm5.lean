/- Chapter 16: Times as texts. -/
import Derived.Test.YtaeecaebjafnpaaTmM
set_option linter.unusedVariables false
set_option maxRecDepth 100000
namespace Go.Proofs.Ytaeecaebjafnpaa
open Go.RowKit Own Var Term

set_option maxHeartbeats 1600000 in
theorem implShow_is (a b c d : Int) (w : World) : Calls Try.prog 25 #[tv a b c d] w fun en w' => en = .returned (.string (tmT a b c d)) ∧ Below w.heap.size w w' := by
  have BC : Below w.heap.size w (w.alloc (.cells #[.int .i64 a, .int .i64 b, .int .i64 c, .int .i64 d] 25)) := (Below.refl _ _).alloc (by simp <;> omega) _
  have TC : Blk w.heap.size [.int .i64 a, .int .i64 b, .int .i64 c, .int .i64 d] (w.alloc (.cells #[.int .i64 a, .int .i64 b, .int .i64 c, .int .i64 d] 25)) := by have h_ := (Blk.new w #[.int .i64 a, .int .i64 b, .int .i64 c, .int .i64 d] 25); simpa using h_
  have q1_ := TC.at 0 rfl
  have q2_ := TC.at 1 rfl
  have q3_ := TC.at 2 rfl
  have q4_ := TC.at 3 rfl
  go_enter Try.func25, Try.ntmps25
  go_wp2_with fail
  refine (right_is a b c d _).mono ?_
  rintro en w1 ⟨rfl, hb⟩
  replace TC := TC.later hb TC.lt
  replace BC := BC.trans (hb.mono BC.size)
  clear hb
  clear q1_ q2_ q3_ q4_
  by_cases hk : tmOk a b c d = true
  · rw [hk]
    have q5_ := TC.at 0 rfl
    have q6_ := TC.at 1 rfl
    have q7_ := TC.at 2 rfl
    have q8_ := TC.at 3 rfl
    have XA_ : Below w1.heap.size w1 (w1.alloc (.cells #[.int .i64 a, .int .i64 b, .int .i64 c, .int .i64 d] 3)) := (Below.refl _ _).alloc (Nat.le_refl _) _
    have BC2 := BC.trans (XA_.mono BC.size)
    have HN := impl_nums (some ⟨w1.heap.size, 0, none⟩) 4 [a, b, c, d] _ (row4 w1 a b c d) (by simp)
    clear XA_
    go_wp2_with fail
    refine HN.mono ?_
    rintro en w3 ⟨rfl, hb⟩
    replace BC2 := BC2.trans (hb.mono BC2.size)
    clear HN
    clear q5_ q6_ q7_ q8_
    go_wp2
    go_ret
    exact ⟨by unfold tmT; rw [if_pos hk]; rfl, BC2⟩
  · rw [Bool.not_eq_true] at hk
    rw [hk]
    go_wp2
    go_ret
    exact ⟨by unfold tmT; rw [if_neg (by rw [hk]; decide)]; rfl, BC⟩

set_option maxHeartbeats 1600000 in
theorem specShow_is (a b c d : Int) (w : World) : Calls Try.prog 31 #[tv a b c d] w fun en w' => en = .returned (.string (tmT a b c d)) ∧ Below w.heap.size w w' := by
  have BC : Below w.heap.size w (w.alloc (.cells #[.int .i64 a, .int .i64 b, .int .i64 c, .int .i64 d] 25)) := (Below.refl _ _).alloc (by simp <;> omega) _
  have TC : Blk w.heap.size [.int .i64 a, .int .i64 b, .int .i64 c, .int .i64 d] (w.alloc (.cells #[.int .i64 a, .int .i64 b, .int .i64 c, .int .i64 d] 25)) := by have h_ := (Blk.new w #[.int .i64 a, .int .i64 b, .int .i64 c, .int .i64 d] 25); simpa using h_
  have q1_ := TC.at 0 rfl
  have q2_ := TC.at 1 rfl
  have q3_ := TC.at 2 rfl
  have q4_ := TC.at 3 rfl
  go_enter Try.func31, Try.ntmps31
  go_wp2_with fail
  refine (specOk_is a b c d _).mono ?_
  rintro en w1 ⟨rfl, hb⟩
  replace TC := TC.later hb TC.lt
  replace BC := BC.trans (hb.mono BC.size)
  clear hb
  clear q1_ q2_ q3_ q4_
  by_cases hk : tmOk a b c d = true
  · rw [hk]
    have q5_ := TC.at 0 rfl
    have q6_ := TC.at 1 rfl
    have q7_ := TC.at 2 rfl
    have q8_ := TC.at 3 rfl
    have XA_ : Below w1.heap.size w1 (w1.alloc (.cells #[.int .i64 a, .int .i64 b, .int .i64 c, .int .i64 d] 3)) := (Below.refl _ _).alloc (Nat.le_refl _) _
    have BC2 := BC.trans (XA_.mono BC.size)
    have HN := spec_nums (some ⟨w1.heap.size, 0, none⟩) 4 [a, b, c, d] _ (row4 w1 a b c d) (by simp)
    clear XA_
    go_wp2_with fail
    refine HN.mono ?_
    rintro en w3 ⟨rfl, hb⟩
    replace BC2 := BC2.trans (hb.mono BC2.size)
    clear HN
    clear q5_ q6_ q7_ q8_
    go_wp2
    go_ret
    exact ⟨by unfold tmT; rw [if_pos hk]; rfl, BC2⟩
  · rw [Bool.not_eq_true] at hk
    rw [hk]
    go_wp2
    go_ret
    exact ⟨by unfold tmT; rw [if_neg (by rw [hk]; decide)]; rfl, BC⟩

end Go.Proofs.Ytaeecaebjafnpaa
