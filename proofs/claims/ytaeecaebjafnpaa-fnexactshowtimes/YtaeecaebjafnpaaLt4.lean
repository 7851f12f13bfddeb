/- Chapter 16: the law on Times shown. -/
import Derived.Test.YtaeecaebjafnpaaTm5
set_option linter.unusedVariables false
set_option maxRecDepth 100000
namespace Go.Proofs.Ytaeecaebjafnpaa
open Go.RowKit Own Var Term

set_option maxHeartbeats 1600000 in
theorem lawShow (a b c d : Int) (w : World) : Calls Try.prog 9 #[tv a b c d] w fun en w' => en = .returned (.bool true) ∧ Below w.heap.size w w' := by
  have R1 := fun w => specShow_is a b c d w
  have R2 := fun w => implShow_is a b c d w
  generalize tmT a b c d = r at R1 R2
  have BC : Below w.heap.size w (w.alloc (.cells #[.int .i64 a, .int .i64 b, .int .i64 c, .int .i64 d] 40)) := (Below.refl _ _).alloc (by simp <;> omega) _
  have TC : Blk w.heap.size [.int .i64 a, .int .i64 b, .int .i64 c, .int .i64 d] (w.alloc (.cells #[.int .i64 a, .int .i64 b, .int .i64 c, .int .i64 d] 40)) := by have h_ := (Blk.new w #[.int .i64 a, .int .i64 b, .int .i64 c, .int .i64 d] 40); simpa using h_
  have q1_ := TC.at 0 rfl
  have q2_ := TC.at 1 rfl
  have q3_ := TC.at 2 rfl
  have q4_ := TC.at 3 rfl
  go_enter Try.func9, Try.ntmps9
  go_wp2_with fail
  refine (toTimes_is a b c d _).mono ?_
  rintro en w1 ⟨rfl, hb⟩
  replace TC := TC.later hb TC.lt
  replace BC := BC.trans (hb.mono BC.size)
  clear hb
  clear q1_ q2_ q3_ q4_
  go_wp2_with fail
  refine (R1 _).mono ?_
  rintro en w2 ⟨rfl, hb⟩
  replace TC := TC.later hb TC.lt
  replace BC := BC.trans (hb.mono BC.size)
  clear hb
  have q5_ := TC.at 0 rfl
  have q6_ := TC.at 1 rfl
  have q7_ := TC.at 2 rfl
  have q8_ := TC.at 3 rfl
  go_wp2_with fail
  refine (toTimes_is a b c d _).mono ?_
  rintro en w3 ⟨rfl, hb⟩
  replace TC := TC.later hb TC.lt
  replace BC := BC.trans (hb.mono BC.size)
  clear hb
  clear q5_ q6_ q7_ q8_
  go_wp2_with fail
  refine (R2 _).mono ?_
  rintro en w4 ⟨rfl, hb⟩
  replace TC := TC.later hb TC.lt
  replace BC := BC.trans (hb.mono BC.size)
  clear hb
  clear R1 R2
  go_wp2
  go_ret
  exact ⟨rfl, BC⟩

end Go.Proofs.Ytaeecaebjafnpaa
