/- Chapter 16: the law on what is renewed. -/
import Derived.Test.YtaeecaebjafnpaaTm2
set_option linter.unusedVariables false
set_option maxRecDepth 100000
namespace Go.Proofs.Ytaeecaebjafnpaa
open Go Go.RowKit

theorem tmIf_form (k : Bool) (a b c d : Int) : ∃ p0 p1 p2 p3 : Int, ∃ kk : Bool, tmIf k a b c d = .tuple #[tv p0 p1 p2 p3, .bool kk] := by
  cases k
  · exact ⟨0, 0, 0, 0, false, rfl⟩
  · exact ⟨a, b, c, d, true, rfl⟩
set_option maxHeartbeats 3200000 in
theorem lawRenewed (a b c d n l : Int) (w : World) : Calls Try.prog 7 #[tv a b c d, .int .i64 n, .int .i64 l] w fun en w' => en = .returned (.bool true) ∧ Below w.heap.size w w' := by
  have R1 := fun w => specRenewed_is a b c d n l w
  have R2 := fun w => implRenewed_is a b c d n l w
  obtain ⟨p0, p1, p2, p3, kk, hV⟩ : ∃ p0 p1 p2 p3 : Int, ∃ kk : Bool, rnV a b c d n l = .tuple #[tv p0 p1 p2 p3, .bool kk] := tmIf_form _ _ _ _ _
  rw [hV] at R1 R2
  clear hV
  have BC : Below w.heap.size w (w.alloc (.cells #[.int .i64 a, .int .i64 b, .int .i64 c, .int .i64 d] 40)) := (Below.refl _ _).alloc (by simp <;> omega) _
  have TC : Blk w.heap.size [.int .i64 a, .int .i64 b, .int .i64 c, .int .i64 d] (w.alloc (.cells #[.int .i64 a, .int .i64 b, .int .i64 c, .int .i64 d] 40)) := by have h_ := (Blk.new w #[.int .i64 a, .int .i64 b, .int .i64 c, .int .i64 d] 40); simpa using h_
  have q1_ := TC.at 0 rfl
  have q2_ := TC.at 1 rfl
  have q3_ := TC.at 2 rfl
  have q4_ := TC.at 3 rfl
  go_enter Try.func7, Try.ntmps7
  go_wp2_with fail
  refine (toTimes_is a b c d _).mono ?_
  rintro en w1 ⟨rfl, hb⟩
  replace TC := TC.later hb TC.lt
  replace BC := BC.trans (hb.mono BC.size)
  clear hb
  clear q1_ q2_ q3_ q4_
  go_wp2_with fail
  refine (R1 _).mono ?_
  rintro en w2 ⟨rfl, hb⟩
  replace TC := TC.later hb TC.lt
  replace BC := BC.trans (hb.mono BC.size)
  clear hb
  have XA_ : Below w2.heap.size w2 (w2.alloc (.cells #[.int .i64 p0, .int .i64 p1, .int .i64 p2, .int .i64 p3] 25)) := (Below.refl _ _).alloc (Nat.le_refl _) _
  have VC : Blk w2.heap.size [.int .i64 p0, .int .i64 p1, .int .i64 p2, .int .i64 p3] (w2.alloc (.cells #[.int .i64 p0, .int .i64 p1, .int .i64 p2, .int .i64 p3] 25)) := Blk.new _ _ _
  replace TC := TC.later XA_ TC.lt
  replace BC := BC.trans (XA_.mono BC.size)
  clear XA_
  obtain ⟨V3, hV3⟩ : ∃ Wz, (w2.alloc (.cells #[.int .i64 p0, .int .i64 p1, .int .i64 p2, .int .i64 p3] 25)) = Wz := ⟨_, rfl⟩
  rw [hV3] at TC VC BC
  have q5_ := TC.at 0 rfl
  have q6_ := TC.at 1 rfl
  have q7_ := TC.at 2 rfl
  have q8_ := TC.at 3 rfl
  go_wp2_with fail
  try rw [hV3]
  refine (toTimes_is a b c d _).mono ?_
  rintro en w4 ⟨rfl, hb⟩
  replace TC := TC.later hb TC.lt
  replace VC := VC.later hb VC.lt
  replace BC := BC.trans (hb.mono BC.size)
  clear hb
  clear q5_ q6_ q7_ q8_ hV3
  go_wp2_with fail
  refine (R2 _).mono ?_
  rintro en w5 ⟨rfl, hb⟩
  replace TC := TC.later hb TC.lt
  replace VC := VC.later hb VC.lt
  replace BC := BC.trans (hb.mono BC.size)
  clear hb
  have XA_ : Below w5.heap.size w5 (w5.alloc (.cells #[.int .i64 p0, .int .i64 p1, .int .i64 p2, .int .i64 p3] 25)) := (Below.refl _ _).alloc (Nat.le_refl _) _
  have XC : Blk w5.heap.size [.int .i64 p0, .int .i64 p1, .int .i64 p2, .int .i64 p3] (w5.alloc (.cells #[.int .i64 p0, .int .i64 p1, .int .i64 p2, .int .i64 p3] 25)) := Blk.new _ _ _
  replace TC := TC.later XA_ TC.lt
  replace VC := VC.later XA_ VC.lt
  replace BC := BC.trans (XA_.mono BC.size)
  clear XA_
  obtain ⟨V6, hV6⟩ : ∃ Wz, (w5.alloc (.cells #[.int .i64 p0, .int .i64 p1, .int .i64 p2, .int .i64 p3] 25)) = Wz := ⟨_, rfl⟩
  rw [hV6] at TC VC XC BC
  have q9_ := VC.at 0 rfl
  have q10_ := VC.at 1 rfl
  have q11_ := VC.at 2 rfl
  have q12_ := VC.at 3 rfl
  have q13_ := XC.at 0 rfl
  have q14_ := XC.at 1 rfl
  have q15_ := XC.at 2 rfl
  have q16_ := XC.at 3 rfl
  go_wp2_with fail
  try rw [hV6]
  refine (eqTimes_is p0 p1 p2 p3 _).mono ?_
  rintro en w7 ⟨rfl, hb⟩
  replace TC := TC.later hb TC.lt
  replace VC := VC.later hb VC.lt
  replace XC := XC.later hb XC.lt
  replace BC := BC.trans (hb.mono BC.size)
  clear hb
  clear q9_ q10_ q11_ q12_ q13_ q14_ q15_ q16_ hV6
  clear R1 R2
  cases kk <;> (go_wp2; go_ret; exact ⟨rfl, BC⟩)

end Go.Proofs.Ytaeecaebjafnpaa
