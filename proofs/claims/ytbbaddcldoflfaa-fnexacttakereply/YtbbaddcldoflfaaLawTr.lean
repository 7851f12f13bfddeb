/- Chapter 9: the law on TakeReply. -/
import Derived.Test.YtbbaddcldoflfaaTr2
set_option linter.unusedVariables false
set_option maxRecDepth 100000
namespace Go.Proofs.Ytbbaddcldoflfaa
open Go Go.RowKit Own Var Term

set_option maxHeartbeats 1600000 in
theorem eqCred_is (o cl sv k a b e : Int) (tk : ByteArray) (w : World) : Calls Try.prog 12 #[.agg #[.int .i64 o, .int .i64 cl, .int .i64 sv, .int .i64 k, .int .i64 a, .int .i64 b, .int .i64 e, .string tk], .agg #[.int .i64 o, .int .i64 cl, .int .i64 sv, .int .i64 k, .int .i64 a, .int .i64 b, .int .i64 e, .string tk]] w fun en w' => en = .returned (.bool true) ∧ Below w.heap.size w w' := by
  have BC : Below w.heap.size w ((w.alloc (.cells #[.int .i64 o, .int .i64 cl, .int .i64 sv, .int .i64 k, .int .i64 a, .int .i64 b, .int .i64 e, .string tk] 30)).alloc (.cells #[.int .i64 o, .int .i64 cl, .int .i64 sv, .int .i64 k, .int .i64 a, .int .i64 b, .int .i64 e, .string tk] 30)) := ((Below.refl _ _).alloc (by simp <;> omega) _).alloc (by simp <;> omega) _
  have TC : Blk w.heap.size [.int .i64 o, .int .i64 cl, .int .i64 sv, .int .i64 k, .int .i64 a, .int .i64 b, .int .i64 e, .string tk] ((w.alloc (.cells #[.int .i64 o, .int .i64 cl, .int .i64 sv, .int .i64 k, .int .i64 a, .int .i64 b, .int .i64 e, .string tk] 30)).alloc (.cells #[.int .i64 o, .int .i64 cl, .int .i64 sv, .int .i64 k, .int .i64 a, .int .i64 b, .int .i64 e, .string tk] 30)) := by have h_ := ((Blk.new w #[.int .i64 o, .int .i64 cl, .int .i64 sv, .int .i64 k, .int .i64 a, .int .i64 b, .int .i64 e, .string tk] 30).alloc (by simp <;> omega) (.cells #[.int .i64 o, .int .i64 cl, .int .i64 sv, .int .i64 k, .int .i64 a, .int .i64 b, .int .i64 e, .string tk] 30)); simpa using h_
  have UC : Blk (w.heap.size + 1) [.int .i64 o, .int .i64 cl, .int .i64 sv, .int .i64 k, .int .i64 a, .int .i64 b, .int .i64 e, .string tk] ((w.alloc (.cells #[.int .i64 o, .int .i64 cl, .int .i64 sv, .int .i64 k, .int .i64 a, .int .i64 b, .int .i64 e, .string tk] 30)).alloc (.cells #[.int .i64 o, .int .i64 cl, .int .i64 sv, .int .i64 k, .int .i64 a, .int .i64 b, .int .i64 e, .string tk] 30)) := by have h_ := (Blk.new (w.alloc (.cells #[.int .i64 o, .int .i64 cl, .int .i64 sv, .int .i64 k, .int .i64 a, .int .i64 b, .int .i64 e, .string tk] 30)) #[.int .i64 o, .int .i64 cl, .int .i64 sv, .int .i64 k, .int .i64 a, .int .i64 b, .int .i64 e, .string tk] 30); simpa using h_
  go_enter Try.func12, Try.ntmps12
  have q1_ := TC.at 0 rfl
  have q2_ := TC.at 1 rfl
  have q3_ := TC.at 2 rfl
  have q4_ := TC.at 3 rfl
  have q5_ := TC.at 4 rfl
  have q6_ := TC.at 5 rfl
  have q7_ := TC.at 6 rfl
  have q8_ := TC.at 7 rfl
  have q9_ := UC.at 0 rfl
  have q10_ := UC.at 1 rfl
  have q11_ := UC.at 2 rfl
  have q12_ := UC.at 3 rfl
  have q13_ := UC.at 4 rfl
  have q14_ := UC.at 5 rfl
  have q15_ := UC.at 6 rfl
  have q16_ := UC.at 7 rfl
  go_wp2_with fail
  refine (eqRest_is a b e _).mono ?_
  rintro en w3 ⟨rfl, hb⟩
  replace TC := TC.later hb TC.lt
  replace UC := UC.later hb UC.lt
  replace BC := BC.trans (hb.mono BC.size)
  clear hb
  clear q1_ q2_ q3_ q4_ q5_ q6_ q7_ q8_ q9_ q10_ q11_ q12_ q13_ q14_ q15_ q16_
  have q17_ := TC.at 0 rfl
  have q18_ := TC.at 1 rfl
  have q19_ := TC.at 2 rfl
  have q20_ := TC.at 3 rfl
  have q21_ := TC.at 4 rfl
  have q22_ := TC.at 5 rfl
  have q23_ := TC.at 6 rfl
  have q24_ := TC.at 7 rfl
  have q25_ := UC.at 0 rfl
  have q26_ := UC.at 1 rfl
  have q27_ := UC.at 2 rfl
  have q28_ := UC.at 3 rfl
  have q29_ := UC.at 4 rfl
  have q30_ := UC.at 5 rfl
  have q31_ := UC.at 6 rfl
  have q32_ := UC.at 7 rfl
  go_wp2
  go_ret
  exact ⟨rfl, BC⟩
set_option maxHeartbeats 6400000 in
theorem take_walk (ow cl key nonce : Int) (tm : ByteArray) (w : World) : Calls Try.prog 4 #[.int .i64 ow, .int .i64 cl, .int .i64 key, .int .i64 nonce, .string tm] w fun en w' => en = .returned (.bool true) ∧ Below w.heap.size w w' := by
  by_cases h : 1048576 < tm.size
  · go_enter Try.func4, Try.ntmps4
    go_wp2
    go_ret
    exact ⟨rfl, Below.refl _ _⟩
  obtain ⟨o, c, sv, k, a, b, e, tk, bb, hR⟩ : ∃ (o c sv k a b e : Int) (tk : ByteArray) (bb : Bool), trA ow cl key nonce tm = .tuple #[.agg #[.int .i64 o, .int .i64 c, .int .i64 sv, .int .i64 k, .int .i64 a, .int .i64 b, .int .i64 e, .string tk], .bool bb] := by
    unfold trA
    split
    · exact ⟨_, _, _, _, _, _, _, _, _, rfl⟩
    · exact ⟨_, _, _, _, _, _, _, _, _, rfl⟩
  have R1 := fun w => specTake_is ow cl key nonce tm w (by omega)
  have R2 := fun w => implTake_is ow cl key nonce tm w (by omega)
  rw [hR] at R1 R2
  clear hR
  have BC := Below.refl w.heap.size w
  go_enter Try.func4, Try.ntmps4
  go_wp2_with fail
  refine (R1 _).mono ?_
  rintro en w2 ⟨rfl, hb⟩
  replace BC := BC.trans (hb.mono BC.size)
  clear hb
  have XA_ : Below w2.heap.size w2 (w2.alloc (.cells #[.int .i64 o, .int .i64 c, .int .i64 sv, .int .i64 k, .int .i64 a, .int .i64 b, .int .i64 e, .string tk] 30)) := (Below.refl _ _).alloc (Nat.le_refl _) _
  have TC : Blk w2.heap.size [.int .i64 o, .int .i64 c, .int .i64 sv, .int .i64 k, .int .i64 a, .int .i64 b, .int .i64 e, .string tk] (w2.alloc (.cells #[.int .i64 o, .int .i64 c, .int .i64 sv, .int .i64 k, .int .i64 a, .int .i64 b, .int .i64 e, .string tk] 30)) := Blk.new _ _ _
  replace BC := BC.trans (XA_.mono BC.size)
  clear XA_
  obtain ⟨W3, hW3⟩ : ∃ Wz, (w2.alloc (.cells #[.int .i64 o, .int .i64 c, .int .i64 sv, .int .i64 k, .int .i64 a, .int .i64 b, .int .i64 e, .string tk] 30)) = Wz := ⟨_, rfl⟩
  rw [hW3] at TC BC
  go_wp2_with (first | (rw [hW3]))
  refine (R2 _).mono ?_
  rintro en w4 ⟨rfl, hb⟩
  replace TC := TC.later hb TC.lt
  replace BC := BC.trans (hb.mono BC.size)
  clear hb
  clear hW3
  have XA_ : Below w4.heap.size w4 (w4.alloc (.cells #[.int .i64 o, .int .i64 c, .int .i64 sv, .int .i64 k, .int .i64 a, .int .i64 b, .int .i64 e, .string tk] 30)) := (Below.refl _ _).alloc (Nat.le_refl _) _
  have UC : Blk w4.heap.size [.int .i64 o, .int .i64 c, .int .i64 sv, .int .i64 k, .int .i64 a, .int .i64 b, .int .i64 e, .string tk] (w4.alloc (.cells #[.int .i64 o, .int .i64 c, .int .i64 sv, .int .i64 k, .int .i64 a, .int .i64 b, .int .i64 e, .string tk] 30)) := Blk.new _ _ _
  replace TC := TC.later XA_ TC.lt
  replace BC := BC.trans (XA_.mono BC.size)
  clear XA_
  obtain ⟨W5, hW5⟩ : ∃ Wz, (w4.alloc (.cells #[.int .i64 o, .int .i64 c, .int .i64 sv, .int .i64 k, .int .i64 a, .int .i64 b, .int .i64 e, .string tk] 30)) = Wz := ⟨_, rfl⟩
  rw [hW5] at TC UC BC
  have q1_ := TC.at 0 rfl
  have q2_ := TC.at 1 rfl
  have q3_ := TC.at 2 rfl
  have q4_ := TC.at 3 rfl
  have q5_ := TC.at 4 rfl
  have q6_ := TC.at 5 rfl
  have q7_ := TC.at 6 rfl
  have q8_ := TC.at 7 rfl
  have q9_ := UC.at 0 rfl
  have q10_ := UC.at 1 rfl
  have q11_ := UC.at 2 rfl
  have q12_ := UC.at 3 rfl
  have q13_ := UC.at 4 rfl
  have q14_ := UC.at 5 rfl
  have q15_ := UC.at 6 rfl
  have q16_ := UC.at 7 rfl
  go_wp2_with (first | (rw [hW5]))
  refine (eqCred_is o c sv k a b e tk _).mono ?_
  rintro en w6 ⟨rfl, hb⟩
  replace BC := BC.trans (hb.mono BC.size)
  clear q1_ q2_ q3_ q4_ q5_ q6_ q7_ q8_ q9_ q10_ q11_ q12_ q13_ q14_ q15_ q16_ hW5
  cases bb <;> (go_wp2; go_ret; exact ⟨rfl, BC⟩)
end Go.Proofs.Ytbbaddcldoflfaa
