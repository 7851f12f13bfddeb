/- Chapter 9: the law on CredOk. -/
import Derived.Test.YtbbaddcldoflfaaCr1
set_option linter.unusedVariables false
set_option maxRecDepth 100000
namespace Go.Proofs.Ytbbaddcldoflfaa
open Go Go.RowKit Own Var Term

set_option maxHeartbeats 6400000 in
theorem cred_walk (o cl sv k a b e : Int) (tk : ByteArray) (w : World) (hs : i64 sv) (hm : tk.size ≤ maxLen) : Calls Try.prog 3 #[.agg #[.int .i64 o, .int .i64 cl, .int .i64 sv, .int .i64 k, .int .i64 a, .int .i64 b, .int .i64 e, .string tk]] w fun en w' => en = .returned (.bool true) ∧ Below w.heap.size w w' := by
  by_cases h : tk.size ≤ 1048576
  · skip
    have BC : Below w.heap.size w (w.alloc (.cells #[.int .i64 o, .int .i64 cl, .int .i64 sv, .int .i64 k, .int .i64 a, .int .i64 b, .int .i64 e, .string tk] 25)) := (Below.refl _ _).alloc (by simp <;> omega) _
    have TC : Blk w.heap.size [.int .i64 o, .int .i64 cl, .int .i64 sv, .int .i64 k, .int .i64 a, .int .i64 b, .int .i64 e, .string tk] (w.alloc (.cells #[.int .i64 o, .int .i64 cl, .int .i64 sv, .int .i64 k, .int .i64 a, .int .i64 b, .int .i64 e, .string tk] 25)) := by have h_ := (Blk.new w #[.int .i64 o, .int .i64 cl, .int .i64 sv, .int .i64 k, .int .i64 a, .int .i64 b, .int .i64 e, .string tk] 25); simpa using h_
    go_enter Try.func3, Try.ntmps3
    have q1_ := TC.at 0 rfl
    have q2_ := TC.at 1 rfl
    have q3_ := TC.at 2 rfl
    have q4_ := TC.at 3 rfl
    have q5_ := TC.at 4 rfl
    have q6_ := TC.at 5 rfl
    have q7_ := TC.at 6 rfl
    have q8_ := TC.at 7 rfl
    go_wp2_with fail
    refine (szCred_small o cl sv k a b e tk _ hm h).mono ?_
    rintro en w2 ⟨rfl, hb⟩
    replace TC := TC.later hb TC.lt
    replace BC := BC.trans (hb.mono BC.size)
    clear hb
    clear q1_ q2_ q3_ q4_ q5_ q6_ q7_ q8_
    have hd : decide ((1048576 : Int) - (tk.size : Int) < 0) = false := decide_eq_false (by omega)
    have q9_ := TC.at 0 rfl
    have q10_ := TC.at 1 rfl
    have q11_ := TC.at 2 rfl
    have q12_ := TC.at 3 rfl
    have q13_ := TC.at 4 rfl
    have q14_ := TC.at 5 rfl
    have q15_ := TC.at 6 rfl
    have q16_ := TC.at 7 rfl
    go_wp2_with fail
    refine (toCred_is o cl sv k a b e tk _).mono ?_
    rintro en w3 ⟨rfl, hb⟩
    replace TC := TC.later hb TC.lt
    replace BC := BC.trans (hb.mono BC.size)
    clear hb
    clear q9_ q10_ q11_ q12_ q13_ q14_ q15_ q16_
    clear hd
    go_wp2_with fail
    refine (specCred_is o cl sv k a b e tk _ h).mono ?_
    rintro en w4 ⟨rfl, hb⟩
    replace TC := TC.later hb TC.lt
    replace BC := BC.trans (hb.mono BC.size)
    clear hb
    have q17_ := TC.at 0 rfl
    have q18_ := TC.at 1 rfl
    have q19_ := TC.at 2 rfl
    have q20_ := TC.at 3 rfl
    have q21_ := TC.at 4 rfl
    have q22_ := TC.at 5 rfl
    have q23_ := TC.at 6 rfl
    have q24_ := TC.at 7 rfl
    go_wp2_with fail
    refine (toCred_is o cl sv k a b e tk _).mono ?_
    rintro en w5 ⟨rfl, hb⟩
    replace TC := TC.later hb TC.lt
    replace BC := BC.trans (hb.mono BC.size)
    clear hb
    clear q17_ q18_ q19_ q20_ q21_ q22_ q23_ q24_
    go_wp2_with fail
    refine (implCred_is o cl sv k a b e tk _ hs h).mono ?_
    rintro en w6 ⟨rfl, hb⟩
    replace TC := TC.later hb TC.lt
    replace BC := BC.trans (hb.mono BC.size)
    clear hb
    generalize crOk o cl sv k a b e tk = bb
    cases bb <;> (go_wp2; go_ret; exact ⟨rfl, BC⟩)
  · skip
    have BC : Below w.heap.size w (w.alloc (.cells #[.int .i64 o, .int .i64 cl, .int .i64 sv, .int .i64 k, .int .i64 a, .int .i64 b, .int .i64 e, .string tk] 25)) := (Below.refl _ _).alloc (by simp <;> omega) _
    have TC : Blk w.heap.size [.int .i64 o, .int .i64 cl, .int .i64 sv, .int .i64 k, .int .i64 a, .int .i64 b, .int .i64 e, .string tk] (w.alloc (.cells #[.int .i64 o, .int .i64 cl, .int .i64 sv, .int .i64 k, .int .i64 a, .int .i64 b, .int .i64 e, .string tk] 25)) := by have h_ := (Blk.new w #[.int .i64 o, .int .i64 cl, .int .i64 sv, .int .i64 k, .int .i64 a, .int .i64 b, .int .i64 e, .string tk] 25); simpa using h_
    go_enter Try.func3, Try.ntmps3
    have q1_ := TC.at 0 rfl
    have q2_ := TC.at 1 rfl
    have q3_ := TC.at 2 rfl
    have q4_ := TC.at 3 rfl
    have q5_ := TC.at 4 rfl
    have q6_ := TC.at 5 rfl
    have q7_ := TC.at 6 rfl
    have q8_ := TC.at 7 rfl
    go_wp2_with fail
    refine (szCred_big o cl sv k a b e tk _ hm (by omega)).mono ?_
    rintro en w2 ⟨rfl, hb⟩
    replace TC := TC.later hb TC.lt
    replace BC := BC.trans (hb.mono BC.size)
    clear hb
    clear q1_ q2_ q3_ q4_ q5_ q6_ q7_ q8_
    go_wp2
    go_ret
    exact ⟨rfl, BC⟩
end Go.Proofs.Ytbbaddcldoflfaa
