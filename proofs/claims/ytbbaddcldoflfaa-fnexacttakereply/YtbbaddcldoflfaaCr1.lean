/- Chapter 9: Creds that are right, program and model; Creds copied. -/
import Derived.Test.YtbbaddcldoflfaaBig9
import Derived.Test.YtbbaddcldoflfaaTick4
import Derived.Test.YtbbaddcldoflfaaOk
import Derived.Test.YtbbaddcldoflfaaRest
import Derived.Test.YtbbaddcldoflfaaRest2
set_option linter.unusedVariables false
set_option maxRecDepth 100000
namespace Go.Proofs.Ytbbaddcldoflfaa
open Go Go.RowKit Own Var Term

/-- Is a Cred right? -/
def crOk (o cl sv k a b e : Int) (tk : ByteArray) : Bool := btw o 0 5 && (btw cl 0 5 && (svOk sv && (btw k 1 1000000 && (rOk a b e && isT tk))))

set_option maxRecDepth 100000 in
set_option maxHeartbeats 1600000 in
theorem credRight_is (o cl sv k a b e : Int) (tk : ByteArray) (w : World) (hs : i64 sv) (ht : tk.size ≤ 1048576) : Calls Try.prog 22 #[.agg #[.int .i64 o, .int .i64 cl, .int .i64 sv, .int .i64 k, .int .i64 a, .int .i64 b, .int .i64 e, .string tk]] w fun en w' => en = .returned (.bool (crOk o cl sv k a b e tk)) ∧ Below w.heap.size w w' := by
  obtain ⟨W1, hW1⟩ : ∃ W1, w.alloc (.cells #[.int .i64 o, .int .i64 cl, .int .i64 sv, .int .i64 k, .int .i64 a, .int .i64 b, .int .i64 e, .string tk] 30) = W1 := ⟨_, rfl⟩
  have B0 : Below w.heap.size w W1 := by rw [← hW1]; exact (Below.refl _ _).alloc (Nat.le_refl _) _
  have T0 : Blk w.heap.size [.int .i64 o, .int .i64 cl, .int .i64 sv, .int .i64 k, .int .i64 a, .int .i64 b, .int .i64 e, .string tk] W1 := by rw [← hW1]; exact Blk.new _ _ _
  have Z0 : Hid (w.heap.size < W1.heap.size) := by show _ < _; rw [← hW1]; simp
  have d0 := T0.at 0 rfl
  have d1 := T0.at 1 rfl
  have d2 := T0.at 2 rfl
  have d3 := T0.at 3 rfl
  have d4 := T0.at 4 rfl
  have d5 := T0.at 5 rfl
  have d6 := T0.at 6 rfl
  have d7 := T0.at 7 rfl
  go_enter Try.func22, Try.ntmps22
  go_wp2_with fail
  try rw [hW1]
  refine (prin_is o _).mono ?_
  clear hW1
  rintro e wx ⟨rfl, rfl⟩
  by_cases h0 : btw o 0 5 = true
  · rw [h0]
    go_wp2_with fail
    refine (prin_is cl _).mono ?_
    rintro e wx ⟨rfl, rfl⟩
    by_cases h1 : btw cl 0 5 = true
    · rw [h1]
      go_wp2_with fail
      refine (recv_is sv _ hs).mono ?_
      rintro e wx ⟨rfl, rfl⟩
      by_cases h2 : svOk sv = true
      · rw [h2]
        go_wp2_with fail
        refine (keyOk_is k _).mono ?_
        rintro e wx ⟨rfl, rfl⟩
        rw [show (decide (1 ≤ k) && decide (k ≤ 1000000)) = btw k 1 1000000 from rfl]
        by_cases h3 : btw k 1 1000000 = true
        · rw [h3]
          go_wp2_with fail
          refine (right_is a b e _).mono ?_
          rintro e w6 ⟨rfl, hb6⟩
          have B6 := B0.trans (hb6.mono B0.size)
          clear d0 d1 d2 d3 d4 d5 d6 d7
          have T6 := T0.later hb6 Z0.out
          have Z6 : Hid (w.heap.size < w6.heap.size) := Nat.lt_of_lt_of_le Z0.out hb6.size
          clear T0 Z0 hb6
          have d0 := T6.at 0 rfl
          have d1 := T6.at 1 rfl
          have d2 := T6.at 2 rfl
          have d3 := T6.at 3 rfl
          have d4 := T6.at 4 rfl
          have d5 := T6.at 5 rfl
          have d6 := T6.at 6 rfl
          have d7 := T6.at 7 rfl
          by_cases h4 : rOk a b e = true
          · rw [h4]
            go_wp2_with fail
            refine (impl_ok tk _ (by omega)).mono ?_
            rintro e w7 ⟨rfl, hb7⟩
            have B7 := B6.trans (hb7.mono B6.size)
            clear d0 d1 d2 d3 d4 d5 d6 d7
            have T7 := T6.later hb7 Z6.out
            have Z7 : Hid (w.heap.size < w7.heap.size) := Nat.lt_of_lt_of_le Z6.out hb7.size
            clear T6 Z6 hb7
            have d0 := T7.at 0 rfl
            have d1 := T7.at 1 rfl
            have d2 := T7.at 2 rfl
            have d3 := T7.at 3 rfl
            have d4 := T7.at 4 rfl
            have d5 := T7.at 5 rfl
            have d6 := T7.at 6 rfl
            have d7 := T7.at 7 rfl
            clear d0 d1 d2 d3 d4 d5 d6 d7
            generalize hval : isT tk = bb
            go_wp2
            go_ret
            exact ⟨by unfold crOk; rw [h0, h1, h2, h3, h4, hval]; rfl, B7⟩
          · rw [Bool.not_eq_true] at h4
            rw [h4]
            clear d0 d1 d2 d3 d4 d5 d6 d7
            go_wp2
            go_ret
            exact ⟨by unfold crOk; rw [h0, h1, h2, h3, h4]; rfl, B6⟩
        · rw [Bool.not_eq_true] at h3
          rw [h3]
          clear d0 d1 d2 d3 d4 d5 d6 d7
          go_wp2
          go_ret
          exact ⟨by unfold crOk; rw [h0, h1, h2, h3]; rfl, B0⟩
      · rw [Bool.not_eq_true] at h2
        rw [h2]
        clear d0 d1 d2 d3 d4 d5 d6 d7
        go_wp2
        go_ret
        exact ⟨by unfold crOk; rw [h0, h1, h2]; rfl, B0⟩
    · rw [Bool.not_eq_true] at h1
      rw [h1]
      clear d0 d1 d2 d3 d4 d5 d6 d7
      go_wp2
      go_ret
      exact ⟨by unfold crOk; rw [h0, h1]; rfl, B0⟩
  · rw [Bool.not_eq_true] at h0
    rw [h0]
    clear d0 d1 d2 d3 d4 d5 d6 d7
    go_wp2
    go_ret
    exact ⟨by unfold crOk; rw [h0]; rfl, B0⟩

set_option maxRecDepth 100000 in
set_option maxHeartbeats 1600000 in
theorem specCred_is (o cl sv k a b e : Int) (tk : ByteArray) (w : World) (ht : tk.size ≤ 1048576) : Calls Try.prog 7 #[.agg #[.int .i64 o, .int .i64 cl, .int .i64 sv, .int .i64 k, .int .i64 a, .int .i64 b, .int .i64 e, .string tk]] w fun en w' => en = .returned (.bool (crOk o cl sv k a b e tk)) ∧ Below w.heap.size w w' := by
  obtain ⟨W1, hW1⟩ : ∃ W1, w.alloc (.cells #[.int .i64 o, .int .i64 cl, .int .i64 sv, .int .i64 k, .int .i64 a, .int .i64 b, .int .i64 e, .string tk] 30) = W1 := ⟨_, rfl⟩
  have B0 : Below w.heap.size w W1 := by rw [← hW1]; exact (Below.refl _ _).alloc (Nat.le_refl _) _
  have T0 : Blk w.heap.size [.int .i64 o, .int .i64 cl, .int .i64 sv, .int .i64 k, .int .i64 a, .int .i64 b, .int .i64 e, .string tk] W1 := by rw [← hW1]; exact Blk.new _ _ _
  have Z0 : Hid (w.heap.size < W1.heap.size) := by show _ < _; rw [← hW1]; simp
  have d0 := T0.at 0 rfl
  have d1 := T0.at 1 rfl
  have d2 := T0.at 2 rfl
  have d3 := T0.at 3 rfl
  have d4 := T0.at 4 rfl
  have d5 := T0.at 5 rfl
  have d6 := T0.at 6 rfl
  have d7 := T0.at 7 rfl
  go_enter Try.func7, Try.ntmps7
  go_wp2_with fail
  try rw [hW1]
  refine (spec_prin o _).mono ?_
  clear hW1
  rintro e wx ⟨rfl, rfl⟩
  by_cases h0 : btw o 0 5 = true
  · rw [h0]
    go_wp2_with fail
    refine (spec_prin cl _).mono ?_
    rintro e wx ⟨rfl, rfl⟩
    by_cases h1 : btw cl 0 5 = true
    · rw [h1]
      go_wp2_with fail
      refine (spec_serv sv _).mono ?_
      rintro e wx ⟨rfl, rfl⟩
      by_cases h2 : svOk sv = true
      · rw [h2]
        go_wp2_with fail
        refine (in_is k 1 1000000 _).mono ?_
        rintro e wx ⟨rfl, rfl⟩
        rw [show (decide (1 ≤ k) && decide (k ≤ 1000000)) = btw k 1 1000000 from rfl]
        by_cases h3 : btw k 1 1000000 = true
        · rw [h3]
          go_wp2_with fail
          refine (specOk_is a b e _).mono ?_
          rintro e w6 ⟨rfl, hb6⟩
          have B6 := B0.trans (hb6.mono B0.size)
          clear d0 d1 d2 d3 d4 d5 d6 d7
          have T6 := T0.later hb6 Z0.out
          have Z6 : Hid (w.heap.size < w6.heap.size) := Nat.lt_of_lt_of_le Z0.out hb6.size
          clear T0 Z0 hb6
          have d0 := T6.at 0 rfl
          have d1 := T6.at 1 rfl
          have d2 := T6.at 2 rfl
          have d3 := T6.at 3 rfl
          have d4 := T6.at 4 rfl
          have d5 := T6.at 5 rfl
          have d6 := T6.at 6 rfl
          have d7 := T6.at 7 rfl
          by_cases h4 : rOk a b e = true
          · rw [h4]
            go_wp2_with fail
            refine (spec_ok tk _ ht).mono ?_
            rintro e w7 ⟨rfl, hb7⟩
            have B7 := B6.trans (hb7.mono B6.size)
            clear d0 d1 d2 d3 d4 d5 d6 d7
            have T7 := T6.later hb7 Z6.out
            have Z7 : Hid (w.heap.size < w7.heap.size) := Nat.lt_of_lt_of_le Z6.out hb7.size
            clear T6 Z6 hb7
            have d0 := T7.at 0 rfl
            have d1 := T7.at 1 rfl
            have d2 := T7.at 2 rfl
            have d3 := T7.at 3 rfl
            have d4 := T7.at 4 rfl
            have d5 := T7.at 5 rfl
            have d6 := T7.at 6 rfl
            have d7 := T7.at 7 rfl
            clear d0 d1 d2 d3 d4 d5 d6 d7
            generalize hval : isT tk = bb
            go_wp2
            go_ret
            exact ⟨by unfold crOk; rw [h0, h1, h2, h3, h4, hval]; rfl, B7⟩
          · rw [Bool.not_eq_true] at h4
            rw [h4]
            clear d0 d1 d2 d3 d4 d5 d6 d7
            go_wp2
            go_ret
            exact ⟨by unfold crOk; rw [h0, h1, h2, h3, h4]; rfl, B6⟩
        · rw [Bool.not_eq_true] at h3
          rw [h3]
          clear d0 d1 d2 d3 d4 d5 d6 d7
          go_wp2
          go_ret
          exact ⟨by unfold crOk; rw [h0, h1, h2, h3]; rfl, B0⟩
      · rw [Bool.not_eq_true] at h2
        rw [h2]
        clear d0 d1 d2 d3 d4 d5 d6 d7
        go_wp2
        go_ret
        exact ⟨by unfold crOk; rw [h0, h1, h2]; rfl, B0⟩
    · rw [Bool.not_eq_true] at h1
      rw [h1]
      clear d0 d1 d2 d3 d4 d5 d6 d7
      go_wp2
      go_ret
      exact ⟨by unfold crOk; rw [h0, h1]; rfl, B0⟩
  · rw [Bool.not_eq_true] at h0
    rw [h0]
    clear d0 d1 d2 d3 d4 d5 d6 d7
    go_wp2
    go_ret
    exact ⟨by unfold crOk; rw [h0]; rfl, B0⟩

set_option maxHeartbeats 1600000 in
theorem implCred_is (o cl sv k a b e : Int) (tk : ByteArray) (w : World) (hs : i64 sv) (ht : tk.size ≤ 1048576) : Calls Try.prog 9 #[.agg #[.int .i64 o, .int .i64 cl, .int .i64 sv, .int .i64 k, .int .i64 a, .int .i64 b, .int .i64 e, .string tk]] w fun en w' => en = .returned (.bool (crOk o cl sv k a b e tk)) ∧ Below w.heap.size w w' := by
  obtain ⟨ie, hie, hsz⟩ := info_cred
  have BC : Below w.heap.size w (w.alloc (.cells #[.int .i64 o, .int .i64 cl, .int .i64 sv, .int .i64 k, .int .i64 a, .int .i64 b, .int .i64 e, .string tk] 30)) := (Below.refl _ _).alloc (by simp <;> omega) _
  have TC : Blk w.heap.size [.int .i64 o, .int .i64 cl, .int .i64 sv, .int .i64 k, .int .i64 a, .int .i64 b, .int .i64 e, .string tk] (w.alloc (.cells #[.int .i64 o, .int .i64 cl, .int .i64 sv, .int .i64 k, .int .i64 a, .int .i64 b, .int .i64 e, .string tk] 30)) := by have h_ := (Blk.new w #[.int .i64 o, .int .i64 cl, .int .i64 sv, .int .i64 k, .int .i64 a, .int .i64 b, .int .i64 e, .string tk] 30); simpa using h_
  go_enter Try.func9, Try.ntmps9
  have q1_ := TC.at 0 rfl
  have q2_ := TC.at 1 rfl
  have q3_ := TC.at 2 rfl
  have q4_ := TC.at 3 rfl
  have q5_ := TC.at 4 rfl
  have q6_ := TC.at 5 rfl
  have q7_ := TC.at 6 rfl
  have q8_ := TC.at 7 rfl
  go_wp2_with fail
  refine (credRight_is o cl sv k a b e tk _ hs ht).mono ?_
  rintro en w2 ⟨rfl, hb⟩
  replace TC := TC.later hb TC.lt
  replace BC := BC.trans (hb.mono BC.size)
  clear hb
  clear q1_ q2_ q3_ q4_ q5_ q6_ q7_ q8_
  go_wp2
  go_ret
  exact ⟨rfl, BC⟩
set_option maxHeartbeats 1600000 in
theorem szCred_big (o cl sv k a b e : Int) (tk : ByteArray) (w : World) (hm : tk.size ≤ maxLen) (h : 1048576 < tk.size) : Calls Try.prog 6 #[.agg #[.int .i64 o, .int .i64 cl, .int .i64 sv, .int .i64 k, .int .i64 a, .int .i64 b, .int .i64 e, .string tk], .int .i64 1048576] w fun en w' => en = .returned (.int .i64 (-1)) ∧ Below w.heap.size w w' := by
  have hm_ := hm
  unfold maxLen at hm_
  have BC : Below w.heap.size w (w.alloc (.cells #[.int .i64 o, .int .i64 cl, .int .i64 sv, .int .i64 k, .int .i64 a, .int .i64 b, .int .i64 e, .string tk] 25)) := (Below.refl _ _).alloc (by simp <;> omega) _
  have TC : Blk w.heap.size [.int .i64 o, .int .i64 cl, .int .i64 sv, .int .i64 k, .int .i64 a, .int .i64 b, .int .i64 e, .string tk] (w.alloc (.cells #[.int .i64 o, .int .i64 cl, .int .i64 sv, .int .i64 k, .int .i64 a, .int .i64 b, .int .i64 e, .string tk] 25)) := by have h_ := (Blk.new w #[.int .i64 o, .int .i64 cl, .int .i64 sv, .int .i64 k, .int .i64 a, .int .i64 b, .int .i64 e, .string tk] 25); simpa using h_
  have hi : IntKind.i64.wrap (1048576 - (tk.size : Int)) = 1048576 - (tk.size : Int) := by rw [IntKind.wrap_i64]; omega
  have hd : decide ((1048576 : Int) - (tk.size : Int) < 0) = true := decide_eq_true (by omega)
  go_enter Try.func6, Try.ntmps6
  have q1_ := TC.at 7 rfl
  clear hm hm_ h
  go_wp2
  go_ret
  exact ⟨rfl, BC⟩
set_option maxHeartbeats 1600000 in
theorem szCred_small (o cl sv k a b e : Int) (tk : ByteArray) (w : World) (hm : tk.size ≤ maxLen) (h : tk.size ≤ 1048576) : Calls Try.prog 6 #[.agg #[.int .i64 o, .int .i64 cl, .int .i64 sv, .int .i64 k, .int .i64 a, .int .i64 b, .int .i64 e, .string tk], .int .i64 1048576] w fun en w' => en = .returned (.int .i64 (1048576 - (tk.size : Int))) ∧ Below w.heap.size w w' := by
  have hm_ := hm
  unfold maxLen at hm_
  have BC : Below w.heap.size w (w.alloc (.cells #[.int .i64 o, .int .i64 cl, .int .i64 sv, .int .i64 k, .int .i64 a, .int .i64 b, .int .i64 e, .string tk] 25)) := (Below.refl _ _).alloc (by simp <;> omega) _
  have TC : Blk w.heap.size [.int .i64 o, .int .i64 cl, .int .i64 sv, .int .i64 k, .int .i64 a, .int .i64 b, .int .i64 e, .string tk] (w.alloc (.cells #[.int .i64 o, .int .i64 cl, .int .i64 sv, .int .i64 k, .int .i64 a, .int .i64 b, .int .i64 e, .string tk] 25)) := by have h_ := (Blk.new w #[.int .i64 o, .int .i64 cl, .int .i64 sv, .int .i64 k, .int .i64 a, .int .i64 b, .int .i64 e, .string tk] 25); simpa using h_
  have hi : IntKind.i64.wrap (1048576 - (tk.size : Int)) = 1048576 - (tk.size : Int) := by rw [IntKind.wrap_i64]; omega
  have hd : decide ((1048576 : Int) - (tk.size : Int) < 0) = false := decide_eq_false (by omega)
  go_enter Try.func6, Try.ntmps6
  have q1_ := TC.at 7 rfl
  clear hm hm_ h
  go_wp2
  go_ret
  exact ⟨rfl, BC⟩
set_option maxHeartbeats 6400000 in
theorem toCred_is (o cl sv k a b e : Int) (tk : ByteArray) (w : World) : Calls Try.prog 8 #[.agg #[.int .i64 o, .int .i64 cl, .int .i64 sv, .int .i64 k, .int .i64 a, .int .i64 b, .int .i64 e, .string tk]] w fun en w' => en = .returned (.agg #[.int .i64 o, .int .i64 cl, .int .i64 sv, .int .i64 k, .int .i64 a, .int .i64 b, .int .i64 e, .string tk]) ∧ Below w.heap.size w w' := by
  obtain ⟨ie, hie, hsz⟩ := info_cred
  obtain ⟨i3, hi3, hz3⟩ := info_rest
  obtain ⟨i1, hi1, hz1⟩ := info_int
  obtain ⟨is, his, hzs⟩ := info_str
  have BC : Below w.heap.size w (((w.alloc (.cells #[.int .i64 o, .int .i64 cl, .int .i64 sv, .int .i64 k, .int .i64 a, .int .i64 b, .int .i64 e, .string tk] 25)).alloc (.cells #[.int .i64 0, .int .i64 0, .int .i64 0, .int .i64 0, .int .i64 0, .int .i64 0, .int .i64 0, .string ⟨#[]⟩] 30)).alloc (.cells #[.int .i64 0, .int .i64 0, .int .i64 0, .int .i64 0, .int .i64 0, .int .i64 0, .int .i64 0, .string ⟨#[]⟩] 30)) := (((Below.refl _ _).alloc (by simp <;> omega) _).alloc (by simp <;> omega) _).alloc (by simp <;> omega) _
  have TC : Blk w.heap.size [.int .i64 o, .int .i64 cl, .int .i64 sv, .int .i64 k, .int .i64 a, .int .i64 b, .int .i64 e, .string tk] (((w.alloc (.cells #[.int .i64 o, .int .i64 cl, .int .i64 sv, .int .i64 k, .int .i64 a, .int .i64 b, .int .i64 e, .string tk] 25)).alloc (.cells #[.int .i64 0, .int .i64 0, .int .i64 0, .int .i64 0, .int .i64 0, .int .i64 0, .int .i64 0, .string ⟨#[]⟩] 30)).alloc (.cells #[.int .i64 0, .int .i64 0, .int .i64 0, .int .i64 0, .int .i64 0, .int .i64 0, .int .i64 0, .string ⟨#[]⟩] 30)) := by have h_ := (((Blk.new w #[.int .i64 o, .int .i64 cl, .int .i64 sv, .int .i64 k, .int .i64 a, .int .i64 b, .int .i64 e, .string tk] 25).alloc (by simp <;> omega) (.cells #[.int .i64 0, .int .i64 0, .int .i64 0, .int .i64 0, .int .i64 0, .int .i64 0, .int .i64 0, .string ⟨#[]⟩] 30)).alloc (by simp <;> omega) (.cells #[.int .i64 0, .int .i64 0, .int .i64 0, .int .i64 0, .int .i64 0, .int .i64 0, .int .i64 0, .string ⟨#[]⟩] 30)); simpa using h_
  have UC : Blk (w.heap.size + 1) [.int .i64 0, .int .i64 0, .int .i64 0, .int .i64 0, .int .i64 0, .int .i64 0, .int .i64 0, .string ⟨#[]⟩] (((w.alloc (.cells #[.int .i64 o, .int .i64 cl, .int .i64 sv, .int .i64 k, .int .i64 a, .int .i64 b, .int .i64 e, .string tk] 25)).alloc (.cells #[.int .i64 0, .int .i64 0, .int .i64 0, .int .i64 0, .int .i64 0, .int .i64 0, .int .i64 0, .string ⟨#[]⟩] 30)).alloc (.cells #[.int .i64 0, .int .i64 0, .int .i64 0, .int .i64 0, .int .i64 0, .int .i64 0, .int .i64 0, .string ⟨#[]⟩] 30)) := by have h_ := ((Blk.new (w.alloc (.cells #[.int .i64 o, .int .i64 cl, .int .i64 sv, .int .i64 k, .int .i64 a, .int .i64 b, .int .i64 e, .string tk] 25)) #[.int .i64 0, .int .i64 0, .int .i64 0, .int .i64 0, .int .i64 0, .int .i64 0, .int .i64 0, .string ⟨#[]⟩] 30).alloc (by simp <;> omega) (.cells #[.int .i64 0, .int .i64 0, .int .i64 0, .int .i64 0, .int .i64 0, .int .i64 0, .int .i64 0, .string ⟨#[]⟩] 30)); simpa using h_
  have OC : Blk (w.heap.size + 1 + 1) [.int .i64 0, .int .i64 0, .int .i64 0, .int .i64 0, .int .i64 0, .int .i64 0, .int .i64 0, .string ⟨#[]⟩] (((w.alloc (.cells #[.int .i64 o, .int .i64 cl, .int .i64 sv, .int .i64 k, .int .i64 a, .int .i64 b, .int .i64 e, .string tk] 25)).alloc (.cells #[.int .i64 0, .int .i64 0, .int .i64 0, .int .i64 0, .int .i64 0, .int .i64 0, .int .i64 0, .string ⟨#[]⟩] 30)).alloc (.cells #[.int .i64 0, .int .i64 0, .int .i64 0, .int .i64 0, .int .i64 0, .int .i64 0, .int .i64 0, .string ⟨#[]⟩] 30)) := by have h_ := (Blk.new ((w.alloc (.cells #[.int .i64 o, .int .i64 cl, .int .i64 sv, .int .i64 k, .int .i64 a, .int .i64 b, .int .i64 e, .string tk] 25)).alloc (.cells #[.int .i64 0, .int .i64 0, .int .i64 0, .int .i64 0, .int .i64 0, .int .i64 0, .int .i64 0, .string ⟨#[]⟩] 30)) #[.int .i64 0, .int .i64 0, .int .i64 0, .int .i64 0, .int .i64 0, .int .i64 0, .int .i64 0, .string ⟨#[]⟩] 30); simpa using h_
  have q1_ := TC.at 0 rfl
  obtain ⟨A0, hA0⟩ : ∃ Wz, (World.setCells (((w.alloc (.cells #[.int .i64 o, .int .i64 cl, .int .i64 sv, .int .i64 k, .int .i64 a, .int .i64 b, .int .i64 e, .string tk] 25)).alloc (.cells #[.int .i64 0, .int .i64 0, .int .i64 0, .int .i64 0, .int .i64 0, .int .i64 0, .int .i64 0, .string ⟨#[]⟩] 30)).alloc (.cells #[.int .i64 0, .int .i64 0, .int .i64 0, .int .i64 0, .int .i64 0, .int .i64 0, .int .i64 0, .string ⟨#[]⟩] 30)) (w.heap.size + 1 + 1) 0 [.int .i64 o]) = Wz := ⟨_, rfl⟩
  have OC_ : Blk (w.heap.size + 1 + 1) [.int .i64 o, .int .i64 0, .int .i64 0, .int .i64 0, .int .i64 0, .int .i64 0, .int .i64 0, .string ⟨#[]⟩] A0 := by rw [← hA0]; exact OC.part 0 [.int .i64 o] _ (by simp) rfl
  have TC_ : Blk w.heap.size [.int .i64 o, .int .i64 cl, .int .i64 sv, .int .i64 k, .int .i64 a, .int .i64 b, .int .i64 e, .string tk] A0 := by rw [← hA0]; exact Blk.farS (q := (w.heap.size + 1 + 1)) (by omega) [.int .i64 o] 0 _ TC
  have UC_ : Blk (w.heap.size + 1) [.int .i64 0, .int .i64 0, .int .i64 0, .int .i64 0, .int .i64 0, .int .i64 0, .int .i64 0, .string ⟨#[]⟩] A0 := by rw [← hA0]; exact Blk.farS (q := (w.heap.size + 1 + 1)) (by omega) [.int .i64 o] 0 _ UC
  have BC_ : Below w.heap.size w A0 := by rw [← hA0]; exact below_sets (g := (w.heap.size + 1 + 1)) (by omega) [.int .i64 o] 0 _ BC
  have OC0A0 := OC
  clear TC UC OC BC
  have TC := TC_
  have UC := UC_
  have OC := OC_
  have BC := BC_
  clear TC_ UC_ OC_ BC_
  have q2_ := TC.at 1 rfl
  obtain ⟨A1, hA1⟩ : ∃ Wz, (World.setCells A0 (w.heap.size + 1 + 1) 1 [.int .i64 cl]) = Wz := ⟨_, rfl⟩
  have OC_ : Blk (w.heap.size + 1 + 1) [.int .i64 o, .int .i64 cl, .int .i64 0, .int .i64 0, .int .i64 0, .int .i64 0, .int .i64 0, .string ⟨#[]⟩] A1 := by rw [← hA1]; exact OC.part 1 [.int .i64 cl] _ (by simp) rfl
  have TC_ : Blk w.heap.size [.int .i64 o, .int .i64 cl, .int .i64 sv, .int .i64 k, .int .i64 a, .int .i64 b, .int .i64 e, .string tk] A1 := by rw [← hA1]; exact Blk.farS (q := (w.heap.size + 1 + 1)) (by omega) [.int .i64 cl] 1 _ TC
  have UC_ : Blk (w.heap.size + 1) [.int .i64 0, .int .i64 0, .int .i64 0, .int .i64 0, .int .i64 0, .int .i64 0, .int .i64 0, .string ⟨#[]⟩] A1 := by rw [← hA1]; exact Blk.farS (q := (w.heap.size + 1 + 1)) (by omega) [.int .i64 cl] 1 _ UC
  have BC_ : Below w.heap.size w A1 := by rw [← hA1]; exact below_sets (g := (w.heap.size + 1 + 1)) (by omega) [.int .i64 cl] 1 _ BC
  have OC0A1 := OC
  clear TC UC OC BC
  have TC := TC_
  have UC := UC_
  have OC := OC_
  have BC := BC_
  clear TC_ UC_ OC_ BC_
  have q3_ := TC.at 2 rfl
  obtain ⟨A2, hA2⟩ : ∃ Wz, (World.setCells A1 (w.heap.size + 1 + 1) 2 [.int .i64 sv]) = Wz := ⟨_, rfl⟩
  have OC_ : Blk (w.heap.size + 1 + 1) [.int .i64 o, .int .i64 cl, .int .i64 sv, .int .i64 0, .int .i64 0, .int .i64 0, .int .i64 0, .string ⟨#[]⟩] A2 := by rw [← hA2]; exact OC.part 2 [.int .i64 sv] _ (by simp) rfl
  have TC_ : Blk w.heap.size [.int .i64 o, .int .i64 cl, .int .i64 sv, .int .i64 k, .int .i64 a, .int .i64 b, .int .i64 e, .string tk] A2 := by rw [← hA2]; exact Blk.farS (q := (w.heap.size + 1 + 1)) (by omega) [.int .i64 sv] 2 _ TC
  have UC_ : Blk (w.heap.size + 1) [.int .i64 0, .int .i64 0, .int .i64 0, .int .i64 0, .int .i64 0, .int .i64 0, .int .i64 0, .string ⟨#[]⟩] A2 := by rw [← hA2]; exact Blk.farS (q := (w.heap.size + 1 + 1)) (by omega) [.int .i64 sv] 2 _ UC
  have BC_ : Below w.heap.size w A2 := by rw [← hA2]; exact below_sets (g := (w.heap.size + 1 + 1)) (by omega) [.int .i64 sv] 2 _ BC
  have OC0A2 := OC
  clear TC UC OC BC
  have TC := TC_
  have UC := UC_
  have OC := OC_
  have BC := BC_
  clear TC_ UC_ OC_ BC_
  have q4_ := TC.at 3 rfl
  obtain ⟨A3, hA3⟩ : ∃ Wz, (World.setCells A2 (w.heap.size + 1 + 1) 3 [.int .i64 k]) = Wz := ⟨_, rfl⟩
  have OC_ : Blk (w.heap.size + 1 + 1) [.int .i64 o, .int .i64 cl, .int .i64 sv, .int .i64 k, .int .i64 0, .int .i64 0, .int .i64 0, .string ⟨#[]⟩] A3 := by rw [← hA3]; exact OC.part 3 [.int .i64 k] _ (by simp) rfl
  have TC_ : Blk w.heap.size [.int .i64 o, .int .i64 cl, .int .i64 sv, .int .i64 k, .int .i64 a, .int .i64 b, .int .i64 e, .string tk] A3 := by rw [← hA3]; exact Blk.farS (q := (w.heap.size + 1 + 1)) (by omega) [.int .i64 k] 3 _ TC
  have UC_ : Blk (w.heap.size + 1) [.int .i64 0, .int .i64 0, .int .i64 0, .int .i64 0, .int .i64 0, .int .i64 0, .int .i64 0, .string ⟨#[]⟩] A3 := by rw [← hA3]; exact Blk.farS (q := (w.heap.size + 1 + 1)) (by omega) [.int .i64 k] 3 _ UC
  have BC_ : Below w.heap.size w A3 := by rw [← hA3]; exact below_sets (g := (w.heap.size + 1 + 1)) (by omega) [.int .i64 k] 3 _ BC
  have OC0A3 := OC
  clear TC UC OC BC
  have TC := TC_
  have UC := UC_
  have OC := OC_
  have BC := BC_
  clear TC_ UC_ OC_ BC_
  have q5_ := TC.at 4 rfl
  have q6_ := TC.at 5 rfl
  have q7_ := TC.at 6 rfl
  go_enter Try.func8, Try.ntmps8
  go_wp2_with (first | (refine wpList_st1 3 _ _ (w.heap.size + 1 + 1) 0 [.int .i64 0, .int .i64 0, .int .i64 0, .int .i64 0, .int .i64 0, .int .i64 0, .int .i64 0, .string ⟨#[]⟩] (.int .i64 o) i1 hi1 OC0A0 hz1 (by simp) rfl rfl rfl rfl rfl ?_; try simp only [Act.put]; rw [hA0]) | (refine wpList_st1 3 _ _ (w.heap.size + 1 + 1) 1 [.int .i64 o, .int .i64 0, .int .i64 0, .int .i64 0, .int .i64 0, .int .i64 0, .int .i64 0, .string ⟨#[]⟩] (.int .i64 cl) i1 hi1 OC0A1 hz1 (by simp) rfl rfl rfl rfl rfl ?_; try simp only [Act.put]; rw [hA1]) | (refine wpList_st1 3 _ _ (w.heap.size + 1 + 1) 2 [.int .i64 o, .int .i64 cl, .int .i64 0, .int .i64 0, .int .i64 0, .int .i64 0, .int .i64 0, .string ⟨#[]⟩] (.int .i64 sv) i1 hi1 OC0A2 hz1 (by simp) rfl rfl rfl rfl rfl ?_; try simp only [Act.put]; rw [hA2]) | (refine wpList_st1 3 _ _ (w.heap.size + 1 + 1) 3 [.int .i64 o, .int .i64 cl, .int .i64 sv, .int .i64 0, .int .i64 0, .int .i64 0, .int .i64 0, .string ⟨#[]⟩] (.int .i64 k) i1 hi1 OC0A3 hz1 (by simp) rfl rfl rfl rfl rfl ?_; try simp only [Act.put]; rw [hA3]))
  refine (toRest_is a b e _).mono ?_
  rintro en w5 ⟨rfl, hb⟩
  replace TC := TC.later hb TC.lt
  replace UC := UC.later hb UC.lt
  replace OC := OC.later hb OC.lt
  replace BC := BC.trans (hb.mono BC.size)
  clear hb
  clear q1_ OC0A0 q2_ OC0A1 q3_ OC0A2 q4_ OC0A3 q5_ q6_ q7_ hA0 hA1 hA2 hA3
  obtain ⟨A5, hA5⟩ : ∃ Wz, (World.setCells w5 (w.heap.size + 1 + 1) 4 [.int .i64 a, .int .i64 b, .int .i64 e]) = Wz := ⟨_, rfl⟩
  have OC_ : Blk (w.heap.size + 1 + 1) [.int .i64 o, .int .i64 cl, .int .i64 sv, .int .i64 k, .int .i64 a, .int .i64 b, .int .i64 e, .string ⟨#[]⟩] A5 := by rw [← hA5]; exact OC.part 4 [.int .i64 a, .int .i64 b, .int .i64 e] _ (by simp) rfl
  have TC_ : Blk w.heap.size [.int .i64 o, .int .i64 cl, .int .i64 sv, .int .i64 k, .int .i64 a, .int .i64 b, .int .i64 e, .string tk] A5 := by rw [← hA5]; exact Blk.farS (q := (w.heap.size + 1 + 1)) (by omega) [.int .i64 a, .int .i64 b, .int .i64 e] 4 _ TC
  have UC_ : Blk (w.heap.size + 1) [.int .i64 0, .int .i64 0, .int .i64 0, .int .i64 0, .int .i64 0, .int .i64 0, .int .i64 0, .string ⟨#[]⟩] A5 := by rw [← hA5]; exact Blk.farS (q := (w.heap.size + 1 + 1)) (by omega) [.int .i64 a, .int .i64 b, .int .i64 e] 4 _ UC
  have BC_ : Below w.heap.size w A5 := by rw [← hA5]; exact below_sets (g := (w.heap.size + 1 + 1)) (by omega) [.int .i64 a, .int .i64 b, .int .i64 e] 4 _ BC
  have OC0A5 := OC
  clear TC UC OC BC
  have TC := TC_
  have UC := UC_
  have OC := OC_
  have BC := BC_
  clear TC_ UC_ OC_ BC_
  have q8_ := TC.at 7 rfl
  obtain ⟨A6, hA6⟩ : ∃ Wz, (World.setCells A5 (w.heap.size + 1 + 1) 7 [.string tk]) = Wz := ⟨_, rfl⟩
  have OC_ : Blk (w.heap.size + 1 + 1) [.int .i64 o, .int .i64 cl, .int .i64 sv, .int .i64 k, .int .i64 a, .int .i64 b, .int .i64 e, .string tk] A6 := by rw [← hA6]; exact OC.part 7 [.string tk] _ (by simp) rfl
  have TC_ : Blk w.heap.size [.int .i64 o, .int .i64 cl, .int .i64 sv, .int .i64 k, .int .i64 a, .int .i64 b, .int .i64 e, .string tk] A6 := by rw [← hA6]; exact Blk.farS (q := (w.heap.size + 1 + 1)) (by omega) [.string tk] 7 _ TC
  have UC_ : Blk (w.heap.size + 1) [.int .i64 0, .int .i64 0, .int .i64 0, .int .i64 0, .int .i64 0, .int .i64 0, .int .i64 0, .string ⟨#[]⟩] A6 := by rw [← hA6]; exact Blk.farS (q := (w.heap.size + 1 + 1)) (by omega) [.string tk] 7 _ UC
  have BC_ : Below w.heap.size w A6 := by rw [← hA6]; exact below_sets (g := (w.heap.size + 1 + 1)) (by omega) [.string tk] 7 _ BC
  have OC0A6 := OC
  clear TC UC OC BC
  have TC := TC_
  have UC := UC_
  have OC := OC_
  have BC := BC_
  clear TC_ UC_ OC_ BC_
  have FU := UC.sets [.int .i64 o, .int .i64 cl, .int .i64 sv, .int .i64 k, .int .i64 a, .int .i64 b, .int .i64 e, .string tk] rfl
  have FB := below_sets (m := w.heap.size) (g := (w.heap.size + 1)) (by omega) [.int .i64 o, .int .i64 cl, .int .i64 sv, .int .i64 k, .int .i64 a, .int .i64 b, .int .i64 e, .string tk] 0 _ BC
  go_wp2_with (first | (refine wpList_stB 28 _ _ (w.heap.size + 1 + 1) 4 [.int .i64 o, .int .i64 cl, .int .i64 sv, .int .i64 k, .int .i64 0, .int .i64 0, .int .i64 0, .string ⟨#[]⟩] [.int .i64 a, .int .i64 b, .int .i64 e] i3 hi3 OC0A5 (by rw [hz3]; rfl) (by simp) rfl rfl rfl rfl rfl ?_; try simp only [Act.put]; rw [hA5]) | (refine wpList_st1 9 _ _ (w.heap.size + 1 + 1) 7 [.int .i64 o, .int .i64 cl, .int .i64 sv, .int .i64 k, .int .i64 a, .int .i64 b, .int .i64 e, .string ⟨#[]⟩] (.string tk) is his OC0A6 hzs (by simp) rfl rfl rfl rfl rfl ?_; try simp only [Act.put]; rw [hA6]) | (refine wpList_ldB 30 _ (w.heap.size + 1 + 1) 0 [.int .i64 o, .int .i64 cl, .int .i64 sv, .int .i64 k, .int .i64 a, .int .i64 b, .int .i64 e, .string tk] [.int .i64 o, .int .i64 cl, .int .i64 sv, .int .i64 k, .int .i64 a, .int .i64 b, .int .i64 e, .string tk] ie hie ag30 OC (by rw [hsz]; rfl) rfl rfl rfl rfl ?_; try simp only [Act.put]) | (refine wpList_stB 30 _ _ (w.heap.size + 1) 0 [.int .i64 0, .int .i64 0, .int .i64 0, .int .i64 0, .int .i64 0, .int .i64 0, .int .i64 0, .string ⟨#[]⟩] [.int .i64 o, .int .i64 cl, .int .i64 sv, .int .i64 k, .int .i64 a, .int .i64 b, .int .i64 e, .string tk] ie hie UC (by rw [hsz]; rfl) (by simp) rfl rfl rfl rfl rfl ?_; try simp only [Act.put]))
  exact bodyPost_ret (res_B1 rfl _ _ (w.heap.size + 1) _ ie hie ag30 FU (by rw [hsz]; rfl) rfl) rfl ⟨rfl, FB⟩
end Go.Proofs.Ytbbaddcldoflfaa
