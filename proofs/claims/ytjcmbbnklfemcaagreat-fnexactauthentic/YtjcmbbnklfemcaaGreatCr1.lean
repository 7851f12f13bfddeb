/- Chapter 9: Creds that are right, program and model; Creds copied. -/
import Derived.Test.YtjcmbbnklfemcaaGreatReg
import Derived.Test.YtjcmbbnklfemcaaGreatTick1
import Derived.Test.YtjcmbbnklfemcaaGreatOk
import Derived.Test.YtjcmbbnklfemcaaGreatRest
set_option linter.unusedVariables false
set_option maxRecDepth 100000
namespace Go.Proofs.YtjcmbbnklfemcaaGreat
open Go Go.RowKit Own Var Term

/-- Is a Cred right? -/
def crOk (o cl sv k a b e : Int) (tk : ByteArray) : Bool := btw o 0 5 && (btw cl 0 5 && (svOk sv && (btw k 1 1000000 && (rOk a b e && isT tk))))

set_option maxRecDepth 100000 in
set_option maxHeartbeats 1600000 in
theorem credRight_is (o cl sv k a b e : Int) (tk : ByteArray) (w : World) (hs : i64 sv) (ht : tk.size ≤ 1048576) : Calls Tryz.prog 120 #[.agg #[.int .i64 o, .int .i64 cl, .int .i64 sv, .int .i64 k, .int .i64 a, .int .i64 b, .int .i64 e, .string tk]] w fun en w' => en = .returned (.bool (crOk o cl sv k a b e tk)) ∧ Below w.heap.size w w' := by
  obtain ⟨W1, hW1⟩ : ∃ W1, w.alloc (.cells #[.int .i64 o, .int .i64 cl, .int .i64 sv, .int .i64 k, .int .i64 a, .int .i64 b, .int .i64 e, .string tk] 74) = W1 := ⟨_, rfl⟩
  have B0 : Below w.heap.size w W1 := by rw [← hW1]; exact (Below.refl _ _).alloc (Nat.le_refl _) _
  have T0 : Blk w.heap.size [.int .i64 o, .int .i64 cl, .int .i64 sv, .int .i64 k, .int .i64 a, .int .i64 b, .int .i64 e, .string tk] W1 := by rw [← hW1]; exact Blk.new _ _ _
  have Z0 : Hid (w.heap.size < W1.heap.size) := by show _ < _; rw [← hW1]; simp
  have d0 := T0.at 0 rfl
  have d1 := T0.at 1 rfl
  have d2 := T0.at 2 rfl
  have d3 := T0.at 3 rfl
  have d4 := T0.at 4 rfl
  have d5 := T0.at 5 rfl
  have d6 := T0.at 6 rfl
  have d7 := T0.at 7 rfl
  go_enter Tryz.func120, Tryz.ntmps120
  go_wp2_with fail
  try rw [hW1]
  refine (prin_is o _).mono ?_
  clear hW1
  rintro e wx ⟨rfl, rfl⟩
  by_cases h0 : btw o 0 5 = true
  · rw [h0]
    go_wp2_with fail
    refine (prin_is cl _).mono ?_
    rintro e wx ⟨rfl, rfl⟩
    by_cases h1 : btw cl 0 5 = true
    · rw [h1]
      go_wp2_with fail
      refine (recv_is sv _ hs).mono ?_
      rintro e wx ⟨rfl, rfl⟩
      by_cases h2 : svOk sv = true
      · rw [h2]
        go_wp2_with fail
        refine (keyOk_is k _).mono ?_
        rintro e wx ⟨rfl, rfl⟩
        rw [show (decide (1 ≤ k) && decide (k ≤ 1000000)) = btw k 1 1000000 from rfl]
        by_cases h3 : btw k 1 1000000 = true
        · rw [h3]
          go_wp2_with fail
          refine (right_is a b e _).mono ?_
          rintro e w6 ⟨rfl, hb6⟩
          have B6 := B0.trans (hb6.mono B0.size)
          clear d0 d1 d2 d3 d4 d5 d6 d7
          have T6 := T0.later hb6 Z0.out
          have Z6 : Hid (w.heap.size < w6.heap.size) := Nat.lt_of_lt_of_le Z0.out hb6.size
          clear T0 Z0 hb6
          have d0 := T6.at 0 rfl
          have d1 := T6.at 1 rfl
          have d2 := T6.at 2 rfl
          have d3 := T6.at 3 rfl
          have d4 := T6.at 4 rfl
          have d5 := T6.at 5 rfl
          have d6 := T6.at 6 rfl
          have d7 := T6.at 7 rfl
          by_cases h4 : rOk a b e = true
          · rw [h4]
            go_wp2_with fail
            refine (impl_ok tk _ (by omega)).mono ?_
            rintro e w7 ⟨rfl, hb7⟩
            have B7 := B6.trans (hb7.mono B6.size)
            clear d0 d1 d2 d3 d4 d5 d6 d7
            have T7 := T6.later hb7 Z6.out
            have Z7 : Hid (w.heap.size < w7.heap.size) := Nat.lt_of_lt_of_le Z6.out hb7.size
            clear T6 Z6 hb7
            have d0 := T7.at 0 rfl
            have d1 := T7.at 1 rfl
            have d2 := T7.at 2 rfl
            have d3 := T7.at 3 rfl
            have d4 := T7.at 4 rfl
            have d5 := T7.at 5 rfl
            have d6 := T7.at 6 rfl
            have d7 := T7.at 7 rfl
            clear d0 d1 d2 d3 d4 d5 d6 d7
            generalize hval : isT tk = bb
            go_wp2
            go_ret
            exact ⟨by unfold crOk; rw [h0, h1, h2, h3, h4, hval]; rfl, B7⟩
          · rw [Bool.not_eq_true] at h4
            rw [h4]
            clear d0 d1 d2 d3 d4 d5 d6 d7
            go_wp2
            go_ret
            exact ⟨by unfold crOk; rw [h0, h1, h2, h3, h4]; rfl, B6⟩
        · rw [Bool.not_eq_true] at h3
          rw [h3]
          clear d0 d1 d2 d3 d4 d5 d6 d7
          go_wp2
          go_ret
          exact ⟨by unfold crOk; rw [h0, h1, h2, h3]; rfl, B0⟩
      · rw [Bool.not_eq_true] at h2
        rw [h2]
        clear d0 d1 d2 d3 d4 d5 d6 d7
        go_wp2
        go_ret
        exact ⟨by unfold crOk; rw [h0, h1, h2]; rfl, B0⟩
    · rw [Bool.not_eq_true] at h1
      rw [h1]
      clear d0 d1 d2 d3 d4 d5 d6 d7
      go_wp2
      go_ret
      exact ⟨by unfold crOk; rw [h0, h1]; rfl, B0⟩
  · rw [Bool.not_eq_true] at h0
    rw [h0]
    clear d0 d1 d2 d3 d4 d5 d6 d7
    go_wp2
    go_ret
    exact ⟨by unfold crOk; rw [h0]; rfl, B0⟩

set_option maxRecDepth 100000 in
set_option maxHeartbeats 1600000 in
theorem specCred_is (o cl sv k a b e : Int) (tk : ByteArray) (w : World) (ht : tk.size ≤ 1048576) : Calls Tryz.prog 32 #[.agg #[.int .i64 o, .int .i64 cl, .int .i64 sv, .int .i64 k, .int .i64 a, .int .i64 b, .int .i64 e, .string tk]] w fun en w' => en = .returned (.bool (crOk o cl sv k a b e tk)) ∧ Below w.heap.size w w' := by
  obtain ⟨W1, hW1⟩ : ∃ W1, w.alloc (.cells #[.int .i64 o, .int .i64 cl, .int .i64 sv, .int .i64 k, .int .i64 a, .int .i64 b, .int .i64 e, .string tk] 74) = W1 := ⟨_, rfl⟩
  have B0 : Below w.heap.size w W1 := by rw [← hW1]; exact (Below.refl _ _).alloc (Nat.le_refl _) _
  have T0 : Blk w.heap.size [.int .i64 o, .int .i64 cl, .int .i64 sv, .int .i64 k, .int .i64 a, .int .i64 b, .int .i64 e, .string tk] W1 := by rw [← hW1]; exact Blk.new _ _ _
  have Z0 : Hid (w.heap.size < W1.heap.size) := by show _ < _; rw [← hW1]; simp
  have d0 := T0.at 0 rfl
  have d1 := T0.at 1 rfl
  have d2 := T0.at 2 rfl
  have d3 := T0.at 3 rfl
  have d4 := T0.at 4 rfl
  have d5 := T0.at 5 rfl
  have d6 := T0.at 6 rfl
  have d7 := T0.at 7 rfl
  go_enter Tryz.func32, Tryz.ntmps32
  go_wp2_with fail
  try rw [hW1]
  refine (spec_prin o _).mono ?_
  clear hW1
  rintro e wx ⟨rfl, rfl⟩
  by_cases h0 : btw o 0 5 = true
  · rw [h0]
    go_wp2_with fail
    refine (spec_prin cl _).mono ?_
    rintro e wx ⟨rfl, rfl⟩
    by_cases h1 : btw cl 0 5 = true
    · rw [h1]
      go_wp2_with fail
      refine (spec_serv sv _).mono ?_
      rintro e wx ⟨rfl, rfl⟩
      by_cases h2 : svOk sv = true
      · rw [h2]
        go_wp2_with fail
        refine (in_is k 1 1000000 _).mono ?_
        rintro e wx ⟨rfl, rfl⟩
        rw [show (decide (1 ≤ k) && decide (k ≤ 1000000)) = btw k 1 1000000 from rfl]
        by_cases h3 : btw k 1 1000000 = true
        · rw [h3]
          go_wp2_with fail
          refine (specOk_is a b e _).mono ?_
          rintro e w6 ⟨rfl, hb6⟩
          have B6 := B0.trans (hb6.mono B0.size)
          clear d0 d1 d2 d3 d4 d5 d6 d7
          have T6 := T0.later hb6 Z0.out
          have Z6 : Hid (w.heap.size < w6.heap.size) := Nat.lt_of_lt_of_le Z0.out hb6.size
          clear T0 Z0 hb6
          have d0 := T6.at 0 rfl
          have d1 := T6.at 1 rfl
          have d2 := T6.at 2 rfl
          have d3 := T6.at 3 rfl
          have d4 := T6.at 4 rfl
          have d5 := T6.at 5 rfl
          have d6 := T6.at 6 rfl
          have d7 := T6.at 7 rfl
          by_cases h4 : rOk a b e = true
          · rw [h4]
            go_wp2_with fail
            refine (spec_ok tk _ ht).mono ?_
            rintro e w7 ⟨rfl, hb7⟩
            have B7 := B6.trans (hb7.mono B6.size)
            clear d0 d1 d2 d3 d4 d5 d6 d7
            have T7 := T6.later hb7 Z6.out
            have Z7 : Hid (w.heap.size < w7.heap.size) := Nat.lt_of_lt_of_le Z6.out hb7.size
            clear T6 Z6 hb7
            have d0 := T7.at 0 rfl
            have d1 := T7.at 1 rfl
            have d2 := T7.at 2 rfl
            have d3 := T7.at 3 rfl
            have d4 := T7.at 4 rfl
            have d5 := T7.at 5 rfl
            have d6 := T7.at 6 rfl
            have d7 := T7.at 7 rfl
            clear d0 d1 d2 d3 d4 d5 d6 d7
            generalize hval : isT tk = bb
            go_wp2
            go_ret
            exact ⟨by unfold crOk; rw [h0, h1, h2, h3, h4, hval]; rfl, B7⟩
          · rw [Bool.not_eq_true] at h4
            rw [h4]
            clear d0 d1 d2 d3 d4 d5 d6 d7
            go_wp2
            go_ret
            exact ⟨by unfold crOk; rw [h0, h1, h2, h3, h4]; rfl, B6⟩
        · rw [Bool.not_eq_true] at h3
          rw [h3]
          clear d0 d1 d2 d3 d4 d5 d6 d7
          go_wp2
          go_ret
          exact ⟨by unfold crOk; rw [h0, h1, h2, h3]; rfl, B0⟩
      · rw [Bool.not_eq_true] at h2
        rw [h2]
        clear d0 d1 d2 d3 d4 d5 d6 d7
        go_wp2
        go_ret
        exact ⟨by unfold crOk; rw [h0, h1, h2]; rfl, B0⟩
    · rw [Bool.not_eq_true] at h1
      rw [h1]
      clear d0 d1 d2 d3 d4 d5 d6 d7
      go_wp2
      go_ret
      exact ⟨by unfold crOk; rw [h0, h1]; rfl, B0⟩
  · rw [Bool.not_eq_true] at h0
    rw [h0]
    clear d0 d1 d2 d3 d4 d5 d6 d7
    go_wp2
    go_ret
    exact ⟨by unfold crOk; rw [h0]; rfl, B0⟩

end Go.Proofs.YtjcmbbnklfemcaaGreat
