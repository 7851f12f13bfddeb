/- Tickets: what is right. -/
import Derived.Test.YtbkemhclncmicaaTick3
import Derived.Test.YtbkemhclncmicaaTick4
import Derived.Test.YtbkemhclncmicaaRows1
set_option linter.unusedVariables false
namespace Go.Proofs.Ytbkemhclncmicaa
open Go Go.RowKit Own Var Term

set_option maxRecDepth 100000 in
set_option maxHeartbeats 1600000 in
theorem ticketOk_is (c s k a b e : Int) (pa : Option Addr) (P : List Int) (pc : Nat) (va : Option Addr) (V : List Int) (vc : Nat) (w : World) (hs : i64 s) (hp : RowAt (Value.int .i64) w pa P) (hv : RowAt (Value.int .i64) w va V) (hpl : P.length ≤ 1048576) (hvl : V.length ≤ 1048576) : Calls Try.prog 68 #[.agg #[.int .i64 c, .int .i64 s, .int .i64 k, .int .i64 a, .int .i64 b, .int .i64 e, .slice pa P.length pc, .slice va V.length vc]] w fun en w' => en = .returned (.bool (tOk c s k a b e P V)) ∧ Below w.heap.size w w' := by
  obtain ⟨W1, hW1⟩ : ∃ W1, w.alloc (.cells #[.int .i64 c, .int .i64 s, .int .i64 k, .int .i64 a, .int .i64 b, .int .i64 e, .slice pa P.length pc, .slice va V.length vc] 31) = W1 := ⟨_, rfl⟩
  have B0 : Below w.heap.size w W1 := by rw [← hW1]; exact (Below.refl _ _).alloc (Nat.le_refl _) _
  have T0 : Blk w.heap.size [.int .i64 c, .int .i64 s, .int .i64 k, .int .i64 a, .int .i64 b, .int .i64 e, .slice pa P.length pc, .slice va V.length vc] W1 := by rw [← hW1]; exact Blk.new _ _ _
  have Z0 : Hid (w.heap.size < W1.heap.size) := by show _ < _; rw [← hW1]; simp
  have d0 := T0.at 0 rfl
  have d1 := T0.at 1 rfl
  have d2 := T0.at 2 rfl
  have d3 := T0.at 3 rfl
  have d4 := T0.at 4 rfl
  have d5 := T0.at 5 rfl
  have d6 := T0.at 6 rfl
  have d7 := T0.at 7 rfl
  go_enter Try.func68, Try.ntmps68
  go_wp2_with fail
  try rw [hW1]
  refine (prin_is c _).mono ?_
  clear hW1
  rintro e wx ⟨rfl, rfl⟩
  by_cases h0 : btw c 0 5 = true
  · rw [h0]
    go_wp2_with fail
    refine (recv_is s _ hs).mono ?_
    rintro e wx ⟨rfl, rfl⟩
    by_cases h1 : svOk s = true
    · rw [h1]
      go_wp2_with fail
      refine (keyOk_is k _).mono ?_
      rintro e wx ⟨rfl, rfl⟩
      rw [show (decide (1 ≤ k) && decide (k ≤ 1000000)) = btw k 1 1000000 from rfl]
      by_cases h2 : btw k 1 1000000 = true
      · rw [h2]
        go_wp2_with fail
        refine (right_is a b e _).mono ?_
        rintro e w5 ⟨rfl, hb5⟩
        have B5 := B0.trans (hb5.mono B0.size)
        clear d0 d1 d2 d3 d4 d5 d6 d7
        have T5 := T0.later hb5 Z0.out
        have Z5 : Hid (w.heap.size < w5.heap.size) := Nat.lt_of_lt_of_le Z0.out hb5.size
        clear T0 Z0 hb5
        have d0 := T5.at 0 rfl
        have d1 := T5.at 1 rfl
        have d2 := T5.at 2 rfl
        have d3 := T5.at 3 rfl
        have d4 := T5.at 4 rfl
        have d5 := T5.at 5 rfl
        have d6 := T5.at 6 rfl
        have d7 := T5.at 7 rfl
        by_cases h3 : rOk a b e = true
        · rw [h3]
          go_wp2_with fail
          refine (listOk_is 95 enters95 realm_is pa pc P 6 _ (hp.later B5) hpl (by omega)).mono ?_
          rintro e w6 ⟨rfl, hb6⟩
          have B6 := B5.trans (hb6.mono B5.size)
          clear d0 d1 d2 d3 d4 d5 d6 d7
          have T6 := T5.later hb6 Z5.out
          have Z6 : Hid (w.heap.size < w6.heap.size) := Nat.lt_of_lt_of_le Z5.out hb6.size
          clear T5 Z5 hb6
          have d0 := T6.at 0 rfl
          have d1 := T6.at 1 rfl
          have d2 := T6.at 2 rfl
          have d3 := T6.at 3 rfl
          have d4 := T6.at 4 rfl
          have d5 := T6.at 5 rfl
          have d6 := T6.at 6 rfl
          have d7 := T6.at 7 rfl
          by_cases h4 : allB P 6 = true
          · rw [h4]
            go_wp2_with fail
            refine (listOk_is 96 enters96 serv_is va vc V 4 _ (hv.later B6) hvl (by omega)).mono ?_
            rintro e w7 ⟨rfl, hb7⟩
            have B7 := B6.trans (hb7.mono B6.size)
            clear d0 d1 d2 d3 d4 d5 d6 d7
            have T7 := T6.later hb7 Z6.out
            have Z7 : Hid (w.heap.size < w7.heap.size) := Nat.lt_of_lt_of_le Z6.out hb7.size
            clear T6 Z6 hb7
            have d0 := T7.at 0 rfl
            have d1 := T7.at 1 rfl
            have d2 := T7.at 2 rfl
            have d3 := T7.at 3 rfl
            have d4 := T7.at 4 rfl
            have d5 := T7.at 5 rfl
            have d6 := T7.at 6 rfl
            have d7 := T7.at 7 rfl
            clear d0 d1 d2 d3 d4 d5 d6 d7
            generalize hval : allB V 4 = bb
            go_wp2
            go_ret
            exact ⟨by unfold tOk; rw [h0, h1, h2, h3, h4, hval]; rfl, B7⟩
          · rw [Bool.not_eq_true] at h4
            rw [h4]
            clear d0 d1 d2 d3 d4 d5 d6 d7
            go_wp2
            go_ret
            exact ⟨by unfold tOk; rw [h0, h1, h2, h3, h4]; rfl, B6⟩
        · rw [Bool.not_eq_true] at h3
          rw [h3]
          clear d0 d1 d2 d3 d4 d5 d6 d7
          go_wp2
          go_ret
          exact ⟨by unfold tOk; rw [h0, h1, h2, h3]; rfl, B5⟩
      · rw [Bool.not_eq_true] at h2
        rw [h2]
        clear d0 d1 d2 d3 d4 d5 d6 d7
        go_wp2
        go_ret
        exact ⟨by unfold tOk; rw [h0, h1, h2]; rfl, B0⟩
    · rw [Bool.not_eq_true] at h1
      rw [h1]
      clear d0 d1 d2 d3 d4 d5 d6 d7
      go_wp2
      go_ret
      exact ⟨by unfold tOk; rw [h0, h1]; rfl, B0⟩
  · rw [Bool.not_eq_true] at h0
    rw [h0]
    clear d0 d1 d2 d3 d4 d5 d6 d7
    go_wp2
    go_ret
    exact ⟨by unfold tOk; rw [h0]; rfl, B0⟩

set_option maxRecDepth 100000 in
set_option maxHeartbeats 1600000 in
theorem spec_ticketOk (c s k a b e : Int) (pa : Option Addr) (P : List Int) (pc : Nat) (va : Option Addr) (V : List Int) (vc : Nat) (w : World) (hp : RowAt (Value.int .i64) w pa P) (hv : RowAt (Value.int .i64) w va V) (hpl : P.length ≤ 1048576) (hvl : V.length ≤ 1048576) : Calls Try.prog 31 #[.agg #[.int .i64 c, .int .i64 s, .int .i64 k, .int .i64 a, .int .i64 b, .int .i64 e, .slice pa P.length pc, .slice va V.length vc]] w fun en w' => en = .returned (.bool (tOk c s k a b e P V)) ∧ Below w.heap.size w w' := by
  obtain ⟨W1, hW1⟩ : ∃ W1, w.alloc (.cells #[.int .i64 c, .int .i64 s, .int .i64 k, .int .i64 a, .int .i64 b, .int .i64 e, .slice pa P.length pc, .slice va V.length vc] 31) = W1 := ⟨_, rfl⟩
  have B0 : Below w.heap.size w W1 := by rw [← hW1]; exact (Below.refl _ _).alloc (Nat.le_refl _) _
  have T0 : Blk w.heap.size [.int .i64 c, .int .i64 s, .int .i64 k, .int .i64 a, .int .i64 b, .int .i64 e, .slice pa P.length pc, .slice va V.length vc] W1 := by rw [← hW1]; exact Blk.new _ _ _
  have Z0 : Hid (w.heap.size < W1.heap.size) := by show _ < _; rw [← hW1]; simp
  have d0 := T0.at 0 rfl
  have d1 := T0.at 1 rfl
  have d2 := T0.at 2 rfl
  have d3 := T0.at 3 rfl
  have d4 := T0.at 4 rfl
  have d5 := T0.at 5 rfl
  have d6 := T0.at 6 rfl
  have d7 := T0.at 7 rfl
  go_enter Try.func31, Try.ntmps31
  go_wp2_with fail
  try rw [hW1]
  refine (spec_prin c _).mono ?_
  clear hW1
  rintro e wx ⟨rfl, rfl⟩
  by_cases h0 : btw c 0 5 = true
  · rw [h0]
    go_wp2_with fail
    refine (spec_serv s _).mono ?_
    rintro e wx ⟨rfl, rfl⟩
    by_cases h1 : svOk s = true
    · rw [h1]
      go_wp2_with fail
      refine (in_is k 1 1000000 _).mono ?_
      rintro e wx ⟨rfl, rfl⟩
      rw [show (decide (1 ≤ k) && decide (k ≤ 1000000)) = btw k 1 1000000 from rfl]
      by_cases h2 : btw k 1 1000000 = true
      · rw [h2]
        go_wp2_with fail
        refine (specOk_is a b e _).mono ?_
        rintro e w5 ⟨rfl, hb5⟩
        have B5 := B0.trans (hb5.mono B0.size)
        clear d0 d1 d2 d3 d4 d5 d6 d7
        have T5 := T0.later hb5 Z0.out
        have Z5 : Hid (w.heap.size < w5.heap.size) := Nat.lt_of_lt_of_le Z0.out hb5.size
        clear T0 Z0 hb5
        have d0 := T5.at 0 rfl
        have d1 := T5.at 1 rfl
        have d2 := T5.at 2 rfl
        have d3 := T5.at 3 rfl
        have d4 := T5.at 4 rfl
        have d5 := T5.at 5 rfl
        have d6 := T5.at 6 rfl
        have d7 := T5.at 7 rfl
        by_cases h3 : rOk a b e = true
        · rw [h3]
          go_wp2_with fail
          refine (spec_all pa pc P 6 _ (hp.later B5) hpl (by omega)).mono ?_
          rintro e w6 ⟨rfl, hb6⟩
          have B6 := B5.trans (hb6.mono B5.size)
          clear d0 d1 d2 d3 d4 d5 d6 d7
          have T6 := T5.later hb6 Z5.out
          have Z6 : Hid (w.heap.size < w6.heap.size) := Nat.lt_of_lt_of_le Z5.out hb6.size
          clear T5 Z5 hb6
          have d0 := T6.at 0 rfl
          have d1 := T6.at 1 rfl
          have d2 := T6.at 2 rfl
          have d3 := T6.at 3 rfl
          have d4 := T6.at 4 rfl
          have d5 := T6.at 5 rfl
          have d6 := T6.at 6 rfl
          have d7 := T6.at 7 rfl
          by_cases h4 : allB P 6 = true
          · rw [h4]
            go_wp2_with fail
            refine (spec_all va vc V 4 _ (hv.later B6) hvl (by omega)).mono ?_
            rintro e w7 ⟨rfl, hb7⟩
            have B7 := B6.trans (hb7.mono B6.size)
            clear d0 d1 d2 d3 d4 d5 d6 d7
            have T7 := T6.later hb7 Z6.out
            have Z7 : Hid (w.heap.size < w7.heap.size) := Nat.lt_of_lt_of_le Z6.out hb7.size
            clear T6 Z6 hb7
            have d0 := T7.at 0 rfl
            have d1 := T7.at 1 rfl
            have d2 := T7.at 2 rfl
            have d3 := T7.at 3 rfl
            have d4 := T7.at 4 rfl
            have d5 := T7.at 5 rfl
            have d6 := T7.at 6 rfl
            have d7 := T7.at 7 rfl
            clear d0 d1 d2 d3 d4 d5 d6 d7
            generalize hval : allB V 4 = bb
            go_wp2
            go_ret
            exact ⟨by unfold tOk; rw [h0, h1, h2, h3, h4, hval]; rfl, B7⟩
          · rw [Bool.not_eq_true] at h4
            rw [h4]
            clear d0 d1 d2 d3 d4 d5 d6 d7
            go_wp2
            go_ret
            exact ⟨by unfold tOk; rw [h0, h1, h2, h3, h4]; rfl, B6⟩
        · rw [Bool.not_eq_true] at h3
          rw [h3]
          clear d0 d1 d2 d3 d4 d5 d6 d7
          go_wp2
          go_ret
          exact ⟨by unfold tOk; rw [h0, h1, h2, h3]; rfl, B5⟩
      · rw [Bool.not_eq_true] at h2
        rw [h2]
        clear d0 d1 d2 d3 d4 d5 d6 d7
        go_wp2
        go_ret
        exact ⟨by unfold tOk; rw [h0, h1, h2]; rfl, B0⟩
    · rw [Bool.not_eq_true] at h1
      rw [h1]
      clear d0 d1 d2 d3 d4 d5 d6 d7
      go_wp2
      go_ret
      exact ⟨by unfold tOk; rw [h0, h1]; rfl, B0⟩
  · rw [Bool.not_eq_true] at h0
    rw [h0]
    clear d0 d1 d2 d3 d4 d5 d6 d7
    go_wp2
    go_ret
    exact ⟨by unfold tOk; rw [h0]; rfl, B0⟩

end Go.Proofs.Ytbkemhclncmicaa
