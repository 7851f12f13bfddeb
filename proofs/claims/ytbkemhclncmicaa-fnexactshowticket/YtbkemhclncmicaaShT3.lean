/- Tickets as texts: what the law asks by. -/
import Derived.Test.YtbkemhclncmicaaShT
import Derived.Test.YtbkemhclncmicaaShT2
import Derived.Test.YtbkemhclncmicaaToT
import Derived.Test.YtbkemhclncmicaaSzT
set_option linter.unusedVariables false
namespace Go.Proofs.Ytbkemhclncmicaa
open Go Go.RowKit Own Var Term

set_option maxRecDepth 100000 in
set_option maxHeartbeats 1600000 in
theorem implShowT_is (c s k a b e : Int) (pa : Option Addr) (P : List Int) (pc : Nat) (va : Option Addr) (V : List Int) (vc : Nat) (key : Int) (w : World) (hs : i64 s) (hp : RowAt (Value.int .i64) w pa P) (hv : RowAt (Value.int .i64) w va V) (hpl : P.length ≤ 1048576) (hvl : V.length ≤ 1048576) : Calls Try.prog 12 #[.agg #[.int .i64 c, .int .i64 s, .int .i64 k, .int .i64 a, .int .i64 b, .int .i64 e, .slice pa P.length pc, .slice va V.length vc], .int .i64 key] w fun en w' => en = .returned (.string (shT c s k a b e P V key)) ∧ Below w.heap.size w w' := by
  have B0 : Below w.heap.size w (w.alloc (.cells #[.int .i64 c, .int .i64 s, .int .i64 k, .int .i64 a, .int .i64 b, .int .i64 e, .slice pa P.length pc, .slice va V.length vc] 31)) := (Below.refl _ _).alloc (Nat.le_refl _) _
  have HS := showT_is c s k a b e pa P pc va V vc key _ hs (hp.later B0) (hv.later B0) hpl hvl
  go_enter Try.func12, Try.ntmps12
  go_wp2_with fail
  refine HS.mono ?_
  rintro en w1 ⟨rfl, hb1⟩
  have B1 := B0.trans (hb1.mono B0.size)
  clear B0 hb1 HS
  go_wp2
  go_ret
  exact ⟨rfl, B1⟩

set_option maxRecDepth 100000 in
set_option maxHeartbeats 1600000 in
theorem szTicket_is (c s k a b e : Int) (pa : Option Addr) (P : List Int) (pc : Nat) (va : Option Addr) (V : List Int) (vc : Nat) (w : World) (hpl : P.length ≤ maxLen) (hvl : V.length ≤ maxLen) :
    Calls Try.prog 9 #[.agg #[.int .i64 c, .int .i64 s, .int .i64 k, .int .i64 a, .int .i64 b, .int .i64 e, .slice pa P.length pc, .slice va V.length vc], .int .i64 1048576] w fun en w' => en = .returned (.int .i64 (if P.length + V.length ≤ 1048576 then ((1048576 - P.length - V.length : Nat) : Int) else -1)) ∧ Below w.heap.size w w' := by
  obtain ⟨W1, hW1⟩ : ∃ W1, w.alloc (.cells #[.int .i64 c, .int .i64 s, .int .i64 k, .int .i64 a, .int .i64 b, .int .i64 e, .slice pa P.length pc, .slice va V.length vc] 26) = W1 := ⟨_, rfl⟩
  have B1 : Below w.heap.size w W1 := by rw [← hW1]; exact (Below.refl _ _).alloc (Nat.le_refl _) _
  have T1 : Blk w.heap.size [.int .i64 c, .int .i64 s, .int .i64 k, .int .i64 a, .int .i64 b, .int .i64 e, .slice pa P.length pc, .slice va V.length vc] W1 := by rw [← hW1]; exact Blk.new _ _ _
  have d6 := T1.at 6 rfl
  have d7 := T1.at 7 rfl
  have S1 := fun w => szI_is pa P.length pc 1048576 w (by omega) hpl
  clear T1
  by_cases h1 : P.length ≤ 1048576
  · rw [if_pos h1] at S1
    have S2 := fun w => szI_is va V.length vc (1048576 - P.length) w (by omega) hvl
    have n1 : ¬ (((1048576 - P.length : Nat) : Int) < 0) := by omega
    have e1 : ((1048576 - P.length : Nat) : Int) = 1048576 - (P.length : Int) := by omega
    generalize hq : 1048576 - P.length = q at S1 S2 n1
    go_enter Try.func9, Try.ntmps9
    go_wp2_with fail
    try rw [hW1]
    refine (S1 _).mono ?_
    rintro en wx ⟨rfl, rfl⟩
    go_wp2_with fail
    refine (S2 _).mono ?_
    rintro en wx ⟨rfl, rfl⟩
    clear S1 S2 d6 d7 hW1
    by_cases h2 : V.length ≤ q
    · rw [if_pos h2]
      have n2 : ¬ (((q - V.length : Nat) : Int) < 0) := by omega
      have e2 : (if P.length + V.length ≤ 1048576 then ((1048576 - P.length - V.length : Nat) : Int) else -1) = ((q - V.length : Nat) : Int) := by rw [if_pos (by omega), hq]
      generalize hr : q - V.length = r at n2 e2
      go_wp2
      go_ret
      exact ⟨by first | rfl | (rw [e2]; rfl), B1⟩
    · rw [if_neg h2]
      have e2 : (if P.length + V.length ≤ 1048576 then ((1048576 - P.length - V.length : Nat) : Int) else -1) = -1 := if_neg (by omega)
      go_wp2
      go_ret
      exact ⟨by first | rfl | (rw [e2]; rfl), B1⟩
  · rw [if_neg h1] at S1
    have e2 : (if P.length + V.length ≤ 1048576 then ((1048576 - P.length - V.length : Nat) : Int) else -1) = -1 := if_neg (by omega)
    go_enter Try.func9, Try.ntmps9
    go_wp2_with fail
    try rw [hW1]
    refine (S1 _).mono ?_
    rintro en wx ⟨rfl, rfl⟩
    clear S1 d6 d7 hW1
    go_wp2
    go_ret
    exact ⟨by first | rfl | (rw [e2]; rfl), B1⟩

set_option maxRecDepth 100000 in
set_option maxHeartbeats 3200000 in
theorem eqTicket_is (c s k a b e : Int) (P V : List Int) (pa pb va vb : Option Addr) (pc pd vc vd : Nat) (w : World) (hp : RowAt (Value.int .i64) w pa P) (hq : RowAt (Value.int .i64) w pb P) (hv : RowAt (Value.int .i64) w va V) (hu : RowAt (Value.int .i64) w vb V) (hpl : P.length ≤ 1048576) (hvl : V.length ≤ 1048576) :
    Calls Try.prog 13 #[.agg #[.int .i64 c, .int .i64 s, .int .i64 k, .int .i64 a, .int .i64 b, .int .i64 e, .slice pa P.length pc, .slice va V.length vc], .agg #[.int .i64 c, .int .i64 s, .int .i64 k, .int .i64 a, .int .i64 b, .int .i64 e, .slice pb P.length pd, .slice vb V.length vd]] w fun en w' => en = .returned (.bool true) ∧ Below w.heap.size w w' := by
  obtain ⟨W2, hW2⟩ : ∃ W2, (w.alloc (.cells #[.int .i64 c, .int .i64 s, .int .i64 k, .int .i64 a, .int .i64 b, .int .i64 e, .slice pa P.length pc, .slice va V.length vc] 31)).alloc (.cells #[.int .i64 c, .int .i64 s, .int .i64 k, .int .i64 a, .int .i64 b, .int .i64 e, .slice pb P.length pd, .slice vb V.length vd] 31) = W2 := ⟨_, rfl⟩
  have B2 : Below w.heap.size w W2 := by rw [← hW2]; exact ((Below.refl _ _).alloc (Nat.le_refl _) _).alloc (by simp) _
  have T2 : Blk w.heap.size [.int .i64 c, .int .i64 s, .int .i64 k, .int .i64 a, .int .i64 b, .int .i64 e, .slice pa P.length pc, .slice va V.length vc] W2 := by rw [← hW2]; exact (Blk.new w #[.int .i64 c, .int .i64 s, .int .i64 k, .int .i64 a, .int .i64 b, .int .i64 e, .slice pa P.length pc, .slice va V.length vc] _).alloc (by simp) _
  have U2 : Blk (w.heap.size + 1) [.int .i64 c, .int .i64 s, .int .i64 k, .int .i64 a, .int .i64 b, .int .i64 e, .slice pb P.length pd, .slice vb V.length vd] W2 := by rw [← hW2]; have := Blk.new (w.alloc (.cells #[.int .i64 c, .int .i64 s, .int .i64 k, .int .i64 a, .int .i64 b, .int .i64 e, .slice pa P.length pc, .slice va V.length vc] 31)) #[.int .i64 c, .int .i64 s, .int .i64 k, .int .i64 a, .int .i64 b, .int .i64 e, .slice pb P.length pd, .slice vb V.length vd] 31; simpa using this
  have Z2 : Hid (w.heap.size + 2 ≤ W2.heap.size) := by show _ ≤ _; rw [← hW2]; simp
  have d0 := T2.at 0 rfl
  have d1 := T2.at 1 rfl
  have d2 := T2.at 2 rfl
  have d3 := T2.at 3 rfl
  have d4 := T2.at 4 rfl
  have d5 := T2.at 5 rfl
  have e0 := U2.at 0 rfl
  have e1 := U2.at 1 rfl
  have e2 := U2.at 2 rfl
  have e3 := U2.at 3 rfl
  have e4 := U2.at 4 rfl
  have e5 := U2.at 5 rfl
  go_enter Try.func13, Try.ntmps13
  go_wp2_with fail
  try rw [hW2]
  refine (eqRest_is a b e _).mono ?_
  clear hW2
  rintro en w3 ⟨rfl, hb3⟩
  have T3 := T2.later hb3 (by have := Z2.out; omega)
  have U3 := U2.later hb3 (by have := Z2.out; omega)
  have Z3 : Hid (w.heap.size + 2 ≤ w3.heap.size) := Nat.le_trans Z2.out hb3.size
  have B3 := B2.trans (hb3.mono B2.size)
  clear d0 e0 d1 e1 d2 e2 d3 e3 d4 e4 d5 e5 T2 U2 B2 hb3 Z2
  have d6 := T3.at 6 rfl
  have e6 := U3.at 6 rfl
  have HE := eqI_is pa pb pc pd P w3 (hp.later B3) (hq.later B3) hpl
  go_wp2_with fail
  refine HE.mono ?_
  rintro en w4 ⟨rfl, hb4⟩
  have T4 := T3.later hb4 (by have := Z3.out; omega)
  have U4 := U3.later hb4 (by have := Z3.out; omega)
  have B4 := B3.trans (hb4.mono B3.size)
  clear d6 e6 T3 U3 B3 hb4 Z3 HE
  have d7 := T4.at 7 rfl
  have e7 := U4.at 7 rfl
  have HE := eqI_is va vb vc vd V w4 (hv.later B4) (hu.later B4) hvl
  go_wp2_with fail
  refine HE.mono ?_
  rintro en w5 ⟨rfl, hb5⟩
  have B5 := B4.trans (hb5.mono B4.size)
  clear d7 e7 T4 U4 B4 hb5 HE
  go_wp2
  go_ret
  exact ⟨rfl, B5⟩

end Go.Proofs.Ytbkemhclncmicaa
