/- Tickets: rows of numbers that are all in bounds. -/
import Derived.Test.YtbkemhclncmicaaGreatTick1
import Derived.Test.YtbkemhclncmicaaGreatRows1
set_option linter.unusedVariables false
namespace Go.Proofs.YtbkemhclncmicaaGreat
open Go Go.RowKit

theorem all_yes {xs : List Int} (h : ∀ j (hj : j < xs.length), btw xs[j] 0 2 = true) : (xs.all fun n => btw n 0 2) = true := by
  rw [List.all_eq_true]
  intro x hx
  obtain ⟨j, hj, rfl⟩ := List.mem_iff_getElem.1 hx
  exact h j hj
theorem all_no {xs : List Int} {j : Nat} (hj : j < xs.length) (h : btw xs[j] 0 2 = false) : (xs.all fun n => btw n 0 2) = false := by
  cases hh : xs.all fun n => btw n 0 2 with
  | false => rfl
  | true => rw [List.all_eq_true] at hh; rw [hh _ (List.getElem_mem hj)] at h; cases h

set_option maxRecDepth 100000 in
set_option maxHeartbeats 800000 in
theorem spec_all (a : Option Addr) (cap : Nat) (xs : List Int) (m : Nat) (w : World) (hr : RowAt (Value.int .i64) w a xs) (hl : xs.length ≤ 1048576) (hm : m ≤ 1048576) :
    Calls Tryz.prog 63 #[.slice a xs.length cap, .int .i64 m, .int .i64 3] w fun e w' => e = .returned (.bool (allB xs m)) ∧ Below w.heap.size w w' := by
  by_cases h : xs.length ≤ m
  · have hd : decide ((m : Int) < (xs.length : Int)) = false := by simp; omega
    have hA : allB xs m = xs.all fun n => btw n 0 2 := by unfold allB; simp [h]
    rw [hA]
    go_enter Tryz.func63, Tryz.ntmps63
    go_wp2
    go_loopw [7] (fun i wr => ∃ k : Nat, k ≤ xs.length ∧ i = .int .i64 k ∧ (∀ j (hj : j < xs.length), j < k → btw xs[j] 0 2 = true) ∧ Below w.heap.size w wr) (fun i _ => xs.length - (intOf i).toNat)
    case atStart => exact ⟨0, by omega, rfl, fun j hj h => absurd h (by omega), Below.refl _ _⟩
    case round =>
      obtain ⟨k, hk, rfl, hall, hbel⟩ := hrel
      by_cases hlt : k < xs.length
      · obtain ⟨b1, o1, rfl, l1, hc1⟩ := hr k hlt
        rw [← hbel.cell (p := ⟨b1, o1 + k, none⟩) l1] at hc1
        have H := fun (h : btw xs[k] 0 2 = true) => fun j (hj : j < xs.length) (hjk : j < k + 1) => (if e : j = k then by subst e; exact h else hall j hj (by omega) : btw xs[j] 0 2 = true)
        have HN := all_no (xs := xs) hlt
        generalize hx : xs[k] = x at hc1 H HN
        by_cases h0 : x < 0
        · go_wp2
          go_ret
          exact ⟨by rw [HN (by unfold btw; simp; omega)]; rfl, hbel⟩
        · by_cases h3 : 3 ≤ x
          · go_wp2
            go_ret
            exact ⟨by rw [HN (by unfold btw; simp; omega)]; rfl, hbel⟩
          · go_wp2
            go_roundw
            case rel => exact ⟨k + 1, by omega, by go_num, H (by unfold btw; simp; omega), hbel⟩
            case measure => simp [intOf]; omega
      · go_wp2
        go_ret
        exact ⟨by rw [all_yes (fun j hj => hall j hj (by omega))]; rfl, hbel⟩
  · have hd : decide ((m : Int) < (xs.length : Int)) = true := by simp; omega
    have hA : allB xs m = false := by unfold allB; simp [h]
    rw [hA]
    go_enter Tryz.func63, Tryz.ntmps63
    go_wp2
    go_ret
    exact ⟨rfl, Below.refl _ _⟩
end Go.Proofs.YtbkemhclncmicaaGreat

set_option linter.unusedVariables false
namespace Go.Proofs.YtbkemhclncmicaaGreat
open Go Go.RowKit

theorem enters95 (args : Array Value) (w : World) : (callFunc 83 args).run Tryz.prog w = .ok (.enter 83 args) w := by
  simp [callFunc, Tryz.func83, mark, Tryz.f83]
theorem enters96 (args : Array Value) (w : World) : (callFunc 84 args).run Tryz.prog w = .ok (.enter 84 args) w := by
  simp [callFunc, Tryz.func84, mark, Tryz.f84]

set_option maxRecDepth 100000 in
set_option maxHeartbeats 800000 in
theorem listOk_is (f : Nat) (hen : ∀ (args : Array Value) (w : World), (callFunc f args).run Tryz.prog w = .ok (.enter f args) w)
    (hf : ∀ (n : Int) (w : World), Calls Tryz.prog f #[.int .i64 n] w fun e w' => e = .returned (.bool (btw n 0 2)) ∧ w = w')
    (a : Option Addr) (cap : Nat) (xs : List Int) (m : Nat) (w : World) (hr : RowAt (Value.int .i64) w a xs) (hl : xs.length ≤ 1048576) (hm : m ≤ 1048576) :
    Calls Tryz.prog 82 #[.slice a xs.length cap, .int .i64 m, .func (.func f) #[] #[]] w fun e w' => e = .returned (.bool (allB xs m)) ∧ Below w.heap.size w w' := by
  by_cases h : xs.length ≤ m
  · have hd : decide ((m : Int) < (xs.length : Int)) = false := by simp; omega
    have hd2 : decide (m < xs.length) = false := by simp; omega
    have hA : allB xs m = xs.all fun n => btw n 0 2 := by unfold allB; simp [h]
    rw [hA]
    go_enter Tryz.func82, Tryz.ntmps82
    go_wp2
    go_loopw [15] (fun i wr => ∃ k : Nat, k ≤ xs.length ∧ i = .int .i64 k ∧ (∀ j (hj : j < xs.length), j < k → btw xs[j] 0 2 = true) ∧ Below w.heap.size w wr) (fun i _ => xs.length - (intOf i).toNat)
    case atStart => exact ⟨0, by omega, rfl, fun j hj h => absurd h (by omega), Below.refl _ _⟩
    case round =>
      obtain ⟨k, hk, rfl, hall, hbel⟩ := hrel
      by_cases hlt : k < xs.length
      · obtain ⟨b1, o1, rfl, l1, hc1⟩ := hr k hlt
        rw [← hbel.cell (p := ⟨b1, o1 + k, none⟩) l1] at hc1
        have H := fun (h : btw xs[k] 0 2 = true) => fun j (hj : j < xs.length) (hjk : j < k + 1) => (if e : j = k then by subst e; exact h else hall j hj (by omega) : btw xs[j] 0 2 = true)
        have HN := all_no (xs := xs) hlt
        generalize hx : xs[k] = x at hc1 H HN
        have HC := hf x wr
        go_wp2_with fail
        refine HC.mono ?_
        rintro e wx ⟨rfl, rfl⟩
        clear HC
        by_cases h1 : btw x 0 2 = true
        · rw [h1]
          have H1 := H h1
          clear H HN
          go_wp2
          go_roundw
          case rel => exact ⟨k + 1, by omega, by go_num, H1, hbel⟩
          case measure => simp [intOf]; omega
        · rw [Bool.not_eq_true] at h1
          rw [h1]
          have H1 := HN h1
          clear H HN
          go_wp2
          go_ret
          exact ⟨by rw [H1]; rfl, hbel⟩
      · go_wp2
        go_ret
        exact ⟨by rw [all_yes (fun j hj => hall j hj (by omega))]; rfl, hbel⟩
  · have hd : decide ((m : Int) < (xs.length : Int)) = true := by simp; omega
    have hA : allB xs m = false := by unfold allB; simp [h]
    rw [hA]
    go_enter Tryz.func82, Tryz.ntmps82
    go_wp2
    go_ret
    exact ⟨rfl, Below.refl _ _⟩
end Go.Proofs.YtbkemhclncmicaaGreat

set_option linter.unusedVariables false
namespace Go.Proofs.YtbkemhclncmicaaGreat
open Go Go.RowKit Own Var Term

set_option maxRecDepth 100000 in
set_option maxHeartbeats 1600000 in
theorem ticketOk_is (c s k a b e : Int) (pa : Option Addr) (P : List Int) (pc : Nat) (va : Option Addr) (V : List Int) (vc : Nat) (w : World) (hs : i64 s) (hp : RowAt (Value.int .i64) w pa P) (hv : RowAt (Value.int .i64) w va V) (hpl : P.length ≤ 1048576) (hvl : V.length ≤ 1048576) : Calls Tryz.prog 53 #[.agg #[.int .i64 c, .int .i64 s, .int .i64 k, .int .i64 a, .int .i64 b, .int .i64 e, .slice pa P.length pc, .slice va V.length vc]] w fun en w' => en = .returned (.bool (tOk c s k a b e P V)) ∧ Below w.heap.size w w' := by
  obtain ⟨W1, hW1⟩ : ∃ W1, w.alloc (.cells #[.int .i64 c, .int .i64 s, .int .i64 k, .int .i64 a, .int .i64 b, .int .i64 e, .slice pa P.length pc, .slice va V.length vc] 28) = W1 := ⟨_, rfl⟩
  have B0 : Below w.heap.size w W1 := by rw [← hW1]; exact (Below.refl _ _).alloc (Nat.le_refl _) _
  have T0 : Blk w.heap.size [.int .i64 c, .int .i64 s, .int .i64 k, .int .i64 a, .int .i64 b, .int .i64 e, .slice pa P.length pc, .slice va V.length vc] W1 := by rw [← hW1]; exact Blk.new _ _ _
  have Z0 : Hid (w.heap.size < W1.heap.size) := by show _ < _; rw [← hW1]; simp
  have d0 := T0.at 0 rfl
  have d1 := T0.at 1 rfl
  have d2 := T0.at 2 rfl
  have d3 := T0.at 3 rfl
  have d4 := T0.at 4 rfl
  have d5 := T0.at 5 rfl
  have d6 := T0.at 6 rfl
  have d7 := T0.at 7 rfl
  go_enter Tryz.func53, Tryz.ntmps53
  go_wp2_with fail
  try rw [hW1]
  refine (prin_is c _).mono ?_
  clear hW1
  rintro e wx ⟨rfl, rfl⟩
  by_cases h0 : btw c 0 5 = true
  · rw [h0]
    go_wp2_with fail
    refine (recv_is s _ hs).mono ?_
    rintro e wx ⟨rfl, rfl⟩
    by_cases h1 : svOk s = true
    · rw [h1]
      go_wp2_with fail
      refine (keyOk_is k _).mono ?_
      rintro e wx ⟨rfl, rfl⟩
      rw [show (decide (1 ≤ k) && decide (k ≤ 1000000)) = btw k 1 1000000 from rfl]
      by_cases h2 : btw k 1 1000000 = true
      · rw [h2]
        go_wp2_with fail
        refine (right_is a b e _).mono ?_
        rintro e w5 ⟨rfl, hb5⟩
        have B5 := B0.trans (hb5.mono B0.size)
        clear d0 d1 d2 d3 d4 d5 d6 d7
        have T5 := T0.later hb5 Z0.out
        have Z5 : Hid (w.heap.size < w5.heap.size) := Nat.lt_of_lt_of_le Z0.out hb5.size
        clear T0 Z0 hb5
        have d0 := T5.at 0 rfl
        have d1 := T5.at 1 rfl
        have d2 := T5.at 2 rfl
        have d3 := T5.at 3 rfl
        have d4 := T5.at 4 rfl
        have d5 := T5.at 5 rfl
        have d6 := T5.at 6 rfl
        have d7 := T5.at 7 rfl
        by_cases h3 : rOk a b e = true
        · rw [h3]
          go_wp2_with fail
          refine (listOk_is 83 enters95 realm_is pa pc P 6 _ (hp.later B5) hpl (by omega)).mono ?_
          rintro e w6 ⟨rfl, hb6⟩
          have B6 := B5.trans (hb6.mono B5.size)
          clear d0 d1 d2 d3 d4 d5 d6 d7
          have T6 := T5.later hb6 Z5.out
          have Z6 : Hid (w.heap.size < w6.heap.size) := Nat.lt_of_lt_of_le Z5.out hb6.size
          clear T5 Z5 hb6
          have d0 := T6.at 0 rfl
          have d1 := T6.at 1 rfl
          have d2 := T6.at 2 rfl
          have d3 := T6.at 3 rfl
          have d4 := T6.at 4 rfl
          have d5 := T6.at 5 rfl
          have d6 := T6.at 6 rfl
          have d7 := T6.at 7 rfl
          by_cases h4 : allB P 6 = true
          · rw [h4]
            go_wp2_with fail
            refine (listOk_is 84 enters96 serv_is va vc V 4 _ (hv.later B6) hvl (by omega)).mono ?_
            rintro e w7 ⟨rfl, hb7⟩
            have B7 := B6.trans (hb7.mono B6.size)
            clear d0 d1 d2 d3 d4 d5 d6 d7
            have T7 := T6.later hb7 Z6.out
            have Z7 : Hid (w.heap.size < w7.heap.size) := Nat.lt_of_lt_of_le Z6.out hb7.size
            clear T6 Z6 hb7
            have d0 := T7.at 0 rfl
            have d1 := T7.at 1 rfl
            have d2 := T7.at 2 rfl
            have d3 := T7.at 3 rfl
            have d4 := T7.at 4 rfl
            have d5 := T7.at 5 rfl
            have d6 := T7.at 6 rfl
            have d7 := T7.at 7 rfl
            clear d0 d1 d2 d3 d4 d5 d6 d7
            generalize hval : allB V 4 = bb
            go_wp2
            go_ret
            exact ⟨by unfold tOk; rw [h0, h1, h2, h3, h4, hval]; rfl, B7⟩
          · rw [Bool.not_eq_true] at h4
            rw [h4]
            clear d0 d1 d2 d3 d4 d5 d6 d7
            go_wp2
            go_ret
            exact ⟨by unfold tOk; rw [h0, h1, h2, h3, h4]; rfl, B6⟩
        · rw [Bool.not_eq_true] at h3
          rw [h3]
          clear d0 d1 d2 d3 d4 d5 d6 d7
          go_wp2
          go_ret
          exact ⟨by unfold tOk; rw [h0, h1, h2, h3]; rfl, B5⟩
      · rw [Bool.not_eq_true] at h2
        rw [h2]
        clear d0 d1 d2 d3 d4 d5 d6 d7
        go_wp2
        go_ret
        exact ⟨by unfold tOk; rw [h0, h1, h2]; rfl, B0⟩
    · rw [Bool.not_eq_true] at h1
      rw [h1]
      clear d0 d1 d2 d3 d4 d5 d6 d7
      go_wp2
      go_ret
      exact ⟨by unfold tOk; rw [h0, h1]; rfl, B0⟩
  · rw [Bool.not_eq_true] at h0
    rw [h0]
    clear d0 d1 d2 d3 d4 d5 d6 d7
    go_wp2
    go_ret
    exact ⟨by unfold tOk; rw [h0]; rfl, B0⟩

set_option maxRecDepth 100000 in
set_option maxHeartbeats 1600000 in
theorem spec_ticketOk (c s k a b e : Int) (pa : Option Addr) (P : List Int) (pc : Nat) (va : Option Addr) (V : List Int) (vc : Nat) (w : World) (hp : RowAt (Value.int .i64) w pa P) (hv : RowAt (Value.int .i64) w va V) (hpl : P.length ≤ 1048576) (hvl : V.length ≤ 1048576) : Calls Tryz.prog 28 #[.agg #[.int .i64 c, .int .i64 s, .int .i64 k, .int .i64 a, .int .i64 b, .int .i64 e, .slice pa P.length pc, .slice va V.length vc]] w fun en w' => en = .returned (.bool (tOk c s k a b e P V)) ∧ Below w.heap.size w w' := by
  obtain ⟨W1, hW1⟩ : ∃ W1, w.alloc (.cells #[.int .i64 c, .int .i64 s, .int .i64 k, .int .i64 a, .int .i64 b, .int .i64 e, .slice pa P.length pc, .slice va V.length vc] 28) = W1 := ⟨_, rfl⟩
  have B0 : Below w.heap.size w W1 := by rw [← hW1]; exact (Below.refl _ _).alloc (Nat.le_refl _) _
  have T0 : Blk w.heap.size [.int .i64 c, .int .i64 s, .int .i64 k, .int .i64 a, .int .i64 b, .int .i64 e, .slice pa P.length pc, .slice va V.length vc] W1 := by rw [← hW1]; exact Blk.new _ _ _
  have Z0 : Hid (w.heap.size < W1.heap.size) := by show _ < _; rw [← hW1]; simp
  have d0 := T0.at 0 rfl
  have d1 := T0.at 1 rfl
  have d2 := T0.at 2 rfl
  have d3 := T0.at 3 rfl
  have d4 := T0.at 4 rfl
  have d5 := T0.at 5 rfl
  have d6 := T0.at 6 rfl
  have d7 := T0.at 7 rfl
  go_enter Tryz.func28, Tryz.ntmps28
  go_wp2_with fail
  try rw [hW1]
  refine (spec_prin c _).mono ?_
  clear hW1
  rintro e wx ⟨rfl, rfl⟩
  by_cases h0 : btw c 0 5 = true
  · rw [h0]
    go_wp2_with fail
    refine (spec_serv s _).mono ?_
    rintro e wx ⟨rfl, rfl⟩
    by_cases h1 : svOk s = true
    · rw [h1]
      go_wp2_with fail
      refine (in_is k 1 1000000 _).mono ?_
      rintro e wx ⟨rfl, rfl⟩
      rw [show (decide (1 ≤ k) && decide (k ≤ 1000000)) = btw k 1 1000000 from rfl]
      by_cases h2 : btw k 1 1000000 = true
      · rw [h2]
        go_wp2_with fail
        refine (specOk_is a b e _).mono ?_
        rintro e w5 ⟨rfl, hb5⟩
        have B5 := B0.trans (hb5.mono B0.size)
        clear d0 d1 d2 d3 d4 d5 d6 d7
        have T5 := T0.later hb5 Z0.out
        have Z5 : Hid (w.heap.size < w5.heap.size) := Nat.lt_of_lt_of_le Z0.out hb5.size
        clear T0 Z0 hb5
        have d0 := T5.at 0 rfl
        have d1 := T5.at 1 rfl
        have d2 := T5.at 2 rfl
        have d3 := T5.at 3 rfl
        have d4 := T5.at 4 rfl
        have d5 := T5.at 5 rfl
        have d6 := T5.at 6 rfl
        have d7 := T5.at 7 rfl
        by_cases h3 : rOk a b e = true
        · rw [h3]
          go_wp2_with fail
          refine (spec_all pa pc P 6 _ (hp.later B5) hpl (by omega)).mono ?_
          rintro e w6 ⟨rfl, hb6⟩
          have B6 := B5.trans (hb6.mono B5.size)
          clear d0 d1 d2 d3 d4 d5 d6 d7
          have T6 := T5.later hb6 Z5.out
          have Z6 : Hid (w.heap.size < w6.heap.size) := Nat.lt_of_lt_of_le Z5.out hb6.size
          clear T5 Z5 hb6
          have d0 := T6.at 0 rfl
          have d1 := T6.at 1 rfl
          have d2 := T6.at 2 rfl
          have d3 := T6.at 3 rfl
          have d4 := T6.at 4 rfl
          have d5 := T6.at 5 rfl
          have d6 := T6.at 6 rfl
          have d7 := T6.at 7 rfl
          by_cases h4 : allB P 6 = true
          · rw [h4]
            go_wp2_with fail
            refine (spec_all va vc V 4 _ (hv.later B6) hvl (by omega)).mono ?_
            rintro e w7 ⟨rfl, hb7⟩
            have B7 := B6.trans (hb7.mono B6.size)
            clear d0 d1 d2 d3 d4 d5 d6 d7
            have T7 := T6.later hb7 Z6.out
            have Z7 : Hid (w.heap.size < w7.heap.size) := Nat.lt_of_lt_of_le Z6.out hb7.size
            clear T6 Z6 hb7
            have d0 := T7.at 0 rfl
            have d1 := T7.at 1 rfl
            have d2 := T7.at 2 rfl
            have d3 := T7.at 3 rfl
            have d4 := T7.at 4 rfl
            have d5 := T7.at 5 rfl
            have d6 := T7.at 6 rfl
            have d7 := T7.at 7 rfl
            clear d0 d1 d2 d3 d4 d5 d6 d7
            generalize hval : allB V 4 = bb
            go_wp2
            go_ret
            exact ⟨by unfold tOk; rw [h0, h1, h2, h3, h4, hval]; rfl, B7⟩
          · rw [Bool.not_eq_true] at h4
            rw [h4]
            clear d0 d1 d2 d3 d4 d5 d6 d7
            go_wp2
            go_ret
            exact ⟨by unfold tOk; rw [h0, h1, h2, h3, h4]; rfl, B6⟩
        · rw [Bool.not_eq_true] at h3
          rw [h3]
          clear d0 d1 d2 d3 d4 d5 d6 d7
          go_wp2
          go_ret
          exact ⟨by unfold tOk; rw [h0, h1, h2, h3]; rfl, B5⟩
      · rw [Bool.not_eq_true] at h2
        rw [h2]
        clear d0 d1 d2 d3 d4 d5 d6 d7
        go_wp2
        go_ret
        exact ⟨by unfold tOk; rw [h0, h1, h2]; rfl, B0⟩
    · rw [Bool.not_eq_true] at h1
      rw [h1]
      clear d0 d1 d2 d3 d4 d5 d6 d7
      go_wp2
      go_ret
      exact ⟨by unfold tOk; rw [h0, h1]; rfl, B0⟩
  · rw [Bool.not_eq_true] at h0
    rw [h0]
    clear d0 d1 d2 d3 d4 d5 d6 d7
    go_wp2
    go_ret
    exact ⟨by unfold tOk; rw [h0]; rfl, B0⟩
end Go.Proofs.YtbkemhclncmicaaGreat
