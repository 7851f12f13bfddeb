/- Keys that stand from the beginning: the program and the model. -/
import Derived.Test.YthmompnlkclfaaaBase
set_option linter.unusedVariables false
namespace Go.Proofs.Ythmompnlkclfaaa
open Go Go.RowKit

def pkV (p : Int) : Int := if btw p 0 2 then 1 + p else if btw p 0 5 then 8 + p else 0
def ckV (r : Int) : Int := if btw r 0 2 then 21 + r else 0
def lkV (a b : Int) : Int := if btw a 0 2 && btw b 0 2 then 31 + 3 * a + b else 0

set_option maxRecDepth 100000 in
theorem user_is (n : Int) (w : World) : Calls Try.prog 80 #[.int .i64 n] w fun e w' => e = .returned (.bool (btw n 0 2)) ∧ w = w' := by
  go_enter Try.func80, Try.ntmps80
  go_wp2_with fail
  refine (within_is n 2 _).mono ?_
  rintro e w1 ⟨rfl, rfl⟩
  go_wp2
  go_ret
  exact ⟨rfl, rfl⟩
set_option maxRecDepth 100000 in
theorem implPK_is (p : Int) (w : World) : Calls Try.prog 65 #[.int .i64 p] w fun e w' => e = .returned (.int .i64 (pkV p)) ∧ w = w' := by
  go_enter Try.func65, Try.ntmps65
  go_wp2_with fail
  refine (user_is p _).mono ?_
  rintro e w1 ⟨rfl, rfl⟩
  by_cases h : btw p 0 2 = true
  · have h' := (btw_iff _ _ _).1 h
    rw [h]
    go_wp2
    go_ret
    exact ⟨congrArg (fun z => Ending.returned (Value.int .i64 z)) (show 1 + p = pkV p from Eq.symm (by unfold pkV; rw [if_pos h])), rfl⟩
  · rw [Bool.not_eq_true] at h
    rw [h]
    go_wp2_with fail
    refine (prin_is p _).mono ?_
    rintro e w1 ⟨rfl, rfl⟩
    by_cases g : btw p 0 5 = true
    · have g' := (btw_iff _ _ _).1 g
      rw [g]
      go_wp2
      go_ret
      exact ⟨congrArg (fun z => Ending.returned (Value.int .i64 z)) (show 11 + p - 3 = pkV p from Eq.symm (by unfold pkV; rw [h, if_neg (by simp), if_pos g]; omega)), rfl⟩
    · rw [Bool.not_eq_true] at g
      rw [g]
      go_wp2
      go_ret
      exact ⟨congrArg (fun z => Ending.returned (Value.int .i64 z)) (show 0 = pkV p from Eq.symm (by unfold pkV; rw [h, if_neg (by simp), g, if_neg (by simp)])), rfl⟩
set_option maxRecDepth 100000 in
theorem specPK_is (p : Int) (w : World) : Calls Try.prog 33 #[.int .i64 p] w fun e w' => e = .returned (.int .i64 (pkV p)) ∧ w = w' := by
  go_enter Try.func33, Try.ntmps33
  go_wp2_with fail
  refine (spec_prin p _).mono ?_
  rintro e w1 ⟨rfl, rfl⟩
  by_cases g : btw p 0 5 = true
  · have g' := (btw_iff _ _ _).1 g
    rw [g]
    by_cases h : p < 3
    · skip
      go_wp2
      go_ret
      exact ⟨congrArg (fun z => Ending.returned (Value.int .i64 z)) (show 1 + p = pkV p from Eq.symm (by unfold pkV; rw [if_pos ((btw_iff _ _ _).2 (by omega))])), rfl⟩
    · skip
      go_wp2
      go_ret
      exact ⟨congrArg (fun z => Ending.returned (Value.int .i64 z)) (show 11 + p - 3 = pkV p from Eq.symm (by unfold pkV; rw [if_neg (fun x => by have := (btw_iff _ _ _).1 x; omega), if_pos g]; omega)), rfl⟩
  · skip
    rw [Bool.not_eq_true] at g
    rw [g]
    go_wp2
    go_ret
    exact ⟨congrArg (fun z => Ending.returned (Value.int .i64 z)) (show 0 = pkV p from Eq.symm (by unfold pkV; rw [if_neg (fun x => by rw [(btw_iff _ _ _).2 (by have := (btw_iff _ _ _).1 x; omega)] at g; cases g), g, if_neg (by simp)])), rfl⟩
set_option maxRecDepth 100000 in
theorem specRealm_is (n : Int) (w : World) : Calls Try.prog 57 #[.int .i64 n] w fun e w' => e = .returned (.bool (btw n 0 2)) ∧ w = w' := by
  have h : btw n 0 2 = (decide (0 ≤ n) && decide (n < 3)) := by unfold btw; congr 1; apply decide_eq_decide.2; omega
  rw [h]
  by_cases h0 : 0 ≤ n
  · go_enter Try.func57, Try.ntmps57
    go_wp2
    go_ret
    exact ⟨by simp [h0], rfl⟩
  · go_enter Try.func57, Try.ntmps57
    go_wp2
    go_ret
    exact ⟨by simp; omega, rfl⟩
set_option maxRecDepth 100000 in
theorem implCK_is (r : Int) (w : World) : Calls Try.prog 66 #[.int .i64 r] w fun e w' => e = .returned (.int .i64 (ckV r)) ∧ w = w' := by
  go_enter Try.func66, Try.ntmps66
  go_wp2_with fail
  refine (realm_is r _).mono ?_
  rintro e w1 ⟨rfl, rfl⟩
  by_cases h : btw r 0 2 = true
  · have h' := (btw_iff _ _ _).1 h
    rw [h]
    go_wp2
    go_ret
    exact ⟨congrArg (fun z => Ending.returned (Value.int .i64 z)) (show 21 + r = ckV r from Eq.symm (by unfold ckV; rw [if_pos h])), rfl⟩
  · skip
    rw [Bool.not_eq_true] at h
    rw [h]
    go_wp2
    go_ret
    exact ⟨congrArg (fun z => Ending.returned (Value.int .i64 z)) (show 0 = ckV r from Eq.symm (by unfold ckV; rw [h, if_neg (by simp)])), rfl⟩
set_option maxRecDepth 100000 in
theorem specCK_is (r : Int) (w : World) : Calls Try.prog 34 #[.int .i64 r] w fun e w' => e = .returned (.int .i64 (ckV r)) ∧ w = w' := by
  go_enter Try.func34, Try.ntmps34
  go_wp2_with fail
  refine (specRealm_is r _).mono ?_
  rintro e w1 ⟨rfl, rfl⟩
  by_cases h : btw r 0 2 = true
  · have h' := (btw_iff _ _ _).1 h
    rw [h]
    go_wp2
    go_ret
    exact ⟨congrArg (fun z => Ending.returned (Value.int .i64 z)) (show 21 + r = ckV r from Eq.symm (by unfold ckV; rw [if_pos h])), rfl⟩
  · skip
    rw [Bool.not_eq_true] at h
    rw [h]
    go_wp2
    go_ret
    exact ⟨congrArg (fun z => Ending.returned (Value.int .i64 z)) (show 0 = ckV r from Eq.symm (by unfold ckV; rw [h, if_neg (by simp)])), rfl⟩
set_option maxRecDepth 100000 in
theorem implLK_is (a b : Int) (w : World) : Calls Try.prog 67 #[.int .i64 a, .int .i64 b] w fun e w' => e = .returned (.int .i64 (lkV a b)) ∧ w = w' := by
  go_enter Try.func67, Try.ntmps67
  go_wp2_with fail
  refine (realm_is a _).mono ?_
  rintro e w1 ⟨rfl, rfl⟩
  by_cases h : btw a 0 2 = true
  · have h' := (btw_iff _ _ _).1 h
    rw [h]
    go_wp2_with fail
    refine (realm_is b _).mono ?_
    rintro e w1 ⟨rfl, rfl⟩
    by_cases g : btw b 0 2 = true
    · have g' := (btw_iff _ _ _).1 g
      rw [g]
      go_wp2
      go_ret
      exact ⟨congrArg (fun z => Ending.returned (Value.int .i64 z)) (show 31 + 3 * a + b = lkV a b from Eq.symm (by unfold lkV; rw [h, g]; rfl)), rfl⟩
    · rw [Bool.not_eq_true] at g
      rw [g]
      go_wp2
      go_ret
      exact ⟨congrArg (fun z => Ending.returned (Value.int .i64 z)) (show 0 = lkV a b from Eq.symm (by unfold lkV; rw [h, g]; rfl)), rfl⟩
  · rw [Bool.not_eq_true] at h
    rw [h]
    go_wp2
    go_ret
    exact ⟨congrArg (fun z => Ending.returned (Value.int .i64 z)) (show 0 = lkV a b from Eq.symm (by unfold lkV; rw [h]; rfl)), rfl⟩
set_option maxRecDepth 100000 in
theorem specLK_is (a b : Int) (w : World) : Calls Try.prog 37 #[.int .i64 a, .int .i64 b] w fun e w' => e = .returned (.int .i64 (lkV a b)) ∧ w = w' := by
  go_enter Try.func37, Try.ntmps37
  go_wp2_with fail
  refine (specRealm_is a _).mono ?_
  rintro e w1 ⟨rfl, rfl⟩
  by_cases h : btw a 0 2 = true
  · have h' := (btw_iff _ _ _).1 h
    rw [h]
    go_wp2_with fail
    refine (specRealm_is b _).mono ?_
    rintro e w1 ⟨rfl, rfl⟩
    by_cases g : btw b 0 2 = true
    · have g' := (btw_iff _ _ _).1 g
      rw [g]
      go_wp2
      go_ret
      exact ⟨congrArg (fun z => Ending.returned (Value.int .i64 z)) (show 31 + 3 * a + b = lkV a b from Eq.symm (by unfold lkV; rw [h, g]; rfl)), rfl⟩
    · rw [Bool.not_eq_true] at g
      rw [g]
      go_wp2
      go_ret
      exact ⟨congrArg (fun z => Ending.returned (Value.int .i64 z)) (show 0 = lkV a b from Eq.symm (by unfold lkV; rw [h, g]; rfl)), rfl⟩
  · rw [Bool.not_eq_true] at h
    rw [h]
    go_wp2
    go_ret
    exact ⟨congrArg (fun z => Ending.returned (Value.int .i64 z)) (show 0 = lkV a b from Eq.symm (by unfold lkV; rw [h]; rfl)), rfl⟩
end Go.Proofs.Ythmompnlkclfaaa
