/- Keys that stand from the beginning: the program and the model. -/
import Derived.Test.YtcaieniddnhkbaaBase
set_option linter.unusedVariables false
namespace Go.Proofs.Ytcaieniddnhkbaa
open Go Go.RowKit Var Term

def pkV (p : Int) : Int := if btw p 0 2 then 1 + p else if btw p 0 5 then 8 + p else 0
def ckV (r : Int) : Int := if btw r 0 2 then 21 + r else 0
def lkV (a b : Int) : Int := if btw a 0 2 && btw b 0 2 then 31 + 3 * a + b else 0

set_option maxRecDepth 100000 in
theorem user_is (n : Int) (w : World) : Calls Try.prog 39 #[.int .i64 n] w fun e w' => e = .returned (.bool (btw n 0 2)) ∧ w = w' := by
  go_enter Try.func39, Try.ntmps39
  go_wp2_with fail
  refine (within_is n 2 _).mono ?_
  rintro e w1 ⟨rfl, rfl⟩
  go_wp2
  go_ret
  exact ⟨rfl, rfl⟩
set_option maxRecDepth 100000 in
theorem implPK_is (p : Int) (w : World) : Calls Try.prog 21 #[.int .i64 p] w fun e w' => e = .returned (.int .i64 (pkV p)) ∧ w = w' := by
  go_enter Try.func21, Try.ntmps21
  go_wp2_with fail
  refine (user_is p _).mono ?_
  rintro e w1 ⟨rfl, rfl⟩
  by_cases h : btw p 0 2 = true
  · have h' := (btw_iff _ _ _).1 h
    rw [h]
    go_wp2
    go_ret
    exact ⟨congrArg (fun z => Ending.returned (Value.int .i64 z)) (show 1 + p = pkV p from Eq.symm (by unfold pkV; rw [if_pos h])), rfl⟩
  · rw [Bool.not_eq_true] at h
    rw [h]
    go_wp2_with fail
    refine (prin_is p _).mono ?_
    rintro e w1 ⟨rfl, rfl⟩
    by_cases g : btw p 0 5 = true
    · have g' := (btw_iff _ _ _).1 g
      rw [g]
      go_wp2
      go_ret
      exact ⟨congrArg (fun z => Ending.returned (Value.int .i64 z)) (show 11 + p - 3 = pkV p from Eq.symm (by unfold pkV; rw [h, if_neg (by simp), if_pos g]; omega)), rfl⟩
    · rw [Bool.not_eq_true] at g
      rw [g]
      go_wp2
      go_ret
      exact ⟨congrArg (fun z => Ending.returned (Value.int .i64 z)) (show 0 = pkV p from Eq.symm (by unfold pkV; rw [h, if_neg (by simp), g, if_neg (by simp)])), rfl⟩
set_option maxRecDepth 100000 in
theorem specPK_is (p : Int) (w : World) : Calls Try.prog 16 #[.int .i64 p] w fun e w' => e = .returned (.int .i64 (pkV p)) ∧ w = w' := by
  go_enter Try.func16, Try.ntmps16
  go_wp2_with fail
  refine (spec_prin p _).mono ?_
  rintro e w1 ⟨rfl, rfl⟩
  by_cases g : btw p 0 5 = true
  · have g' := (btw_iff _ _ _).1 g
    rw [g]
    by_cases h : p < 3
    · skip
      go_wp2
      go_ret
      exact ⟨congrArg (fun z => Ending.returned (Value.int .i64 z)) (show 1 + p = pkV p from Eq.symm (by unfold pkV; rw [if_pos ((btw_iff _ _ _).2 (by omega))])), rfl⟩
    · skip
      go_wp2
      go_ret
      exact ⟨congrArg (fun z => Ending.returned (Value.int .i64 z)) (show 11 + p - 3 = pkV p from Eq.symm (by unfold pkV; rw [if_neg (fun x => by have := (btw_iff _ _ _).1 x; omega), if_pos g]; omega)), rfl⟩
  · skip
    rw [Bool.not_eq_true] at g
    rw [g]
    go_wp2
    go_ret
    exact ⟨congrArg (fun z => Ending.returned (Value.int .i64 z)) (show 0 = pkV p from Eq.symm (by unfold pkV; rw [if_neg (fun x => by rw [(btw_iff _ _ _).2 (by have := (btw_iff _ _ _).1 x; omega)] at g; cases g), g, if_neg (by simp)])), rfl⟩
end Go.Proofs.Ytcaieniddnhkbaa
