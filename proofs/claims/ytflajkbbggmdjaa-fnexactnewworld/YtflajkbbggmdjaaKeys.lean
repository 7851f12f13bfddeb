/- Keys that stand from the beginning: the program and the model. -/
import Derived.Test.YtflajkbbggmdjaaBase
set_option linter.unusedVariables false
namespace Go.Proofs.Ytflajkbbggmdjaa
open Go Go.RowKit

def pkV (p : Int) : Int := if btw p 0 2 then 1 + p else if btw p 0 5 then 8 + p else 0
def ckV (r : Int) : Int := if btw r 0 2 then 21 + r else 0
def lkV (a b : Int) : Int := if btw a 0 2 && btw b 0 2 then 31 + 3 * a + b else 0

set_option maxRecDepth 100000 in
theorem user_is (n : Int) (w : World) : Calls Try.prog 85 #[.int .i64 n] w fun e w' => e = .returned (.bool (btw n 0 2)) ∧ w = w' := by
  go_enter Try.func85, Try.ntmps85
  go_wp2_with fail
  refine (within_is n 2 _).mono ?_
  rintro e w1 ⟨rfl, rfl⟩
  go_wp2
  go_ret
  exact ⟨rfl, rfl⟩
set_option maxRecDepth 100000 in
theorem specRealm_is (n : Int) (w : World) : Calls Try.prog 82 #[.int .i64 n] w fun e w' => e = .returned (.bool (btw n 0 2)) ∧ w = w' := by
  have h : btw n 0 2 = (decide (0 ≤ n) && decide (n < 3)) := by unfold btw; congr 1; apply decide_eq_decide.2; omega
  rw [h]
  by_cases h0 : 0 ≤ n
  · go_enter Try.func82, Try.ntmps82
    go_wp2
    go_ret
    exact ⟨by simp [h0], rfl⟩
  · go_enter Try.func82, Try.ntmps82
    go_wp2
    go_ret
    exact ⟨by simp; omega, rfl⟩
end Go.Proofs.Ytflajkbbggmdjaa
