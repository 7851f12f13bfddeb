/- Tickets: the small predicates, of the program and of the model. -/
import Derived.Test.YtcaieniddnhkbaaTickDef
import Derived.Test.YtcaieniddnhkbaaTermImpl
set_option linter.unusedVariables false
namespace Go.Proofs.Ytcaieniddnhkbaa
open Go Go.RowKit

set_option maxRecDepth 100000 in
theorem prin_is (n : Int) (w : World) : Calls Try.prog 40 #[.int .i64 n] w fun e w' => e = .returned (.bool (btw n 0 5)) ∧ w = w' := by
  go_enter Try.func40, Try.ntmps40
  go_wp2_with fail
  refine (within_is n 5 _).mono ?_
  rintro e w1 ⟨rfl, rfl⟩
  go_wp2
  go_ret
  exact ⟨rfl, rfl⟩
/-- A number of 64 bits. -/
def i64 (n : Int) : Prop := -9223372036854775808 ≤ n ∧ n ≤ 9223372036854775807
theorem wrap_btw (n : Int) (hn : i64 n) : btw (wrap64 (n - 10)) 0 2 = btw n 10 12 := by
  unfold i64 at hn
  have h : (btw (wrap64 (n - 10)) 0 2 = true) ↔ (btw n 10 12 = true) := by
    rw [btw_iff, btw_iff]
    unfold wrap64
    omega
  exact Bool.eq_iff_iff.2 h
set_option maxRecDepth 100000 in
theorem spec_prin (n : Int) (w : World) : Calls Try.prog 11 #[.int .i64 n] w fun e w' => e = .returned (.bool (btw n 0 5)) ∧ w = w' := by
  have h : btw n 0 5 = (decide (0 ≤ n) && decide (n < 6)) := by unfold btw; congr 1; apply decide_eq_decide.2; omega
  rw [h]
  by_cases h0 : 0 ≤ n
  · go_enter Try.func11, Try.ntmps11
    go_wp2
    go_ret
    exact ⟨by simp [h0], rfl⟩
  · go_enter Try.func11, Try.ntmps11
    go_wp2
    go_ret
    exact ⟨by simp; omega, rfl⟩
end Go.Proofs.Ytcaieniddnhkbaa
