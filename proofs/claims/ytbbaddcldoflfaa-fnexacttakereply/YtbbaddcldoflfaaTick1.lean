/- Tickets: the small predicates, of the program and of the model. -/
import Derived.Test.YtbbaddcldoflfaaTickDef
import Derived.Test.YtbbaddcldoflfaaTermImpl
set_option linter.unusedVariables false
namespace Go.Proofs.Ytbbaddcldoflfaa
open Go Go.RowKit

set_option maxRecDepth 100000 in
theorem prin_is (n : Int) (w : World) : Calls Try.prog 29 #[.int .i64 n] w fun e w' => e = .returned (.bool (btw n 0 5)) ∧ w = w' := by
  go_enter Try.func29, Try.ntmps29
  go_wp2_with fail
  refine (within_is n 5 _).mono ?_
  rintro e w1 ⟨rfl, rfl⟩
  go_wp2
  go_ret
  exact ⟨rfl, rfl⟩
set_option maxRecDepth 100000 in
theorem serv_is (n : Int) (w : World) : Calls Try.prog 66 #[.int .i64 n] w fun e w' => e = .returned (.bool (btw n 0 2)) ∧ w = w' := by
  go_enter Try.func66, Try.ntmps66
  go_wp2_with fail
  refine (within_is n 2 _).mono ?_
  rintro e w1 ⟨rfl, rfl⟩
  go_wp2
  go_ret
  exact ⟨rfl, rfl⟩
set_option maxRecDepth 100000 in
theorem realm_is (n : Int) (w : World) : Calls Try.prog 67 #[.int .i64 n] w fun e w' => e = .returned (.bool (btw n 0 2)) ∧ w = w' := by
  go_enter Try.func67, Try.ntmps67
  go_wp2_with fail
  refine (within_is n 2 _).mono ?_
  rintro e w1 ⟨rfl, rfl⟩
  go_wp2
  go_ret
  exact ⟨rfl, rfl⟩

/-- A number of 64 bits. -/
def i64 (n : Int) : Prop := -9223372036854775808 ≤ n ∧ n ≤ 9223372036854775807
theorem wrap_btw (n : Int) (hn : i64 n) : btw (wrap64 (n - 10)) 0 2 = btw n 10 12 := by
  unfold i64 at hn
  have h : (btw (wrap64 (n - 10)) 0 2 = true) ↔ (btw n 10 12 = true) := by
    rw [btw_iff, btw_iff]
    unfold wrap64
    omega
  exact Bool.eq_iff_iff.2 h
set_option maxRecDepth 100000 in
theorem recv_is (n : Int) (w : World) (hn : i64 n) : Calls Try.prog 38 #[.int .i64 n] w fun e w' => e = .returned (.bool (svOk n)) ∧ w = w' := by
  go_enter Try.func38, Try.ntmps38
  go_wp2_with fail
  refine (serv_is n _).mono ?_
  rintro e w1 ⟨rfl, rfl⟩
  by_cases h : btw n 0 2 = true
  · rw [h]
    go_wp2
    go_ret
    exact ⟨by unfold svOk; rw [h]; rfl, rfl⟩
  · rw [Bool.not_eq_true] at h
    rw [h]
    go_wp2_with fail
    refine (realm_is _ _).mono ?_
    rintro e w1 ⟨rfl, rfl⟩
    go_wp2
    go_ret
    refine ⟨?_, rfl⟩
    unfold svOk
    rw [h, Bool.false_or]
    rw [← wrap_btw n hn]
    rfl
set_option maxRecDepth 100000 in
theorem spec_prin (n : Int) (w : World) : Calls Try.prog 16 #[.int .i64 n] w fun e w' => e = .returned (.bool (btw n 0 5)) ∧ w = w' := by
  have h : btw n 0 5 = (decide (0 ≤ n) && decide (n < 6)) := by unfold btw; congr 1; apply decide_eq_decide.2; omega
  rw [h]
  by_cases h0 : 0 ≤ n
  · go_enter Try.func16, Try.ntmps16
    go_wp2
    go_ret
    exact ⟨by simp [h0], rfl⟩
  · go_enter Try.func16, Try.ntmps16
    go_wp2
    go_ret
    exact ⟨by simp; omega, rfl⟩
set_option maxRecDepth 100000 in
theorem spec_serv (n : Int) (w : World) : Calls Try.prog 17 #[.int .i64 n] w fun e w' => e = .returned (.bool (svOk n)) ∧ w = w' := by
  go_enter Try.func17, Try.ntmps17
  go_wp2_with fail
  refine (in_is n 0 2 _).mono ?_
  rintro e w1 ⟨rfl, rfl⟩
  rw [show (decide (0 ≤ n) && decide (n ≤ 2)) = btw n 0 2 from rfl]
  by_cases h : btw n 0 2 = true
  · rw [h]
    go_wp2
    go_ret
    exact ⟨by unfold svOk; rw [h]; rfl, rfl⟩
  · rw [Bool.not_eq_true] at h
    rw [h]
    go_wp2_with fail
    refine (in_is n 10 12 _).mono ?_
    rintro e w1 ⟨rfl, rfl⟩
    go_wp2
    go_ret
    exact ⟨by unfold svOk; rw [h]; rfl, rfl⟩
end Go.Proofs.Ytbbaddcldoflfaa
