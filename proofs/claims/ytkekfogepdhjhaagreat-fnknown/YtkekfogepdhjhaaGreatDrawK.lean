/- The drawn known things: has, l1Size, and the cursor beside a block of two rows. -/
import Derived.Test.YtkekfogepdhjhaaGreatKeys
import Derived.Test.YtkekfogepdhjhaaGreatWide
import Derived.Test.YtkekfogepdhjhaaGreatLearn4
import Derived.Test.YtkekfogepdhjhaaGreatSome
set_option linter.unusedVariables false
namespace Go.Proofs.YtkekfogepdhjhaaGreat
open Go.RowKit Go.Proofs.YtkekfogepdhjhaaGreat.Own Var Term

set_option maxRecDepth 100000 in
set_option maxHeartbeats 800000 in
theorem has_is (a : Option Addr) (cap : Nat) (ks : List Int) (x : Int) (w : World) (hr : RowAt (Value.int .i64) w a ks) (hl : ks.length ≤ 1048576) :
    Calls Tryz.prog 10 #[.slice a ks.length cap, .int .i64 x] w fun e w' => e = .returned (.bool (hasB ks x)) ∧ w = w' := by
  go_enter Tryz.func10, Tryz.ntmps10
  go_wp2
  go_loop [5] (fun i => ∃ k : Nat, k ≤ ks.length ∧ i = .int .i64 k ∧ Hid (¬ x ∈ ks.take k)) (fun i => ks.length - (intOf i).toNat)
  case atStart => exact ⟨0, by omega, rfl, by simp [Hid]⟩
  case round =>
    obtain ⟨k, hk, rfl, hx⟩ := hrel
    by_cases hlt : k < ks.length
    · obtain ⟨b1, o1, rfl, l1, hc1⟩ := hr k hlt
      have HM : Hid (x ∈ ks.take (k + 1) ↔ x ∈ ks.take k ∨ x = ks[k]) := mem_take_succ hlt x
      have HI : Hid (ks[k] ∈ ks) := List.getElem_mem hlt
      generalize ks[k] = y at hc1 HM HI
      by_cases he : y = x
      · subst he
        have hT : hasB ks y = true := (hasB_iff _ _).2 HI.out
        go_wp2
        all_goals
          go_ret
          exact ⟨by first | rfl | (rw [hT]; rfl), rfl⟩
      · have hd : (y == x) = false := by simpa using he
        have HN : Hid (¬ x ∈ ks.take (k + 1)) := by
          intro h
          rcases HM.out.1 h with h | h
          · exact hx.out h
          · exact he h.symm
        go_wp2
        go_round
        case rel => exact ⟨k + 1, by omega, by go_num, HN⟩
        case measure => simp [intOf]; omega
    · have hF : hasB ks x = false := by have := hx.out; rw [List.take_of_length_le (by omega)] at this; exact hasB_no this
      go_wp2
      go_ret
      exact ⟨by first | rfl | (rw [hF]; rfl), rfl⟩

set_option maxRecDepth 100000 in
theorem size15_is (a : Option Addr) (n c : Nat) (w : World) (hn : n ≤ 1048576) :
    Calls Tryz.prog 18 #[.slice a n c, .int .i64 15] w fun e w' => ∃ x : Int, e = .returned (.int .i64 x) ∧ 2 ≤ x ∧ x ≤ 15 ∧ w = w' := by
  by_cases h : (2 + (n : Int) / 20) > 15
  · go_enter Tryz.func18, Tryz.ntmps18
    go_wp2
    go_ret
    exact ⟨15, by first | rfl | go_num, by omega, by omega, rfl⟩
  · go_enter Tryz.func18, Tryz.ntmps18
    go_wp2
    go_ret
    exact ⟨2 + (n : Int) / 20, by first | rfl | go_num, by omega, by omega, rfl⟩
end Go.Proofs.YtkekfogepdhjhaaGreat
