/- Tickets: rows of numbers that are all in bounds, as the program asks. -/
import Derived.Test.YtbkemhclncmicaaTick2
set_option linter.unusedVariables false
namespace Go.Proofs.Ytbkemhclncmicaa
open Go Go.RowKit

theorem enters95 (args : Array Value) (w : World) : (callFunc 95 args).run Try.prog w = .ok (.enter 95 args) w := by
  simp [callFunc, Try.func95, mark, Try.f95]
theorem enters96 (args : Array Value) (w : World) : (callFunc 96 args).run Try.prog w = .ok (.enter 96 args) w := by
  simp [callFunc, Try.func96, mark, Try.f96]

set_option maxRecDepth 100000 in
set_option maxHeartbeats 800000 in
theorem listOk_is (f : Nat) (hen : ∀ (args : Array Value) (w : World), (callFunc f args).run Try.prog w = .ok (.enter f args) w)
    (hf : ∀ (n : Int) (w : World), Calls Try.prog f #[.int .i64 n] w fun e w' => e = .returned (.bool (btw n 0 2)) ∧ w = w')
    (a : Option Addr) (cap : Nat) (xs : List Int) (m : Nat) (w : World) (hr : RowAt (Value.int .i64) w a xs) (hl : xs.length ≤ 1048576) (hm : m ≤ 1048576) :
    Calls Try.prog 94 #[.slice a xs.length cap, .int .i64 m, .func (.func f) #[] #[]] w fun e w' => e = .returned (.bool (allB xs m)) ∧ Below w.heap.size w w' := by
  by_cases h : xs.length ≤ m
  · have hd : decide ((m : Int) < (xs.length : Int)) = false := by simp; omega
    have hd2 : decide (m < xs.length) = false := by simp; omega
    have hA : allB xs m = xs.all fun n => btw n 0 2 := by unfold allB; simp [h]
    rw [hA]
    go_enter Try.func94, Try.ntmps94
    go_wp2
    go_loopw [15] (fun i wr => ∃ k : Nat, k ≤ xs.length ∧ i = .int .i64 k ∧ (∀ j (hj : j < xs.length), j < k → btw xs[j] 0 2 = true) ∧ Below w.heap.size w wr) (fun i _ => xs.length - (intOf i).toNat)
    case atStart => exact ⟨0, by omega, rfl, fun j hj h => absurd h (by omega), Below.refl _ _⟩
    case round =>
      obtain ⟨k, hk, rfl, hall, hbel⟩ := hrel
      by_cases hlt : k < xs.length
      · obtain ⟨b1, o1, rfl, l1, hc1⟩ := hr k hlt
        rw [← hbel.cell (p := ⟨b1, o1 + k, none⟩) l1] at hc1
        have H := fun (h : btw xs[k] 0 2 = true) => fun j (hj : j < xs.length) (hjk : j < k + 1) => (if e : j = k then by subst e; exact h else hall j hj (by omega) : btw xs[j] 0 2 = true)
        have HN := all_no (xs := xs) hlt
        generalize hx : xs[k] = x at hc1 H HN
        have HC := hf x wr
        go_wp2_with fail
        refine HC.mono ?_
        rintro e wx ⟨rfl, rfl⟩
        clear HC
        by_cases h1 : btw x 0 2 = true
        · rw [h1]
          have H1 := H h1
          clear H HN
          go_wp2
          go_roundw
          case rel => exact ⟨k + 1, by omega, by go_num, H1, hbel⟩
          case measure => simp [intOf]; omega
        · rw [Bool.not_eq_true] at h1
          rw [h1]
          have H1 := HN h1
          clear H HN
          go_wp2
          go_ret
          exact ⟨by rw [H1]; rfl, hbel⟩
      · go_wp2
        go_ret
        exact ⟨by rw [all_yes (fun j hj => hall j hj (by omega))]; rfl, hbel⟩
  · have hd : decide ((m : Int) < (xs.length : Int)) = true := by simp; omega
    have hA : allB xs m = false := by unfold allB; simp [h]
    rw [hA]
    go_enter Try.func94, Try.ntmps94
    go_wp2
    go_ret
    exact ⟨rfl, Below.refl _ _⟩
end Go.Proofs.Ytbkemhclncmicaa
