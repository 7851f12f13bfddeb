/- Tickets: rows of numbers that are all in bounds. -/
import Derived.Test.YtbkemhclncmicaaTick1
import Derived.Test.YtbkemhclncmicaaRows1
set_option linter.unusedVariables false
namespace Go.Proofs.Ytbkemhclncmicaa
open Go Go.RowKit

theorem all_yes {xs : List Int} (h : ∀ j (hj : j < xs.length), btw xs[j] 0 2 = true) : (xs.all fun n => btw n 0 2) = true := by
  rw [List.all_eq_true]
  intro x hx
  obtain ⟨j, hj, rfl⟩ := List.mem_iff_getElem.1 hx
  exact h j hj
theorem all_no {xs : List Int} {j : Nat} (hj : j < xs.length) (h : btw xs[j] 0 2 = false) : (xs.all fun n => btw n 0 2) = false := by
  cases hh : xs.all fun n => btw n 0 2 with
  | false => rfl
  | true => rw [List.all_eq_true] at hh; rw [hh _ (List.getElem_mem hj)] at h; cases h

set_option maxRecDepth 100000 in
set_option maxHeartbeats 800000 in
theorem spec_all (a : Option Addr) (cap : Nat) (xs : List Int) (m : Nat) (w : World) (hr : RowAt (Value.int .i64) w a xs) (hl : xs.length ≤ 1048576) (hm : m ≤ 1048576) :
    Calls Try.prog 63 #[.slice a xs.length cap, .int .i64 m, .int .i64 3] w fun e w' => e = .returned (.bool (allB xs m)) ∧ Below w.heap.size w w' := by
  by_cases h : xs.length ≤ m
  · have hd : decide ((m : Int) < (xs.length : Int)) = false := by simp; omega
    have hA : allB xs m = xs.all fun n => btw n 0 2 := by unfold allB; simp [h]
    rw [hA]
    go_enter Try.func63, Try.ntmps63
    go_wp2
    go_loopw [7] (fun i wr => ∃ k : Nat, k ≤ xs.length ∧ i = .int .i64 k ∧ (∀ j (hj : j < xs.length), j < k → btw xs[j] 0 2 = true) ∧ Below w.heap.size w wr) (fun i _ => xs.length - (intOf i).toNat)
    case atStart => exact ⟨0, by omega, rfl, fun j hj h => absurd h (by omega), Below.refl _ _⟩
    case round =>
      obtain ⟨k, hk, rfl, hall, hbel⟩ := hrel
      by_cases hlt : k < xs.length
      · obtain ⟨b1, o1, rfl, l1, hc1⟩ := hr k hlt
        rw [← hbel.cell (p := ⟨b1, o1 + k, none⟩) l1] at hc1
        have H := fun (h : btw xs[k] 0 2 = true) => fun j (hj : j < xs.length) (hjk : j < k + 1) => (if e : j = k then by subst e; exact h else hall j hj (by omega) : btw xs[j] 0 2 = true)
        have HN := all_no (xs := xs) hlt
        generalize hx : xs[k] = x at hc1 H HN
        by_cases h0 : x < 0
        · go_wp2
          go_ret
          exact ⟨by rw [HN (by unfold btw; simp; omega)]; rfl, hbel⟩
        · by_cases h3 : 3 ≤ x
          · go_wp2
            go_ret
            exact ⟨by rw [HN (by unfold btw; simp; omega)]; rfl, hbel⟩
          · go_wp2
            go_roundw
            case rel => exact ⟨k + 1, by omega, by go_num, H (by unfold btw; simp; omega), hbel⟩
            case measure => simp [intOf]; omega
      · go_wp2
        go_ret
        exact ⟨by rw [all_yes (fun j hj => hall j hj (by omega))]; rfl, hbel⟩
  · have hd : decide ((m : Int) < (xs.length : Int)) = true := by simp; omega
    have hA : allB xs m = false := by unfold allB; simp [h]
    rw [hA]
    go_enter Try.func63, Try.ntmps63
    go_wp2
    go_ret
    exact ⟨rfl, Below.refl _ _⟩
end Go.Proofs.Ytbkemhclncmicaa
