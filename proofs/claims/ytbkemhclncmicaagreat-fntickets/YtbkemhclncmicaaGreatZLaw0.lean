/- The law on tickets: what it asks by. -/
import Derived.Lib.SmallJoins
import Derived.Test.YtbkemhclncmicaaGreatZDraw3
import Derived.Test.YtbkemhclncmicaaGreatRdA
import Derived.Test.YtbkemhclncmicaaGreatShT
import Derived.Test.YtbkemhclncmicaaGreatShA
set_option linter.unusedVariables false
namespace Go.Proofs.YtbkemhclncmicaaGreat
open Go Go.RowKit Go.Joins Own Var Term Draw

theorem big_go (a : Option Addr) (len cap : Nat) (W : World) (h : len ≤ 1048576) :
    Calls Tryz.prog 4 #[.slice a len cap] W fun e w' => e = .returned (.bool false) ∧ W = w' := by
  have hd : decide ((1048576 : Int) < (len : Int)) = false := by simp; omega
  go_enter Tryz.func4, Tryz.ntmps4
  go_wp2
  go_ret
  exact ⟨rfl, rfl⟩
theorem big_yes (a : Option Addr) (len cap : Nat) (W : World) (h : 1048576 < len) (h2 : len ≤ maxLen) :
    Calls Tryz.prog 4 #[.slice a len cap] W fun e w' => e = .returned (.bool true) ∧ W = w' := by
  unfold maxLen at h2
  have hd : decide ((1048576 : Int) < (len : Int)) = true := by simp; omega
  go_enter Tryz.func4, Tryz.ntmps4
  go_wp2
  go_ret
  exact ⟨rfl, rfl⟩
set_option maxRecDepth 100000 in
set_option maxHeartbeats 1600000 in
theorem same_is (a b : Option Addr) (ca cb : Nat) (xs : List Int) (w : World) (ha : RowAt (Value.int .i64) w a xs) (hb : RowAt (Value.int .i64) w b xs) (hl : xs.length ≤ 1048576) :
    Calls Tryz.prog 9 #[.slice a xs.length ca, .slice b xs.length cb] w fun e w' => e = .returned (.bool true) ∧ Below w.heap.size w w' := by
  go_enter Tryz.func9, Tryz.ntmps9
  go_wp2
  go_loopw [5] (fun i wr => ∃ k : Nat, k ≤ xs.length ∧ i = .int .i64 k ∧ Below w.heap.size w wr) (fun i _ => xs.length - (intOf i).toNat)
  case atStart => exact ⟨0, by omega, rfl, Below.refl _ _⟩
  case round =>
    obtain ⟨k, hk, rfl, hbel⟩ := hrel
    by_cases hlt : k < xs.length
    · obtain ⟨b1, o1, rfl, l1, hc1⟩ := ha k hlt
      obtain ⟨b2, o2, rfl, l2, hc2⟩ := hb k hlt
      rw [← hbel.cell (p := ⟨b1, o1 + k, none⟩) l1] at hc1
      rw [← hbel.cell (p := ⟨b2, o2 + k, none⟩) l2] at hc2
      generalize xs[k] = x at hc1 hc2
      go_wp2
      go_region
      all_goals
        go_wp2
        go_roundw
        case rel => exact ⟨k + 1, by omega, by go_num, hbel.drew⟩
        case measure => simp [intOf]; omega
    · go_wp2
      go_ret
      exact ⟨rfl, hbel⟩
theorem succ_ne (k : Int) (h : i64 k) : wrap64 (k + 1) ≠ k := by
  unfold wrap64
  unfold i64 at h
  omega

end Go.Proofs.YtbkemhclncmicaaGreat
