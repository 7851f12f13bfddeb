/- Flags: what is right, what is in a sum, by the program and the model. -/
import Derived.Test.YtcilgmofhkpkpaaBase
import Derived.Laws.BitsAllLaws
set_option linter.unusedVariables false
namespace Go.Proofs.Ytcilgmofhkpkpaa
open Go Go.RowKit

set_option maxRecDepth 100000 in
theorem within_is (n g : Int) (w : World) : Calls Try.prog 35 #[.int .i64 n, .int .i64 g] w fun e w' => e = .returned (.bool (btw n 0 g)) ∧ w = w' := by
  by_cases h0 : 0 ≤ n
  · go_enter Try.func35, Try.ntmps35
    go_wp2
    go_ret
    exact ⟨by simp [btw, h0], rfl⟩
  · go_enter Try.func35, Try.ntmps35
    go_wp2
    go_ret
    exact ⟨by rw [show btw n 0 g = false by unfold btw; rw [show decide (0 ≤ n) = false by simp; omega]; rfl]; rfl, rfl⟩
set_option maxRecDepth 100000 in
theorem implOk_is (n : Int) (w : World) : Calls Try.prog 21 #[.int .i64 n] w fun e w' => e = .returned (.bool (btw n 0 255)) ∧ w = w' := by
  go_enter Try.func21, Try.ntmps21
  go_wp2_with fail
  refine (within_is n 255 _).mono ?_
  rintro e w1 ⟨rfl, rfl⟩
  go_wp2
  go_ret
  exact ⟨rfl, rfl⟩
set_option maxRecDepth 100000 in
theorem specOk_is (n : Int) (w : World) : Calls Try.prog 22 #[.int .i64 n] w fun e w' => e = .returned (.bool (btw n 0 255)) ∧ w = w' := by
  go_enter Try.func22, Try.ntmps22
  go_wp2_with fail
  refine (in_is n 0 255 _).mono ?_
  rintro e w1 ⟨rfl, rfl⟩
  go_wp2
  go_ret
  exact ⟨rfl, rfl⟩
set_option maxRecDepth 100000 in
theorem lawOk (n : Int) (w : World) : Calls Try.prog 5 #[.int .i64 n] w fun e w' => e = .returned (.bool true) ∧ Below w.heap.size w w' := by
  go_enter Try.func5, Try.ntmps5
  go_wp2_with fail
  refine (specOk_is n _).mono ?_
  rintro e w1 ⟨rfl, rfl⟩
  go_wp2_with fail
  refine (implOk_is n _).mono ?_
  rintro e w1 ⟨rfl, rfl⟩
  go_wp2
  go_ret
  exact ⟨rfl, Below.refl _ _⟩
/-- Some flags are all in a sum: as the program asks. -/
def hasF (f s : Int) : Bool := bits .andNot .i64 s f == 0
set_option maxRecDepth 100000 in
theorem hasF_is (f s : Int) (w : World) : Calls Try.prog 28 #[.int .i64 f, .int .i64 s] w fun e w' => e = .returned (.bool (hasF f s)) ∧ w = w' := by
  go_enter Try.func28, Try.ntmps28
  go_wp2
  go_ret
  exact ⟨rfl, rfl⟩
/-- A flag is in a sum: as the model asks. -/
def hasM (f g : Int) : Bool := f.tdiv g % 2 == 1
set_option maxRecDepth 100000 in
theorem hasM_is (f g : Int) (hf : 0 ≤ f) (hf2 : f ≤ 255) (hg : 0 < g) (hg2 : g ≤ 255) (w : World) : Calls Try.prog 31 #[.int .i64 f, .int .i64 g] w fun e w' => e = .returned (.bool (hasM f g)) ∧ w = w' := by
  have hne : ¬ g = 0 := by omega
  have h0 : 0 ≤ f.tdiv g := Int.tdiv_nonneg hf (by omega)
  have h1 : f.tdiv g ≤ 255 := Int.le_trans (Int.tdiv_le_self g hf) hf2
  generalize hq : f.tdiv g = q at *
  go_enter Try.func31, Try.ntmps31
  go_wp2
  go_ret
  exact ⟨congrArg (fun z => Ending.returned (Value.bool z)) (show (q % 2 == 1) = hasM f g by unfold hasM; rw [hq]), rfl⟩
end Go.Proofs.Ytcilgmofhkpkpaa
