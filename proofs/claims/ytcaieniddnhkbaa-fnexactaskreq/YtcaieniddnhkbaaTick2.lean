/- Tickets: rows of numbers that are all in bounds. -/
import Derived.Test.YtcaieniddnhkbaaTick1
import Derived.Test.YtcaieniddnhkbaaRows1
set_option linter.unusedVariables false
namespace Go.Proofs.Ytcaieniddnhkbaa
open Go Go.RowKit

theorem all_yes {xs : List Int} (h : ∀ j (hj : j < xs.length), btw xs[j] 0 2 = true) : (xs.all fun n => btw n 0 2) = true := by
  rw [List.all_eq_true]
  intro x hx
  obtain ⟨j, hj, rfl⟩ := List.mem_iff_getElem.1 hx
  exact h j hj
theorem all_no {xs : List Int} {j : Nat} (hj : j < xs.length) (h : btw xs[j] 0 2 = false) : (xs.all fun n => btw n 0 2) = false := by
  cases hh : xs.all fun n => btw n 0 2 with
  | false => rfl
  | true => rw [List.all_eq_true] at hh; rw [hh _ (List.getElem_mem hj)] at h; cases h
end Go.Proofs.Ytcaieniddnhkbaa
