/- Rows of slots. -/
import Derived.Test.YtkfjpgkpmdbnoaaFl
import Derived.Test.YtkfjpgkpmdbnoaaDraw
set_option linter.unusedVariables false
set_option maxRecDepth 100000
namespace Go.Proofs.Ytkfjpgkpmdbnoaa
open Go Go.RowKit Go.Joins Own Draw

def gS (k0 i : Nat) : Value := .int .i64 ((k0 + i : Nat) : Int)
theorem gS_0 (k0 k m : Nat) (hm : m = k0 + k * 3) : gS k0 (k * 3) = .int .i64 ((m : Int)) := by
  subst hm
  unfold gS
  congr 1
theorem gS_1 (k0 k m : Nat) (hm : m = k0 + k * 3) : gS k0 (k * 3 + 1) = .int .i64 ((m : Int) + 1) := by
  subst hm
  unfold gS
  congr 1
theorem gS_2 (k0 k m : Nat) (hm : m = k0 + k * 3) : gS k0 (k * 3 + 2) = .int .i64 ((m : Int) + 1 + 1) := by
  subst hm
  unfold gS
  congr 1
abbrev TS := Int × Int × Int
abbrev cS (p : TS) : List Value := [.int .i64 p.1, .int .i64 p.2.1, .int .i64 p.2.2]
abbrev vS (p : TS) : Value := .agg #[.int .i64 p.1, .int .i64 p.2.1, .int .i64 p.2.2]
theorem lS (p : TS) : (cS p).length = 3 := rfl
end Go.Proofs.Ytkfjpgkpmdbnoaa
