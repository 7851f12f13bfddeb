/- Numbers. -/
import Derived.Test.YtpfonadpojcnnaaDoorFl
import Derived.Test.YtpfonadpojcnnaaDoorDraw
import Derived.Test.YtpfonadpojcnnaaDoorMt
set_option linter.unusedVariables false
set_option maxRecDepth 100000
namespace Go.Proofs.YtpfonadpojcnnaaDoor
open Go Go.RowKit Go.Joins Own Draw

abbrev TI := Int
abbrev cI (p : TI) : List Value := [.int .i64 p]
abbrev vI (p : TI) : Value := .agg #[.int .i64 p]
theorem lI (p : TI) : (cI p).length = 1 := rfl
def gI (k0 i : Nat) : Value := .int .i64 ((k0 + i : Nat) : Int)
theorem gI_0 (k0 k m : Nat) (hm : m = k0 + k) : gI k0 k = .int .i64 ((m : Int)) := by
  subst hm
  unfold gI
  congr 1
end Go.Proofs.YtpfonadpojcnnaaDoor
