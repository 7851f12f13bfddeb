/- Rests: Entails, of the model. -/
import Derived.Test.YtbbaddcldoflfaaRest2
import Derived.Deep.RegionHeld3
set_option linter.unusedVariables false
namespace Go.Proofs.Ytbbaddcldoflfaa
open Go Go.RowKit


/-- A rest is within another one. -/
def entB (a b c x y z : Int) : Bool := rOk a b c && (rOk x y z && (andI a x == a && (andI b y == b && decide (c ≤ z))))
end Go.Proofs.Ytbbaddcldoflfaa
