/- Grants: what the laws copy. -/
import Derived.Test.YtbbaddcldoflfaaRes5
import Derived.Test.YtbbaddcldoflfaaRest2
set_option linter.unusedVariables false
namespace Go.Proofs.Ytbbaddcldoflfaa
open Go Go.RowKit Own Var Term
end Go.Proofs.Ytbbaddcldoflfaa
