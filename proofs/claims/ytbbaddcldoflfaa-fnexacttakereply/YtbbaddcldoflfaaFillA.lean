/- Authenticators: what a text is filled in as. -/
import Derived.Test.YtbbaddcldoflfaaRd0
import Derived.Test.YtbbaddcldoflfaaBox
set_option linter.unusedVariables false
namespace Go.Proofs.Ytbbaddcldoflfaa
open Go Go.RowKit Own Var Term
end Go.Proofs.Ytbbaddcldoflfaa
