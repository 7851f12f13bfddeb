/- Grants as texts: the law. -/
import Derived.Test.YtbbaddcldoflfaaShG2
import Derived.Test.YtbbaddcldoflfaaToG
set_option linter.unusedVariables false
namespace Go.Proofs.Ytbbaddcldoflfaa
open Go Go.RowKit Own Var Term
end Go.Proofs.Ytbbaddcldoflfaa
