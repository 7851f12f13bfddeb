/- Grants as texts: what the model shows. -/
import Derived.Test.YtbbaddcldoflfaaShG
set_option linter.unusedVariables false
namespace Go.Proofs.Ytbbaddcldoflfaa
open Go Go.RowKit Own Var Term
end Go.Proofs.Ytbbaddcldoflfaa
