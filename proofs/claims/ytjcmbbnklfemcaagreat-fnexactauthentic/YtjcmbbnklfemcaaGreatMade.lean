/- Plain mathematics: what is put together is taken apart. -/
import Derived.Test.YtjcmbbnklfemcaaGreatOwn
import Derived.Test.YtjcmbbnklfemcaaGreatVarWalks
set_option linter.unusedVariables false
namespace Go.Proofs.YtjcmbbnklfemcaaGreat
open Go.RowKit Own Var Term
end Go.Proofs.YtjcmbbnklfemcaaGreat
