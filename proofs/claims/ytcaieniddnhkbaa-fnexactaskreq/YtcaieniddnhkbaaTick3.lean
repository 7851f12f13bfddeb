/- Tickets: rows of numbers that are all in bounds, as the program asks. -/
import Derived.Test.YtcaieniddnhkbaaTick2
set_option linter.unusedVariables false
namespace Go.Proofs.Ytcaieniddnhkbaa
open Go Go.RowKit
end Go.Proofs.Ytcaieniddnhkbaa
