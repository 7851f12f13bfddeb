/- The library contract of strings.Clone at this program, laid in plain words by the kit: a table of numbers and one application. -/
import Derived.Shelf.LaysM
import Derived.Shelf.Strconv.Clone
import Derived.Test.YtcaieniddnhkbaaProg
namespace Go.Proofs
open Go.Shelf
end Go.Proofs
