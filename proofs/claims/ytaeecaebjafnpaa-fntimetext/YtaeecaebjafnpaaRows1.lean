/- Rows of texts and of numbers that lie in memory: how the laws count, copy and compare them. -/
import Derived.Test.YtaeecaebjafnpaaBase
import Derived.Test.YtaeecaebjafnpaaFaces2
import Derived.OwnWalk
import Derived.Laws.OwnMore
set_option linter.unusedVariables false
namespace Go.Proofs.Ytaeecaebjafnpaa
open Go.RowKit Own Var Term

theorem infoStr : (Try.prog.info? 9).map (fun i => (i.zero, i.size, i.bytes)) = some (some (.string ⟨#[]⟩), 1, 16) := by kernel_rfl
end Go.Proofs.Ytaeecaebjafnpaa
