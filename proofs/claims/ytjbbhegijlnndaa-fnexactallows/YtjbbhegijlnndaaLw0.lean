/- What is asked, within range. -/
import Derived.Test.YtjbbhegijlnndaaNo1
import Derived.Test.YtjbbhegijlnndaaRu4
set_option linter.unusedVariables false
set_option maxRecDepth 100000
namespace Go.Proofs.Ytjbbhegijlnndaa.Nd
open Go Go.RowKit Go.Joins Own Draw

theorem wf_of {x : Int} (h : i64 x) : (Lit.int .i64 x).wf = true := by
  unfold i64 at h
  simp [Lit.wf, IntKind.min, IntKind.max, IntKind.signed, IntKind.bits]
  omega
theorem wfA_of {x : TA} (h : OkA x) : wfA (stA x) := ⟨wf_of h.1, wf_of h.2.1, fun g hg => wf_of (h.2.2.1 g hg)⟩
end Go.Proofs.Ytjbbhegijlnndaa.Nd
