/- Configs: how the laws count, copy and compare them. -/
import Derived.Test.YtflajkbbggmdjaaConf1
set_option linter.unusedVariables false
namespace Go.Proofs.Ytflajkbbggmdjaa
open Go Go.RowKit Draw

/-- The same rows, wherever they lie. -/
structure Same (c d : Cf) : Prop where
  U : d.U = c.U
  S : d.S = c.S
  L : d.L = c.L
  X : d.X = c.X
  k : d.k = c.k
theorem Same.conf {c d : Cf} (h : Same c d) : confB d = confB c := by unfold confB; rw [h.U, h.S, h.L, h.X, h.k]
theorem Same.symm {c d : Cf} (h : Same c d) : Same d c := ⟨h.U.symm, h.S.symm, h.L.symm, h.X.symm, h.k.symm⟩
theorem Same.trans {c d e : Cf} (h : Same c d) (g : Same d e) : Same c e := ⟨g.U.trans h.U, g.S.trans h.S, g.L.trans h.L, g.X.trans h.X, g.k.trans h.k⟩
end Go.Proofs.Ytflajkbbggmdjaa
