/- What the texts on Configs stand on. -/
import Derived.Test.YtcaieniddnhkbaaRest
import Derived.Test.YtcaieniddnhkbaaTickDef
import Derived.Test.YtcaieniddnhkbaaTick1
import Derived.Test.YtcaieniddnhkbaaRows1
import Derived.Test.YtcaieniddnhkbaaTick2
import Derived.Test.YtcaieniddnhkbaaTick3
import Derived.Test.YtcaieniddnhkbaaTick4
import Derived.Test.YtcaieniddnhkbaaRest3
import Derived.Test.YtcaieniddnhkbaaNums
import Derived.Test.YtcaieniddnhkbaaOwn
import Derived.WalkKit
import Derived.WalkSpells
import Derived.WalkLawsBesides
import Derived.Deep.QuietTactic
import Derived.Deep.RegionHeld3
import Derived.Maps.AppendAt
import Derived.BigQuiet
import Derived.WalkSmall
import Derived.Below
import Derived.Lib.SmallJoins
set_option linter.unusedVariables false
namespace Go.Proofs.Ytcaieniddnhkbaa
open Go Go.RowKit Go.Joins Own Var Term
theorem RowAt.set {α : Type} {f : α → Value} {w : World} {a : Option Addr} {xs : List α} (h : RowAt f w a xs) (q i : Nat) (u : Value) (hn : ∀ p : Addr, a = some p → p.block ≠ q) : RowAt f (w.setCell ⟨q, i, none⟩ u) a xs := by
  intro j hj
  obtain ⟨b, off, e, hlt, hc⟩ := h j hj
  refine ⟨b, off, e, by simpa using hlt, ?_⟩
  have := hn _ e
  rw [World.cell?_setCell_other _ _ _ _ (by intro he; simp only [Addr.mk.injEq] at he; exact this he.1.symm)]
  exact hc
end Go.Proofs.Ytcaieniddnhkbaa
