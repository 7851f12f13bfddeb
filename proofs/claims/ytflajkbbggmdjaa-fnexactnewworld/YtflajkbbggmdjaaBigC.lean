/- Great structs: loaded and stored as wholes. -/
import Derived.Test.YtflajkbbggmdjaaBig
import Derived.Lib.ReflectliteSwap
import Derived.Laws.ResultCell
set_option linter.unusedVariables false
set_option maxRecDepth 100000
namespace Go.Proofs.Ytflajkbbggmdjaa
open Go Go.RowKit Own
theorem info_Cx : ∃ ie, Try.prog.info? 82 = some ie ∧ ie.size = 2 := by
  cases h : Try.prog.info? 82 with
  | none => exact absurd h (by have : (Try.prog.info? 82).isSome = true := by kernel_rfl
                               rw [Option.isSome_iff_ne_none] at this; exact this)
  | some ie =>
    refine ⟨ie, rfl, ?_⟩
    have : (Try.prog.info? 82).map (·.size) = some 2 := by kernel_rfl
    rw [h] at this
    exact Option.some.inj this
end Go.Proofs.Ytflajkbbggmdjaa
