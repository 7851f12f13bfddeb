/- Great structs: loaded and stored as wholes. -/
import Derived.Test.YtflajkbbggmdjaaBig
import Derived.Lib.ReflectliteSwap
import Derived.Laws.ResultCell
set_option linter.unusedVariables false
set_option maxRecDepth 100000
namespace Go.Proofs.Ytflajkbbggmdjaa
open Go Go.RowKit Own
theorem info_F : ∃ ie, Try.prog.info? 30 = some ie ∧ ie.size = 5 := by
  cases h : Try.prog.info? 30 with
  | none => exact absurd h (by have : (Try.prog.info? 30).isSome = true := by kernel_rfl
                               rw [Option.isSome_iff_ne_none] at this; exact this)
  | some ie =>
    refine ⟨ie, rfl, ?_⟩
    have : (Try.prog.info? 30).map (·.size) = some 5 := by kernel_rfl
    rw [h] at this
    exact Option.some.inj this
end Go.Proofs.Ytflajkbbggmdjaa
