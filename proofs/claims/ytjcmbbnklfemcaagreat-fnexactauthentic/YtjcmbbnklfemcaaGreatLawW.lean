/- The law on WorldOk. -/
import Derived.Test.YtjcmbbnklfemcaaGreatNo1
import Derived.Test.YtjcmbbnklfemcaaGreatNz1
import Derived.Test.YtjcmbbnklfemcaaGreatNc8
import Derived.Test.YtjcmbbnklfemcaaGreatNc9
set_option linter.unusedVariables false
set_option maxRecDepth 100000
namespace Go.Proofs.YtjcmbbnklfemcaaGreat.Nd
open Go Go.RowKit Go.Joins Own Draw Term

theorem exec_ld {P : Program} {ρ : Operand → Value} {o : Oper} {w : World} (ty : TypeId) (x : Operand) {g off : Nat} {v : Value} (ho : o.op = .load ty x) (hx : ρ x = .pointer (some ⟨g, off, none⟩)) (hl : (loadVar ty ⟨g, off, none⟩).run P w = .ok v w) : (execOp ρ o).run P w = .ok (.value v) w := by
  unfold execOp
  simp only [ho, hx, Instr.loadAt, Instr.sureAddr, Sem.run_bind, Sem.run_pure, Result.andThen_ok, hl]
theorem info_DL : ∃ ie, Tryz.prog.info? 35 = some ie ∧ ie.size = 16 := by
  cases h : Tryz.prog.info? 35 with
  | none => exact absurd h (by have : (Tryz.prog.info? 35).isSome = true := by kernel_rfl
                               rw [Option.isSome_iff_ne_none] at this; exact this)
  | some ie =>
    refine ⟨ie, rfl, ?_⟩
    have : (Tryz.prog.info? 35).map (·.size) = some 16 := by kernel_rfl
    rw [h] at this
    exact Option.some.inj this
end Go.Proofs.YtjcmbbnklfemcaaGreat.Nd
