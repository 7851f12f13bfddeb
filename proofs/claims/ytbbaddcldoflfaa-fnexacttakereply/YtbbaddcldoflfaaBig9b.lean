/- Great structs: stored as wholes in a drawn region. -/
import Derived.Test.YtbbaddcldoflfaaBig9
import Derived.Lib.ReflectliteSwap
import Derived.Laws.ResultCell
set_option linter.unusedVariables false
set_option maxRecDepth 100000
namespace Go.Proofs.Ytbbaddcldoflfaa
open Go Go.RowKit Own Var Term

theorem stepB {P : Program} {ops : Array Oper} {o : Oper} {a : Act} {w : World} {K : Act → World → Prop} {Q : Exit → Act → World → Prop} {E : Prop} (ty : TypeId) (x y : Operand) (g off : Nat) (us vs : List Value) (ie : TypeInfo) (hie : P.info? ty = some ie) (h : Blk g us w) (hs : vs.length = ie.size) (hl : off + vs.length ≤ us.length) (h1 : vs.all (·.oneCell') = true)
    (hgd : o.guard = none) (ho : o.op = .store ty x y) (hx : a.eval x = .pointer (some ⟨g, off, none⟩)) (hy : a.eval y = .agg vs.toArray)
    (hn : K (a.put o.dst undef) (w.setCells g off vs)) : if Region.wanted o (yielded ops a.tmps) = true then Oper.wp P o a w K Q else E := by
  rw [if_pos (by simp [Region.wanted, hgd])]
  unfold Oper.wp execOp
  simp only [ho, hx, hy, Instr.storeAt, Instr.sureAddr, Sem.run_bind, Sem.run_pure, Result.andThen_ok, stB ty ie hie vs h hs hl h1]
  exact hn
end Go.Proofs.Ytbbaddcldoflfaa
