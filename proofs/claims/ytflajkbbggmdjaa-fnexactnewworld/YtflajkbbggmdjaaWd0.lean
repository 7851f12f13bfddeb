/- Worlds that are new. -/
import Derived.Test.YtflajkbbggmdjaaCy2
import Derived.Test.YtflajkbbggmdjaaWa0
import Derived.Test.YtflajkbbggmdjaaBigW
set_option linter.unusedVariables false
set_option maxRecDepth 100000
namespace Go.Proofs.Ytflajkbbggmdjaa.Nd
open Go Go.RowKit Go.Joins Own Draw

abbrev TWd := TF × Int × Rw TW × Rw TC
abbrev cWd (x : TWd) : List Value := [.slice x.1.1.1 x.1.1.2.2.length x.1.1.2.1, .slice x.1.2.1.1 x.1.2.1.2.2.length x.1.2.1.2.1, .slice x.1.2.2.1.1 x.1.2.2.1.2.2.length x.1.2.2.1.2.1, .slice x.1.2.2.2.1.1 x.1.2.2.2.1.2.2.length x.1.2.2.2.1.2.1, .int .i64 x.1.2.2.2.2, .int .i64 0, .int .i64 x.2.1, .slice none 0 0, .slice none 0 0, .slice none 0 0, .slice x.2.2.1.1 x.2.2.1.2.2.length x.2.2.1.2.1, .slice none 0 0, .slice x.2.2.2.1 x.2.2.2.2.2.length x.2.2.2.2.1, .slice none 0 0, .slice none 0 0, .slice none 0 0]
abbrev vWd (x : TWd) : Value := .agg #[.slice x.1.1.1 x.1.1.2.2.length x.1.1.2.1, .slice x.1.2.1.1 x.1.2.1.2.2.length x.1.2.1.2.1, .slice x.1.2.2.1.1 x.1.2.2.1.2.2.length x.1.2.2.1.2.1, .slice x.1.2.2.2.1.1 x.1.2.2.2.1.2.2.length x.1.2.2.2.1.2.1, .int .i64 x.1.2.2.2.2, .int .i64 0, .int .i64 x.2.1, .slice none 0 0, .slice none 0 0, .slice none 0 0, .slice x.2.2.1.1 x.2.2.1.2.2.length x.2.2.1.2.1, .slice none 0 0, .slice x.2.2.2.1 x.2.2.2.2.2.length x.2.2.2.2.1, .slice none 0 0, .slice none 0 0, .slice none 0 0]
abbrev zF : TF := ((none, 0, []), (none, 0, []), (none, 0, []), (none, 0, []), 0)
def OwWd (B : Nat) (w : World) (x : TWd) : Prop := OwF B w x.1 ∧ FOwn 114 4 cW B x.2.2.1.1 x.2.2.1.2.1 x.2.2.1.2.2 w ∧ FOwn 82 2 cC B x.2.2.2.1 x.2.2.2.2.1 x.2.2.2.2.2 w
def ApWd (x : TWd) : Prop := ApF x.1 ∧ (∀ v ∈ cF x.1, Ap v (.slice x.2.2.1.1 x.2.2.1.2.2.length x.2.2.1.2.1) ∧ Ap v (.slice x.2.2.2.1 x.2.2.2.2.2.length x.2.2.2.2.1)) ∧ Ap (.slice x.2.2.1.1 x.2.2.1.2.2.length x.2.2.1.2.1) (.slice x.2.2.2.1 x.2.2.2.2.2.length x.2.2.2.2.1)
abbrev w6 : List TW := List.replicate 6 (false, 0, 0, 0)
abbrev k3 (k : Nat) : List TC := List.replicate k (-1, 0)
def stWd (x : TWd) : PF × Int × List TW × List TC := (stF x.1, x.2.1, x.2.2.1.2.2, x.2.2.2.2.2)
def nwS (c : TF) : PF × Int × List TW × List TC := if confB (cfOf c) = true then (stF c, 101, w6, k3 3) else (stF zF, 0, [], [])
theorem zF_own (B : Nat) (w : World) : OwF B w zF := ⟨World.ownsRow_nil _ _ _ _, World.ownsRow_nil _ _ _ _, World.ownsRow_nil _ _ _ _, World.ownsRow_nil _ _ _ _⟩
theorem mk6 (w : World) : (Instr.makeSlice 47 (.int .i64 6) (.int .i64 6)).run Try.prog w = .ok (.slice (some ⟨w.heap.size, 0, none⟩) 6 6) (w.alloc (.cells #[.bool false, .int .i64 0, .int .i64 0, .int .i64 0, .bool false, .int .i64 0, .int .i64 0, .int .i64 0, .bool false, .int .i64 0, .int .i64 0, .int .i64 0, .bool false, .int .i64 0, .int .i64 0, .int .i64 0, .bool false, .int .i64 0, .int .i64 0, .int .i64 0, .bool false, .int .i64 0, .int .i64 0, .int .i64 0] 114)) := by kernel_rfl
theorem wp_mk6 {w : World} {o : Oper} {a : Act} {K : Act → World → Prop} {Q : Exit → Act → World → Prop} (ho : o.op = .makeSlice 47 (.const (.int .i64 6)) (.const (.int .i64 6)))
    (h : K (a.put o.dst (.slice (some ⟨w.heap.size, 0, none⟩) 6 6)) (w.alloc (.cells #[.bool false, .int .i64 0, .int .i64 0, .int .i64 0, .bool false, .int .i64 0, .int .i64 0, .int .i64 0, .bool false, .int .i64 0, .int .i64 0, .int .i64 0, .bool false, .int .i64 0, .int .i64 0, .int .i64 0, .bool false, .int .i64 0, .int .i64 0, .int .i64 0, .bool false, .int .i64 0, .int .i64 0, .int .i64 0] 114))) : o.wp Try.prog a w K Q := by
  unfold Oper.wp execOp
  simp only [ho, Act.eval, Sem.run_bind, mk6 w, Result.andThen_ok]
  exact h
end Go.Proofs.Ytflajkbbggmdjaa.Nd
