/- Chapter 8: small things of the model. -/
import Derived.Test.YtcaieniddnhkbaaKeys
import Derived.Test.YtcaieniddnhkbaaShA2
set_option linter.unusedVariables false
set_option maxRecDepth 100000
namespace Go.Proofs.Ytcaieniddnhkbaa
open Go Go.RowKit Own Var Term

/-- An Event as plain numbers. -/
def noB (n : Int) : Bool := !btw n 0 1000000
def lgT (p now nonce : Int) : ByteArray := if !btw p 0 5 || (noB now || noB nonce) then ⟨#[]⟩ else listT [numsT [1, p, nonce], sealT (pkV p) (numsT [8, now])]

theorem spec_no (n : Int) (w : World) : Calls Try.prog 12 #[.int .i64 n] w fun e w' => e = .returned (.bool (noB n)) ∧ w = w' := by
  have h : noB n = (decide (n < 0) || decide (1000000 < n)) := by
    unfold noB btw
    rw [Bool.not_and, ← decide_not, ← decide_not]
    congr 1
    · apply decide_eq_decide.2; omega
    · apply decide_eq_decide.2; omega
  rw [h]
  by_cases h0 : n < 0
  · go_enter Try.func12, Try.ntmps12
    go_wp2
    go_ret
    exact ⟨by rw [decide_eq_true h0]; rfl, rfl⟩
  · go_enter Try.func12, Try.ntmps12
    go_wp2
    go_ret
    exact ⟨by rw [show decide (n < 0) = false from decide_eq_false (by omega)]; rfl, rfl⟩
end Go.Proofs.Ytcaieniddnhkbaa
