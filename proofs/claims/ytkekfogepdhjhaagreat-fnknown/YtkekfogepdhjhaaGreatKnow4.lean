/- What is known as it comes in: counted, copied, compared. -/
import Derived.Test.YtkekfogepdhjhaaGreatSeek
import Derived.Test.YtkekfogepdhjhaaGreatLists
set_option linter.unusedVariables false
namespace Go.Proofs.YtkekfogepdhjhaaGreat
open Go.RowKit Own Var Term

/-- A value of two rows that the call itself has made. -/
def OwnK (base : Nat) (w : World) (v : Value) (xs : List ByteArray) (ks : List Int) : Prop :=
  ∃ g1 g2 : Nat, v = .agg #[.slice (some ⟨g1, 0, none⟩) xs.length xs.length, .slice (some ⟨g2, 0, none⟩) ks.length ks.length] ∧
    w.ownsRow base 9 1 (.slice (some ⟨g1, 0, none⟩) xs.length xs.length) xs.length (xs.map Value.string) ∧
    w.ownsRow base 3 1 (.slice (some ⟨g2, 0, none⟩) ks.length ks.length) ks.length (ks.map (Value.int .i64))
theorem own_base {w : World} {base base' : Nat} {e : TypeId} {sz n : Nat} {v : Value} {xs : List Value} (h : w.ownsRow base e sz v n xs) (hb : base' ≤ base) : w.ownsRow base' e sz v n xs := by
  refine ⟨h.1, ?_⟩
  rcases h.2 with h0 | ⟨g, cap, cur, e1, e2, e3⟩
  · exact Or.inl h0
  · exact Or.inr ⟨g, cap, cur, e1, Nat.le_trans hb e2, e3⟩
end Go.Proofs.YtkekfogepdhjhaaGreat
