/- The walks of ReadVar: the program. -/
import Derived.Test.YtengggpobhibcaaRows
import Derived.Test.YtengggpobhibcaaVarWalks
import Derived.Test.YtengggpobhibcaaReadVarMath
import Derived.WalkKit
import Derived.WalkSpells
import Derived.WalkLawsBesides
import Derived.WalkMore
set_option linter.unusedVariables false
namespace Go.Proofs.Ytengggpobhibcaa
open Go.RowKit Own Var

theorem ret2i {a b c d : Int} (h : a = b) (k : c = d) : Ending.returned (.tuple #[.int .i64 a, .int .i64 c]) = .returned (.tuple #[.int .i64 b, .int .i64 d]) := by rw [h, k]
theorem pow_bd (k : Nat) (h : k ≤ 6) : 1 ≤ 128 ^ k ∧ 128 ^ k ≤ 4398046511104 :=
  ⟨Nat.pow_pos (by omega), by have : 128 ^ k ≤ 128 ^ 6 := Nat.pow_le_pow_right (by omega) h
                              have e : 128 ^ 6 = 4398046511104 := by decide
                              omega⟩
/-- No answer: a byte of noughts ends it. -/
theorem ans_needless (s : ByteArray) (k : Nat) (hk : k < s.size) (h0 : 0 < k) (G : ∀ j, j < k → 128 ≤ at_ s j) (hb : s[k].toNat = 0) : Ans s 0 0 := by
  rw [at_eq s k hk] at hb
  refine Or.inl ⟨rfl, rfl, fun j _ _ hc => ?_⟩
  rcases Nat.lt_trichotomy j k with h | h | h
  · have := G j h; have := hc.2.1; omega
  · subst h; rcases hc.2.2 with h2 | h2 <;> omega
  · have := hc.1 k h; omega
/-- No answer: all bytes say 'more'. -/
theorem ans_none (s : ByteArray) (k : Nat) (hk : k = 7 ∨ k = s.size) (G : ∀ j, j < k → 128 ≤ at_ s j) : Ans s 0 0 := by
  refine Or.inl ⟨rfl, rfl, fun j h7 hs hc => ?_⟩
  have := G j (by omega)
  have := hc.2.1
  omega
/-- The answer: a byte ends it. -/
theorem ans_some (s : ByteArray) (k : Nat) (hk : k < s.size) (h7 : k < 7) (G : ∀ j, j < k → 128 ≤ at_ s j) (hb : s[k].toNat < 128) (h0 : k = 0 ∨ s[k].toNat ≠ 0) :
    Ans s (valB (s.data.toList.take (k + 1))) (k + 1) := by
  rw [at_eq s k hk] at hb h0
  exact Or.inr ⟨by omega, by omega, by omega, ⟨G, hb, h0⟩, rfl⟩
theorem val_step (s : ByteArray) (k : Nat) (hk : k < s.size) : ((valB (s.data.toList.take (k + 1)) : Nat) : Int) = (valB (s.data.toList.take k) : Int) + (s[k].toNat : Int) % 128 * ((128 ^ k : Nat) : Int) := by
  have hlen : (s.data.toList.take k).length = k := by rw [List.length_take]; have : s.data.toList.length = s.size := rfl; omega
  rw [Num.take_snoc s k hk, valB_snoc, hlen, Int.natCast_add, Int.natCast_mul]
  rfl
end Go.Proofs.Ytengggpobhibcaa
