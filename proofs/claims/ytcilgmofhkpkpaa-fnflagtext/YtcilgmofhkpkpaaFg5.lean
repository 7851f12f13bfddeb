/- What the program derives is what the model does: by going through all of it. -/
import Derived.Test.YtcilgmofhkpkpaaFg4
set_option linter.unusedVariables false
namespace Go.Proofs.Ytcilgmofhkpkpaa
open Go Go.RowKit

theorem nat_high (n : Nat) (h : n < 2 ^ 64) : n &&& (2 ^ 64 - 16) = n / 2 ^ 4 * 2 ^ 4 := by
  rw [show (2 ^ 64 - 16 : Nat) = (2 ^ 60 - 1) * 2 ^ 4 by decide]
  refine Nat.eq_of_testBit_eq fun i => ?_
  rw [Nat.testBit_and, Nat.testBit_mul_two_pow, Nat.testBit_mul_two_pow, Nat.testBit_two_pow_sub_one, Nat.testBit_div_two_pow]
  by_cases c : 4 ≤ i
  · rw [show i - 4 + 4 = i by omega]
    by_cases d : i < 64
    · rw [show decide (i - 4 < 60) = true by simp; omega]
      simp [c]
    · rw [show n.testBit i = false from Nat.testBit_lt_two_pow (Nat.lt_of_lt_of_le h (Nat.pow_le_pow_right (by omega) (by omega)))]
      simp
  · simp [c]
theorem hasF15 (w : Int) (hw : i64 w) : hasF 15 w = btw w 0 15 := by
  unfold i64 at hw
  unfold hasF
  have e : bits .andNot .i64 w 15 = IntKind.i64.wrap ((BitVec.ofInt 64 w &&& ~~~ BitVec.ofInt 64 15).toNat : Int) := rfl
  rw [e, BitVec.toNat_and, show (~~~ BitVec.ofInt 64 15).toNat = 2 ^ 64 - 16 by decide]
  have hlt := (BitVec.ofInt 64 w).isLt
  rw [nat_high _ hlt]
  have hxn : ((BitVec.ofInt 64 w).toNat : Int) = w % 18446744073709551616 := by rw [BitVec.toNat_ofInt]; omega
  generalize (BitVec.ofInt 64 w).toNat = x at *
  rw [Bool.eq_iff_iff, btw_iff, beq_iff_eq]
  simp only [IntKind.wrap, IntKind.bits, IntKind.signed]
  constructor
  · intro h
    have : x / 2 ^ 4 * 2 ^ 4 = 0 := by
      simp at h
      omega
    omega
  · rintro ⟨h1, h2⟩
    have : x / 2 ^ 4 * 2 ^ 4 = 0 := by omega
    rw [this]
    decide
/-! All of it over plain numbers. -/
def hasN (p f : Nat) : Bool := p / f % 2 == 1
def outP (p w : Nat) (b : Bool) : Nat :=
  (if hasN p 1 && (hasN w 1 || b) then 1 else 0) + (if hasN p 2 && (hasN w 2 || b) then 2 else 0) + (if hasN p 4 && (hasN w 4 || b) then 4 else 0) + (if hasN p 8 && (hasN w 8 || b) then 8 else 0)
def specN (p k w : Nat) : Nat × Bool :=
  if (hasN p 16 != decide (k = 6)) then (0, false) else
  if decide (0 < needN k) && !hasN p (needN k) then (0, false) else (andN (outP p w (allN k)) k (hasN p 64) (hasN p 128), true)
def tripN (k x : Nat) : Nat × Nat × Nat × Bool :=
  if x = 0 then (match k with | 1 => (0, 0, 0, true) | 2 => (1, 0, 64, true) | 3 => (2, 0, 128, true) | 4 => (4, 15, 0, true) | 5 => (8, 0, 16, true) | _ => (0, 0, 0, false))
  else if x = 16 then (match k with | 6 => (0, 15, 0, true) | _ => (0, 0, 0, false)) else (0, 0, 0, false)
def implN (p k w : Nat) : Nat × Bool :=
  let t := tripN k (p &&& 16)
  if t.2.2.2 && (t.1 &&& (255 - p)) == 0 then ((p &&& ((w ||| t.2.1) ||| 192)) ||| t.2.2.1, true) else (0, false)
theorem same_tab : ∀ p < 256, ∀ w < 16, ∀ k < 7, implN p k w = (if k = 0 then (0, false) else specN p k w) := by decide +kernel
end Go.Proofs.Ytcilgmofhkpkpaa
