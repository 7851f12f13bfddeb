/- Plain mathematics for Var: seven bits a byte, the lowest first. -/
import Derived.Test.YtkfjpgkpmdbnoaaOwn
namespace Go.Proofs.Ytkfjpgkpmdbnoaa.Var
open Own

/-- The bytes that Var makes of n; so many bytes at most. -/
def varF : Nat → Nat → List UInt8
  | 0, n => [UInt8.ofNat n]
  | f + 1, n => if n < 128 then [UInt8.ofNat n] else UInt8.ofNat (128 + n % 128) :: varF f (n / 128)
theorem varF_zero (f : Nat) : varF f 0 = [UInt8.ofNat 0] := by
  cases f with
  | zero => rfl
  | succ f => rw [varF, if_pos (by omega)]
theorem varF_same (f : Nat) : ∀ g n, n ≤ f → n ≤ g → varF f n = varF g n := by
  induction f with
  | zero =>
    intro g n h _
    obtain rfl : n = 0 := by omega
    rw [varF_zero, varF_zero]
  | succ f ih =>
    intro g n h1 h2
    cases g with
    | zero =>
      obtain rfl : n = 0 := by omega
      rw [varF_zero, varF_zero]
    | succ g =>
      rw [varF, varF]
      by_cases h : n < 128
      · rw [if_pos h, if_pos h]
      · rw [if_neg h, if_neg h, ih g (n / 128) (by omega) (by omega)]
def varB (n : Nat) : List UInt8 := varF n n

theorem varB_small (n : Nat) (h : n < 128) : varB n = [UInt8.ofNat n] := by
  unfold varB
  rw [varF_same n (n + 1) n (Nat.le_refl _) (by omega), varF, if_pos h]
theorem varB_great (n : Nat) (h : ¬ n < 128) : varB n = UInt8.ofNat (128 + n % 128) :: varB (n / 128) := by
  unfold varB
  rw [varF_same n (n + 1) n (Nat.le_refl _) (by omega), varF, if_neg h, varF_same n (n / 128) (n / 128) (by omega) (Nat.le_refl _)]

theorem varB_len (k : Nat) : ∀ n, n < 128 ^ (k + 1) → (varB n).length ≤ k + 1 := by
  induction k with
  | zero => intro n h; rw [varB_small n (by simpa using h)]; simp
  | succ k ih =>
    intro n h
    by_cases h1 : n < 128
    · rw [varB_small n h1]; simp
    · rw [varB_great n h1]
      have := ih (n / 128) (by rw [Nat.pow_succ] at h; omega)
      simp only [List.length_cons]; omega
theorem varB_seven (n : Nat) (h : n ≤ 562949953421311) : (varB n).length ≤ 7 :=
  varB_len 6 n (by have : 128 ^ (6 + 1) = 562949953421312 := by decide
                   omega)
theorem varB_pos (n : Nat) : 1 ≤ (varB n).length := by
  by_cases h : n < 128
  · rw [varB_small n h]; simp
  · rw [varB_great n h]; simp

theorem push_great (l : List UInt8) (m : Nat) : bytesOf l ++ [Value.int .u8 (128 + (m : Int) % 128)] = bytesOf (l ++ [UInt8.ofNat (128 + m % 128)]) := by
  rw [bytesOf_append]
  simp [bytesOf]
  omega
theorem push_small (l : List UInt8) (m : Nat) (h : m < 128) : bytesOf l ++ [Value.int .u8 (m : Int)] = bytesOf (l ++ [UInt8.ofNat m]) := by
  rw [bytesOf_append]
  simp [bytesOf]
  omega
end Go.Proofs.Ytkfjpgkpmdbnoaa.Var
