/- The laws of RestOk, Entails and Permits, step by step. -/
import Derived.Test.YtbbaddcldoflfaaRest2
import Derived.Test.YtbbaddcldoflfaaRest3
set_option linter.unusedVariables false
namespace Go.Proofs.Ytbbaddcldoflfaa
open Go Go.RowKit

/-- The box of one rest. -/
structure One (s : Nat) (a b c : Int) (W : World) : Prop where
  a : W.cell? ⟨s, 0, none⟩ = some (.int .i64 a)
  b : W.cell? ⟨s, 1, none⟩ = some (.int .i64 b)
  c : W.cell? ⟨s, 2, none⟩ = some (.int .i64 c)
theorem One.later {s : Nat} {a b c : Int} {W W' : World} (h : One s a b c W) (hb : Below W.heap.size W W') (hs : s + 1 ≤ W.heap.size) : One s a b c W' :=
  ⟨(hb.cell (p := ⟨s, 0, none⟩) (show s < _ by omega)).trans h.a, (hb.cell (p := ⟨s, 1, none⟩) (show s < _ by omega)).trans h.b, (hb.cell (p := ⟨s, 2, none⟩) (show s < _ by omega)).trans h.c⟩

theorem bits_nat (x y : Nat) (hx : x < 2 ^ 63) (hy : y < 2 ^ 63) : bits .and .i64 (x : Int) (y : Int) = ((x &&& y : Nat) : Int) := by
  have e : bits .and .i64 (x : Int) (y : Int) = IntKind.i64.wrap ((BitVec.ofInt 64 x &&& BitVec.ofInt 64 y).toNat : Int) := rfl
  have h1 : x &&& y ≤ x := Nat.and_le_left
  rw [e, IntKind.wrap_i64, BitVec.toNat_and]
  have ex : (BitVec.ofInt 64 (x : Int)).toNat = x := by
    rw [BitVec.ofInt_natCast, BitVec.toNat_ofNat]; exact Nat.mod_eq_of_lt (by omega)
  have ey : (BitVec.ofInt 64 (y : Int)).toNat = y := by
    rw [BitVec.ofInt_natCast, BitVec.toNat_ofNat]; exact Nat.mod_eq_of_lt (by omega)
  rw [ex, ey]
  omega
/-- A bit of a number that isn't below 0, by its place. -/
theorem hasB_nat (n : Nat) (i : Int) (hn : n ≤ 255) : hasB (n : Int) i = (decide (0 ≤ i) && n.testBit i.toNat) := by
  unfold hasB
  have e1 : ∀ m : Nat, (n : Int) / 2 ^ m = ((n / 2 ^ m : Nat) : Int) := fun m => by simp
  have h2 : n / 2 ^ min i.toNat 64 ≤ n := Nat.div_le_self _ _
  rw [e1, show (1 : Int) = ((1 : Nat) : Int) from rfl, bits_nat _ 1 (by omega) (by omega)]
  congr 1
  have e3 : n.testBit (min i.toNat 64) = n.testBit i.toNat := by
    by_cases h : i.toNat ≤ 64
    · rw [Nat.min_eq_left h]
    · rw [Nat.min_eq_right (by omega), Nat.testBit_lt_two_pow (by omega), Nat.testBit_lt_two_pow (by
        have : 2 ^ 64 ≤ 2 ^ i.toNat := Nat.pow_le_pow_right (by omega) (by omega)
        omega)]
  rw [← e3, Nat.testBit_eq_decide_div_mod_eq, Nat.and_one_is_mod]
  generalize n / 2 ^ min i.toNat 64 % 2 = m
  by_cases hm : m = 1
  · subst hm; rfl
  · have : ((m : Int) == ((1 : Nat) : Int)) = false := by simp; omega
    rw [this]; simp [hm]
theorem inB_iff (n g : Int) : inB n g = true ↔ 0 ≤ n ∧ n ≤ g := by unfold inB; simp
theorem rOk_iff (a b c : Int) : rOk a b c = true ↔ (0 ≤ a ∧ a ≤ 7) ∧ (0 ≤ b ∧ b ≤ 255) ∧ (0 ≤ c ∧ c ≤ 100000) := by
  unfold rOk; rw [Bool.and_eq_true, Bool.and_eq_true, inB_iff, inB_iff, inB_iff]
theorem per_same (a b c s o n : Int) : perS a b c s o n = (rOk a b c && perB a b c s o n) := by
  unfold perS perB
  by_cases h : rOk a b c = true
  · obtain ⟨⟨a0, a7⟩, ⟨b0, b7⟩, _⟩ := (rOk_iff a b c).1 h
    obtain ⟨A, rfl⟩ := Int.eq_ofNat_of_zero_le a0
    obtain ⟨B, rfl⟩ := Int.eq_ofNat_of_zero_le b0
    rw [h]
    simp only [Bool.true_and]
    have hs : inB s 2 = false → hasB (A : Int) s = false := by
      intro hs
      rw [hasB_nat A s (by omega)]
      by_cases s0 : 0 ≤ s
      · have : ¬ s ≤ 2 := fun h2 => by rw [(inB_iff s 2).2 ⟨s0, h2⟩] at hs; cases hs
        rw [Nat.testBit_lt_two_pow (by
          have : 2 ^ 3 ≤ 2 ^ s.toNat := Nat.pow_le_pow_right (by omega) (by omega)
          omega)]
        simp
      · rw [show decide (0 ≤ s) = false by simp; omega]; rfl
    have ho : inB o 7 = false → hasB (B : Int) o = false := by
      intro ho
      rw [hasB_nat B o (by omega)]
      by_cases o0 : 0 ≤ o
      · have : ¬ o ≤ 7 := fun h2 => by rw [(inB_iff o 7).2 ⟨o0, h2⟩] at ho; cases ho
        rw [Nat.testBit_lt_two_pow (by
          have : 2 ^ 8 ≤ 2 ^ o.toNat := Nat.pow_le_pow_right (by omega) (by omega)
          omega)]
        simp
      · rw [show decide (0 ≤ o) = false by simp; omega]; rfl
    cases hi : inB s 2 with
    | false => rw [hs hi]; rfl
    | true =>
      cases hj : inB o 7 with
      | false => rw [ho hj]; simp
      | true => rfl
  · rw [Bool.not_eq_true] at h
    rw [h]; rfl
end Go.Proofs.Ytbbaddcldoflfaa
