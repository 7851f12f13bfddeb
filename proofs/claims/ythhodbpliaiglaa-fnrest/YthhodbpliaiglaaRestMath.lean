/- Rests: what meets, entails and permits have to do with each other. -/
import Derived.Test.YthhodbpliaiglaaWalks
set_option linter.unusedVariables false
namespace Go.Proofs.Ythhodbpliaiglaa
open Go Go.RowKit

theorem andI_nat (A B : Nat) (hA : A ≤ 255) (hB : B ≤ 255) : andI (A : Int) (B : Int) = ((A &&& B : Nat) : Int) := bits_nat A B (by omega) (by omega)
theorem and_idem (A B : Nat) : (A &&& B) &&& A = A &&& B := by rw [Nat.and_comm A B, Nat.and_assoc, Nat.and_self]
theorem and_idem2 (A B : Nat) : (A &&& B) &&& B = A &&& B := by rw [Nat.and_assoc, Nat.and_self]

/-- What is shown of two right rests and what they meet in. -/
theorem rest_facts {a b c x y z : Int} (h : rOk a b c = true) (k : rOk x y z = true) :
    rOk (andI a x) (andI b y) (min c z) = true ∧ entB (andI a x) (andI b y) (min c z) a b c = true ∧ entB (andI a x) (andI b y) (min c z) x y z = true ∧
    (mA x y z a b c = andI a x ∧ mB x y z a b c = andI b y ∧ mC x y z a b c = min c z) ∧
    (mA (andI a x) (andI b y) (min c z) a b c = andI a x ∧ mB (andI a x) (andI b y) (min c z) a b c = andI b y ∧ mC (andI a x) (andI b y) (min c z) a b c = min c z) ∧
    entB a b c x y z = (andI a x == a && (andI b y == b && min c z == c)) ∧
    ∀ s o n, (rOk (andI a x) (andI b y) (min c z) && perB (andI a x) (andI b y) (min c z) s o n) = ((rOk a b c && perB a b c s o n) && (rOk x y z && perB x y z s o n)) := by
  obtain ⟨⟨a0, a7⟩, ⟨b0, b7⟩, c0, c9⟩ := (rOk_iff a b c).1 h
  obtain ⟨⟨x0, x7⟩, ⟨y0, y7⟩, z0, z9⟩ := (rOk_iff x y z).1 k
  obtain ⟨A, rfl⟩ := Int.eq_ofNat_of_zero_le a0
  obtain ⟨B, rfl⟩ := Int.eq_ofNat_of_zero_le b0
  obtain ⟨X, rfl⟩ := Int.eq_ofNat_of_zero_le x0
  obtain ⟨Y, rfl⟩ := Int.eq_ofNat_of_zero_le y0
  have eA := andI_nat A X (by omega) (by omega)
  have eB := andI_nat B Y (by omega) (by omega)
  have lA : A &&& X ≤ A := Nat.and_le_left
  have lB : B &&& Y ≤ B := Nat.and_le_left
  have hm : rOk (andI A X) (andI B Y) (min c z) = true := by
    rw [rOk_iff, eA, eB]
    refine ⟨⟨by omega, by omega⟩, ⟨by omega, by omega⟩, by omega, by omega⟩
  have f1 : andI (andI A X) A = andI A X := by rw [eA, andI_nat _ A (by omega) (by omega), and_idem]
  have f2 : andI (andI B Y) B = andI B Y := by rw [eB, andI_nat _ B (by omega) (by omega), and_idem]
  have f3 : andI (andI A X) X = andI A X := by rw [eA, andI_nat _ X (by omega) (by omega), and_idem2]
  have f4 : andI (andI B Y) Y = andI B Y := by rw [eB, andI_nat _ Y (by omega) (by omega), and_idem2]
  have f5 : andI X A = andI A X := by rw [eA, andI_nat X A (by omega) (by omega), Nat.and_comm]
  have f6 : andI Y B = andI B Y := by rw [eB, andI_nat Y B (by omega) (by omega), Nat.and_comm]
  have m1 : min c z ≤ c := Int.min_le_left _ _
  have m2 : min c z ≤ z := Int.min_le_right _ _
  refine ⟨hm, ?_, ?_, ⟨?_, ?_, ?_⟩, ⟨?_, ?_, ?_⟩, ?_, ?_⟩
  · unfold entB; rw [hm, h, f1, f2]; simp; omega
  · unfold entB; rw [hm, k, f3, f4]; simp; omega
  · unfold mA; rw [h, k, f5]; rfl
  · unfold mB; rw [h, k, f6]; rfl
  · unfold mC; rw [h, k, Int.min_comm]; rfl
  · unfold mA; rw [hm, h, f1]; rfl
  · unfold mB; rw [hm, h, f2]; rfl
  · unfold mC; rw [hm, h, Int.min_eq_left m1]; rfl
  · unfold entB
    rw [h, k]
    have : decide (c ≤ z) = (min c z == c) := by
      by_cases g : c ≤ z
      · rw [Int.min_eq_left g]; simp [g]
      · rw [Int.min_eq_right (by omega), show decide (c ≤ z) = false by simpa using g, show (z == c) = false by simp; omega]
    rw [this]; rfl
  · intro s o n
    rw [hm, h, k]
    simp only [Bool.true_and]
    unfold perB
    rw [eA, eB, hasB_nat _ s (by omega), hasB_nat _ o (by omega), hasB_nat A s (by omega), hasB_nat B o (by omega), hasB_nat X s (by omega), hasB_nat Y o (by omega), Nat.testBit_and, Nat.testBit_and]
    have hn : inB n (min c z) = (inB n c && inB n z) := by
      rw [Bool.eq_iff_iff, Bool.and_eq_true, inB_iff, inB_iff, inB_iff]
      omega
    rw [hn]
    cases decide (0 ≤ s) <;> cases decide (0 ≤ o) <;> cases A.testBit s.toNat <;> cases X.testBit s.toNat <;> cases B.testBit o.toNat <;> cases Y.testBit o.toNat <;> cases inB n c <;> cases inB n z <;> rfl
end Go.Proofs.Ythhodbpliaiglaa
