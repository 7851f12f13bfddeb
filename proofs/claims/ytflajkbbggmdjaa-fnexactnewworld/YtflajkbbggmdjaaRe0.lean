/- Rests, acts, numbers. -/
import Derived.Test.YtflajkbbggmdjaaFl
import Derived.Test.YtflajkbbggmdjaaDraw
import Derived.Test.YtflajkbbggmdjaaMt
set_option linter.unusedVariables false
set_option maxRecDepth 100000
namespace Go.Proofs.Ytflajkbbggmdjaa
open Go Go.RowKit Go.Joins Own Draw

abbrev TI := Int
abbrev cI (p : TI) : List Value := [.int .i64 p]
abbrev vI (p : TI) : Value := .agg #[.int .i64 p]
theorem lI (p : TI) : (cI p).length = 1 := rfl
def gI (k0 i : Nat) : Value := .int .i64 ((k0 + i : Nat) : Int)
theorem gI_0 (k0 k m : Nat) (hm : m = k0 + k) : gI k0 k = .int .i64 ((m : Int)) := by
  subst hm
  unfold gI
  congr 1
abbrev TR := Int × Int × Int
abbrev cR (p : TR) : List Value := [.int .i64 p.1, .int .i64 p.2.1, .int .i64 p.2.2]
abbrev vR (p : TR) : Value := .agg #[.int .i64 p.1, .int .i64 p.2.1, .int .i64 p.2.2]
theorem lR (p : TR) : (cR p).length = 3 := rfl
abbrev TA := Int × Int × Int × Int × Int × Int × Int × Int × ByteArray
abbrev cA (p : TA) : List Value := [.int .i64 p.1, .int .i64 p.2.1, .int .i64 p.2.2.1, .int .i64 p.2.2.2.1, .int .i64 p.2.2.2.2.1, .int .i64 p.2.2.2.2.2.1, .int .i64 p.2.2.2.2.2.2.1, .int .i64 p.2.2.2.2.2.2.2.1, .string p.2.2.2.2.2.2.2.2]
abbrev vA (p : TA) : Value := .agg #[.int .i64 p.1, .int .i64 p.2.1, .int .i64 p.2.2.1, .int .i64 p.2.2.2.1, .int .i64 p.2.2.2.2.1, .int .i64 p.2.2.2.2.2.1, .int .i64 p.2.2.2.2.2.2.1, .int .i64 p.2.2.2.2.2.2.2.1, .string p.2.2.2.2.2.2.2.2]
theorem lA (p : TA) : (cA p).length = 9 := rfl
def gA (k0 i : Nat) : Value := if i % 9 = 8 then .string (mt (k0 + i)) else .int .i64 ((k0 + i : Nat) : Int)
theorem gA_0 (k0 k m : Nat) (hm : m = k0 + k * 9) : gA k0 (k * 9) = .int .i64 ((m : Int)) := by
  subst hm
  unfold gA
  rw [if_neg (by omega)]
theorem gA_1 (k0 k m : Nat) (hm : m = k0 + k * 9) : gA k0 (k * 9 + 1) = .int .i64 ((m : Int) + 1) := by
  subst hm
  unfold gA
  rw [if_neg (by omega)]
  congr 1
theorem gA_2 (k0 k m : Nat) (hm : m = k0 + k * 9) : gA k0 (k * 9 + 2) = .int .i64 ((m : Int) + 1 + 1) := by
  subst hm
  unfold gA
  rw [if_neg (by omega)]
  congr 1
theorem gA_3 (k0 k m : Nat) (hm : m = k0 + k * 9) : gA k0 (k * 9 + 3) = .int .i64 ((m : Int) + 1 + 1 + 1) := by
  subst hm
  unfold gA
  rw [if_neg (by omega)]
  congr 1
theorem gA_4 (k0 k m : Nat) (hm : m = k0 + k * 9) : gA k0 (k * 9 + 4) = .int .i64 ((m : Int) + 1 + 1 + 1 + 1) := by
  subst hm
  unfold gA
  rw [if_neg (by omega)]
  congr 1
theorem gA_5 (k0 k m : Nat) (hm : m = k0 + k * 9) : gA k0 (k * 9 + 5) = .int .i64 ((m : Int) + 1 + 1 + 1 + 1 + 1) := by
  subst hm
  unfold gA
  rw [if_neg (by omega)]
  congr 1
theorem gA_6 (k0 k m : Nat) (hm : m = k0 + k * 9) : gA k0 (k * 9 + 6) = .int .i64 ((m : Int) + 1 + 1 + 1 + 1 + 1 + 1) := by
  subst hm
  unfold gA
  rw [if_neg (by omega)]
  congr 1
theorem gA_7 (k0 k m : Nat) (hm : m = k0 + k * 9) : gA k0 (k * 9 + 7) = .int .i64 ((m : Int) + 1 + 1 + 1 + 1 + 1 + 1 + 1) := by
  subst hm
  unfold gA
  rw [if_neg (by omega)]
  congr 1
theorem gA_8 (k0 k m : Nat) (hm : m = k0 + k * 9) : gA k0 (k * 9 + 8) = .string (mt (m + 8)) := by
  subst hm
  unfold gA
  rw [if_pos (by omega)]
  rw [show k0 + (k * 9 + 8) = k0 + k * 9 + 8 by omega]
end Go.Proofs.Ytflajkbbggmdjaa
