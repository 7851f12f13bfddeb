/- Plain mathematics for the chapter on numbers: what the bytes of a big-endian number say. -/
import Derived.WalkKit
import Derived.Laws.BitsAllLaws
namespace Go.Proofs.Ytkfjpgkpmdbnoaa.Num

/-- The number that bytes say, the greatest first. -/
def rf (l : List UInt8) : Int := l.foldl (fun n b => n * 256 + (b.toNat : Int)) 0

theorem rf_nil : rf [] = 0 := rfl
theorem rf_snoc (l : List UInt8) (b : UInt8) : rf (l ++ [b]) = rf l * 256 + (b.toNat : Int) := by
  simp [rf, List.foldl_append]

theorem rf_bd_rev (l : List UInt8) : 0 ≤ rf l.reverse ∧ rf l.reverse < ((256 ^ l.length : Nat) : Int) := by
  induction l with
  | nil => exact ⟨Int.le_refl _, by decide⟩
  | cons b l ih =>
    have hb := b.toNat_lt
    rw [List.reverse_cons, rf_snoc, List.length_cons, Nat.pow_succ]
    generalize 256 ^ l.length = q at ih
    omega
theorem rf_bd (l : List UInt8) : 0 ≤ rf l ∧ rf l < ((256 ^ l.length : Nat) : Int) := by
  have := rf_bd_rev l.reverse
  rwa [List.reverse_reverse, List.length_reverse] at this

theorem rf_le (l : List UInt8) (h : l.length ≤ 6) : 0 ≤ rf l ∧ rf l ≤ 281474976710655 := by
  have h1 := rf_bd l
  have h2 : 256 ^ l.length ≤ 256 ^ 6 := Nat.pow_le_pow_right (by omega) h
  have h3 : 256 ^ 6 = 281474976710656 := by decide
  rw [h3] at h2
  generalize 256 ^ l.length = q at *
  omega

theorem take_snoc (s : ByteArray) (k : Nat) (h : k < s.size) : s.data.toList.take (k + 1) = s.data.toList.take k ++ [s[k]] := by
  rw [List.take_succ_eq_append_getElem (by simpa using h)]; rfl

theorem rf_step (s : ByteArray) (k : Nat) (h : k < s.size) : rf (s.data.toList.take (k + 1)) = rf (s.data.toList.take k) * 256 + (s[k].toNat : Int) := by
  rw [take_snoc s k h, rf_snoc]

theorem rf_take_le (s : ByteArray) (k : Nat) (h : k ≤ 6) : 0 ≤ rf (s.data.toList.take k) ∧ rf (s.data.toList.take k) ≤ 281474976710655 :=
  rf_le _ (by have := List.length_take_le k s.data.toList; omega)

theorem wrap_i64_small (n : Nat) (h : n < 9223372036854775808) : IntKind.i64.wrap (n : Int) = (n : Int) := by
  rw [IntKind.wrap_i64]
  omega

/-- A byte laid behind a number that was shifted by eight. -/
theorem or_byte (x : Int) (b : Nat) (h0 : 0 ≤ x) (h1 : x ≤ 281474976710655) (hb : b < 256) : bits .or .i64 (x * 256) (b : Int) = x * 256 + (b : Int) := by
  obtain ⟨X, rfl⟩ := Int.eq_ofNat_of_zero_le h0
  have e : ((X : Int) * 256) = ((X * 256 : Nat) : Int) := by omega
  rw [e]
  show IntKind.i64.wrap ((BitVec.ofInt 64 ((X * 256 : Nat) : Int) ||| BitVec.ofInt 64 (b : Int)).toNat : Int) = _
  rw [BitVec.toNat_or, ofInt_u64 _ (by omega), ofInt_u64 b (by omega), nat_join 8 (X * 256) b (by omega) (by omega)]
  rw [wrap_i64_small _ (by omega)]
  omega
end Go.Proofs.Ytkfjpgkpmdbnoaa.Num
