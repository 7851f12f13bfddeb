/- Plain mathematics for Hex: two digits a byte. -/
import Derived.Test.YtpidfofjjdjkdabDoorOwn
import Derived.Test.YtpidfofjjdjkdabDoorNum
namespace Go.Proofs.YtpidfofjjdjkdabDoor.Hex
open Own

/-- The sixteen digits. -/
def signs : List UInt8 := [48, 49, 50, 51, 52, 53, 54, 55, 56, 57, 97, 98, 99, 100, 101, 102]
/-- The digit of a number below sixteen. -/
def hexD (d : Nat) : UInt8 := signs.getD d 0
theorem sign_at (d : Nat) (h : d < (⟨#[48, 49, 50, 51, 52, 53, 54, 55, 56, 57, 97, 98, 99, 100, 101, 102]⟩ : ByteArray).size) :
    ((⟨#[48, 49, 50, 51, 52, 53, 54, 55, 56, 57, 97, 98, 99, 100, 101, 102]⟩ : ByteArray)[d]'h) = hexD d := by
  have h16 : d < 16 := h
  show (signs.toArray[d]'_) = signs.getD d 0
  simp [signs, List.getD, h16]

/-- A byte as two digits. -/
def hexB (b : UInt8) : List UInt8 := [hexD (b.toNat / 16), hexD (b.toNat % 16)]
/-- A text in digits. -/
def hexL (l : List UInt8) : List UInt8 := l.flatMap hexB
theorem hexL_len (l : List UInt8) : (hexL l).length = 2 * l.length := by
  induction l with
  | nil => rfl
  | cons b l ih => simp only [hexL, List.flatMap_cons, List.length_append, List.length_cons] at *; simp [hexB] at *; omega
theorem hexL_snoc (l : List UInt8) (b : UInt8) : hexL (l ++ [b]) = hexL l ++ hexB b := by simp [hexL]
theorem hexL_step (s : ByteArray) (k : Nat) (h : k < s.size) : hexL (s.data.toList.take (k + 1)) = hexL (s.data.toList.take k) ++ hexB s[k] := by
  rw [Num.take_snoc s k h, hexL_snoc]
theorem hexL_take_len (s : ByteArray) (k : Nat) (h : k ≤ s.size) : (hexL (s.data.toList.take k)).length = 2 * k := by
  have e : s.data.toList.length = s.size := rfl
  rw [hexL_len, List.length_take]; omega
theorem push_hex (l : List UInt8) (b : UInt8) : bytesOf l ++ [Value.int .u8 ((hexD (b.toNat / 16)).toNat : Int), Value.int .u8 ((hexD (b.toNat % 16)).toNat : Int)] = bytesOf (l ++ hexB b) := by
  rw [bytesOf_append]; rfl
end Go.Proofs.YtpidfofjjdjkdabDoor.Hex
