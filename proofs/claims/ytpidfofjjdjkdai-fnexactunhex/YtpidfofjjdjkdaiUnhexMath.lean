/- Plain mathematics for Unhex: which pairs are digits, and the bytes that they say. -/
import Derived.Test.YtpidfofjjdjkdaiHexMath
import Derived.Lib.Bytealg
namespace Go.Proofs.Ytpidfofjjdjkdai.Hex
open Own

/-- The digit that a byte is, or -1. -/
def dI (b : UInt8) : Int := Lib.indexByte signs b
theorem indexByte_lt (l : List UInt8) (c : UInt8) : Lib.indexByte l c < l.length ∨ Lib.indexByte l c = -1 := by
  induction l with
  | nil => exact Or.inr rfl
  | cons b l ih =>
    unfold Lib.indexByte
    split
    · left; simp only [List.length_cons]; omega
    · split
      · exact Or.inr rfl
      · rename_i h
        left
        simp only [List.length_cons]
        rcases ih with ih | ih
        · omega
        · simp [ih] at h
theorem dI_bd (b : UInt8) : -1 ≤ dI b ∧ dI b ≤ 15 := by
  have h1 := Lib.indexByte_ge signs b
  have h2 := indexByte_lt signs b
  have h3 : signs.length = 16 := rfl
  unfold dI
  omega
/-- The digit at place i. -/
def dAt (s : ByteArray) (i : Nat) : Int := dI (s.data.toList.getD i 0)
theorem dAt_eq (s : ByteArray) (i : Nat) (h : i < s.size) : dI s[i] = dAt s i := by
  have hl : i < s.data.toList.length := h
  unfold dAt
  rw [List.getD_eq_getElem?_getD, List.getElem?_eq_getElem hl]
  rfl
/-- The pair j is two digits. -/
def good (s : ByteArray) (j : Nat) : Prop := 0 ≤ dAt s (2 * j) ∧ 0 ≤ dAt s (2 * j + 1)
def goodB (s : ByteArray) (j : Nat) : Bool := decide (0 ≤ dAt s (2 * j)) && decide (0 ≤ dAt s (2 * j + 1))
theorem goodB_iff (s : ByteArray) (j : Nat) : goodB s j = true ↔ good s j := by simp [goodB, good]
/-- What the first j pairs say. -/
def outL (s : ByteArray) (j : Nat) : List UInt8 := (List.range j).map fun i => UInt8.ofNat (16 * dAt s (2 * i) + dAt s (2 * i + 1)).toNat
theorem outL_succ (s : ByteArray) (j : Nat) : outL s (j + 1) = outL s j ++ [UInt8.ofNat (16 * dAt s (2 * j) + dAt s (2 * j + 1)).toNat] := by
  simp [outL, List.range_succ]
theorem outL_len (s : ByteArray) (j : Nat) : (outL s j).length = j := by simp [outL]
theorem push_out (s : ByteArray) (j : Nat) (h : good s j) : bytesOf (outL s j) ++ [Value.int .u8 (16 * dAt s (2 * j) + dAt s (2 * j + 1))] = bytesOf (outL s (j + 1)) := by
  have h1 := dI_bd (s.data.toList.getD (2 * j) 0)
  have h2 := dI_bd (s.data.toList.getD (2 * j + 1) 0)
  obtain ⟨g1, g2⟩ := h
  unfold dAt at g1 g2
  rw [outL_succ, bytesOf_append]
  simp only [bytesOf, List.map_cons, List.map_nil]
  have e : (((UInt8.ofNat (16 * dAt s (2 * j) + dAt s (2 * j + 1)).toNat).toNat : Nat) : Int) = 16 * dAt s (2 * j) + dAt s (2 * j + 1) := by
    unfold dAt
    generalize dI (s.data.toList.getD (2 * j) 0) = x at *
    generalize dI (s.data.toList.getD (2 * j + 1) 0) = y at *
    rw [UInt8.toNat_ofNat_of_lt' (by show _ < 256; omega)]
    omega
  rw [e]
theorem good_succ (s : ByteArray) (j : Nat) (G : ∀ j', j' < j → good s j') (g : good s j) : ∀ j', j' < j + 1 → good s j' := by
  intro j' h
  by_cases e : j' = j
  · rw [e]; exact g
  · exact G j' (by omega)
/-- Whether s is digits in pairs, all of it. -/
def allGood (s : ByteArray) : Prop := s.size % 2 = 0 ∧ ∀ j, j < s.size / 2 → good s j
def allGoodB (s : ByteArray) : Bool := decide (s.size % 2 = 0) && (List.range (s.size / 2)).all fun j => goodB s j
theorem allGoodB_iff (s : ByteArray) : allGoodB s = true ↔ allGood s := by
  unfold allGoodB allGood
  rw [Bool.and_eq_true, decide_eq_true_eq, List.all_eq_true]
  constructor
  · rintro ⟨h1, h2⟩
    exact ⟨h1, fun j hj => (goodB_iff s j).1 (h2 j (List.mem_range.2 hj))⟩
  · rintro ⟨h1, h2⟩
    exact ⟨h1, fun j hj => (goodB_iff s j).2 (h2 j (List.mem_range.1 hj))⟩
/-- What Unhex answers. -/
def unhexT (s : ByteArray) : ByteArray := if allGoodB s then ⟨(outL s (s.size / 2)).toArray⟩ else ⟨#[]⟩
def unhexB (s : ByteArray) : Bool := allGoodB s
theorem unhex_yes (s : ByteArray) (h : allGood s) : unhexT s = ⟨(outL s (s.size / 2)).toArray⟩ ∧ unhexB s = true := ⟨if_pos ((allGoodB_iff s).2 h), (allGoodB_iff s).2 h⟩
theorem unhex_no (s : ByteArray) (h : ¬ allGood s) : unhexT s = ⟨#[]⟩ ∧ unhexB s = false := by
  have hb : allGoodB s = false := by
    cases hh : allGoodB s with
    | false => rfl
    | true => exact absurd ((allGoodB_iff s).1 hh) h
  unfold unhexT unhexB
  rw [hb]
  exact ⟨rfl, rfl⟩
end Go.Proofs.Ytpidfofjjdjkdai.Hex
