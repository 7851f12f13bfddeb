/- How the laws mark a row that was handed out, and look whether it still bears the marks. -/
import Derived.Test.YtaeecaebjafnpaaParts
set_option linter.unusedVariables false
namespace Go.Proofs.Ytaeecaebjafnpaa
open Go.RowKit Own Var Term

/-- The digits of a number; of 0 none; so many at most. -/
def decF : Nat → Nat → List UInt8
  | 0, _ => []
  | f + 1, m => if m = 0 then [] else decF f (m / 10) ++ [UInt8.ofNat (48 + m % 10)]
theorem decF_zero (f : Nat) : decF f 0 = [] := by
  cases f with
  | zero => rfl
  | succ f => rw [decF, if_pos rfl]
theorem decF_same (f : Nat) : ∀ g m, m ≤ f → m ≤ g → decF f m = decF g m := by
  induction f with
  | zero =>
    intro g m h _
    obtain rfl : m = 0 := by omega
    rw [decF_zero, decF_zero]
  | succ f ih =>
    intro g m h1 h2
    cases g with
    | zero =>
      obtain rfl : m = 0 := by omega
      rw [decF_zero, decF_zero]
    | succ g =>
      rw [decF, decF]
      by_cases h : m = 0
      · rw [if_pos h, if_pos h]
      · rw [if_neg h, if_neg h, ih g (m / 10) (by omega) (by omega)]
def decP (m : Nat) : List UInt8 := decF m m
theorem decP_zero : decP 0 = [] := rfl
theorem decP_pos (m : Nat) (h : m ≠ 0) : decP m = decP (m / 10) ++ [UInt8.ofNat (48 + m % 10)] := by
  unfold decP
  rw [decF_same m (m + 1) m (Nat.le_refl _) (by omega), decF, if_neg h, decF_same m (m / 10) (m / 10) (by omega) (Nat.le_refl _)]
theorem text_snoc (m : Nat) (t : List UInt8) (h : m ≠ 0) : decP m ++ t = decP (m / 10) ++ (UInt8.ofNat (48 + m % 10) :: t) := by
  rw [decP_pos m h]; simp
theorem text_add (b : UInt8) (t : List UInt8) : (⟨#[b]⟩ : ByteArray) ++ ⟨t.toArray⟩ = ⟨(b :: t).toArray⟩ := by
  rw [ByteArray.mk_append_mk [b]]; rfl
/-- A mark. -/
def mt (k : Nat) : ByteArray := ⟨(109 :: decP k).toArray⟩

/-- The marks of a row. -/
def mtL (n : Nat) : List ByteArray := (List.range n).map fun i => mt (i + 1)
/-- The cells of a row of which the first k are marked. -/
def rowM (vs : List Value) (k : Nat) : List Value := strV (mtL k) ++ vs.drop k
theorem mtL_len (n : Nat) : (mtL n).length = n := by simp [mtL]
theorem rowM_zero (vs : List Value) : rowM vs 0 = vs := by simp [rowM, mtL, strV]
theorem rowM_full (vs : List Value) : rowM vs vs.length = strV (mtL vs.length) := by simp [rowM]
theorem rowM_len (vs : List Value) (k : Nat) (h : k ≤ vs.length) : (rowM vs k).length = vs.length := by
  unfold rowM strV; rw [List.length_append, List.length_map, mtL_len, List.length_drop]; omega
theorem rowM_set (vs : List Value) (k : Nat) (h : k < vs.length) : (rowM vs k).set k (.string (mt (k + 1))) = rowM vs (k + 1) := by
  unfold rowM strV
  rw [List.set_append_right _ _ (by rw [List.length_map, mtL_len]; exact Nat.le_refl _), List.length_map, mtL_len, Nat.sub_self, List.drop_eq_getElem_cons h]
  unfold mtL
  rw [List.range_succ, List.map_append, List.map_append, List.append_assoc]
  rfl

theorem parts_len (s : ByteArray) : (partsR s).1.length ≤ 12 := by
  unfold partsR
  cases hr : rk s 108 with
  | none => simp
  | some q =>
    obtain ⟨n, r⟩ := q
    obtain ⟨hn, E, hE⟩ := rk_list hr
    show (psL n r).length ≤ 12
    rw [psL_len n r E hE]
    exact hn
end Go.Proofs.Ytaeecaebjafnpaa
