/- The marks' text. -/
import Derived.Test.YtpfonadpojcnnaaDoorBase
set_option linter.unusedVariables false
set_option maxRecDepth 100000
namespace Go.Proofs.YtpfonadpojcnnaaDoor
open Go Go.RowKit
/-- 'string([]byte{x})'. -/
theorem conv_one {P : Program} (src dst e : TypeId) (hs : P.underlying src = some (.slice e)) (he : P.underlying e = some (.int .u8)) (hd : P.underlying dst = some .string)
    (W : World) (x : Int) :
    (convert src dst (.slice (some ⟨W.heap.size, 0, none⟩) 1 1)).run P (W.alloc (.cells #[.int .u8 x] e)) = .ok (.string ⟨#[UInt8.ofNat x.toNat]⟩) (W.alloc (.cells #[.int .u8 x] e)) := by
  rw [run_convert_bytes_string _ src dst e _ 1 1 hs he hd]
  have hl := run_loadCells_list (P := P) (W.alloc (.cells #[.int .u8 x] e)) ⟨W.heap.size, 0, none⟩ [Value.int .u8 x] (fun j v hj => by
    match j, hj with
    | 0, hj => simp at hj; subst hj; simp [Addr.add])
  rw [run_bytesToString _ _ 1 1 [x] (by simpa using hl)]
  rfl

/-- The digits of a number; of 0 none; so many at most. -/
def decF : Nat → Nat → List UInt8
  | 0, _ => []
  | f + 1, m => if m = 0 then [] else decF f (m / 10) ++ [UInt8.ofNat (48 + m % 10)]
theorem decF_zero (f : Nat) : decF f 0 = [] := by
  cases f with
  | zero => rfl
  | succ f => rw [decF, if_pos rfl]
theorem decF_same (f : Nat) : ∀ g m, m ≤ f → m ≤ g → decF f m = decF g m := by
  induction f with
  | zero =>
    intro g m h _
    obtain rfl : m = 0 := by omega
    rw [decF_zero, decF_zero]
  | succ f ih =>
    intro g m h1 h2
    cases g with
    | zero =>
      obtain rfl : m = 0 := by omega
      rw [decF_zero, decF_zero]
    | succ g =>
      rw [decF, decF]
      by_cases h : m = 0
      · rw [if_pos h, if_pos h]
      · rw [if_neg h, if_neg h, ih g (m / 10) (by omega) (by omega)]
def decP (m : Nat) : List UInt8 := decF m m
theorem decP_zero : decP 0 = [] := rfl
theorem decP_pos (m : Nat) (h : m ≠ 0) : decP m = decP (m / 10) ++ [UInt8.ofNat (48 + m % 10)] := by
  unfold decP
  rw [decF_same m (m + 1) m (Nat.le_refl _) (by omega), decF, if_neg h, decF_same m (m / 10) (m / 10) (by omega) (Nat.le_refl _)]
theorem text_snoc (m : Nat) (t : List UInt8) (h : m ≠ 0) : decP m ++ t = decP (m / 10) ++ (UInt8.ofNat (48 + m % 10) :: t) := by
  rw [decP_pos m h]; simp
theorem text_add (b : UInt8) (t : List UInt8) : (⟨#[b]⟩ : ByteArray) ++ ⟨t.toArray⟩ = ⟨(b :: t).toArray⟩ := by
  rw [ByteArray.mk_append_mk [b]]; rfl
/-- A mark. -/
def mt (k : Nat) : ByteArray := ⟨(109 :: decP k).toArray⟩

set_option maxRecDepth 100000 in
set_option maxHeartbeats 800000 in
theorem markText_is (n : Nat) (w : World) (h0 : n ≠ 0) (h : n ≤ 1000000) :
    Calls Tryd.prog 13 #[.int .i64 n] w fun e w' => e = .returned (.string (mt n)) ∧ Below w.heap.size w w' := by
  have hz : ¬ (n : Int) ≤ 0 := by omega
  have hcv := conv_one (P := Tryd.prog) 68 9 5 Tryd.underlying68 Tryd.underlying5 Tryd.underlying9
  go_enter Tryd.func13, Tryd.ntmps13
  go_wp2
  go_loopw [0, 3] (fun a t wr => ∃ (q : Nat) (l : List UInt8), a = .int .i64 q ∧ q ≤ n ∧ t = .string ⟨l.toArray⟩ ∧ l.length + q ≤ n ∧ Hid (decP q ++ l = decP n) ∧ Below w.heap.size w wr) (fun a _ _ => (intOf a).toNat)
  case atStart => exact ⟨n, [], rfl, by omega, rfl, by simp, by show _ = _; simp, Below.refl _ _⟩
  case round =>
    obtain ⟨q, l, rfl, hq, rfl, hl, E, hbel⟩ := hrel
    by_cases h1 : q = 0
    · have hz1 : ¬ (0 : Int) < (q : Int) := by omega
      have E' : Hid ((⟨#[109]⟩ : ByteArray) ++ ⟨l.toArray⟩ = mt n) := by
        have := E.out; rw [h1, decP_zero, List.nil_append] at this
        show _ = _
        rw [text_add, this]; rfl
      clear h1
      go_wp2
      go_ret
      rw [← E'.out]; exact ⟨rfl, hbel⟩
    · have hz1 : (0 : Int) < (q : Int) := by omega
      have E' : Hid (decP (q / 10) ++ (UInt8.ofNat (48 + q % 10) :: l) = decP n) := by have := E.out; rw [text_snoc q l h1] at this; exact this
      have e8 : Hid ((48 : UInt8) + UInt8.ofNat (q % 10) = UInt8.ofNat (48 + q % 10)) := (UInt8.ofNat_add 48 (q % 10)).symm
      clear E
      go_wp2
      go_roundw
      case rel => exact ⟨q / 10, _, by go_num, by omega, by rw [text_add, e8.out], by simp; omega, E', hbel.alloc hbel.size _⟩
      case measure => simp [intOf]; omega
end Go.Proofs.YtpfonadpojcnnaaDoor
