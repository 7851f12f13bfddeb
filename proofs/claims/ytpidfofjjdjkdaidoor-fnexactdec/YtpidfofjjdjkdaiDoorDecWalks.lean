/- The walk of Dec: the document's model. -/
import Derived.Test.YtpidfofjjdjkdaiDoorRows
import Derived.Test.YtpidfofjjdjkdaiDoorDecMath
import Derived.WalkKit
import Derived.WalkSpells
import Derived.WalkLawsBesides
set_option linter.unusedVariables false
namespace Go.Proofs.YtpidfofjjdjkdaiDoor
open Go.RowKit Own Dec

theorem text_snoc (m : Nat) (t : List UInt8) (h : m ≠ 0) : decP m ++ t = decP (m / 10) ++ (UInt8.ofNat (48 + m % 10) :: t) := by
  rw [decP_pos m h]; simp
theorem text_add (b : UInt8) (t : List UInt8) : (⟨#[b]⟩ : ByteArray) ++ ⟨t.toArray⟩ = ⟨(b :: t).toArray⟩ := by
  rw [ByteArray.mk_append_mk [b]]; rfl

set_option maxRecDepth 100000 in
set_option maxHeartbeats 800000 in
theorem spec_dec_pos (n : Nat) (w : World) (h0 : n ≠ 0) (h : n ≤ 9223372036854775807) :
    Calls Tryd.prog 4 #[.int .i64 n] w fun e w' => e = .returned (.string ⟨(decP n).toArray⟩) ∧ Below w.heap.size w w' := by
  have hz : ((n : Int) == 0) = false := by simp; omega
  have hcv := conv_one (P := Tryd.prog) 24 9 5 Tryd.underlying24 Tryd.underlying5 Tryd.underlying9
  go_enter Tryd.func4, Tryd.ntmps4
  go_wp2
  go_loopw [0, 3, 5] (fun a t _ wr => ∃ (q : Nat) (l : List UInt8), a = .int .i64 q ∧ q ≤ n ∧ t = .string ⟨l.toArray⟩ ∧ l.length + q ≤ n ∧ Hid (decP q ++ l = decP n) ∧ Below w.heap.size w wr) (fun a _ _ _ => (intOf a).toNat)
  case atStart => exact ⟨n, [], rfl, by omega, rfl, by simp, by show _ = _; simp, Below.refl _ _⟩
  case round =>
    obtain ⟨q, l, rfl, hq, rfl, hl, E, hbel⟩ := hrel
    by_cases h1 : q = 0
    · have hz1 : ((q : Int) != 0) = false := by simp; omega
      have E' : Hid (l = decP n) := by have := E.out; rw [h1, decP_zero] at this; exact this
      clear h1
      go_wp2
      go_ret
      rw [E'.out]; exact ⟨rfl, hbel⟩
    · have hz1 : ((q : Int) != 0) = true := by simp; omega
      have E' : Hid (decP (q / 10) ++ (UInt8.ofNat (48 + q % 10) :: l) = decP n) := by have := E.out; rw [text_snoc q l h1] at this; exact this
      have e8 : Hid ((48 : UInt8) + UInt8.ofNat (q % 10) = UInt8.ofNat (48 + q % 10)) := (UInt8.ofNat_add 48 (q % 10)).symm
      clear E
      go_wp2
      go_roundw
      case rel => exact ⟨q / 10, _, by go_num, by omega, by rw [text_add, e8.out], by simp; omega, E', hbel.alloc hbel.size _⟩
      case measure => simp [intOf]; omega

set_option maxRecDepth 100000 in
set_option maxHeartbeats 800000 in
theorem spec_dec_neg (n : Nat) (w : World) (h0 : n ≠ 0) (h : n ≤ 9223372036854775808) :
    Calls Tryd.prog 4 #[.int .i64 (-(n : Int))] w fun e w' => e = .returned (.string ⟨(45 :: decP n).toArray⟩) ∧ Below w.heap.size w w' := by
  have hz : (-(n : Int) == 0) = false := by simp; omega
  have hng : -(n : Int) < 0 := by omega
  have hcv := conv_one (P := Tryd.prog) 24 9 5 Tryd.underlying24 Tryd.underlying5 Tryd.underlying9
  go_enter Tryd.func4, Tryd.ntmps4
  go_wp2
  go_loopw [0, 3, 5] (fun a t _ wr => ∃ (q : Nat) (l : List UInt8), a = .int .i64 (-(q : Int)) ∧ q ≤ n ∧ t = .string ⟨l.toArray⟩ ∧ Hid (decP q ++ l = decP n) ∧ Below w.heap.size w wr) (fun a _ _ _ => (-(intOf a)).toNat)
  case atStart => exact ⟨n, [], rfl, by omega, rfl, by show _ = _; simp, Below.refl _ _⟩
  case round =>
    obtain ⟨q, l, rfl, hq, rfl, E, hbel⟩ := hrel
    have hll : l.length ≤ 19 := by
      have h1 := congrArg List.length E.out
      have h2 := decP_19 n h
      rw [List.length_append] at h1
      omega
    by_cases h1 : q = 0
    · have hz1 : (-(q : Int) != 0) = false := by simp; omega
      have E' : Hid (l = decP n) := by have := E.out; rw [h1, decP_zero] at this; exact this
      clear h1
      go_wp2
      go_ret
      have e : (⟨#[45]⟩ : ByteArray) ++ ⟨l.toArray⟩ = ⟨(45 :: decP n).toArray⟩ := by rw [text_add, E'.out]
      rw [← e]; exact ⟨rfl, hbel⟩
    · have hz1 : (-(q : Int) != 0) = true := by simp; omega
      have E' : Hid (decP (q / 10) ++ (UInt8.ofNat (48 + q % 10) :: l) = decP n) := by have := E.out; rw [text_snoc q l h1] at this; exact this
      have t1 : (-(q : Int)).tmod 10 = -((q : Int) % 10) := by rw [Int.neg_tmod, Int.tmod_eq_emod_of_nonneg (by omega)]
      have t2 : (-(q : Int)).tdiv 10 = -((q : Int) / 10) := by rw [Int.neg_tdiv, Int.tdiv_eq_ediv_of_nonneg (by omega)]
      clear E
      obtain ⟨r, hr⟩ : ∃ r : Nat, q % 10 = r := ⟨_, rfl⟩
      have hr10 : r < 10 := by omega
      have t1' : (-(q : Int)).tmod 10 = -(r : Int) := by rw [t1]; omega
      rw [hr] at E'
      have e8 : Hid ((48 : UInt8) + UInt8.ofNat r = UInt8.ofNat (48 + r)) := (UInt8.ofNat_add 48 r).symm
      clear hr t1
      by_cases h2 : r = 0
      · subst h2
        go_wp2
        go_roundw
        case rel => exact ⟨q / 10, _, by go_num, by omega, by rw [text_add]; rfl, E', hbel.alloc hbel.size _⟩
        case measure => simp [intOf]; omega
      · have h3 : 0 < r := by omega
        go_wp2
        go_roundw
        case rel => exact ⟨q / 10, _, by go_num, by omega, by rw [text_add, e8.out], E', hbel.alloc hbel.size _⟩
        case measure => simp [intOf]; omega

set_option maxRecDepth 100000 in
theorem spec_dec_zero (w : World) :
    Calls Tryd.prog 4 #[.int .i64 0] w fun e w' => e = .returned (.string ⟨#[48]⟩) ∧ w' = w := by
  go_enter Tryd.func4, Tryd.ntmps4
  go_wp2
  go_ret
  exact ⟨rfl, rfl⟩

theorem spec_dec (n : Int) (w : World) (h1 : -9223372036854775808 ≤ n) (h2 : n ≤ 9223372036854775807) :
    Calls Tryd.prog 4 #[.int .i64 n] w fun e w' => e = .returned (.string ⟨(decB n).toArray⟩) ∧ Below w.heap.size w w' := by
  unfold decB
  by_cases h0 : n = 0
  · subst h0
    refine (spec_dec_zero w).mono ?_
    rintro e w' ⟨rfl, rfl⟩
    exact ⟨rfl, Below.refl _ _⟩
  · by_cases hn : n < 0
    · obtain ⟨m, rfl⟩ : ∃ m : Nat, n = -(m : Int) := ⟨n.natAbs, by omega⟩
      refine (spec_dec_neg m w (by omega) (by omega)).mono ?_
      rintro e w' ⟨rfl, hb⟩
      have e : (-(m : Int)).natAbs = m := by omega
      rw [if_neg h0, if_pos hn, e]
      exact ⟨rfl, hb⟩
    · obtain ⟨m, rfl⟩ : ∃ m : Nat, n = (m : Int) := ⟨n.natAbs, by omega⟩
      refine (spec_dec_pos m w (by omega) (by omega)).mono ?_
      rintro e w' ⟨rfl, hb⟩
      have e : ((m : Int)).natAbs = m := by omega
      rw [if_neg h0, if_neg hn, e]
      exact ⟨rfl, hb⟩

end Go.Proofs.YtpidfofjjdjkdaiDoor
