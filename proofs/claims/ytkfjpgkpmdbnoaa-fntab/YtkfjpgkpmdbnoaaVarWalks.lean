/- The walks of Var: the document's model and the program, one contract each. -/
import Derived.Test.YtkfjpgkpmdbnoaaRows
import Derived.Test.YtkfjpgkpmdbnoaaVarMath
import Derived.WalkKit
import Derived.WalkSpells
import Derived.WalkLawsBesides
set_option linter.unusedVariables false
namespace Go.Proofs.Ytkfjpgkpmdbnoaa
open Go.RowKit Own Var

theorem infoU8 : (Try.prog.info? 5).map (fun i => (i.zero, i.size, i.bytes)) = some (some (.int .u8 0), 1, 1) := by kernel_rfl

set_option maxHeartbeats 400000 in
theorem spec_var_no (n : Int) (w : World) (h : ¬ (0 ≤ n ∧ n ≤ 562949953421311)) :
    Calls Try.prog 52 #[.int .i64 n] w fun e w' => e = .returned (.string ⟨#[]⟩) ∧ w' = w := by
  by_cases h1 : 0 ≤ n
  · have h3 : decide (n ≤ 562949953421311) = false := by simp; omega
    clear h
    go_enter Try.func52, Try.ntmps52
    go_wp2
    go_ret
    exact ⟨rfl, rfl⟩
  · clear h
    have h1' : n < 0 := by omega
    go_enter Try.func52, Try.ntmps52
    go_wp2
    go_ret
    exact ⟨rfl, rfl⟩

set_option maxRecDepth 100000 in
set_option maxHeartbeats 800000 in
theorem spec_var_yes (n : Nat) (w : World) (h : n ≤ 562949953421311) :
    Calls Try.prog 52 #[.int .i64 n] w fun e w' => e = .returned (.string ⟨(varB n).toArray⟩) ∧ Below w.heap.size w w' := by
  obtain ⟨i0, hi, hz0, hz1, hz2⟩ := info_parts infoU8
  have hd : decide ((n : Int) ≤ 562949953421311) = true := by simp; omega
  have H7 : Hid ((varB n).length ≤ 7) := varB_seven n h
  go_enter Try.func52, Try.ntmps52
  go_wp2
  go_loopw [0, 3] (fun a v wr => ∃ (m : Nat) (l : List UInt8), a = .int .i64 m ∧ m ≤ n ∧ l ++ varB m = varB n ∧ wr.ownsRow w.heap.size 5 1 v l.length (bytesOf l) ∧ Below w.heap.size w wr) (fun a _ _ => (intOf a).toNat)
  case atStart => exact ⟨n, [], rfl, Nat.le_refl _, rfl, World.ownsRow_lit _ _ _ (Nat.le_refl _) (by unfold maxLen; omega) rfl, (Below.refl _ _).alloc (Nat.le_refl _) _⟩
  case round =>
    obtain ⟨m, l, rfl, hmn, hl, hown, hbel⟩ := hrel
    have H : Hid (l ++ varB m = varB n) := hl
    have hlen : l.length ≤ 6 := by have h1 := congrArg List.length hl; have h2 := H7.out; have h3 := varB_pos m; rw [List.length_append] at h1; omega
    clear hl
    by_cases h1 : m < 128
    · go_wp2_with (first | (at_builtin; refine wpList_append_own _ rfl _ _ 22 rfl w.heap.size 5 i0 (.int .u8 0) 1 1 Try.underlying22 hi hz0 hz1 hz2 rfl (by decide) _ _ _ rfl (hown.alloc _) ⟨wr.heap.size, 0, none⟩ 1 1 [.int .u8 (m : Int)] rfl rfl (cell_one_new _ _ _) ?c2 ?c3 ?c4 ?c5 ?_) | go_in)
      case c2 => intro u hu; simp at hu; subst hu; rfl
      case c3 => unfold maxLen; omega
      case c4 => omega
      case c5 => have := hbel.size; simp; omega
      intro v' w1 hown' hgrow _
      have e : l ++ [UInt8.ofNat m] = varB n := by rw [← H.out, varB_small m h1]
      rw [push_small l m h1, e] at hown'
      have hb := below_app hbel (Nat.le_refl _) hown hgrow
      have hcv := conv_own (P := Try.prog) 22 9 5 Try.underlying22 Try.underlying5 Try.underlying9 hown'
      clear hown' hgrow hown hbel e
      go_wp2
      go_ret
      exact ⟨rfl, hb⟩
    · have h2 : 128 ≤ m := by omega
      go_wp2_with (first | (at_builtin; refine wpList_append_own _ rfl _ _ 22 rfl w.heap.size 5 i0 (.int .u8 0) 1 1 Try.underlying22 hi hz0 hz1 hz2 rfl (by decide) _ _ _ rfl (hown.alloc _) ⟨wr.heap.size, 0, none⟩ 1 1 [.int .u8 (128 + (m : Int) % 128)] rfl rfl (cell_one_new _ _ _) ?d2 ?d3 ?d4 ?d5 ?_) | go_in)
      case d2 => intro u hu; simp at hu; subst hu; rfl
      case d3 => unfold maxLen; omega
      case d4 => omega
      case d5 => have := hbel.size; simp; omega
      intro v' w1 hown' hgrow _
      have e : (l ++ [UInt8.ofNat (128 + m % 128)]) ++ varB (m / 128) = varB n := by rw [← H.out, varB_great m h1]; simp
      rw [push_great l m] at hown'
      have hb := below_app hbel (Nat.le_refl _) hown hgrow
      have E : Hid ((l ++ [UInt8.ofNat (128 + m % 128)]) ++ varB (m / 128) = varB n) := e
      clear hgrow hown hbel e
      go_wp2
      go_roundw
      case rel =>
        have R : ∃ (m' : Nat) (l' : List UInt8), Value.int .i64 ((m : Int) / 128) = .int .i64 m' ∧ m' ≤ n ∧ l' ++ varB m' = varB n ∧ w1.ownsRow w.heap.size 5 1 v' l'.length (bytesOf l') ∧ Below w.heap.size w w1 :=
          ⟨m / 128, _, by go_num, by omega, E.out, by rw [List.length_append]; exact hown', hb⟩
        first | exact R | ((repeat apply Exists.intro); exact ⟨R, rfl⟩)
      case measure => simp [intOf]; omega

set_option maxRecDepth 100000 in
set_option maxHeartbeats 800000 in
theorem impl_var_yes (n : Nat) (w : World) (h : n ≤ 562949953421311) :
    Calls Try.prog 48 #[.int .i64 n] w fun e w' => e = .returned (.string ⟨(varB n).toArray⟩) ∧ Below w.heap.size w w' := by
  obtain ⟨i0, hi, hz0, hz1, hz2⟩ := info_parts infoU8
  have hd : (n : Int) ≤ 562949953421311 := by omega
  have H7 : Hid ((varB n).length ≤ 7) := varB_seven n h
  go_enter Try.func48, Try.ntmps48
  go_wp2_with (first | (at_make; refine wpList_make_own _ rfl _ _ 22 rfl w.heap.size 5 i0 (.int .u8 0) 1 Try.underlying22 hi hz0 hz1 .i64 .i64 7 7 rfl rfl rfl (by rw [hz2]; omega) (by unfold maxLen; omega) (Nat.le_refl _) ?_) | go_in)
  intro w0 hown0 hgrow0
  have hbel0 := (Below.refl w.heap.size w).grown hgrow0 (Nat.le_refl _) (by simp)
  clear hgrow0
  go_wp2
  go_loopw [0, 3] (fun a v wr => ∃ (m : Nat) (l : List UInt8), a = .int .i64 m ∧ m ≤ n ∧ l ++ varB m = varB n ∧ wr.ownsRow w.heap.size 5 1 v l.length (bytesOf l) ∧ Below w.heap.size w wr) (fun a _ _ => (intOf a).toNat)
  case atStart => exact ⟨n, [], rfl, Nat.le_refl _, rfl, hown0, hbel0⟩
  case round =>
    clear hown0 hbel0
    obtain ⟨m, l, rfl, hmn, hl, hown, hbel⟩ := hrel
    have H : Hid (l ++ varB m = varB n) := hl
    have hlen : l.length ≤ 6 := by have h1 := congrArg List.length hl; have h2 := H7.out; have h3 := varB_pos m; rw [List.length_append] at h1; omega
    clear hl
    by_cases h1 : m < 128
    · go_wp2_with (first | (at_builtin; refine wpList_append_own _ rfl _ _ 22 rfl w.heap.size 5 i0 (.int .u8 0) 1 1 Try.underlying22 hi hz0 hz1 hz2 rfl (by decide) _ _ _ rfl (hown.alloc _) ⟨wr.heap.size, 0, none⟩ 1 1 [.int .u8 (m : Int)] rfl rfl (cell_one_new _ _ _) ?c2 ?c3 ?c4 ?c5 ?_) | go_in)
      case c2 => intro u hu; simp at hu; subst hu; rfl
      case c3 => unfold maxLen; omega
      case c4 => omega
      case c5 => have := hbel.size; simp; omega
      intro v' w1 hown' hgrow _
      have e : l ++ [UInt8.ofNat m] = varB n := by rw [← H.out, varB_small m h1]
      rw [push_small l m h1, e] at hown'
      have hb := below_app hbel (Nat.le_refl _) hown hgrow
      have hcv := conv_own (P := Try.prog) 22 9 5 Try.underlying22 Try.underlying5 Try.underlying9 hown'
      clear hown' hgrow hown hbel e
      go_wp2
      go_ret
      exact ⟨rfl, hb⟩
    · have h2 : 128 ≤ m := by omega
      go_wp2_with (first | (at_builtin; refine wpList_append_own _ rfl _ _ 22 rfl w.heap.size 5 i0 (.int .u8 0) 1 1 Try.underlying22 hi hz0 hz1 hz2 rfl (by decide) _ _ _ rfl (hown.alloc _) ⟨wr.heap.size, 0, none⟩ 1 1 [.int .u8 (128 + (m : Int) % 128)] rfl rfl (cell_one_new _ _ _) ?d2 ?d3 ?d4 ?d5 ?_) | go_in)
      case d2 => intro u hu; simp at hu; subst hu; rfl
      case d3 => unfold maxLen; omega
      case d4 => omega
      case d5 => have := hbel.size; simp; omega
      intro v' w1 hown' hgrow _
      have e : (l ++ [UInt8.ofNat (128 + m % 128)]) ++ varB (m / 128) = varB n := by rw [← H.out, varB_great m h1]; simp
      rw [push_great l m] at hown'
      have hb := below_app hbel (Nat.le_refl _) hown hgrow
      have E : Hid ((l ++ [UInt8.ofNat (128 + m % 128)]) ++ varB (m / 128) = varB n) := e
      clear hgrow hown hbel e
      go_wp2
      go_roundw
      case rel =>
        have R : ∃ (m' : Nat) (l' : List UInt8), Value.int .i64 ((m : Int) / 128) = .int .i64 m' ∧ m' ≤ n ∧ l' ++ varB m' = varB n ∧ w1.ownsRow w.heap.size 5 1 v' l'.length (bytesOf l') ∧ Below w.heap.size w w1 :=
          ⟨m / 128, _, by go_num, by omega, E.out, by rw [List.length_append]; exact hown', hb⟩
        first | exact R | ((repeat apply Exists.intro); exact ⟨R, rfl⟩)
      case measure => simp [intOf]; omega

set_option maxHeartbeats 400000 in
theorem impl_var_no (n : Int) (w : World) (h : ¬ (0 ≤ n ∧ n ≤ 562949953421311)) :
    Calls Try.prog 48 #[.int .i64 n] w fun e w' => e = .returned (.string ⟨#[]⟩) ∧ w' = w := by
  by_cases h1 : 0 ≤ n
  · have h3 : 562949953421311 < n := by omega
    clear h
    go_enter Try.func48, Try.ntmps48
    go_wp2
    go_ret
    exact ⟨rfl, rfl⟩
  · clear h
    have h1' : n < 0 := by omega
    go_enter Try.func48, Try.ntmps48
    go_wp2
    go_ret
    exact ⟨rfl, rfl⟩

/-- What Var answers. -/
def varOf (n : Int) : ByteArray := if 0 ≤ n ∧ n ≤ 562949953421311 then ⟨(varB n.toNat).toArray⟩ else ⟨#[]⟩

theorem spec_var (n : Int) (w : World) :
    Calls Try.prog 52 #[.int .i64 n] w fun e w' => e = .returned (.string (varOf n)) ∧ Below w.heap.size w w' := by
  by_cases h : 0 ≤ n ∧ n ≤ 562949953421311
  · obtain ⟨k, rfl⟩ := Int.eq_ofNat_of_zero_le h.1
    refine (spec_var_yes k w (by omega)).mono ?_
    rintro e w' ⟨rfl, hb⟩
    exact ⟨by rw [varOf, if_pos h]; rfl, hb⟩
  · refine (spec_var_no n w h).mono ?_
    rintro e w' ⟨rfl, rfl⟩
    exact ⟨by rw [varOf, if_neg h], Below.refl _ _⟩

theorem impl_var (n : Int) (w : World) :
    Calls Try.prog 48 #[.int .i64 n] w fun e w' => e = .returned (.string (varOf n)) ∧ Below w.heap.size w w' := by
  by_cases h : 0 ≤ n ∧ n ≤ 562949953421311
  · obtain ⟨k, rfl⟩ := Int.eq_ofNat_of_zero_le h.1
    refine (impl_var_yes k w (by omega)).mono ?_
    rintro e w' ⟨rfl, hb⟩
    exact ⟨by rw [varOf, if_pos h]; rfl, hb⟩
  · refine (impl_var_no n w h).mono ?_
    rintro e w' ⟨rfl, rfl⟩
    exact ⟨by rw [varOf, if_neg h], Below.refl _ _⟩
end Go.Proofs.Ytkfjpgkpmdbnoaa
