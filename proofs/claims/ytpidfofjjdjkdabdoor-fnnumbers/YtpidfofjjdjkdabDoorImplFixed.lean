/- The program's functions of chapter 1, one contract each, at this seat. -/
import Derived.Test.YtpidfofjjdjkdabDoorRows
import Derived.Test.YtpidfofjjdjkdabDoorNum
import Derived.Test.YtpidfofjjdjkdabDoorOwn
import Derived.Test.YtpidfofjjdjkdabDoorVarMath
import Derived.Test.YtpidfofjjdjkdabDoorReadVarMath
import Derived.Test.YtpidfofjjdjkdabDoorHexMath
import Derived.Test.YtpidfofjjdjkdabDoorUnhexMath
import Derived.Test.YtpidfofjjdjkdabDoorDecMath
import Derived.Test.YtpidfofjjdjkdabDoorImplDec
import Derived.WalkKit
import Derived.WalkSpells
import Derived.WalkLawsBesides
import Derived.WalkMore
import Derived.LoopN
import Derived.Deep.RegionHeld3
import Derived.Deep.AppendLies
import Derived.Lib.Bytealg
set_option linter.unusedVariables false
namespace Go.Proofs.YtpidfofjjdjkdabDoor
open Go.RowKit Num Own

/-- n without its k lowest bytes. -/
def up (n : Int) : Nat → Int
  | 0 => n
  | k + 1 => up n k / 256

/-- The k lowest bytes of n, the greatest first. -/
def fx (n : Int) : Nat → List UInt8
  | 0 => []
  | k + 1 => UInt8.ofNat (up n k % 256).toNat :: fx n k

theorem up_bd (n : Int) (h0 : 0 ≤ n) (h1 : n ≤ 9223372036854775807) : ∀ k, 0 ≤ up n k ∧ up n k ≤ 9223372036854775807
  | 0 => ⟨h0, h1⟩
  | k + 1 => by have := up_bd n h0 h1 k; simp only [up]; omega

theorem fx_len (n : Int) : ∀ k, (fx n k).length = k
  | 0 => rfl
  | k + 1 => by simp [fx, fx_len n k]

theorem up_eq (n : Int) (h : 0 ≤ n) : ∀ k, up n k = n / 2 ^ (8 * k)
  | 0 => by simp [up]
  | k + 1 => by
    have e : (2 : Int) ^ (8 * (k + 1)) = 2 ^ (8 * k) * 256 := by rw [Nat.mul_add, Int.pow_add]; rfl
    rw [up, up_eq n h k, e, Int.ediv_ediv_of_nonneg (Int.le_of_lt (Int.pow_pos (by decide)))]

/-- What the program's row holds behind k rounds: noughts, then the k lowest bytes. -/
def part (n : Int) (m k : Nat) : List UInt8 := List.replicate (m - k) 0 ++ fx n k

theorem part_full (n : Int) (m : Nat) : part n m m = fx n m := by simp [part]

theorem part_zero (n : Int) (m : Nat) : (madeCells #[Value.int .u8 0] m).toList = bytesOf (part n m 0) := by
  rw [toList_madeCells_one]
  simp [part, fx, bytesOf]

theorem part_set (n : Int) (m k : Nat) (h : k < m) : (bytesOf (part n m k)).set (m - 1 - k) (.int .u8 (up n k % 256)) = bytesOf (part n m (k + 1)) := by
  have hu : 0 ≤ up n k % 256 ∧ up n k % 256 < 256 := by omega
  have e : m - k = (m - (k + 1)) + 1 := by omega
  have e2 : m - 1 - k = m - (k + 1) := by omega
  have hb : ((UInt8.ofNat (up n k % 256).toNat).toNat : Int) = up n k % 256 := by
    simp [UInt8.toNat_ofNat']; omega
  rw [part, part, e2, e, List.replicate_succ', fx]
  simp only [bytesOf, List.map_append, List.map_replicate, List.map_cons, List.append_assoc, List.cons_append, List.nil_append]
  rw [List.set_append_right _ _ (by simp)]
  simp
  omega

set_option maxHeartbeats 400000 in
theorem impl_fx_yes (n : Int) (m : Nat) (w : World) (h1 : 1 ≤ m) (h7 : m ≤ 7) (hn : 0 ≤ n) (hm : n ≤ 9223372036854775807) (hsh : (n / 2 ^ (8 * m) != 0) = false) :
    Calls Tryd.prog 9 #[.int .i64 n, .int .i64 m] w fun e w' => e = .returned (.string ⟨(fx n m).toArray⟩) ∧ Below w.heap.size w w' := by
  obtain ⟨i0, hi, hz0, hz1, hz2⟩ := info_parts infoU8
  have hneg : decide (n < 0) = false := by simp; omega
  go_enter Tryd.func9, Tryd.ntmps9
  go_wp2_with (first | (at_make; refine wpList_make_full _ rfl _ _ 22 rfl w.heap.size 5 i0 (.int .u8 0) 1 Tryd.underlying22 hi hz0 hz1 .i64 .i64 m m m rfl rfl rfl rfl (by rw [hz2]; omega) (by unfold maxLen; omega) (Nat.le_refl _) ?_) | go_in)
  intro w1 hown hgrow
  rw [part_zero n] at hown
  have hbel := (Below.refl w.heap.size w).grown hgrow (Nat.le_refl _) (by simp)
  clear hgrow
  go_wp2
  go_loopw [24] (fun i wr => ∃ k : Nat, k ≤ m ∧ i = .int .i64 k ∧ wr.ownsRow w.heap.size 5 1 (.slice (some ⟨w.heap.size, 0, none⟩) m m) m (bytesOf (part n m k)) ∧ Below w.heap.size w wr) (fun i _ => m - (intOf i).toNat)
  case atStart => exact ⟨0, Nat.zero_le _, rfl, hown, hbel⟩
  case round =>
    clear hown hbel
    obtain ⟨k, hk, rfl, hown, hbel⟩ := hrel
    by_cases hlt : k < m
    · have hcell : ∃ v, wr.cell? ⟨w.heap.size, m - 1 - k, none⟩ = some v := by
        rw [hown.cellAt _ (by omega)]
        exact ⟨_, List.getElem?_eq_getElem (by simp [bytesOf, part, fx_len]; omega)⟩
      obtain ⟨v, hcell⟩ := hcell
      have hfz := hown.frozenAt (m - 1 - k)
      go_wp2
      go_roundw
      case rel =>
        have hs := hown.stored (m - 1 - k) (.int .u8 (up n k % 256))
        rw [part_set n m k hlt] at hs
        have e : up n k % 256 = n / 2 ^ (8 * k) % 256 := by rw [up_eq n hn]
        refine ⟨k + 1, by omega, by go_num, ?_, ?_⟩
        · rw [← e]
          exact hs.1
        · exact hbel.setCell (Nat.le_refl _) _
      case measure => simp [intOf]; omega
    · have : k = m := by omega
      subst this
      rw [part_full] at hown
      have hcv := conv_own (P := Tryd.prog) 22 9 5 Tryd.underlying22 Tryd.underlying5 Tryd.underlying9 hown
      go_wp2
      go_ret
      exact ⟨rfl, hbel⟩

set_option maxHeartbeats 400000 in
theorem impl_fx_no (n m : Int) (w : World) (h : ¬ (1 ≤ m ∧ m ≤ 7 ∧ 0 ≤ n)) :
    Calls Tryd.prog 9 #[.int .i64 n, .int .i64 m] w fun e w' => e = .returned (.string ⟨#[]⟩) ∧ w' = w := by
  by_cases h1 : 1 ≤ m
  · by_cases h7 : m ≤ 7
    · have h3 : n < 0 := by omega
      clear h
      go_enter Tryd.func9, Tryd.ntmps9
      go_wp2
      go_ret
      exact ⟨rfl, rfl⟩
    · clear h
      have h7' : 7 < m := by omega
      go_enter Tryd.func9, Tryd.ntmps9
      go_wp2
      go_ret
      exact ⟨rfl, rfl⟩
  · clear h
    have h1' : m < 1 := by omega
    go_enter Tryd.func9, Tryd.ntmps9
    go_wp2
    go_ret
    exact ⟨rfl, rfl⟩

set_option maxHeartbeats 400000 in
theorem impl_fx_big (n : Int) (m : Nat) (w : World) (h1 : 1 ≤ m) (h7 : m ≤ 7) (hn : 0 ≤ n) (hm : n ≤ 9223372036854775807) (hsh : (n / 2 ^ (8 * m) != 0) = true) :
    Calls Tryd.prog 9 #[.int .i64 n, .int .i64 m] w fun e w' => e = .returned (.string ⟨#[]⟩) ∧ w' = w := by
  have hneg : decide (n < 0) = false := by simp; omega
  go_enter Tryd.func9, Tryd.ntmps9
  go_wp2
  go_ret
  exact ⟨rfl, rfl⟩

/-- What Fixed answers. -/
def fixedOf (n m : Int) : ByteArray := if 1 ≤ m ∧ m ≤ 7 ∧ 0 ≤ n ∧ up n m.toNat = 0 then ⟨(fx n m.toNat).toArray⟩ else ⟨#[]⟩

theorem impl_fx (n m : Int) (w : World) (hm : n ≤ 9223372036854775807) :
    Calls Tryd.prog 9 #[.int .i64 n, .int .i64 m] w fun e w' => e = .returned (.string (fixedOf n m)) ∧ Below w.heap.size w w' := by
  by_cases h : 1 ≤ m ∧ m ≤ 7 ∧ 0 ≤ n
  · obtain ⟨k, rfl⟩ := Int.eq_ofNat_of_zero_le (show 0 ≤ m by omega)
    by_cases h0 : up n k = 0
    · refine (impl_fx_yes n k w (by omega) (by omega) (by omega) hm (by rw [← up_eq n h.2.2, h0]; rfl)).mono ?_
      rintro e w' ⟨rfl, hb⟩
      exact ⟨by rw [fixedOf, if_pos ⟨h.1, h.2.1, h.2.2, h0⟩]; rfl, hb⟩
    · refine (impl_fx_big n k w (by omega) (by omega) (by omega) hm (by rw [← up_eq n h.2.2]; simpa using h0)).mono ?_
      rintro e w' ⟨rfl, rfl⟩
      exact ⟨by rw [fixedOf, if_neg (fun hh => h0 hh.2.2.2)], Below.refl _ _⟩
  · refine (impl_fx_no n m w h).mono ?_
    rintro e w' ⟨rfl, rfl⟩
    exact ⟨by rw [fixedOf, if_neg (fun hh => h ⟨hh.1, hh.2.1, hh.2.2.1⟩)], Below.refl _ _⟩

set_option maxHeartbeats 400000 in
theorem impl_rd_no (s : ByteArray) (n : Int) (w : World) (hs : s.size ≤ maxLen) (h : ¬ (1 ≤ n ∧ n ≤ 7 ∧ n ≤ (s.size : Int))) :
    Calls Tryd.prog 10 #[.string s, .int .i64 n] w fun e w' => e = .returned (.tuple #[.int .i64 0, .bool false]) ∧ w' = w := by
  unfold maxLen at hs
  by_cases h1 : 1 ≤ n
  · by_cases h7 : n ≤ 7
    · have h3 : (s.size : Int) < n := by omega
      clear h
      go_enter Tryd.func10, Tryd.ntmps10
      go_wp2
      go_ret2
      exact ⟨rfl, rfl⟩
    · clear h
      have h7' : 7 < n := by omega
      go_enter Tryd.func10, Tryd.ntmps10
      go_wp2
      go_ret2
      exact ⟨rfl, rfl⟩
  · clear h
    have h1' : n < 1 := by omega
    go_enter Tryd.func10, Tryd.ntmps10
    go_wp2
    go_ret2
    exact ⟨rfl, rfl⟩

set_option maxHeartbeats 400000 in
theorem impl_rd_yes (s : ByteArray) (n : Nat) (w : World) (hs : s.size ≤ maxLen) (h1 : 1 ≤ n) (h7 : n ≤ 7) (hn : n ≤ s.size) :
    Calls Tryd.prog 10 #[.string s, .int .i64 n] w fun e w' => e = .returned (.tuple #[.int .i64 (rf (s.data.toList.take n)), .bool true]) ∧ w' = w := by
  unfold maxLen at hs
  go_enter Tryd.func10, Tryd.ntmps10
  go_wp2
  go_loop [6, 18] (fun t i => ∃ k : Nat, k ≤ n ∧ i = .int .i64 k ∧ t = .int .i64 (rf (s.data.toList.take k))) (fun _ i => n - (intOf i).toNat)
  case atStart => exact ⟨0, Nat.zero_le _, rfl, rfl⟩
  case round =>
    obtain ⟨k, hk, rfl, rfl⟩ := hrel
    by_cases hlt : k < n
    · have hb := rf_take_le s k (by omega)
      have HS : Hid (rf (s.data.toList.take (k + 1)) = rf (s.data.toList.take k) * 256 + (s[k].toNat : Int)) := rf_step s k (by omega)
      have hks : k < s.size := by omega
      have hb8 := s[k].toNat_lt
      go_wp2
      go_round
      case rel => exact ⟨k + 1, by omega, by go_num, by rw [HS.out, or_byte _ _ hb.1 hb.2 hb8]⟩
      case measure => simp [intOf]; omega
    · have : k = n := by omega
      subst this
      go_wp2
      go_ret2
      exact ⟨rfl, rfl⟩

end Go.Proofs.YtpidfofjjdjkdabDoor
