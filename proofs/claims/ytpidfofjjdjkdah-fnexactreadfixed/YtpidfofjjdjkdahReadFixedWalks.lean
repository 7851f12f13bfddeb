/- The walks of ReadFixed: the document's model and the program, one contract each. -/
import Derived.Test.YtpidfofjjdjkdahRows
import Derived.Test.YtpidfofjjdjkdahNum
import Derived.WalkKit
import Derived.WalkSpells
import Derived.WalkLawsBesides
set_option linter.unusedVariables false
namespace Go.Proofs.Ytpidfofjjdjkdah
open Go.RowKit Num

/-- What ReadFixed answers, by its width. -/
def rdOk (s : ByteArray) (n : Int) : Bool := decide (1 ≤ n ∧ n ≤ 7 ∧ n ≤ (s.size : Int))

set_option maxHeartbeats 400000 in
theorem spec_rd_no (s : ByteArray) (n : Int) (w : World) (hs : s.size ≤ maxLen) (h : ¬ (1 ≤ n ∧ n ≤ 7 ∧ n ≤ (s.size : Int))) :
    Calls Try.prog 7 #[.string s, .int .i64 n] w fun e w' => e = .returned (.tuple #[.int .i64 0, .bool false]) ∧ w' = w := by
  unfold maxLen at hs
  by_cases h1 : 1 ≤ n
  · by_cases h7 : n ≤ 7
    · have h3 : (s.size : Int) < n := by omega
      clear h
      go_enter Try.func7, Try.ntmps7
      go_wp2
      go_ret2
      exact ⟨rfl, rfl⟩
    · clear h
      have h7' : 7 < n := by omega
      go_enter Try.func7, Try.ntmps7
      go_wp2
      go_ret2
      exact ⟨rfl, rfl⟩
  · clear h
    have h1' : n < 1 := by omega
    go_enter Try.func7, Try.ntmps7
    go_wp2
    go_ret2
    exact ⟨rfl, rfl⟩

set_option maxHeartbeats 400000 in
theorem spec_rd_yes (s : ByteArray) (n : Nat) (w : World) (hs : s.size ≤ maxLen) (h1 : 1 ≤ n) (h7 : n ≤ 7) (hn : n ≤ s.size) :
    Calls Try.prog 7 #[.string s, .int .i64 n] w fun e w' => e = .returned (.tuple #[.int .i64 (rf (s.data.toList.take n)), .bool true]) ∧ w' = w := by
  unfold maxLen at hs
  go_enter Try.func7, Try.ntmps7
  go_wp2
  go_loop [6, 7] (fun t i => ∃ k : Nat, k ≤ n ∧ i = .int .i64 k ∧ t = .int .i64 (rf (s.data.toList.take k))) (fun _ i => n - (intOf i).toNat)
  case atStart => exact ⟨0, Nat.zero_le _, rfl, rfl⟩
  case round =>
    obtain ⟨k, hk, rfl, rfl⟩ := hrel
    by_cases hlt : k < n
    · have hb := rf_take_le s k (by omega)
      have HS : Hid (rf (s.data.toList.take (k + 1)) = rf (s.data.toList.take k) * 256 + (s[k].toNat : Int)) := rf_step s k (by omega)
      have hks : k < s.size := by omega
      have hb8 := s[k].toNat_lt
      go_wp2
      go_round
      case rel => exact ⟨k + 1, by omega, by go_num, by rw [HS.out]⟩
      case measure => simp [intOf]; omega
    · have : k = n := by omega
      subst this
      go_wp2
      go_ret2
      exact ⟨rfl, rfl⟩

set_option maxHeartbeats 400000 in
theorem impl_rd_no (s : ByteArray) (n : Int) (w : World) (hs : s.size ≤ maxLen) (h : ¬ (1 ≤ n ∧ n ≤ 7 ∧ n ≤ (s.size : Int))) :
    Calls Try.prog 8 #[.string s, .int .i64 n] w fun e w' => e = .returned (.tuple #[.int .i64 0, .bool false]) ∧ w' = w := by
  unfold maxLen at hs
  by_cases h1 : 1 ≤ n
  · by_cases h7 : n ≤ 7
    · have h3 : (s.size : Int) < n := by omega
      clear h
      go_enter Try.func8, Try.ntmps8
      go_wp2
      go_ret2
      exact ⟨rfl, rfl⟩
    · clear h
      have h7' : 7 < n := by omega
      go_enter Try.func8, Try.ntmps8
      go_wp2
      go_ret2
      exact ⟨rfl, rfl⟩
  · clear h
    have h1' : n < 1 := by omega
    go_enter Try.func8, Try.ntmps8
    go_wp2
    go_ret2
    exact ⟨rfl, rfl⟩

set_option maxHeartbeats 400000 in
theorem impl_rd_yes (s : ByteArray) (n : Nat) (w : World) (hs : s.size ≤ maxLen) (h1 : 1 ≤ n) (h7 : n ≤ 7) (hn : n ≤ s.size) :
    Calls Try.prog 8 #[.string s, .int .i64 n] w fun e w' => e = .returned (.tuple #[.int .i64 (rf (s.data.toList.take n)), .bool true]) ∧ w' = w := by
  unfold maxLen at hs
  go_enter Try.func8, Try.ntmps8
  go_wp2
  go_loop [6, 18] (fun t i => ∃ k : Nat, k ≤ n ∧ i = .int .i64 k ∧ t = .int .i64 (rf (s.data.toList.take k))) (fun _ i => n - (intOf i).toNat)
  case atStart => exact ⟨0, Nat.zero_le _, rfl, rfl⟩
  case round =>
    obtain ⟨k, hk, rfl, rfl⟩ := hrel
    by_cases hlt : k < n
    · have hb := rf_take_le s k (by omega)
      have HS : Hid (rf (s.data.toList.take (k + 1)) = rf (s.data.toList.take k) * 256 + (s[k].toNat : Int)) := rf_step s k (by omega)
      have hks : k < s.size := by omega
      have hb8 := s[k].toNat_lt
      go_wp2
      go_round
      case rel => exact ⟨k + 1, by omega, by go_num, by rw [HS.out, or_byte _ _ hb.1 hb.2 hb8]⟩
      case measure => simp [intOf]; omega
    · have : k = n := by omega
      subst this
      go_wp2
      go_ret2
      exact ⟨rfl, rfl⟩

end Go.Proofs.Ytpidfofjjdjkdah
