/- ReadFlags: the program and the model. -/
import Derived.Test.YtcilgmofhkpkpaaFg7
import Derived.Test.YtcilgmofhkpkpaaShelf
set_option linter.unusedVariables false
namespace Go.Proofs.Ytcilgmofhkpkpaa
open Go Go.RowKit

/-- A letter stands in a text. -/
def conS (s : ByteArray) (k : Nat) : Bool := decide (0 ≤ Lib.indexByte s.data.toList (letN k))
def maskN (s : ByteArray) : Nat → Nat
  | 0 => 0
  | k + 1 => maskN s k + (if conS s k then 2 ^ k else 0)
def shN (n : Nat) : ByteArray := if n = 0 then ⟨#[45]⟩ else shS n 8
theorem shN_eq (n : Nat) (h : n < 256) : shT (n : Int) = shN n := by
  unfold shT shN
  rw [if_pos ((btw_iff _ _ _).2 (by omega))]
  by_cases h0 : n = 0
  · rw [if_pos h0, if_pos (by omega)]
  · rw [if_neg h0, if_neg (by omega)]; rfl
theorem mask_shown : ∀ n < 256, maskN (shN n) 8 = n := by decide +kernel
theorem mask_lt (s : ByteArray) : ∀ k, maskN s k < 2 ^ k
  | 0 => by unfold maskN; omega
  | k + 1 => by
    have := mask_lt s k
    unfold maskN
    rw [Nat.pow_succ]
    split <;> omega
def rdF (s : ByteArray) : Int × Bool := if shN (maskN s 8) = s then ((maskN s 8 : Nat), true) else (0, false)
theorem rdF_hit {s : ByteArray} {n : Nat} (h : n < 256) (e : shN n = s) : rdF s = ((n : Int), true) := by
  have h1 := mask_shown n h
  rw [e] at h1
  unfold rdF
  rw [h1, if_pos e]
theorem rdF_miss {s : ByteArray} (h : ∀ n < 256, shN n ≠ s) : rdF s = (0, false) := by
  unfold rdF
  rw [if_neg (h _ (mask_lt s 8))]
set_option maxRecDepth 100000 in
theorem specRead_is (s : ByteArray) (w : World) : Calls Try.prog 20 #[.string s] w fun e w' => e = .returned (.tuple #[.int .i64 (rdF s).1, .bool (rdF s).2]) ∧ Below w.heap.size w w' := by
  go_enter Try.func20, Try.ntmps20
  go_wp2
  go_loopw [4] (fun v wr => ∃ k : Nat, k ≤ 256 ∧ v = .int .i64 (k : Int) ∧ Hid (∀ n < k, shN n ≠ s) ∧ w = wr) (fun v _ => 256 - (intOf v).toNat)
  case atStart => exact ⟨0, by omega, rfl, fun n hn => absurd hn (by omega), rfl⟩
  case round =>
    obtain ⟨k, hk, rfl, hN, rfl⟩ := hrel
    by_cases hlt : k < 256
    · have k2 : (k : Int) ≤ 255 := by omega
      go_wp2_with fail
      refine (specShow_is k _).mono ?_
      rintro e w1 ⟨rfl, rfl⟩
      rw [shN_eq k hlt]
      by_cases hq : shN k = s
      · have HE : Hid (rdF s = ((k : Int), true)) := rdF_hit hlt hq
        rw [hq]
        clear hq
        go_wp2
        go_ret2
        exact ⟨ended (show ((k : Int), true) = rdF s from HE.out.symm), Below.refl _ _⟩
      · have hne := same_list hq
        have HN : Hid (∀ n < k + 1, shN n ≠ s) := fun n hn => if e : n = k then by rw [e]; exact hq else hN.out n (by omega)
        clear hq
        generalize shN k = q at *
        go_wp2
        go_roundw
        case rel => exact ⟨k + 1, by omega, by go_num, HN, trivial⟩
        case measure => simp [intOf]; omega
    · obtain rfl : k = 256 := by omega
      have HE : Hid (rdF s = (0, false)) := rdF_miss hN.out
      go_wp2
      go_ret2
      exact ⟨ended (show ((0 : Int), false) = rdF s from HE.out.symm), Below.refl _ _⟩
theorem let_back (k : Nat) (h : k < 8) : ((letN k).toNat : Int).toNat.toUInt8 = letN k := by
  match k, h with
  | 0, _ => rfl
  | 1, _ => rfl
  | 2, _ => rfl
  | 3, _ => rfl
  | 4, _ => rfl
  | 5, _ => rfl
  | 6, _ => rfl
  | 7, _ => rfl
theorem or_tab : ∀ k < 8, ∀ m < 2 ^ k, m ||| 2 ^ k = m + 2 ^ k := by decide +kernel
theorem or_pow (k m : Nat) (hk : k < 8) (hm : m < 2 ^ k) : bits .or .i64 (m : Int) (wrap64 (2 ^ k)) = ((m + 2 ^ k : Nat) : Int) := by
  have p1 : 2 ^ k ≤ 128 := Nat.pow_le_pow_right (by omega) (show k ≤ 7 by omega)
  have e : ((2 : Int) ^ k) = ((2 ^ k : Nat) : Int) := by rw [Int.natCast_pow]; rfl
  rw [e, show wrap64 (((2 ^ k : Nat) : Int)) = ((2 ^ k : Nat) : Int) from (by unfold wrap64; omega), bits_or m (2 ^ k) (by omega) (by omega), or_tab k hk m hm]
set_option maxRecDepth 100000 in
theorem implRead_is (s : ByteArray) (w : World) : Calls Try.prog 17 #[.string s] w fun e w' => e = .returned (.tuple #[.int .i64 (rdF s).1, .bool (rdF s).2]) ∧ Below w.heap.size w w' := by
  go_enter Try.func17, Try.ntmps17
  go_wp2
  go_loopw [4] (fun v wr => ∃ k : Nat, k ≤ 8 ∧ v = .int .i64 ((maskN s k : Nat) : Int) ∧ wr = w.iter lets k) (fun _ wr => 9 - posOf w.heap.size wr)
  case atStart => exact ⟨0, by omega, rfl, rfl⟩
  case round =>
    obtain ⟨k, hk, rfl, rfl⟩ := hrel
    have hm := mask_lt s k
    by_cases hlt : k < 8
    · have hnx := next_let w k hlt
      have HS : Hid (maskN s (k + 1) = maskN s k + (if conS s k then 2 ^ k else 0)) := (rfl : maskN s (k + 1) = _)
      have p1 : 2 ^ k ≤ 128 := Nat.pow_le_pow_right (by omega) (show k ≤ 7 by omega)
      go_wp2_with fail
      refine (Try.strings_ContainsRune_ascii s _ _ (by omega) (by have := letN_lt k hlt; omega)).mono ?_
      rintro e w1 ⟨rfl, rfl⟩
      rw [let_back k hlt]
      by_cases hA : conS s k = true
      · rw [show decide (0 ≤ Lib.indexByte s.data.toList (letN k)) = true from hA]
        have HN : Hid (bits .or .i64 ((maskN s k : Nat) : Int) (wrap64 (2 ^ k)) = ((maskN s (k + 1) : Nat) : Int)) := by show _ = _; rw [or_pow k _ hlt hm, HS.out, hA]; rfl
        clear HS hA
        go_wp2
        go_roundw
        case rel => exact ⟨k + 1, by omega, by rw [HN.out], rfl⟩
        case measure => rw [pos_iter, pos_iter]; omega
      · rw [Bool.not_eq_true] at hA
        rw [show decide (0 ≤ Lib.indexByte s.data.toList (letN k)) = false from hA]
        have HN : Hid (maskN s (k + 1) = maskN s k) := by show _ = _; rw [HS.out, hA]; rfl
        clear HS hA
        go_wp2
        go_roundw
        case rel => exact ⟨k + 1, by omega, by rw [HN.out], rfl⟩
        case measure => rw [pos_iter, pos_iter]; omega
    · obtain rfl : k = 8 := by omega
      have hnx := next_end w
      have HB : Hid (Below w.heap.size w (w.iter lets 8)) := iter_below w 8
      have hm2 : maskN s 8 < 256 := hm
      have HR : Hid (rdF s = if shN (maskN s 8) = s then (((maskN s 8 : Nat) : Int), true) else (0, false)) := (rfl : rdF s = _)
      generalize maskN s 8 = m at *
      go_wp2_with fail
      refine (implShow_is m _).mono ?_
      rintro e w1 ⟨rfl, hb⟩
      have hb2 : Below w.heap.size w w1 := HB.out.trans (hb.mono HB.out.size)
      clear hb
      rw [shN_eq m hm2]
      by_cases hq : shN m = s
      · have HE : Hid (rdF s = ((m : Int), true)) := by show _ = _; rw [HR.out, if_pos hq]
        rw [hq]
        clear hq HR
        go_wp2
        go_ret2
        exact ⟨ended (show ((m : Int), true) = rdF s from HE.out.symm), hb2⟩
      · have hne := same_list hq
        have HE : Hid (rdF s = (0, false)) := by show _ = _; rw [HR.out, if_neg hq]
        clear hq HR
        generalize shN m = q at *
        go_wp2
        go_ret2
        exact ⟨ended (show ((0 : Int), false) = rdF s from HE.out.symm), hb2⟩
set_option maxRecDepth 100000 in
theorem lawRead (s : ByteArray) (hs : s.size ≤ maxLen) (W : World) : Calls Try.prog 9 #[.string s] W fun e W' => e = .returned (.bool true) ∧ Below W.heap.size W W' := by
  unfold maxLen at hs
  by_cases hb : (s.size : Int) > 1048576
  · go_enter Try.func9, Try.ntmps9
    go_wp2
    go_ret
    exact ⟨rfl, Below.refl _ _⟩
  · go_enter Try.func9, Try.ntmps9
    go_wp2_with fail
    refine (specRead_is s _).mono ?_
    rintro e W1 ⟨rfl, b1⟩
    go_wp2_with fail
    refine (implRead_is s _).mono ?_
    rintro e W2 ⟨rfl, b2⟩
    have hb3 := b1.trans (b2.mono b1.size)
    clear b1 b2
    generalize rdF s = r
    go_wp2
    go_ret
    exact ⟨rfl, hb3⟩
end Go.Proofs.Ytcilgmofhkpkpaa
