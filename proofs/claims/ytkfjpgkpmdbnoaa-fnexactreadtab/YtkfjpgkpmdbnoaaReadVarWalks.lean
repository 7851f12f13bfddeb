/- The walks of ReadVar: the program. -/
import Derived.Test.YtkfjpgkpmdbnoaaRows
import Derived.Test.YtkfjpgkpmdbnoaaVarWalks
import Derived.Test.YtkfjpgkpmdbnoaaReadVarMath
import Derived.WalkKit
import Derived.WalkSpells
import Derived.WalkLawsBesides
import Derived.WalkMore
set_option linter.unusedVariables false
namespace Go.Proofs.Ytkfjpgkpmdbnoaa
open Go.RowKit Own Var

theorem ret2i {a b c d : Int} (h : a = b) (k : c = d) : Ending.returned (.tuple #[.int .i64 a, .int .i64 c]) = .returned (.tuple #[.int .i64 b, .int .i64 d]) := by rw [h, k]
theorem pow_bd (k : Nat) (h : k ≤ 6) : 1 ≤ 128 ^ k ∧ 128 ^ k ≤ 4398046511104 :=
  ⟨Nat.pow_pos (by omega), by have : 128 ^ k ≤ 128 ^ 6 := Nat.pow_le_pow_right (by omega) h
                              have e : 128 ^ 6 = 4398046511104 := by decide
                              omega⟩
/-- No answer: a byte of noughts ends it. -/
theorem ans_needless (s : ByteArray) (k : Nat) (hk : k < s.size) (h0 : 0 < k) (G : ∀ j, j < k → 128 ≤ at_ s j) (hb : s[k].toNat = 0) : Ans s 0 0 := by
  rw [at_eq s k hk] at hb
  refine Or.inl ⟨rfl, rfl, fun j _ _ hc => ?_⟩
  rcases Nat.lt_trichotomy j k with h | h | h
  · have := G j h; have := hc.2.1; omega
  · subst h; rcases hc.2.2 with h2 | h2 <;> omega
  · have := hc.1 k h; omega
/-- No answer: all bytes say 'more'. -/
theorem ans_none (s : ByteArray) (k : Nat) (hk : k = 7 ∨ k = s.size) (G : ∀ j, j < k → 128 ≤ at_ s j) : Ans s 0 0 := by
  refine Or.inl ⟨rfl, rfl, fun j h7 hs hc => ?_⟩
  have := G j (by omega)
  have := hc.2.1
  omega
/-- The answer: a byte ends it. -/
theorem ans_some (s : ByteArray) (k : Nat) (hk : k < s.size) (h7 : k < 7) (G : ∀ j, j < k → 128 ≤ at_ s j) (hb : s[k].toNat < 128) (h0 : k = 0 ∨ s[k].toNat ≠ 0) :
    Ans s (valB (s.data.toList.take (k + 1))) (k + 1) := by
  rw [at_eq s k hk] at hb h0
  exact Or.inr ⟨by omega, by omega, by omega, ⟨G, hb, h0⟩, rfl⟩
theorem val_step (s : ByteArray) (k : Nat) (hk : k < s.size) : ((valB (s.data.toList.take (k + 1)) : Nat) : Int) = (valB (s.data.toList.take k) : Int) + (s[k].toNat : Int) % 128 * ((128 ^ k : Nat) : Int) := by
  have hlen : (s.data.toList.take k).length = k := by rw [List.length_take]; have : s.data.toList.length = s.size := rfl; omega
  rw [Num.take_snoc s k hk, valB_snoc, hlen, Int.natCast_add, Int.natCast_mul]
  rfl

set_option maxRecDepth 100000 in
set_option maxHeartbeats 1600000 in
theorem impl_rv (s : ByteArray) (w : World) (h : s.size ≤ 1048576) :
    Calls Try.prog 65 #[.string s] w fun e w' => ∃ n k : Nat, e = .returned (.tuple #[.int .i64 n, .int .i64 k]) ∧ Ans s n k ∧ w' = w := by
  by_cases hm : 7 < s.size
  all_goals
    go_enter Try.func65, Try.ntmps65
    go_wp2
    go_step3
    go_wp2
    go_step3
    go_wp2
    go_loop [4, 5, 11] (fun n wt i => ∃ k W : Nat, k ≤ s.size ∧ k ≤ 7 ∧ i = .int .i64 k ∧ n = .int .i64 (valB (s.data.toList.take k) : Nat) ∧ wt = .int .i64 (W : Nat) ∧ Hid (W = 128 ^ k) ∧ Hid (∀ j, j < k → 128 ≤ at_ s j)) (fun _ _ i => 7 - (intOf i).toNat)
    case atStart => exact ⟨0, 1, by omega, by omega, rfl, rfl, rfl, rfl, fun j hj => absurd hj (by omega)⟩
    case round =>
      obtain ⟨k, W, hk, hk7, rfl, rfl, rfl, EW, G⟩ := hrel
      by_cases hlt : k < s.size ∧ k < 7
      · obtain ⟨hlt, hlt7⟩ := hlt
        have hb8 := s[k].toNat_lt
        have hW : 1 ≤ W ∧ W ≤ 4398046511104 := by rw [EW.out]; exact pow_bd k (by omega)
        have hv : valB (s.data.toList.take k) < 4398046511104 := by
          have h1 := valB_lt (s.data.toList.take k)
          have h2 : 128 ^ (s.data.toList.take k).length ≤ 128 ^ 6 := Nat.pow_le_pow_right (by omega) (by have := List.length_take_le k s.data.toList; omega)
          have e : 128 ^ 6 = 4398046511104 := by decide
          omega
        have hp0 : 0 ≤ (s[k].toNat : Int) % 128 * (W : Int) := Int.mul_nonneg (by omega) (by omega)
        have hp1 : (s[k].toNat : Int) % 128 * (W : Int) ≤ 558551906910208 := by
          have : (s[k].toNat : Int) % 128 * (W : Int) ≤ 127 * 4398046511104 := Int.mul_le_mul (by omega) (by omega) (by omega) (by omega)
          omega
        have VS : Hid (((valB (s.data.toList.take (k + 1)) : Nat) : Int) = (valB (s.data.toList.take k) : Int) + (s[k].toNat : Int) % 128 * (W : Int)) := by rw [EW.out]; exact val_step s k hlt
        by_cases hz : s[k].toNat = 0
        · have hz' : ((s[k].toNat : Int) == 0) = true := by simp; omega
          by_cases h0 : 0 < k
          · have A : Hid (Ans s 0 0) := ans_needless s k hlt h0 G.out hz
            clear hz
            go_wp2
            try rw [Exit.noGoto_ret]
            go_ret2
            exact ⟨0, 0, rfl, A.out, rfl⟩
          · have A : Hid (Ans s (valB (s.data.toList.take (k + 1))) (k + 1)) := ans_some s k hlt hlt7 G.out (by omega) (Or.inl (by omega))
            have hl : (s[k].toNat : Int) < 128 := by omega
            clear hz
            go_wp2
            try rw [Exit.noGoto_ret]
            go_ret2
            exact ⟨_, k + 1, ret2i VS.out.symm (by omega), A.out, rfl⟩
        · have hz' : ((s[k].toNat : Int) == 0) = false := by simp; omega
          by_cases h1 : s[k].toNat < 128
          · have A : Hid (Ans s (valB (s.data.toList.take (k + 1))) (k + 1)) := ans_some s k hlt hlt7 G.out h1 (Or.inr hz)
            go_wp2
            try rw [Exit.noGoto_ret]
            go_ret2
            exact ⟨_, k + 1, ret2i VS.out.symm (by omega), A.out, rfl⟩
          · have G' : Hid (∀ j, j < k + 1 → 128 ≤ at_ s j) := by
              intro j hj
              by_cases e : j = k
              · rw [e, ← at_eq s k hlt]; omega
              · exact G.out j (by omega)
            have EW' : Hid (W * 128 = 128 ^ (k + 1)) := by show _ = _; rw [EW.out, Nat.pow_succ]
            clear G EW
            go_wp2
            go_round
            case rel => exact ⟨k + 1, W * 128, by omega, by omega, by go_num, by rw [VS.out], by go_num, EW', G'⟩
            case measure => simp [intOf]; omega
      · have A : Hid (Ans s 0 0) := ans_none s k (by omega) G.out
        go_wp2
        try rw [Exit.noGoto_ret]
        go_ret2
        exact ⟨0, 0, rfl, A.out, rfl⟩
end Go.Proofs.Ytkfjpgkpmdbnoaa
