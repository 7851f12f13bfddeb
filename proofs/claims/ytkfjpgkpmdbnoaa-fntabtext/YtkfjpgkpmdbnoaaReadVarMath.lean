/- Plain mathematics for ReadVar: which beginnings of a text Var makes. -/
import Derived.Test.YtkfjpgkpmdbnoaaVarMath
import Derived.Test.YtkfjpgkpmdbnoaaNum
import Derived.Test.YtkfjpgkpmdbnoaaRows
import Derived.Test.YtkfjpgkpmdbnoaaVarWalks
import Derived.WalkKit
import Derived.WalkSpells
import Derived.WalkLawsBesides
import Derived.WalkMore
import Derived.Deep.RegionHeld3
namespace Go.Proofs.Ytkfjpgkpmdbnoaa.Var
open Own

/-- What bytes say, seven bits each, the lowest first. -/
def valB : List UInt8 → Nat
  | [] => 0
  | b :: l => b.toNat % 128 + 128 * valB l
theorem valB_lt (l : List UInt8) : valB l < 128 ^ l.length := by
  induction l with
  | nil => decide
  | cons b l ih =>
    rw [valB, List.length_cons, Nat.pow_succ]
    generalize 128 ^ l.length = q at *
    omega
theorem valB_snoc (l : List UInt8) (b : UInt8) : valB (l ++ [b]) = valB l + b.toNat % 128 * 128 ^ l.length := by
  induction l with
  | nil => simp [valB]
  | cons c l ih =>
    rw [List.cons_append, valB, valB, ih, List.length_cons, Nat.pow_succ, Nat.mul_add]
    have : 128 * (b.toNat % 128 * 128 ^ l.length) = b.toNat % 128 * (128 ^ l.length * 128) := by rw [Nat.mul_comm 128, Nat.mul_assoc]
    omega
theorem valB_seven (l : List UInt8) (h : l.length ≤ 7) : valB l ≤ 562949953421311 := by
  have h1 := valB_lt l
  have h2 : 128 ^ l.length ≤ 128 ^ 7 := Nat.pow_le_pow_right (by omega) h
  have h3 : 128 ^ 7 = 562949953421312 := by decide
  omega

/-- A beginning that Var can have made: all but the last byte say 'more', and none is needless. -/
def canon (l : List UInt8) : Prop := ∃ p b, l = p ++ [b] ∧ (∀ x ∈ p, 128 ≤ x.toNat) ∧ b.toNat < 128 ∧ (p = [] ∨ b.toNat ≠ 0)

theorem varB_val (p : List UInt8) (b : UInt8) (hp : ∀ x ∈ p, 128 ≤ x.toNat) (hb : b.toNat < 128) (h0 : p = [] ∨ b.toNat ≠ 0) :
    varB (valB (p ++ [b])) = p ++ [b] ∧ (b.toNat ≠ 0 → 1 ≤ valB (p ++ [b])) := by
  induction p with
  | nil =>
    have e : valB ([] ++ [b]) = b.toNat := by simp [valB]; omega
    rw [e, varB_small _ hb]
    exact ⟨by simp, fun h => by omega⟩
  | cons c p ih =>
    have hb0 : b.toNat ≠ 0 := h0.resolve_left (by simp)
    have hc : 128 ≤ c.toNat := hp c (List.mem_cons_self ..)
    have hc2 := c.toNat_lt
    obtain ⟨i1, i2⟩ := ih (fun x hx => hp x (List.mem_cons_of_mem _ hx)) (Or.inr hb0)
    have hv := i2 hb0
    have e : valB (c :: p ++ [b]) = c.toNat % 128 + 128 * valB (p ++ [b]) := by rw [List.cons_append, valB]
    refine ⟨?_, fun _ => by rw [e]; omega⟩
    rw [e, varB_great _ (by omega)]
    have e1 : (c.toNat % 128 + 128 * valB (p ++ [b])) % 128 = c.toNat % 128 := by omega
    have e2 : (c.toNat % 128 + 128 * valB (p ++ [b])) / 128 = valB (p ++ [b]) := by omega
    rw [e1, e2, i1]
    have e3 : 128 + c.toNat % 128 = c.toNat := by omega
    rw [e3]
    simp
theorem canon_varB (n : Nat) : ∃ p b, varB n = p ++ [b] ∧ (∀ x ∈ p, 128 ≤ x.toNat) ∧ b.toNat < 128 ∧ (p = [] ∨ b.toNat ≠ 0) ∧ (1 ≤ n → b.toNat ≠ 0) := by
  induction n using Nat.strongRecOn with
  | ind n ih =>
    by_cases h : n < 128
    · refine ⟨[], UInt8.ofNat n, by rw [varB_small n h]; rfl, by simp, ?_, Or.inl rfl, ?_⟩
      · rw [UInt8.toNat_ofNat_of_lt' (by show _ < 256; omega)]; exact h
      · rw [UInt8.toNat_ofNat_of_lt' (by show _ < 256; omega)]; omega
    · obtain ⟨p, b, e, hp, hb, h0, h1⟩ := ih (n / 128) (by omega)
      have hb0 := h1 (by omega)
      refine ⟨UInt8.ofNat (128 + n % 128) :: p, b, by rw [varB_great n h, e]; rfl, ?_, hb, Or.inr hb0, fun _ => hb0⟩
      intro x hx
      rcases List.mem_cons.1 hx with rfl | hx
      · rw [UInt8.toNat_ofNat_of_lt' (by show _ < 256; omega)]; omega
      · exact hp x hx
theorem canon_iff (l : List UInt8) : canon l ↔ varB (valB l) = l := by
  constructor
  · rintro ⟨p, b, rfl, hp, hb, h0⟩
    exact (varB_val p b hp hb h0).1
  · intro h
    obtain ⟨p, b, e, hp, hb, h0, _⟩ := canon_varB (valB l)
    exact ⟨p, b, by rw [← h, e], hp, hb, h0⟩

/-- The byte at place i. -/
def at_ (s : ByteArray) (i : Nat) : Nat := (s.data.toList.getD i 0).toNat
theorem at_eq (s : ByteArray) (i : Nat) (h : i < s.size) : s[i].toNat = at_ s i := by
  have hl : i < s.data.toList.length := h
  unfold at_
  rw [List.getD_eq_getElem?_getD, List.getElem?_eq_getElem hl]
  rfl
theorem mem_take_at (s : ByteArray) (k : Nat) (hk : k ≤ s.size) (P : Nat → Prop) : (∀ x ∈ s.data.toList.take k, P x.toNat) ↔ ∀ j, j < k → P (at_ s j) := by
  have hlen : (s.data.toList.take k).length = k := by rw [List.length_take]; have : s.data.toList.length = s.size := rfl; omega
  constructor
  · intro h j hj
    have hl : j < s.data.toList.length := by have : s.data.toList.length = s.size := rfl; omega
    have : s.data.toList[j] ∈ s.data.toList.take k := by
      rw [List.mem_take_iff_getElem]
      exact ⟨j, by omega, rfl⟩
    have h2 := h _ this
    unfold at_
    rw [List.getD_eq_getElem?_getD, List.getElem?_eq_getElem hl]
    exact h2
  · intro h x hx
    rw [List.mem_take_iff_getElem] at hx
    obtain ⟨j, hj, rfl⟩ := hx
    have hl : j < s.data.toList.length := by omega
    have h2 := h j (by omega)
    unfold at_ at h2
    rw [List.getD_eq_getElem?_getD, List.getElem?_eq_getElem hl] at h2
    exact h2
/-- The same by places. -/
def canonK (s : ByteArray) (k : Nat) : Prop := (∀ j, j < k → 128 ≤ at_ s j) ∧ at_ s k < 128 ∧ (k = 0 ∨ at_ s k ≠ 0)
theorem canonK_iff (s : ByteArray) (k : Nat) (hk : k < s.size) : canonK s k ↔ varB (valB (s.data.toList.take (k + 1))) = s.data.toList.take (k + 1) := by
  rw [← canon_iff, Num.take_snoc s k hk]
  have hlen : (s.data.toList.take k).length = k := by rw [List.length_take]; have : s.data.toList.length = s.size := rfl; omega
  unfold canonK
  rw [← mem_take_at s k (by omega) (fun x => 128 ≤ x), ← at_eq s k hk]
  constructor
  · rintro ⟨h1, h2, h3⟩
    refine ⟨_, _, rfl, h1, h2, ?_⟩
    rcases h3 with h3 | h3
    · left; rw [h3]; rfl
    · exact Or.inr h3
  · rintro ⟨p, b, e, hp, hb, h0⟩
    obtain ⟨rfl, e2⟩ := List.append_inj' e rfl
    simp only [List.cons.injEq, and_true] at e2
    rw [e2]
    refine ⟨hp, hb, ?_⟩
    rcases h0 with h0 | h0
    · left
      have := congrArg List.length h0
      rw [hlen] at this
      simpa using this
    · exact Or.inr h0

/-- What ReadVar may answer: the number and how many bytes it took. -/
def Ans (s : ByteArray) (n k : Nat) : Prop :=
  (n = 0 ∧ k = 0 ∧ ∀ j, j < 7 → j < s.size → ¬ canonK s j) ∨ (1 ≤ k ∧ k ≤ 7 ∧ k ≤ s.size ∧ canonK s (k - 1) ∧ n = valB (s.data.toList.take k))
theorem canonK_one (s : ByteArray) (i j : Nat) (hi : canonK s i) (hj : canonK s j) : i = j := by
  rcases Nat.lt_trichotomy i j with h | h | h
  · have := hj.1 i h; have := hi.2.1; omega
  · exact h
  · have := hi.1 j h; have := hj.2.1; omega
theorem Ans_one (s : ByteArray) (n k n' k' : Nat) (h : Ans s n k) (h' : Ans s n' k') : n = n' ∧ k = k' := by
  rcases h with ⟨a, b, c⟩ | ⟨a1, a2, a3, a4, a5⟩ <;> rcases h' with ⟨a', b', c'⟩ | ⟨a1', a2', a3', a4', a5'⟩
  · omega
  · exact absurd a4' (c _ (by omega) (by omega))
  · exact absurd a4 (c' _ (by omega) (by omega))
  · have := canonK_one s _ _ a4 a4'
    have e : k = k' := by omega
    subst e
    exact ⟨by rw [a5, a5'], rfl⟩
end Go.Proofs.Ytkfjpgkpmdbnoaa.Var

set_option linter.unusedVariables false
namespace Go.Proofs.Ytkfjpgkpmdbnoaa
open Go.RowKit Own Var

theorem ret2i {a b c d : Int} (h : a = b) (k : c = d) : Ending.returned (.tuple #[.int .i64 a, .int .i64 c]) = .returned (.tuple #[.int .i64 b, .int .i64 d]) := by rw [h, k]
theorem pow_bd (k : Nat) (h : k ≤ 6) : 1 ≤ 128 ^ k ∧ 128 ^ k ≤ 4398046511104 :=
  ⟨Nat.pow_pos (by omega), by have : 128 ^ k ≤ 128 ^ 6 := Nat.pow_le_pow_right (by omega) h
                              have e : 128 ^ 6 = 4398046511104 := by decide
                              omega⟩
/-- No answer: a byte of noughts ends it. -/
theorem ans_needless (s : ByteArray) (k : Nat) (hk : k < s.size) (h0 : 0 < k) (G : ∀ j, j < k → 128 ≤ at_ s j) (hb : s[k].toNat = 0) : Ans s 0 0 := by
  rw [at_eq s k hk] at hb
  refine Or.inl ⟨rfl, rfl, fun j _ _ hc => ?_⟩
  rcases Nat.lt_trichotomy j k with h | h | h
  · have := G j h; have := hc.2.1; omega
  · subst h; rcases hc.2.2 with h2 | h2 <;> omega
  · have := hc.1 k h; omega
/-- No answer: all bytes say 'more'. -/
theorem ans_none (s : ByteArray) (k : Nat) (hk : k = 7 ∨ k = s.size) (G : ∀ j, j < k → 128 ≤ at_ s j) : Ans s 0 0 := by
  refine Or.inl ⟨rfl, rfl, fun j h7 hs hc => ?_⟩
  have := G j (by omega)
  have := hc.2.1
  omega
/-- The answer: a byte ends it. -/
theorem ans_some (s : ByteArray) (k : Nat) (hk : k < s.size) (h7 : k < 7) (G : ∀ j, j < k → 128 ≤ at_ s j) (hb : s[k].toNat < 128) (h0 : k = 0 ∨ s[k].toNat ≠ 0) :
    Ans s (valB (s.data.toList.take (k + 1))) (k + 1) := by
  rw [at_eq s k hk] at hb h0
  exact Or.inr ⟨by omega, by omega, by omega, ⟨G, hb, h0⟩, rfl⟩
theorem val_step (s : ByteArray) (k : Nat) (hk : k < s.size) : ((valB (s.data.toList.take (k + 1)) : Nat) : Int) = (valB (s.data.toList.take k) : Int) + (s[k].toNat : Int) % 128 * ((128 ^ k : Nat) : Int) := by
  have hlen : (s.data.toList.take k).length = k := by rw [List.length_take]; have : s.data.toList.length = s.size := rfl; omega
  rw [Num.take_snoc s k hk, valB_snoc, hlen, Int.natCast_add, Int.natCast_mul]
  rfl

set_option maxRecDepth 100000 in
set_option maxHeartbeats 1600000 in
theorem impl_rv (s : ByteArray) (w : World) (h : s.size ≤ 1048576) :
    Calls Try.prog 65 #[.string s] w fun e w' => ∃ n k : Nat, e = .returned (.tuple #[.int .i64 n, .int .i64 k]) ∧ Ans s n k ∧ w' = w := by
  by_cases hm : 7 < s.size
  all_goals
    go_enter Try.func65, Try.ntmps65
    go_wp2
    go_step3
    go_wp2
    go_step3
    go_wp2
    go_loop [4, 5, 11] (fun n wt i => ∃ k W : Nat, k ≤ s.size ∧ k ≤ 7 ∧ i = .int .i64 k ∧ n = .int .i64 (valB (s.data.toList.take k) : Nat) ∧ wt = .int .i64 (W : Nat) ∧ Hid (W = 128 ^ k) ∧ Hid (∀ j, j < k → 128 ≤ at_ s j)) (fun _ _ i => 7 - (intOf i).toNat)
    case atStart => exact ⟨0, 1, by omega, by omega, rfl, rfl, rfl, rfl, fun j hj => absurd hj (by omega)⟩
    case round =>
      obtain ⟨k, W, hk, hk7, rfl, rfl, rfl, EW, G⟩ := hrel
      by_cases hlt : k < s.size ∧ k < 7
      · obtain ⟨hlt, hlt7⟩ := hlt
        have hb8 := s[k].toNat_lt
        have hW : 1 ≤ W ∧ W ≤ 4398046511104 := by rw [EW.out]; exact pow_bd k (by omega)
        have hv : valB (s.data.toList.take k) < 4398046511104 := by
          have h1 := valB_lt (s.data.toList.take k)
          have h2 : 128 ^ (s.data.toList.take k).length ≤ 128 ^ 6 := Nat.pow_le_pow_right (by omega) (by have := List.length_take_le k s.data.toList; omega)
          have e : 128 ^ 6 = 4398046511104 := by decide
          omega
        have hp0 : 0 ≤ (s[k].toNat : Int) % 128 * (W : Int) := Int.mul_nonneg (by omega) (by omega)
        have hp1 : (s[k].toNat : Int) % 128 * (W : Int) ≤ 558551906910208 := by
          have : (s[k].toNat : Int) % 128 * (W : Int) ≤ 127 * 4398046511104 := Int.mul_le_mul (by omega) (by omega) (by omega) (by omega)
          omega
        have VS : Hid (((valB (s.data.toList.take (k + 1)) : Nat) : Int) = (valB (s.data.toList.take k) : Int) + (s[k].toNat : Int) % 128 * (W : Int)) := by rw [EW.out]; exact val_step s k hlt
        by_cases hz : s[k].toNat = 0
        · have hz' : ((s[k].toNat : Int) == 0) = true := by simp; omega
          by_cases h0 : 0 < k
          · have A : Hid (Ans s 0 0) := ans_needless s k hlt h0 G.out hz
            clear hz
            go_wp2
            try rw [Exit.noGoto_ret]
            go_ret2
            exact ⟨0, 0, rfl, A.out, rfl⟩
          · have A : Hid (Ans s (valB (s.data.toList.take (k + 1))) (k + 1)) := ans_some s k hlt hlt7 G.out (by omega) (Or.inl (by omega))
            have hl : (s[k].toNat : Int) < 128 := by omega
            clear hz
            go_wp2
            try rw [Exit.noGoto_ret]
            go_ret2
            exact ⟨_, k + 1, ret2i VS.out.symm (by omega), A.out, rfl⟩
        · have hz' : ((s[k].toNat : Int) == 0) = false := by simp; omega
          by_cases h1 : s[k].toNat < 128
          · have A : Hid (Ans s (valB (s.data.toList.take (k + 1))) (k + 1)) := ans_some s k hlt hlt7 G.out h1 (Or.inr hz)
            go_wp2
            try rw [Exit.noGoto_ret]
            go_ret2
            exact ⟨_, k + 1, ret2i VS.out.symm (by omega), A.out, rfl⟩
          · have G' : Hid (∀ j, j < k + 1 → 128 ≤ at_ s j) := by
              intro j hj
              by_cases e : j = k
              · rw [e, ← at_eq s k hlt]; omega
              · exact G.out j (by omega)
            have EW' : Hid (W * 128 = 128 ^ (k + 1)) := by show _ = _; rw [EW.out, Nat.pow_succ]
            clear G EW
            go_wp2
            go_round
            case rel => exact ⟨k + 1, W * 128, by omega, by omega, by go_num, by rw [VS.out], by go_num, EW', G'⟩
            case measure => simp [intOf]; omega
      · have A : Hid (Ans s 0 0) := ans_none s k (by omega) G.out
        go_wp2
        try rw [Exit.noGoto_ret]
        go_ret2
        exact ⟨0, 0, rfl, A.out, rfl⟩
end Go.Proofs.Ytkfjpgkpmdbnoaa

set_option linter.unusedVariables false
namespace Go.Proofs.Ytkfjpgkpmdbnoaa
open Go.RowKit Own Var

/-- The number that the first k bytes say from place m on. -/
def tailV (s : ByteArray) (k m : Nat) : Nat := valB ((s.data.toList.take k).drop m)
theorem tailV_end (s : ByteArray) (k : Nat) : tailV s k k = 0 := by
  unfold tailV
  rw [List.drop_of_length_le (List.length_take_le _ _)]; rfl
theorem tailV_step (s : ByteArray) (k m : Nat) (hm : m < k) (hk : k ≤ s.size) : ((tailV s k m : Nat) : Int) = (tailV s k (m + 1) : Int) * 128 + (s[m].toNat : Int) % 128 := by
  have hlen : (s.data.toList.take k).length = k := by rw [List.length_take]; have : s.data.toList.length = s.size := rfl; omega
  have hl : m < (s.data.toList.take k).length := by omega
  unfold tailV
  rw [List.drop_eq_getElem_cons hl, valB]
  have e : (s.data.toList.take k)[m] = s[m] := by rw [List.getElem_take]; rfl
  rw [e, Int.natCast_add, Int.natCast_mul]
  have e2 : ((s[m].toNat % 128 : Nat) : Int) = (s[m].toNat : Int) % 128 := by omega
  rw [e2]
  omega
theorem tailV_bd (s : ByteArray) (k m : Nat) (hk : k ≤ 7) (hm : 1 ≤ m) : tailV s k m ≤ 4398046511103 := by
  have h1 := valB_lt ((s.data.toList.take k).drop m)
  have h2 : 128 ^ ((s.data.toList.take k).drop m).length ≤ 128 ^ 6 := Nat.pow_le_pow_right (by omega) (by rw [List.length_drop]; have := List.length_take_le k s.data.toList; omega)
  have e : 128 ^ 6 = 4398046511104 := by decide
  unfold tailV
  omega
theorem tailV_zero (s : ByteArray) (k : Nat) : tailV s k 0 = valB (s.data.toList.take k) := by rw [tailV, List.drop_zero]
theorem tailV_le (s : ByteArray) (k : Nat) (hk : k ≤ 7) : tailV s k 0 ≤ 562949953421311 := by
  rw [tailV_zero]
  exact valB_seven _ (by have := List.length_take_le k s.data.toList; omega)
theorem same_text (s : ByteArray) (k : Nat) (hk : k < s.size) (h7 : k < 7) : ((varOf (tailV s (k + 1) 0 : Nat)).toList == (s.extract 0 (k + 1)).toList) = true ↔ canonK s k := by
  rw [canonK_iff s k hk, varOf, if_pos (by have := tailV_le s (k + 1) (by omega); omega)]
  have e1 : (s.extract 0 (k + 1)).toList = s.data.toList.take (k + 1) := by
    rw [ByteArray.toList_eq]
    simp [ByteArray.data_extract]
  rw [ByteArray.toList_mk, e1, tailV_zero]
  simp

set_option maxRecDepth 100000 in
set_option maxHeartbeats 3200000 in
theorem spec_rv (s : ByteArray) (w : World) (h : s.size ≤ 1048576) :
    Calls Try.prog 68 #[.string s] w fun e w' => ∃ n k : Nat, e = .returned (.tuple #[.int .i64 n, .int .i64 k]) ∧ Ans s n k ∧ Below w.heap.size w w' := by
  go_enter Try.func68, Try.ntmps68
  go_wp2
  go_loopw [4, 5, 6] (fun kk _ _ wr => ∃ k : Nat, k ≤ 7 ∧ k ≤ s.size ∧ kk = .int .i64 ((k : Int) + 1) ∧ Hid (∀ j, j < k → ¬ canonK s j) ∧ Below w.heap.size w wr) (fun kk _ _ _ => 8 - (intOf kk).toNat)
  case atStart => exact ⟨0, by omega, by omega, rfl, (fun j hj => absurd hj (by omega)), Below.refl _ _⟩
  case round =>
    obtain ⟨k, hk7, hks, rfl, G, hbel⟩ := hrel
    by_cases hlt : k < 7
    · by_cases hlt2 : k < s.size
      · have i1 : (0 : Int) ≤ (k : Int) + 1 := by omega
        have i2 : (k : Int) + 1 ≤ (s.size : Int) := by omega
        go_wp2
        go_loop [5, 6] (fun n i => ∃ m : Nat, m ≤ k + 1 ∧ i = .int .i64 ((m : Int) - 1) ∧ n = .int .i64 (tailV s (k + 1) m : Nat)) (fun _ i => (intOf i + 1).toNat)
        case atStart => exact ⟨k + 1, by omega, by go_num, by rw [tailV_end]; rfl⟩
        case round =>
          obtain ⟨m, hm, rfl, rfl⟩ := hrel
          by_cases hm0 : 0 < m
          · obtain ⟨p, rfl⟩ : ∃ p, m = p + 1 := ⟨m - 1, by omega⟩
            have hps : p < s.size := by omega
            have hb8 := s[p].toNat_lt
            have hv := tailV_bd s (k + 1) (p + 1) (by omega) (by omega)
            have TS : Hid (((tailV s (k + 1) p : Nat) : Int) = (tailV s (k + 1) (p + 1) : Int) * 128 + (s[p].toNat : Int) % 128) := tailV_step s (k + 1) p (by omega) (by omega)
            go_wp2
            go_round
            case rel => exact ⟨p, by omega, by go_num, by rw [TS.out]⟩
            case measure => simp [intOf]
          · obtain rfl : m = 0 := by omega
            have ST := same_text s k hlt2 hlt
            by_cases hc : canonK s k
            · have hq := ST.2 hc
              have A : Hid (Ans s (tailV s (k + 1) 0) (k + 1)) := Or.inr ⟨by omega, by omega, by omega, hc, tailV_zero s (k + 1)⟩
              clear ST
              have hsz := hbel.size
              go_wp2_with fail
              go_region_held3 (fun _ => True) (trivial)
                ((go_at_call 52; refine (spec_var _ _).mono ?_; rintro e w' ⟨rfl, hb2⟩))
              all_goals
                go_wp2
                go_ret2
                exact ⟨_, k + 1, ret2i rfl (by omega), A.out, hbel.drew.trans (hb2.mono hsz)⟩
            · have hq : ((varOf (tailV s (k + 1) 0 : Nat)).toList == (s.extract 0 (k + 1)).toList) = false := by
                have := mt ST.1 hc
                simpa using this
              have G' : Hid (∀ j, j < k + 1 → ¬ canonK s j) := by
                intro j hj
                by_cases e : j = k
                · rw [e]; exact hc
                · exact G.out j (by omega)
              clear ST G
              have hsz := hbel.size
              go_wp2_with fail
              go_region_held3 (fun _ => True) (trivial)
                ((go_at_call 52; refine (spec_var _ _).mono ?_; rintro e w' ⟨rfl, hb2⟩))
              all_goals
                have R : ∃ k' : Nat, k' ≤ 7 ∧ k' ≤ s.size ∧ Value.int .i64 ((k : Int) + 1 + 1) = .int .i64 ((k' : Int) + 1) ∧ Hid (∀ j, j < k' → ¬ canonK s j) ∧ Below w.heap.size w w' :=
                  ⟨k + 1, by omega, by omega, by go_num, G', hbel.drew.trans (hb2.mono hsz)⟩
                go_wp2
                go_roundw
                case rel => first | exact R | ((repeat apply Exists.intro); exact ⟨R, rfl⟩)
                case measure => simp [intOf]; omega
      · have A : Hid (Ans s 0 0) := Or.inl ⟨rfl, rfl, fun j _ hj => G.out j (by omega)⟩
        go_wp2
        go_ret2
        exact ⟨0, 0, rfl, A.out, hbel⟩
    · have A : Hid (Ans s 0 0) := Or.inl ⟨rfl, rfl, fun j hj _ => G.out j (by omega)⟩
      go_wp2
      go_ret2
      exact ⟨0, 0, rfl, A.out, hbel⟩
end Go.Proofs.Ytkfjpgkpmdbnoaa
