/- The walks of Var: the document's model and the program, one contract each. -/
import Derived.Test.YtjcmbbnklfemcaaGreatRows
import Derived.Test.YtjcmbbnklfemcaaGreatOwn
import Derived.WalkKit
import Derived.WalkSpells
import Derived.WalkLawsBesides
import Derived.WalkMore
import Derived.Deep.RegionHeld3
set_option linter.unusedVariables false
namespace Go.Proofs.YtjcmbbnklfemcaaGreat
open Go.RowKit Own Var

theorem infoU8 : (Tryz.prog.info? 5).map (fun i => (i.zero, i.size, i.bytes)) = some (some (.int .u8 0), 1, 1) := by kernel_rfl

set_option maxHeartbeats 400000 in
theorem spec_var_no (n : Int) (w : World) (h : ¬ (0 ≤ n ∧ n ≤ 562949953421311)) :
    Calls Tryz.prog 151 #[.int .i64 n] w fun e w' => e = .returned (.string ⟨#[]⟩) ∧ w' = w := by
  by_cases h1 : 0 ≤ n
  · have h3 : decide (n ≤ 562949953421311) = false := by simp; omega
    clear h
    go_enter Tryz.func151, Tryz.ntmps151
    go_wp2
    go_ret
    exact ⟨rfl, rfl⟩
  · clear h
    have h1' : n < 0 := by omega
    go_enter Tryz.func151, Tryz.ntmps151
    go_wp2
    go_ret
    exact ⟨rfl, rfl⟩

set_option maxRecDepth 100000 in
set_option maxHeartbeats 800000 in
theorem spec_var_yes (n : Nat) (w : World) (h : n ≤ 562949953421311) :
    Calls Tryz.prog 151 #[.int .i64 n] w fun e w' => e = .returned (.string ⟨(varB n).toArray⟩) ∧ Below w.heap.size w w' := by
  obtain ⟨i0, hi, hz0, hz1, hz2⟩ := info_parts infoU8
  have hd : decide ((n : Int) ≤ 562949953421311) = true := by simp; omega
  have H7 : Hid ((varB n).length ≤ 7) := varB_seven n h
  go_enter Tryz.func151, Tryz.ntmps151
  go_wp2
  go_loopw [0, 3] (fun a v wr => ∃ (m : Nat) (l : List UInt8), a = .int .i64 m ∧ m ≤ n ∧ l ++ varB m = varB n ∧ wr.ownsRow w.heap.size 5 1 v l.length (bytesOf l) ∧ Below w.heap.size w wr) (fun a _ _ => (intOf a).toNat)
  case atStart => exact ⟨n, [], rfl, Nat.le_refl _, rfl, World.ownsRow_lit _ _ _ (Nat.le_refl _) (by unfold maxLen; omega) rfl, (Below.refl _ _).alloc (Nat.le_refl _) _⟩
  case round =>
    obtain ⟨m, l, rfl, hmn, hl, hown, hbel⟩ := hrel
    have H : Hid (l ++ varB m = varB n) := hl
    have hlen : l.length ≤ 6 := by have h1 := congrArg List.length hl; have h2 := H7.out; have h3 := varB_pos m; rw [List.length_append] at h1; omega
    clear hl
    by_cases h1 : m < 128
    · go_wp2_with (first | (at_builtin; refine wpList_append_own _ rfl _ _ 206 rfl w.heap.size 5 i0 (.int .u8 0) 1 1 Tryz.underlying206 hi hz0 hz1 hz2 rfl (by decide) _ _ _ rfl (hown.alloc _) ⟨wr.heap.size, 0, none⟩ 1 1 [.int .u8 (m : Int)] rfl rfl (cell_one_new _ _ _) ?c2 ?c3 ?c4 ?c5 ?_) | go_in)
      case c2 => intro u hu; simp at hu; subst hu; rfl
      case c3 => unfold maxLen; omega
      case c4 => omega
      case c5 => have := hbel.size; simp; omega
      intro v' w1 hown' hgrow _
      have e : l ++ [UInt8.ofNat m] = varB n := by rw [← H.out, varB_small m h1]
      rw [push_small l m h1, e] at hown'
      have hb := below_app hbel (Nat.le_refl _) hown hgrow
      have hcv := conv_own (P := Tryz.prog) 206 9 5 Tryz.underlying206 Tryz.underlying5 Tryz.underlying9 hown'
      clear hown' hgrow hown hbel e
      go_wp2
      go_ret
      exact ⟨rfl, hb⟩
    · have h2 : 128 ≤ m := by omega
      go_wp2_with (first | (at_builtin; refine wpList_append_own _ rfl _ _ 206 rfl w.heap.size 5 i0 (.int .u8 0) 1 1 Tryz.underlying206 hi hz0 hz1 hz2 rfl (by decide) _ _ _ rfl (hown.alloc _) ⟨wr.heap.size, 0, none⟩ 1 1 [.int .u8 (128 + (m : Int) % 128)] rfl rfl (cell_one_new _ _ _) ?d2 ?d3 ?d4 ?d5 ?_) | go_in)
      case d2 => intro u hu; simp at hu; subst hu; rfl
      case d3 => unfold maxLen; omega
      case d4 => omega
      case d5 => have := hbel.size; simp; omega
      intro v' w1 hown' hgrow _
      have e : (l ++ [UInt8.ofNat (128 + m % 128)]) ++ varB (m / 128) = varB n := by rw [← H.out, varB_great m h1]; simp
      rw [push_great l m] at hown'
      have hb := below_app hbel (Nat.le_refl _) hown hgrow
      have E : Hid ((l ++ [UInt8.ofNat (128 + m % 128)]) ++ varB (m / 128) = varB n) := e
      clear hgrow hown hbel e
      go_wp2
      go_roundw
      case rel =>
        have R : ∃ (m' : Nat) (l' : List UInt8), Value.int .i64 ((m : Int) / 128) = .int .i64 m' ∧ m' ≤ n ∧ l' ++ varB m' = varB n ∧ w1.ownsRow w.heap.size 5 1 v' l'.length (bytesOf l') ∧ Below w.heap.size w w1 :=
          ⟨m / 128, _, by go_num, by omega, E.out, by rw [List.length_append]; exact hown', hb⟩
        first | exact R | ((repeat apply Exists.intro); exact ⟨R, rfl⟩)
      case measure => simp [intOf]; omega

/-- What Var answers. -/
def varOf (n : Int) : ByteArray := if 0 ≤ n ∧ n ≤ 562949953421311 then ⟨(varB n.toNat).toArray⟩ else ⟨#[]⟩

theorem spec_var (n : Int) (w : World) :
    Calls Tryz.prog 151 #[.int .i64 n] w fun e w' => e = .returned (.string (varOf n)) ∧ Below w.heap.size w w' := by
  by_cases h : 0 ≤ n ∧ n ≤ 562949953421311
  · obtain ⟨k, rfl⟩ := Int.eq_ofNat_of_zero_le h.1
    refine (spec_var_yes k w (by omega)).mono ?_
    rintro e w' ⟨rfl, hb⟩
    exact ⟨by rw [varOf, if_pos h]; rfl, hb⟩
  · refine (spec_var_no n w h).mono ?_
    rintro e w' ⟨rfl, rfl⟩
    exact ⟨by rw [varOf, if_neg h], Below.refl _ _⟩
end Go.Proofs.YtjcmbbnklfemcaaGreat

set_option linter.unusedVariables false
namespace Go.Proofs.YtjcmbbnklfemcaaGreat
open Go.RowKit Own Var

theorem ret2i {a b c d : Int} (h : a = b) (k : c = d) : Ending.returned (.tuple #[.int .i64 a, .int .i64 c]) = .returned (.tuple #[.int .i64 b, .int .i64 d]) := by rw [h, k]
theorem pow_bd (k : Nat) (h : k ≤ 6) : 1 ≤ 128 ^ k ∧ 128 ^ k ≤ 4398046511104 :=
  ⟨Nat.pow_pos (by omega), by have : 128 ^ k ≤ 128 ^ 6 := Nat.pow_le_pow_right (by omega) h
                              have e : 128 ^ 6 = 4398046511104 := by decide
                              omega⟩
/-- No answer: a byte of noughts ends it. -/
theorem ans_needless (s : ByteArray) (k : Nat) (hk : k < s.size) (h0 : 0 < k) (G : ∀ j, j < k → 128 ≤ at_ s j) (hb : s[k].toNat = 0) : Ans s 0 0 := by
  rw [at_eq s k hk] at hb
  refine Or.inl ⟨rfl, rfl, fun j _ _ hc => ?_⟩
  rcases Nat.lt_trichotomy j k with h | h | h
  · have := G j h; have := hc.2.1; omega
  · subst h; rcases hc.2.2 with h2 | h2 <;> omega
  · have := hc.1 k h; omega
/-- No answer: all bytes say 'more'. -/
theorem ans_none (s : ByteArray) (k : Nat) (hk : k = 7 ∨ k = s.size) (G : ∀ j, j < k → 128 ≤ at_ s j) : Ans s 0 0 := by
  refine Or.inl ⟨rfl, rfl, fun j h7 hs hc => ?_⟩
  have := G j (by omega)
  have := hc.2.1
  omega
/-- The answer: a byte ends it. -/
theorem ans_some (s : ByteArray) (k : Nat) (hk : k < s.size) (h7 : k < 7) (G : ∀ j, j < k → 128 ≤ at_ s j) (hb : s[k].toNat < 128) (h0 : k = 0 ∨ s[k].toNat ≠ 0) :
    Ans s (valB (s.data.toList.take (k + 1))) (k + 1) := by
  rw [at_eq s k hk] at hb h0
  exact Or.inr ⟨by omega, by omega, by omega, ⟨G, hb, h0⟩, rfl⟩
theorem val_step (s : ByteArray) (k : Nat) (hk : k < s.size) : ((valB (s.data.toList.take (k + 1)) : Nat) : Int) = (valB (s.data.toList.take k) : Int) + (s[k].toNat : Int) % 128 * ((128 ^ k : Nat) : Int) := by
  have hlen : (s.data.toList.take k).length = k := by rw [List.length_take]; have : s.data.toList.length = s.size := rfl; omega
  rw [Num.take_snoc s k hk, valB_snoc, hlen, Int.natCast_add, Int.natCast_mul]
  rfl

set_option maxRecDepth 100000 in
set_option maxHeartbeats 1600000 in
theorem impl_rv (s : ByteArray) (w : World) (h : s.size ≤ 1048576) :
    Calls Tryz.prog 186 #[.string s] w fun e w' => ∃ n k : Nat, e = .returned (.tuple #[.int .i64 n, .int .i64 k]) ∧ Ans s n k ∧ w' = w := by
  by_cases hm : 7 < s.size
  all_goals
    go_enter Tryz.func186, Tryz.ntmps186
    go_wp2
    go_step3
    go_wp2
    go_step3
    go_wp2
    go_loop [4, 5, 11] (fun n wt i => ∃ k W : Nat, k ≤ s.size ∧ k ≤ 7 ∧ i = .int .i64 k ∧ n = .int .i64 (valB (s.data.toList.take k) : Nat) ∧ wt = .int .i64 (W : Nat) ∧ Hid (W = 128 ^ k) ∧ Hid (∀ j, j < k → 128 ≤ at_ s j)) (fun _ _ i => 7 - (intOf i).toNat)
    case atStart => exact ⟨0, 1, by omega, by omega, rfl, rfl, rfl, rfl, fun j hj => absurd hj (by omega)⟩
    case round =>
      obtain ⟨k, W, hk, hk7, rfl, rfl, rfl, EW, G⟩ := hrel
      by_cases hlt : k < s.size ∧ k < 7
      · obtain ⟨hlt, hlt7⟩ := hlt
        have hb8 := s[k].toNat_lt
        have hW : 1 ≤ W ∧ W ≤ 4398046511104 := by rw [EW.out]; exact pow_bd k (by omega)
        have hv : valB (s.data.toList.take k) < 4398046511104 := by
          have h1 := valB_lt (s.data.toList.take k)
          have h2 : 128 ^ (s.data.toList.take k).length ≤ 128 ^ 6 := Nat.pow_le_pow_right (by omega) (by have := List.length_take_le k s.data.toList; omega)
          have e : 128 ^ 6 = 4398046511104 := by decide
          omega
        have hp0 : 0 ≤ (s[k].toNat : Int) % 128 * (W : Int) := Int.mul_nonneg (by omega) (by omega)
        have hp1 : (s[k].toNat : Int) % 128 * (W : Int) ≤ 558551906910208 := by
          have : (s[k].toNat : Int) % 128 * (W : Int) ≤ 127 * 4398046511104 := Int.mul_le_mul (by omega) (by omega) (by omega) (by omega)
          omega
        have VS : Hid (((valB (s.data.toList.take (k + 1)) : Nat) : Int) = (valB (s.data.toList.take k) : Int) + (s[k].toNat : Int) % 128 * (W : Int)) := by rw [EW.out]; exact val_step s k hlt
        by_cases hz : s[k].toNat = 0
        · have hz' : ((s[k].toNat : Int) == 0) = true := by simp; omega
          by_cases h0 : 0 < k
          · have A : Hid (Ans s 0 0) := ans_needless s k hlt h0 G.out hz
            clear hz
            go_wp2
            try rw [Exit.noGoto_ret]
            go_ret2
            exact ⟨0, 0, rfl, A.out, rfl⟩
          · have A : Hid (Ans s (valB (s.data.toList.take (k + 1))) (k + 1)) := ans_some s k hlt hlt7 G.out (by omega) (Or.inl (by omega))
            have hl : (s[k].toNat : Int) < 128 := by omega
            clear hz
            go_wp2
            try rw [Exit.noGoto_ret]
            go_ret2
            exact ⟨_, k + 1, ret2i VS.out.symm (by omega), A.out, rfl⟩
        · have hz' : ((s[k].toNat : Int) == 0) = false := by simp; omega
          by_cases h1 : s[k].toNat < 128
          · have A : Hid (Ans s (valB (s.data.toList.take (k + 1))) (k + 1)) := ans_some s k hlt hlt7 G.out h1 (Or.inr hz)
            go_wp2
            try rw [Exit.noGoto_ret]
            go_ret2
            exact ⟨_, k + 1, ret2i VS.out.symm (by omega), A.out, rfl⟩
          · have G' : Hid (∀ j, j < k + 1 → 128 ≤ at_ s j) := by
              intro j hj
              by_cases e : j = k
              · rw [e, ← at_eq s k hlt]; omega
              · exact G.out j (by omega)
            have EW' : Hid (W * 128 = 128 ^ (k + 1)) := by show _ = _; rw [EW.out, Nat.pow_succ]
            clear G EW
            go_wp2
            go_round
            case rel => exact ⟨k + 1, W * 128, by omega, by omega, by go_num, by rw [VS.out], by go_num, EW', G'⟩
            case measure => simp [intOf]; omega
      · have A : Hid (Ans s 0 0) := ans_none s k (by omega) G.out
        go_wp2
        try rw [Exit.noGoto_ret]
        go_ret2
        exact ⟨0, 0, rfl, A.out, rfl⟩
end Go.Proofs.YtjcmbbnklfemcaaGreat

set_option linter.unusedVariables false
namespace Go.Proofs.YtjcmbbnklfemcaaGreat
open Go.RowKit Own Var

/-- The number that the first k bytes say from place m on. -/
def tailV (s : ByteArray) (k m : Nat) : Nat := valB ((s.data.toList.take k).drop m)
theorem tailV_end (s : ByteArray) (k : Nat) : tailV s k k = 0 := by
  unfold tailV
  rw [List.drop_of_length_le (List.length_take_le _ _)]; rfl
theorem tailV_step (s : ByteArray) (k m : Nat) (hm : m < k) (hk : k ≤ s.size) : ((tailV s k m : Nat) : Int) = (tailV s k (m + 1) : Int) * 128 + (s[m].toNat : Int) % 128 := by
  have hlen : (s.data.toList.take k).length = k := by rw [List.length_take]; have : s.data.toList.length = s.size := rfl; omega
  have hl : m < (s.data.toList.take k).length := by omega
  unfold tailV
  rw [List.drop_eq_getElem_cons hl, valB]
  have e : (s.data.toList.take k)[m] = s[m] := by rw [List.getElem_take]; rfl
  rw [e, Int.natCast_add, Int.natCast_mul]
  have e2 : ((s[m].toNat % 128 : Nat) : Int) = (s[m].toNat : Int) % 128 := by omega
  rw [e2]
  omega
theorem tailV_bd (s : ByteArray) (k m : Nat) (hk : k ≤ 7) (hm : 1 ≤ m) : tailV s k m ≤ 4398046511103 := by
  have h1 := valB_lt ((s.data.toList.take k).drop m)
  have h2 : 128 ^ ((s.data.toList.take k).drop m).length ≤ 128 ^ 6 := Nat.pow_le_pow_right (by omega) (by rw [List.length_drop]; have := List.length_take_le k s.data.toList; omega)
  have e : 128 ^ 6 = 4398046511104 := by decide
  unfold tailV
  omega
theorem tailV_zero (s : ByteArray) (k : Nat) : tailV s k 0 = valB (s.data.toList.take k) := by rw [tailV, List.drop_zero]
theorem tailV_le (s : ByteArray) (k : Nat) (hk : k ≤ 7) : tailV s k 0 ≤ 562949953421311 := by
  rw [tailV_zero]
  exact valB_seven _ (by have := List.length_take_le k s.data.toList; omega)
theorem same_text (s : ByteArray) (k : Nat) (hk : k < s.size) (h7 : k < 7) : ((varOf (tailV s (k + 1) 0 : Nat)).toList == (s.extract 0 (k + 1)).toList) = true ↔ canonK s k := by
  rw [canonK_iff s k hk, varOf, if_pos (by have := tailV_le s (k + 1) (by omega); omega)]
  have e1 : (s.extract 0 (k + 1)).toList = s.data.toList.take (k + 1) := by
    rw [ByteArray.toList_eq]
    simp [ByteArray.data_extract]
  rw [ByteArray.toList_mk, e1, tailV_zero]
  simp

set_option maxRecDepth 100000 in
set_option maxHeartbeats 3200000 in
theorem spec_rv (s : ByteArray) (w : World) (h : s.size ≤ 1048576) :
    Calls Tryz.prog 102 #[.string s] w fun e w' => ∃ n k : Nat, e = .returned (.tuple #[.int .i64 n, .int .i64 k]) ∧ Ans s n k ∧ Below w.heap.size w w' := by
  go_enter Tryz.func102, Tryz.ntmps102
  go_wp2
  go_loopw [4, 5, 6] (fun kk _ _ wr => ∃ k : Nat, k ≤ 7 ∧ k ≤ s.size ∧ kk = .int .i64 ((k : Int) + 1) ∧ Hid (∀ j, j < k → ¬ canonK s j) ∧ Below w.heap.size w wr) (fun kk _ _ _ => 8 - (intOf kk).toNat)
  case atStart => exact ⟨0, by omega, by omega, rfl, (fun j hj => absurd hj (by omega)), Below.refl _ _⟩
  case round =>
    obtain ⟨k, hk7, hks, rfl, G, hbel⟩ := hrel
    by_cases hlt : k < 7
    · by_cases hlt2 : k < s.size
      · have i1 : (0 : Int) ≤ (k : Int) + 1 := by omega
        have i2 : (k : Int) + 1 ≤ (s.size : Int) := by omega
        go_wp2
        go_loop [5, 6] (fun n i => ∃ m : Nat, m ≤ k + 1 ∧ i = .int .i64 ((m : Int) - 1) ∧ n = .int .i64 (tailV s (k + 1) m : Nat)) (fun _ i => (intOf i + 1).toNat)
        case atStart => exact ⟨k + 1, by omega, by go_num, by rw [tailV_end]; rfl⟩
        case round =>
          obtain ⟨m, hm, rfl, rfl⟩ := hrel
          by_cases hm0 : 0 < m
          · obtain ⟨p, rfl⟩ : ∃ p, m = p + 1 := ⟨m - 1, by omega⟩
            have hps : p < s.size := by omega
            have hb8 := s[p].toNat_lt
            have hv := tailV_bd s (k + 1) (p + 1) (by omega) (by omega)
            have TS : Hid (((tailV s (k + 1) p : Nat) : Int) = (tailV s (k + 1) (p + 1) : Int) * 128 + (s[p].toNat : Int) % 128) := tailV_step s (k + 1) p (by omega) (by omega)
            go_wp2
            go_round
            case rel => exact ⟨p, by omega, by go_num, by rw [TS.out]⟩
            case measure => simp [intOf]
          · obtain rfl : m = 0 := by omega
            have ST := same_text s k hlt2 hlt
            by_cases hc : canonK s k
            · have hq := ST.2 hc
              have A : Hid (Ans s (tailV s (k + 1) 0) (k + 1)) := Or.inr ⟨by omega, by omega, by omega, hc, tailV_zero s (k + 1)⟩
              clear ST
              have hsz := hbel.size
              go_wp2_with fail
              go_region_held3 (fun _ => True) (trivial)
                ((go_at_call 151; refine (spec_var _ _).mono ?_; rintro e w' ⟨rfl, hb2⟩))
              all_goals
                go_wp2
                go_ret2
                exact ⟨_, k + 1, ret2i rfl (by omega), A.out, hbel.drew.trans (hb2.mono hsz)⟩
            · have hq : ((varOf (tailV s (k + 1) 0 : Nat)).toList == (s.extract 0 (k + 1)).toList) = false := by
                have := mt ST.1 hc
                simpa using this
              have G' : Hid (∀ j, j < k + 1 → ¬ canonK s j) := by
                intro j hj
                by_cases e : j = k
                · rw [e]; exact hc
                · exact G.out j (by omega)
              clear ST G
              have hsz := hbel.size
              go_wp2_with fail
              go_region_held3 (fun _ => True) (trivial)
                ((go_at_call 151; refine (spec_var _ _).mono ?_; rintro e w' ⟨rfl, hb2⟩))
              all_goals
                have R : ∃ k' : Nat, k' ≤ 7 ∧ k' ≤ s.size ∧ Value.int .i64 ((k : Int) + 1 + 1) = .int .i64 ((k' : Int) + 1) ∧ Hid (∀ j, j < k' → ¬ canonK s j) ∧ Below w.heap.size w w' :=
                  ⟨k + 1, by omega, by omega, by go_num, G', hbel.drew.trans (hb2.mono hsz)⟩
                go_wp2
                go_roundw
                case rel => first | exact R | ((repeat apply Exists.intro); exact ⟨R, rfl⟩)
                case measure => simp [intOf]; omega
      · have A : Hid (Ans s 0 0) := Or.inl ⟨rfl, rfl, fun j _ hj => G.out j (by omega)⟩
        go_wp2
        go_ret2
        exact ⟨0, 0, rfl, A.out, hbel⟩
    · have A : Hid (Ans s 0 0) := Or.inl ⟨rfl, rfl, fun j hj _ => G.out j (by omega)⟩
      go_wp2
      go_ret2
      exact ⟨0, 0, rfl, A.out, hbel⟩
end Go.Proofs.YtjcmbbnklfemcaaGreat
