/- The walk of ReadVar: the document's model. -/
import Derived.Test.YtkfjpgkpmdbnoaaReadVarWalks
import Derived.WalkKit
import Derived.WalkSpells
import Derived.WalkLawsBesides
import Derived.Deep.RegionHeld3
set_option linter.unusedVariables false
namespace Go.Proofs.Ytkfjpgkpmdbnoaa
open Go.RowKit Own Var

/-- The number that the first k bytes say from place m on. -/
def tailV (s : ByteArray) (k m : Nat) : Nat := valB ((s.data.toList.take k).drop m)
theorem tailV_end (s : ByteArray) (k : Nat) : tailV s k k = 0 := by
  unfold tailV
  rw [List.drop_of_length_le (List.length_take_le _ _)]; rfl
theorem tailV_step (s : ByteArray) (k m : Nat) (hm : m < k) (hk : k ≤ s.size) : ((tailV s k m : Nat) : Int) = (tailV s k (m + 1) : Int) * 128 + (s[m].toNat : Int) % 128 := by
  have hlen : (s.data.toList.take k).length = k := by rw [List.length_take]; have : s.data.toList.length = s.size := rfl; omega
  have hl : m < (s.data.toList.take k).length := by omega
  unfold tailV
  rw [List.drop_eq_getElem_cons hl, valB]
  have e : (s.data.toList.take k)[m] = s[m] := by rw [List.getElem_take]; rfl
  rw [e, Int.natCast_add, Int.natCast_mul]
  have e2 : ((s[m].toNat % 128 : Nat) : Int) = (s[m].toNat : Int) % 128 := by omega
  rw [e2]
  omega
theorem tailV_bd (s : ByteArray) (k m : Nat) (hk : k ≤ 7) (hm : 1 ≤ m) : tailV s k m ≤ 4398046511103 := by
  have h1 := valB_lt ((s.data.toList.take k).drop m)
  have h2 : 128 ^ ((s.data.toList.take k).drop m).length ≤ 128 ^ 6 := Nat.pow_le_pow_right (by omega) (by rw [List.length_drop]; have := List.length_take_le k s.data.toList; omega)
  have e : 128 ^ 6 = 4398046511104 := by decide
  unfold tailV
  omega
theorem tailV_zero (s : ByteArray) (k : Nat) : tailV s k 0 = valB (s.data.toList.take k) := by rw [tailV, List.drop_zero]
theorem tailV_le (s : ByteArray) (k : Nat) (hk : k ≤ 7) : tailV s k 0 ≤ 562949953421311 := by
  rw [tailV_zero]
  exact valB_seven _ (by have := List.length_take_le k s.data.toList; omega)
theorem same_text (s : ByteArray) (k : Nat) (hk : k < s.size) (h7 : k < 7) : ((varOf (tailV s (k + 1) 0 : Nat)).toList == (s.extract 0 (k + 1)).toList) = true ↔ canonK s k := by
  rw [canonK_iff s k hk, varOf, if_pos (by have := tailV_le s (k + 1) (by omega); omega)]
  have e1 : (s.extract 0 (k + 1)).toList = s.data.toList.take (k + 1) := by
    rw [ByteArray.toList_eq]
    simp [ByteArray.data_extract]
  rw [ByteArray.toList_mk, e1, tailV_zero]
  simp

set_option maxRecDepth 100000 in
set_option maxHeartbeats 3200000 in
theorem spec_rv (s : ByteArray) (w : World) (h : s.size ≤ 1048576) :
    Calls Try.prog 68 #[.string s] w fun e w' => ∃ n k : Nat, e = .returned (.tuple #[.int .i64 n, .int .i64 k]) ∧ Ans s n k ∧ Below w.heap.size w w' := by
  go_enter Try.func68, Try.ntmps68
  go_wp2
  go_loopw [4, 5, 6] (fun kk _ _ wr => ∃ k : Nat, k ≤ 7 ∧ k ≤ s.size ∧ kk = .int .i64 ((k : Int) + 1) ∧ Hid (∀ j, j < k → ¬ canonK s j) ∧ Below w.heap.size w wr) (fun kk _ _ _ => 8 - (intOf kk).toNat)
  case atStart => exact ⟨0, by omega, by omega, rfl, (fun j hj => absurd hj (by omega)), Below.refl _ _⟩
  case round =>
    obtain ⟨k, hk7, hks, rfl, G, hbel⟩ := hrel
    by_cases hlt : k < 7
    · by_cases hlt2 : k < s.size
      · have i1 : (0 : Int) ≤ (k : Int) + 1 := by omega
        have i2 : (k : Int) + 1 ≤ (s.size : Int) := by omega
        go_wp2
        go_loop [5, 6] (fun n i => ∃ m : Nat, m ≤ k + 1 ∧ i = .int .i64 ((m : Int) - 1) ∧ n = .int .i64 (tailV s (k + 1) m : Nat)) (fun _ i => (intOf i + 1).toNat)
        case atStart => exact ⟨k + 1, by omega, by go_num, by rw [tailV_end]; rfl⟩
        case round =>
          obtain ⟨m, hm, rfl, rfl⟩ := hrel
          by_cases hm0 : 0 < m
          · obtain ⟨p, rfl⟩ : ∃ p, m = p + 1 := ⟨m - 1, by omega⟩
            have hps : p < s.size := by omega
            have hb8 := s[p].toNat_lt
            have hv := tailV_bd s (k + 1) (p + 1) (by omega) (by omega)
            have TS : Hid (((tailV s (k + 1) p : Nat) : Int) = (tailV s (k + 1) (p + 1) : Int) * 128 + (s[p].toNat : Int) % 128) := tailV_step s (k + 1) p (by omega) (by omega)
            go_wp2
            go_round
            case rel => exact ⟨p, by omega, by go_num, by rw [TS.out]⟩
            case measure => simp [intOf]
          · obtain rfl : m = 0 := by omega
            have ST := same_text s k hlt2 hlt
            by_cases hc : canonK s k
            · have hq := ST.2 hc
              have A : Hid (Ans s (tailV s (k + 1) 0) (k + 1)) := Or.inr ⟨by omega, by omega, by omega, hc, tailV_zero s (k + 1)⟩
              clear ST
              have hsz := hbel.size
              go_wp2_with fail
              go_region_held3 (fun _ => True) (trivial)
                ((go_at_call 52; refine (spec_var _ _).mono ?_; rintro e w' ⟨rfl, hb2⟩))
              all_goals
                go_wp2
                go_ret2
                exact ⟨_, k + 1, ret2i rfl (by omega), A.out, hbel.drew.trans (hb2.mono hsz)⟩
            · have hq : ((varOf (tailV s (k + 1) 0 : Nat)).toList == (s.extract 0 (k + 1)).toList) = false := by
                have := mt ST.1 hc
                simpa using this
              have G' : Hid (∀ j, j < k + 1 → ¬ canonK s j) := by
                intro j hj
                by_cases e : j = k
                · rw [e]; exact hc
                · exact G.out j (by omega)
              clear ST G
              have hsz := hbel.size
              go_wp2_with fail
              go_region_held3 (fun _ => True) (trivial)
                ((go_at_call 52; refine (spec_var _ _).mono ?_; rintro e w' ⟨rfl, hb2⟩))
              all_goals
                have R : ∃ k' : Nat, k' ≤ 7 ∧ k' ≤ s.size ∧ Value.int .i64 ((k : Int) + 1 + 1) = .int .i64 ((k' : Int) + 1) ∧ Hid (∀ j, j < k' → ¬ canonK s j) ∧ Below w.heap.size w w' :=
                  ⟨k + 1, by omega, by omega, by go_num, G', hbel.drew.trans (hb2.mono hsz)⟩
                go_wp2
                go_roundw
                case rel => first | exact R | ((repeat apply Exists.intro); exact ⟨R, rfl⟩)
                case measure => simp [intOf]; omega
      · have A : Hid (Ans s 0 0) := Or.inl ⟨rfl, rfl, fun j _ hj => G.out j (by omega)⟩
        go_wp2
        go_ret2
        exact ⟨0, 0, rfl, A.out, hbel⟩
    · have A : Hid (Ans s 0 0) := Or.inl ⟨rfl, rfl, fun j hj _ => G.out j (by omega)⟩
      go_wp2
      go_ret2
      exact ⟨0, 0, rfl, A.out, hbel⟩
end Go.Proofs.Ytkfjpgkpmdbnoaa
