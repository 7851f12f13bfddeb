/- ShowFlags: the program and the model. -/
import Derived.Test.YtcilgmofhkpkpaaFg6
import Derived.Laws.RangeString
set_option linter.unusedVariables false
namespace Go.Proofs.Ytcilgmofhkpkpaa
open Go Go.RowKit

theorem same_list {x y : ByteArray} (h : ¬ x = y) : (x.toList == y.toList) = false := by
  rw [Bool.eq_false_iff]
  intro hh
  have h2 := eq_of_beq hh
  rw [ByteArray.toList_eq, ByteArray.toList_eq] at h2
  refine h ?_
  cases x
  cases y
  congr 1
  exact Array.toList_inj.1 h2
theorem no_empty {s : ByteArray} (h : s.size ≠ 0) : s.toList.isEmpty = false := by
  rw [Bool.eq_false_iff]
  intro c
  apply h
  rw [ByteArray.toList_eq, List.isEmpty_iff] at c
  cases s
  simp at c
  rw [c]
  rfl
def hasB (n i : Int) : Bool := decide (0 ≤ i) && (bits .and .i64 (n / 2 ^ min i.toNat 64) 1 == 1)
set_option maxRecDepth 100000 in
theorem hasBit_is (n i : Int) (w : World) : Calls Try.prog 33 #[.int .i64 n, .int .i64 i] w fun e w' => e = .returned (.bool (hasB n i)) ∧ w = w' := by
  by_cases h : 0 ≤ i
  · go_enter Try.func33, Try.ntmps33
    go_wp2
    go_ret
    exact ⟨by unfold hasB; rw [show decide (0 ≤ i) = true by simpa using h]; rfl, rfl⟩
  · go_enter Try.func33, Try.ntmps33
    go_wp2
    go_ret
    exact ⟨by unfold hasB; rw [show decide (0 ≤ i) = false by simpa using h]; rfl, rfl⟩
theorem hasB_nat (n i : Nat) (hn : n ≤ 255) (hi : i ≤ 8) : hasB (n : Int) (i : Int) = hasN n (2 ^ i) := by
  unfold hasB hasN
  rw [show decide (0 ≤ (i : Int)) = true by simp, Bool.true_and, show min (i : Int).toNat 64 = i by simp; omega,
    show (n : Int) / 2 ^ i = ((n / 2 ^ i : Nat) : Int) by simp]
  have h2 : n / 2 ^ i ≤ n := Nat.div_le_self _ _
  rw [show (1 : Int) = ((1 : Nat) : Int) from rfl, bits_nat _ 1 (by omega) (by omega), Nat.and_one_is_mod]
  rw [Bool.eq_iff_iff]
  simp only [beq_iff_eq]
  omega
/-- The letters. -/
abbrev lets : ByteArray := ⟨#[102, 112, 114, 100, 105, 73, 70, 80]⟩
def letN : Nat → UInt8
  | 0 => 102
  | 1 => 112
  | 2 => 114
  | 3 => 100
  | 4 => 105
  | 5 => 73
  | 6 => 70
  | _ => 80
def oneS (k : Nat) : ByteArray := ⟨#[letN k]⟩
theorem lets_at (k : Nat) (h : k < 8) : lets[k]'h = letN k := by
  match k, h with
  | 0, _ => rfl
  | 1, _ => rfl
  | 2, _ => rfl
  | 3, _ => rfl
  | 4, _ => rfl
  | 5, _ => rfl
  | 6, _ => rfl
  | 7, _ => rfl
theorem lets_cut (k : Nat) (h : k < 8) : lets.extract k (k + 1) = oneS k := by
  match k, h with
  | 0, _ => rfl
  | 1, _ => rfl
  | 2, _ => rfl
  | 3, _ => rfl
  | 4, _ => rfl
  | 5, _ => rfl
  | 6, _ => rfl
  | 7, _ => rfl
def shS (f : Nat) : Nat → ByteArray
  | 0 => ByteArray.empty
  | k + 1 => if hasN f (2 ^ k) then shS f k ++ oneS k else shS f k
theorem shS_some : ∀ n < 256, n ≠ 0 → (shS n 8).size ≠ 0 := by decide +kernel
theorem shS_none : shS 0 8 = ByteArray.empty := by decide +kernel
def shT (f : Int) : ByteArray := if btw f 0 255 then (if f = 0 then ⟨#[45]⟩ else shS f.toNat 8) else ByteArray.empty
theorem shS_size (f : Nat) : ∀ k, (shS f k).size ≤ k
  | 0 => Nat.le_refl _
  | k + 1 => by
    have := shS_size f k
    unfold shS
    split
    · rw [ByteArray.size_append, show (oneS k).size = 1 from rfl]; omega
    · omega
set_option maxRecDepth 100000 in
theorem specShow_is (f : Int) (w : World) : Calls Try.prog 23 #[.int .i64 f] w fun e w' => e = .returned (.string (shT f)) ∧ w = w' := by
  go_enter Try.func23, Try.ntmps23
  go_wp2_with fail
  refine (specOk_is f _).mono ?_
  rintro e w1 ⟨rfl, rfl⟩
  by_cases hf : btw f 0 255 = true
  · have hf2 := (btw_iff _ _ _).1 hf
    obtain ⟨n, rfl⟩ : ∃ n : Nat, f = n := ⟨f.toNat, by omega⟩
    rw [hf]
    go_wp2
    go_loopw [4, 5, 6] (fun s b i wr => ∃ k : Nat, k ≤ 8 ∧ i = .int .i64 (k : Int) ∧ b = .int .i64 ((2 ^ k : Nat) : Int) ∧ s = .string (shS n k) ∧ w = wr) (fun _ _ i _ => 8 - (intOf i).toNat)
    case atStart => exact ⟨0, by omega, rfl, rfl, rfl, rfl⟩
    case round =>
      obtain ⟨k, hk, rfl, rfl, rfl, rfl⟩ := hrel
      have hs := shS_size n k
      by_cases hlt : k < 8
      · have k8 : (k : Int) < 8 := by omega
        have p1 : 2 ^ k ≤ 128 := Nat.pow_le_pow_right (by omega) (show k ≤ 7 by omega)
        have p2 : 0 < 2 ^ k := Nat.pow_pos (by omega)
        have p3 : 2 ^ (k + 1) = 2 ^ k * 2 := Nat.pow_succ ..
        have HS : Hid (shS n (k + 1) = if hasN n (2 ^ k) then shS n k ++ oneS k else shS n k) := (rfl : shS n (k + 1) = _)
        have hc := lets_cut k hlt
        have HM : hasM (n : Int) ((2 ^ k : Nat) : Int) = hasN n (2 ^ k) := hasM_nat n (2 ^ k)
        generalize hq : 2 ^ k = q at *
        go_wp2_with fail
        refine (hasM_is n q (by omega) (by omega) (by omega) (by omega) _).mono ?_
        rintro e w1 ⟨rfl, rfl⟩
        have hsum : (shS n k).size + (oneS k).size ≤ 9223372036854775807 := by rw [show (oneS k).size = 1 from rfl]; omega
        by_cases hA : hasM n q = true
        · have HN : Hid (shS n k ++ oneS k = shS n (k + 1)) := by show _ = _; rw [HS.out, ← HM, hA]; rfl
          have HP : Hid (((q : Nat) : Int) * 2 = ((2 ^ (k + 1) : Nat) : Int)) := by show _ = _; omega
          rw [hA]
          clear HS HM hA p3 hq
          go_wp2
          go_roundw
          case rel => exact ⟨k + 1, by omega, by go_num, by rw [HP.out], by rw [HN.out], trivial⟩
          case measure => simp [intOf]; omega
        · rw [Bool.not_eq_true] at hA
          have HN : Hid (shS n k = shS n (k + 1)) := by show _ = _; rw [HS.out, ← HM, hA]; rfl
          have HP : Hid (((q : Nat) : Int) * 2 = ((2 ^ (k + 1) : Nat) : Int)) := by show _ = _; omega
          rw [hA]
          clear HS HM hA p3 hq
          go_wp2
          go_roundw
          case rel => exact ⟨k + 1, by omega, by go_num, by rw [HP.out], by rw [← HN.out], trivial⟩
          case measure => simp [intOf]; omega
      · obtain rfl : k = 8 := by omega
        clear hs
        by_cases h0 : n = 0
        · subst h0
          have HE : Hid (shT ((0 : Nat) : Int) = ⟨#[45]⟩) := by show _ = _; unfold shT; rw [hf]; rfl
          rw [shS_none]
          clear hf hf2
          go_wp2
          go_ret
          exact ⟨by rw [HE.out]; rfl, rfl⟩
        · have HE : Hid (shT (n : Int) = shS n 8) := by show _ = _; unfold shT; rw [hf, if_pos rfl, if_neg (by omega)]; rfl
          have h1 := shS_some n (by omega) h0
          generalize shS n 8 = s8 at *
          have hne : s8.toList.isEmpty = false := no_empty h1
          clear hf hf2
          go_wp2
          go_ret
          exact ⟨by rw [HE.out]; rfl, rfl⟩
  · rw [Bool.not_eq_true] at hf
    have HE : Hid (shT f = ByteArray.empty) := by show _ = _; unfold shT; rw [hf]; rfl
    rw [hf]
    go_wp2
    go_ret
    exact ⟨by rw [HE.out]; rfl, rfl⟩
theorem conv_0 (w : World) : (convert 21 9 (.int .i32 102)).run Try.prog w = .ok (.string ⟨#[102]⟩) w := by kernel_rfl
theorem conv_1 (w : World) : (convert 21 9 (.int .i32 112)).run Try.prog w = .ok (.string ⟨#[112]⟩) w := by kernel_rfl
theorem conv_2 (w : World) : (convert 21 9 (.int .i32 114)).run Try.prog w = .ok (.string ⟨#[114]⟩) w := by kernel_rfl
theorem conv_3 (w : World) : (convert 21 9 (.int .i32 100)).run Try.prog w = .ok (.string ⟨#[100]⟩) w := by kernel_rfl
theorem conv_4 (w : World) : (convert 21 9 (.int .i32 105)).run Try.prog w = .ok (.string ⟨#[105]⟩) w := by kernel_rfl
theorem conv_5 (w : World) : (convert 21 9 (.int .i32 73)).run Try.prog w = .ok (.string ⟨#[73]⟩) w := by kernel_rfl
theorem conv_6 (w : World) : (convert 21 9 (.int .i32 70)).run Try.prog w = .ok (.string ⟨#[70]⟩) w := by kernel_rfl
theorem conv_7 (w : World) : (convert 21 9 (.int .i32 80)).run Try.prog w = .ok (.string ⟨#[80]⟩) w := by kernel_rfl
theorem conv_let (k : Nat) (h : k < 8) (w : World) : (convert 21 9 (.int .i32 ((letN k).toNat : Nat))).run Try.prog w = .ok (.string (oneS k)) w := by
  match k, h with
  | 0, _ => exact conv_0 w
  | 1, _ => exact conv_1 w
  | 2, _ => exact conv_2 w
  | 3, _ => exact conv_3 w
  | 4, _ => exact conv_4 w
  | 5, _ => exact conv_5 w
  | 6, _ => exact conv_6 w
  | 7, _ => exact conv_7 w
theorem letN_lt (k : Nat) (h : k < 8) : (letN k).toNat < 128 := by
  match k, h with
  | 0, _ => decide
  | 1, _ => decide
  | 2, _ => decide
  | 3, _ => decide
  | 4, _ => decide
  | 5, _ => decide
  | 6, _ => decide
  | 7, _ => decide
theorem next_let (w : World) (k : Nat) (h : k < 8) (ty : TypeId) : (Instr.next (.pointer (some ⟨w.heap.size, 0, none⟩)) true ty).run Try.prog (w.iter lets k) =
      .ok (.tuple #[.bool true, .int .i64 (k : Int), .int .i32 ((letN k).toNat : Nat)]) (w.iter lets (k + 1)) := by
  have e := lets_at k h
  have h2 := run_next_ascii (P := Try.prog) w lets k ty h (by rw [e]; exact letN_lt k h)
  rw [e] at h2
  exact h2
theorem next_end (w : World) (ty : TypeId) : (Instr.next (.pointer (some ⟨w.heap.size, 0, none⟩)) true ty).run Try.prog (w.iter lets 8) = .ok (.tuple #[.bool false]) (w.iter lets 8) :=
  run_next_end w lets 8 ty (by decide)
def posOf (g : Nat) (w : World) : Nat := match w.heap[g]? with | some (.stringIter _ p) => p | _ => 0
theorem pos_iter (w : World) (s : ByteArray) (k : Nat) : posOf w.heap.size (w.iter s k) = k := by unfold posOf; rw [World.iter_heap]
theorem iter_below (w : World) (k : Nat) : Below w.heap.size w (w.iter lets k) := (Below.refl _ _).alloc (Nat.le_refl _) _
set_option maxRecDepth 100000 in
theorem implShow_is (f : Int) (w : World) : Calls Try.prog 18 #[.int .i64 f] w fun e w' => e = .returned (.string (shT f)) ∧ Below w.heap.size w w' := by
  go_enter Try.func18, Try.ntmps18
  go_wp2_with fail
  refine (implOk_is f _).mono ?_
  rintro e w1 ⟨rfl, rfl⟩
  by_cases hf : btw f 0 255 = true
  · have hf2 := (btw_iff _ _ _).1 hf
    obtain ⟨n, rfl⟩ : ∃ n : Nat, f = n := ⟨f.toNat, by omega⟩
    rw [hf]
    by_cases h0 : n = 0
    · subst h0
      have HE : Hid (shT ((0 : Nat) : Int) = ⟨#[45]⟩) := by show _ = _; unfold shT; rw [hf]; rfl
      clear hf hf2
      go_wp2
      go_ret
      exact ⟨by rw [HE.out]; rfl, Below.refl _ _⟩
    · have HE : Hid (shT (n : Int) = shS n 8) := by show _ = _; unfold shT; rw [hf, if_pos rfl, if_neg (by omega)]; rfl
      have hz : ((n : Int) == 0) = false := by simp; omega
      clear hf
      go_wp2
      go_loopw [3] (fun s wr => ∃ k : Nat, k ≤ 8 ∧ s = .string (shS n k) ∧ wr = w.iter lets k) (fun _ wr => 9 - posOf w.heap.size wr)
      case atStart => exact ⟨0, by omega, rfl, rfl⟩
      case round =>
        obtain ⟨k, hk, rfl, rfl⟩ := hrel
        have hs := shS_size n k
        by_cases hlt : k < 8
        · have hnx := next_let w k hlt
          have HS : Hid (shS n (k + 1) = if hasN n (2 ^ k) then shS n k ++ oneS k else shS n k) := (rfl : shS n (k + 1) = _)
          have hcv := conv_let k hlt
          have HM := hasB_nat n k (by omega) (by omega)
          have hsum : (shS n k).size + (oneS k).size ≤ 9223372036854775807 := by rw [show (oneS k).size = 1 from rfl]; omega
          go_wp2_with fail
          refine (hasBit_is n k _).mono ?_
          rintro e w1 ⟨rfl, rfl⟩
          by_cases hA : hasB (n : Int) (k : Int) = true
          · have HN : Hid (shS n k ++ oneS k = shS n (k + 1)) := by show _ = _; rw [HS.out, ← HM, hA]; rfl
            rw [hA]
            clear HS HM hA
            go_wp2
            go_roundw
            case rel => exact ⟨k + 1, by omega, by rw [HN.out], rfl⟩
            case measure => rw [pos_iter, pos_iter]; omega
          · rw [Bool.not_eq_true] at hA
            have HN : Hid (shS n k = shS n (k + 1)) := by show _ = _; rw [HS.out, ← HM, hA]; rfl
            rw [hA]
            clear HS HM hA
            go_wp2
            go_roundw
            case rel => exact ⟨k + 1, by omega, by rw [← HN.out], rfl⟩
            case measure => rw [pos_iter, pos_iter]; omega
        · obtain rfl : k = 8 := by omega
          have hnx := next_end w
          clear hs
          generalize shS n 8 = s8 at *
          have HB : Hid (Below w.heap.size w (w.iter lets 8)) := iter_below w 8
          go_wp2
          go_ret
          exact ⟨by rw [HE.out]; rfl, HB.out⟩
  · rw [Bool.not_eq_true] at hf
    have HE : Hid (shT f = ByteArray.empty) := by show _ = _; unfold shT; rw [hf]; rfl
    rw [hf]
    go_wp2
    go_ret
    exact ⟨by rw [HE.out]; rfl, Below.refl _ _⟩
set_option maxRecDepth 100000 in
theorem lawShow (f : Int) (W : World) : Calls Try.prog 8 #[.int .i64 f] W fun e W' => e = .returned (.bool true) ∧ Below W.heap.size W W' := by
  go_enter Try.func8, Try.ntmps8
  go_wp2_with fail
  refine (specShow_is f _).mono ?_
  rintro e W1 ⟨rfl, rfl⟩
  go_wp2_with fail
  refine (implShow_is f _).mono ?_
  rintro e W2 ⟨rfl, hb⟩
  generalize shT f = s
  go_wp2
  go_ret
  exact ⟨rfl, hb⟩
end Go.Proofs.Ytcilgmofhkpkpaa
