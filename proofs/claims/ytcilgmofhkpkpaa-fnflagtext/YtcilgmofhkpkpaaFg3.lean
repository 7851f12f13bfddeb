/- Derive as the model has it. -/
import Derived.Test.YtcilgmofhkpkpaaFg2
set_option linter.unusedVariables false
namespace Go.Proofs.Ytcilgmofhkpkpaa
open Go Go.RowKit

/-! What the model says. -/
def outN (P W : Nat → Bool) (b : Bool) : Nat → Nat
  | 0 => 0
  | j + 1 => outN P W b j + (if P j && (W j || b) then pw j else 0)
theorem outN_bd (P W : Nat → Bool) (b : Bool) : ∀ j, j ≤ 4 → outN P W b j < pw j
  | 0, _ => Nat.one_pos
  | j + 1, h => by
    have := outN_bd P W b j (by omega)
    obtain ⟨p1, p2, p3⟩ := pw_le j (by omega)
    unfold outN
    split <;> omega
def needN : Nat → Nat
  | 2 => 1
  | 3 => 2
  | 4 => 4
  | 5 => 8
  | _ => 0
theorem needN_bd (k : Nat) : needN k ≤ 8 := by unfold needN; split <;> decide
def allN (k : Nat) : Bool := decide (k = 4) || decide (k = 6)
def outM (p w : Int) (k j : Nat) : Nat := outN (fun j => hasM p (pw j)) (fun j => hasM w (pw j)) (allN k) j
theorem outM_succ (p w : Int) (k j : Nat) : outM p w k (j + 1) = outM p w k j + (if hasM p (pw j) && (hasM w (pw j) || allN k) then pw j else 0) := rfl
def andN (o k : Nat) (i6 i7 : Bool) : Nat := o + (if i6 || decide (k = 2) then 64 else 0) + (if i7 || decide (k = 3) then 128 else 0) + (if k = 5 then 16 else 0)
def yes (n : Nat) : Int × Bool := ((n : Int), true)
def specD (p : Int) (k : Nat) (w : Int) : Int × Bool :=
  if (hasM p 16 != decide (k = 6)) then (0, false) else
  if decide (0 < needN k) && !hasM p (needN k) then (0, false) else yes (andN (outM p w k 4) k (hasM p 64) (hasM p 128))
theorem ended {x y : Int × Bool} (h : x = y) : Ending.returned (.tuple #[.int .i64 x.1, .bool x.2]) = Ending.returned (.tuple #[.int .i64 y.1, .bool y.2]) := by rw [h]
theorem need_cell {W1 : World} {g : Nat} (T : Blk g [.int .i64 0, .int .i64 0, .int .i64 1, .int .i64 2, .int .i64 4, .int .i64 8, .int .i64 0] W1) (k : Nat) (h : k ≤ 6) : W1.cell? ⟨g, k, none⟩ = some (.int .i64 (needN k : Nat)) := by
  match k, h with
  | 0, _ => exact T.at 0 rfl
  | 1, _ => exact T.at 1 rfl
  | 2, _ => exact T.at 2 rfl
  | 3, _ => exact T.at 3 rfl
  | 4, _ => exact T.at 4 rfl
  | 5, _ => exact T.at 5 rfl
  | 6, _ => exact T.at 6 rfl
set_option maxRecDepth 100000 in
theorem specDerA (p : Int) (k : Nat) (w : Int) (hp : btw p 0 255 = true) (hw : btw w 0 255 = true) (hw2 : w < 16) (hk1 : 1 ≤ k) (hk6 : k ≤ 6) (k6' : (k : Int) = 6) (W : World) : Calls Try.prog 13 #[.int .i64 p, .int .i64 (k : Int), .int .i64 w] W fun e W' => e = .returned (.tuple #[.int .i64 (specD p k w).1, .bool (specD p k w).2]) ∧ Below W.heap.size W W' := by
  have hp2 := (btw_iff _ _ _).1 hp
  have hv2 := (btw_iff _ _ _).1 hw
  have hv3 : ¬ 16 ≤ w := by omega
  have HD : Hid (specD p k w = if (hasM p 16 != decide (k = 6)) then (0, false) else if decide (0 < needN k) && !hasM p (needN k) then (0, false) else yes (andN (outM p w k 4) k (hasM p 64) (hasM p 128))) := (rfl : specD p k w = _)
  obtain ⟨W1, hW1⟩ : ∃ W1, W.alloc (.cells #[.int .i64 0, .int .i64 0, .int .i64 1, .int .i64 2, .int .i64 4, .int .i64 8, .int .i64 0] 3) = W1 := ⟨_, rfl⟩
  have HB1 : Hid (Below W.heap.size W W1) := by show Below _ _ _; rw [← hW1]; exact (Below.refl _ _).alloc (Nat.le_refl _) _
  have T1 : Blk W.heap.size [.int .i64 0, .int .i64 0, .int .i64 1, .int .i64 2, .int .i64 4, .int .i64 8, .int .i64 0] W1 := by rw [← hW1]; exact Blk.new _ _ _
  have c1 := need_cell T1 k hk6
  clear T1
  have k1 : (1 : Int) ≤ (k : Int) := by omega
  have k6 : (k : Int) ≤ 6 := by omega
  have k7 : (k : Int) < 7 := by omega
  have nb := needN_bd k
  have K6 : Hid ((k : Int) = 6) := k6'
  have k6b : ((k : Int) == 6) = true := by simp; omega
  have n2 : ((k : Int) == 2) = false := by simp; omega
  have n3 : ((k : Int) == 3) = false := by simp; omega
  have n4 : ((k : Int) == 4) = false := by simp; omega
  have n5 : ((k : Int) == 5) = false := by simp; omega
  clear k6'
  generalize hneed : needN k = nd at *
  go_enter Try.func13, Try.ntmps13
  go_wp2_with fail
  refine (specOk_is p _).mono ?_
  rintro e W2 ⟨rfl, rfl⟩
  rw [hp]
  go_wp2_with fail
  refine (specOk_is w _).mono ?_
  rintro e W2 ⟨rfl, rfl⟩
  rw [hw]
  go_wp2_with fail
  refine (in_is k 1 6 _).mono ?_
  rintro e W2 ⟨rfl, rfl⟩
  rw [show (decide ((1 : Int) ≤ (k : Int)) && decide ((k : Int) ≤ 6)) = true by simp; omega]
  clear hp hw
  go_wp2_with fail
  refine (hasM_is p 16 hp2.1 hp2.2 (by omega) (by omega) _).mono ?_
  rintro e W2 ⟨rfl, rfl⟩
  by_cases hI : (hasM p 16 != decide (k = 6)) = true
  · have HF : Hid (specD p k w = (0, false)) := by show _ = _; rw [HD.out, if_pos hI]
    have hI2 : (hasM p 16 == ((k : Int) == 6)) = false := by rw [show ((k : Int) == 6) = decide (k = 6) by rw [Bool.eq_iff_iff]; simp; omega]; simpa using hI
    clear hI
    rw [k6b] at hI2
    have h16 : hasM p 16 = false := by simpa using hI2
    clear hI2
    go_wp2
    go_ret2
    exact ⟨ended (show ((0 : Int), false) = specD p k w from HF.out.symm), Below.refl _ _⟩
  · have hI2 : (hasM p 16 == ((k : Int) == 6)) = true := by rw [show ((k : Int) == 6) = decide (k = 6) by rw [Bool.eq_iff_iff]; simp; omega]; simpa using hI
    have HD2 : Hid (specD p k w = if decide (0 < nd) && !hasM p nd then (0, false) else yes (andN (outM p w k 4) k (hasM p 64) (hasM p 128))) := by show _ = _; rw [HD.out, if_neg hI]
    clear hI HD
    rw [k6b] at hI2
    have h16 : hasM p 16 = true := by simpa using hI2
    clear hI2
    have hn : ¬ 0 < nd := by rw [← hneed, show k = 6 by have := K6.out; omega]; decide
    have hn2 : ¬ (0 : Int) < ((nd : Nat) : Int) := by omega
    have HE : Hid (specD p k w = yes (andN (outM p w k 4) k (hasM p 64) (hasM p 128))) := by show _ = _; rw [HD2.out]; simp [hn]
    clear HD2
    go_wp2
    try rw [hW1]
    clear hW1
    go_loopw [9, 10] (fun o f wr => ∃ j : Nat, j ≤ 4 ∧ f = .int .i64 (pw j : Nat) ∧ o = .int .i64 (outM p w k j : Nat) ∧ W1 = wr) (fun _ f _ => 16 - (intOf f).toNat)
    case atStart => exact ⟨0, by omega, rfl, rfl, by first | rfl | trivial⟩
    case round =>
      obtain ⟨j, hj, rfl, rfl, rfl⟩ := hrel
      have hb0 := outN_bd (fun j => hasM p (pw j)) (fun j => hasM w (pw j)) (allN k) j hj
      have hb1 : outM p w k j < pw j := hb0
      clear hb0
      by_cases hlt : j < 4
      · obtain ⟨p1, p2, p3⟩ := pw_le j hlt
        have p4 : ((pw j : Nat) : Int) ≤ 8 := by omega
        have HS := outM_succ p w k j
        have HO : Hid (specD p k w = yes (andN (outM p w k 4) k (hasM p 64) (hasM p 128))) := HE
        clear HE
        generalize hq : pw j = q at *
        generalize hoo : outM p w k j = o at *
        go_wp2_with fail
        refine (hasM_is p q hp2.1 hp2.2 (by omega) (by omega) _).mono ?_
        rintro e W2 ⟨rfl, rfl⟩
        by_cases hA : hasM p q = true
        · rw [hA] at HS ⊢
          go_wp2_with fail
          refine (hasM_is w q hv2.1 hv2.2 (by omega) (by omega) _).mono ?_
          rintro e W2 ⟨rfl, rfl⟩
          by_cases hB : hasM w q = true
          · rw [hB] at HS ⊢
            have HN : Hid (((o : Nat) : Int) + ((q : Nat) : Int) = ((outM p w k (j + 1) : Nat) : Int)) := by show _ = _; rw [HS]; simp only [Bool.and_true, Bool.true_or, if_true]; omega
            have HP : Hid (((q : Nat) : Int) * 2 = ((pw (j + 1) : Nat) : Int)) := by show _ = _; omega
            clear HS p3
            go_wp2
            go_roundw
            case rel =>
              have R : ∃ j' : Nat, j' ≤ 4 ∧ Value.int .i64 (((q : Nat) : Int) * 2) = .int .i64 (pw j' : Nat) ∧ Value.int .i64 (((o : Nat) : Int) + ((q : Nat) : Int)) = .int .i64 (outM p w k j' : Nat) ∧ W1 = W1 := ⟨j + 1, by omega, by rw [HP.out], by rw [HN.out], rfl⟩
              first | exact R | exact ⟨j + 1, by omega, by rw [HP.out], by rw [HN.out], trivial⟩ | ((repeat apply Exists.intro); exact ⟨R, rfl⟩) | ((repeat apply Exists.intro); exact ⟨⟨j + 1, by omega, by rw [HP.out], by rw [HN.out], trivial⟩, rfl⟩)
            case measure => simp [intOf]; omega
          · rw [Bool.not_eq_true] at hB
            rw [hB] at HS ⊢
            have HN : Hid (((o : Nat) : Int) + ((q : Nat) : Int) = ((outM p w k (j + 1) : Nat) : Int)) := by show _ = _; rw [HS, show allN k = true by unfold allN; simp; have := K6.out; omega]; simp only [Bool.and_true, Bool.or_true, if_true]; omega
            have HP : Hid (((q : Nat) : Int) * 2 = ((pw (j + 1) : Nat) : Int)) := by show _ = _; omega
            clear HS p3
            go_wp2
            go_roundw
            case rel =>
              have R : ∃ j' : Nat, j' ≤ 4 ∧ Value.int .i64 (((q : Nat) : Int) * 2) = .int .i64 (pw j' : Nat) ∧ Value.int .i64 (((o : Nat) : Int) + ((q : Nat) : Int)) = .int .i64 (outM p w k j' : Nat) ∧ W1 = W1 := ⟨j + 1, by omega, by rw [HP.out], by rw [HN.out], rfl⟩
              first | exact R | exact ⟨j + 1, by omega, by rw [HP.out], by rw [HN.out], trivial⟩ | ((repeat apply Exists.intro); exact ⟨R, rfl⟩) | ((repeat apply Exists.intro); exact ⟨⟨j + 1, by omega, by rw [HP.out], by rw [HN.out], trivial⟩, rfl⟩)
            case measure => simp [intOf]; omega
        · rw [Bool.not_eq_true] at hA
          rw [hA] at HS ⊢
          have HN : Hid (((o : Nat) : Int) = ((outM p w k (j + 1) : Nat) : Int)) := by show _ = _; rw [HS]; simp only [Bool.false_and, Bool.false_eq_true, if_false]; omega
          have HP : Hid (((q : Nat) : Int) * 2 = ((pw (j + 1) : Nat) : Int)) := by show _ = _; omega
          clear HS p3
          go_wp2
          go_roundw
          case rel =>
            have R : ∃ j' : Nat, j' ≤ 4 ∧ Value.int .i64 (((q : Nat) : Int) * 2) = .int .i64 (pw j' : Nat) ∧ Value.int .i64 (((o : Nat) : Int)) = .int .i64 (outM p w k j' : Nat) ∧ W1 = W1 := ⟨j + 1, by omega, by rw [HP.out], by rw [HN.out], rfl⟩
            first | exact R | exact ⟨j + 1, by omega, by rw [HP.out], by rw [HN.out], trivial⟩ | ((repeat apply Exists.intro); exact ⟨R, rfl⟩) | ((repeat apply Exists.intro); exact ⟨⟨j + 1, by omega, by rw [HP.out], by rw [HN.out], trivial⟩, rfl⟩)
          case measure => simp [intOf]; omega
      · obtain rfl : j = 4 := by omega
        have p5 : pw 4 = 16 := rfl
        rw [p5] at hb1 ⊢
        clear p5
        generalize outM p w k 4 = o at *
        have HQ : ∀ i6 i7, hasM p 64 = i6 → hasM p 128 = i7 → specD p k w = yes (andN o k i6 i7) := fun i6 i7 e6 e7 => by rw [← e6, ← e7]; exact HE.out
        have HQ2 : Hid (∀ i6 i7, hasM p 64 = i6 → hasM p 128 = i7 → specD p k w = yes (andN o k i6 i7)) := HQ
        clear HQ HE
        go_wp2_with fail
        refine (hasM_is p 64 hp2.1 hp2.2 (by omega) (by omega) _).mono ?_
        rintro e W2 ⟨rfl, rfl⟩
        by_cases h6 : hasM p 64 = true
        · rw [h6]
          go_wp2_with fail
          refine (hasM_is p 128 hp2.1 hp2.2 (by omega) (by omega) _).mono ?_
          rintro e W2 ⟨rfl, rfl⟩
          by_cases h7 : hasM p 128 = true
          · rw [h7]
            have N5 : Hid (¬ (k : Int) = 5) := by show ¬ _; have := K6.out; omega
            go_wp2
            go_ret2
            exact ⟨ended (show (((o : Int) + 64 + 128), true) = specD p k w from Eq.symm (by rw [HQ2.out _ _ h6 h7]; unfold andN yes; simp only [if_neg (show ¬ k = 5 by have := N5.out; omega), Bool.true_or, if_true]; first | rfl | (congr 1; omega))), HB1.out⟩
          · rw [Bool.not_eq_true] at h7
            rw [h7]
            have N5 : Hid (¬ (k : Int) = 5) := by show ¬ _; have := K6.out; omega
            go_wp2
            go_ret2
            exact ⟨ended (show (((o : Int) + 64), true) = specD p k w from Eq.symm (by rw [HQ2.out _ _ h6 h7]; unfold andN yes; simp only [show decide (k = 3) = false by have := K6.out; simpa using (by omega : ¬ k = 3), if_neg (show ¬ k = 5 by have := N5.out; omega), Bool.true_or, Bool.false_or, if_true, if_false, Bool.false_eq_true]; first | rfl | (congr 1; omega))), HB1.out⟩
        · rw [Bool.not_eq_true] at h6
          rw [h6]
          go_wp2_with fail
          refine (hasM_is p 128 hp2.1 hp2.2 (by omega) (by omega) _).mono ?_
          rintro e W2 ⟨rfl, rfl⟩
          by_cases h7 : hasM p 128 = true
          · rw [h7]
            have N5 : Hid (¬ (k : Int) = 5) := by show ¬ _; have := K6.out; omega
            go_wp2
            go_ret2
            exact ⟨ended (show (((o : Int) + 128), true) = specD p k w from Eq.symm (by rw [HQ2.out _ _ h6 h7]; unfold andN yes; simp only [show decide (k = 2) = false by have := K6.out; simpa using (by omega : ¬ k = 2), if_neg (show ¬ k = 5 by have := N5.out; omega), Bool.true_or, Bool.false_or, if_true, if_false, Bool.false_eq_true]; first | rfl | (congr 1; omega))), HB1.out⟩
          · rw [Bool.not_eq_true] at h7
            rw [h7]
            have N5 : Hid (¬ (k : Int) = 5) := by show ¬ _; have := K6.out; omega
            go_wp2
            go_ret2
            exact ⟨ended (show (((o : Int)), true) = specD p k w from Eq.symm (by rw [HQ2.out _ _ h6 h7]; unfold andN yes; simp only [show decide (k = 2) = false by have := K6.out; simpa using (by omega : ¬ k = 2), show decide (k = 3) = false by have := K6.out; simpa using (by omega : ¬ k = 3), if_neg (show ¬ k = 5 by have := N5.out; omega), Bool.false_or, if_false, Bool.false_eq_true]; first | rfl | (congr 1; omega))), HB1.out⟩
set_option maxRecDepth 100000 in
theorem specDerB (p : Int) (k : Nat) (w : Int) (hp : btw p 0 255 = true) (hw : btw w 0 255 = true) (hw2 : w < 16) (hk1 : 1 ≤ k) (hk6 : k ≤ 6) (k6' : ¬ (k : Int) = 6) (hn : 0 < needN k) (W : World) : Calls Try.prog 13 #[.int .i64 p, .int .i64 (k : Int), .int .i64 w] W fun e W' => e = .returned (.tuple #[.int .i64 (specD p k w).1, .bool (specD p k w).2]) ∧ Below W.heap.size W W' := by
  have hp2 := (btw_iff _ _ _).1 hp
  have hv2 := (btw_iff _ _ _).1 hw
  have hv3 : ¬ 16 ≤ w := by omega
  have HD : Hid (specD p k w = if (hasM p 16 != decide (k = 6)) then (0, false) else if decide (0 < needN k) && !hasM p (needN k) then (0, false) else yes (andN (outM p w k 4) k (hasM p 64) (hasM p 128))) := (rfl : specD p k w = _)
  obtain ⟨W1, hW1⟩ : ∃ W1, W.alloc (.cells #[.int .i64 0, .int .i64 0, .int .i64 1, .int .i64 2, .int .i64 4, .int .i64 8, .int .i64 0] 3) = W1 := ⟨_, rfl⟩
  have HB1 : Hid (Below W.heap.size W W1) := by show Below _ _ _; rw [← hW1]; exact (Below.refl _ _).alloc (Nat.le_refl _) _
  have T1 : Blk W.heap.size [.int .i64 0, .int .i64 0, .int .i64 1, .int .i64 2, .int .i64 4, .int .i64 8, .int .i64 0] W1 := by rw [← hW1]; exact Blk.new _ _ _
  have c1 := need_cell T1 k hk6
  clear T1
  have k1 : (1 : Int) ≤ (k : Int) := by omega
  have k6 : (k : Int) ≤ 6 := by omega
  have k7 : (k : Int) < 7 := by omega
  have hn1 := hn
  clear hn
  have nb := needN_bd k
  generalize hneed : needN k = nd at *
  go_enter Try.func13, Try.ntmps13
  go_wp2_with fail
  refine (specOk_is p _).mono ?_
  rintro e W2 ⟨rfl, rfl⟩
  rw [hp]
  go_wp2_with fail
  refine (specOk_is w _).mono ?_
  rintro e W2 ⟨rfl, rfl⟩
  rw [hw]
  go_wp2_with fail
  refine (in_is k 1 6 _).mono ?_
  rintro e W2 ⟨rfl, rfl⟩
  rw [show (decide ((1 : Int) ≤ (k : Int)) && decide ((k : Int) ≤ 6)) = true by simp; omega]
  clear hp hw
  go_wp2_with fail
  refine (hasM_is p 16 hp2.1 hp2.2 (by omega) (by omega) _).mono ?_
  rintro e W2 ⟨rfl, rfl⟩
  by_cases hI : (hasM p 16 != decide (k = 6)) = true
  · have HF : Hid (specD p k w = (0, false)) := by show _ = _; rw [HD.out, if_pos hI]
    have hI2 : (hasM p 16 == ((k : Int) == 6)) = false := by rw [show ((k : Int) == 6) = decide (k = 6) by rw [Bool.eq_iff_iff]; simp; omega]; simpa using hI
    clear hI
    go_wp2
    go_ret2
    exact ⟨ended (show ((0 : Int), false) = specD p k w from HF.out.symm), Below.refl _ _⟩
  · have hI2 : (hasM p 16 == ((k : Int) == 6)) = true := by rw [show ((k : Int) == 6) = decide (k = 6) by rw [Bool.eq_iff_iff]; simp; omega]; simpa using hI
    have HD2 : Hid (specD p k w = if decide (0 < nd) && !hasM p nd then (0, false) else yes (andN (outM p w k 4) k (hasM p 64) (hasM p 128))) := by show _ = _; rw [HD.out, if_neg hI]
    clear hI HD
    have N6 : Hid (¬ (k : Int) = 6) := k6'
    have k6b : ((k : Int) == 6) = false := by simpa using k6'
    clear k6'
    rw [k6b] at hI2
    have hn2 : (0 : Int) < ((nd : Nat) : Int) := by omega
    go_wp2_with fail
    try rw [hW1]
    refine (hasM_is p nd hp2.1 hp2.2 (by omega) (by omega) _).mono ?_
    rintro e W2 ⟨rfl, rfl⟩
    by_cases hN : hasM p nd = true
    · have HE : Hid (specD p k w = yes (andN (outM p w k 4) k (hasM p 64) (hasM p 128))) := by show _ = _; rw [HD2.out, hN]; simp
      rw [hN]
      clear HD2 hN hn1 hn2
      go_wp2
      try rw [hW1]
      clear hW1
      go_loopw [9, 10] (fun o f wr => ∃ j : Nat, j ≤ 4 ∧ f = .int .i64 (pw j : Nat) ∧ o = .int .i64 (outM p w k j : Nat) ∧ W1 = wr) (fun _ f _ => 16 - (intOf f).toNat)
      case atStart => exact ⟨0, by omega, rfl, rfl, by first | rfl | trivial⟩
      case round =>
        obtain ⟨j, hj, rfl, rfl, rfl⟩ := hrel
        have hb0 := outN_bd (fun j => hasM p (pw j)) (fun j => hasM w (pw j)) (allN k) j hj
        have hb1 : outM p w k j < pw j := hb0
        clear hb0
        by_cases hlt : j < 4
        · obtain ⟨p1, p2, p3⟩ := pw_le j hlt
          have p4 : ((pw j : Nat) : Int) ≤ 8 := by omega
          have HS := outM_succ p w k j
          have HO : Hid (specD p k w = yes (andN (outM p w k 4) k (hasM p 64) (hasM p 128))) := HE
          clear HE
          generalize hq : pw j = q at *
          generalize hoo : outM p w k j = o at *
          go_wp2_with fail
          refine (hasM_is p q hp2.1 hp2.2 (by omega) (by omega) _).mono ?_
          rintro e W2 ⟨rfl, rfl⟩
          by_cases hA : hasM p q = true
          · rw [hA] at HS ⊢
            go_wp2_with fail
            refine (hasM_is w q hv2.1 hv2.2 (by omega) (by omega) _).mono ?_
            rintro e W2 ⟨rfl, rfl⟩
            by_cases hB : hasM w q = true
            · rw [hB] at HS ⊢
              have HN : Hid (((o : Nat) : Int) + ((q : Nat) : Int) = ((outM p w k (j + 1) : Nat) : Int)) := by show _ = _; rw [HS]; simp only [Bool.and_true, Bool.true_or, if_true]; omega
              have HP : Hid (((q : Nat) : Int) * 2 = ((pw (j + 1) : Nat) : Int)) := by show _ = _; omega
              clear HS p3
              go_wp2
              go_roundw
              case rel =>
                have R : ∃ j' : Nat, j' ≤ 4 ∧ Value.int .i64 (((q : Nat) : Int) * 2) = .int .i64 (pw j' : Nat) ∧ Value.int .i64 (((o : Nat) : Int) + ((q : Nat) : Int)) = .int .i64 (outM p w k j' : Nat) ∧ W1 = W1 := ⟨j + 1, by omega, by rw [HP.out], by rw [HN.out], rfl⟩
                first | exact R | exact ⟨j + 1, by omega, by rw [HP.out], by rw [HN.out], trivial⟩ | ((repeat apply Exists.intro); exact ⟨R, rfl⟩) | ((repeat apply Exists.intro); exact ⟨⟨j + 1, by omega, by rw [HP.out], by rw [HN.out], trivial⟩, rfl⟩)
              case measure => simp [intOf]; omega
            · rw [Bool.not_eq_true] at hB
              rw [hB] at HS ⊢
              by_cases k4 : (k : Int) = 4
              · have K4 : Hid ((k : Int) = 4) := k4
                have k4b : ((k : Int) == 4) = true := by simp; omega
                clear k4
                have HN : Hid (((o : Nat) : Int) + ((q : Nat) : Int) = ((outM p w k (j + 1) : Nat) : Int)) := by show _ = _; rw [HS, show allN k = true by unfold allN; simp; have := K4.out; omega]; simp only [Bool.and_true, Bool.or_true, if_true]; omega
                have HP : Hid (((q : Nat) : Int) * 2 = ((pw (j + 1) : Nat) : Int)) := by show _ = _; omega
                clear HS p3
                go_wp2
                go_roundw
                case rel =>
                  have R : ∃ j' : Nat, j' ≤ 4 ∧ Value.int .i64 (((q : Nat) : Int) * 2) = .int .i64 (pw j' : Nat) ∧ Value.int .i64 (((o : Nat) : Int) + ((q : Nat) : Int)) = .int .i64 (outM p w k j' : Nat) ∧ W1 = W1 := ⟨j + 1, by omega, by rw [HP.out], by rw [HN.out], rfl⟩
                  first | exact R | exact ⟨j + 1, by omega, by rw [HP.out], by rw [HN.out], trivial⟩ | ((repeat apply Exists.intro); exact ⟨R, rfl⟩) | ((repeat apply Exists.intro); exact ⟨⟨j + 1, by omega, by rw [HP.out], by rw [HN.out], trivial⟩, rfl⟩)
                case measure => simp [intOf]; omega
              · have N4 : Hid (¬ (k : Int) = 4) := k4
                have k4b : ((k : Int) == 4) = false := by simpa using k4
                clear k4
                have HN : Hid (((o : Nat) : Int) = ((outM p w k (j + 1) : Nat) : Int)) := by show _ = _; rw [HS, show allN k = false by unfold allN; have e4 := N4.out; have e6 := N6.out; rw [show decide (k = 4) = false by simpa using (by omega : ¬ k = 4), show decide (k = 6) = false by simpa using (by omega : ¬ k = 6)]; rfl]; simp only [Bool.and_false, Bool.or_false, Bool.false_eq_true, if_false]; omega
                have HP : Hid (((q : Nat) : Int) * 2 = ((pw (j + 1) : Nat) : Int)) := by show _ = _; omega
                clear HS p3
                go_wp2
                go_roundw
                case rel =>
                  have R : ∃ j' : Nat, j' ≤ 4 ∧ Value.int .i64 (((q : Nat) : Int) * 2) = .int .i64 (pw j' : Nat) ∧ Value.int .i64 (((o : Nat) : Int)) = .int .i64 (outM p w k j' : Nat) ∧ W1 = W1 := ⟨j + 1, by omega, by rw [HP.out], by rw [HN.out], rfl⟩
                  first | exact R | exact ⟨j + 1, by omega, by rw [HP.out], by rw [HN.out], trivial⟩ | ((repeat apply Exists.intro); exact ⟨R, rfl⟩) | ((repeat apply Exists.intro); exact ⟨⟨j + 1, by omega, by rw [HP.out], by rw [HN.out], trivial⟩, rfl⟩)
                case measure => simp [intOf]; omega
          · rw [Bool.not_eq_true] at hA
            rw [hA] at HS ⊢
            have HN : Hid (((o : Nat) : Int) = ((outM p w k (j + 1) : Nat) : Int)) := by show _ = _; rw [HS]; simp only [Bool.false_and, Bool.false_eq_true, if_false]; omega
            have HP : Hid (((q : Nat) : Int) * 2 = ((pw (j + 1) : Nat) : Int)) := by show _ = _; omega
            clear HS p3
            go_wp2
            go_roundw
            case rel =>
              have R : ∃ j' : Nat, j' ≤ 4 ∧ Value.int .i64 (((q : Nat) : Int) * 2) = .int .i64 (pw j' : Nat) ∧ Value.int .i64 (((o : Nat) : Int)) = .int .i64 (outM p w k j' : Nat) ∧ W1 = W1 := ⟨j + 1, by omega, by rw [HP.out], by rw [HN.out], rfl⟩
              first | exact R | exact ⟨j + 1, by omega, by rw [HP.out], by rw [HN.out], trivial⟩ | ((repeat apply Exists.intro); exact ⟨R, rfl⟩) | ((repeat apply Exists.intro); exact ⟨⟨j + 1, by omega, by rw [HP.out], by rw [HN.out], trivial⟩, rfl⟩)
            case measure => simp [intOf]; omega
        · obtain rfl : j = 4 := by omega
          have p5 : pw 4 = 16 := rfl
          rw [p5] at hb1 ⊢
          clear p5
          generalize outM p w k 4 = o at *
          have HQ : ∀ i6 i7, hasM p 64 = i6 → hasM p 128 = i7 → specD p k w = yes (andN o k i6 i7) := fun i6 i7 e6 e7 => by rw [← e6, ← e7]; exact HE.out
          have HQ2 : Hid (∀ i6 i7, hasM p 64 = i6 → hasM p 128 = i7 → specD p k w = yes (andN o k i6 i7)) := HQ
          clear HQ HE
          go_wp2_with fail
          refine (hasM_is p 64 hp2.1 hp2.2 (by omega) (by omega) _).mono ?_
          rintro e W2 ⟨rfl, rfl⟩
          by_cases h6 : hasM p 64 = true
          · rw [h6]
            go_wp2_with fail
            refine (hasM_is p 128 hp2.1 hp2.2 (by omega) (by omega) _).mono ?_
            rintro e W2 ⟨rfl, rfl⟩
            by_cases h7 : hasM p 128 = true
            · rw [h7]
              by_cases k5 : (k : Int) = 5
              · have K5 : Hid ((k : Int) = 5) := k5
                have k5b : ((k : Int) == 5) = true := by simp; omega
                clear k5
                go_wp2
                go_ret2
                exact ⟨ended (show (((o : Int) + 64 + 128 + 16), true) = specD p k w from Eq.symm (by rw [HQ2.out _ _ h6 h7]; unfold andN yes; simp only [if_pos (show k = 5 by have := K5.out; omega), Bool.true_or, if_true]; first | rfl | (congr 1; omega))), HB1.out⟩
              · have N5 : Hid (¬ (k : Int) = 5) := k5
                have k5b : ((k : Int) == 5) = false := by simpa using k5
                clear k5
                go_wp2
                go_ret2
                exact ⟨ended (show (((o : Int) + 64 + 128), true) = specD p k w from Eq.symm (by rw [HQ2.out _ _ h6 h7]; unfold andN yes; simp only [if_neg (show ¬ k = 5 by have := N5.out; omega), Bool.true_or, if_true]; first | rfl | (congr 1; omega))), HB1.out⟩
            · rw [Bool.not_eq_true] at h7
              rw [h7]
              by_cases k3 : (k : Int) = 3
              · have K3 : Hid ((k : Int) = 3) := k3
                have k3b : ((k : Int) == 3) = true := by simp; omega
                clear k3
                by_cases k5 : (k : Int) = 5
                · have K5 : Hid ((k : Int) = 5) := k5
                  have k5b : ((k : Int) == 5) = true := by simp; omega
                  clear k5
                  go_wp2
                  go_ret2
                  exact ⟨ended (show (((o : Int) + 64 + 128 + 16), true) = specD p k w from Eq.symm (by rw [HQ2.out _ _ h6 h7]; unfold andN yes; simp only [show decide (k = 3) = true by have := K3.out; simpa using (by omega : k = 3), if_pos (show k = 5 by have := K5.out; omega), Bool.true_or, Bool.false_or, if_true]; first | rfl | (congr 1; omega))), HB1.out⟩
                · have N5 : Hid (¬ (k : Int) = 5) := k5
                  have k5b : ((k : Int) == 5) = false := by simpa using k5
                  clear k5
                  go_wp2
                  go_ret2
                  exact ⟨ended (show (((o : Int) + 64 + 128), true) = specD p k w from Eq.symm (by rw [HQ2.out _ _ h6 h7]; unfold andN yes; simp only [show decide (k = 3) = true by have := K3.out; simpa using (by omega : k = 3), if_neg (show ¬ k = 5 by have := N5.out; omega), Bool.true_or, Bool.false_or, if_true]; first | rfl | (congr 1; omega))), HB1.out⟩
              · have N3 : Hid (¬ (k : Int) = 3) := k3
                have k3b : ((k : Int) == 3) = false := by simpa using k3
                clear k3
                by_cases k5 : (k : Int) = 5
                · have K5 : Hid ((k : Int) = 5) := k5
                  have k5b : ((k : Int) == 5) = true := by simp; omega
                  clear k5
                  go_wp2
                  go_ret2
                  exact ⟨ended (show (((o : Int) + 64 + 16), true) = specD p k w from Eq.symm (by rw [HQ2.out _ _ h6 h7]; unfold andN yes; simp only [show decide (k = 3) = false by have := N3.out; simpa using (by omega : ¬ k = 3), if_pos (show k = 5 by have := K5.out; omega), Bool.true_or, Bool.false_or, if_true, if_false, Bool.false_eq_true]; first | rfl | (congr 1; omega))), HB1.out⟩
                · have N5 : Hid (¬ (k : Int) = 5) := k5
                  have k5b : ((k : Int) == 5) = false := by simpa using k5
                  clear k5
                  go_wp2
                  go_ret2
                  exact ⟨ended (show (((o : Int) + 64), true) = specD p k w from Eq.symm (by rw [HQ2.out _ _ h6 h7]; unfold andN yes; simp only [show decide (k = 3) = false by have := N3.out; simpa using (by omega : ¬ k = 3), if_neg (show ¬ k = 5 by have := N5.out; omega), Bool.true_or, Bool.false_or, if_true, if_false, Bool.false_eq_true]; first | rfl | (congr 1; omega))), HB1.out⟩
          · rw [Bool.not_eq_true] at h6
            rw [h6]
            by_cases k2 : (k : Int) = 2
            · have K2 : Hid ((k : Int) = 2) := k2
              have k2b : ((k : Int) == 2) = true := by simp; omega
              clear k2
              go_wp2_with fail
              refine (hasM_is p 128 hp2.1 hp2.2 (by omega) (by omega) _).mono ?_
              rintro e W2 ⟨rfl, rfl⟩
              by_cases h7 : hasM p 128 = true
              · rw [h7]
                by_cases k5 : (k : Int) = 5
                · have K5 : Hid ((k : Int) = 5) := k5
                  have k5b : ((k : Int) == 5) = true := by simp; omega
                  clear k5
                  go_wp2
                  go_ret2
                  exact ⟨ended (show (((o : Int) + 64 + 128 + 16), true) = specD p k w from Eq.symm (by rw [HQ2.out _ _ h6 h7]; unfold andN yes; simp only [show decide (k = 2) = true by have := K2.out; simpa using (by omega : k = 2), if_pos (show k = 5 by have := K5.out; omega), Bool.true_or, Bool.false_or, if_true]; first | rfl | (congr 1; omega))), HB1.out⟩
                · have N5 : Hid (¬ (k : Int) = 5) := k5
                  have k5b : ((k : Int) == 5) = false := by simpa using k5
                  clear k5
                  go_wp2
                  go_ret2
                  exact ⟨ended (show (((o : Int) + 64 + 128), true) = specD p k w from Eq.symm (by rw [HQ2.out _ _ h6 h7]; unfold andN yes; simp only [show decide (k = 2) = true by have := K2.out; simpa using (by omega : k = 2), if_neg (show ¬ k = 5 by have := N5.out; omega), Bool.true_or, Bool.false_or, if_true]; first | rfl | (congr 1; omega))), HB1.out⟩
              · rw [Bool.not_eq_true] at h7
                rw [h7]
                by_cases k3 : (k : Int) = 3
                · have K3 : Hid ((k : Int) = 3) := k3
                  have k3b : ((k : Int) == 3) = true := by simp; omega
                  clear k3
                  by_cases k5 : (k : Int) = 5
                  · have K5 : Hid ((k : Int) = 5) := k5
                    have k5b : ((k : Int) == 5) = true := by simp; omega
                    clear k5
                    go_wp2
                    go_ret2
                    exact ⟨ended (show (((o : Int) + 64 + 128 + 16), true) = specD p k w from Eq.symm (by rw [HQ2.out _ _ h6 h7]; unfold andN yes; simp only [show decide (k = 2) = true by have := K2.out; simpa using (by omega : k = 2), show decide (k = 3) = true by have := K3.out; simpa using (by omega : k = 3), if_pos (show k = 5 by have := K5.out; omega), Bool.false_or, if_true]; first | rfl | (congr 1; omega))), HB1.out⟩
                  · have N5 : Hid (¬ (k : Int) = 5) := k5
                    have k5b : ((k : Int) == 5) = false := by simpa using k5
                    clear k5
                    go_wp2
                    go_ret2
                    exact ⟨ended (show (((o : Int) + 64 + 128), true) = specD p k w from Eq.symm (by rw [HQ2.out _ _ h6 h7]; unfold andN yes; simp only [show decide (k = 2) = true by have := K2.out; simpa using (by omega : k = 2), show decide (k = 3) = true by have := K3.out; simpa using (by omega : k = 3), if_neg (show ¬ k = 5 by have := N5.out; omega), Bool.false_or, if_true]; first | rfl | (congr 1; omega))), HB1.out⟩
                · have N3 : Hid (¬ (k : Int) = 3) := k3
                  have k3b : ((k : Int) == 3) = false := by simpa using k3
                  clear k3
                  by_cases k5 : (k : Int) = 5
                  · have K5 : Hid ((k : Int) = 5) := k5
                    have k5b : ((k : Int) == 5) = true := by simp; omega
                    clear k5
                    go_wp2
                    go_ret2
                    exact ⟨ended (show (((o : Int) + 64 + 16), true) = specD p k w from Eq.symm (by rw [HQ2.out _ _ h6 h7]; unfold andN yes; simp only [show decide (k = 2) = true by have := K2.out; simpa using (by omega : k = 2), show decide (k = 3) = false by have := N3.out; simpa using (by omega : ¬ k = 3), if_pos (show k = 5 by have := K5.out; omega), Bool.false_or, if_true, if_false, Bool.false_eq_true]; first | rfl | (congr 1; omega))), HB1.out⟩
                  · have N5 : Hid (¬ (k : Int) = 5) := k5
                    have k5b : ((k : Int) == 5) = false := by simpa using k5
                    clear k5
                    go_wp2
                    go_ret2
                    exact ⟨ended (show (((o : Int) + 64), true) = specD p k w from Eq.symm (by rw [HQ2.out _ _ h6 h7]; unfold andN yes; simp only [show decide (k = 2) = true by have := K2.out; simpa using (by omega : k = 2), show decide (k = 3) = false by have := N3.out; simpa using (by omega : ¬ k = 3), if_neg (show ¬ k = 5 by have := N5.out; omega), Bool.false_or, if_true, if_false, Bool.false_eq_true]; first | rfl | (congr 1; omega))), HB1.out⟩
            · have N2 : Hid (¬ (k : Int) = 2) := k2
              have k2b : ((k : Int) == 2) = false := by simpa using k2
              clear k2
              go_wp2_with fail
              refine (hasM_is p 128 hp2.1 hp2.2 (by omega) (by omega) _).mono ?_
              rintro e W2 ⟨rfl, rfl⟩
              by_cases h7 : hasM p 128 = true
              · rw [h7]
                by_cases k5 : (k : Int) = 5
                · have K5 : Hid ((k : Int) = 5) := k5
                  have k5b : ((k : Int) == 5) = true := by simp; omega
                  clear k5
                  go_wp2
                  go_ret2
                  exact ⟨ended (show (((o : Int) + 128 + 16), true) = specD p k w from Eq.symm (by rw [HQ2.out _ _ h6 h7]; unfold andN yes; simp only [show decide (k = 2) = false by have := N2.out; simpa using (by omega : ¬ k = 2), if_pos (show k = 5 by have := K5.out; omega), Bool.true_or, Bool.false_or, if_true, if_false, Bool.false_eq_true]; first | rfl | (congr 1; omega))), HB1.out⟩
                · have N5 : Hid (¬ (k : Int) = 5) := k5
                  have k5b : ((k : Int) == 5) = false := by simpa using k5
                  clear k5
                  go_wp2
                  go_ret2
                  exact ⟨ended (show (((o : Int) + 128), true) = specD p k w from Eq.symm (by rw [HQ2.out _ _ h6 h7]; unfold andN yes; simp only [show decide (k = 2) = false by have := N2.out; simpa using (by omega : ¬ k = 2), if_neg (show ¬ k = 5 by have := N5.out; omega), Bool.true_or, Bool.false_or, if_true, if_false, Bool.false_eq_true]; first | rfl | (congr 1; omega))), HB1.out⟩
              · rw [Bool.not_eq_true] at h7
                rw [h7]
                by_cases k3 : (k : Int) = 3
                · have K3 : Hid ((k : Int) = 3) := k3
                  have k3b : ((k : Int) == 3) = true := by simp; omega
                  clear k3
                  by_cases k5 : (k : Int) = 5
                  · have K5 : Hid ((k : Int) = 5) := k5
                    have k5b : ((k : Int) == 5) = true := by simp; omega
                    clear k5
                    go_wp2
                    go_ret2
                    exact ⟨ended (show (((o : Int) + 128 + 16), true) = specD p k w from Eq.symm (by rw [HQ2.out _ _ h6 h7]; unfold andN yes; simp only [show decide (k = 2) = false by have := N2.out; simpa using (by omega : ¬ k = 2), show decide (k = 3) = true by have := K3.out; simpa using (by omega : k = 3), if_pos (show k = 5 by have := K5.out; omega), Bool.false_or, if_true, if_false, Bool.false_eq_true]; first | rfl | (congr 1; omega))), HB1.out⟩
                  · have N5 : Hid (¬ (k : Int) = 5) := k5
                    have k5b : ((k : Int) == 5) = false := by simpa using k5
                    clear k5
                    go_wp2
                    go_ret2
                    exact ⟨ended (show (((o : Int) + 128), true) = specD p k w from Eq.symm (by rw [HQ2.out _ _ h6 h7]; unfold andN yes; simp only [show decide (k = 2) = false by have := N2.out; simpa using (by omega : ¬ k = 2), show decide (k = 3) = true by have := K3.out; simpa using (by omega : k = 3), if_neg (show ¬ k = 5 by have := N5.out; omega), Bool.false_or, if_true, if_false, Bool.false_eq_true]; first | rfl | (congr 1; omega))), HB1.out⟩
                · have N3 : Hid (¬ (k : Int) = 3) := k3
                  have k3b : ((k : Int) == 3) = false := by simpa using k3
                  clear k3
                  by_cases k5 : (k : Int) = 5
                  · have K5 : Hid ((k : Int) = 5) := k5
                    have k5b : ((k : Int) == 5) = true := by simp; omega
                    clear k5
                    go_wp2
                    go_ret2
                    exact ⟨ended (show (((o : Int) + 16), true) = specD p k w from Eq.symm (by rw [HQ2.out _ _ h6 h7]; unfold andN yes; simp only [show decide (k = 2) = false by have := N2.out; simpa using (by omega : ¬ k = 2), show decide (k = 3) = false by have := N3.out; simpa using (by omega : ¬ k = 3), if_pos (show k = 5 by have := K5.out; omega), Bool.false_or, if_false, Bool.false_eq_true]; first | rfl | (congr 1; omega))), HB1.out⟩
                  · have N5 : Hid (¬ (k : Int) = 5) := k5
                    have k5b : ((k : Int) == 5) = false := by simpa using k5
                    clear k5
                    go_wp2
                    go_ret2
                    exact ⟨ended (show (((o : Int)), true) = specD p k w from Eq.symm (by rw [HQ2.out _ _ h6 h7]; unfold andN yes; simp only [show decide (k = 2) = false by have := N2.out; simpa using (by omega : ¬ k = 2), show decide (k = 3) = false by have := N3.out; simpa using (by omega : ¬ k = 3), if_neg (show ¬ k = 5 by have := N5.out; omega), Bool.false_or, if_false, Bool.false_eq_true]; first | rfl | (congr 1; omega))), HB1.out⟩
    · rw [Bool.not_eq_true] at hN
      have HE : Hid (specD p k w = (0, false)) := by show _ = _; rw [HD2.out, hN]; simp [hn1]
      rw [hN]
      clear HD2 hN hn1
      go_wp2
      go_ret2
      exact ⟨ended (show ((0 : Int), false) = specD p k w from HE.out.symm), HB1.out⟩
set_option maxRecDepth 100000 in
theorem specDerC (p : Int) (k : Nat) (w : Int) (hp : btw p 0 255 = true) (hw : btw w 0 255 = true) (hw2 : w < 16) (hk1 : 1 ≤ k) (hk6 : k ≤ 6) (k6' : ¬ (k : Int) = 6) (hn : ¬ 0 < needN k) (W : World) : Calls Try.prog 13 #[.int .i64 p, .int .i64 (k : Int), .int .i64 w] W fun e W' => e = .returned (.tuple #[.int .i64 (specD p k w).1, .bool (specD p k w).2]) ∧ Below W.heap.size W W' := by
  have hp2 := (btw_iff _ _ _).1 hp
  have hv2 := (btw_iff _ _ _).1 hw
  have hv3 : ¬ 16 ≤ w := by omega
  have HD : Hid (specD p k w = if (hasM p 16 != decide (k = 6)) then (0, false) else if decide (0 < needN k) && !hasM p (needN k) then (0, false) else yes (andN (outM p w k 4) k (hasM p 64) (hasM p 128))) := (rfl : specD p k w = _)
  obtain ⟨W1, hW1⟩ : ∃ W1, W.alloc (.cells #[.int .i64 0, .int .i64 0, .int .i64 1, .int .i64 2, .int .i64 4, .int .i64 8, .int .i64 0] 3) = W1 := ⟨_, rfl⟩
  have HB1 : Hid (Below W.heap.size W W1) := by show Below _ _ _; rw [← hW1]; exact (Below.refl _ _).alloc (Nat.le_refl _) _
  have T1 : Blk W.heap.size [.int .i64 0, .int .i64 0, .int .i64 1, .int .i64 2, .int .i64 4, .int .i64 8, .int .i64 0] W1 := by rw [← hW1]; exact Blk.new _ _ _
  have c1 := need_cell T1 k hk6
  clear T1
  have k1 : (1 : Int) ≤ (k : Int) := by omega
  have k6 : (k : Int) ≤ 6 := by omega
  have k7 : (k : Int) < 7 := by omega
  have hn1 := hn
  clear hn
  have nb := needN_bd k
  generalize hneed : needN k = nd at *
  go_enter Try.func13, Try.ntmps13
  go_wp2_with fail
  refine (specOk_is p _).mono ?_
  rintro e W2 ⟨rfl, rfl⟩
  rw [hp]
  go_wp2_with fail
  refine (specOk_is w _).mono ?_
  rintro e W2 ⟨rfl, rfl⟩
  rw [hw]
  go_wp2_with fail
  refine (in_is k 1 6 _).mono ?_
  rintro e W2 ⟨rfl, rfl⟩
  rw [show (decide ((1 : Int) ≤ (k : Int)) && decide ((k : Int) ≤ 6)) = true by simp; omega]
  clear hp hw
  go_wp2_with fail
  refine (hasM_is p 16 hp2.1 hp2.2 (by omega) (by omega) _).mono ?_
  rintro e W2 ⟨rfl, rfl⟩
  by_cases hI : (hasM p 16 != decide (k = 6)) = true
  · have HF : Hid (specD p k w = (0, false)) := by show _ = _; rw [HD.out, if_pos hI]
    have hI2 : (hasM p 16 == ((k : Int) == 6)) = false := by rw [show ((k : Int) == 6) = decide (k = 6) by rw [Bool.eq_iff_iff]; simp; omega]; simpa using hI
    clear hI
    go_wp2
    go_ret2
    exact ⟨ended (show ((0 : Int), false) = specD p k w from HF.out.symm), Below.refl _ _⟩
  · have hI2 : (hasM p 16 == ((k : Int) == 6)) = true := by rw [show ((k : Int) == 6) = decide (k = 6) by rw [Bool.eq_iff_iff]; simp; omega]; simpa using hI
    have HD2 : Hid (specD p k w = if decide (0 < nd) && !hasM p nd then (0, false) else yes (andN (outM p w k 4) k (hasM p 64) (hasM p 128))) := by show _ = _; rw [HD.out, if_neg hI]
    clear hI HD
    have N6 : Hid (¬ (k : Int) = 6) := k6'
    have k6b : ((k : Int) == 6) = false := by simpa using k6'
    clear k6'
    rw [k6b] at hI2
    have hn2 : ¬ (0 : Int) < ((nd : Nat) : Int) := by omega
    have HE : Hid (specD p k w = yes (andN (outM p w k 4) k (hasM p 64) (hasM p 128))) := by show _ = _; rw [HD2.out]; simp [hn1]
    clear HD2
    go_wp2
    try rw [hW1]
    clear hW1
    go_loopw [9, 10] (fun o f wr => ∃ j : Nat, j ≤ 4 ∧ f = .int .i64 (pw j : Nat) ∧ o = .int .i64 (outM p w k j : Nat) ∧ W1 = wr) (fun _ f _ => 16 - (intOf f).toNat)
    case atStart => exact ⟨0, by omega, rfl, rfl, by first | rfl | trivial⟩
    case round =>
      obtain ⟨j, hj, rfl, rfl, rfl⟩ := hrel
      have hb0 := outN_bd (fun j => hasM p (pw j)) (fun j => hasM w (pw j)) (allN k) j hj
      have hb1 : outM p w k j < pw j := hb0
      clear hb0
      by_cases hlt : j < 4
      · obtain ⟨p1, p2, p3⟩ := pw_le j hlt
        have p4 : ((pw j : Nat) : Int) ≤ 8 := by omega
        have HS := outM_succ p w k j
        have HO : Hid (specD p k w = yes (andN (outM p w k 4) k (hasM p 64) (hasM p 128))) := HE
        clear HE
        generalize hq : pw j = q at *
        generalize hoo : outM p w k j = o at *
        go_wp2_with fail
        refine (hasM_is p q hp2.1 hp2.2 (by omega) (by omega) _).mono ?_
        rintro e W2 ⟨rfl, rfl⟩
        by_cases hA : hasM p q = true
        · rw [hA] at HS ⊢
          go_wp2_with fail
          refine (hasM_is w q hv2.1 hv2.2 (by omega) (by omega) _).mono ?_
          rintro e W2 ⟨rfl, rfl⟩
          by_cases hB : hasM w q = true
          · rw [hB] at HS ⊢
            have HN : Hid (((o : Nat) : Int) + ((q : Nat) : Int) = ((outM p w k (j + 1) : Nat) : Int)) := by show _ = _; rw [HS]; simp only [Bool.and_true, Bool.true_or, if_true]; omega
            have HP : Hid (((q : Nat) : Int) * 2 = ((pw (j + 1) : Nat) : Int)) := by show _ = _; omega
            clear HS p3
            go_wp2
            go_roundw
            case rel =>
              have R : ∃ j' : Nat, j' ≤ 4 ∧ Value.int .i64 (((q : Nat) : Int) * 2) = .int .i64 (pw j' : Nat) ∧ Value.int .i64 (((o : Nat) : Int) + ((q : Nat) : Int)) = .int .i64 (outM p w k j' : Nat) ∧ W1 = W1 := ⟨j + 1, by omega, by rw [HP.out], by rw [HN.out], rfl⟩
              first | exact R | exact ⟨j + 1, by omega, by rw [HP.out], by rw [HN.out], trivial⟩ | ((repeat apply Exists.intro); exact ⟨R, rfl⟩) | ((repeat apply Exists.intro); exact ⟨⟨j + 1, by omega, by rw [HP.out], by rw [HN.out], trivial⟩, rfl⟩)
            case measure => simp [intOf]; omega
          · rw [Bool.not_eq_true] at hB
            rw [hB] at HS ⊢
            by_cases k4 : (k : Int) = 4
            · have K4 : Hid ((k : Int) = 4) := k4
              have k4b : ((k : Int) == 4) = true := by simp; omega
              clear k4
              have HN : Hid (((o : Nat) : Int) + ((q : Nat) : Int) = ((outM p w k (j + 1) : Nat) : Int)) := by show _ = _; rw [HS, show allN k = true by unfold allN; simp; have := K4.out; omega]; simp only [Bool.and_true, Bool.or_true, if_true]; omega
              have HP : Hid (((q : Nat) : Int) * 2 = ((pw (j + 1) : Nat) : Int)) := by show _ = _; omega
              clear HS p3
              go_wp2
              go_roundw
              case rel =>
                have R : ∃ j' : Nat, j' ≤ 4 ∧ Value.int .i64 (((q : Nat) : Int) * 2) = .int .i64 (pw j' : Nat) ∧ Value.int .i64 (((o : Nat) : Int) + ((q : Nat) : Int)) = .int .i64 (outM p w k j' : Nat) ∧ W1 = W1 := ⟨j + 1, by omega, by rw [HP.out], by rw [HN.out], rfl⟩
                first | exact R | exact ⟨j + 1, by omega, by rw [HP.out], by rw [HN.out], trivial⟩ | ((repeat apply Exists.intro); exact ⟨R, rfl⟩) | ((repeat apply Exists.intro); exact ⟨⟨j + 1, by omega, by rw [HP.out], by rw [HN.out], trivial⟩, rfl⟩)
              case measure => simp [intOf]; omega
            · have N4 : Hid (¬ (k : Int) = 4) := k4
              have k4b : ((k : Int) == 4) = false := by simpa using k4
              clear k4
              have HN : Hid (((o : Nat) : Int) = ((outM p w k (j + 1) : Nat) : Int)) := by show _ = _; rw [HS, show allN k = false by unfold allN; have e4 := N4.out; have e6 := N6.out; rw [show decide (k = 4) = false by simpa using (by omega : ¬ k = 4), show decide (k = 6) = false by simpa using (by omega : ¬ k = 6)]; rfl]; simp only [Bool.and_false, Bool.or_false, Bool.false_eq_true, if_false]; omega
              have HP : Hid (((q : Nat) : Int) * 2 = ((pw (j + 1) : Nat) : Int)) := by show _ = _; omega
              clear HS p3
              go_wp2
              go_roundw
              case rel =>
                have R : ∃ j' : Nat, j' ≤ 4 ∧ Value.int .i64 (((q : Nat) : Int) * 2) = .int .i64 (pw j' : Nat) ∧ Value.int .i64 (((o : Nat) : Int)) = .int .i64 (outM p w k j' : Nat) ∧ W1 = W1 := ⟨j + 1, by omega, by rw [HP.out], by rw [HN.out], rfl⟩
                first | exact R | exact ⟨j + 1, by omega, by rw [HP.out], by rw [HN.out], trivial⟩ | ((repeat apply Exists.intro); exact ⟨R, rfl⟩) | ((repeat apply Exists.intro); exact ⟨⟨j + 1, by omega, by rw [HP.out], by rw [HN.out], trivial⟩, rfl⟩)
              case measure => simp [intOf]; omega
        · rw [Bool.not_eq_true] at hA
          rw [hA] at HS ⊢
          have HN : Hid (((o : Nat) : Int) = ((outM p w k (j + 1) : Nat) : Int)) := by show _ = _; rw [HS]; simp only [Bool.false_and, Bool.false_eq_true, if_false]; omega
          have HP : Hid (((q : Nat) : Int) * 2 = ((pw (j + 1) : Nat) : Int)) := by show _ = _; omega
          clear HS p3
          go_wp2
          go_roundw
          case rel =>
            have R : ∃ j' : Nat, j' ≤ 4 ∧ Value.int .i64 (((q : Nat) : Int) * 2) = .int .i64 (pw j' : Nat) ∧ Value.int .i64 (((o : Nat) : Int)) = .int .i64 (outM p w k j' : Nat) ∧ W1 = W1 := ⟨j + 1, by omega, by rw [HP.out], by rw [HN.out], rfl⟩
            first | exact R | exact ⟨j + 1, by omega, by rw [HP.out], by rw [HN.out], trivial⟩ | ((repeat apply Exists.intro); exact ⟨R, rfl⟩) | ((repeat apply Exists.intro); exact ⟨⟨j + 1, by omega, by rw [HP.out], by rw [HN.out], trivial⟩, rfl⟩)
          case measure => simp [intOf]; omega
      · obtain rfl : j = 4 := by omega
        have p5 : pw 4 = 16 := rfl
        rw [p5] at hb1 ⊢
        clear p5
        generalize outM p w k 4 = o at *
        have HQ : ∀ i6 i7, hasM p 64 = i6 → hasM p 128 = i7 → specD p k w = yes (andN o k i6 i7) := fun i6 i7 e6 e7 => by rw [← e6, ← e7]; exact HE.out
        have HQ2 : Hid (∀ i6 i7, hasM p 64 = i6 → hasM p 128 = i7 → specD p k w = yes (andN o k i6 i7)) := HQ
        clear HQ HE
        go_wp2_with fail
        refine (hasM_is p 64 hp2.1 hp2.2 (by omega) (by omega) _).mono ?_
        rintro e W2 ⟨rfl, rfl⟩
        by_cases h6 : hasM p 64 = true
        · rw [h6]
          go_wp2_with fail
          refine (hasM_is p 128 hp2.1 hp2.2 (by omega) (by omega) _).mono ?_
          rintro e W2 ⟨rfl, rfl⟩
          by_cases h7 : hasM p 128 = true
          · rw [h7]
            by_cases k5 : (k : Int) = 5
            · have K5 : Hid ((k : Int) = 5) := k5
              have k5b : ((k : Int) == 5) = true := by simp; omega
              clear k5
              go_wp2
              go_ret2
              exact ⟨ended (show (((o : Int) + 64 + 128 + 16), true) = specD p k w from Eq.symm (by rw [HQ2.out _ _ h6 h7]; unfold andN yes; simp only [if_pos (show k = 5 by have := K5.out; omega), Bool.true_or, if_true]; first | rfl | (congr 1; omega))), HB1.out⟩
            · have N5 : Hid (¬ (k : Int) = 5) := k5
              have k5b : ((k : Int) == 5) = false := by simpa using k5
              clear k5
              go_wp2
              go_ret2
              exact ⟨ended (show (((o : Int) + 64 + 128), true) = specD p k w from Eq.symm (by rw [HQ2.out _ _ h6 h7]; unfold andN yes; simp only [if_neg (show ¬ k = 5 by have := N5.out; omega), Bool.true_or, if_true]; first | rfl | (congr 1; omega))), HB1.out⟩
          · rw [Bool.not_eq_true] at h7
            rw [h7]
            by_cases k3 : (k : Int) = 3
            · have K3 : Hid ((k : Int) = 3) := k3
              have k3b : ((k : Int) == 3) = true := by simp; omega
              clear k3
              by_cases k5 : (k : Int) = 5
              · have K5 : Hid ((k : Int) = 5) := k5
                have k5b : ((k : Int) == 5) = true := by simp; omega
                clear k5
                go_wp2
                go_ret2
                exact ⟨ended (show (((o : Int) + 64 + 128 + 16), true) = specD p k w from Eq.symm (by rw [HQ2.out _ _ h6 h7]; unfold andN yes; simp only [show decide (k = 3) = true by have := K3.out; simpa using (by omega : k = 3), if_pos (show k = 5 by have := K5.out; omega), Bool.true_or, Bool.false_or, if_true]; first | rfl | (congr 1; omega))), HB1.out⟩
              · have N5 : Hid (¬ (k : Int) = 5) := k5
                have k5b : ((k : Int) == 5) = false := by simpa using k5
                clear k5
                go_wp2
                go_ret2
                exact ⟨ended (show (((o : Int) + 64 + 128), true) = specD p k w from Eq.symm (by rw [HQ2.out _ _ h6 h7]; unfold andN yes; simp only [show decide (k = 3) = true by have := K3.out; simpa using (by omega : k = 3), if_neg (show ¬ k = 5 by have := N5.out; omega), Bool.true_or, Bool.false_or, if_true]; first | rfl | (congr 1; omega))), HB1.out⟩
            · have N3 : Hid (¬ (k : Int) = 3) := k3
              have k3b : ((k : Int) == 3) = false := by simpa using k3
              clear k3
              by_cases k5 : (k : Int) = 5
              · have K5 : Hid ((k : Int) = 5) := k5
                have k5b : ((k : Int) == 5) = true := by simp; omega
                clear k5
                go_wp2
                go_ret2
                exact ⟨ended (show (((o : Int) + 64 + 16), true) = specD p k w from Eq.symm (by rw [HQ2.out _ _ h6 h7]; unfold andN yes; simp only [show decide (k = 3) = false by have := N3.out; simpa using (by omega : ¬ k = 3), if_pos (show k = 5 by have := K5.out; omega), Bool.true_or, Bool.false_or, if_true, if_false, Bool.false_eq_true]; first | rfl | (congr 1; omega))), HB1.out⟩
              · have N5 : Hid (¬ (k : Int) = 5) := k5
                have k5b : ((k : Int) == 5) = false := by simpa using k5
                clear k5
                go_wp2
                go_ret2
                exact ⟨ended (show (((o : Int) + 64), true) = specD p k w from Eq.symm (by rw [HQ2.out _ _ h6 h7]; unfold andN yes; simp only [show decide (k = 3) = false by have := N3.out; simpa using (by omega : ¬ k = 3), if_neg (show ¬ k = 5 by have := N5.out; omega), Bool.true_or, Bool.false_or, if_true, if_false, Bool.false_eq_true]; first | rfl | (congr 1; omega))), HB1.out⟩
        · rw [Bool.not_eq_true] at h6
          rw [h6]
          by_cases k2 : (k : Int) = 2
          · have K2 : Hid ((k : Int) = 2) := k2
            have k2b : ((k : Int) == 2) = true := by simp; omega
            clear k2
            go_wp2_with fail
            refine (hasM_is p 128 hp2.1 hp2.2 (by omega) (by omega) _).mono ?_
            rintro e W2 ⟨rfl, rfl⟩
            by_cases h7 : hasM p 128 = true
            · rw [h7]
              by_cases k5 : (k : Int) = 5
              · have K5 : Hid ((k : Int) = 5) := k5
                have k5b : ((k : Int) == 5) = true := by simp; omega
                clear k5
                go_wp2
                go_ret2
                exact ⟨ended (show (((o : Int) + 64 + 128 + 16), true) = specD p k w from Eq.symm (by rw [HQ2.out _ _ h6 h7]; unfold andN yes; simp only [show decide (k = 2) = true by have := K2.out; simpa using (by omega : k = 2), if_pos (show k = 5 by have := K5.out; omega), Bool.true_or, Bool.false_or, if_true]; first | rfl | (congr 1; omega))), HB1.out⟩
              · have N5 : Hid (¬ (k : Int) = 5) := k5
                have k5b : ((k : Int) == 5) = false := by simpa using k5
                clear k5
                go_wp2
                go_ret2
                exact ⟨ended (show (((o : Int) + 64 + 128), true) = specD p k w from Eq.symm (by rw [HQ2.out _ _ h6 h7]; unfold andN yes; simp only [show decide (k = 2) = true by have := K2.out; simpa using (by omega : k = 2), if_neg (show ¬ k = 5 by have := N5.out; omega), Bool.true_or, Bool.false_or, if_true]; first | rfl | (congr 1; omega))), HB1.out⟩
            · rw [Bool.not_eq_true] at h7
              rw [h7]
              by_cases k3 : (k : Int) = 3
              · have K3 : Hid ((k : Int) = 3) := k3
                have k3b : ((k : Int) == 3) = true := by simp; omega
                clear k3
                by_cases k5 : (k : Int) = 5
                · have K5 : Hid ((k : Int) = 5) := k5
                  have k5b : ((k : Int) == 5) = true := by simp; omega
                  clear k5
                  go_wp2
                  go_ret2
                  exact ⟨ended (show (((o : Int) + 64 + 128 + 16), true) = specD p k w from Eq.symm (by rw [HQ2.out _ _ h6 h7]; unfold andN yes; simp only [show decide (k = 2) = true by have := K2.out; simpa using (by omega : k = 2), show decide (k = 3) = true by have := K3.out; simpa using (by omega : k = 3), if_pos (show k = 5 by have := K5.out; omega), Bool.false_or, if_true]; first | rfl | (congr 1; omega))), HB1.out⟩
                · have N5 : Hid (¬ (k : Int) = 5) := k5
                  have k5b : ((k : Int) == 5) = false := by simpa using k5
                  clear k5
                  go_wp2
                  go_ret2
                  exact ⟨ended (show (((o : Int) + 64 + 128), true) = specD p k w from Eq.symm (by rw [HQ2.out _ _ h6 h7]; unfold andN yes; simp only [show decide (k = 2) = true by have := K2.out; simpa using (by omega : k = 2), show decide (k = 3) = true by have := K3.out; simpa using (by omega : k = 3), if_neg (show ¬ k = 5 by have := N5.out; omega), Bool.false_or, if_true]; first | rfl | (congr 1; omega))), HB1.out⟩
              · have N3 : Hid (¬ (k : Int) = 3) := k3
                have k3b : ((k : Int) == 3) = false := by simpa using k3
                clear k3
                by_cases k5 : (k : Int) = 5
                · have K5 : Hid ((k : Int) = 5) := k5
                  have k5b : ((k : Int) == 5) = true := by simp; omega
                  clear k5
                  go_wp2
                  go_ret2
                  exact ⟨ended (show (((o : Int) + 64 + 16), true) = specD p k w from Eq.symm (by rw [HQ2.out _ _ h6 h7]; unfold andN yes; simp only [show decide (k = 2) = true by have := K2.out; simpa using (by omega : k = 2), show decide (k = 3) = false by have := N3.out; simpa using (by omega : ¬ k = 3), if_pos (show k = 5 by have := K5.out; omega), Bool.false_or, if_true, if_false, Bool.false_eq_true]; first | rfl | (congr 1; omega))), HB1.out⟩
                · have N5 : Hid (¬ (k : Int) = 5) := k5
                  have k5b : ((k : Int) == 5) = false := by simpa using k5
                  clear k5
                  go_wp2
                  go_ret2
                  exact ⟨ended (show (((o : Int) + 64), true) = specD p k w from Eq.symm (by rw [HQ2.out _ _ h6 h7]; unfold andN yes; simp only [show decide (k = 2) = true by have := K2.out; simpa using (by omega : k = 2), show decide (k = 3) = false by have := N3.out; simpa using (by omega : ¬ k = 3), if_neg (show ¬ k = 5 by have := N5.out; omega), Bool.false_or, if_true, if_false, Bool.false_eq_true]; first | rfl | (congr 1; omega))), HB1.out⟩
          · have N2 : Hid (¬ (k : Int) = 2) := k2
            have k2b : ((k : Int) == 2) = false := by simpa using k2
            clear k2
            go_wp2_with fail
            refine (hasM_is p 128 hp2.1 hp2.2 (by omega) (by omega) _).mono ?_
            rintro e W2 ⟨rfl, rfl⟩
            by_cases h7 : hasM p 128 = true
            · rw [h7]
              by_cases k5 : (k : Int) = 5
              · have K5 : Hid ((k : Int) = 5) := k5
                have k5b : ((k : Int) == 5) = true := by simp; omega
                clear k5
                go_wp2
                go_ret2
                exact ⟨ended (show (((o : Int) + 128 + 16), true) = specD p k w from Eq.symm (by rw [HQ2.out _ _ h6 h7]; unfold andN yes; simp only [show decide (k = 2) = false by have := N2.out; simpa using (by omega : ¬ k = 2), if_pos (show k = 5 by have := K5.out; omega), Bool.true_or, Bool.false_or, if_true, if_false, Bool.false_eq_true]; first | rfl | (congr 1; omega))), HB1.out⟩
              · have N5 : Hid (¬ (k : Int) = 5) := k5
                have k5b : ((k : Int) == 5) = false := by simpa using k5
                clear k5
                go_wp2
                go_ret2
                exact ⟨ended (show (((o : Int) + 128), true) = specD p k w from Eq.symm (by rw [HQ2.out _ _ h6 h7]; unfold andN yes; simp only [show decide (k = 2) = false by have := N2.out; simpa using (by omega : ¬ k = 2), if_neg (show ¬ k = 5 by have := N5.out; omega), Bool.true_or, Bool.false_or, if_true, if_false, Bool.false_eq_true]; first | rfl | (congr 1; omega))), HB1.out⟩
            · rw [Bool.not_eq_true] at h7
              rw [h7]
              by_cases k3 : (k : Int) = 3
              · have K3 : Hid ((k : Int) = 3) := k3
                have k3b : ((k : Int) == 3) = true := by simp; omega
                clear k3
                by_cases k5 : (k : Int) = 5
                · have K5 : Hid ((k : Int) = 5) := k5
                  have k5b : ((k : Int) == 5) = true := by simp; omega
                  clear k5
                  go_wp2
                  go_ret2
                  exact ⟨ended (show (((o : Int) + 128 + 16), true) = specD p k w from Eq.symm (by rw [HQ2.out _ _ h6 h7]; unfold andN yes; simp only [show decide (k = 2) = false by have := N2.out; simpa using (by omega : ¬ k = 2), show decide (k = 3) = true by have := K3.out; simpa using (by omega : k = 3), if_pos (show k = 5 by have := K5.out; omega), Bool.false_or, if_true, if_false, Bool.false_eq_true]; first | rfl | (congr 1; omega))), HB1.out⟩
                · have N5 : Hid (¬ (k : Int) = 5) := k5
                  have k5b : ((k : Int) == 5) = false := by simpa using k5
                  clear k5
                  go_wp2
                  go_ret2
                  exact ⟨ended (show (((o : Int) + 128), true) = specD p k w from Eq.symm (by rw [HQ2.out _ _ h6 h7]; unfold andN yes; simp only [show decide (k = 2) = false by have := N2.out; simpa using (by omega : ¬ k = 2), show decide (k = 3) = true by have := K3.out; simpa using (by omega : k = 3), if_neg (show ¬ k = 5 by have := N5.out; omega), Bool.false_or, if_true, if_false, Bool.false_eq_true]; first | rfl | (congr 1; omega))), HB1.out⟩
              · have N3 : Hid (¬ (k : Int) = 3) := k3
                have k3b : ((k : Int) == 3) = false := by simpa using k3
                clear k3
                by_cases k5 : (k : Int) = 5
                · have K5 : Hid ((k : Int) = 5) := k5
                  have k5b : ((k : Int) == 5) = true := by simp; omega
                  clear k5
                  go_wp2
                  go_ret2
                  exact ⟨ended (show (((o : Int) + 16), true) = specD p k w from Eq.symm (by rw [HQ2.out _ _ h6 h7]; unfold andN yes; simp only [show decide (k = 2) = false by have := N2.out; simpa using (by omega : ¬ k = 2), show decide (k = 3) = false by have := N3.out; simpa using (by omega : ¬ k = 3), if_pos (show k = 5 by have := K5.out; omega), Bool.false_or, if_false, Bool.false_eq_true]; first | rfl | (congr 1; omega))), HB1.out⟩
                · have N5 : Hid (¬ (k : Int) = 5) := k5
                  have k5b : ((k : Int) == 5) = false := by simpa using k5
                  clear k5
                  go_wp2
                  go_ret2
                  exact ⟨ended (show (((o : Int)), true) = specD p k w from Eq.symm (by rw [HQ2.out _ _ h6 h7]; unfold andN yes; simp only [show decide (k = 2) = false by have := N2.out; simpa using (by omega : ¬ k = 2), show decide (k = 3) = false by have := N3.out; simpa using (by omega : ¬ k = 3), if_neg (show ¬ k = 5 by have := N5.out; omega), Bool.false_or, if_false, Bool.false_eq_true]; first | rfl | (congr 1; omega))), HB1.out⟩
theorem specDer_is (p : Int) (k : Nat) (w : Int) (hp : btw p 0 255 = true) (hw : btw w 0 255 = true) (hw2 : w < 16) (hk1 : 1 ≤ k) (hk6 : k ≤ 6) (W : World) : Calls Try.prog 13 #[.int .i64 p, .int .i64 (k : Int), .int .i64 w] W fun e W' => e = .returned (.tuple #[.int .i64 (specD p k w).1, .bool (specD p k w).2]) ∧ Below W.heap.size W W' := by
  by_cases k6' : (k : Int) = 6
  · exact specDerA p k w hp hw hw2 hk1 hk6 k6' W
  · by_cases hn : 0 < needN k
    · exact specDerB p k w hp hw hw2 hk1 hk6 k6' hn W
    · exact specDerC p k w hp hw hw2 hk1 hk6 k6' hn W
end Go.Proofs.Ytcilgmofhkpkpaa
