/- The laws of RestOk, Entails and Permits, step by step. -/
import Derived.Test.YthhodbpliaiglaaRest2
import Derived.Test.YthhodbpliaiglaaRest3
set_option linter.unusedVariables false
namespace Go.Proofs.Ythhodbpliaiglaa
open Go Go.RowKit

set_option maxRecDepth 100000 in
set_option maxHeartbeats 12800000 in
theorem entails_walk (a b c x y z : Int) (w : World) : Calls Try.prog 6 #[rv a b c, rv x y z] w fun e w' => e = .returned (.bool true) ∧ Below w.heap.size w w' := by
  have R1 := toRest_is a b c
  have R2 := toRest_is x y z
  have R3 := specEntails_is a b c x y z
  have R4 := implEntails_is a b c x y z
  generalize entB a b c x y z = t at R3 R4
  obtain ⟨s, hs⟩ : ∃ s, w.heap.size = s := ⟨_, rfl⟩
  obtain ⟨W2, hW2⟩ : ∃ W2, (w.alloc (.cells #[.int .i64 a, .int .i64 b, .int .i64 c] 34)).alloc (.cells #[.int .i64 x, .int .i64 y, .int .i64 z] 34) = W2 := ⟨_, rfl⟩
  have hb0 : Below s w W2 := by rw [← hW2, ← hs]; exact ((Below.refl _ _).alloc (Nat.le_refl _) _).alloc (by simp) _
  have Z : s + 2 ≤ W2.heap.size := by rw [← hW2, ← hs]; simp
  have T0 : Two s a b c x y z W2 := by rw [← hW2, ← hs]; constructor <;> simp [go_sem]
  go_enter Try.func6, Try.ntmps6
  go_wp2_with fail
  try rw [hW2]
  try rw [hs]
  clear hW2
  have BC : Below W2.heap.size W2 W2.drew := (Below.refl _ _).drew
  have SC := T0.drew.six
  refine wp_region_held_drew (S := (fun W => W.cell? ⟨s, 0, none⟩ = some (.int .i64 a) ∧ W.cell? ⟨s, 1, none⟩ = some (.int .i64 b) ∧ W.cell? ⟨s, 2, none⟩ = some (.int .i64 c) ∧ W.cell? ⟨s + 1, 0, none⟩ = some (.int .i64 x) ∧ W.cell? ⟨s + 1, 1, none⟩ = some (.int .i64 y) ∧ W.cell? ⟨s + 1, 2, none⟩ = some (.int .i64 z))) (by kernel_rfl) SC (fun hHeld => ?_)
  refine take_one 0 7 (v := ?_) rfl rfl (by kernel_rfl) (by kernel_rfl) (by kernel_rfl) (fun _ _ _ h => h) (Or.inl ⟨by rfl, ?_⟩) hHeld ?_
  rotate_left
  · intro w' hSw; (try dsimp only at hSw); go_simp; try with_reducible rfl
  try simp only [Act.put, List.setIfInBounds_toArray, List.set_cons_zero, List.set_cons_succ]
  refine take_one 2 9 (v := ?_) rfl rfl (by kernel_rfl) (by kernel_rfl) (by kernel_rfl) (fun _ _ _ h => h) (Or.inl ⟨by rfl, ?_⟩) hHeld ?_
  rotate_left
  · intro w' hSw; (try dsimp only at hSw); go_simp; try with_reducible rfl
  try simp only [Act.put, List.setIfInBounds_toArray, List.set_cons_zero, List.set_cons_succ]
  refine wpAnyH_ready (rs := [1]) (by kernel_rfl) (by simp) ?_
  refine AllReadyH.cons (i := 1) rfl (fun K hK => ?_) AllReadyH.nil
  go_simp
  refine (R1 _).mono ?_
  rintro e w1 ⟨rfl, hb1⟩
  have BN := BC.trans (hb1.mono BC.size)
  clear BC SC
  have BC := BN
  clear BN hb1
  have SC := (T0.later BC Z).six
  go_wp2_with fail
  refine hK.out _ _ SC (fun hHeld2 => ?_)
  clear hK K hHeld
  have hHeld := hHeld2
  clear hHeld2
  try simp only [Act.put, List.setIfInBounds_toArray, List.set_cons_zero, List.set_cons_succ]
  refine wpAnyH_ready (rs := [3]) (by kernel_rfl) (by simp) ?_
  refine AllReadyH.cons (i := 3) rfl (fun K hK => ?_) AllReadyH.nil
  go_simp
  refine (R2 _).mono ?_
  rintro e w2 ⟨rfl, hb2⟩
  have BN := BC.trans (hb2.mono BC.size)
  clear BC SC
  have BC := BN
  clear BN hb2
  have SC := (T0.later BC Z).six
  go_wp2_with fail
  refine hK.out _ _ SC (fun hHeld2 => ?_)
  clear hK K hHeld
  have hHeld := hHeld2
  clear hHeld2
  try simp only [Act.put, List.setIfInBounds_toArray, List.set_cons_zero, List.set_cons_succ]
  refine wpAnyH_ready (rs := [4]) (by kernel_rfl) (by simp) ?_
  refine AllReadyH.cons (i := 4) rfl (fun K hK => ?_) AllReadyH.nil
  go_simp
  refine (R3 _).mono ?_
  rintro e w3 ⟨rfl, hb3⟩
  have BN := BC.trans (hb3.mono BC.size)
  clear BC SC
  have BC := BN
  clear BN hb3
  have SC := (T0.later BC Z).six
  go_wp2_with fail
  refine hK.out _ _ SC (fun hHeld2 => ?_)
  clear hK K hHeld
  have hHeld := hHeld2
  clear hHeld2
  try simp only [Act.put, List.setIfInBounds_toArray, List.set_cons_zero, List.set_cons_succ]
  refine take_one 5 5 (v := ?_) rfl rfl (by kernel_rfl) (by kernel_rfl) (by kernel_rfl) (fun _ _ _ h => h) (Or.inl ⟨by rfl, ?_⟩) hHeld ?_
  rotate_left
  · intro w' hSw; (try dsimp only at hSw); go_simp; try with_reducible rfl
  try simp only [Act.put, List.setIfInBounds_toArray, List.set_cons_zero, List.set_cons_succ]
  refine wpAnyH_done (by kernel_rfl) ?_ _
  clear hHeld SC
  have TN := T0.later BC Z
  have ZN := Nat.le_trans Z BC.size
  have bN := hb0.trans (BC.mono (Nat.le_trans (by omega) Z))
  clear R3 BC T0 Z hb0
  have T0 := TN
  have Z := ZN
  have hb0 := bN
  clear TN ZN bN
  go_wp2_with fail
  have BC : Below w3.heap.size w3 w3.drew := (Below.refl _ _).drew
  have SC := T0.drew.six
  refine wp_region_held_drew (S := (fun W => W.cell? ⟨s, 0, none⟩ = some (.int .i64 a) ∧ W.cell? ⟨s, 1, none⟩ = some (.int .i64 b) ∧ W.cell? ⟨s, 2, none⟩ = some (.int .i64 c) ∧ W.cell? ⟨s + 1, 0, none⟩ = some (.int .i64 x) ∧ W.cell? ⟨s + 1, 1, none⟩ = some (.int .i64 y) ∧ W.cell? ⟨s + 1, 2, none⟩ = some (.int .i64 z))) (by kernel_rfl) SC (fun hHeld => ?_)
  refine take_one 0 12 (v := ?_) rfl rfl (by kernel_rfl) (by kernel_rfl) (by kernel_rfl) (fun _ _ _ h => h) (Or.inl ⟨by rfl, ?_⟩) hHeld ?_
  rotate_left
  · intro w' hSw; (try dsimp only at hSw); go_simp; try with_reducible rfl
  try simp only [Act.put, List.setIfInBounds_toArray, List.set_cons_zero, List.set_cons_succ]
  refine take_one 2 14 (v := ?_) rfl rfl (by kernel_rfl) (by kernel_rfl) (by kernel_rfl) (fun _ _ _ h => h) (Or.inl ⟨by rfl, ?_⟩) hHeld ?_
  rotate_left
  · intro w' hSw; (try dsimp only at hSw); go_simp; try with_reducible rfl
  try simp only [Act.put, List.setIfInBounds_toArray, List.set_cons_zero, List.set_cons_succ]
  refine wpAnyH_ready (rs := [1]) (by kernel_rfl) (by simp) ?_
  refine AllReadyH.cons (i := 1) rfl (fun K hK => ?_) AllReadyH.nil
  go_simp
  refine (R1 _).mono ?_
  rintro e w4 ⟨rfl, hb4⟩
  have BN := BC.trans (hb4.mono BC.size)
  clear BC SC
  have BC := BN
  clear BN hb4
  have SC := (T0.later BC Z).six
  go_wp2_with fail
  refine hK.out _ _ SC (fun hHeld2 => ?_)
  clear hK K hHeld
  have hHeld := hHeld2
  clear hHeld2
  try simp only [Act.put, List.setIfInBounds_toArray, List.set_cons_zero, List.set_cons_succ]
  refine wpAnyH_ready (rs := [3]) (by kernel_rfl) (by simp) ?_
  refine AllReadyH.cons (i := 3) rfl (fun K hK => ?_) AllReadyH.nil
  go_simp
  refine (R2 _).mono ?_
  rintro e w5 ⟨rfl, hb5⟩
  have BN := BC.trans (hb5.mono BC.size)
  clear BC SC
  have BC := BN
  clear BN hb5
  have SC := (T0.later BC Z).six
  go_wp2_with fail
  refine hK.out _ _ SC (fun hHeld2 => ?_)
  clear hK K hHeld
  have hHeld := hHeld2
  clear hHeld2
  try simp only [Act.put, List.setIfInBounds_toArray, List.set_cons_zero, List.set_cons_succ]
  refine wpAnyH_ready (rs := [4]) (by kernel_rfl) (by simp) ?_
  refine AllReadyH.cons (i := 4) rfl (fun K hK => ?_) AllReadyH.nil
  go_simp
  refine (R4 _).mono ?_
  rintro e w6 ⟨rfl, hb6⟩
  have BN := BC.trans (hb6.mono BC.size)
  clear BC SC
  have BC := BN
  clear BN hb6
  have SC := (T0.later BC Z).six
  go_wp2_with fail
  refine hK.out _ _ SC (fun hHeld2 => ?_)
  clear hK K hHeld
  have hHeld := hHeld2
  clear hHeld2
  try simp only [Act.put, List.setIfInBounds_toArray, List.set_cons_zero, List.set_cons_succ]
  refine take_one 5 6 (v := ?_) rfl rfl (by kernel_rfl) (by kernel_rfl) (by kernel_rfl) (fun _ _ _ h => h) (Or.inl ⟨by rfl, ?_⟩) hHeld ?_
  rotate_left
  · intro w' hSw; (try dsimp only at hSw); go_simp; try with_reducible rfl
  try simp only [Act.put, List.setIfInBounds_toArray, List.set_cons_zero, List.set_cons_succ]
  refine wpAnyH_done (by kernel_rfl) ?_ _
  clear hHeld SC
  have bN := hb0.trans (BC.mono (Nat.le_trans (by omega) Z))
  clear R1 R2 R4 T0 BC
  cases t
  all_goals
    go_wp2
    go_ret
    exact ⟨rfl, by rw [hs]; exact bN⟩

/-- The box of one rest. -/
structure One (s : Nat) (a b c : Int) (W : World) : Prop where
  a : W.cell? ⟨s, 0, none⟩ = some (.int .i64 a)
  b : W.cell? ⟨s, 1, none⟩ = some (.int .i64 b)
  c : W.cell? ⟨s, 2, none⟩ = some (.int .i64 c)
theorem One.later {s : Nat} {a b c : Int} {W W' : World} (h : One s a b c W) (hb : Below W.heap.size W W') (hs : s + 1 ≤ W.heap.size) : One s a b c W' :=
  ⟨(hb.cell (p := ⟨s, 0, none⟩) (show s < _ by omega)).trans h.a, (hb.cell (p := ⟨s, 1, none⟩) (show s < _ by omega)).trans h.b, (hb.cell (p := ⟨s, 2, none⟩) (show s < _ by omega)).trans h.c⟩

set_option maxRecDepth 100000 in
set_option maxHeartbeats 3200000 in
theorem restOk_walk (a b c : Int) (w : World) : Calls Try.prog 4 #[rv a b c] w fun e w' => e = .returned (.bool true) ∧ Below w.heap.size w w' := by
  have R1 := toRest_is a b c
  have R3 := specOk_is a b c
  have R4 := implOk_is a b c
  generalize rOk a b c = t at R3 R4
  obtain ⟨s, hs⟩ : ∃ s, w.heap.size = s := ⟨_, rfl⟩
  obtain ⟨W1, hW1⟩ : ∃ W1, w.alloc (.cells #[.int .i64 a, .int .i64 b, .int .i64 c] 34) = W1 := ⟨_, rfl⟩
  have hb0 : Below s w W1 := by rw [← hW1, ← hs]; exact (Below.refl _ _).alloc (Nat.le_refl _) _
  have Z : s + 1 ≤ W1.heap.size := by rw [← hW1, ← hs]; simp
  have T0 : One s a b c W1 := by rw [← hW1, ← hs]; constructor <;> simp [go_sem]
  obtain ⟨d0, d1, d2⟩ := T0
  go_enter Try.func4, Try.ntmps4
  go_wp2_with fail
  try rw [hW1]
  try rw [hs]
  refine (R1 _).mono ?_
  clear hW1
  rintro e w1 ⟨rfl, hb1⟩
  have T0 : One s a b c W1 := ⟨d0, d1, d2⟩
  clear d0 d1 d2
  have T1 := T0.later hb1 Z
  have Z1 := Nat.le_trans Z hb1.size
  have B1 := hb0.trans (hb1.mono (Nat.le_trans (by omega) Z))
  clear T0 Z hb0 hb1
  go_wp2_with fail
  refine (R3 _).mono ?_
  rintro e w2 ⟨rfl, hb2⟩
  have T2 := T1.later hb2 Z1
  have Z2 := Nat.le_trans Z1 hb2.size
  have B2 := B1.trans (hb2.mono (Nat.le_trans (by omega) Z1))
  clear T1 Z1 B1 hb2
  obtain ⟨d0, d1, d2⟩ := T2
  go_wp2_with fail
  refine (R1 _).mono ?_
  rintro e w3 ⟨rfl, hb3⟩
  clear d0 d1 d2
  have Z3 := Nat.le_trans Z2 hb3.size
  have B3 := B2.trans (hb3.mono (Nat.le_trans (by omega) Z2))
  clear B2 hb3 Z2
  go_wp2_with fail
  refine (R4 _).mono ?_
  rintro e w4 ⟨rfl, hb4⟩
  have B4 := B3.trans (hb4.mono (Nat.le_trans (by omega) Z3))
  clear B3 hb4 R1 R3 R4
  cases t
  all_goals
    go_wp2
    go_ret
    exact ⟨rfl, by rw [hs]; exact B4⟩

theorem bits_nat (x y : Nat) (hx : x < 2 ^ 63) (hy : y < 2 ^ 63) : bits .and .i64 (x : Int) (y : Int) = ((x &&& y : Nat) : Int) := by
  have e : bits .and .i64 (x : Int) (y : Int) = IntKind.i64.wrap ((BitVec.ofInt 64 x &&& BitVec.ofInt 64 y).toNat : Int) := rfl
  have h1 : x &&& y ≤ x := Nat.and_le_left
  rw [e, IntKind.wrap_i64, BitVec.toNat_and]
  have ex : (BitVec.ofInt 64 (x : Int)).toNat = x := by
    rw [BitVec.ofInt_natCast, BitVec.toNat_ofNat]; exact Nat.mod_eq_of_lt (by omega)
  have ey : (BitVec.ofInt 64 (y : Int)).toNat = y := by
    rw [BitVec.ofInt_natCast, BitVec.toNat_ofNat]; exact Nat.mod_eq_of_lt (by omega)
  rw [ex, ey]
  omega
/-- A bit of a number that isn't below 0, by its place. -/
theorem hasB_nat (n : Nat) (i : Int) (hn : n ≤ 255) : hasB (n : Int) i = (decide (0 ≤ i) && n.testBit i.toNat) := by
  unfold hasB
  have e1 : ∀ m : Nat, (n : Int) / 2 ^ m = ((n / 2 ^ m : Nat) : Int) := fun m => by simp
  have h2 : n / 2 ^ min i.toNat 64 ≤ n := Nat.div_le_self _ _
  rw [e1, show (1 : Int) = ((1 : Nat) : Int) from rfl, bits_nat _ 1 (by omega) (by omega)]
  congr 1
  have e3 : n.testBit (min i.toNat 64) = n.testBit i.toNat := by
    by_cases h : i.toNat ≤ 64
    · rw [Nat.min_eq_left h]
    · rw [Nat.min_eq_right (by omega), Nat.testBit_lt_two_pow (by omega), Nat.testBit_lt_two_pow (by
        have : 2 ^ 64 ≤ 2 ^ i.toNat := Nat.pow_le_pow_right (by omega) (by omega)
        omega)]
  rw [← e3, Nat.testBit_eq_decide_div_mod_eq, Nat.and_one_is_mod]
  generalize n / 2 ^ min i.toNat 64 % 2 = m
  by_cases hm : m = 1
  · subst hm; rfl
  · have : ((m : Int) == ((1 : Nat) : Int)) = false := by simp; omega
    rw [this]; simp [hm]
theorem inB_iff (n g : Int) : inB n g = true ↔ 0 ≤ n ∧ n ≤ g := by unfold inB; simp
theorem rOk_iff (a b c : Int) : rOk a b c = true ↔ (0 ≤ a ∧ a ≤ 7) ∧ (0 ≤ b ∧ b ≤ 255) ∧ (0 ≤ c ∧ c ≤ 100000) := by
  unfold rOk; rw [Bool.and_eq_true, Bool.and_eq_true, inB_iff, inB_iff, inB_iff]
theorem per_same (a b c s o n : Int) : perS a b c s o n = (rOk a b c && perB a b c s o n) := by
  unfold perS perB
  by_cases h : rOk a b c = true
  · obtain ⟨⟨a0, a7⟩, ⟨b0, b7⟩, _⟩ := (rOk_iff a b c).1 h
    obtain ⟨A, rfl⟩ := Int.eq_ofNat_of_zero_le a0
    obtain ⟨B, rfl⟩ := Int.eq_ofNat_of_zero_le b0
    rw [h]
    simp only [Bool.true_and]
    have hs : inB s 2 = false → hasB (A : Int) s = false := by
      intro hs
      rw [hasB_nat A s (by omega)]
      by_cases s0 : 0 ≤ s
      · have : ¬ s ≤ 2 := fun h2 => by rw [(inB_iff s 2).2 ⟨s0, h2⟩] at hs; cases hs
        rw [Nat.testBit_lt_two_pow (by
          have : 2 ^ 3 ≤ 2 ^ s.toNat := Nat.pow_le_pow_right (by omega) (by omega)
          omega)]
        simp
      · rw [show decide (0 ≤ s) = false by simp; omega]; rfl
    have ho : inB o 7 = false → hasB (B : Int) o = false := by
      intro ho
      rw [hasB_nat B o (by omega)]
      by_cases o0 : 0 ≤ o
      · have : ¬ o ≤ 7 := fun h2 => by rw [(inB_iff o 7).2 ⟨o0, h2⟩] at ho; cases ho
        rw [Nat.testBit_lt_two_pow (by
          have : 2 ^ 8 ≤ 2 ^ o.toNat := Nat.pow_le_pow_right (by omega) (by omega)
          omega)]
        simp
      · rw [show decide (0 ≤ o) = false by simp; omega]; rfl
    cases hi : inB s 2 with
    | false => rw [hs hi]; rfl
    | true =>
      cases hj : inB o 7 with
      | false => rw [ho hj]; simp
      | true => rfl
  · rw [Bool.not_eq_true] at h
    rw [h]; rfl

set_option maxRecDepth 100000 in
set_option maxHeartbeats 3200000 in
theorem permits_walk (a b c s1 o1 n1 : Int) (w : World) : Calls Try.prog 7 #[rv a b c, .int .i64 s1, .int .i64 o1, .int .i64 n1] w fun e w' => e = .returned (.bool true) ∧ Below w.heap.size w w' := by
  have R1 := toRest_is a b c
  have R3 := specPermits_is a b c s1 o1 n1
  have R4 := implPermits_is a b c s1 o1 n1
  rw [per_same] at R3
  generalize (rOk a b c && perB a b c s1 o1 n1) = t at R3 R4
  obtain ⟨s, hs⟩ : ∃ s, w.heap.size = s := ⟨_, rfl⟩
  obtain ⟨W1, hW1⟩ : ∃ W1, w.alloc (.cells #[.int .i64 a, .int .i64 b, .int .i64 c] 34) = W1 := ⟨_, rfl⟩
  have hb0 : Below s w W1 := by rw [← hW1, ← hs]; exact (Below.refl _ _).alloc (Nat.le_refl _) _
  have Z : s + 1 ≤ W1.heap.size := by rw [← hW1, ← hs]; simp
  have T0 : One s a b c W1 := by rw [← hW1, ← hs]; constructor <;> simp [go_sem]
  obtain ⟨d0, d1, d2⟩ := T0
  go_enter Try.func7, Try.ntmps7
  go_wp2_with fail
  try rw [hW1]
  try rw [hs]
  refine (R1 _).mono ?_
  clear hW1
  rintro e w1 ⟨rfl, hb1⟩
  have T0 : One s a b c W1 := ⟨d0, d1, d2⟩
  clear d0 d1 d2
  have T1 := T0.later hb1 Z
  have Z1 := Nat.le_trans Z hb1.size
  have B1 := hb0.trans (hb1.mono (Nat.le_trans (by omega) Z))
  clear T0 Z hb0 hb1
  go_wp2_with fail
  refine (R3 _).mono ?_
  rintro e w2 ⟨rfl, hb2⟩
  have T2 := T1.later hb2 Z1
  have Z2 := Nat.le_trans Z1 hb2.size
  have B2 := B1.trans (hb2.mono (Nat.le_trans (by omega) Z1))
  clear T1 Z1 B1 hb2
  obtain ⟨d0, d1, d2⟩ := T2
  go_wp2_with fail
  refine (R1 _).mono ?_
  rintro e w3 ⟨rfl, hb3⟩
  clear d0 d1 d2
  have Z3 := Nat.le_trans Z2 hb3.size
  have B3 := B2.trans (hb3.mono (Nat.le_trans (by omega) Z2))
  clear B2 hb3 Z2
  go_wp2_with fail
  refine (R4 _).mono ?_
  rintro e w4 ⟨rfl, hb4⟩
  have B4 := B3.trans (hb4.mono (Nat.le_trans (by omega) Z3))
  clear B3 hb4 R1 R3 R4
  cases t
  all_goals
    go_wp2
    go_ret
    exact ⟨rfl, by rw [hs]; exact B4⟩
end Go.Proofs.Ythhodbpliaiglaa
