/- The law on rests, step by step. -/
import Derived.Test.YthhodbpliaiglaaRestAsk
import Derived.Test.YthhodbpliaiglaaRestMath
set_option linter.unusedVariables false
namespace Go.Proofs.Ythhodbpliaiglaa
open Go Go.RowKit

theorem big_go (a : Option Addr) (len cap : Nat) (W : World) (h : len ≤ 1048576) :
    Calls Try.prog 10 #[.slice a len cap] W fun e w' => e = .returned (.bool false) ∧ W = w' := by
  have hd : decide ((1048576 : Int) < (len : Int)) = false := by simp; omega
  go_enter Try.func10, Try.ntmps10
  go_wp2
  go_ret
  exact ⟨rfl, rfl⟩
theorem big_yes (a : Option Addr) (len cap : Nat) (W : World) (h : 1048576 < len) (h2 : len ≤ maxLen) :
    Calls Try.prog 10 #[.slice a len cap] W fun e w' => e = .returned (.bool true) ∧ W = w' := by
  unfold maxLen at h2
  have hd : decide ((1048576 : Int) < (len : Int)) = true := by simp; omega
  go_enter Try.func10, Try.ntmps10
  go_wp2
  go_ret
  exact ⟨rfl, rfl⟩

/-- Two rests, and a third one behind them. -/
structure Tri (g h : Nat) (a b c x y z p q r : Int) (W : World) : Prop where
  two : Two g a b c x y z W
  one : One h p q r W
  lt : g + 2 ≤ W.heap.size
  lh : h < W.heap.size
theorem Tri.later {g h : Nat} {a b c x y z p q r : Int} {W W' : World} (k : Tri g h a b c x y z p q r W) (hb : Below W.heap.size W W') : Tri g h a b c x y z p q r W' :=
  ⟨k.two.later hb k.lt, k.one.later hb k.lh, Nat.le_trans k.lt hb.size, Nat.lt_of_lt_of_le k.lh hb.size⟩
theorem One.drew {s : Nat} {a b c : Int} {W : World} (h : One s a b c W) : One s a b c W.drew := ⟨by simpa using h.a, by simpa using h.b, by simpa using h.c⟩
theorem Tri.nine {g h : Nat} {a b c x y z p q r : Int} {W : World} (k : Tri g h a b c x y z p q r W) : W.cell? ⟨g, 0, none⟩ = some (.int .i64 a) ∧ W.cell? ⟨g, 1, none⟩ = some (.int .i64 b) ∧ W.cell? ⟨g, 2, none⟩ = some (.int .i64 c) ∧ W.cell? ⟨g + 1, 0, none⟩ = some (.int .i64 x) ∧ W.cell? ⟨g + 1, 1, none⟩ = some (.int .i64 y) ∧ W.cell? ⟨g + 1, 2, none⟩ = some (.int .i64 z) ∧ W.cell? ⟨h, 0, none⟩ = some (.int .i64 p) ∧ W.cell? ⟨h, 1, none⟩ = some (.int .i64 q) ∧ W.cell? ⟨h, 2, none⟩ = some (.int .i64 r) :=
  ⟨k.two.a, k.two.b, k.two.c, k.two.x, k.two.y, k.two.z, k.one.a, k.one.b, k.one.c⟩
theorem Tri.drew {g h : Nat} {a b c x y z p q r : Int} {W : World} (k : Tri g h a b c x y z p q r W) : Tri g h a b c x y z p q r W.drew := ⟨k.two.drew, k.one.drew, k.lt, k.lh⟩

set_option maxRecDepth 100000 in
set_option maxHeartbeats 12800000 in
theorem rest_at (ad : Option Addr) (len cap : Nat) (zs : List Int) (W : World) (hl : len ≤ 1048576) (hz : Draw.CodeAt W W.heap.size ad len zs) :
    Calls Try.prog 3 #[.slice ad len cap] W fun e w' => e = .returned (.bool true) ∧ Below W.heap.size W w' := by
  have HZ : Hid (Draw.CodeAt W W.heap.size ad len zs) := hz
  clear hz
  go_enter Try.func3, Try.ntmps3
  go_wp2_with fail
  refine (big_go ad len cap W hl).mono ?_
  rintro e w0 ⟨rfl, rfl⟩
  go_wp2_with fail
  refine (Draw.drawMeet ad len cap zs W HZ.out).mono ?_
  rintro e w1 ⟨a, b, c, x, y, z, rfl, hb1⟩
  obtain ⟨g, hg⟩ : ∃ g, w1.heap.size = g := ⟨_, rfl⟩
  obtain ⟨W2, hW2⟩ : ∃ W2, (w1.alloc (.cells #[.int .i64 a, .int .i64 b, .int .i64 c] 25)).alloc (.cells #[.int .i64 x, .int .i64 y, .int .i64 z] 25) = W2 := ⟨_, rfl⟩
  have T2 : Two g a b c x y z W2 := by rw [← hW2, ← hg]; constructor <;> simp [go_sem]
  have Z2 : g + 2 ≤ W2.heap.size := by rw [← hW2, ← hg]; simp
  have hb2 : Below W.heap.size W W2 := by rw [← hW2]; exact (hb1.alloc hb1.size _).alloc (by have := hb1.size; simp; omega) _
  have ZG : W.heap.size ≤ W2.heap.size := hb2.size
  have M0 := implMeet_is a b c x y z
  have KA := specOk_is a b c
  have KB := specOk_is x y z
  have EN := implEntails_is a b c x y z
  clear hb1
  obtain ⟨d0, d1, d2, d3, d4, d5⟩ := T2
  have T2 : Two g a b c x y z W2 := ⟨d0, d1, d2, d3, d4, d5⟩
  go_wp2_with fail
  try rw [hW2]
  refine (M0 _).mono ?_
  clear hW2 M0
  rintro e w3 ⟨rfl, hb3⟩
  clear d0 d1 d2 d3 d4 d5
  have T3 := T2.later hb3 Z2
  have Z3 := Nat.le_trans Z2 hb3.size
  have B3 := hb2.trans (hb3.mono ZG)
  clear T2 Z2 hb2 hb3
  obtain ⟨h, hh⟩ : ∃ h, w3.heap.size = h := ⟨_, rfl⟩
  generalize hp : mA a b c x y z = p
  generalize hq : mB a b c x y z = q
  generalize hr : mC a b c x y z = r
  obtain ⟨W4, hW4⟩ : ∃ W4, w3.alloc (.cells #[.int .i64 p, .int .i64 q, .int .i64 r] 25) = W4 := ⟨_, rfl⟩
  have X4 : Below w3.heap.size w3 W4 := by rw [← hW4]; exact (Below.refl _ _).alloc (Nat.le_refl _) _
  have O4 : One h p q r W4 := by rw [← hW4, ← hh]; constructor <;> simp [go_sem]
  have L4 : h < W4.heap.size := by rw [← hW4, ← hh]; simp
  have TC : Tri g h a b c x y z p q r W4 := ⟨T3.later X4 Z3, O4, Nat.le_trans Z3 X4.size, L4⟩
  have B4 := B3.trans (X4.mono B3.size)
  clear T3 Z3 B3 X4 O4 L4 ZG
  obtain ⟨d0, d1, d2, d3, d4, d5, d6, d7, d8⟩ := TC.nine
  go_wp2_with fail
  try rw [hW4]
  try rw [hh]
  refine (KA _).mono ?_
  clear hW4 KA
  rintro e w5 ⟨rfl, hb5⟩
  clear d0 d1 d2 d3 d4 d5 d6 d7 d8
  have TN := TC.later hb5
  have B5 := B4.trans (hb5.mono B4.size)
  clear TC B4 hb5
  have TC := TN
  clear TN
  by_cases h0 : rOk a b c = true
  · by_cases h1 : rOk x y z = true
    · obtain ⟨m0, m1, m2, m3, m4, m5, m6⟩ := rest_facts h0 h1
      have ep : andI a x = p := by rw [← hp]; unfold mA; rw [h0, h1]; rfl
      have eq : andI b y = q := by rw [← hq]; unfold mB; rw [h0, h1]; rfl
      have er : min c z = r := by rw [← hr]; unfold mC; rw [h0, h1]; rfl
      rw [ep, eq, er] at m0 m1 m2 m3 m4 m5 m6
      have E1 := implEntails_is p q r a b c
      have E2 := implEntails_is p q r x y z
      have M1 := implMeet_is x y z a b c
      have M2 := implMeet_is p q r a b c
      have E3 := EN
      rw [m1] at E1
      rw [m2] at E2
      rw [m3.1, m3.2.1, m3.2.2] at M1
      rw [m4.1, m4.2.1, m4.2.2] at M2
      rw [m5] at E3
      have P6 : Hid (∀ s o n, (rOk p q r && perB p q r s o n) = ((rOk a b c && perB a b c s o n) && (rOk x y z && perB x y z s o n))) := m6
      rw [h0]
      rw [h1] at KB
      clear m0 m1 m2 m3 m4 m5 m6 ep eq er hp hq hr EN h0 h1
      obtain ⟨d0, d1, d2, d3, d4, d5, d6, d7, d8⟩ := TC.nine
      go_wp2_with fail
      refine (KB _).mono ?_
      clear KB
      rintro e w6 ⟨rfl, hb6⟩
      clear d0 d1 d2 d3 d4 d5 d6 d7 d8
      have TN := TC.later hb6
      have B6 := B5.trans (hb6.mono B5.size)
      clear TC B5 hb6
      have TC := TN.drew
      have BC : Below w6.heap.size w6 w6.drew := (Below.refl _ _).drew
      clear TN
      go_wp2_with fail
      refine wp_region_held_drew (S := (fun V => V.cell? ⟨g, 0, none⟩ = some (.int .i64 a) ∧ V.cell? ⟨g, 1, none⟩ = some (.int .i64 b) ∧ V.cell? ⟨g, 2, none⟩ = some (.int .i64 c) ∧ V.cell? ⟨g + 1, 0, none⟩ = some (.int .i64 x) ∧ V.cell? ⟨g + 1, 1, none⟩ = some (.int .i64 y) ∧ V.cell? ⟨g + 1, 2, none⟩ = some (.int .i64 z) ∧ V.cell? ⟨h, 0, none⟩ = some (.int .i64 p) ∧ V.cell? ⟨h, 1, none⟩ = some (.int .i64 q) ∧ V.cell? ⟨h, 2, none⟩ = some (.int .i64 r))) (by kernel_rfl) TC.nine (fun hHeld => ?_)
      refine take_one 0 37 (v := ?_) rfl rfl (by kernel_rfl) (by kernel_rfl) (by kernel_rfl) (fun _ _ _ h => h) (Or.inl ⟨by rfl, ?_⟩) hHeld ?_
      rotate_left
      · intro w' hSw; (try dsimp only at hSw); go_simp; try with_reducible rfl
      try simp only [Act.put, List.setIfInBounds_toArray, List.set_cons_zero, List.set_cons_succ]
      refine take_one 1 38 (v := ?_) rfl rfl (by kernel_rfl) (by kernel_rfl) (by kernel_rfl) (fun _ _ _ h => h) (Or.inl ⟨by rfl, ?_⟩) hHeld ?_
      rotate_left
      · intro w' hSw; (try dsimp only at hSw); go_simp; try with_reducible rfl
      try simp only [Act.put, List.setIfInBounds_toArray, List.set_cons_zero, List.set_cons_succ]
      refine wpAnyH_ready (rs := [2]) (by kernel_rfl) (by simp) ?_
      refine AllReadyH.cons (i := 2) rfl (fun K hK => ?_) AllReadyH.nil
      go_simp
      refine (E1 _).mono ?_
      rintro e v1 ⟨rfl, hv1⟩
      have BN := BC.trans (hv1.mono BC.size)
      have TN := TC.later hv1
      clear BC TC
      have BC := BN
      have TC := TN
      clear BN TN hv1
      go_wp2_with fail
      refine hK.out _ _ TC.nine (fun hHeld2 => ?_)
      clear hK K hHeld
      have hHeld := hHeld2
      clear hHeld2
      try simp only [Act.put, List.setIfInBounds_toArray, List.set_cons_zero, List.set_cons_succ]
      refine take_one 3 40 (v := ?_) rfl rfl (by kernel_rfl) (by kernel_rfl) (by kernel_rfl) (fun _ _ _ h => h) (Or.inl ⟨by rfl, ?_⟩) hHeld ?_
      rotate_left
      · intro w' hSw; (try dsimp only at hSw); go_simp; try with_reducible rfl
      try simp only [Act.put, List.setIfInBounds_toArray, List.set_cons_zero, List.set_cons_succ]
      refine take_one 4 41 (v := ?_) rfl rfl (by kernel_rfl) (by kernel_rfl) (by kernel_rfl) (fun _ _ _ h => h) (Or.inl ⟨by rfl, ?_⟩) hHeld ?_
      rotate_left
      · intro w' hSw; (try dsimp only at hSw); go_simp; try with_reducible rfl
      try simp only [Act.put, List.setIfInBounds_toArray, List.set_cons_zero, List.set_cons_succ]
      refine take_one 5 42 (v := ?_) rfl rfl (by kernel_rfl) (by kernel_rfl) (by kernel_rfl) (fun _ _ _ h => h) (Or.inl ⟨by rfl, ?_⟩) hHeld ?_
      rotate_left
      · intro w' hSw; (try dsimp only at hSw); go_simp; try with_reducible rfl
      try simp only [Act.put, List.setIfInBounds_toArray, List.set_cons_zero, List.set_cons_succ]
      refine take_one 6 43 (v := ?_) rfl rfl (by kernel_rfl) (by kernel_rfl) (by kernel_rfl) (fun _ _ _ h => h) (Or.inl ⟨by rfl, ?_⟩) hHeld ?_
      rotate_left
      · intro w' hSw; (try dsimp only at hSw); go_simp; try with_reducible rfl
      try simp only [Act.put, List.setIfInBounds_toArray, List.set_cons_zero, List.set_cons_succ]
      refine wpAnyH_ready (rs := [7]) (by kernel_rfl) (by simp) ?_
      refine AllReadyH.cons (i := 7) rfl (fun K hK => ?_) AllReadyH.nil
      go_simp
      refine (E2 _).mono ?_
      rintro e v2 ⟨rfl, hv2⟩
      have BN := BC.trans (hv2.mono BC.size)
      have TN := TC.later hv2
      clear BC TC
      have BC := BN
      have TC := TN
      clear BN TN hv2
      go_wp2_with fail
      refine hK.out _ _ TC.nine (fun hHeld2 => ?_)
      clear hK K hHeld
      have hHeld := hHeld2
      clear hHeld2
      try simp only [Act.put, List.setIfInBounds_toArray, List.set_cons_zero, List.set_cons_succ]
      refine take_one 8 45 (v := ?_) rfl rfl (by kernel_rfl) (by kernel_rfl) (by kernel_rfl) (fun _ _ _ h => h) (Or.inl ⟨by rfl, ?_⟩) hHeld ?_
      rotate_left
      · intro w' hSw; (try dsimp only at hSw); go_simp; try with_reducible rfl
      try simp only [Act.put, List.setIfInBounds_toArray, List.set_cons_zero, List.set_cons_succ]
      refine take_one 9 46 (v := ?_) rfl rfl (by kernel_rfl) (by kernel_rfl) (by kernel_rfl) (fun _ _ _ h => h) (Or.inl ⟨by rfl, ?_⟩) hHeld ?_
      rotate_left
      · intro w' hSw; (try dsimp only at hSw); go_simp; try with_reducible rfl
      try simp only [Act.put, List.setIfInBounds_toArray, List.set_cons_zero, List.set_cons_succ]
      refine take_one 10 47 (v := ?_) rfl rfl (by kernel_rfl) (by kernel_rfl) (by kernel_rfl) (fun _ _ _ h => h) (Or.inl ⟨by rfl, ?_⟩) hHeld ?_
      rotate_left
      · intro w' hSw; (try dsimp only at hSw); go_simp; try with_reducible rfl
      try simp only [Act.put, List.setIfInBounds_toArray, List.set_cons_zero, List.set_cons_succ]
      refine take_one 11 48 (v := ?_) rfl rfl (by kernel_rfl) (by kernel_rfl) (by kernel_rfl) (fun _ _ _ h => h) (Or.inl ⟨by rfl, ?_⟩) hHeld ?_
      rotate_left
      · intro w' hSw; (try dsimp only at hSw); go_simp; try with_reducible rfl
      try simp only [Act.put, List.setIfInBounds_toArray, List.set_cons_zero, List.set_cons_succ]
      refine take_one 12 49 (v := ?_) rfl rfl (by kernel_rfl) (by kernel_rfl) (by kernel_rfl) (fun _ _ _ h => h) (Or.inl ⟨by rfl, ?_⟩) hHeld ?_
      rotate_left
      · intro w' hSw; (try dsimp only at hSw); go_simp; try with_reducible rfl
      try simp only [Act.put, List.setIfInBounds_toArray, List.set_cons_zero, List.set_cons_succ]
      refine take_one 14 51 (v := ?_) rfl rfl (by kernel_rfl) (by kernel_rfl) (by kernel_rfl) (fun _ _ _ h => h) (Or.inl ⟨by rfl, ?_⟩) hHeld ?_
      rotate_left
      · intro w' hSw; (try dsimp only at hSw); go_simp; try with_reducible rfl
      try simp only [Act.put, List.setIfInBounds_toArray, List.set_cons_zero, List.set_cons_succ]
      refine wpAnyH_ready (rs := [13]) (by kernel_rfl) (by simp) ?_
      refine AllReadyH.cons (i := 13) rfl (fun K hK => ?_) AllReadyH.nil
      go_simp
      refine (M1 _).mono ?_
      rintro e v3 ⟨rfl, hv3⟩
      have BN := BC.trans (hv3.mono BC.size)
      have TN := TC.later hv3
      clear BC TC
      have BC := BN
      have TC := TN
      clear BN TN hv3
      go_wp2_with fail
      refine hK.out _ _ TC.nine (fun hHeld2 => ?_)
      clear hK K hHeld
      have hHeld := hHeld2
      clear hHeld2
      try simp only [Act.put, List.setIfInBounds_toArray, List.set_cons_zero, List.set_cons_succ]
      refine take_one 15 52 (v := ?_) rfl rfl (by kernel_rfl) (by kernel_rfl) (by kernel_rfl) (fun _ _ _ h => h) (Or.inl ⟨by rfl, ?_⟩) hHeld ?_
      rotate_left
      · intro w' hSw; (try dsimp only at hSw); go_simp; try with_reducible rfl
      try simp only [Act.put, List.setIfInBounds_toArray, List.set_cons_zero, List.set_cons_succ]
      refine take_one 16 53 (v := ?_) rfl rfl (by kernel_rfl) (by kernel_rfl) (by kernel_rfl) (fun _ _ _ h => h) (Or.inl ⟨by rfl, ?_⟩) hHeld ?_
      rotate_left
      · intro w' hSw; (try dsimp only at hSw); go_simp; try with_reducible rfl
      try simp only [Act.put, List.setIfInBounds_toArray, List.set_cons_zero, List.set_cons_succ]
      refine take_one 17 54 (v := ?_) rfl rfl (by kernel_rfl) (by kernel_rfl) (by kernel_rfl) (fun _ _ _ h => h) (Or.inl ⟨by rfl, ?_⟩) hHeld ?_
      rotate_left
      · intro w' hSw; (try dsimp only at hSw); go_simp; try with_reducible rfl
      try simp only [Act.put, List.setIfInBounds_toArray, List.set_cons_zero, List.set_cons_succ]
      refine take_one 18 55 (v := ?_) rfl rfl (by kernel_rfl) (by kernel_rfl) (by kernel_rfl) (fun _ _ _ h => h) (Or.inl ⟨by rfl, ?_⟩) hHeld ?_
      rotate_left
      · intro w' hSw; (try dsimp only at hSw); go_simp; try with_reducible rfl
      try simp only [Act.put, List.setIfInBounds_toArray, List.set_cons_zero, List.set_cons_succ]
      refine take_one 19 56 (v := ?_) rfl rfl (by kernel_rfl) (by kernel_rfl) (by kernel_rfl) (fun _ _ _ h => h) (Or.inl ⟨by rfl, ?_⟩) hHeld ?_
      rotate_left
      · intro w' hSw; (try dsimp only at hSw); go_simp; try with_reducible rfl
      try simp only [Act.put, List.setIfInBounds_toArray, List.set_cons_zero, List.set_cons_succ]
      refine take_one 21 58 (v := ?_) rfl rfl (by kernel_rfl) (by kernel_rfl) (by kernel_rfl) (fun _ _ _ h => h) (Or.inl ⟨by rfl, ?_⟩) hHeld ?_
      rotate_left
      · intro w' hSw; (try dsimp only at hSw); go_simp; try with_reducible rfl
      try simp only [Act.put, List.setIfInBounds_toArray, List.set_cons_zero, List.set_cons_succ]
      refine wpAnyH_ready (rs := [20]) (by kernel_rfl) (by simp) ?_
      refine AllReadyH.cons (i := 20) rfl (fun K hK => ?_) AllReadyH.nil
      go_simp
      refine (M2 _).mono ?_
      rintro e v4 ⟨rfl, hv4⟩
      have BN := BC.trans (hv4.mono BC.size)
      have TN := TC.later hv4
      clear BC TC
      have BC := BN
      have TC := TN
      clear BN TN hv4
      go_wp2_with fail
      refine hK.out _ _ TC.nine (fun hHeld2 => ?_)
      clear hK K hHeld
      have hHeld := hHeld2
      clear hHeld2
      try simp only [Act.put, List.setIfInBounds_toArray, List.set_cons_zero, List.set_cons_succ]
      refine take_one 22 59 (v := ?_) rfl rfl (by kernel_rfl) (by kernel_rfl) (by kernel_rfl) (fun _ _ _ h => h) (Or.inl ⟨by rfl, ?_⟩) hHeld ?_
      rotate_left
      · intro w' hSw; (try dsimp only at hSw); go_simp; try with_reducible rfl
      try simp only [Act.put, List.setIfInBounds_toArray, List.set_cons_zero, List.set_cons_succ]
      refine take_one 23 60 (v := ?_) rfl rfl (by kernel_rfl) (by kernel_rfl) (by kernel_rfl) (fun _ _ _ h => h) (Or.inl ⟨by rfl, ?_⟩) hHeld ?_
      rotate_left
      · intro w' hSw; (try dsimp only at hSw); go_simp; try with_reducible rfl
      try simp only [Act.put, List.setIfInBounds_toArray, List.set_cons_zero, List.set_cons_succ]
      refine take_one 24 61 (v := ?_) rfl rfl (by kernel_rfl) (by kernel_rfl) (by kernel_rfl) (fun _ _ _ h => h) (Or.inl ⟨by rfl, ?_⟩) hHeld ?_
      rotate_left
      · intro w' hSw; (try dsimp only at hSw); go_simp; try with_reducible rfl
      try simp only [Act.put, List.setIfInBounds_toArray, List.set_cons_zero, List.set_cons_succ]
      refine take_one 25 62 (v := ?_) rfl rfl (by kernel_rfl) (by kernel_rfl) (by kernel_rfl) (fun _ _ _ h => h) (Or.inl ⟨by rfl, ?_⟩) hHeld ?_
      rotate_left
      · intro w' hSw; (try dsimp only at hSw); go_simp; try with_reducible rfl
      try simp only [Act.put, List.setIfInBounds_toArray, List.set_cons_zero, List.set_cons_succ]
      refine take_one 26 63 (v := ?_) rfl rfl (by kernel_rfl) (by kernel_rfl) (by kernel_rfl) (fun _ _ _ h => h) (Or.inl ⟨by rfl, ?_⟩) hHeld ?_
      rotate_left
      · intro w' hSw; (try dsimp only at hSw); go_simp; try with_reducible rfl
      try simp only [Act.put, List.setIfInBounds_toArray, List.set_cons_zero, List.set_cons_succ]
      refine take_one 28 65 (v := ?_) rfl rfl (by kernel_rfl) (by kernel_rfl) (by kernel_rfl) (fun _ _ _ h => h) (Or.inl ⟨by rfl, ?_⟩) hHeld ?_
      rotate_left
      · intro w' hSw; (try dsimp only at hSw); go_simp; try with_reducible rfl
      try simp only [Act.put, List.setIfInBounds_toArray, List.set_cons_zero, List.set_cons_succ]
      refine take_one 29 66 (v := ?_) rfl rfl (by kernel_rfl) (by kernel_rfl) (by kernel_rfl) (fun _ _ _ h => h) (Or.inl ⟨by rfl, ?_⟩) hHeld ?_
      rotate_left
      · intro w' hSw; (try dsimp only at hSw); go_simp; try with_reducible rfl
      try simp only [Act.put, List.setIfInBounds_toArray, List.set_cons_zero, List.set_cons_succ]
      refine take_one 30 67 (v := .bool (p == a && (q == b && (r == c)))) rfl rfl (by kernel_rfl) (by kernel_rfl) (by kernel_rfl) (fun _ _ _ h => h) (Or.inl ⟨by rfl, ?_⟩) hHeld ?_
      · intro w' hSw; (try dsimp only at hSw); go_simp; (by_cases i0 : p = a <;> by_cases i1 : q = b <;> by_cases i2 : r = c <;> simp [i0, i1, i2])
      try simp only [Act.put, List.setIfInBounds_toArray, List.set_cons_zero, List.set_cons_succ]
      refine wpAnyH_ready (rs := [27]) (by kernel_rfl) (by simp) ?_
      refine AllReadyH.cons (i := 27) rfl (fun K hK => ?_) AllReadyH.nil
      go_simp
      refine (E3 _).mono ?_
      rintro e v5 ⟨rfl, hv5⟩
      have BN := BC.trans (hv5.mono BC.size)
      have TN := TC.later hv5
      clear BC TC
      have BC := BN
      have TC := TN
      clear BN TN hv5
      go_wp2_with fail
      refine hK.out _ _ TC.nine (fun hHeld2 => ?_)
      clear hK K hHeld
      have hHeld := hHeld2
      clear hHeld2
      try simp only [Act.put, List.setIfInBounds_toArray, List.set_cons_zero, List.set_cons_succ]
      refine take_one 31 68 (v := .bool false) rfl rfl (by kernel_rfl) (by kernel_rfl) (by kernel_rfl) (fun _ _ _ h => h) (Or.inl ⟨by rfl, ?_⟩) hHeld ?_
      · intro w' hSw; (try dsimp only at hSw); go_simp; try rfl
      try simp only [Act.put, List.setIfInBounds_toArray, List.set_cons_zero, List.set_cons_succ]
      refine take_one 32 69 (v := ?_) rfl rfl (by kernel_rfl) (by kernel_rfl) (by kernel_rfl) (fun _ _ _ h => h) (Or.inl ⟨by rfl, ?_⟩) hHeld ?_
      rotate_left
      · intro w' hSw; (try dsimp only at hSw); go_simp; try with_reducible rfl
      try simp only [Act.put, List.setIfInBounds_toArray, List.set_cons_zero, List.set_cons_succ]
      refine wpAnyH_done (by kernel_rfl) ?_ _
      clear hHeld E1 E2 E3 M1 M2
      have B7 := B6.trans (BC.mono B6.size)
      have hz7 : Draw.CodeAt v5 v5.heap.size ad len zs := (HZ.out.below B7).lt B7.size
      clear BC B6
      go_wp2_with fail
      refine (Draw.drawPermits ad len cap zs _ hz7).mono ?_
      clear hz7 HZ
      rintro e w8 ⟨u0, u1, u2, s, o, n, rfl, hb8⟩
      have P1 := implPermits_is p q r s o n
      have P2 := implPermits_is a b c s o n
      have P3 := implPermits_is x y z s o n
      have P7 := P6.out s o n
      clear P6
      generalize (rOk p q r && perB p q r s o n) = A1 at P1 P7
      generalize (rOk a b c && perB a b c s o n) = A2 at P2 P7
      generalize (rOk x y z && perB x y z s o n) = A3 at P3 P7
      subst P7
      have TN := TC.later hb8
      have B8 := B7.trans (hb8.mono B7.size)
      clear TC B7 hb8
      obtain ⟨W9, hW9⟩ : ∃ W9, w8.alloc (.cells #[.int .i64 u0, .int .i64 u1, .int .i64 u2] 25) = W9 := ⟨_, rfl⟩
      have X9 : Below w8.heap.size w8 W9 := by rw [← hW9]; exact (Below.refl _ _).alloc (Nat.le_refl _) _
      have TC := (TN.later X9).drew
      have B9 := B8.trans (X9.mono B8.size)
      have BC : Below W9.heap.size W9 W9.drew := (Below.refl _ _).drew
      clear TN B8 X9
      go_wp2_with fail
      try rw [hW9]
      clear hW9
      cases A2 with
      | true =>
        refine wp_region_held_drew (S := (fun V => V.cell? ⟨g, 0, none⟩ = some (.int .i64 a) ∧ V.cell? ⟨g, 1, none⟩ = some (.int .i64 b) ∧ V.cell? ⟨g, 2, none⟩ = some (.int .i64 c) ∧ V.cell? ⟨g + 1, 0, none⟩ = some (.int .i64 x) ∧ V.cell? ⟨g + 1, 1, none⟩ = some (.int .i64 y) ∧ V.cell? ⟨g + 1, 2, none⟩ = some (.int .i64 z) ∧ V.cell? ⟨h, 0, none⟩ = some (.int .i64 p) ∧ V.cell? ⟨h, 1, none⟩ = some (.int .i64 q) ∧ V.cell? ⟨h, 2, none⟩ = some (.int .i64 r))) (by kernel_rfl) TC.nine (fun hHeld => ?_)
        refine take_one 0 77 (v := ?_) rfl rfl (by kernel_rfl) (by kernel_rfl) (by kernel_rfl) (fun _ _ _ h => h) (Or.inl ⟨by rfl, ?_⟩) hHeld ?_
        rotate_left
        · intro w' hSw; (try dsimp only at hSw); go_simp; try with_reducible rfl
        try simp only [Act.put, List.setIfInBounds_toArray, List.set_cons_zero, List.set_cons_succ]
        refine take_one 1 78 (v := ?_) rfl rfl (by kernel_rfl) (by kernel_rfl) (by kernel_rfl) (fun _ _ _ h => h) (Or.inl ⟨by rfl, ?_⟩) hHeld ?_
        rotate_left
        · intro w' hSw; (try dsimp only at hSw); go_simp; try with_reducible rfl
        try simp only [Act.put, List.setIfInBounds_toArray, List.set_cons_zero, List.set_cons_succ]
        refine take_one 2 79 (v := ?_) rfl rfl (by kernel_rfl) (by kernel_rfl) (by kernel_rfl) (fun _ _ _ h => h) (Or.inl ⟨by rfl, ?_⟩) hHeld ?_
        rotate_left
        · intro w' hSw; (try dsimp only at hSw); go_simp; try with_reducible rfl
        try simp only [Act.put, List.setIfInBounds_toArray, List.set_cons_zero, List.set_cons_succ]
        refine take_one 3 80 (v := ?_) rfl rfl (by kernel_rfl) (by kernel_rfl) (by kernel_rfl) (fun _ _ _ h => h) (Or.inl ⟨by rfl, ?_⟩) hHeld ?_
        rotate_left
        · intro w' hSw; (try dsimp only at hSw); go_simp; try with_reducible rfl
        try simp only [Act.put, List.setIfInBounds_toArray, List.set_cons_zero, List.set_cons_succ]
        refine take_one 5 82 (v := ?_) rfl rfl (by kernel_rfl) (by kernel_rfl) (by kernel_rfl) (fun _ _ _ h => h) (Or.inl ⟨by rfl, ?_⟩) hHeld ?_
        rotate_left
        · intro w' hSw; (try dsimp only at hSw); go_simp; try with_reducible rfl
        try simp only [Act.put, List.setIfInBounds_toArray, List.set_cons_zero, List.set_cons_succ]
        refine take_one 6 83 (v := ?_) rfl rfl (by kernel_rfl) (by kernel_rfl) (by kernel_rfl) (fun _ _ _ h => h) (Or.inl ⟨by rfl, ?_⟩) hHeld ?_
        rotate_left
        · intro w' hSw; (try dsimp only at hSw); go_simp; try with_reducible rfl
        try simp only [Act.put, List.setIfInBounds_toArray, List.set_cons_zero, List.set_cons_succ]
        refine take_one 7 84 (v := ?_) rfl rfl (by kernel_rfl) (by kernel_rfl) (by kernel_rfl) (fun _ _ _ h => h) (Or.inl ⟨by rfl, ?_⟩) hHeld ?_
        rotate_left
        · intro w' hSw; (try dsimp only at hSw); go_simp; try with_reducible rfl
        try simp only [Act.put, List.setIfInBounds_toArray, List.set_cons_zero, List.set_cons_succ]
        refine take_one 8 85 (v := ?_) rfl rfl (by kernel_rfl) (by kernel_rfl) (by kernel_rfl) (fun _ _ _ h => h) (Or.inl ⟨by rfl, ?_⟩) hHeld ?_
        rotate_left
        · intro w' hSw; (try dsimp only at hSw); go_simp; try with_reducible rfl
        try simp only [Act.put, List.setIfInBounds_toArray, List.set_cons_zero, List.set_cons_succ]
        refine wpAnyH_ready (rs := [4]) (by kernel_rfl) (by simp) ?_
        refine AllReadyH.cons (i := 4) rfl (fun K hK => ?_) AllReadyH.nil
        go_simp
        refine (P1 _).mono ?_
        rintro e v6 ⟨rfl, hv6⟩
        have BN := BC.trans (hv6.mono BC.size)
        have TN := TC.later hv6
        clear BC TC
        have BC := BN
        have TC := TN
        clear BN TN hv6
        go_wp2_with fail
        refine hK.out _ _ TC.nine (fun hHeld2 => ?_)
        clear hK K hHeld
        have hHeld := hHeld2
        clear hHeld2
        try simp only [Act.put, List.setIfInBounds_toArray, List.set_cons_zero, List.set_cons_succ]
        refine wpAnyH_ready (rs := [9]) (by kernel_rfl) (by simp) ?_
        refine AllReadyH.cons (i := 9) rfl (fun K hK => ?_) AllReadyH.nil
        go_simp
        refine (P2 _).mono ?_
        rintro e v7 ⟨rfl, hv7⟩
        have BN := BC.trans (hv7.mono BC.size)
        have TN := TC.later hv7
        clear BC TC
        have BC := BN
        have TC := TN
        clear BN TN hv7
        go_wp2_with fail
        refine hK.out _ _ TC.nine (fun hHeld2 => ?_)
        clear hK K hHeld
        have hHeld := hHeld2
        clear hHeld2
        try simp only [Act.put, List.setIfInBounds_toArray, List.set_cons_zero, List.set_cons_succ]
        refine take_one 10 87 (v := ?_) rfl rfl (by kernel_rfl) (by kernel_rfl) (by kernel_rfl) (fun _ _ _ h => h) (Or.inl ⟨by rfl, ?_⟩) hHeld ?_
        rotate_left
        · intro w' hSw; (try dsimp only at hSw); go_simp; try with_reducible rfl
        try simp only [Act.put, List.setIfInBounds_toArray, List.set_cons_zero, List.set_cons_succ]
        refine take_one 11 88 (v := ?_) rfl rfl (by kernel_rfl) (by kernel_rfl) (by kernel_rfl) (fun _ _ _ h => h) (Or.inl ⟨by rfl, ?_⟩) hHeld ?_
        rotate_left
        · intro w' hSw; (try dsimp only at hSw); go_simp; try with_reducible rfl
        try simp only [Act.put, List.setIfInBounds_toArray, List.set_cons_zero, List.set_cons_succ]
        refine take_one 12 89 (v := ?_) rfl rfl (by kernel_rfl) (by kernel_rfl) (by kernel_rfl) (fun _ _ _ h => h) (Or.inl ⟨by rfl, ?_⟩) hHeld ?_
        rotate_left
        · intro w' hSw; (try dsimp only at hSw); go_simp; try with_reducible rfl
        try simp only [Act.put, List.setIfInBounds_toArray, List.set_cons_zero, List.set_cons_succ]
        refine take_one 13 90 (v := ?_) rfl rfl (by kernel_rfl) (by kernel_rfl) (by kernel_rfl) (fun _ _ _ h => h) (Or.inl ⟨by rfl, ?_⟩) hHeld ?_
        rotate_left
        · intro w' hSw; (try dsimp only at hSw); go_simp; try with_reducible rfl
        try simp only [Act.put, List.setIfInBounds_toArray, List.set_cons_zero, List.set_cons_succ]
        refine take_one 14 91 (v := ?_) rfl rfl (by kernel_rfl) (by kernel_rfl) (by kernel_rfl) (fun _ _ _ h => h) (Or.inl ⟨by rfl, ?_⟩) hHeld ?_
        rotate_left
        · intro w' hSw; (try dsimp only at hSw); go_simp; try with_reducible rfl
        try simp only [Act.put, List.setIfInBounds_toArray, List.set_cons_zero, List.set_cons_succ]
        refine wpAnyH_ready (rs := [15]) (by kernel_rfl) (by simp) ?_
        refine AllReadyH.cons (i := 15) rfl (fun K hK => ?_) AllReadyH.nil
        go_simp
        refine (P3 _).mono ?_
        rintro e v8 ⟨rfl, hv8⟩
        have BN := BC.trans (hv8.mono BC.size)
        have TN := TC.later hv8
        clear BC TC
        have BC := BN
        have TC := TN
        clear BN TN hv8
        go_wp2_with fail
        refine hK.out _ _ TC.nine (fun hHeld2 => ?_)
        clear hK K hHeld
        have hHeld := hHeld2
        clear hHeld2
        try simp only [Act.put, List.setIfInBounds_toArray, List.set_cons_zero, List.set_cons_succ]
        refine take_one 16 93 (v := ?_) rfl rfl (by kernel_rfl) (by kernel_rfl) (by kernel_rfl) (fun _ _ _ h => h) (Or.inl ⟨by rfl, ?_⟩) hHeld ?_
        rotate_left
        · intro w' hSw; (try dsimp only at hSw); go_simp; try with_reducible rfl
        try simp only [Act.put, List.setIfInBounds_toArray, List.set_cons_zero, List.set_cons_succ]
        refine take_one 17 94 (v := ?_) rfl rfl (by kernel_rfl) (by kernel_rfl) (by kernel_rfl) (fun _ _ _ h => h) (Or.inl ⟨by rfl, ?_⟩) hHeld ?_
        rotate_left
        · intro w' hSw; (try dsimp only at hSw); go_simp; try with_reducible rfl
        try simp only [Act.put, List.setIfInBounds_toArray, List.set_cons_zero, List.set_cons_succ]
        refine take_one 18 2 (v := ?_) rfl rfl (by kernel_rfl) (by kernel_rfl) (by kernel_rfl) (fun _ _ _ h => h) (Or.inl ⟨by rfl, ?_⟩) hHeld ?_
        rotate_left
        · intro w' hSw; (try dsimp only at hSw); go_simp; try with_reducible rfl
        try simp only [Act.put, List.setIfInBounds_toArray, List.set_cons_zero, List.set_cons_succ]
        refine wpAnyH_done (by kernel_rfl) ?_ _
        clear hHeld P1 P2 P3
        have BE := B9.trans (BC.mono B9.size)
        clear TC
        cases A3
        all_goals
          go_wp2
          go_ret
          exact ⟨rfl, BE⟩
      | false =>
        refine wp_region_held_drew (S := (fun V => V.cell? ⟨g, 0, none⟩ = some (.int .i64 a) ∧ V.cell? ⟨g, 1, none⟩ = some (.int .i64 b) ∧ V.cell? ⟨g, 2, none⟩ = some (.int .i64 c) ∧ V.cell? ⟨g + 1, 0, none⟩ = some (.int .i64 x) ∧ V.cell? ⟨g + 1, 1, none⟩ = some (.int .i64 y) ∧ V.cell? ⟨g + 1, 2, none⟩ = some (.int .i64 z) ∧ V.cell? ⟨h, 0, none⟩ = some (.int .i64 p) ∧ V.cell? ⟨h, 1, none⟩ = some (.int .i64 q) ∧ V.cell? ⟨h, 2, none⟩ = some (.int .i64 r))) (by kernel_rfl) TC.nine (fun hHeld => ?_)
        refine take_one 0 77 (v := ?_) rfl rfl (by kernel_rfl) (by kernel_rfl) (by kernel_rfl) (fun _ _ _ h => h) (Or.inl ⟨by rfl, ?_⟩) hHeld ?_
        rotate_left
        · intro w' hSw; (try dsimp only at hSw); go_simp; try with_reducible rfl
        try simp only [Act.put, List.setIfInBounds_toArray, List.set_cons_zero, List.set_cons_succ]
        refine take_one 1 78 (v := ?_) rfl rfl (by kernel_rfl) (by kernel_rfl) (by kernel_rfl) (fun _ _ _ h => h) (Or.inl ⟨by rfl, ?_⟩) hHeld ?_
        rotate_left
        · intro w' hSw; (try dsimp only at hSw); go_simp; try with_reducible rfl
        try simp only [Act.put, List.setIfInBounds_toArray, List.set_cons_zero, List.set_cons_succ]
        refine take_one 2 79 (v := ?_) rfl rfl (by kernel_rfl) (by kernel_rfl) (by kernel_rfl) (fun _ _ _ h => h) (Or.inl ⟨by rfl, ?_⟩) hHeld ?_
        rotate_left
        · intro w' hSw; (try dsimp only at hSw); go_simp; try with_reducible rfl
        try simp only [Act.put, List.setIfInBounds_toArray, List.set_cons_zero, List.set_cons_succ]
        refine take_one 3 80 (v := ?_) rfl rfl (by kernel_rfl) (by kernel_rfl) (by kernel_rfl) (fun _ _ _ h => h) (Or.inl ⟨by rfl, ?_⟩) hHeld ?_
        rotate_left
        · intro w' hSw; (try dsimp only at hSw); go_simp; try with_reducible rfl
        try simp only [Act.put, List.setIfInBounds_toArray, List.set_cons_zero, List.set_cons_succ]
        refine take_one 5 82 (v := ?_) rfl rfl (by kernel_rfl) (by kernel_rfl) (by kernel_rfl) (fun _ _ _ h => h) (Or.inl ⟨by rfl, ?_⟩) hHeld ?_
        rotate_left
        · intro w' hSw; (try dsimp only at hSw); go_simp; try with_reducible rfl
        try simp only [Act.put, List.setIfInBounds_toArray, List.set_cons_zero, List.set_cons_succ]
        refine take_one 6 83 (v := ?_) rfl rfl (by kernel_rfl) (by kernel_rfl) (by kernel_rfl) (fun _ _ _ h => h) (Or.inl ⟨by rfl, ?_⟩) hHeld ?_
        rotate_left
        · intro w' hSw; (try dsimp only at hSw); go_simp; try with_reducible rfl
        try simp only [Act.put, List.setIfInBounds_toArray, List.set_cons_zero, List.set_cons_succ]
        refine take_one 7 84 (v := ?_) rfl rfl (by kernel_rfl) (by kernel_rfl) (by kernel_rfl) (fun _ _ _ h => h) (Or.inl ⟨by rfl, ?_⟩) hHeld ?_
        rotate_left
        · intro w' hSw; (try dsimp only at hSw); go_simp; try with_reducible rfl
        try simp only [Act.put, List.setIfInBounds_toArray, List.set_cons_zero, List.set_cons_succ]
        refine take_one 8 85 (v := ?_) rfl rfl (by kernel_rfl) (by kernel_rfl) (by kernel_rfl) (fun _ _ _ h => h) (Or.inl ⟨by rfl, ?_⟩) hHeld ?_
        rotate_left
        · intro w' hSw; (try dsimp only at hSw); go_simp; try with_reducible rfl
        try simp only [Act.put, List.setIfInBounds_toArray, List.set_cons_zero, List.set_cons_succ]
        refine wpAnyH_ready (rs := [4]) (by kernel_rfl) (by simp) ?_
        refine AllReadyH.cons (i := 4) rfl (fun K hK => ?_) AllReadyH.nil
        go_simp
        refine (P1 _).mono ?_
        rintro e v9 ⟨rfl, hv9⟩
        have BN := BC.trans (hv9.mono BC.size)
        have TN := TC.later hv9
        clear BC TC
        have BC := BN
        have TC := TN
        clear BN TN hv9
        go_wp2_with fail
        refine hK.out _ _ TC.nine (fun hHeld2 => ?_)
        clear hK K hHeld
        have hHeld := hHeld2
        clear hHeld2
        try simp only [Act.put, List.setIfInBounds_toArray, List.set_cons_zero, List.set_cons_succ]
        refine wpAnyH_ready (rs := [9]) (by kernel_rfl) (by simp) ?_
        refine AllReadyH.cons (i := 9) rfl (fun K hK => ?_) AllReadyH.nil
        go_simp
        refine (P2 _).mono ?_
        rintro e v10 ⟨rfl, hv10⟩
        have BN := BC.trans (hv10.mono BC.size)
        have TN := TC.later hv10
        clear BC TC
        have BC := BN
        have TC := TN
        clear BN TN hv10
        go_wp2_with fail
        refine hK.out _ _ TC.nine (fun hHeld2 => ?_)
        clear hK K hHeld
        have hHeld := hHeld2
        clear hHeld2
        try simp only [Act.put, List.setIfInBounds_toArray, List.set_cons_zero, List.set_cons_succ]
        refine take_one 10 87 (v := ?_) rfl rfl (by kernel_rfl) (by kernel_rfl) (by kernel_rfl) (fun _ _ _ h => h) (Or.inl ⟨by rfl, ?_⟩) hHeld ?_
        rotate_left
        · intro w' hSw; (try dsimp only at hSw); go_simp; try with_reducible rfl
        try simp only [Act.put, List.setIfInBounds_toArray, List.set_cons_zero, List.set_cons_succ]
        refine skip_one 11 88 rfl rfl (by kernel_rfl) (by kernel_rfl) (by kernel_rfl) (fun _ _ _ h => h) (unwanted (c := false) rfl rfl (by simp) rfl) hHeld ?_
        try simp only [Act.put, List.setIfInBounds_toArray, List.set_cons_zero, List.set_cons_succ]
        refine skip_one 12 89 rfl rfl (by kernel_rfl) (by kernel_rfl) (by kernel_rfl) (fun _ _ _ h => h) (unwanted (c := false) rfl rfl (by simp) rfl) hHeld ?_
        try simp only [Act.put, List.setIfInBounds_toArray, List.set_cons_zero, List.set_cons_succ]
        refine skip_one 13 90 rfl rfl (by kernel_rfl) (by kernel_rfl) (by kernel_rfl) (fun _ _ _ h => h) (unwanted (c := false) rfl rfl (by simp) rfl) hHeld ?_
        try simp only [Act.put, List.setIfInBounds_toArray, List.set_cons_zero, List.set_cons_succ]
        refine skip_one 14 91 rfl rfl (by kernel_rfl) (by kernel_rfl) (by kernel_rfl) (fun _ _ _ h => h) (unwanted (c := false) rfl rfl (by simp) rfl) hHeld ?_
        try simp only [Act.put, List.setIfInBounds_toArray, List.set_cons_zero, List.set_cons_succ]
        refine skip_one 15 92 rfl rfl (by kernel_rfl) (by kernel_rfl) (by kernel_rfl) (fun _ _ _ h => h) (unwanted (c := false) rfl rfl (by simp) rfl) hHeld ?_
        try simp only [Act.put, List.setIfInBounds_toArray, List.set_cons_zero, List.set_cons_succ]
        refine take_one 16 93 (v := ?_) rfl rfl (by kernel_rfl) (by kernel_rfl) (by kernel_rfl) (fun _ _ _ h => h) (Or.inl ⟨by rfl, ?_⟩) hHeld ?_
        rotate_left
        · intro w' hSw; (try dsimp only at hSw); go_simp; try with_reducible rfl
        try simp only [Act.put, List.setIfInBounds_toArray, List.set_cons_zero, List.set_cons_succ]
        refine take_one 17 94 (v := ?_) rfl rfl (by kernel_rfl) (by kernel_rfl) (by kernel_rfl) (fun _ _ _ h => h) (Or.inl ⟨by rfl, ?_⟩) hHeld ?_
        rotate_left
        · intro w' hSw; (try dsimp only at hSw); go_simp; try with_reducible rfl
        try simp only [Act.put, List.setIfInBounds_toArray, List.set_cons_zero, List.set_cons_succ]
        refine take_one 18 2 (v := ?_) rfl rfl (by kernel_rfl) (by kernel_rfl) (by kernel_rfl) (fun _ _ _ h => h) (Or.inl ⟨by rfl, ?_⟩) hHeld ?_
        rotate_left
        · intro w' hSw; (try dsimp only at hSw); go_simp; try with_reducible rfl
        try simp only [Act.put, List.setIfInBounds_toArray, List.set_cons_zero, List.set_cons_succ]
        refine wpAnyH_done (by kernel_rfl) ?_ _
        clear hHeld P1 P2 P3
        have BE := B9.trans (BC.mono B9.size)
        clear TC
        go_wp2
        go_ret
        exact ⟨rfl, BE⟩
    · rw [Bool.not_eq_true] at h1
      rw [h0]
      rw [h1] at KB
      have hE : entB a b c x y z = false := by unfold entB; rw [h0, h1]; rfl
      have z1 : p = 0 := by rw [← hp]; unfold mA; rw [h0, h1]; rfl
      have z2 : q = 0 := by rw [← hq]; unfold mB; rw [h0, h1]; rfl
      have z3 : r = 0 := by rw [← hr]; unfold mC; rw [h0, h1]; rfl
      rw [hE] at EN
      clear hp hq hr HZ hE
      subst z1 z2 z3
      obtain ⟨d0, d1, d2, d3, d4, d5, d6, d7, d8⟩ := TC.nine
      go_wp2_with fail
      refine (KB _).mono ?_
      clear KB
      rintro e w6 ⟨rfl, hb6⟩
      clear d0 d1 d2 d3 d4 d5 d6 d7 d8
      have TN := TC.later hb6
      have B6 := B5.trans (hb6.mono B5.size)
      clear TC B5 hb6
      obtain ⟨d0, d1, d2, d3, d4, d5, d6, d7, d8⟩ := TN.nine
      go_wp2_with fail
      refine (EN _).mono ?_
      clear EN
      rintro e w7 ⟨rfl, hb7⟩
      have B7 := B6.trans (hb7.mono B6.size)
      clear d0 d1 d2 d3 d4 d5 d6 d7 d8
      go_wp2
      go_ret
      exact ⟨rfl, B7⟩
  · rw [Bool.not_eq_true] at h0
    rw [h0]
    have hE : entB a b c x y z = false := by unfold entB; rw [h0]; rfl
    have z1 : p = 0 := by rw [← hp]; unfold mA; rw [h0]; rfl
    have z2 : q = 0 := by rw [← hq]; unfold mB; rw [h0]; rfl
    have z3 : r = 0 := by rw [← hr]; unfold mC; rw [h0]; rfl
    rw [hE] at EN
    clear hp hq hr HZ hE
    subst z1 z2 z3
    obtain ⟨d0, d1, d2, d3, d4, d5, d6, d7, d8⟩ := TC.nine
    go_wp2_with fail
    refine (EN _).mono ?_
    clear EN
    rintro e w7 ⟨rfl, hb7⟩
    have B7 := B5.trans (hb7.mono B5.size)
    clear d0 d1 d2 d3 d4 d5 d6 d7 d8
    go_wp2
    go_ret
    exact ⟨rfl, B7⟩
end Go.Proofs.Ythhodbpliaiglaa
