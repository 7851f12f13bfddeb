/- Rests: Meet of the model, Entails and Permits of both, and what the laws compare by. -/
import Derived.Test.YthhodbpliaiglaaRest
import Derived.Deep.RegionHeld3
set_option linter.unusedVariables false
namespace Go.Proofs.Ythhodbpliaiglaa
open Go Go.RowKit

theorem Two.six {s : Nat} {a b c x y z : Int} {W : World} (h : Two s a b c x y z W) : W.cell? ⟨s, 0, none⟩ = some (.int .i64 a) ∧ W.cell? ⟨s, 1, none⟩ = some (.int .i64 b) ∧ W.cell? ⟨s, 2, none⟩ = some (.int .i64 c) ∧ W.cell? ⟨s + 1, 0, none⟩ = some (.int .i64 x) ∧ W.cell? ⟨s + 1, 1, none⟩ = some (.int .i64 y) ∧ W.cell? ⟨s + 1, 2, none⟩ = some (.int .i64 z) := ⟨h.a, h.b, h.c, h.x, h.y, h.z⟩
theorem Two.drew {s : Nat} {a b c x y z : Int} {W : World} (h : Two s a b c x y z W) : Two s a b c x y z W.drew := ⟨by simpa using h.a, by simpa using h.b, by simpa using h.c, by simpa using h.x, by simpa using h.y, by simpa using h.z⟩

theorem set3_more {n g : Nat} {w W : World} {p q r : Value} (h : Below n w (set3 W g p q r) ∧ (set3 W g p q r).cell? ⟨g, 0, none⟩ = some p ∧ (set3 W g p q r).cell? ⟨g, 1, none⟩ = some q ∧ (set3 W g p q r).cell? ⟨g, 2, none⟩ = some r) (hg : g < W.heap.size) (hn : n ≤ g) (o : Obj) :
    Below n w ((set3 W g p q r).alloc o) ∧ ((set3 W g p q r).alloc o).cell? ⟨g, 0, none⟩ = some p ∧ ((set3 W g p q r).alloc o).cell? ⟨g, 1, none⟩ = some q ∧ ((set3 W g p q r).alloc o).cell? ⟨g, 2, none⟩ = some r := by
  have hs : g < (set3 W g p q r).heap.size := by simpa [set3] using hg
  have X := (Below.refl (set3 W g p q r).heap.size (set3 W g p q r)).alloc (Nat.le_refl _) o
  refine ⟨?_, (X.cell (p := ⟨g, 0, none⟩) hs).trans h.2.1, (X.cell (p := ⟨g, 1, none⟩) hs).trans h.2.2.1, (X.cell (p := ⟨g, 2, none⟩) hs).trans h.2.2.2⟩
  exact h.1.alloc (by omega) o

set_option maxRecDepth 100000 in
set_option maxHeartbeats 1600000 in
theorem specMeet_is (a b c x y z : Int) (w : World) : Calls Try.prog 19 #[rv a b c, rv x y z] w fun e w' => e = .returned (rv (mA a b c x y z) (mB a b c x y z) (mC a b c x y z)) ∧ Below w.heap.size w w' := by
  obtain ⟨W3, hW3⟩ : ∃ W3, ((w.alloc (.cells #[.int .i64 a, .int .i64 b, .int .i64 c] 25)).alloc (.cells #[.int .i64 x, .int .i64 y, .int .i64 z] 25)).alloc (.cells #[.int .i64 0, .int .i64 0, .int .i64 0] 25) = W3 := ⟨_, rfl⟩
  have hb0 : Below w.heap.size w W3 := by rw [← hW3]; exact (((Below.refl _ _).alloc (Nat.le_refl _) _).alloc (by simp) _).alloc (by simp; omega) _
  have hz : Hid (W3.heap.size = w.heap.size + 3) := by show W3.heap.size = w.heap.size + 3; rw [← hW3]; simp
  have T0 : Two w.heap.size a b c x y z W3 := by rw [← hW3]; constructor <;> simp [go_sem]
  have O0 : Out3 (w.heap.size + 1 + 1) W3 := by rw [← hW3]; constructor <;> simp [go_sem]
  have fin : ∀ {wl : World} (p q r : Value), Below W3.heap.size W3 wl → Below w.heap.size w (set3 wl (w.heap.size + 1 + 1) p q r) ∧ (set3 wl (w.heap.size + 1 + 1) p q r).cell? ⟨w.heap.size + 1 + 1, 0, none⟩ = some p ∧ (set3 wl (w.heap.size + 1 + 1) p q r).cell? ⟨w.heap.size + 1 + 1, 1, none⟩ = some q ∧ (set3 wl (w.heap.size + 1 + 1) p q r).cell? ⟨w.heap.size + 1 + 1, 2, none⟩ = some r := by
    intro wl p q r hb
    obtain ⟨⟨v0, h0⟩, ⟨v1, h1⟩, ⟨v2, h2⟩, _, _, _⟩ := O0.later hb (by have := hz.out; omega)
    exact ⟨set3_below (hb0.trans (hb.mono hb0.size)) (by omega) _ _ _, set3_0 _ _ _ h0, set3_1 _ _ _ h1, set3_2 _ _ _ h2⟩
  have FIN : Hid (∀ {wl : World} (p q r : Value), Below W3.heap.size W3 wl → Below w.heap.size w (set3 wl (w.heap.size + 1 + 1) p q r) ∧ (set3 wl (w.heap.size + 1 + 1) p q r).cell? ⟨w.heap.size + 1 + 1, 0, none⟩ = some p ∧ (set3 wl (w.heap.size + 1 + 1) p q r).cell? ⟨w.heap.size + 1 + 1, 1, none⟩ = some q ∧ (set3 wl (w.heap.size + 1 + 1) p q r).cell? ⟨w.heap.size + 1 + 1, 2, none⟩ = some r) := fin
  clear fin
  obtain ⟨d0, d1, d2, d3, d4, d5⟩ := T0
  go_enter Try.func19, Try.ntmps19
  go_wp2_with fail
  try rw [hW3]
  refine (specOk_is a b c _).mono ?_
  rintro e w1 ⟨rfl, hb1⟩
  clear hW3
  have T0 : Two w.heap.size a b c x y z W3 := ⟨d0, d1, d2, d3, d4, d5⟩
  by_cases h0 : rOk a b c = true
  · rw [h0]
    obtain ⟨e0, e1, e2, e3, e4, e5⟩ := T0.later hb1 (by have := hz.out; omega)
    go_wp2_with fail
    refine (specOk_is x y z _).mono ?_
    rintro e w2 ⟨rfl, hb2⟩
    have B2 := hb1.trans (hb2.mono hb1.size)
    clear e0 e1 e2 e3 e4 e5 hb1 hb2
    by_cases h1 : rOk x y z = true
    · rw [h1]
      obtain ⟨W5, hW5⟩ : ∃ W5, w2.alloc (.cells #[.int .i64 (bits .and .i64 a x), .int .i64 (bits .and .i64 b y), .int .i64 (min c z)] 25) = W5 := ⟨_, rfl⟩
      have B5 : Below W3.heap.size W3 W5 := by rw [← hW5]; exact B2.alloc B2.size _
      obtain ⟨e0, e1, e2, e3, e4, e5⟩ := T0.later B2 (by have := hz.out; omega)
      have LL : w.heap.size + 1 + 1 < w2.heap.size := by have := hz.out; have := B2.size; omega
      have L1 : w.heap.size + 1 < w2.heap.size := by omega
      have L0 : w.heap.size < w2.heap.size := by omega
      have N2 : ¬ w.heap.size + 1 + 1 = w2.heap.size := by omega
      have N1 : ¬ w.heap.size + 1 = w2.heap.size := by omega
      have N0 : ¬ w.heap.size = w2.heap.size := by omega
      have y5 := (((Below.refl w2.heap.size w2).alloc (Nat.le_refl _) (.cells #[.int .i64 (bits .and .i64 a x), .int .i64 (bits .and .i64 b y), .int .i64 c] 25)).cell (p := ⟨w.heap.size + 1, 2, none⟩) L1).trans (T0.later B2 (by have := hz.out; omega)).z
      obtain ⟨⟨v0, o0⟩, ⟨v1, o1⟩, ⟨v2, o2⟩, f0, f1, f2⟩ := O0.later B2 (by have := hz.out; omega)
      have F := FIN.out (.int .i64 (bits .and .i64 a x)) (.int .i64 (bits .and .i64 b y)) (.int .i64 (min c z)) B2
      have G := set3_more F (show w.heap.size + 1 + 1 < w2.heap.size from LL) (by omega) (.cells #[.int .i64 (bits .and .i64 a x), .int .i64 (bits .and .i64 b y), .int .i64 (min c z)] 25)
      clear FIN d0 d1 d2 d3 d4 d5 T0 F hW5 B5
      by_cases hlt : z < c
      · have hm : min c z = z := Int.min_eq_right (by omega)
        rw [hm] at G
        have GH := show Hid _ from G
        clear G
        go_wp2
        have G := GH.out
        exact bodyPost_ret (res_three rfl _ _ (w.heap.size + 1 + 1) _ _ _ rfl G.2.1 G.2.2.1 G.2.2.2) rfl ⟨by simp [mA, mB, mC, h0, h1, hm, andI], G.1⟩
      · have hm : min c z = c := Int.min_eq_left (by omega)
        rw [hm] at G
        have GH := show Hid _ from G
        clear G
        go_wp2
        have G := GH.out
        exact bodyPost_ret (res_three rfl _ _ (w.heap.size + 1 + 1) _ _ _ rfl G.2.1 G.2.2.1 G.2.2.2) rfl ⟨by simp [mA, mB, mC, h0, h1, hm, andI], G.1⟩
    · rw [Bool.not_eq_true] at h1
      rw [h1]
      clear d0 d1 d2 d3 d4 d5 T0
      obtain ⟨⟨v0, o0⟩, ⟨v1, o1⟩, ⟨v2, o2⟩, f0, f1, f2⟩ := O0.later B2 (by have := hz.out; omega)
      have F := FIN.out (.int .i64 0) (.int .i64 0) (.int .i64 0) B2
      clear FIN
      go_wp2
      exact bodyPost_ret (res_three rfl _ _ (w.heap.size + 1 + 1) _ _ _ rfl F.2.1 F.2.2.1 F.2.2.2) rfl ⟨by simp [mA, mB, mC, h0, h1], F.1⟩
  · rw [Bool.not_eq_true] at h0
    rw [h0]
    clear d0 d1 d2 d3 d4 d5 T0
    obtain ⟨⟨v0, o0⟩, ⟨v1, o1⟩, ⟨v2, o2⟩, f0, f1, f2⟩ := O0.later hb1 (by have := hz.out; omega)
    have F := FIN.out (.int .i64 0) (.int .i64 0) (.int .i64 0) hb1
    clear FIN
    go_wp2
    exact bodyPost_ret (res_three rfl _ _ (w.heap.size + 1 + 1) _ _ _ rfl F.2.1 F.2.2.1 F.2.2.2) rfl ⟨by simp [mA, mB, mC, h0], F.1⟩

set_option maxRecDepth 100000 in
set_option maxHeartbeats 1600000 in
theorem eqRest_is (a b c : Int) (w : World) : Calls Try.prog 20 #[rv a b c, rv a b c] w fun e w' => e = .returned (.bool true) ∧ Below w.heap.size w w' := by
  have hb0 : Below w.heap.size w ((w.alloc (.cells #[.int .i64 a, .int .i64 b, .int .i64 c] 25)).alloc (.cells #[.int .i64 a, .int .i64 b, .int .i64 c] 25)) := ((Below.refl _ _).alloc (Nat.le_refl _) _).alloc (by simp) _
  go_enter Try.func20, Try.ntmps20
  go_wp2
  go_ret
  exact ⟨rfl, hb0⟩

/-- What a rest permits. -/
def perB (a b c s o n : Int) : Bool := hasB a s && (hasB b o && inB n c)

set_option maxRecDepth 100000 in
set_option maxHeartbeats 1600000 in
theorem permits_is (a b c s o n : Int) (w : World) : Calls Try.prog 33 #[rv a b c, .int .i64 s, .int .i64 o, .int .i64 n] w fun e w' => e = .returned (.bool (perB a b c s o n)) ∧ Below w.heap.size w w' := by
  have hb0 : Below w.heap.size w (w.alloc (.cells #[.int .i64 a, .int .i64 b, .int .i64 c] 25)) := (Below.refl _ _).alloc (Nat.le_refl _) _
  go_enter Try.func33, Try.ntmps33
  go_wp2_with fail
  refine (hasBit_is a s _).mono ?_
  rintro e w1 ⟨rfl, rfl⟩
  by_cases h0 : hasB a s = true
  · rw [h0]
    go_wp2_with fail
    refine (hasBit_is b o _).mono ?_
    rintro e w1 ⟨rfl, rfl⟩
    by_cases h1 : hasB b o = true
    · rw [h1]
      go_wp2_with fail
      refine (within_is n c _).mono ?_
      rintro e w1 ⟨rfl, rfl⟩
      go_wp2
      go_ret
      exact ⟨by unfold perB; rw [h0, h1]; rfl, hb0⟩
    · rw [Bool.not_eq_true] at h1
      rw [h1]
      go_wp2
      go_ret
      exact ⟨by unfold perB; rw [h0, h1]; rfl, hb0⟩
  · rw [Bool.not_eq_true] at h0
    rw [h0]
    go_wp2
    go_ret
    exact ⟨by unfold perB; rw [h0]; rfl, hb0⟩

set_option maxRecDepth 100000 in
set_option maxHeartbeats 1600000 in
theorem implPermits_is (a b c s o n : Int) (w : World) : Calls Try.prog 16 #[rv a b c, .int .i64 s, .int .i64 o, .int .i64 n] w fun e w' => e = .returned (.bool (rOk a b c && perB a b c s o n)) ∧ Below w.heap.size w w' := by
  obtain ⟨W1, hW1⟩ : ∃ W1, w.alloc (.cells #[.int .i64 a, .int .i64 b, .int .i64 c] 25) = W1 := ⟨_, rfl⟩
  have hb0 : Below w.heap.size w W1 := by rw [← hW1]; exact (Below.refl _ _).alloc (Nat.le_refl _) _
  have hz : Hid (W1.heap.size = w.heap.size + 1) := by show W1.heap.size = w.heap.size + 1; rw [← hW1]; simp
  have L : ∀ o, (⟨w.heap.size, o, none⟩ : Addr).block < W1.heap.size := fun o => by have := hz.out; show w.heap.size < _; omega
  have d0 : W1.cell? ⟨w.heap.size, 0, none⟩ = some (.int .i64 a) := by rw [← hW1]; simp [go_sem]
  have d1 : W1.cell? ⟨w.heap.size, 1, none⟩ = some (.int .i64 b) := by rw [← hW1]; simp [go_sem]
  have d2 : W1.cell? ⟨w.heap.size, 2, none⟩ = some (.int .i64 c) := by rw [← hW1]; simp [go_sem]
  go_enter Try.func16, Try.ntmps16
  go_wp2_with fail
  try rw [hW1]
  refine (right_is a b c _).mono ?_
  rintro e w1 ⟨rfl, hb1⟩
  clear hW1
  have B1 := hb0.trans (hb1.mono hb0.size)
  by_cases h0 : rOk a b c = true
  · rw [h0]
    have e0 := (hb1.cell (L 0)).trans d0
    have e1 := (hb1.cell (L 1)).trans d1
    have e2 := (hb1.cell (L 2)).trans d2
    clear d0 d1 d2
    go_wp2_with fail
    refine (permits_is a b c s o n _).mono ?_
    rintro e w2 ⟨rfl, hb2⟩
    have B2 := B1.trans (hb2.mono B1.size)
    clear e0 e1 e2
    go_wp2
    go_ret
    exact ⟨by rw [h0]; rfl, B2⟩
  · rw [Bool.not_eq_true] at h0
    rw [h0]
    go_wp2
    go_ret
    exact ⟨by rw [h0]; rfl, B1⟩

/-- What the model says a rest permits. -/
def perS (a b c s o n : Int) : Bool := rOk a b c && (inB s 2 && (inB o 7 && (hasB a s && (hasB b o && inB n c))))

set_option maxRecDepth 100000 in
set_option maxHeartbeats 1600000 in
theorem specPermits_is (a b c s o n : Int) (w : World) : Calls Try.prog 22 #[rv a b c, .int .i64 s, .int .i64 o, .int .i64 n] w fun e w' => e = .returned (.bool (perS a b c s o n)) ∧ Below w.heap.size w w' := by
  obtain ⟨W1, hW1⟩ : ∃ W1, w.alloc (.cells #[.int .i64 a, .int .i64 b, .int .i64 c] 25) = W1 := ⟨_, rfl⟩
  have hb0 : Below w.heap.size w W1 := by rw [← hW1]; exact (Below.refl _ _).alloc (Nat.le_refl _) _
  have hz : Hid (W1.heap.size = w.heap.size + 1) := by show W1.heap.size = w.heap.size + 1; rw [← hW1]; simp
  have L : ∀ o, (⟨w.heap.size, o, none⟩ : Addr).block < W1.heap.size := fun o => by have := hz.out; show w.heap.size < _; omega
  have d0 : W1.cell? ⟨w.heap.size, 0, none⟩ = some (.int .i64 a) := by rw [← hW1]; simp [go_sem]
  have d1 : W1.cell? ⟨w.heap.size, 1, none⟩ = some (.int .i64 b) := by rw [← hW1]; simp [go_sem]
  have d2 : W1.cell? ⟨w.heap.size, 2, none⟩ = some (.int .i64 c) := by rw [← hW1]; simp [go_sem]
  go_enter Try.func22, Try.ntmps22
  go_wp2_with fail
  try rw [hW1]
  refine (specOk_is a b c _).mono ?_
  rintro e w1 ⟨rfl, hb1⟩
  clear hW1
  have B1 := hb0.trans (hb1.mono hb0.size)
  have e0 := (hb1.cell (L 0)).trans d0
  have e1 := (hb1.cell (L 1)).trans d1
  have e2 := (hb1.cell (L 2)).trans d2
  clear d0 d1 d2
  by_cases h0 : rOk a b c = true
  · rw [h0]
    go_wp2_with fail
    refine (in_is s 0 2 _).mono ?_
    rintro e w2 ⟨rfl, rfl⟩
    rw [show (decide (0 ≤ s) && decide (s ≤ 2)) = inB s 2 from rfl]
    by_cases h1 : inB s 2 = true
    · rw [h1]
      go_wp2_with fail
      refine (in_is o 0 7 _).mono ?_
      rintro e w2 ⟨rfl, rfl⟩
      rw [show (decide (0 ≤ o) && decide (o ≤ 7)) = inB o 7 from rfl]
      by_cases h2 : inB o 7 = true
      · rw [h2]
        have hs := h1
        have ho := h2
        unfold inB at hs ho
        simp only [Bool.and_eq_true, decide_eq_true_eq] at hs ho
        go_wp2_with fail
        refine (bit_is a s _ hs.1 (by omega)).mono ?_
        rintro e w2 ⟨rfl, rfl⟩
        by_cases h3 : hasB a s = true
        · rw [h3]
          go_wp2_with fail
          refine (bit_is b o _ ho.1 ho.2).mono ?_
          rintro e w2 ⟨rfl, rfl⟩
          by_cases h4 : hasB b o = true
          · rw [h4]
            go_wp2_with fail
            refine (in_is n 0 c _).mono ?_
            rintro e w2 ⟨rfl, rfl⟩
            go_wp2
            go_ret
            exact ⟨by unfold perS; rw [h0, h1, h2, h3, h4]; rfl, B1⟩
          · rw [Bool.not_eq_true] at h4
            rw [h4]
            go_wp2
            go_ret
            exact ⟨by unfold perS; rw [h0, h1, h2, h3, h4]; rfl, B1⟩
        · rw [Bool.not_eq_true] at h3
          rw [h3]
          go_wp2
          go_ret
          exact ⟨by unfold perS; rw [h0, h1, h2, h3]; rfl, B1⟩
      · rw [Bool.not_eq_true] at h2
        rw [h2]
        go_wp2
        go_ret
        exact ⟨by unfold perS; rw [h0, h1, h2]; rfl, B1⟩
    · rw [Bool.not_eq_true] at h1
      rw [h1]
      go_wp2
      go_ret
      exact ⟨by unfold perS; rw [h0, h1]; rfl, B1⟩
  · rw [Bool.not_eq_true] at h0
    rw [h0]
    go_wp2
    go_ret
    exact ⟨by unfold perS; rw [h0]; rfl, B1⟩
end Go.Proofs.Ythhodbpliaiglaa
