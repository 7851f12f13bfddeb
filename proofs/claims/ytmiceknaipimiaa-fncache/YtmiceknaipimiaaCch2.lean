/- Caches compared and marked; a new one, and one that is begun anew. -/
import Derived.Test.YtmiceknaipimiaaCch
set_option linter.unusedVariables false
namespace Go.Proofs.Ytmiceknaipimiaa
open Go Go.RowKit Go.Joins Own Draw

set_option maxRecDepth 100000 in
theorem eqC_is (q : Int) (a b : Option Addr) (ca cb : Nat) (xs : List A3) (w : World) (ha : ARow w a xs) (hb : ARow w b xs) (hl : xs.length ≤ 1048576) :
    Calls Try.prog 18 #[cv q a xs.length ca, cv q b xs.length cb] w fun e w' => e = .returned (.bool true) ∧ Below w.heap.size w w' := by
  obtain ⟨W, hW⟩ : ∃ W, (w.alloc (.cells #[.int .i64 q, .slice a xs.length ca] 26)).alloc (.cells #[.int .i64 q, .slice b xs.length cb] 26) = W := ⟨_, rfl⟩
  have BW : Below w.heap.size w W := by rw [← hW]; exact ((Below.refl _ _).alloc (Nat.le_refl _) _).alloc (by simp) _
  have T0 : Blk w.heap.size [.int .i64 q, .slice a xs.length ca] W := by rw [← hW]; exact (Blk.new _ _ _).alloc (by simp) _
  have T1 : Blk (w.heap.size + 1) [.int .i64 q, .slice b xs.length cb] W := by rw [← hW]; have h := Blk.new (w.alloc (.cells #[.int .i64 q, .slice a xs.length ca] 26)) #[.int .i64 q, .slice b xs.length cb] 26; rw [World.size_alloc] at h; exact h
  have c0 := T0.at 0 rfl
  have c1 := T0.at 1 rfl
  have c2 := T1.at 0 rfl
  have c3 := T1.at 1 rfl
  clear T0 T1
  have HX := eqAS_is a b ca cb xs W (ha.later BW) (hb.later BW) hl
  go_enter Try.func18, Try.ntmps18
  go_wp2_with fail
  try rw [hW]
  refine HX.mono ?_
  clear HX hW
  rintro e w1 ⟨rfl, hb1⟩
  have b1 := BW.trans (hb1.mono BW.size)
  go_wp2
  go_ret
  exact ⟨rfl, b1⟩

set_option maxRecDepth 100000 in
theorem markC_is (B : Nat) (q : Int) (a : Option Addr) (cap : Nat) (xs : List A3) (w : World) (h : Own3 B a cap xs w) (hl : xs.length ≤ 1048576) :
    Calls Try.prog 21 #[cv q a xs.length cap, .int .i64 1] w fun e w' => e = .returned (.int .i64 ((xs.length * 3 + 1 : Nat) : Int)) ∧ w'.ownsRow B 28 3 (.slice a xs.length cap) xs.length (trV (mk3 xs.length)) ∧ w.grownBy w' (Value.slice a xs.length cap).ownBlock := by
  obtain ⟨W, hW⟩ : ∃ W, w.alloc (.cells #[.int .i64 q, .slice a xs.length cap] 26) = W := ⟨_, rfl⟩
  have BW : Below w.heap.size w W := by rw [← hW]; exact (Below.refl _ _).alloc (Nat.le_refl _) _
  have G0 : w.grownBy W (Value.slice a xs.length cap).ownBlock := ⟨BW.os, BW.tape, BW.output, BW.size, fun j hj _ => BW.block j hj⟩
  have c1 : W.cell? ⟨w.heap.size, 1, none⟩ = some (.slice a xs.length cap) := by rw [← hW]; exact (Blk.new _ _ _).at 1 rfl
  have HX := markAS_is B a cap xs W (h.later BW) hl
  generalize ((xs.length * 3 + 1 : Nat) : Int) = d at HX ⊢
  go_enter Try.func21, Try.ntmps21
  go_wp2_with fail
  try rw [hW]
  refine HX.mono ?_
  clear HX hW
  rintro e w1 ⟨rfl, h1, h2⟩
  have h3 := grown_to G0 h2
  clear h2
  go_wp2
  go_ret
  exact ⟨rfl, h1, h3⟩

set_option maxRecDepth 100000 in
theorem heldC_is (q : Int) (a : Option Addr) (n cap : Nat) (w : World) (hr : ARow w a (mk3 n)) (hl : n ≤ 1048576) :
    Calls Try.prog 22 #[cv q a n cap, .int .i64 1] w fun e w' => e = .returned (.int .i64 ((n * 3 + 1 : Nat) : Int)) ∧ Below w.heap.size w w' := by
  obtain ⟨W, hW⟩ : ∃ W, w.alloc (.cells #[.int .i64 q, .slice a n cap] 26) = W := ⟨_, rfl⟩
  have BW : Below w.heap.size w W := by rw [← hW]; exact (Below.refl _ _).alloc (Nat.le_refl _) _
  have c1 : W.cell? ⟨w.heap.size, 1, none⟩ = some (.slice a n cap) := by rw [← hW]; exact (Blk.new _ _ _).at 1 rfl
  have HX := heldAS_is a n cap W (hr.later BW) hl
  have hd : ¬ (((n * 3 + 1 : Nat) : Int) < 0) := by omega
  generalize ((n * 3 + 1 : Nat) : Int) = d at HX hd ⊢
  go_enter Try.func22, Try.ntmps22
  go_wp2_with fail
  try rw [hW]
  refine HX.mono ?_
  clear HX hW
  rintro e w1 ⟨rfl, hb1⟩
  have b1 := BW.trans (hb1.mono BW.size)
  go_wp2
  go_ret
  exact ⟨rfl, b1⟩

set_option maxRecDepth 100000 in
theorem newC_is (w : World) : Calls Try.prog 20 #[] w fun e w' => e = .returned (cv (-1) none 0 0) ∧ Below w.heap.size w w' := by
  have hb : Below w.heap.size w (w.alloc (.cells #[.int .i64 (-1), .slice none 0 0] 26)) := (Below.refl _ _).alloc (Nat.le_refl _) _
  go_enter Try.func20, Try.ntmps20
  go_wp2
  exact bodyPost_ret (res_c rfl _ _ w.heap.size _ _ rfl (by simp [go_sem]) (by simp [go_sem])) rfl ⟨rfl, hb⟩
set_option maxRecDepth 100000 in
theorem specNewC_is (w : World) : Calls Try.prog 19 #[] w fun e w' => e = .returned (cv (-1) none 0 0) ∧ Below w.heap.size w w' := by
  have hb : Below w.heap.size w (w.alloc (.cells #[.int .i64 (-1), .slice none 0 0] 26)) := (Below.refl _ _).alloc (Nat.le_refl _) _
  go_enter Try.func19, Try.ntmps19
  go_wp2
  exact bodyPost_ret (res_c rfl _ _ w.heap.size _ _ rfl (by simp [go_sem]) (by simp [go_sem])) rfl ⟨rfl, hb⟩

/-- A time and a skew that are right. -/
def moB (n k : Int) : Bool := btw n 0 100000 && btw k 0 20
set_option maxRecDepth 100000 in
theorem moment_is (n k : Int) (w : World) : Calls Try.prog 42 #[.int .i64 n, .int .i64 k] w fun e w' => e = .returned (.bool (moB n k)) ∧ w = w' := by
  go_enter Try.func42, Try.ntmps42
  go_wp2_with fail
  refine (within_is n 100000 _).mono ?_
  rintro e w1 ⟨rfl, rfl⟩
  rw [inB_btw]
  by_cases h0 : btw n 0 100000 = true
  · rw [h0]
    go_wp2_with fail
    refine (within_is k 20 _).mono ?_
    rintro e w1 ⟨rfl, rfl⟩
    rw [inB_btw]
    go_wp2
    go_ret
    exact ⟨by unfold moB; rw [h0]; rfl, rfl⟩
  · rw [Bool.not_eq_true] at h0
    rw [h0]
    go_wp2
    go_ret
    exact ⟨by unfold moB; rw [h0]; rfl, rfl⟩
/-- The Quiet of a Cache that is begun anew. -/
def rsV (n k : Int) : Int := if moB n k = true then n + 2 * k else -1
theorem moB_iff {n k : Int} : moB n k = true ↔ (0 ≤ n ∧ n ≤ 100000) ∧ 0 ≤ k ∧ k ≤ 20 := by unfold moB; rw [Bool.and_eq_true, btw_iff, btw_iff]
set_option maxRecDepth 100000 in
theorem restart_is (n k : Int) (w : World) : Calls Try.prog 13 #[.int .i64 n, .int .i64 k] w fun e w' => e = .returned (cv (rsV n k) none 0 0) ∧ Below w.heap.size w w' := by
  have HM := fun W => moment_is n k W
  by_cases h : moB n k = true
  · obtain ⟨⟨h0, h1⟩, h2, h3⟩ := moB_iff.1 h
    have er : rsV n k = n + 2 * k := if_pos h
    rw [er]
    simp only [h] at HM
    have hb : Below w.heap.size w (w.alloc (.cells #[.int .i64 (n + 2 * k), .slice none 0 0] 26)) := (Below.refl _ _).alloc (Nat.le_refl _) _
    clear h er
    go_enter Try.func13, Try.ntmps13
    go_wp2_with fail
    refine (HM _).mono ?_
    clear HM
    rintro e w1 ⟨rfl, rfl⟩
    go_wp2
    exact bodyPost_ret (res_c rfl _ _ w.heap.size _ _ rfl (by simp [go_sem]) (by simp [go_sem])) rfl ⟨rfl, hb⟩
  · have er : rsV n k = -1 := if_neg h
    rw [er]
    rw [Bool.not_eq_true] at h
    simp only [h] at HM
    clear h er
    obtain ⟨W, hW⟩ : ∃ W, w.alloc (.cells #[.int .i64 0, .slice none 0 0] 26) = W := ⟨_, rfl⟩
    have BW : Below w.heap.size w W := by rw [← hW]; exact (Below.refl _ _).alloc (Nat.le_refl _) _
    have TW : Blk w.heap.size [.int .i64 0, .slice none 0 0] W := by rw [← hW]; exact Blk.new _ _ _
    have sW : Hid (w.heap.size < W.heap.size) := by show _ < _; rw [← hW]; simp
    go_enter Try.func13, Try.ntmps13
    go_wp2_with fail
    try rw [hW]
    refine (HM _).mono ?_
    clear HM
    rintro e w1 ⟨rfl, rfl⟩
    go_wp2_with fail
    refine (newC_is _).mono ?_
    rintro e w1 ⟨rfl, hb1⟩
    have T1 := TW.later hb1 sW.out
    have b1 := BW.trans (hb1.mono BW.size)
    have e0 := T1.at 0 rfl
    have e1 := T1.at 1 rfl
    have f0 := T1.fz 0 rfl
    have f1 := T1.fz 1 rfl
    have R := (T1.set 0 (.int .i64 (-1))).set 1 (.slice none 0 0)
    have B1 := (b1.setCell (p := ⟨w.heap.size, 0, none⟩) (Nat.le_refl _) (.int .i64 (-1))).setCell (p := ⟨w.heap.size, 1, none⟩) (Nat.le_refl _) (.slice none 0 0)
    clear T1 b1 hb1 TW hW
    go_wp2
    exact bodyPost_ret (res_c rfl _ _ w.heap.size _ _ rfl (R.at 0 rfl) (R.at 1 rfl)) rfl ⟨rfl, B1⟩
set_option maxRecDepth 100000 in
theorem specRestart_is (n k : Int) (w : World) : Calls Try.prog 23 #[.int .i64 n, .int .i64 k] w fun e w' => e = .returned (cv (rsV n k) none 0 0) ∧ Below w.heap.size w w' := by
  have HM := fun W => in_is n 0 100000 W
  have HN := fun W => in_is k 0 20 W
  obtain ⟨W, hW⟩ : ∃ W, w.alloc (.cells #[.int .i64 0, .slice none 0 0] 26) = W := ⟨_, rfl⟩
  have BW : Below w.heap.size w W := by rw [← hW]; exact (Below.refl _ _).alloc (Nat.le_refl _) _
  have TW : Blk w.heap.size [.int .i64 0, .slice none 0 0] W := by rw [← hW]; exact Blk.new _ _ _
  have sW : Hid (w.heap.size < W.heap.size) := by show _ < _; rw [← hW]; simp
  have FIN : ∀ w1 : World, Below W.heap.size W w1 → Blk w.heap.size [.int .i64 (-1), .slice none 0 0] ((w1.setCell ⟨w.heap.size, 0, none⟩ (.int .i64 (-1))).setCell ⟨w.heap.size, 1, none⟩ (.slice none 0 0)) ∧ Below w.heap.size w ((w1.setCell ⟨w.heap.size, 0, none⟩ (.int .i64 (-1))).setCell ⟨w.heap.size, 1, none⟩ (.slice none 0 0)) ∧ Blk w.heap.size [.int .i64 0, .slice none 0 0] w1 := fun w1 hb1 =>
    ⟨((TW.later hb1 sW.out).set 0 (.int .i64 (-1))).set 1 (.slice none 0 0), ((BW.trans (hb1.mono BW.size)).setCell (p := ⟨w.heap.size, 0, none⟩) (Nat.le_refl _) (.int .i64 (-1))).setCell (p := ⟨w.heap.size, 1, none⟩) (Nat.le_refl _) (.slice none 0 0), TW.later hb1 sW.out⟩
  by_cases h : btw n 0 100000 = true
  · have hh : (decide (0 ≤ n) && decide (n ≤ 100000)) = true := h
    simp only [hh] at HM
    by_cases h2 : btw k 0 20 = true
    · have hh2 : (decide (0 ≤ k) && decide (k ≤ 20)) = true := h2
      simp only [hh2] at HN
      have hm : moB n k = true := by unfold moB; rw [h, h2]; rfl
      obtain ⟨⟨g0, g1⟩, g2, g3⟩ := moB_iff.1 hm
      have er : rsV n k = n + 2 * k := if_pos hm
      rw [er]
      have hb : Below w.heap.size w (w.alloc (.cells #[.int .i64 (n + 2 * k), .slice none 0 0] 26)) := (Below.refl _ _).alloc (Nat.le_refl _) _
      clear h er hm h2 hh hh2 TW sW FIN BW hW W
      go_enter Try.func23, Try.ntmps23
      go_wp2_with fail
      refine (HM _).mono ?_
      clear HM
      rintro e w1 ⟨rfl, rfl⟩
      go_wp2_with fail
      refine (HN _).mono ?_
      clear HN
      rintro e w1 ⟨rfl, rfl⟩
      go_wp2
      exact bodyPost_ret (res_c rfl _ _ w.heap.size _ _ rfl (by simp [go_sem]) (by simp [go_sem])) rfl ⟨rfl, hb⟩
    · rw [Bool.not_eq_true] at h2
      have hh2 : (decide (0 ≤ k) && decide (k ≤ 20)) = false := h2
      simp only [hh2] at HN
      have er : rsV n k = -1 := if_neg (by unfold moB; rw [h, h2]; simp)
      rw [er]
      clear h er h2 hh hh2
      go_enter Try.func23, Try.ntmps23
      go_wp2_with fail
      try rw [hW]
      refine (HM _).mono ?_
      clear HM
      rintro e w1 ⟨rfl, rfl⟩
      go_wp2_with fail
      refine (HN _).mono ?_
      clear HN
      rintro e w1 ⟨rfl, rfl⟩
      go_wp2_with fail
      refine (specNewC_is _).mono ?_
      rintro e w1 ⟨rfl, hb1⟩
      obtain ⟨R, B1, T1⟩ := FIN w1 hb1
      have e0 := T1.at 0 rfl
      have e1 := T1.at 1 rfl
      have f0 := T1.fz 0 rfl
      have f1 := T1.fz 1 rfl
      clear T1 hb1 TW hW FIN
      go_wp2
      exact bodyPost_ret (res_c rfl _ _ w.heap.size _ _ rfl (R.at 0 rfl) (R.at 1 rfl)) rfl ⟨rfl, B1⟩
  · rw [Bool.not_eq_true] at h
    have hh : (decide (0 ≤ n) && decide (n ≤ 100000)) = false := h
    simp only [hh] at HM
    have er : rsV n k = -1 := if_neg (by unfold moB; rw [h]; simp)
    rw [er]
    clear h er hh HN
    go_enter Try.func23, Try.ntmps23
    go_wp2_with fail
    try rw [hW]
    refine (HM _).mono ?_
    clear HM
    rintro e w1 ⟨rfl, rfl⟩
    go_wp2_with fail
    refine (specNewC_is _).mono ?_
    rintro e w1 ⟨rfl, hb1⟩
    obtain ⟨R, B1, T1⟩ := FIN w1 hb1
    have e0 := T1.at 0 rfl
    have e1 := T1.at 1 rfl
    have f0 := T1.fz 0 rfl
    have f1 := T1.fz 1 rfl
    clear T1 hb1 TW hW FIN
    go_wp2
    exact bodyPost_ret (res_c rfl _ _ w.heap.size _ _ rfl (R.at 0 rfl) (R.at 1 rfl)) rfl ⟨rfl, B1⟩
end Go.Proofs.Ytmiceknaipimiaa
