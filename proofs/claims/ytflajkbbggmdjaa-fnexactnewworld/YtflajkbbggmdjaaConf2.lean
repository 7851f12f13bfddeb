/- Configs that are right: the model; what the laws do with Configs. -/
import Derived.Test.YtflajkbbggmdjaaConf1
import Derived.Test.YtflajkbbggmdjaaPair4
import Derived.Test.YtflajkbbggmdjaaPair5
set_option linter.unusedVariables false
namespace Go.Proofs.Ytflajkbbggmdjaa
open Go Go.RowKit Draw

set_option maxRecDepth 100000 in
set_option maxHeartbeats 6400000 in
theorem specOk_is (c : Cf) (w : World) (C : CfAt c w) (K : CfOk c) : Calls Try.prog 7 #[c.val] w fun en w' => en = .returned (.bool (confB c)) ∧ Below w.heap.size w w' := by
  obtain ⟨W1, hW1⟩ : ∃ W1, w.alloc (.cells #[.slice c.ua c.U.length c.uc, .slice c.sa c.S.length c.sc, .slice c.la c.L.length c.lc, .slice c.xa c.X.length c.xc, .int .i64 c.k] 30) = W1 := ⟨_, rfl⟩
  have B0 : Below w.heap.size w W1 := by rw [← hW1]; exact (Below.refl _ _).alloc (Nat.le_refl _) _
  have T0 : Blk w.heap.size c.cells W1 := by rw [← hW1]; exact Blk.new _ _ _
  have Z0 : Hid (w.heap.size < W1.heap.size) := by show _ < _; rw [← hW1]; simp
  have d0 := T0.at 0 rfl
  have d1 := T0.at 1 rfl
  have d2 := T0.at 2 rfl
  have d3 := T0.at 3 rfl
  have d4 := T0.at 4 rfl
  by_cases hu : c.U.length = 3
  · have u1 : ((c.U.length : Int) == 3) = true := beq_iff_eq.2 (by omega)
    have u2 : decide ((c.U.length : Int) = 3) = true := decide_eq_true (by omega)
    have u3 : realmB c.U = allB c.U 3 := by unfold realmB; rw [decide_eq_true hu]; rfl
    by_cases hs : c.S.length = 3
    · have s1 : ((c.S.length : Int) == 3) = true := beq_iff_eq.2 (by omega)
      have s2 : decide ((c.S.length : Int) = 3) = true := decide_eq_true (by omega)
      have s3 : realmB c.S = allB c.S 3 := by unfold realmB; rw [decide_eq_true hs]; rfl
      have HC : Hid (confB c = (allB c.U 3 && (allB c.S 3 && (pairsB ulB c.L && (pairsB svB c.X && btw c.k 0 20))))) := by show confB c = _; unfold confB; rw [u3, s3]
      clear hu hs u3 s3
      go_enter Try.func7, Try.ntmps7
      go_wp2_with fail
      try rw [hW1]
      refine (spec_all c.ua c.uc c.U 3 _ (C.hu.later B0) K.lu (by omega)).mono ?_
      clear hW1
      rintro e w2 ⟨rfl, hb2⟩
      have B2 := B0.trans (hb2.mono B0.size)
      clear d0 d1 d2 d3 d4
      have T2 := T0.later hb2 Z0.out
      have Z2 : Hid (w.heap.size < w2.heap.size) := Nat.lt_of_lt_of_le Z0.out hb2.size
      clear T0 Z0 hb2
      have d0 := T2.at 0 rfl
      have d1 := T2.at 1 rfl
      have d2 := T2.at 2 rfl
      have d3 := T2.at 3 rfl
      have d4 := T2.at 4 rfl
      by_cases h0 : allB c.U 3 = true
      · rw [h0]
        go_wp2_with fail
        refine (spec_all c.sa c.sc c.S 3 _ (C.hs.later B2) K.ls (by omega)).mono ?_
        rintro e w3 ⟨rfl, hb3⟩
        have B3 := B2.trans (hb3.mono B2.size)
        clear d0 d1 d2 d3 d4
        have T3 := T2.later hb3 Z2.out
        have Z3 : Hid (w.heap.size < w3.heap.size) := Nat.lt_of_lt_of_le Z2.out hb3.size
        clear T2 Z2 hb3
        have d0 := T3.at 0 rfl
        have d1 := T3.at 1 rfl
        have d2 := T3.at 2 rfl
        have d3 := T3.at 3 rfl
        have d4 := T3.at 4 rfl
        by_cases h1 : allB c.S 3 = true
        · rw [h1]
          go_wp2_with fail
          refine (specPairsU_is c.la c.lc c.L _ (C.hl.later B3) K.ll K.cl).mono ?_
          rintro e w4 ⟨rfl, hb4⟩
          have B4 := B3.trans (hb4.mono B3.size)
          clear d0 d1 d2 d3 d4
          have T4 := T3.later hb4 Z3.out
          have Z4 : Hid (w.heap.size < w4.heap.size) := Nat.lt_of_lt_of_le Z3.out hb4.size
          clear T3 Z3 hb4
          have d0 := T4.at 0 rfl
          have d1 := T4.at 1 rfl
          have d2 := T4.at 2 rfl
          have d3 := T4.at 3 rfl
          have d4 := T4.at 4 rfl
          by_cases h2 : pairsB ulB c.L = true
          · rw [h2]
            go_wp2_with fail
            refine (specPairsS_is c.xa c.xc c.X _ (C.hx.later B4) K.lx K.cx).mono ?_
            rintro e w5 ⟨rfl, hb5⟩
            have B5 := B4.trans (hb5.mono B4.size)
            clear d0 d1 d2 d3 d4
            have T5 := T4.later hb5 Z4.out
            have Z5 : Hid (w.heap.size < w5.heap.size) := Nat.lt_of_lt_of_le Z4.out hb5.size
            clear T4 Z4 hb5
            have d0 := T5.at 0 rfl
            have d1 := T5.at 1 rfl
            have d2 := T5.at 2 rfl
            have d3 := T5.at 3 rfl
            have d4 := T5.at 4 rfl
            by_cases h3 : pairsB svB c.X = true
            · rw [h3]
              go_wp2_with fail
              refine (in_is c.k 0 20 _).mono ?_
              rintro e wx ⟨rfl, rfl⟩
              rw [show (decide (0 ≤ c.k) && decide (c.k ≤ 20)) = btw c.k 0 20 from rfl]
              clear d0 d1 d2 d3 d4
              generalize hval : btw c.k 0 20 = bb
              go_wp2
              go_ret
              exact ⟨by rw [HC.out, h0, h1, h2, h3, hval]; rfl, B5⟩
            · rw [Bool.not_eq_true] at h3
              rw [h3]
              clear d0 d1 d2 d3 d4
              go_wp2
              go_ret
              exact ⟨by rw [HC.out, h0, h1, h2, h3]; rfl, B5⟩
          · rw [Bool.not_eq_true] at h2
            rw [h2]
            clear d0 d1 d2 d3 d4
            go_wp2
            go_ret
            exact ⟨by rw [HC.out, h0, h1, h2]; rfl, B4⟩
        · rw [Bool.not_eq_true] at h1
          rw [h1]
          clear d0 d1 d2 d3 d4
          go_wp2
          go_ret
          exact ⟨by rw [HC.out, h0, h1]; rfl, B3⟩
      · rw [Bool.not_eq_true] at h0
        rw [h0]
        clear d0 d1 d2 d3 d4
        go_wp2
        go_ret
        exact ⟨by rw [HC.out, h0]; rfl, B2⟩
    · have s1 : ((c.S.length : Int) == 3) = false := beq_eq_false_iff_ne.2 (by omega)
      have s2 : decide ((c.S.length : Int) = 3) = false := decide_eq_false (by omega)
      have s3 : realmB c.S = false := by unfold realmB; rw [decide_eq_false hs]; rfl
      have HC : Hid (confB c = false) := by show confB c = _; unfold confB; rw [s3]; simp
      clear hu hs u3 s3
      go_enter Try.func7, Try.ntmps7
      go_wp2_with fail
      try rw [hW1]
      refine (spec_all c.ua c.uc c.U 3 _ (C.hu.later B0) K.lu (by omega)).mono ?_
      clear hW1
      rintro e w2 ⟨rfl, hb2⟩
      have B2 := B0.trans (hb2.mono B0.size)
      clear d0 d1 d2 d3 d4
      have T2 := T0.later hb2 Z0.out
      have Z2 : Hid (w.heap.size < w2.heap.size) := Nat.lt_of_lt_of_le Z0.out hb2.size
      clear T0 Z0 hb2
      have d0 := T2.at 0 rfl
      have d1 := T2.at 1 rfl
      have d2 := T2.at 2 rfl
      have d3 := T2.at 3 rfl
      have d4 := T2.at 4 rfl
      by_cases h0 : allB c.U 3 = true
      · rw [h0]
        skip
        go_wp2
        go_ret
        exact ⟨by rw [HC.out]; rfl, B2⟩
      · rw [Bool.not_eq_true] at h0
        rw [h0]
        clear d0 d1 d2 d3 d4
        go_wp2
        go_ret
        exact ⟨by rw [HC.out]; rfl, B2⟩
  · have u1 : ((c.U.length : Int) == 3) = false := beq_eq_false_iff_ne.2 (by omega)
    have u2 : decide ((c.U.length : Int) = 3) = false := decide_eq_false (by omega)
    have u3 : realmB c.U = false := by unfold realmB; rw [decide_eq_false hu]; rfl
    have HC : Hid (confB c = false) := by show confB c = _; unfold confB; rw [u3]; simp
    clear hu u3
    go_enter Try.func7, Try.ntmps7
    go_wp2
    try rw [hW1]
    go_ret
    exact ⟨by rw [HC.out]; rfl, by first | exact B0 | (rw [hW1]; exact B0)⟩
end Go.Proofs.Ytflajkbbggmdjaa
