/- RealmOf: the program and the model. -/
import Derived.Test.YtflajkbbggmdjaaConf2
import Derived.Test.YtflajkbbggmdjaaConf3
set_option linter.unusedVariables false
namespace Go.Proofs.Ytflajkbbggmdjaa
open Go Go.RowKit Draw

def roV (c : Cf) (p : Int) : Int := if confB c && btw p 0 5 then (if p < 3 then c.U.getD p.toNat 0 else c.S.getD (p - 3).toNat 0) else -1
theorem roV_same {c d : Cf} (E : Same c d) (p : Int) : roV d p = roV c p := by unfold roV; rw [E.conf, E.U, E.S]
theorem conf_len {c : Cf} (h : confB c = true) : c.U.length = 3 ∧ c.S.length = 3 := by
  unfold confB realmB at h
  simp only [Bool.and_eq_true, decide_eq_true_eq] at h
  exact ⟨h.1.1, h.2.1.1⟩
set_option maxRecDepth 100000 in
set_option maxHeartbeats 3200000 in
theorem implRO_is (c : Cf) (p : Int) (w : World) (C : CfAt c w) (K : CfOk c) : Calls Try.prog 42 #[c.val, .int .i64 p] w fun en w' => en = .returned (.int .i64 (roV c p)) ∧ Below w.heap.size w w' := by
  obtain ⟨W1, hW1⟩ : ∃ W1, w.alloc (.cells #[.slice c.ua c.U.length c.uc, .slice c.sa c.S.length c.sc, .slice c.la c.L.length c.lc, .slice c.xa c.X.length c.xc, .int .i64 c.k] 30) = W1 := ⟨_, rfl⟩
  have B0 : Below w.heap.size w W1 := by rw [← hW1]; exact (Below.refl _ _).alloc (Nat.le_refl _) _
  have T0 : Blk w.heap.size c.cells W1 := by rw [← hW1]; exact Blk.new _ _ _
  have Z0 : Hid (w.heap.size < W1.heap.size) := by show _ < _; rw [← hW1]; simp
  have d0 := T0.at 0 rfl
  have d1 := T0.at 1 rfl
  have d2 := T0.at 2 rfl
  have d3 := T0.at 3 rfl
  have d4 := T0.at 4 rfl
  go_enter Try.func42, Try.ntmps42
  go_wp2_with fail
  try rw [hW1]
  refine (right_is c W1 (C.later B0) K).mono ?_
  clear hW1 d0 d1 d2 d3 d4
  rintro en w2 ⟨rfl, hb⟩
  have T2 := T0.later hb Z0.out
  have B2 := B0.trans (hb.mono B0.size)
  clear T0 Z0 B0 hb
  by_cases hc : confB c = true
  · have HL := conf_len hc
    rw [hc]
    go_wp2_with fail
    refine (prin_is p _).mono ?_
    rintro e w3 ⟨rfl, rfl⟩
    by_cases hp : btw p 0 5 = true
    · have hb := (btw_iff _ _ _).1 hp
      rw [hp]
      go_wp2_with fail
      refine (user_is p _).mono ?_
      rintro e w3 ⟨rfl, rfl⟩
      by_cases hu : btw p 0 2 = true
      · have hb2 := (btw_iff _ _ _).1 hu
        rw [hu]
        obtain ⟨j, rfl⟩ : ∃ j : Nat, p = (j : Int) := ⟨p.toNat, by omega⟩
        have hj : j < c.U.length := by omega
        have HV : Hid (roV c (j : Int) = c.U[j]) := by
          show roV c (j : Int) = c.U[j]
          unfold roV
          rw [hc, hp, Bool.and_self, if_pos rfl, if_pos (by omega)]
          simp [List.getD, hj]
        have hj2 : (j : Int) < (c.U.length : Int) := by omega
        obtain ⟨b, off, ea, hlt, hcell⟩ := (C.hu.later B2) j hj
        have d0 := T2.at 0 rfl
        rw [ea] at d0
        generalize c.U[j] = z at hcell HV
        clear HL hc hp
        go_wp2
        go_ret
        exact ⟨by rw [HV.out]; rfl, B2⟩
      · have hb2 : ¬ (0 ≤ p ∧ p ≤ 2) := fun h => hu ((btw_iff _ _ _).2 h)
        rw [Bool.not_eq_true] at hu
        rw [hu]
        clear hu
        obtain ⟨j, rfl⟩ : ∃ j : Nat, p = (j : Int) + 3 := ⟨(p - 3).toNat, by omega⟩
        have hj : j < c.S.length := by omega
        have HV : Hid (roV c ((j : Int) + 3) = c.S[j]) := by
          show roV c ((j : Int) + 3) = c.S[j]
          unfold roV
          rw [hc, hp, Bool.and_self, if_pos rfl, if_neg (by omega), show ((j : Int) + 3 - 3).toNat = j by omega]
          simp [List.getD, hj]
        have hj2 : (j : Int) < (c.S.length : Int) := by omega
        have hj3 : IntKind.i64.wrap ((j : Int) + 3 - 3) = (j : Int) := by rw [show (j : Int) + 3 - 3 = (j : Int) by omega]; exact wrap_i64_small j (by omega)
        obtain ⟨b, off, ea, hlt, hcell⟩ := (C.hs.later B2) j hj
        have d1 := T2.at 1 rfl
        rw [ea] at d1
        generalize c.S[j] = z at hcell HV
        clear HL hc hp
        go_wp2
        go_ret
        exact ⟨by rw [HV.out]; rfl, B2⟩
    · rw [Bool.not_eq_true] at hp
      have HV : Hid (roV c p = -1) := by show roV c p = -1; unfold roV; rw [hc, hp]; rfl
      rw [hp]
      go_wp2
      go_ret
      exact ⟨by rw [HV.out]; rfl, B2⟩
  · rw [Bool.not_eq_true] at hc
    have HV : Hid (roV c p = -1) := by show roV c p = -1; unfold roV; rw [hc]; rfl
    rw [hc]
    go_wp2
    go_ret
    exact ⟨by rw [HV.out]; rfl, B2⟩
set_option maxRecDepth 100000 in
set_option maxHeartbeats 3200000 in
theorem specRO_is (c : Cf) (p : Int) (w : World) (C : CfAt c w) (K : CfOk c) : Calls Try.prog 35 #[c.val, .int .i64 p] w fun en w' => en = .returned (.int .i64 (roV c p)) ∧ Below w.heap.size w w' := by
  obtain ⟨W1, hW1⟩ : ∃ W1, w.alloc (.cells #[.slice c.ua c.U.length c.uc, .slice c.sa c.S.length c.sc, .slice c.la c.L.length c.lc, .slice c.xa c.X.length c.xc, .int .i64 c.k] 30) = W1 := ⟨_, rfl⟩
  have B0 : Below w.heap.size w W1 := by rw [← hW1]; exact (Below.refl _ _).alloc (Nat.le_refl _) _
  have T0 : Blk w.heap.size c.cells W1 := by rw [← hW1]; exact Blk.new _ _ _
  have Z0 : Hid (w.heap.size < W1.heap.size) := by show _ < _; rw [← hW1]; simp
  have d0 := T0.at 0 rfl
  have d1 := T0.at 1 rfl
  have d2 := T0.at 2 rfl
  have d3 := T0.at 3 rfl
  have d4 := T0.at 4 rfl
  go_enter Try.func35, Try.ntmps35
  go_wp2_with fail
  try rw [hW1]
  refine (specOk_is c W1 (C.later B0) K).mono ?_
  clear hW1 d0 d1 d2 d3 d4
  rintro en w2 ⟨rfl, hb⟩
  have T2 := T0.later hb Z0.out
  have B2 := B0.trans (hb.mono B0.size)
  clear T0 Z0 B0 hb
  by_cases hc : confB c = true
  · have HL := conf_len hc
    rw [hc]
    go_wp2_with fail
    refine (spec_prin p _).mono ?_
    rintro e w3 ⟨rfl, rfl⟩
    by_cases hp : btw p 0 5 = true
    · have hb := (btw_iff _ _ _).1 hp
      rw [hp]
      by_cases hu : p < 3
      · obtain ⟨j, rfl⟩ : ∃ j : Nat, p = (j : Int) := ⟨p.toNat, by omega⟩
        have hj : j < c.U.length := by omega
        have HV : Hid (roV c (j : Int) = c.U[j]) := by
          show roV c (j : Int) = c.U[j]
          unfold roV
          rw [hc, hp, Bool.and_self, if_pos rfl, if_pos (by omega)]
          simp [List.getD, hj]
        have hj2 : (j : Int) < (c.U.length : Int) := by omega
        obtain ⟨b, off, ea, hlt, hcell⟩ := (C.hu.later B2) j hj
        have d0 := T2.at 0 rfl
        rw [ea] at d0
        generalize c.U[j] = z at hcell HV
        clear HL hc hp
        go_wp2
        go_ret
        exact ⟨by rw [HV.out]; rfl, B2⟩
      · obtain ⟨j, rfl⟩ : ∃ j : Nat, p = (j : Int) + 3 := ⟨(p - 3).toNat, by omega⟩
        have hj : j < c.S.length := by omega
        have HV : Hid (roV c ((j : Int) + 3) = c.S[j]) := by
          show roV c ((j : Int) + 3) = c.S[j]
          unfold roV
          rw [hc, hp, Bool.and_self, if_pos rfl, if_neg (by omega), show ((j : Int) + 3 - 3).toNat = j by omega]
          simp [List.getD, hj]
        have hj2 : (j : Int) < (c.S.length : Int) := by omega
        have hj3 : IntKind.i64.wrap ((j : Int) + 3 - 3) = (j : Int) := by rw [show (j : Int) + 3 - 3 = (j : Int) by omega]; exact wrap_i64_small j (by omega)
        obtain ⟨b, off, ea, hlt, hcell⟩ := (C.hs.later B2) j hj
        have d1 := T2.at 1 rfl
        rw [ea] at d1
        generalize c.S[j] = z at hcell HV
        clear HL hc hp
        go_wp2
        go_ret
        exact ⟨by rw [HV.out]; rfl, B2⟩
    · rw [Bool.not_eq_true] at hp
      have HV : Hid (roV c p = -1) := by show roV c p = -1; unfold roV; rw [hc, hp]; rfl
      rw [hp]
      go_wp2
      go_ret
      exact ⟨by rw [HV.out]; rfl, B2⟩
  · rw [Bool.not_eq_true] at hc
    have HV : Hid (roV c p = -1) := by show roV c p = -1; unfold roV; rw [hc]; rfl
    rw [hc]
    go_wp2
    go_ret
    exact ⟨by rw [HV.out]; rfl, B2⟩
end Go.Proofs.Ytflajkbbggmdjaa
