/- The law, step by step. -/
import Derived.Test.YtgmbgginddfnmaaConf2
import Derived.Test.YtgmbgginddfnmaaConf3
import Derived.Test.YtgmbgginddfnmaaHop
set_option linter.unusedVariables false
namespace Go.Proofs.Ytgmbgginddfnmaa
open Go Go.RowKit Draw

set_option maxRecDepth 100000 in
set_option maxHeartbeats 12800000 in
theorem hop_walk (c : Cf) (p q : Int) (w : World) (C : CfAt c w) (lu : c.U.length ≤ maxLen) (ls : c.S.length ≤ maxLen) (ll : c.L.length ≤ maxLen) (lx : c.X.length ≤ maxLen) :
    Calls Try.prog 10 #[c.val, .int .i64 p, .int .i64 q] w fun en w' => en = .returned (.bool true) ∧ Below w.heap.size w w' := by
  have S0 := fun w => szConfig_is c w lu ls ll lx
  obtain ⟨W1, hW1⟩ : ∃ W1, w.alloc (.cells #[.slice c.ua c.U.length c.uc, .slice c.sa c.S.length c.sc, .slice c.la c.L.length c.lc, .slice c.xa c.X.length c.xc, .int .i64 c.k] 39) = W1 := ⟨_, rfl⟩
  have B1 : Below w.heap.size w W1 := by rw [← hW1]; exact (Below.refl _ _).alloc (Nat.le_refl _) _
  have T1 : Blk w.heap.size c.cells W1 := by rw [← hW1]; exact Blk.new _ _ _
  have Z1 : Hid (w.heap.size + 1 ≤ W1.heap.size) := by show _ ≤ _; rw [← hW1]; simp
  have d0 := T1.at 0 rfl
  have d1 := T1.at 1 rfl
  have d2 := T1.at 2 rfl
  have d3 := T1.at 3 rfl
  have d4 := T1.at 4 rfl
  by_cases hsz : szT c ≤ 1048576
  · have hv : szV c = ((1048576 - szT c : Nat) : Int) := if_pos hsz
    have hlu : c.U.length ≤ 1048576 := by unfold szT at hsz; omega
    have hls : c.S.length ≤ 1048576 := by unfold szT at hsz; omega
    have hll : c.L.length ≤ 1048576 := by unfold szT at hsz; omega
    have hlx : c.X.length ≤ 1048576 := by unfold szT at hsz; omega
    have n0 : ¬ (((1048576 - szT c : Nat) : Int) < 0) := by omega
    generalize ((1048576 - szT c : Nat) : Int) = left at hv n0
    rw [hv] at S0
    have HT := fun w C => toConfig_is c w C hlu hls hll hlx
    clear hv hsz lu ls ll lx hlu hls hll hlx
    go_enter Try.func10, Try.ntmps10
    go_wp2_with fail
    try rw [hW1]
    refine (S0 _).mono ?_
    clear hW1 d0 d1 d2 d3 d4
    rintro en w2 ⟨rfl, hb2⟩
    have T2 := T1.later hb2 (by have := Z1.out; omega)
    have Z2 : Hid (w.heap.size + 1 ≤ w2.heap.size) := Nat.le_trans Z1.out hb2.size
    have B2 := B1.trans (hb2.mono B1.size)
    clear T1 Z1 B1 hb2 S0
    have d0 := T2.at 0 rfl
    have d1 := T2.at 1 rfl
    have d2 := T2.at 2 rfl
    have d3 := T2.at 3 rfl
    have d4 := T2.at 4 rfl
    go_wp2_with fail
    refine (HT _ (C.later B2)).mono ?_
    clear d0 d1 d2 d3 d4
    rintro en w3 ⟨e1, rfl, E1, C3, K3, hb3⟩
    have T3 := T2.later hb3 (by have := Z2.out; omega)
    have Z3 : Hid (w.heap.size + 1 ≤ w3.heap.size) := Nat.le_trans Z2.out hb3.size
    have B3 := B2.trans (hb3.mono B2.size)
    clear T2 Z2 B2 hb3
    have HS := specNH_is e1 p q w3 C3 K3
    rw [nhV_same E1 p q] at HS
    go_wp2_with fail
    refine HS.mono ?_
    clear HS C3 K3
    rintro en w4 ⟨rfl, hb4⟩
    have T4 := T3.later hb4 (by have := Z3.out; omega)
    have Z4 : Hid (w.heap.size + 1 ≤ w4.heap.size) := Nat.le_trans Z3.out hb4.size
    have B4 := B3.trans (hb4.mono B3.size)
    clear T3 Z3 B3 hb4
    have d0 := T4.at 0 rfl
    have d1 := T4.at 1 rfl
    have d2 := T4.at 2 rfl
    have d3 := T4.at 3 rfl
    have d4 := T4.at 4 rfl
    go_wp2_with fail
    refine (HT _ (C.later B4)).mono ?_
    clear d0 d1 d2 d3 d4
    rintro en w5 ⟨e2, rfl, E2, C5, K5, hb5⟩
    have T5 := T4.later hb5 (by have := Z4.out; omega)
    have Z5 : w.heap.size + 1 ≤ w5.heap.size := Nat.le_trans Z4.out hb5.size
    have B5 := B4.trans (hb5.mono B4.size)
    clear T4 Z4 B4 hb5
    obtain ⟨W6, hW6⟩ : ∃ W6, w5.alloc (.cells #[.slice e2.ua e2.U.length e2.uc, .slice e2.sa e2.S.length e2.sc, .slice e2.la e2.L.length e2.lc, .slice e2.xa e2.X.length e2.xc, .int .i64 e2.k] 30) = W6 := ⟨_, rfl⟩
    have T6 : Blk w.heap.size c.cells W6 := by rw [← hW6]; exact T5.alloc (by omega) _
    have U6 : Blk w5.heap.size e2.cells W6 := by rw [← hW6]; exact Blk.new _ _ _
    have B6 : Below w.heap.size w W6 := by rw [← hW6]; exact B5.alloc B5.size _
    have X6 : Below w5.heap.size w5 W6 := by rw [← hW6]; exact (Below.refl _ _).alloc (Nat.le_refl _) _
    have C6 := C5.later X6
    have Z6 : Hid (w.heap.size + 1 ≤ W6.heap.size) := by show _ ≤ _; rw [← hW6]; simp; omega
    have L6 : Hid (w5.heap.size < W6.heap.size) := by show _ < _; rw [← hW6]; simp
    clear T5 B5 X6 C5 Z5
    have d0 := U6.at 0 rfl
    have d1 := U6.at 1 rfl
    have d2 := U6.at 2 rfl
    have d3 := U6.at 3 rfl
    have d4 := U6.at 4 rfl
    have HI := implNH_is e2 p q W6 C6 K5
    rw [nhV_same E2 p q] at HI
    go_wp2_with fail
    try rw [hW6]
    refine HI.mono ?_
    clear HI hW6 d0 d1 d2 d3 d4
    rintro en w7 ⟨rfl, hb7⟩
    have TD := (T6.later hb7 (by have := Z6.out; omega)).drew
    have UD := (U6.later hb7 L6.out).drew
    have CD : CfAt e2 w7.drew := C6.later hb7.drew
    have BD := (B6.trans (hb7.mono B6.size)).drew
    have ZD : Hid (w.heap.size + 1 ≤ w7.drew.heap.size) := Nat.le_trans Z6.out hb7.size
    have LD : Hid (w5.heap.size < w7.drew.heap.size) := Nat.lt_of_lt_of_le L6.out hb7.size
    have HCD := C.later BD
    clear T6 U6 C6 B6 Z6 L6 hb7
    generalize nhV c p q = VV
    go_wp2_with fail
    refine wp_region_held_drew (S := (fun Vw => Blk w.heap.size c.cells Vw ∧ Blk w5.heap.size e2.cells Vw)) (by kernel_rfl) ⟨TD, UD⟩ (fun hHeld => ?_)
    refine take_one 0 30 (v := ?_) rfl rfl (by kernel_rfl) (by kernel_rfl) (by kernel_rfl) (fun _ _ _ h => h) (Or.inl ⟨by rfl, ?_⟩) hHeld ?_
    rotate_left
    · intro w' hSw; (try dsimp only at hSw); have d0 := hSw.1.at 0 rfl; have d1 := hSw.1.at 1 rfl; have d2 := hSw.1.at 2 rfl; have d3 := hSw.1.at 3 rfl; have d4 := hSw.1.at 4 rfl; have e0x := hSw.2.at 0 rfl; have e1x := hSw.2.at 1 rfl; have e2x := hSw.2.at 2 rfl; have e3x := hSw.2.at 3 rfl; have e4x := hSw.2.at 4 rfl; go_simp; try with_reducible rfl
    try simp only [Act.put, List.setIfInBounds_toArray, List.set_cons_zero, List.set_cons_succ]
    refine take_one 1 31 (v := ?_) rfl rfl (by kernel_rfl) (by kernel_rfl) (by kernel_rfl) (fun _ _ _ h => h) (Or.inl ⟨by rfl, ?_⟩) hHeld ?_
    rotate_left
    · intro w' hSw; (try dsimp only at hSw); have d0 := hSw.1.at 0 rfl; have d1 := hSw.1.at 1 rfl; have d2 := hSw.1.at 2 rfl; have d3 := hSw.1.at 3 rfl; have d4 := hSw.1.at 4 rfl; have e0x := hSw.2.at 0 rfl; have e1x := hSw.2.at 1 rfl; have e2x := hSw.2.at 2 rfl; have e3x := hSw.2.at 3 rfl; have e4x := hSw.2.at 4 rfl; go_simp; try with_reducible rfl
    try simp only [Act.put, List.setIfInBounds_toArray, List.set_cons_zero, List.set_cons_succ]
    refine wpAnyH_ready (rs := [2]) (by kernel_rfl) (by simp) ?_
    refine AllReadyH.cons (i := 2) rfl (fun K hK => ?_) AllReadyH.nil
    go_simp
    refine (HT _ HCD).mono ?_
    rintro en v1 ⟨e3, rfl, E3, C9, K9, hv1⟩
    have TN := TD.later hv1 (by have := ZD.out; omega)
    have UN := UD.later hv1 (by have := LD.out; omega)
    have CX := CD.later hv1
    have BN := BD.trans (hv1.mono BD.size)
    have ZN : Hid (w.heap.size < v1.heap.size ∧ w5.heap.size < v1.heap.size) := ⟨Nat.lt_of_lt_of_le (Nat.lt_of_succ_le ZD.out) hv1.size, Nat.lt_of_lt_of_le LD.out hv1.size⟩
    clear TD UD ZD LD CD BD hv1 HCD
    go_wp2_with fail
    refine hK.out _ _ ⟨TN, UN⟩ (fun hHeld2 => ?_)
    clear hK K hHeld
    have hHeld := hHeld2
    clear hHeld2
    try simp only [Act.put, List.setIfInBounds_toArray, List.set_cons_zero, List.set_cons_succ]
    refine wpAnyH_ready (rs := [3]) (by kernel_rfl) (by simp) ?_
    refine AllReadyH.cons (i := 3) rfl (fun K hK => ?_) AllReadyH.nil
    go_simp
    refine (eqConfig_is e2 e3 _ (E2.symm.trans E3) CX C9 K5).mono ?_
    rintro en v2 ⟨rfl, hv2⟩
    have TM := TN.later hv2 ZN.out.1
    have UM := UN.later hv2 ZN.out.2
    have BM := BN.trans (hv2.mono BN.size)
    clear BN hv2 CX C9
    go_wp2_with fail
    refine hK.out _ _ ⟨TM, UM⟩ (fun hHeld2 => ?_)
    clear hK K hHeld
    have hHeld := hHeld2
    clear hHeld2
    try simp only [Act.put, List.setIfInBounds_toArray, List.set_cons_zero, List.set_cons_succ]
    refine take_one 4 34 (v := ?_) rfl rfl (by kernel_rfl) (by kernel_rfl) (by kernel_rfl) (fun _ _ _ h => h) (Or.inl ⟨by rfl, ?_⟩) hHeld ?_
    rotate_left
    · intro w' hSw; (try dsimp only at hSw); have d0 := hSw.1.at 0 rfl; have d1 := hSw.1.at 1 rfl; have d2 := hSw.1.at 2 rfl; have d3 := hSw.1.at 3 rfl; have d4 := hSw.1.at 4 rfl; have e0x := hSw.2.at 0 rfl; have e1x := hSw.2.at 1 rfl; have e2x := hSw.2.at 2 rfl; have e3x := hSw.2.at 3 rfl; have e4x := hSw.2.at 4 rfl; go_simp; try with_reducible rfl
    try simp only [Act.put, List.setIfInBounds_toArray, List.set_cons_zero, List.set_cons_succ]
    refine wpAnyH_done (by kernel_rfl) ?_ _
    clear hHeld TM UM TN UN
    go_wp2
    go_ret
    exact ⟨rfl, BM⟩
  · have hv : szV c = -1 := if_neg hsz
    rw [hv] at S0
    clear hv hsz
    go_enter Try.func10, Try.ntmps10
    go_wp2_with fail
    try rw [hW1]
    refine (S0 _).mono ?_
    clear hW1 d0 d1 d2 d3 d4
    rintro en w2 ⟨rfl, hb2⟩
    have B2 := B1.trans (hb2.mono B1.size)
    clear T1 Z1 B1 hb2 S0
    go_wp2
    go_ret
    exact ⟨rfl, B2⟩
end Go.Proofs.Ytgmbgginddfnmaa
