/- Tickets as texts: the law. -/
import Derived.Test.YtbkemhclncmicaaShT3
set_option linter.unusedVariables false
namespace Go.Proofs.Ytbkemhclncmicaa
open Go Go.RowKit Own Var Term

set_option maxRecDepth 100000 in
set_option maxHeartbeats 12800000 in
theorem showT_walk (c s k a b e : Int) (pa : Option Addr) (P : List Int) (pc : Nat) (va : Option Addr) (V : List Int) (vc : Nat) (key : Int) (w : World) (hs : i64 s) (hp : RowAt (Value.int .i64) w pa P) (hv : RowAt (Value.int .i64) w va V) (hpm : P.length ≤ maxLen) (hvm : V.length ≤ maxLen) :
    Calls Try.prog 3 #[.agg #[.int .i64 c, .int .i64 s, .int .i64 k, .int .i64 a, .int .i64 b, .int .i64 e, .slice pa P.length pc, .slice va V.length vc], .int .i64 key] w fun en w' => en = .returned (.bool true) ∧ Below w.heap.size w w' := by
  have S0 := fun w => szTicket_is c s k a b e pa P pc va V vc w hpm hvm
  obtain ⟨W1, hW1⟩ : ∃ W1, w.alloc (.cells #[.int .i64 c, .int .i64 s, .int .i64 k, .int .i64 a, .int .i64 b, .int .i64 e, .slice pa P.length pc, .slice va V.length vc] 26) = W1 := ⟨_, rfl⟩
  have B1 : Below w.heap.size w W1 := by rw [← hW1]; exact (Below.refl _ _).alloc (Nat.le_refl _) _
  have T1 : Blk w.heap.size [.int .i64 c, .int .i64 s, .int .i64 k, .int .i64 a, .int .i64 b, .int .i64 e, .slice pa P.length pc, .slice va V.length vc] W1 := by rw [← hW1]; exact Blk.new _ _ _
  have Z1 : Hid (w.heap.size + 1 ≤ W1.heap.size) := by show _ ≤ _; rw [← hW1]; simp
  have d0 := T1.at 0 rfl
  have d1 := T1.at 1 rfl
  have d2 := T1.at 2 rfl
  have d3 := T1.at 3 rfl
  have d4 := T1.at 4 rfl
  have d5 := T1.at 5 rfl
  have d6 := T1.at 6 rfl
  have d7 := T1.at 7 rfl
  by_cases hsz : P.length + V.length ≤ 1048576
  · rw [if_pos hsz] at S0
    have hpl : P.length ≤ 1048576 := by omega
    have hvl : V.length ≤ 1048576 := by omega
    have n0 : ¬ (((1048576 - P.length - V.length : Nat) : Int) < 0) := by omega
    generalize 1048576 - P.length - V.length = left at S0 n0
    have HT := fun w hp hv => toTicket_is c s k a b e pa P pc va V vc w hp hv hpl hvl
    go_enter Try.func3, Try.ntmps3
    go_wp2_with fail
    try rw [hW1]
    refine (S0 _).mono ?_
    clear hW1 d0 d1 d2 d3 d4 d5 d6 d7
    rintro en w2 ⟨rfl, hb2⟩
    have T2 := T1.later hb2 (by have := Z1.out; omega)
    have Z2 : Hid (w.heap.size + 1 ≤ w2.heap.size) := Nat.le_trans Z1.out hb2.size
    have B2 := B1.trans (hb2.mono B1.size)
    clear T1 Z1 B1 hb2 S0
    have d0 := T2.at 0 rfl
    have d1 := T2.at 1 rfl
    have d2 := T2.at 2 rfl
    have d3 := T2.at 3 rfl
    have d4 := T2.at 4 rfl
    have d5 := T2.at 5 rfl
    have d6 := T2.at 6 rfl
    have d7 := T2.at 7 rfl
    go_wp2_with fail
    refine (HT _ (hp.later B2) (hv.later B2)).mono ?_
    clear d0 d1 d2 d3 d4 d5 d6 d7
    rintro en w3 ⟨gp3, gv3, rfl, hx3, hy3, _, _, hb3⟩
    have T3 := T2.later hb3 (by have := Z2.out; omega)
    have Z3 : Hid (w.heap.size + 1 ≤ w3.heap.size) := Nat.le_trans Z2.out hb3.size
    have B3 := B2.trans (hb3.mono B2.size)
    clear T2 Z2 B2 hb3
    go_wp2_with fail
    refine (specShowT_is c s k a b e _ P _ _ V _ key _ hx3 hy3 hpl hvl).mono ?_
    rintro en w4 ⟨rfl, hb4⟩
    have T4 := T3.later hb4 (by have := Z3.out; omega)
    have Z4 : Hid (w.heap.size + 1 ≤ w4.heap.size) := Nat.le_trans Z3.out hb4.size
    have B4 := B3.trans (hb4.mono B3.size)
    clear T3 Z3 B3 hb4 hx3 hy3
    have d0 := T4.at 0 rfl
    have d1 := T4.at 1 rfl
    have d2 := T4.at 2 rfl
    have d3 := T4.at 3 rfl
    have d4 := T4.at 4 rfl
    have d5 := T4.at 5 rfl
    have d6 := T4.at 6 rfl
    have d7 := T4.at 7 rfl
    go_wp2_with fail
    refine (HT _ (hp.later B4) (hv.later B4)).mono ?_
    clear d0 d1 d2 d3 d4 d5 d6 d7
    rintro en w5 ⟨gp, gv, rfl, hx5, hy5, _, _, hb5⟩
    have T5 := T4.later hb5 (by have := Z4.out; omega)
    have Z5 : w.heap.size + 1 ≤ w5.heap.size := Nat.le_trans Z4.out hb5.size
    have B5 := B4.trans (hb5.mono B4.size)
    clear T4 Z4 B4 hb5
    obtain ⟨W6, hW6⟩ : ∃ W6, w5.alloc (.cells #[.int .i64 c, .int .i64 s, .int .i64 k, .int .i64 a, .int .i64 b, .int .i64 e, .slice (some ⟨gp, 0, none⟩) P.length P.length, .slice (some ⟨gv, 0, none⟩) V.length V.length] 31) = W6 := ⟨_, rfl⟩
    have T6 : Blk w.heap.size [.int .i64 c, .int .i64 s, .int .i64 k, .int .i64 a, .int .i64 b, .int .i64 e, .slice pa P.length pc, .slice va V.length vc] W6 := by rw [← hW6]; exact T5.alloc (by omega) _
    have U6 : Blk w5.heap.size [.int .i64 c, .int .i64 s, .int .i64 k, .int .i64 a, .int .i64 b, .int .i64 e, .slice (some ⟨gp, 0, none⟩) P.length P.length, .slice (some ⟨gv, 0, none⟩) V.length V.length] W6 := by rw [← hW6]; exact Blk.new _ _ _
    have B6 : Below w.heap.size w W6 := by rw [← hW6]; exact B5.alloc B5.size _
    have X6 : Below w5.heap.size w5 W6 := by rw [← hW6]; exact (Below.refl _ _).alloc (Nat.le_refl _) _
    have HX6 := hx5.later X6
    have HY6 := hy5.later X6
    have Z6 : Hid (w.heap.size + 1 ≤ W6.heap.size) := by show _ ≤ _; rw [← hW6]; simp; omega
    have L6 : Hid (w5.heap.size < W6.heap.size) := by show _ < _; rw [← hW6]; simp
    clear T5 B5 X6 hx5 hy5 Z5
    have d0 := U6.at 0 rfl
    have d1 := U6.at 1 rfl
    have d2 := U6.at 2 rfl
    have d3 := U6.at 3 rfl
    have d4 := U6.at 4 rfl
    have d5 := U6.at 5 rfl
    have d6 := U6.at 6 rfl
    have d7 := U6.at 7 rfl
    go_wp2_with fail
    try rw [hW6]
    refine (implShowT_is c s k a b e _ P _ _ V _ key _ hs HX6 HY6 hpl hvl).mono ?_
    clear hW6 d0 d1 d2 d3 d4 d5 d6 d7
    rintro en w7 ⟨rfl, hb7⟩
    have TD := (T6.later hb7 (by have := Z6.out; omega)).drew
    have UD := (U6.later hb7 L6.out).drew
    have HXD : RowAt (Value.int .i64) w7.drew _ P := HX6.later hb7.drew
    have HYD : RowAt (Value.int .i64) w7.drew _ V := HY6.later hb7.drew
    have BD := (B6.trans (hb7.mono B6.size)).drew
    have ZD : Hid (w.heap.size + 1 ≤ w7.drew.heap.size) := Nat.le_trans Z6.out hb7.size
    have LD : Hid (w5.heap.size < w7.drew.heap.size) := Nat.lt_of_lt_of_le L6.out hb7.size
    have HPD := hp.later BD
    have HVD := hv.later BD
    clear T6 U6 HX6 HY6 B6 Z6 L6 hb7
    generalize shT c s k a b e P V key = X
    go_wp2_with fail
    refine wp_region_held_drew (S := (fun Vw => Blk w.heap.size [.int .i64 c, .int .i64 s, .int .i64 k, .int .i64 a, .int .i64 b, .int .i64 e, .slice pa P.length pc, .slice va V.length vc] Vw ∧ Blk w5.heap.size [.int .i64 c, .int .i64 s, .int .i64 k, .int .i64 a, .int .i64 b, .int .i64 e, .slice (some ⟨gp, 0, none⟩) P.length P.length, .slice (some ⟨gv, 0, none⟩) V.length V.length] Vw)) (by kernel_rfl) ⟨TD, UD⟩ (fun hHeld => ?_)
    refine take_one 0 26 (v := ?_) rfl rfl (by kernel_rfl) (by kernel_rfl) (by kernel_rfl) (fun _ _ _ h => h) (Or.inl ⟨by rfl, ?_⟩) hHeld ?_
    rotate_left
    · intro w' hSw; (try dsimp only at hSw); have d0 := hSw.1.at 0 rfl; have d1 := hSw.1.at 1 rfl; have d2 := hSw.1.at 2 rfl; have d3 := hSw.1.at 3 rfl; have d4 := hSw.1.at 4 rfl; have d5 := hSw.1.at 5 rfl; have d6 := hSw.1.at 6 rfl; have d7 := hSw.1.at 7 rfl; have e0 := hSw.2.at 0 rfl; have e1 := hSw.2.at 1 rfl; have e2 := hSw.2.at 2 rfl; have e3 := hSw.2.at 3 rfl; have e4 := hSw.2.at 4 rfl; have e5 := hSw.2.at 5 rfl; have e6 := hSw.2.at 6 rfl; have e7 := hSw.2.at 7 rfl; go_simp; try with_reducible rfl
    try simp only [Act.put, List.setIfInBounds_toArray, List.set_cons_zero, List.set_cons_succ]
    refine take_one 1 27 (v := ?_) rfl rfl (by kernel_rfl) (by kernel_rfl) (by kernel_rfl) (fun _ _ _ h => h) (Or.inl ⟨by rfl, ?_⟩) hHeld ?_
    rotate_left
    · intro w' hSw; (try dsimp only at hSw); have d0 := hSw.1.at 0 rfl; have d1 := hSw.1.at 1 rfl; have d2 := hSw.1.at 2 rfl; have d3 := hSw.1.at 3 rfl; have d4 := hSw.1.at 4 rfl; have d5 := hSw.1.at 5 rfl; have d6 := hSw.1.at 6 rfl; have d7 := hSw.1.at 7 rfl; have e0 := hSw.2.at 0 rfl; have e1 := hSw.2.at 1 rfl; have e2 := hSw.2.at 2 rfl; have e3 := hSw.2.at 3 rfl; have e4 := hSw.2.at 4 rfl; have e5 := hSw.2.at 5 rfl; have e6 := hSw.2.at 6 rfl; have e7 := hSw.2.at 7 rfl; go_simp; try with_reducible rfl
    try simp only [Act.put, List.setIfInBounds_toArray, List.set_cons_zero, List.set_cons_succ]
    refine wpAnyH_ready (rs := [2]) (by kernel_rfl) (by simp) ?_
    refine AllReadyH.cons (i := 2) rfl (fun K hK => ?_) AllReadyH.nil
    go_simp
    refine (HT _ HPD HVD).mono ?_
    rintro en v1 ⟨gq, gu, rfl, hq1, hu1, _, _, hv1⟩
    have TN := TD.later hv1 (by have := ZD.out; omega)
    have UN := UD.later hv1 (by have := LD.out; omega)
    have HX1 := HXD.later hv1
    have HY1 := HYD.later hv1
    have BN := BD.trans (hv1.mono BD.size)
    have ZN : Hid (w.heap.size < v1.heap.size ∧ w5.heap.size < v1.heap.size) := ⟨Nat.lt_of_lt_of_le (Nat.lt_of_succ_le ZD.out) hv1.size, Nat.lt_of_lt_of_le LD.out hv1.size⟩
    clear TD UD ZD LD HXD HYD BD hv1 HPD HVD
    go_wp2_with fail
    refine hK.out _ _ ⟨TN, UN⟩ (fun hHeld2 => ?_)
    clear hK K hHeld
    have hHeld := hHeld2
    clear hHeld2
    try simp only [Act.put, List.setIfInBounds_toArray, List.set_cons_zero, List.set_cons_succ]
    refine wpAnyH_ready (rs := [3]) (by kernel_rfl) (by simp) ?_
    refine AllReadyH.cons (i := 3) rfl (fun K hK => ?_) AllReadyH.nil
    go_simp
    refine (eqTicket_is c s k a b e P V _ _ _ _ _ _ _ _ _ HX1 hq1 HY1 hu1 hpl hvl).mono ?_
    rintro en v2 ⟨rfl, hv2⟩
    have TM := TN.later hv2 (Nat.lt_of_lt_of_le ZN.out.1 (Nat.le_refl _))
    have UM := UN.later hv2 (Nat.lt_of_lt_of_le ZN.out.2 (Nat.le_refl _))
    have BM := BN.trans (hv2.mono BN.size)
    clear BN hv2 HX1 HY1
    go_wp2_with fail
    refine hK.out _ _ ⟨TM, UM⟩ (fun hHeld2 => ?_)
    clear hK K hHeld
    have hHeld := hHeld2
    clear hHeld2
    try simp only [Act.put, List.setIfInBounds_toArray, List.set_cons_zero, List.set_cons_succ]
    refine take_one 4 30 (v := ?_) rfl rfl (by kernel_rfl) (by kernel_rfl) (by kernel_rfl) (fun _ _ _ h => h) (Or.inl ⟨by rfl, ?_⟩) hHeld ?_
    rotate_left
    · intro w' hSw; (try dsimp only at hSw); have d0 := hSw.1.at 0 rfl; have d1 := hSw.1.at 1 rfl; have d2 := hSw.1.at 2 rfl; have d3 := hSw.1.at 3 rfl; have d4 := hSw.1.at 4 rfl; have d5 := hSw.1.at 5 rfl; have d6 := hSw.1.at 6 rfl; have d7 := hSw.1.at 7 rfl; have e0 := hSw.2.at 0 rfl; have e1 := hSw.2.at 1 rfl; have e2 := hSw.2.at 2 rfl; have e3 := hSw.2.at 3 rfl; have e4 := hSw.2.at 4 rfl; have e5 := hSw.2.at 5 rfl; have e6 := hSw.2.at 6 rfl; have e7 := hSw.2.at 7 rfl; go_simp; try with_reducible rfl
    try simp only [Act.put, List.setIfInBounds_toArray, List.set_cons_zero, List.set_cons_succ]
    refine wpAnyH_done (by kernel_rfl) ?_ _
    clear hHeld TM UM TN UN
    go_wp2
    go_ret
    exact ⟨rfl, BM⟩
  · rw [if_neg hsz] at S0
    go_enter Try.func3, Try.ntmps3
    go_wp2_with fail
    try rw [hW1]
    refine (S0 _).mono ?_
    clear hW1 d0 d1 d2 d3 d4 d5 d6 d7
    rintro en w2 ⟨rfl, hb2⟩
    have B2 := B1.trans (hb2.mono B1.size)
    clear T1 Z1 B1 hb2 S0
    go_wp2
    go_ret
    exact ⟨rfl, B2⟩

end Go.Proofs.Ytbkemhclncmicaa
