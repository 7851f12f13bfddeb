/- Any Config, as the laws draw it. -/
import Derived.Test.YtgmbgginddfnmaaCfD2
set_option linter.unusedVariables false
namespace Go.Proofs.Ytgmbgginddfnmaa
open Go Go.RowKit Go.Joins Own Draw

set_option maxRecDepth 100000 in
set_option maxHeartbeats 25600000 in
theorem anyC {p : Nat} {ad : Option Addr} {len cap : Nat} {zs : List Int} {W : World} (hC : Cu p ad len cap zs W W) : Calls Try.prog 34 #[.pointer (some ⟨p, 0, none⟩)] W fun en w' => ∃ c : Cf, en = .returned c.val ∧ Lim c ∧ OwnC W.heap.size c w' ∧ Cu p ad len cap zs W w' := by
  obtain ⟨i0, hi, hz0, hz1, hz2⟩ := info_parts infoInt
  obtain ⟨j0, hj, hj0, hj1, hj2⟩ := info_parts infoPair
  have hpW : p < W.heap.size := hC.lt
  obtain ⟨W1, hW1⟩ : ∃ W1, W.alloc (.cells #[.slice none 0 0, .slice none 0 0, .slice none 0 0, .slice none 0 0, .int .i64 0] 30) = W1 := ⟨_, rfl⟩
  have RB : Blk W.heap.size [.slice none 0 0, .slice none 0 0, .slice none 0 0, .slice none 0 0, .int .i64 0] W1 := by rw [← hW1]; exact Blk.new _ _ _
  have CC : Cu p ad len cap zs W W1 := by rw [← hW1]; exact hC.alloc _
  clear hC
  have HX := configW CC.here
  go_enter Try.func34, Try.ntmps34
  go_wp2_with fail
  try rw [hW1]
  refine HX.mono ?_
  clear HX hW1
  rintro en w2 ⟨c, rfl, ln, OC, C⟩
  have pB : p < W1.heap.size := CC.lt
  have rg : W.heap.size < W1.heap.size := RB.lt
  have zB : W1.heap.size ≤ w2.heap.size := C.size
  have RBN := RB.only C.2 RB.lt (by omega)
  have CCN := CC.next C
  clear RB CC C
  have RB := RBN
  have CC := CCN
  clear RBN CCN
  generalize W1.heap.size = B at OC pB rg zB
  obtain ⟨q, hq⟩ : ∃ q, w2.heap.size = q := ⟨_, rfl⟩
  obtain ⟨w3, hw3⟩ : ∃ v, w2.alloc (.cells #[.slice c.ua c.U.length c.uc, .slice c.sa c.S.length c.sc, .slice c.la c.L.length c.lc, .slice c.xa c.X.length c.xc, .int .i64 c.k] 30) = v := ⟨_, rfl⟩
  have KK : KD B q c w3 := by
    rw [← hw3, ← hq]
    refine ⟨Blk.new _ _ _, OC.later ((Below.refl _ _).alloc (Nat.le_refl _) _), fun i hi e => ?_, zB⟩
    have := ((OC.own i hi).lt _ e).2
    omega
  have RBN : Blk W.heap.size [.slice none 0 0, .slice none 0 0, .slice none 0 0, .slice none 0 0, .int .i64 0] w3 := by rw [← hw3]; exact RB.alloc RB.lt _
  have CCN : Cu p ad len cap zs W w3 := by rw [← hw3]; exact CC.alloc _
  have HB2 : Hid (B ≤ q) := by show B ≤ q; omega
  rw [hq] at zB
  clear RB CC OC
  have RB := RBN
  have CC := CCN
  clear RBN CCN
  have HX := onceW 8 CC.here (by omega)
  go_wp2_with fail
  try rw [hw3]
  try rw [hq]
  refine HX.mono ?_
  clear HX hw3 hq
  rintro en w4 ⟨bb, rfl, C⟩
  have RBN := RB.only C.2 RB.lt (by omega)
  have KKN := KK.draw C.2 (by omega)
  have CCN := CC.next C
  clear RB KK CC C
  have RB := RBN
  have KK := KKN
  have CC := CCN
  clear RBN KKN CCN
  have HL : Hid (Lim c) := ⟨by have := ln.u; omega, by have := ln.s; omega, by have := ln.l; omega, by have := ln.x; omega⟩
  cases bb with
  | false =>
    clear ln
    have QB := KK.blk
    have OC := KK.own
    clear KK
    have r0 := RB.at 0 rfl
    have r1 := RB.at 1 rfl
    have r2 := RB.at 2 rfl
    have r3 := RB.at 3 rfl
    have r4 := RB.at 4 rfl
    have g0 := RB.fz 0 rfl
    have g1 := RB.fz 1 rfl
    have g2 := RB.fz 2 rfl
    have g3 := RB.fz 3 rfl
    have g4 := RB.fz 4 rfl
    have q0 := QB.at 0 rfl
    have q1 := QB.at 1 rfl
    have q2 := QB.at 2 rfl
    have q3 := QB.at 3 rfl
    have q4 := QB.at 4 rfl
    have F := show Hid _ from (show Blk W.heap.size c.cells ((((((w4).setCell ⟨W.heap.size, 0, none⟩ (.slice c.ua c.U.length c.uc)).setCell ⟨W.heap.size, 1, none⟩ (.slice c.sa c.S.length c.sc)).setCell ⟨W.heap.size, 2, none⟩ (.slice c.la c.L.length c.lc)).setCell ⟨W.heap.size, 3, none⟩ (.slice c.xa c.X.length c.xc)).setCell ⟨W.heap.size, 4, none⟩ (.int .i64 c.k)) ∧ Cu p ad len cap zs W ((((((w4).setCell ⟨W.heap.size, 0, none⟩ (.slice c.ua c.U.length c.uc)).setCell ⟨W.heap.size, 1, none⟩ (.slice c.sa c.S.length c.sc)).setCell ⟨W.heap.size, 2, none⟩ (.slice c.la c.L.length c.lc)).setCell ⟨W.heap.size, 3, none⟩ (.slice c.xa c.X.length c.xc)).setCell ⟨W.heap.size, 4, none⟩ (.int .i64 c.k)) ∧ OwnC W.heap.size c ((((((w4).setCell ⟨W.heap.size, 0, none⟩ (.slice c.ua c.U.length c.uc)).setCell ⟨W.heap.size, 1, none⟩ (.slice c.sa c.S.length c.sc)).setCell ⟨W.heap.size, 2, none⟩ (.slice c.la c.L.length c.lc)).setCell ⟨W.heap.size, 3, none⟩ (.slice c.xa c.X.length c.xc)).setCell ⟨W.heap.size, 4, none⟩ (.int .i64 c.k)) from ⟨(((((RB.set 0 (.slice c.ua c.U.length c.uc)).set 1 (.slice c.sa c.S.length c.sc)).set 2 (.slice c.la c.L.length c.lc)).set 3 (.slice c.xa c.X.length c.xc)).set 4 (.int .i64 c.k)), (Cu.setCell (Cu.setCell (Cu.setCell (Cu.setCell (Cu.setCell CC hpW (Nat.le_refl _) 0 (.slice c.ua c.U.length c.uc)) hpW (Nat.le_refl _) 1 (.slice c.sa c.S.length c.sc)) hpW (Nat.le_refl _) 2 (.slice c.la c.L.length c.lc)) hpW (Nat.le_refl _) 3 (.slice c.xa c.X.length c.xc)) hpW (Nat.le_refl _) 4 (.int .i64 c.k)), OwnC.le (((((OC.set (a := ⟨W.heap.size, 0, none⟩) (by dsimp only; omega) (.slice c.ua c.U.length c.uc)).set (a := ⟨W.heap.size, 1, none⟩) (by dsimp only; omega) (.slice c.sa c.S.length c.sc)).set (a := ⟨W.heap.size, 2, none⟩) (by dsimp only; omega) (.slice c.la c.L.length c.lc)).set (a := ⟨W.heap.size, 3, none⟩) (by dsimp only; omega) (.slice c.xa c.X.length c.xc)).set (a := ⟨W.heap.size, 4, none⟩) (by dsimp only; omega) (.int .i64 c.k)) (by omega)⟩)
    have NQ : ¬ q = W.heap.size := by omega
    have NR : ¬ W.heap.size = q := by omega
    clear RB QB CC OC
    go_wp2
    have G := F.out
    exact bodyPost_ret (res_c rfl _ _ W.heap.size _ _ _ _ _ rfl (G.1.at 0 rfl) (G.1.at 1 rfl) (G.1.at 2 rfl) (G.1.at 3 rfl) (G.1.at 4 rfl)) rfl ⟨c, rfl, HL.out, G.2.2, G.2.1⟩
  | true =>
    have HX := belowW 5 CC.here (by omega) (by omega)
    go_wp2_with fail
    refine HX.mono ?_
    clear HX
    rintro en w5 ⟨z, rfl, za, zb, C⟩
    have RBN := RB.only C.2 RB.lt (by omega)
    have KKN := KK.draw C.2 (by omega)
    have CCN := CC.next C
    clear RB KK CC C
    have RB := RBN
    have KK := KKN
    have CC := CCN
    clear RBN KKN CCN
    obtain rfl | rfl | rfl | rfl | rfl : z = 0 ∨ z = 1 ∨ z = 2 ∨ z = 3 ∨ z = 4 := by omega
    · have hu3 : 0 < c.U.length := by have := ln.u; omega
      obtain ⟨bu, fu, eu, lu, cu⟩ := KK.own.at.hu 0 hu3
      obtain ⟨g, cp, eg⟩ := ownsRow_form (KK.own.own 0 (by omega)) hu3
      replace eg : Value.slice c.ua c.U.length c.uc = .slice (some ⟨g, 0, none⟩) c.U.length cp := eg
      injection eg with eg _ eg2
      have iu : (0 : Int) < (c.U.length : Int) := by omega
      obtain ⟨wA, hwA⟩ : ∃ v, w5.drew.alloc (.cells #[.int .i64 (-1), .int .i64 3] 3) = v := ⟨_, rfl⟩
      have hwB : (w5.alloc (.cells #[.int .i64 (-1), .int .i64 3] 3)).drew = wA := hwA
      have KA : KD B q c wA := by rw [← hwA]; exact KK.drew.alloc _
      have RA : Blk W.heap.size [.slice none 0 0, .slice none 0 0, .slice none 0 0, .slice none 0 0, .int .i64 0] wA := by rw [← hwA]; exact RB.drew.alloc RB.drew.lt _
      have CA : Cu p ad len cap zs W wA := by rw [← hwA]; exact CC.drew.alloc _
      have LB : Blk w5.heap.size [.int .i64 (-1), .int .i64 3] wA := by rw [← hwA]; exact Blk.new w5.drew #[.int .i64 (-1), .int .i64 3] 3
      have pg : p < w5.heap.size := CC.lt
      have HP := pickI w5.heap.size 2 [-1, 3] CA.here (by omega) (by omega) pg LB.lt (by decide) LB (by decide)
      have e1 : w5.drew.cell? ⟨q, 0, none⟩ = _ := KK.blk.at 0 rfl
      have eA := KA.blk.at 0 rfl
      rw [eg] at e1 eA
      clear bu fu eu lu cu
      go_wp2_with fail
      refine wp_region_any (by kernel_rfl) ?_
      show wpAny _ _ _ _ _ _ _ w5.drew
      refine take_any 0 16 (v := ?_) rfl rfl (by kernel_rfl) (by kernel_rfl) (by kernel_rfl) (fun _ _ _ h => h) (Or.inl ⟨by rfl, ?_⟩) ?_
      rotate_left
      · intro w'; go_simp; try with_reducible rfl
      try simp only [Act.put, List.setIfInBounds_toArray, List.set_cons_zero, List.set_cons_succ]
      refine take_any 2 18 (v := ?_) rfl rfl (by kernel_rfl) (by kernel_rfl) (by kernel_rfl) (fun _ _ _ h => h) (Or.inl ⟨by rfl, ?_⟩) ?_
      rotate_left
      · intro w'; go_simp; try with_reducible rfl
      try simp only [Act.put, List.setIfInBounds_toArray, List.set_cons_zero, List.set_cons_succ]
      refine wpAny_ready (rs := [1, 3]) (by kernel_rfl) (by simp) ?_
      refine AllReady.cons (i := 1) rfl (fun K hK => ?_) (AllReady.cons (i := 3) rfl (fun K hK => ?_) AllReady.nil)
      · go_simp
        refine hK _ _ ?_
        clear hK K
        try simp only [Act.put, List.setIfInBounds_toArray, List.set_cons_zero, List.set_cons_succ]
        refine wpAny_ready (rs := [3]) (by kernel_rfl) (by simp) ?_
        refine AllReady.cons (i := 3) rfl (fun K hK => ?_) AllReady.nil
        go_simp
        try first | rw [hwA] | rw [hwB]
        refine hK _ _ ?_
        clear hK K
        try simp only [Act.put, List.setIfInBounds_toArray, List.set_cons_zero, List.set_cons_succ]
        refine wpAny_ready (rs := [4]) (by kernel_rfl) (by simp) ?_
        refine AllReady.cons (i := 4) rfl (fun K hK => ?_) AllReady.nil
        have hK3 : Shut _ := hK
        clear hK
        go_simp
        refine HP.mono ?_
        rintro en w8 ⟨y, rfl, yi, C⟩
        have K8 := KA.draw C.2 (by omega)
        have R8 := RA.only C.2 RA.lt (by omega)
        have C8 := CA.next C
        have e8 := K8.blk.at 0 rfl
        rw [eg] at e8
        go_wp2_with fail
        refine hK3.out _ _ ?_
        clear hK3 K
        try simp only [Act.put, List.setIfInBounds_toArray, List.set_cons_zero, List.set_cons_succ]
        have o8 := K8.own.own 0 (by omega)
        replace o8 : w8.ownsRow B 3 1 (.slice c.ua c.U.length c.uc) c.U.length (intV c.U) := o8
        rw [eg] at o8
        have u8 : w8.cell? ⟨g, 0, none⟩ = _ := o8.cellAt 0 (by omega)
        obtain ⟨u0, hu0⟩ : ∃ u, (intV c.U)[0]? = some u := ⟨_, List.getElem?_eq_getElem (by unfold intV; rw [List.length_map]; exact hu3)⟩
        rw [hu0] at u8
        have f8 := o8.frozenAt 0
        obtain ⟨KE, hbE⟩ := K8.elem eg y
        have HLE : Hid ((c.U.set 0 y).length = c.U.length) := by show _ = _; simp
        clear o8 hu0
        refine take_any 5 21 (v := ?_) rfl rfl (by kernel_rfl) (by kernel_rfl) (by kernel_rfl) (fun _ _ _ h => h) (Or.inl ⟨by rfl, ?_⟩) ?_
        rotate_left
        · intro w'; go_simp; try with_reducible rfl
        try simp only [Act.put, List.setIfInBounds_toArray, List.set_cons_zero, List.set_cons_succ]
        refine wpAny_ready (rs := [6]) (by kernel_rfl) (by simp) ?_
        refine AllReady.cons (i := 6) rfl (fun K hK => ?_) AllReady.nil
        go_simp
        refine hK _ _ ?_
        clear hK K
        try simp only [Act.put, List.setIfInBounds_toArray, List.set_cons_zero, List.set_cons_succ]
        refine wpAny_done (by kernel_rfl) ?_ _
        have RT := R8.lower hbE (by omega)
        have CT := Draw.Cu.down C8 hbE (by omega) (by omega)
        generalize c.U.set 0 y = Y at KE HLE
        generalize w8.setCell ⟨g, 0, none⟩ (.int .i64 y) = w10 at KE RT CT ⊢
        clear hbE K8 R8 C8 C e8 u8 f8
        have HLM : Hid (Lim (⟨c.ua, c.uc, Y, c.sa, c.sc, c.S, c.la, c.lc, c.L, c.xa, c.xc, c.X, c.k⟩ : Cf)) := ⟨by have := HLE.out; have := ln.u; show Y.length ≤ 20; omega, HL.out.s, HL.out.l, HL.out.x⟩
        clear HL ln
        have KKN := KE
        clear KK RB CC
        have KK := KKN
        have RB := RT
        have CC := CT
        generalize (⟨c.ua, c.uc, Y, c.sa, c.sc, c.S, c.la, c.lc, c.L, c.xa, c.xc, c.X, c.k⟩ : Cf) = c1 at KK HLM
        clear KKN KE RT CT KA RA CA LB HP eA e1 hwA hwB
        have QB := KK.blk
        have OC := KK.own
        clear KK
        have r0 := RB.at 0 rfl
        have r1 := RB.at 1 rfl
        have r2 := RB.at 2 rfl
        have r3 := RB.at 3 rfl
        have r4 := RB.at 4 rfl
        have g0 := RB.fz 0 rfl
        have g1 := RB.fz 1 rfl
        have g2 := RB.fz 2 rfl
        have g3 := RB.fz 3 rfl
        have g4 := RB.fz 4 rfl
        have q0 := QB.at 0 rfl
        have q1 := QB.at 1 rfl
        have q2 := QB.at 2 rfl
        have q3 := QB.at 3 rfl
        have q4 := QB.at 4 rfl
        have F := show Hid _ from (show Blk W.heap.size c1.cells ((((((w10).setCell ⟨W.heap.size, 0, none⟩ (.slice c1.ua c1.U.length c1.uc)).setCell ⟨W.heap.size, 1, none⟩ (.slice c1.sa c1.S.length c1.sc)).setCell ⟨W.heap.size, 2, none⟩ (.slice c1.la c1.L.length c1.lc)).setCell ⟨W.heap.size, 3, none⟩ (.slice c1.xa c1.X.length c1.xc)).setCell ⟨W.heap.size, 4, none⟩ (.int .i64 c1.k)) ∧ Cu p ad len cap zs W ((((((w10).setCell ⟨W.heap.size, 0, none⟩ (.slice c1.ua c1.U.length c1.uc)).setCell ⟨W.heap.size, 1, none⟩ (.slice c1.sa c1.S.length c1.sc)).setCell ⟨W.heap.size, 2, none⟩ (.slice c1.la c1.L.length c1.lc)).setCell ⟨W.heap.size, 3, none⟩ (.slice c1.xa c1.X.length c1.xc)).setCell ⟨W.heap.size, 4, none⟩ (.int .i64 c1.k)) ∧ OwnC W.heap.size c1 ((((((w10).setCell ⟨W.heap.size, 0, none⟩ (.slice c1.ua c1.U.length c1.uc)).setCell ⟨W.heap.size, 1, none⟩ (.slice c1.sa c1.S.length c1.sc)).setCell ⟨W.heap.size, 2, none⟩ (.slice c1.la c1.L.length c1.lc)).setCell ⟨W.heap.size, 3, none⟩ (.slice c1.xa c1.X.length c1.xc)).setCell ⟨W.heap.size, 4, none⟩ (.int .i64 c1.k)) from ⟨(((((RB.set 0 (.slice c1.ua c1.U.length c1.uc)).set 1 (.slice c1.sa c1.S.length c1.sc)).set 2 (.slice c1.la c1.L.length c1.lc)).set 3 (.slice c1.xa c1.X.length c1.xc)).set 4 (.int .i64 c1.k)), (Cu.setCell (Cu.setCell (Cu.setCell (Cu.setCell (Cu.setCell CC hpW (Nat.le_refl _) 0 (.slice c1.ua c1.U.length c1.uc)) hpW (Nat.le_refl _) 1 (.slice c1.sa c1.S.length c1.sc)) hpW (Nat.le_refl _) 2 (.slice c1.la c1.L.length c1.lc)) hpW (Nat.le_refl _) 3 (.slice c1.xa c1.X.length c1.xc)) hpW (Nat.le_refl _) 4 (.int .i64 c1.k)), OwnC.le (((((OC.set (a := ⟨W.heap.size, 0, none⟩) (by dsimp only; omega) (.slice c1.ua c1.U.length c1.uc)).set (a := ⟨W.heap.size, 1, none⟩) (by dsimp only; omega) (.slice c1.sa c1.S.length c1.sc)).set (a := ⟨W.heap.size, 2, none⟩) (by dsimp only; omega) (.slice c1.la c1.L.length c1.lc)).set (a := ⟨W.heap.size, 3, none⟩) (by dsimp only; omega) (.slice c1.xa c1.X.length c1.xc)).set (a := ⟨W.heap.size, 4, none⟩) (by dsimp only; omega) (.int .i64 c1.k)) (by omega)⟩)
        have NQ : ¬ q = W.heap.size := by omega
        have NR : ¬ W.heap.size = q := by omega
        clear RB QB CC OC
        go_wp2
        have G := F.out
        exact bodyPost_ret (res_c rfl _ _ W.heap.size _ _ _ _ _ rfl (G.1.at 0 rfl) (G.1.at 1 rfl) (G.1.at 2 rfl) (G.1.at 3 rfl) (G.1.at 4 rfl)) rfl ⟨c1, rfl, HLM.out, G.2.2, G.2.1⟩
      · go_simp
        try first | rw [hwA] | rw [hwB]
        refine hK _ _ ?_
        clear hK K
        try simp only [Act.put, List.setIfInBounds_toArray, List.set_cons_zero, List.set_cons_succ]
        refine wpAny_ready (rs := [1, 4]) (by kernel_rfl) (by simp) ?_
        refine AllReady.cons (i := 1) rfl (fun K hK => ?_) (AllReady.cons (i := 4) rfl (fun K hK => ?_) AllReady.nil)
        · go_simp
          refine hK _ _ ?_
          clear hK K
          try simp only [Act.put, List.setIfInBounds_toArray, List.set_cons_zero, List.set_cons_succ]
          refine wpAny_ready (rs := [4]) (by kernel_rfl) (by simp) ?_
          refine AllReady.cons (i := 4) rfl (fun K hK => ?_) AllReady.nil
          have hK3 : Shut _ := hK
          clear hK
          go_simp
          refine HP.mono ?_
          rintro en w8 ⟨y, rfl, yi, C⟩
          have K8 := KA.draw C.2 (by omega)
          have R8 := RA.only C.2 RA.lt (by omega)
          have C8 := CA.next C
          have e8 := K8.blk.at 0 rfl
          rw [eg] at e8
          go_wp2_with fail
          refine hK3.out _ _ ?_
          clear hK3 K
          try simp only [Act.put, List.setIfInBounds_toArray, List.set_cons_zero, List.set_cons_succ]
          have o8 := K8.own.own 0 (by omega)
          replace o8 : w8.ownsRow B 3 1 (.slice c.ua c.U.length c.uc) c.U.length (intV c.U) := o8
          rw [eg] at o8
          have u8 : w8.cell? ⟨g, 0, none⟩ = _ := o8.cellAt 0 (by omega)
          obtain ⟨u0, hu0⟩ : ∃ u, (intV c.U)[0]? = some u := ⟨_, List.getElem?_eq_getElem (by unfold intV; rw [List.length_map]; exact hu3)⟩
          rw [hu0] at u8
          have f8 := o8.frozenAt 0
          obtain ⟨KE, hbE⟩ := K8.elem eg y
          have HLE : Hid ((c.U.set 0 y).length = c.U.length) := by show _ = _; simp
          clear o8 hu0
          refine take_any 5 21 (v := ?_) rfl rfl (by kernel_rfl) (by kernel_rfl) (by kernel_rfl) (fun _ _ _ h => h) (Or.inl ⟨by rfl, ?_⟩) ?_
          rotate_left
          · intro w'; go_simp; try with_reducible rfl
          try simp only [Act.put, List.setIfInBounds_toArray, List.set_cons_zero, List.set_cons_succ]
          refine wpAny_ready (rs := [6]) (by kernel_rfl) (by simp) ?_
          refine AllReady.cons (i := 6) rfl (fun K hK => ?_) AllReady.nil
          go_simp
          refine hK _ _ ?_
          clear hK K
          try simp only [Act.put, List.setIfInBounds_toArray, List.set_cons_zero, List.set_cons_succ]
          refine wpAny_done (by kernel_rfl) ?_ _
          have RT := R8.lower hbE (by omega)
          have CT := Draw.Cu.down C8 hbE (by omega) (by omega)
          generalize c.U.set 0 y = Y at KE HLE
          generalize w8.setCell ⟨g, 0, none⟩ (.int .i64 y) = w10 at KE RT CT ⊢
          clear hbE K8 R8 C8 C e8 u8 f8
          have HLM : Hid (Lim (⟨c.ua, c.uc, Y, c.sa, c.sc, c.S, c.la, c.lc, c.L, c.xa, c.xc, c.X, c.k⟩ : Cf)) := ⟨by have := HLE.out; have := ln.u; show Y.length ≤ 20; omega, HL.out.s, HL.out.l, HL.out.x⟩
          clear HL ln
          have KKN := KE
          clear KK RB CC
          have KK := KKN
          have RB := RT
          have CC := CT
          generalize (⟨c.ua, c.uc, Y, c.sa, c.sc, c.S, c.la, c.lc, c.L, c.xa, c.xc, c.X, c.k⟩ : Cf) = c1 at KK HLM
          clear KKN KE RT CT KA RA CA LB HP eA e1 hwA hwB
          have QB := KK.blk
          have OC := KK.own
          clear KK
          have r0 := RB.at 0 rfl
          have r1 := RB.at 1 rfl
          have r2 := RB.at 2 rfl
          have r3 := RB.at 3 rfl
          have r4 := RB.at 4 rfl
          have g0 := RB.fz 0 rfl
          have g1 := RB.fz 1 rfl
          have g2 := RB.fz 2 rfl
          have g3 := RB.fz 3 rfl
          have g4 := RB.fz 4 rfl
          have q0 := QB.at 0 rfl
          have q1 := QB.at 1 rfl
          have q2 := QB.at 2 rfl
          have q3 := QB.at 3 rfl
          have q4 := QB.at 4 rfl
          have F := show Hid _ from (show Blk W.heap.size c1.cells ((((((w10).setCell ⟨W.heap.size, 0, none⟩ (.slice c1.ua c1.U.length c1.uc)).setCell ⟨W.heap.size, 1, none⟩ (.slice c1.sa c1.S.length c1.sc)).setCell ⟨W.heap.size, 2, none⟩ (.slice c1.la c1.L.length c1.lc)).setCell ⟨W.heap.size, 3, none⟩ (.slice c1.xa c1.X.length c1.xc)).setCell ⟨W.heap.size, 4, none⟩ (.int .i64 c1.k)) ∧ Cu p ad len cap zs W ((((((w10).setCell ⟨W.heap.size, 0, none⟩ (.slice c1.ua c1.U.length c1.uc)).setCell ⟨W.heap.size, 1, none⟩ (.slice c1.sa c1.S.length c1.sc)).setCell ⟨W.heap.size, 2, none⟩ (.slice c1.la c1.L.length c1.lc)).setCell ⟨W.heap.size, 3, none⟩ (.slice c1.xa c1.X.length c1.xc)).setCell ⟨W.heap.size, 4, none⟩ (.int .i64 c1.k)) ∧ OwnC W.heap.size c1 ((((((w10).setCell ⟨W.heap.size, 0, none⟩ (.slice c1.ua c1.U.length c1.uc)).setCell ⟨W.heap.size, 1, none⟩ (.slice c1.sa c1.S.length c1.sc)).setCell ⟨W.heap.size, 2, none⟩ (.slice c1.la c1.L.length c1.lc)).setCell ⟨W.heap.size, 3, none⟩ (.slice c1.xa c1.X.length c1.xc)).setCell ⟨W.heap.size, 4, none⟩ (.int .i64 c1.k)) from ⟨(((((RB.set 0 (.slice c1.ua c1.U.length c1.uc)).set 1 (.slice c1.sa c1.S.length c1.sc)).set 2 (.slice c1.la c1.L.length c1.lc)).set 3 (.slice c1.xa c1.X.length c1.xc)).set 4 (.int .i64 c1.k)), (Cu.setCell (Cu.setCell (Cu.setCell (Cu.setCell (Cu.setCell CC hpW (Nat.le_refl _) 0 (.slice c1.ua c1.U.length c1.uc)) hpW (Nat.le_refl _) 1 (.slice c1.sa c1.S.length c1.sc)) hpW (Nat.le_refl _) 2 (.slice c1.la c1.L.length c1.lc)) hpW (Nat.le_refl _) 3 (.slice c1.xa c1.X.length c1.xc)) hpW (Nat.le_refl _) 4 (.int .i64 c1.k)), OwnC.le (((((OC.set (a := ⟨W.heap.size, 0, none⟩) (by dsimp only; omega) (.slice c1.ua c1.U.length c1.uc)).set (a := ⟨W.heap.size, 1, none⟩) (by dsimp only; omega) (.slice c1.sa c1.S.length c1.sc)).set (a := ⟨W.heap.size, 2, none⟩) (by dsimp only; omega) (.slice c1.la c1.L.length c1.lc)).set (a := ⟨W.heap.size, 3, none⟩) (by dsimp only; omega) (.slice c1.xa c1.X.length c1.xc)).set (a := ⟨W.heap.size, 4, none⟩) (by dsimp only; omega) (.int .i64 c1.k)) (by omega)⟩)
          have NQ : ¬ q = W.heap.size := by omega
          have NR : ¬ W.heap.size = q := by omega
          clear RB QB CC OC
          go_wp2
          have G := F.out
          exact bodyPost_ret (res_c rfl _ _ W.heap.size _ _ _ _ _ rfl (G.1.at 0 rfl) (G.1.at 1 rfl) (G.1.at 2 rfl) (G.1.at 3 rfl) (G.1.at 4 rfl)) rfl ⟨c1, rfl, HLM.out, G.2.2, G.2.1⟩
        · have hK3 : Shut _ := hK
          clear hK
          go_simp
          refine HP.mono ?_
          rintro en w8 ⟨y, rfl, yi, C⟩
          have K8 := KA.draw C.2 (by omega)
          have R8 := RA.only C.2 RA.lt (by omega)
          have C8 := CA.next C
          have e8 := K8.blk.at 0 rfl
          rw [eg] at e8
          go_wp2_with fail
          refine hK3.out _ _ ?_
          clear hK3 K
          try simp only [Act.put, List.setIfInBounds_toArray, List.set_cons_zero, List.set_cons_succ]
          refine wpAny_ready (rs := [1]) (by kernel_rfl) (by simp) ?_
          refine AllReady.cons (i := 1) rfl (fun K hK => ?_) AllReady.nil
          go_simp
          refine hK _ _ ?_
          clear hK K
          try simp only [Act.put, List.setIfInBounds_toArray, List.set_cons_zero, List.set_cons_succ]
          have o8 := K8.own.own 0 (by omega)
          replace o8 : w8.ownsRow B 3 1 (.slice c.ua c.U.length c.uc) c.U.length (intV c.U) := o8
          rw [eg] at o8
          have u8 : w8.cell? ⟨g, 0, none⟩ = _ := o8.cellAt 0 (by omega)
          obtain ⟨u0, hu0⟩ : ∃ u, (intV c.U)[0]? = some u := ⟨_, List.getElem?_eq_getElem (by unfold intV; rw [List.length_map]; exact hu3)⟩
          rw [hu0] at u8
          have f8 := o8.frozenAt 0
          obtain ⟨KE, hbE⟩ := K8.elem eg y
          have HLE : Hid ((c.U.set 0 y).length = c.U.length) := by show _ = _; simp
          clear o8 hu0
          refine take_any 5 21 (v := ?_) rfl rfl (by kernel_rfl) (by kernel_rfl) (by kernel_rfl) (fun _ _ _ h => h) (Or.inl ⟨by rfl, ?_⟩) ?_
          rotate_left
          · intro w'; go_simp; try with_reducible rfl
          try simp only [Act.put, List.setIfInBounds_toArray, List.set_cons_zero, List.set_cons_succ]
          refine wpAny_ready (rs := [6]) (by kernel_rfl) (by simp) ?_
          refine AllReady.cons (i := 6) rfl (fun K hK => ?_) AllReady.nil
          go_simp
          refine hK _ _ ?_
          clear hK K
          try simp only [Act.put, List.setIfInBounds_toArray, List.set_cons_zero, List.set_cons_succ]
          refine wpAny_done (by kernel_rfl) ?_ _
          have RT := R8.lower hbE (by omega)
          have CT := Draw.Cu.down C8 hbE (by omega) (by omega)
          generalize c.U.set 0 y = Y at KE HLE
          generalize w8.setCell ⟨g, 0, none⟩ (.int .i64 y) = w10 at KE RT CT ⊢
          clear hbE K8 R8 C8 C e8 u8 f8
          have HLM : Hid (Lim (⟨c.ua, c.uc, Y, c.sa, c.sc, c.S, c.la, c.lc, c.L, c.xa, c.xc, c.X, c.k⟩ : Cf)) := ⟨by have := HLE.out; have := ln.u; show Y.length ≤ 20; omega, HL.out.s, HL.out.l, HL.out.x⟩
          clear HL ln
          have KKN := KE
          clear KK RB CC
          have KK := KKN
          have RB := RT
          have CC := CT
          generalize (⟨c.ua, c.uc, Y, c.sa, c.sc, c.S, c.la, c.lc, c.L, c.xa, c.xc, c.X, c.k⟩ : Cf) = c1 at KK HLM
          clear KKN KE RT CT KA RA CA LB HP eA e1 hwA hwB
          have QB := KK.blk
          have OC := KK.own
          clear KK
          have r0 := RB.at 0 rfl
          have r1 := RB.at 1 rfl
          have r2 := RB.at 2 rfl
          have r3 := RB.at 3 rfl
          have r4 := RB.at 4 rfl
          have g0 := RB.fz 0 rfl
          have g1 := RB.fz 1 rfl
          have g2 := RB.fz 2 rfl
          have g3 := RB.fz 3 rfl
          have g4 := RB.fz 4 rfl
          have q0 := QB.at 0 rfl
          have q1 := QB.at 1 rfl
          have q2 := QB.at 2 rfl
          have q3 := QB.at 3 rfl
          have q4 := QB.at 4 rfl
          have F := show Hid _ from (show Blk W.heap.size c1.cells ((((((w10).setCell ⟨W.heap.size, 0, none⟩ (.slice c1.ua c1.U.length c1.uc)).setCell ⟨W.heap.size, 1, none⟩ (.slice c1.sa c1.S.length c1.sc)).setCell ⟨W.heap.size, 2, none⟩ (.slice c1.la c1.L.length c1.lc)).setCell ⟨W.heap.size, 3, none⟩ (.slice c1.xa c1.X.length c1.xc)).setCell ⟨W.heap.size, 4, none⟩ (.int .i64 c1.k)) ∧ Cu p ad len cap zs W ((((((w10).setCell ⟨W.heap.size, 0, none⟩ (.slice c1.ua c1.U.length c1.uc)).setCell ⟨W.heap.size, 1, none⟩ (.slice c1.sa c1.S.length c1.sc)).setCell ⟨W.heap.size, 2, none⟩ (.slice c1.la c1.L.length c1.lc)).setCell ⟨W.heap.size, 3, none⟩ (.slice c1.xa c1.X.length c1.xc)).setCell ⟨W.heap.size, 4, none⟩ (.int .i64 c1.k)) ∧ OwnC W.heap.size c1 ((((((w10).setCell ⟨W.heap.size, 0, none⟩ (.slice c1.ua c1.U.length c1.uc)).setCell ⟨W.heap.size, 1, none⟩ (.slice c1.sa c1.S.length c1.sc)).setCell ⟨W.heap.size, 2, none⟩ (.slice c1.la c1.L.length c1.lc)).setCell ⟨W.heap.size, 3, none⟩ (.slice c1.xa c1.X.length c1.xc)).setCell ⟨W.heap.size, 4, none⟩ (.int .i64 c1.k)) from ⟨(((((RB.set 0 (.slice c1.ua c1.U.length c1.uc)).set 1 (.slice c1.sa c1.S.length c1.sc)).set 2 (.slice c1.la c1.L.length c1.lc)).set 3 (.slice c1.xa c1.X.length c1.xc)).set 4 (.int .i64 c1.k)), (Cu.setCell (Cu.setCell (Cu.setCell (Cu.setCell (Cu.setCell CC hpW (Nat.le_refl _) 0 (.slice c1.ua c1.U.length c1.uc)) hpW (Nat.le_refl _) 1 (.slice c1.sa c1.S.length c1.sc)) hpW (Nat.le_refl _) 2 (.slice c1.la c1.L.length c1.lc)) hpW (Nat.le_refl _) 3 (.slice c1.xa c1.X.length c1.xc)) hpW (Nat.le_refl _) 4 (.int .i64 c1.k)), OwnC.le (((((OC.set (a := ⟨W.heap.size, 0, none⟩) (by dsimp only; omega) (.slice c1.ua c1.U.length c1.uc)).set (a := ⟨W.heap.size, 1, none⟩) (by dsimp only; omega) (.slice c1.sa c1.S.length c1.sc)).set (a := ⟨W.heap.size, 2, none⟩) (by dsimp only; omega) (.slice c1.la c1.L.length c1.lc)).set (a := ⟨W.heap.size, 3, none⟩) (by dsimp only; omega) (.slice c1.xa c1.X.length c1.xc)).set (a := ⟨W.heap.size, 4, none⟩) (by dsimp only; omega) (.int .i64 c1.k)) (by omega)⟩)
          have NQ : ¬ q = W.heap.size := by omega
          have NR : ¬ W.heap.size = q := by omega
          clear RB QB CC OC
          go_wp2
          have G := F.out
          exact bodyPost_ret (res_c rfl _ _ W.heap.size _ _ _ _ _ rfl (G.1.at 0 rfl) (G.1.at 1 rfl) (G.1.at 2 rfl) (G.1.at 3 rfl) (G.1.at 4 rfl)) rfl ⟨c1, rfl, HLM.out, G.2.2, G.2.1⟩
    · have hl : Hid (c.S.length ≤ 9) := by show c.S.length ≤ 9; have := ln.s; omega
      have e1 := KK.blk.at 1 rfl
      have e2 : (w5.alloc (.cells #[.int .i64 0] 3)).cell? ⟨q, 1, none⟩ = some (.slice c.sa c.S.length c.sc) := (KK.blk.alloc KK.lt _).at 1 rfl
      go_wp2_with (first | (at_builtin; refine wpList_append_own_at _ rfl _ _ 24 rfl B 3 i0 (.int .i64 0) 1 8 Try.underlying24 hi hz0 hz1 hz2 rfl (by decide) (.slice c.sa c.S.length c.sc) c.S.length (intV c.S) rfl (World.ownsRow.alloc (KK.own.own 1 (by omega)) _) ⟨w5.heap.size, 0, none⟩ 1 1 [.int .i64 0] rfl rfl (cell_one_new _ _ _) ?c2 ?c3 ?c4 ?c5 ?_) | go_in)
      case c2 => intro u hu; simp at hu; subst hu; rfl
      case c3 => have := hl.out; unfold maxLen; omega
      case c4 => have := hl.out; omega
      case c5 => have := KK.lt; have := KK.bq; simp; omega
      intro v' w9 hown hgrow _ hloc
      rw [intV_snoc] at hown
      have hl9 : c.S.length + 1 = (c.S ++ [0]).length := by simp
      obtain ⟨n2, c2, hv9, _⟩ := own_shape hown
      rw [hl9] at hv9 hown
      subst hv9
      have hyl : Hid ((c.S ++ [0]).length = c.S.length + 1) := by show _ = _; simp
      generalize c.S ++ [0] = Y at hown hyl hloc ⊢
      clear hl9
      obtain ⟨KB, hb9, KT2⟩ := (KK.alloc (.cells #[.int .i64 0] 3)).app (d := (⟨c.ua, c.uc, c.U, n2, c2, Y, c.la, c.lc, c.L, c.xa, c.xc, c.X, c.k⟩ : Cf)) (i := 1) (by omega) (elseS c n2 c2 Y) hgrow hown (hloc.imp id fun h => ⟨_, h, by simp⟩) rfl
      replace KT2 : KD B q (⟨c.ua, c.uc, c.U, n2, c2, Y, c.la, c.lc, c.L, c.xa, c.xc, c.X, c.k⟩ : Cf) (w9.setCell ⟨q, 1, none⟩ (.slice n2 Y.length c2)) := KT2
      have hb8 : Below B w5 w9 := ((Below.refl B w5).alloc (by have := KK.lt; have := HB2.out; omega) (.cells #[.int .i64 0] 3)).trans hb9
      have k6 := KB.at 1 rfl
      have f6 := KB.fz 1 rfl
      have RN := RB.lower hb8 (by omega)
      have CN := Draw.Cu.down CC hb8 (by omega) (by omega)
      have RT := RN.far (g' := q) (by omega) 1 (.slice n2 Y.length c2)
      have CT := Draw.Cu.set (q := q) CN (by omega) (by omega) 1 (.slice n2 Y.length c2)
      obtain ⟨w10, hw10⟩ : ∃ v, w9.setCell ⟨q, 1, none⟩ (.slice n2 Y.length c2) = v := ⟨_, rfl⟩
      rw [hw10] at KT2 RT CT
      clear hloc hown hgrow hb9 hb8 RN CN KB e1 e2 KK RB CC
      have HLM : Hid (Lim (⟨c.ua, c.uc, c.U, n2, c2, Y, c.la, c.lc, c.L, c.xa, c.xc, c.X, c.k⟩ : Cf)) := ⟨HL.out.u, by have := hyl.out; have := ln.s; show Y.length ≤ 20; omega, HL.out.l, HL.out.x⟩
      clear HL ln
      have KK := KT2
      have RB := RT
      have CC := CT
      generalize (⟨c.ua, c.uc, c.U, n2, c2, Y, c.la, c.lc, c.L, c.xa, c.xc, c.X, c.k⟩ : Cf) = c1 at KK HLM
      clear KT2 RT CT
      have QB := KK.blk
      have OC := KK.own
      clear KK
      have r0 := RB.at 0 rfl
      have r1 := RB.at 1 rfl
      have r2 := RB.at 2 rfl
      have r3 := RB.at 3 rfl
      have r4 := RB.at 4 rfl
      have g0 := RB.fz 0 rfl
      have g1 := RB.fz 1 rfl
      have g2 := RB.fz 2 rfl
      have g3 := RB.fz 3 rfl
      have g4 := RB.fz 4 rfl
      have q0 := QB.at 0 rfl
      have q1 := QB.at 1 rfl
      have q2 := QB.at 2 rfl
      have q3 := QB.at 3 rfl
      have q4 := QB.at 4 rfl
      have F := show Hid _ from (show Blk W.heap.size c1.cells ((((((w10).setCell ⟨W.heap.size, 0, none⟩ (.slice c1.ua c1.U.length c1.uc)).setCell ⟨W.heap.size, 1, none⟩ (.slice c1.sa c1.S.length c1.sc)).setCell ⟨W.heap.size, 2, none⟩ (.slice c1.la c1.L.length c1.lc)).setCell ⟨W.heap.size, 3, none⟩ (.slice c1.xa c1.X.length c1.xc)).setCell ⟨W.heap.size, 4, none⟩ (.int .i64 c1.k)) ∧ Cu p ad len cap zs W ((((((w10).setCell ⟨W.heap.size, 0, none⟩ (.slice c1.ua c1.U.length c1.uc)).setCell ⟨W.heap.size, 1, none⟩ (.slice c1.sa c1.S.length c1.sc)).setCell ⟨W.heap.size, 2, none⟩ (.slice c1.la c1.L.length c1.lc)).setCell ⟨W.heap.size, 3, none⟩ (.slice c1.xa c1.X.length c1.xc)).setCell ⟨W.heap.size, 4, none⟩ (.int .i64 c1.k)) ∧ OwnC W.heap.size c1 ((((((w10).setCell ⟨W.heap.size, 0, none⟩ (.slice c1.ua c1.U.length c1.uc)).setCell ⟨W.heap.size, 1, none⟩ (.slice c1.sa c1.S.length c1.sc)).setCell ⟨W.heap.size, 2, none⟩ (.slice c1.la c1.L.length c1.lc)).setCell ⟨W.heap.size, 3, none⟩ (.slice c1.xa c1.X.length c1.xc)).setCell ⟨W.heap.size, 4, none⟩ (.int .i64 c1.k)) from ⟨(((((RB.set 0 (.slice c1.ua c1.U.length c1.uc)).set 1 (.slice c1.sa c1.S.length c1.sc)).set 2 (.slice c1.la c1.L.length c1.lc)).set 3 (.slice c1.xa c1.X.length c1.xc)).set 4 (.int .i64 c1.k)), (Cu.setCell (Cu.setCell (Cu.setCell (Cu.setCell (Cu.setCell CC hpW (Nat.le_refl _) 0 (.slice c1.ua c1.U.length c1.uc)) hpW (Nat.le_refl _) 1 (.slice c1.sa c1.S.length c1.sc)) hpW (Nat.le_refl _) 2 (.slice c1.la c1.L.length c1.lc)) hpW (Nat.le_refl _) 3 (.slice c1.xa c1.X.length c1.xc)) hpW (Nat.le_refl _) 4 (.int .i64 c1.k)), OwnC.le (((((OC.set (a := ⟨W.heap.size, 0, none⟩) (by dsimp only; omega) (.slice c1.ua c1.U.length c1.uc)).set (a := ⟨W.heap.size, 1, none⟩) (by dsimp only; omega) (.slice c1.sa c1.S.length c1.sc)).set (a := ⟨W.heap.size, 2, none⟩) (by dsimp only; omega) (.slice c1.la c1.L.length c1.lc)).set (a := ⟨W.heap.size, 3, none⟩) (by dsimp only; omega) (.slice c1.xa c1.X.length c1.xc)).set (a := ⟨W.heap.size, 4, none⟩) (by dsimp only; omega) (.int .i64 c1.k)) (by omega)⟩)
      have NQ : ¬ q = W.heap.size := by omega
      have NR : ¬ W.heap.size = q := by omega
      clear RB QB CC OC
      go_wp2
      have G := F.out
      exact bodyPost_ret (res_c rfl _ _ W.heap.size _ _ _ _ _ rfl (G.1.at 0 rfl) (G.1.at 1 rfl) (G.1.at 2 rfl) (G.1.at 3 rfl) (G.1.at 4 rfl)) rfl ⟨c1, rfl, HLM.out, G.2.2, G.2.1⟩
    · have hl : Hid (c.L.length ≤ 9) := by show c.L.length ≤ 9; have := ln.l; omega
      have e1 := KK.blk.at 2 rfl
      have e2 := KK.drew.blk.at 2 rfl
      go_wp2_with fail
      refine wp_region_any (by kernel_rfl) ?_
      show wpAny _ _ _ _ _ _ _ w5.drew
      refine take_any 0 31 (v := ?_) rfl rfl (by kernel_rfl) (by kernel_rfl) (by kernel_rfl) (fun _ _ _ h => h) (Or.inl ⟨by rfl, ?_⟩) ?_
      rotate_left
      · intro w'; go_simp; try with_reducible rfl
      try simp only [Act.put, List.setIfInBounds_toArray, List.set_cons_zero, List.set_cons_succ]
      refine take_any 2 33 (v := ?_) rfl rfl (by kernel_rfl) (by kernel_rfl) (by kernel_rfl) (fun _ _ _ h => h) (Or.inl ⟨by rfl, ?_⟩) ?_
      rotate_left
      · intro w'; go_simp; try with_reducible rfl
      try simp only [Act.put, List.setIfInBounds_toArray, List.set_cons_zero, List.set_cons_succ]
      refine take_any 4 35 (v := ?_) rfl rfl (by kernel_rfl) (by kernel_rfl) (by kernel_rfl) (fun _ _ _ h => h) (Or.inl ⟨by rfl, ?_⟩) ?_
      rotate_left
      · intro w'; go_simp; try with_reducible rfl
      try simp only [Act.put, List.setIfInBounds_toArray, List.set_cons_zero, List.set_cons_succ]
      refine wpAny_ready (rs := [1, 3]) (by kernel_rfl) (by simp) ?_
      refine AllReady.cons (i := 1) rfl (fun K hK => ?_) (AllReady.cons (i := 3) rfl (fun K hK => ?_) AllReady.nil)
      · go_simp
        refine hK _ _ ?_
        clear hK K
        try simp only [Act.put, List.setIfInBounds_toArray, List.set_cons_zero, List.set_cons_succ]
        refine wpAny_ready (rs := [3]) (by kernel_rfl) (by simp) ?_
        refine AllReady.cons (i := 3) rfl (fun K hK => ?_) AllReady.nil
        have hK3 : Shut _ := hK
        clear hK
        go_simp
        refine (belowW 4 CC.drew.here (by omega) (by omega)).mono ?_
        rintro en w6 ⟨x, rfl, xa, xb, C⟩
        have K6 := KK.drew.draw C.2 (by omega)
        have R6 := RB.drew.only C.2 RB.drew.lt (by omega)
        have C6 := CC.drew.next C
        have e6 := K6.blk.at 2 rfl
        go_wp2_with fail
        refine hK3.out _ _ ?_
        clear hK3 K
        try simp only [Act.put, List.setIfInBounds_toArray, List.set_cons_zero, List.set_cons_succ]
        refine wpAny_ready (rs := [5]) (by kernel_rfl) (by simp) ?_
        refine AllReady.cons (i := 5) rfl (fun K hK => ?_) AllReady.nil
        have hK3 : Shut _ := hK
        clear hK
        go_simp
        refine (belowW 4 C6.here (by omega) (by omega)).mono ?_
        rintro en w8 ⟨y, rfl, ya, yb, D⟩
        have K8 := K6.draw D.2 (by omega)
        have R8 := R6.only D.2 R6.lt (by omega)
        have C8 := C6.next D
        have e8 := K8.blk.at 2 rfl
        have e8a : (w8.alloc (.cells #[.int .i64 x, .int .i64 y] 36)).cell? ⟨q, 2, none⟩ = some (.slice c.la c.L.length c.lc) := (K8.blk.alloc K8.lt _).at 2 rfl
        go_wp2_with fail
        refine hK3.out _ _ ?_
        clear hK3 K
        try simp only [Act.put, List.setIfInBounds_toArray, List.set_cons_zero, List.set_cons_succ]
        refine take_any 6 37 (v := ?_) rfl rfl (by kernel_rfl) (by kernel_rfl) (by kernel_rfl) (fun _ _ _ h => h) (Or.inl ⟨by rfl, ?_⟩) ?_
        rotate_left
        · intro w'; go_simp; try with_reducible rfl
        try simp only [Act.put, List.setIfInBounds_toArray, List.set_cons_zero, List.set_cons_succ]
        refine wpAny_ready (rs := [7]) (by kernel_rfl) (by simp) ?_
        refine AllReady.cons (i := 7) rfl (fun K hK => ?_) AllReady.nil
        go_simp
        refine hK _ _ ?_
        clear hK K
        try simp only [Act.put, List.setIfInBounds_toArray, List.set_cons_zero, List.set_cons_succ]
        refine wpAny_ready (rs := [8]) (by kernel_rfl) (by simp) ?_
        refine AllReady.cons (i := 8) rfl (fun K hK => ?_) AllReady.nil
        refine step_own_at 39 rfl rfl _ _ 28 rfl B 36 j0 (.agg #[.int .i64 0, .int .i64 0]) 2 16 Try.underlying28 hj hj0 hj1 hj2 rfl (by decide) (.slice c.la c.L.length c.lc) c.L.length (prV c.L) rfl (World.ownsRow.alloc (K8.own.own 2 (by omega)) _) ⟨w8.heap.size, 0, none⟩ 1 1 [.int .i64 x, .int .i64 y] rfl rfl (cell_two_new _ _ _ _) (by intro u hu; simp at hu; rcases hu with rfl | rfl <;> rfl) (by have := hl.out; unfold maxLen; omega) (by have := hl.out; omega) (by have := K8.lt; have := K8.bq; simp; omega) ?_
        intro v' w9 hown hgrow hloc
        refine hK _ _ ?_
        clear hK K
        rw [prV_snoc] at hown
        have hl9 : c.L.length + 1 = (c.L ++ [(x, y)]).length := by simp
        obtain ⟨n2, c2, hv9, _⟩ := own_shape hown
        rw [hl9] at hv9 hown
        subst hv9
        have hyl : Hid ((c.L ++ [(x, y)]).length = c.L.length + 1) := by show _ = _; simp
        generalize c.L ++ [(x, y)] = Y at hown hyl hloc ⊢
        clear hl9
        obtain ⟨KB, hb9, KT2⟩ := (K8.alloc (.cells #[.int .i64 x, .int .i64 y] 36)).app (d := (⟨c.ua, c.uc, c.U, c.sa, c.sc, c.S, n2, c2, Y, c.xa, c.xc, c.X, c.k⟩ : Cf)) (i := 2) (by omega) (elseL c n2 c2 Y) hgrow hown (hloc.imp id fun h => ⟨_, h, by simp⟩) rfl
        replace KT2 : KD B q (⟨c.ua, c.uc, c.U, c.sa, c.sc, c.S, n2, c2, Y, c.xa, c.xc, c.X, c.k⟩ : Cf) (w9.setCell ⟨q, 2, none⟩ (.slice n2 Y.length c2)) := KT2
        have hb8 : Below B w8 w9 := ((Below.refl B w8).alloc (by have := K8.lt; have := HB2.out; omega) (.cells #[.int .i64 x, .int .i64 y] 36)).trans hb9
        have k6 := KB.at 2 rfl
        have f6 := KB.fz 2 rfl
        have RN := R8.lower hb8 (by omega)
        have CN := Draw.Cu.down C8 hb8 (by omega) (by omega)
        clear hloc hown hgrow K8 R8 C8 C e8 e8a K6 R6 C6 D e6
        try simp only [Act.put, List.setIfInBounds_toArray, List.set_cons_zero, List.set_cons_succ]
        refine take_any 9 40 (v := ?_) rfl rfl (by kernel_rfl) (by kernel_rfl) (by kernel_rfl) (fun _ _ _ h => h) (Or.inl ⟨by rfl, ?_⟩) ?_
        rotate_left
        · intro w'; go_simp; try with_reducible rfl
        try simp only [Act.put, List.setIfInBounds_toArray, List.set_cons_zero, List.set_cons_succ]
        refine wpAny_ready (rs := [10]) (by kernel_rfl) (by simp) ?_
        refine AllReady.cons (i := 10) rfl (fun K hK => ?_) AllReady.nil
        go_simp
        refine hK _ _ ?_
        clear hK K
        try simp only [Act.put, List.setIfInBounds_toArray, List.set_cons_zero, List.set_cons_succ]
        refine wpAny_done (by kernel_rfl) ?_ _
        have RT := RN.far (g' := q) (by omega) 2 (.slice n2 Y.length c2)
        have CT := Draw.Cu.set (q := q) CN (by omega) (by omega) 2 (.slice n2 Y.length c2)
        clear KB hb9 hb8 RN CN k6 f6
        generalize w9.setCell ⟨q, 2, none⟩ (.slice n2 Y.length c2) = w10 at KT2 RT CT ⊢
        clear KK RB CC
        have HLM : Hid (Lim (⟨c.ua, c.uc, c.U, c.sa, c.sc, c.S, n2, c2, Y, c.xa, c.xc, c.X, c.k⟩ : Cf)) := ⟨HL.out.u, HL.out.s, by have := hyl.out; have := ln.l; show Y.length ≤ 20; omega, HL.out.x⟩
        clear HL ln
        have KK := KT2
        have RB := RT
        have CC := CT
        generalize (⟨c.ua, c.uc, c.U, c.sa, c.sc, c.S, n2, c2, Y, c.xa, c.xc, c.X, c.k⟩ : Cf) = c1 at KK HLM
        clear KT2 RT CT
        have QB := KK.blk
        have OC := KK.own
        clear KK
        have r0 := RB.at 0 rfl
        have r1 := RB.at 1 rfl
        have r2 := RB.at 2 rfl
        have r3 := RB.at 3 rfl
        have r4 := RB.at 4 rfl
        have g0 := RB.fz 0 rfl
        have g1 := RB.fz 1 rfl
        have g2 := RB.fz 2 rfl
        have g3 := RB.fz 3 rfl
        have g4 := RB.fz 4 rfl
        have q0 := QB.at 0 rfl
        have q1 := QB.at 1 rfl
        have q2 := QB.at 2 rfl
        have q3 := QB.at 3 rfl
        have q4 := QB.at 4 rfl
        have F := show Hid _ from (show Blk W.heap.size c1.cells ((((((w10).setCell ⟨W.heap.size, 0, none⟩ (.slice c1.ua c1.U.length c1.uc)).setCell ⟨W.heap.size, 1, none⟩ (.slice c1.sa c1.S.length c1.sc)).setCell ⟨W.heap.size, 2, none⟩ (.slice c1.la c1.L.length c1.lc)).setCell ⟨W.heap.size, 3, none⟩ (.slice c1.xa c1.X.length c1.xc)).setCell ⟨W.heap.size, 4, none⟩ (.int .i64 c1.k)) ∧ Cu p ad len cap zs W ((((((w10).setCell ⟨W.heap.size, 0, none⟩ (.slice c1.ua c1.U.length c1.uc)).setCell ⟨W.heap.size, 1, none⟩ (.slice c1.sa c1.S.length c1.sc)).setCell ⟨W.heap.size, 2, none⟩ (.slice c1.la c1.L.length c1.lc)).setCell ⟨W.heap.size, 3, none⟩ (.slice c1.xa c1.X.length c1.xc)).setCell ⟨W.heap.size, 4, none⟩ (.int .i64 c1.k)) ∧ OwnC W.heap.size c1 ((((((w10).setCell ⟨W.heap.size, 0, none⟩ (.slice c1.ua c1.U.length c1.uc)).setCell ⟨W.heap.size, 1, none⟩ (.slice c1.sa c1.S.length c1.sc)).setCell ⟨W.heap.size, 2, none⟩ (.slice c1.la c1.L.length c1.lc)).setCell ⟨W.heap.size, 3, none⟩ (.slice c1.xa c1.X.length c1.xc)).setCell ⟨W.heap.size, 4, none⟩ (.int .i64 c1.k)) from ⟨(((((RB.set 0 (.slice c1.ua c1.U.length c1.uc)).set 1 (.slice c1.sa c1.S.length c1.sc)).set 2 (.slice c1.la c1.L.length c1.lc)).set 3 (.slice c1.xa c1.X.length c1.xc)).set 4 (.int .i64 c1.k)), (Cu.setCell (Cu.setCell (Cu.setCell (Cu.setCell (Cu.setCell CC hpW (Nat.le_refl _) 0 (.slice c1.ua c1.U.length c1.uc)) hpW (Nat.le_refl _) 1 (.slice c1.sa c1.S.length c1.sc)) hpW (Nat.le_refl _) 2 (.slice c1.la c1.L.length c1.lc)) hpW (Nat.le_refl _) 3 (.slice c1.xa c1.X.length c1.xc)) hpW (Nat.le_refl _) 4 (.int .i64 c1.k)), OwnC.le (((((OC.set (a := ⟨W.heap.size, 0, none⟩) (by dsimp only; omega) (.slice c1.ua c1.U.length c1.uc)).set (a := ⟨W.heap.size, 1, none⟩) (by dsimp only; omega) (.slice c1.sa c1.S.length c1.sc)).set (a := ⟨W.heap.size, 2, none⟩) (by dsimp only; omega) (.slice c1.la c1.L.length c1.lc)).set (a := ⟨W.heap.size, 3, none⟩) (by dsimp only; omega) (.slice c1.xa c1.X.length c1.xc)).set (a := ⟨W.heap.size, 4, none⟩) (by dsimp only; omega) (.int .i64 c1.k)) (by omega)⟩)
        have NQ : ¬ q = W.heap.size := by omega
        have NR : ¬ W.heap.size = q := by omega
        clear RB QB CC OC
        go_wp2
        have G := F.out
        exact bodyPost_ret (res_c rfl _ _ W.heap.size _ _ _ _ _ rfl (G.1.at 0 rfl) (G.1.at 1 rfl) (G.1.at 2 rfl) (G.1.at 3 rfl) (G.1.at 4 rfl)) rfl ⟨c1, rfl, HLM.out, G.2.2, G.2.1⟩
      · have hK3 : Shut _ := hK
        clear hK
        go_simp
        refine (belowW 4 CC.drew.here (by omega) (by omega)).mono ?_
        rintro en w6 ⟨x, rfl, xa, xb, C⟩
        have K6 := KK.drew.draw C.2 (by omega)
        have R6 := RB.drew.only C.2 RB.drew.lt (by omega)
        have C6 := CC.drew.next C
        have e6 := K6.blk.at 2 rfl
        go_wp2_with fail
        refine hK3.out _ _ ?_
        clear hK3 K
        try simp only [Act.put, List.setIfInBounds_toArray, List.set_cons_zero, List.set_cons_succ]
        refine wpAny_ready (rs := [1, 5]) (by kernel_rfl) (by simp) ?_
        refine AllReady.cons (i := 1) rfl (fun K hK => ?_) (AllReady.cons (i := 5) rfl (fun K hK => ?_) AllReady.nil)
        · go_simp
          refine hK _ _ ?_
          clear hK K
          try simp only [Act.put, List.setIfInBounds_toArray, List.set_cons_zero, List.set_cons_succ]
          refine wpAny_ready (rs := [5]) (by kernel_rfl) (by simp) ?_
          refine AllReady.cons (i := 5) rfl (fun K hK => ?_) AllReady.nil
          have hK3 : Shut _ := hK
          clear hK
          go_simp
          refine (belowW 4 C6.here (by omega) (by omega)).mono ?_
          rintro en w8 ⟨y, rfl, ya, yb, D⟩
          have K8 := K6.draw D.2 (by omega)
          have R8 := R6.only D.2 R6.lt (by omega)
          have C8 := C6.next D
          have e8 := K8.blk.at 2 rfl
          have e8a : (w8.alloc (.cells #[.int .i64 x, .int .i64 y] 36)).cell? ⟨q, 2, none⟩ = some (.slice c.la c.L.length c.lc) := (K8.blk.alloc K8.lt _).at 2 rfl
          go_wp2_with fail
          refine hK3.out _ _ ?_
          clear hK3 K
          try simp only [Act.put, List.setIfInBounds_toArray, List.set_cons_zero, List.set_cons_succ]
          refine take_any 6 37 (v := ?_) rfl rfl (by kernel_rfl) (by kernel_rfl) (by kernel_rfl) (fun _ _ _ h => h) (Or.inl ⟨by rfl, ?_⟩) ?_
          rotate_left
          · intro w'; go_simp; try with_reducible rfl
          try simp only [Act.put, List.setIfInBounds_toArray, List.set_cons_zero, List.set_cons_succ]
          refine wpAny_ready (rs := [7]) (by kernel_rfl) (by simp) ?_
          refine AllReady.cons (i := 7) rfl (fun K hK => ?_) AllReady.nil
          go_simp
          refine hK _ _ ?_
          clear hK K
          try simp only [Act.put, List.setIfInBounds_toArray, List.set_cons_zero, List.set_cons_succ]
          refine wpAny_ready (rs := [8]) (by kernel_rfl) (by simp) ?_
          refine AllReady.cons (i := 8) rfl (fun K hK => ?_) AllReady.nil
          refine step_own_at 39 rfl rfl _ _ 28 rfl B 36 j0 (.agg #[.int .i64 0, .int .i64 0]) 2 16 Try.underlying28 hj hj0 hj1 hj2 rfl (by decide) (.slice c.la c.L.length c.lc) c.L.length (prV c.L) rfl (World.ownsRow.alloc (K8.own.own 2 (by omega)) _) ⟨w8.heap.size, 0, none⟩ 1 1 [.int .i64 x, .int .i64 y] rfl rfl (cell_two_new _ _ _ _) (by intro u hu; simp at hu; rcases hu with rfl | rfl <;> rfl) (by have := hl.out; unfold maxLen; omega) (by have := hl.out; omega) (by have := K8.lt; have := K8.bq; simp; omega) ?_
          intro v' w9 hown hgrow hloc
          refine hK _ _ ?_
          clear hK K
          rw [prV_snoc] at hown
          have hl9 : c.L.length + 1 = (c.L ++ [(x, y)]).length := by simp
          obtain ⟨n2, c2, hv9, _⟩ := own_shape hown
          rw [hl9] at hv9 hown
          subst hv9
          have hyl : Hid ((c.L ++ [(x, y)]).length = c.L.length + 1) := by show _ = _; simp
          generalize c.L ++ [(x, y)] = Y at hown hyl hloc ⊢
          clear hl9
          obtain ⟨KB, hb9, KT2⟩ := (K8.alloc (.cells #[.int .i64 x, .int .i64 y] 36)).app (d := (⟨c.ua, c.uc, c.U, c.sa, c.sc, c.S, n2, c2, Y, c.xa, c.xc, c.X, c.k⟩ : Cf)) (i := 2) (by omega) (elseL c n2 c2 Y) hgrow hown (hloc.imp id fun h => ⟨_, h, by simp⟩) rfl
          replace KT2 : KD B q (⟨c.ua, c.uc, c.U, c.sa, c.sc, c.S, n2, c2, Y, c.xa, c.xc, c.X, c.k⟩ : Cf) (w9.setCell ⟨q, 2, none⟩ (.slice n2 Y.length c2)) := KT2
          have hb8 : Below B w8 w9 := ((Below.refl B w8).alloc (by have := K8.lt; have := HB2.out; omega) (.cells #[.int .i64 x, .int .i64 y] 36)).trans hb9
          have k6 := KB.at 2 rfl
          have f6 := KB.fz 2 rfl
          have RN := R8.lower hb8 (by omega)
          have CN := Draw.Cu.down C8 hb8 (by omega) (by omega)
          clear hloc hown hgrow K8 R8 C8 C e8 e8a K6 R6 C6 D e6
          try simp only [Act.put, List.setIfInBounds_toArray, List.set_cons_zero, List.set_cons_succ]
          refine take_any 9 40 (v := ?_) rfl rfl (by kernel_rfl) (by kernel_rfl) (by kernel_rfl) (fun _ _ _ h => h) (Or.inl ⟨by rfl, ?_⟩) ?_
          rotate_left
          · intro w'; go_simp; try with_reducible rfl
          try simp only [Act.put, List.setIfInBounds_toArray, List.set_cons_zero, List.set_cons_succ]
          refine wpAny_ready (rs := [10]) (by kernel_rfl) (by simp) ?_
          refine AllReady.cons (i := 10) rfl (fun K hK => ?_) AllReady.nil
          go_simp
          refine hK _ _ ?_
          clear hK K
          try simp only [Act.put, List.setIfInBounds_toArray, List.set_cons_zero, List.set_cons_succ]
          refine wpAny_done (by kernel_rfl) ?_ _
          have RT := RN.far (g' := q) (by omega) 2 (.slice n2 Y.length c2)
          have CT := Draw.Cu.set (q := q) CN (by omega) (by omega) 2 (.slice n2 Y.length c2)
          clear KB hb9 hb8 RN CN k6 f6
          generalize w9.setCell ⟨q, 2, none⟩ (.slice n2 Y.length c2) = w10 at KT2 RT CT ⊢
          clear KK RB CC
          have HLM : Hid (Lim (⟨c.ua, c.uc, c.U, c.sa, c.sc, c.S, n2, c2, Y, c.xa, c.xc, c.X, c.k⟩ : Cf)) := ⟨HL.out.u, HL.out.s, by have := hyl.out; have := ln.l; show Y.length ≤ 20; omega, HL.out.x⟩
          clear HL ln
          have KK := KT2
          have RB := RT
          have CC := CT
          generalize (⟨c.ua, c.uc, c.U, c.sa, c.sc, c.S, n2, c2, Y, c.xa, c.xc, c.X, c.k⟩ : Cf) = c1 at KK HLM
          clear KT2 RT CT
          have QB := KK.blk
          have OC := KK.own
          clear KK
          have r0 := RB.at 0 rfl
          have r1 := RB.at 1 rfl
          have r2 := RB.at 2 rfl
          have r3 := RB.at 3 rfl
          have r4 := RB.at 4 rfl
          have g0 := RB.fz 0 rfl
          have g1 := RB.fz 1 rfl
          have g2 := RB.fz 2 rfl
          have g3 := RB.fz 3 rfl
          have g4 := RB.fz 4 rfl
          have q0 := QB.at 0 rfl
          have q1 := QB.at 1 rfl
          have q2 := QB.at 2 rfl
          have q3 := QB.at 3 rfl
          have q4 := QB.at 4 rfl
          have F := show Hid _ from (show Blk W.heap.size c1.cells ((((((w10).setCell ⟨W.heap.size, 0, none⟩ (.slice c1.ua c1.U.length c1.uc)).setCell ⟨W.heap.size, 1, none⟩ (.slice c1.sa c1.S.length c1.sc)).setCell ⟨W.heap.size, 2, none⟩ (.slice c1.la c1.L.length c1.lc)).setCell ⟨W.heap.size, 3, none⟩ (.slice c1.xa c1.X.length c1.xc)).setCell ⟨W.heap.size, 4, none⟩ (.int .i64 c1.k)) ∧ Cu p ad len cap zs W ((((((w10).setCell ⟨W.heap.size, 0, none⟩ (.slice c1.ua c1.U.length c1.uc)).setCell ⟨W.heap.size, 1, none⟩ (.slice c1.sa c1.S.length c1.sc)).setCell ⟨W.heap.size, 2, none⟩ (.slice c1.la c1.L.length c1.lc)).setCell ⟨W.heap.size, 3, none⟩ (.slice c1.xa c1.X.length c1.xc)).setCell ⟨W.heap.size, 4, none⟩ (.int .i64 c1.k)) ∧ OwnC W.heap.size c1 ((((((w10).setCell ⟨W.heap.size, 0, none⟩ (.slice c1.ua c1.U.length c1.uc)).setCell ⟨W.heap.size, 1, none⟩ (.slice c1.sa c1.S.length c1.sc)).setCell ⟨W.heap.size, 2, none⟩ (.slice c1.la c1.L.length c1.lc)).setCell ⟨W.heap.size, 3, none⟩ (.slice c1.xa c1.X.length c1.xc)).setCell ⟨W.heap.size, 4, none⟩ (.int .i64 c1.k)) from ⟨(((((RB.set 0 (.slice c1.ua c1.U.length c1.uc)).set 1 (.slice c1.sa c1.S.length c1.sc)).set 2 (.slice c1.la c1.L.length c1.lc)).set 3 (.slice c1.xa c1.X.length c1.xc)).set 4 (.int .i64 c1.k)), (Cu.setCell (Cu.setCell (Cu.setCell (Cu.setCell (Cu.setCell CC hpW (Nat.le_refl _) 0 (.slice c1.ua c1.U.length c1.uc)) hpW (Nat.le_refl _) 1 (.slice c1.sa c1.S.length c1.sc)) hpW (Nat.le_refl _) 2 (.slice c1.la c1.L.length c1.lc)) hpW (Nat.le_refl _) 3 (.slice c1.xa c1.X.length c1.xc)) hpW (Nat.le_refl _) 4 (.int .i64 c1.k)), OwnC.le (((((OC.set (a := ⟨W.heap.size, 0, none⟩) (by dsimp only; omega) (.slice c1.ua c1.U.length c1.uc)).set (a := ⟨W.heap.size, 1, none⟩) (by dsimp only; omega) (.slice c1.sa c1.S.length c1.sc)).set (a := ⟨W.heap.size, 2, none⟩) (by dsimp only; omega) (.slice c1.la c1.L.length c1.lc)).set (a := ⟨W.heap.size, 3, none⟩) (by dsimp only; omega) (.slice c1.xa c1.X.length c1.xc)).set (a := ⟨W.heap.size, 4, none⟩) (by dsimp only; omega) (.int .i64 c1.k)) (by omega)⟩)
          have NQ : ¬ q = W.heap.size := by omega
          have NR : ¬ W.heap.size = q := by omega
          clear RB QB CC OC
          go_wp2
          have G := F.out
          exact bodyPost_ret (res_c rfl _ _ W.heap.size _ _ _ _ _ rfl (G.1.at 0 rfl) (G.1.at 1 rfl) (G.1.at 2 rfl) (G.1.at 3 rfl) (G.1.at 4 rfl)) rfl ⟨c1, rfl, HLM.out, G.2.2, G.2.1⟩
        · have hK3 : Shut _ := hK
          clear hK
          go_simp
          refine (belowW 4 C6.here (by omega) (by omega)).mono ?_
          rintro en w8 ⟨y, rfl, ya, yb, D⟩
          have K8 := K6.draw D.2 (by omega)
          have R8 := R6.only D.2 R6.lt (by omega)
          have C8 := C6.next D
          have e8 := K8.blk.at 2 rfl
          have e8a : (w8.alloc (.cells #[.int .i64 x, .int .i64 y] 36)).cell? ⟨q, 2, none⟩ = some (.slice c.la c.L.length c.lc) := (K8.blk.alloc K8.lt _).at 2 rfl
          go_wp2_with fail
          refine hK3.out _ _ ?_
          clear hK3 K
          try simp only [Act.put, List.setIfInBounds_toArray, List.set_cons_zero, List.set_cons_succ]
          refine take_any 6 37 (v := ?_) rfl rfl (by kernel_rfl) (by kernel_rfl) (by kernel_rfl) (fun _ _ _ h => h) (Or.inl ⟨by rfl, ?_⟩) ?_
          rotate_left
          · intro w'; go_simp; try with_reducible rfl
          try simp only [Act.put, List.setIfInBounds_toArray, List.set_cons_zero, List.set_cons_succ]
          refine wpAny_ready (rs := [1, 7]) (by kernel_rfl) (by simp) ?_
          refine AllReady.cons (i := 1) rfl (fun K hK => ?_) (AllReady.cons (i := 7) rfl (fun K hK => ?_) AllReady.nil)
          · go_simp
            refine hK _ _ ?_
            clear hK K
            try simp only [Act.put, List.setIfInBounds_toArray, List.set_cons_zero, List.set_cons_succ]
            refine wpAny_ready (rs := [7]) (by kernel_rfl) (by simp) ?_
            refine AllReady.cons (i := 7) rfl (fun K hK => ?_) AllReady.nil
            go_simp
            refine hK _ _ ?_
            clear hK K
            try simp only [Act.put, List.setIfInBounds_toArray, List.set_cons_zero, List.set_cons_succ]
            refine wpAny_ready (rs := [8]) (by kernel_rfl) (by simp) ?_
            refine AllReady.cons (i := 8) rfl (fun K hK => ?_) AllReady.nil
            refine step_own_at 39 rfl rfl _ _ 28 rfl B 36 j0 (.agg #[.int .i64 0, .int .i64 0]) 2 16 Try.underlying28 hj hj0 hj1 hj2 rfl (by decide) (.slice c.la c.L.length c.lc) c.L.length (prV c.L) rfl (World.ownsRow.alloc (K8.own.own 2 (by omega)) _) ⟨w8.heap.size, 0, none⟩ 1 1 [.int .i64 x, .int .i64 y] rfl rfl (cell_two_new _ _ _ _) (by intro u hu; simp at hu; rcases hu with rfl | rfl <;> rfl) (by have := hl.out; unfold maxLen; omega) (by have := hl.out; omega) (by have := K8.lt; have := K8.bq; simp; omega) ?_
            intro v' w9 hown hgrow hloc
            refine hK _ _ ?_
            clear hK K
            rw [prV_snoc] at hown
            have hl9 : c.L.length + 1 = (c.L ++ [(x, y)]).length := by simp
            obtain ⟨n2, c2, hv9, _⟩ := own_shape hown
            rw [hl9] at hv9 hown
            subst hv9
            have hyl : Hid ((c.L ++ [(x, y)]).length = c.L.length + 1) := by show _ = _; simp
            generalize c.L ++ [(x, y)] = Y at hown hyl hloc ⊢
            clear hl9
            obtain ⟨KB, hb9, KT2⟩ := (K8.alloc (.cells #[.int .i64 x, .int .i64 y] 36)).app (d := (⟨c.ua, c.uc, c.U, c.sa, c.sc, c.S, n2, c2, Y, c.xa, c.xc, c.X, c.k⟩ : Cf)) (i := 2) (by omega) (elseL c n2 c2 Y) hgrow hown (hloc.imp id fun h => ⟨_, h, by simp⟩) rfl
            replace KT2 : KD B q (⟨c.ua, c.uc, c.U, c.sa, c.sc, c.S, n2, c2, Y, c.xa, c.xc, c.X, c.k⟩ : Cf) (w9.setCell ⟨q, 2, none⟩ (.slice n2 Y.length c2)) := KT2
            have hb8 : Below B w8 w9 := ((Below.refl B w8).alloc (by have := K8.lt; have := HB2.out; omega) (.cells #[.int .i64 x, .int .i64 y] 36)).trans hb9
            have k6 := KB.at 2 rfl
            have f6 := KB.fz 2 rfl
            have RN := R8.lower hb8 (by omega)
            have CN := Draw.Cu.down C8 hb8 (by omega) (by omega)
            clear hloc hown hgrow K8 R8 C8 C e8 e8a K6 R6 C6 D e6
            try simp only [Act.put, List.setIfInBounds_toArray, List.set_cons_zero, List.set_cons_succ]
            refine take_any 9 40 (v := ?_) rfl rfl (by kernel_rfl) (by kernel_rfl) (by kernel_rfl) (fun _ _ _ h => h) (Or.inl ⟨by rfl, ?_⟩) ?_
            rotate_left
            · intro w'; go_simp; try with_reducible rfl
            try simp only [Act.put, List.setIfInBounds_toArray, List.set_cons_zero, List.set_cons_succ]
            refine wpAny_ready (rs := [10]) (by kernel_rfl) (by simp) ?_
            refine AllReady.cons (i := 10) rfl (fun K hK => ?_) AllReady.nil
            go_simp
            refine hK _ _ ?_
            clear hK K
            try simp only [Act.put, List.setIfInBounds_toArray, List.set_cons_zero, List.set_cons_succ]
            refine wpAny_done (by kernel_rfl) ?_ _
            have RT := RN.far (g' := q) (by omega) 2 (.slice n2 Y.length c2)
            have CT := Draw.Cu.set (q := q) CN (by omega) (by omega) 2 (.slice n2 Y.length c2)
            clear KB hb9 hb8 RN CN k6 f6
            generalize w9.setCell ⟨q, 2, none⟩ (.slice n2 Y.length c2) = w10 at KT2 RT CT ⊢
            clear KK RB CC
            have HLM : Hid (Lim (⟨c.ua, c.uc, c.U, c.sa, c.sc, c.S, n2, c2, Y, c.xa, c.xc, c.X, c.k⟩ : Cf)) := ⟨HL.out.u, HL.out.s, by have := hyl.out; have := ln.l; show Y.length ≤ 20; omega, HL.out.x⟩
            clear HL ln
            have KK := KT2
            have RB := RT
            have CC := CT
            generalize (⟨c.ua, c.uc, c.U, c.sa, c.sc, c.S, n2, c2, Y, c.xa, c.xc, c.X, c.k⟩ : Cf) = c1 at KK HLM
            clear KT2 RT CT
            have QB := KK.blk
            have OC := KK.own
            clear KK
            have r0 := RB.at 0 rfl
            have r1 := RB.at 1 rfl
            have r2 := RB.at 2 rfl
            have r3 := RB.at 3 rfl
            have r4 := RB.at 4 rfl
            have g0 := RB.fz 0 rfl
            have g1 := RB.fz 1 rfl
            have g2 := RB.fz 2 rfl
            have g3 := RB.fz 3 rfl
            have g4 := RB.fz 4 rfl
            have q0 := QB.at 0 rfl
            have q1 := QB.at 1 rfl
            have q2 := QB.at 2 rfl
            have q3 := QB.at 3 rfl
            have q4 := QB.at 4 rfl
            have F := show Hid _ from (show Blk W.heap.size c1.cells ((((((w10).setCell ⟨W.heap.size, 0, none⟩ (.slice c1.ua c1.U.length c1.uc)).setCell ⟨W.heap.size, 1, none⟩ (.slice c1.sa c1.S.length c1.sc)).setCell ⟨W.heap.size, 2, none⟩ (.slice c1.la c1.L.length c1.lc)).setCell ⟨W.heap.size, 3, none⟩ (.slice c1.xa c1.X.length c1.xc)).setCell ⟨W.heap.size, 4, none⟩ (.int .i64 c1.k)) ∧ Cu p ad len cap zs W ((((((w10).setCell ⟨W.heap.size, 0, none⟩ (.slice c1.ua c1.U.length c1.uc)).setCell ⟨W.heap.size, 1, none⟩ (.slice c1.sa c1.S.length c1.sc)).setCell ⟨W.heap.size, 2, none⟩ (.slice c1.la c1.L.length c1.lc)).setCell ⟨W.heap.size, 3, none⟩ (.slice c1.xa c1.X.length c1.xc)).setCell ⟨W.heap.size, 4, none⟩ (.int .i64 c1.k)) ∧ OwnC W.heap.size c1 ((((((w10).setCell ⟨W.heap.size, 0, none⟩ (.slice c1.ua c1.U.length c1.uc)).setCell ⟨W.heap.size, 1, none⟩ (.slice c1.sa c1.S.length c1.sc)).setCell ⟨W.heap.size, 2, none⟩ (.slice c1.la c1.L.length c1.lc)).setCell ⟨W.heap.size, 3, none⟩ (.slice c1.xa c1.X.length c1.xc)).setCell ⟨W.heap.size, 4, none⟩ (.int .i64 c1.k)) from ⟨(((((RB.set 0 (.slice c1.ua c1.U.length c1.uc)).set 1 (.slice c1.sa c1.S.length c1.sc)).set 2 (.slice c1.la c1.L.length c1.lc)).set 3 (.slice c1.xa c1.X.length c1.xc)).set 4 (.int .i64 c1.k)), (Cu.setCell (Cu.setCell (Cu.setCell (Cu.setCell (Cu.setCell CC hpW (Nat.le_refl _) 0 (.slice c1.ua c1.U.length c1.uc)) hpW (Nat.le_refl _) 1 (.slice c1.sa c1.S.length c1.sc)) hpW (Nat.le_refl _) 2 (.slice c1.la c1.L.length c1.lc)) hpW (Nat.le_refl _) 3 (.slice c1.xa c1.X.length c1.xc)) hpW (Nat.le_refl _) 4 (.int .i64 c1.k)), OwnC.le (((((OC.set (a := ⟨W.heap.size, 0, none⟩) (by dsimp only; omega) (.slice c1.ua c1.U.length c1.uc)).set (a := ⟨W.heap.size, 1, none⟩) (by dsimp only; omega) (.slice c1.sa c1.S.length c1.sc)).set (a := ⟨W.heap.size, 2, none⟩) (by dsimp only; omega) (.slice c1.la c1.L.length c1.lc)).set (a := ⟨W.heap.size, 3, none⟩) (by dsimp only; omega) (.slice c1.xa c1.X.length c1.xc)).set (a := ⟨W.heap.size, 4, none⟩) (by dsimp only; omega) (.int .i64 c1.k)) (by omega)⟩)
            have NQ : ¬ q = W.heap.size := by omega
            have NR : ¬ W.heap.size = q := by omega
            clear RB QB CC OC
            go_wp2
            have G := F.out
            exact bodyPost_ret (res_c rfl _ _ W.heap.size _ _ _ _ _ rfl (G.1.at 0 rfl) (G.1.at 1 rfl) (G.1.at 2 rfl) (G.1.at 3 rfl) (G.1.at 4 rfl)) rfl ⟨c1, rfl, HLM.out, G.2.2, G.2.1⟩
          · go_simp
            refine hK _ _ ?_
            clear hK K
            try simp only [Act.put, List.setIfInBounds_toArray, List.set_cons_zero, List.set_cons_succ]
            refine wpAny_ready (rs := [1]) (by kernel_rfl) (by simp) ?_
            refine AllReady.cons (i := 1) rfl (fun K hK => ?_) AllReady.nil
            go_simp
            refine hK _ _ ?_
            clear hK K
            try simp only [Act.put, List.setIfInBounds_toArray, List.set_cons_zero, List.set_cons_succ]
            refine wpAny_ready (rs := [8]) (by kernel_rfl) (by simp) ?_
            refine AllReady.cons (i := 8) rfl (fun K hK => ?_) AllReady.nil
            refine step_own_at 39 rfl rfl _ _ 28 rfl B 36 j0 (.agg #[.int .i64 0, .int .i64 0]) 2 16 Try.underlying28 hj hj0 hj1 hj2 rfl (by decide) (.slice c.la c.L.length c.lc) c.L.length (prV c.L) rfl (World.ownsRow.alloc (K8.own.own 2 (by omega)) _) ⟨w8.heap.size, 0, none⟩ 1 1 [.int .i64 x, .int .i64 y] rfl rfl (cell_two_new _ _ _ _) (by intro u hu; simp at hu; rcases hu with rfl | rfl <;> rfl) (by have := hl.out; unfold maxLen; omega) (by have := hl.out; omega) (by have := K8.lt; have := K8.bq; simp; omega) ?_
            intro v' w9 hown hgrow hloc
            refine hK _ _ ?_
            clear hK K
            rw [prV_snoc] at hown
            have hl9 : c.L.length + 1 = (c.L ++ [(x, y)]).length := by simp
            obtain ⟨n2, c2, hv9, _⟩ := own_shape hown
            rw [hl9] at hv9 hown
            subst hv9
            have hyl : Hid ((c.L ++ [(x, y)]).length = c.L.length + 1) := by show _ = _; simp
            generalize c.L ++ [(x, y)] = Y at hown hyl hloc ⊢
            clear hl9
            obtain ⟨KB, hb9, KT2⟩ := (K8.alloc (.cells #[.int .i64 x, .int .i64 y] 36)).app (d := (⟨c.ua, c.uc, c.U, c.sa, c.sc, c.S, n2, c2, Y, c.xa, c.xc, c.X, c.k⟩ : Cf)) (i := 2) (by omega) (elseL c n2 c2 Y) hgrow hown (hloc.imp id fun h => ⟨_, h, by simp⟩) rfl
            replace KT2 : KD B q (⟨c.ua, c.uc, c.U, c.sa, c.sc, c.S, n2, c2, Y, c.xa, c.xc, c.X, c.k⟩ : Cf) (w9.setCell ⟨q, 2, none⟩ (.slice n2 Y.length c2)) := KT2
            have hb8 : Below B w8 w9 := ((Below.refl B w8).alloc (by have := K8.lt; have := HB2.out; omega) (.cells #[.int .i64 x, .int .i64 y] 36)).trans hb9
            have k6 := KB.at 2 rfl
            have f6 := KB.fz 2 rfl
            have RN := R8.lower hb8 (by omega)
            have CN := Draw.Cu.down C8 hb8 (by omega) (by omega)
            clear hloc hown hgrow K8 R8 C8 C e8 e8a K6 R6 C6 D e6
            try simp only [Act.put, List.setIfInBounds_toArray, List.set_cons_zero, List.set_cons_succ]
            refine take_any 9 40 (v := ?_) rfl rfl (by kernel_rfl) (by kernel_rfl) (by kernel_rfl) (fun _ _ _ h => h) (Or.inl ⟨by rfl, ?_⟩) ?_
            rotate_left
            · intro w'; go_simp; try with_reducible rfl
            try simp only [Act.put, List.setIfInBounds_toArray, List.set_cons_zero, List.set_cons_succ]
            refine wpAny_ready (rs := [10]) (by kernel_rfl) (by simp) ?_
            refine AllReady.cons (i := 10) rfl (fun K hK => ?_) AllReady.nil
            go_simp
            refine hK _ _ ?_
            clear hK K
            try simp only [Act.put, List.setIfInBounds_toArray, List.set_cons_zero, List.set_cons_succ]
            refine wpAny_done (by kernel_rfl) ?_ _
            have RT := RN.far (g' := q) (by omega) 2 (.slice n2 Y.length c2)
            have CT := Draw.Cu.set (q := q) CN (by omega) (by omega) 2 (.slice n2 Y.length c2)
            clear KB hb9 hb8 RN CN k6 f6
            generalize w9.setCell ⟨q, 2, none⟩ (.slice n2 Y.length c2) = w10 at KT2 RT CT ⊢
            clear KK RB CC
            have HLM : Hid (Lim (⟨c.ua, c.uc, c.U, c.sa, c.sc, c.S, n2, c2, Y, c.xa, c.xc, c.X, c.k⟩ : Cf)) := ⟨HL.out.u, HL.out.s, by have := hyl.out; have := ln.l; show Y.length ≤ 20; omega, HL.out.x⟩
            clear HL ln
            have KK := KT2
            have RB := RT
            have CC := CT
            generalize (⟨c.ua, c.uc, c.U, c.sa, c.sc, c.S, n2, c2, Y, c.xa, c.xc, c.X, c.k⟩ : Cf) = c1 at KK HLM
            clear KT2 RT CT
            have QB := KK.blk
            have OC := KK.own
            clear KK
            have r0 := RB.at 0 rfl
            have r1 := RB.at 1 rfl
            have r2 := RB.at 2 rfl
            have r3 := RB.at 3 rfl
            have r4 := RB.at 4 rfl
            have g0 := RB.fz 0 rfl
            have g1 := RB.fz 1 rfl
            have g2 := RB.fz 2 rfl
            have g3 := RB.fz 3 rfl
            have g4 := RB.fz 4 rfl
            have q0 := QB.at 0 rfl
            have q1 := QB.at 1 rfl
            have q2 := QB.at 2 rfl
            have q3 := QB.at 3 rfl
            have q4 := QB.at 4 rfl
            have F := show Hid _ from (show Blk W.heap.size c1.cells ((((((w10).setCell ⟨W.heap.size, 0, none⟩ (.slice c1.ua c1.U.length c1.uc)).setCell ⟨W.heap.size, 1, none⟩ (.slice c1.sa c1.S.length c1.sc)).setCell ⟨W.heap.size, 2, none⟩ (.slice c1.la c1.L.length c1.lc)).setCell ⟨W.heap.size, 3, none⟩ (.slice c1.xa c1.X.length c1.xc)).setCell ⟨W.heap.size, 4, none⟩ (.int .i64 c1.k)) ∧ Cu p ad len cap zs W ((((((w10).setCell ⟨W.heap.size, 0, none⟩ (.slice c1.ua c1.U.length c1.uc)).setCell ⟨W.heap.size, 1, none⟩ (.slice c1.sa c1.S.length c1.sc)).setCell ⟨W.heap.size, 2, none⟩ (.slice c1.la c1.L.length c1.lc)).setCell ⟨W.heap.size, 3, none⟩ (.slice c1.xa c1.X.length c1.xc)).setCell ⟨W.heap.size, 4, none⟩ (.int .i64 c1.k)) ∧ OwnC W.heap.size c1 ((((((w10).setCell ⟨W.heap.size, 0, none⟩ (.slice c1.ua c1.U.length c1.uc)).setCell ⟨W.heap.size, 1, none⟩ (.slice c1.sa c1.S.length c1.sc)).setCell ⟨W.heap.size, 2, none⟩ (.slice c1.la c1.L.length c1.lc)).setCell ⟨W.heap.size, 3, none⟩ (.slice c1.xa c1.X.length c1.xc)).setCell ⟨W.heap.size, 4, none⟩ (.int .i64 c1.k)) from ⟨(((((RB.set 0 (.slice c1.ua c1.U.length c1.uc)).set 1 (.slice c1.sa c1.S.length c1.sc)).set 2 (.slice c1.la c1.L.length c1.lc)).set 3 (.slice c1.xa c1.X.length c1.xc)).set 4 (.int .i64 c1.k)), (Cu.setCell (Cu.setCell (Cu.setCell (Cu.setCell (Cu.setCell CC hpW (Nat.le_refl _) 0 (.slice c1.ua c1.U.length c1.uc)) hpW (Nat.le_refl _) 1 (.slice c1.sa c1.S.length c1.sc)) hpW (Nat.le_refl _) 2 (.slice c1.la c1.L.length c1.lc)) hpW (Nat.le_refl _) 3 (.slice c1.xa c1.X.length c1.xc)) hpW (Nat.le_refl _) 4 (.int .i64 c1.k)), OwnC.le (((((OC.set (a := ⟨W.heap.size, 0, none⟩) (by dsimp only; omega) (.slice c1.ua c1.U.length c1.uc)).set (a := ⟨W.heap.size, 1, none⟩) (by dsimp only; omega) (.slice c1.sa c1.S.length c1.sc)).set (a := ⟨W.heap.size, 2, none⟩) (by dsimp only; omega) (.slice c1.la c1.L.length c1.lc)).set (a := ⟨W.heap.size, 3, none⟩) (by dsimp only; omega) (.slice c1.xa c1.X.length c1.xc)).set (a := ⟨W.heap.size, 4, none⟩) (by dsimp only; omega) (.int .i64 c1.k)) (by omega)⟩)
            have NQ : ¬ q = W.heap.size := by omega
            have NR : ¬ W.heap.size = q := by omega
            clear RB QB CC OC
            go_wp2
            have G := F.out
            exact bodyPost_ret (res_c rfl _ _ W.heap.size _ _ _ _ _ rfl (G.1.at 0 rfl) (G.1.at 1 rfl) (G.1.at 2 rfl) (G.1.at 3 rfl) (G.1.at 4 rfl)) rfl ⟨c1, rfl, HLM.out, G.2.2, G.2.1⟩
    · have hl : Hid (c.X.length ≤ 9) := by show c.X.length ≤ 9; have := ln.x; omega
      have e1 := KK.blk.at 3 rfl
      have e2 := KK.drew.blk.at 3 rfl
      go_wp2_with fail
      refine wp_region_any (by kernel_rfl) ?_
      show wpAny _ _ _ _ _ _ _ w5.drew
      refine take_any 0 43 (v := ?_) rfl rfl (by kernel_rfl) (by kernel_rfl) (by kernel_rfl) (fun _ _ _ h => h) (Or.inl ⟨by rfl, ?_⟩) ?_
      rotate_left
      · intro w'; go_simp; try with_reducible rfl
      try simp only [Act.put, List.setIfInBounds_toArray, List.set_cons_zero, List.set_cons_succ]
      refine take_any 2 45 (v := ?_) rfl rfl (by kernel_rfl) (by kernel_rfl) (by kernel_rfl) (fun _ _ _ h => h) (Or.inl ⟨by rfl, ?_⟩) ?_
      rotate_left
      · intro w'; go_simp; try with_reducible rfl
      try simp only [Act.put, List.setIfInBounds_toArray, List.set_cons_zero, List.set_cons_succ]
      refine take_any 4 47 (v := ?_) rfl rfl (by kernel_rfl) (by kernel_rfl) (by kernel_rfl) (fun _ _ _ h => h) (Or.inl ⟨by rfl, ?_⟩) ?_
      rotate_left
      · intro w'; go_simp; try with_reducible rfl
      try simp only [Act.put, List.setIfInBounds_toArray, List.set_cons_zero, List.set_cons_succ]
      refine wpAny_ready (rs := [1, 3]) (by kernel_rfl) (by simp) ?_
      refine AllReady.cons (i := 1) rfl (fun K hK => ?_) (AllReady.cons (i := 3) rfl (fun K hK => ?_) AllReady.nil)
      · go_simp
        refine hK _ _ ?_
        clear hK K
        try simp only [Act.put, List.setIfInBounds_toArray, List.set_cons_zero, List.set_cons_succ]
        refine wpAny_ready (rs := [3]) (by kernel_rfl) (by simp) ?_
        refine AllReady.cons (i := 3) rfl (fun K hK => ?_) AllReady.nil
        have hK3 : Shut _ := hK
        clear hK
        go_simp
        refine (belowW 4 CC.drew.here (by omega) (by omega)).mono ?_
        rintro en w6 ⟨x, rfl, xa, xb, C⟩
        have K6 := KK.drew.draw C.2 (by omega)
        have R6 := RB.drew.only C.2 RB.drew.lt (by omega)
        have C6 := CC.drew.next C
        have e6 := K6.blk.at 3 rfl
        go_wp2_with fail
        refine hK3.out _ _ ?_
        clear hK3 K
        try simp only [Act.put, List.setIfInBounds_toArray, List.set_cons_zero, List.set_cons_succ]
        refine wpAny_ready (rs := [5]) (by kernel_rfl) (by simp) ?_
        refine AllReady.cons (i := 5) rfl (fun K hK => ?_) AllReady.nil
        have hK3 : Shut _ := hK
        clear hK
        go_simp
        refine (belowW 4 C6.here (by omega) (by omega)).mono ?_
        rintro en w8 ⟨y, rfl, ya, yb, D⟩
        have K8 := K6.draw D.2 (by omega)
        have R8 := R6.only D.2 R6.lt (by omega)
        have C8 := C6.next D
        have e8 := K8.blk.at 3 rfl
        have e8a : (w8.alloc (.cells #[.int .i64 x, .int .i64 y] 36)).cell? ⟨q, 3, none⟩ = some (.slice c.xa c.X.length c.xc) := (K8.blk.alloc K8.lt _).at 3 rfl
        go_wp2_with fail
        refine hK3.out _ _ ?_
        clear hK3 K
        try simp only [Act.put, List.setIfInBounds_toArray, List.set_cons_zero, List.set_cons_succ]
        refine take_any 6 49 (v := ?_) rfl rfl (by kernel_rfl) (by kernel_rfl) (by kernel_rfl) (fun _ _ _ h => h) (Or.inl ⟨by rfl, ?_⟩) ?_
        rotate_left
        · intro w'; go_simp; try with_reducible rfl
        try simp only [Act.put, List.setIfInBounds_toArray, List.set_cons_zero, List.set_cons_succ]
        refine wpAny_ready (rs := [7]) (by kernel_rfl) (by simp) ?_
        refine AllReady.cons (i := 7) rfl (fun K hK => ?_) AllReady.nil
        go_simp
        refine hK _ _ ?_
        clear hK K
        try simp only [Act.put, List.setIfInBounds_toArray, List.set_cons_zero, List.set_cons_succ]
        refine wpAny_ready (rs := [8]) (by kernel_rfl) (by simp) ?_
        refine AllReady.cons (i := 8) rfl (fun K hK => ?_) AllReady.nil
        refine step_own_at 51 rfl rfl _ _ 28 rfl B 36 j0 (.agg #[.int .i64 0, .int .i64 0]) 2 16 Try.underlying28 hj hj0 hj1 hj2 rfl (by decide) (.slice c.xa c.X.length c.xc) c.X.length (prV c.X) rfl (World.ownsRow.alloc (K8.own.own 3 (by omega)) _) ⟨w8.heap.size, 0, none⟩ 1 1 [.int .i64 x, .int .i64 y] rfl rfl (cell_two_new _ _ _ _) (by intro u hu; simp at hu; rcases hu with rfl | rfl <;> rfl) (by have := hl.out; unfold maxLen; omega) (by have := hl.out; omega) (by have := K8.lt; have := K8.bq; simp; omega) ?_
        intro v' w9 hown hgrow hloc
        refine hK _ _ ?_
        clear hK K
        rw [prV_snoc] at hown
        have hl9 : c.X.length + 1 = (c.X ++ [(x, y)]).length := by simp
        obtain ⟨n2, c2, hv9, _⟩ := own_shape hown
        rw [hl9] at hv9 hown
        subst hv9
        have hyl : Hid ((c.X ++ [(x, y)]).length = c.X.length + 1) := by show _ = _; simp
        generalize c.X ++ [(x, y)] = Y at hown hyl hloc ⊢
        clear hl9
        obtain ⟨KB, hb9, KT2⟩ := (K8.alloc (.cells #[.int .i64 x, .int .i64 y] 36)).app (d := (⟨c.ua, c.uc, c.U, c.sa, c.sc, c.S, c.la, c.lc, c.L, n2, c2, Y, c.k⟩ : Cf)) (i := 3) (by omega) (elseX c n2 c2 Y) hgrow hown (hloc.imp id fun h => ⟨_, h, by simp⟩) rfl
        replace KT2 : KD B q (⟨c.ua, c.uc, c.U, c.sa, c.sc, c.S, c.la, c.lc, c.L, n2, c2, Y, c.k⟩ : Cf) (w9.setCell ⟨q, 3, none⟩ (.slice n2 Y.length c2)) := KT2
        have hb8 : Below B w8 w9 := ((Below.refl B w8).alloc (by have := K8.lt; have := HB2.out; omega) (.cells #[.int .i64 x, .int .i64 y] 36)).trans hb9
        have k6 := KB.at 3 rfl
        have f6 := KB.fz 3 rfl
        have RN := R8.lower hb8 (by omega)
        have CN := Draw.Cu.down C8 hb8 (by omega) (by omega)
        clear hloc hown hgrow K8 R8 C8 C e8 e8a K6 R6 C6 D e6
        try simp only [Act.put, List.setIfInBounds_toArray, List.set_cons_zero, List.set_cons_succ]
        refine take_any 9 52 (v := ?_) rfl rfl (by kernel_rfl) (by kernel_rfl) (by kernel_rfl) (fun _ _ _ h => h) (Or.inl ⟨by rfl, ?_⟩) ?_
        rotate_left
        · intro w'; go_simp; try with_reducible rfl
        try simp only [Act.put, List.setIfInBounds_toArray, List.set_cons_zero, List.set_cons_succ]
        refine wpAny_ready (rs := [10]) (by kernel_rfl) (by simp) ?_
        refine AllReady.cons (i := 10) rfl (fun K hK => ?_) AllReady.nil
        go_simp
        refine hK _ _ ?_
        clear hK K
        try simp only [Act.put, List.setIfInBounds_toArray, List.set_cons_zero, List.set_cons_succ]
        refine wpAny_done (by kernel_rfl) ?_ _
        have RT := RN.far (g' := q) (by omega) 3 (.slice n2 Y.length c2)
        have CT := Draw.Cu.set (q := q) CN (by omega) (by omega) 3 (.slice n2 Y.length c2)
        clear KB hb9 hb8 RN CN k6 f6
        generalize w9.setCell ⟨q, 3, none⟩ (.slice n2 Y.length c2) = w10 at KT2 RT CT ⊢
        clear KK RB CC
        have HLM : Hid (Lim (⟨c.ua, c.uc, c.U, c.sa, c.sc, c.S, c.la, c.lc, c.L, n2, c2, Y, c.k⟩ : Cf)) := ⟨HL.out.u, HL.out.s, HL.out.l, by have := hyl.out; have := ln.x; show Y.length ≤ 20; omega⟩
        clear HL ln
        have KK := KT2
        have RB := RT
        have CC := CT
        generalize (⟨c.ua, c.uc, c.U, c.sa, c.sc, c.S, c.la, c.lc, c.L, n2, c2, Y, c.k⟩ : Cf) = c1 at KK HLM
        clear KT2 RT CT
        have QB := KK.blk
        have OC := KK.own
        clear KK
        have r0 := RB.at 0 rfl
        have r1 := RB.at 1 rfl
        have r2 := RB.at 2 rfl
        have r3 := RB.at 3 rfl
        have r4 := RB.at 4 rfl
        have g0 := RB.fz 0 rfl
        have g1 := RB.fz 1 rfl
        have g2 := RB.fz 2 rfl
        have g3 := RB.fz 3 rfl
        have g4 := RB.fz 4 rfl
        have q0 := QB.at 0 rfl
        have q1 := QB.at 1 rfl
        have q2 := QB.at 2 rfl
        have q3 := QB.at 3 rfl
        have q4 := QB.at 4 rfl
        have F := show Hid _ from (show Blk W.heap.size c1.cells ((((((w10).setCell ⟨W.heap.size, 0, none⟩ (.slice c1.ua c1.U.length c1.uc)).setCell ⟨W.heap.size, 1, none⟩ (.slice c1.sa c1.S.length c1.sc)).setCell ⟨W.heap.size, 2, none⟩ (.slice c1.la c1.L.length c1.lc)).setCell ⟨W.heap.size, 3, none⟩ (.slice c1.xa c1.X.length c1.xc)).setCell ⟨W.heap.size, 4, none⟩ (.int .i64 c1.k)) ∧ Cu p ad len cap zs W ((((((w10).setCell ⟨W.heap.size, 0, none⟩ (.slice c1.ua c1.U.length c1.uc)).setCell ⟨W.heap.size, 1, none⟩ (.slice c1.sa c1.S.length c1.sc)).setCell ⟨W.heap.size, 2, none⟩ (.slice c1.la c1.L.length c1.lc)).setCell ⟨W.heap.size, 3, none⟩ (.slice c1.xa c1.X.length c1.xc)).setCell ⟨W.heap.size, 4, none⟩ (.int .i64 c1.k)) ∧ OwnC W.heap.size c1 ((((((w10).setCell ⟨W.heap.size, 0, none⟩ (.slice c1.ua c1.U.length c1.uc)).setCell ⟨W.heap.size, 1, none⟩ (.slice c1.sa c1.S.length c1.sc)).setCell ⟨W.heap.size, 2, none⟩ (.slice c1.la c1.L.length c1.lc)).setCell ⟨W.heap.size, 3, none⟩ (.slice c1.xa c1.X.length c1.xc)).setCell ⟨W.heap.size, 4, none⟩ (.int .i64 c1.k)) from ⟨(((((RB.set 0 (.slice c1.ua c1.U.length c1.uc)).set 1 (.slice c1.sa c1.S.length c1.sc)).set 2 (.slice c1.la c1.L.length c1.lc)).set 3 (.slice c1.xa c1.X.length c1.xc)).set 4 (.int .i64 c1.k)), (Cu.setCell (Cu.setCell (Cu.setCell (Cu.setCell (Cu.setCell CC hpW (Nat.le_refl _) 0 (.slice c1.ua c1.U.length c1.uc)) hpW (Nat.le_refl _) 1 (.slice c1.sa c1.S.length c1.sc)) hpW (Nat.le_refl _) 2 (.slice c1.la c1.L.length c1.lc)) hpW (Nat.le_refl _) 3 (.slice c1.xa c1.X.length c1.xc)) hpW (Nat.le_refl _) 4 (.int .i64 c1.k)), OwnC.le (((((OC.set (a := ⟨W.heap.size, 0, none⟩) (by dsimp only; omega) (.slice c1.ua c1.U.length c1.uc)).set (a := ⟨W.heap.size, 1, none⟩) (by dsimp only; omega) (.slice c1.sa c1.S.length c1.sc)).set (a := ⟨W.heap.size, 2, none⟩) (by dsimp only; omega) (.slice c1.la c1.L.length c1.lc)).set (a := ⟨W.heap.size, 3, none⟩) (by dsimp only; omega) (.slice c1.xa c1.X.length c1.xc)).set (a := ⟨W.heap.size, 4, none⟩) (by dsimp only; omega) (.int .i64 c1.k)) (by omega)⟩)
        have NQ : ¬ q = W.heap.size := by omega
        have NR : ¬ W.heap.size = q := by omega
        clear RB QB CC OC
        go_wp2
        have G := F.out
        exact bodyPost_ret (res_c rfl _ _ W.heap.size _ _ _ _ _ rfl (G.1.at 0 rfl) (G.1.at 1 rfl) (G.1.at 2 rfl) (G.1.at 3 rfl) (G.1.at 4 rfl)) rfl ⟨c1, rfl, HLM.out, G.2.2, G.2.1⟩
      · have hK3 : Shut _ := hK
        clear hK
        go_simp
        refine (belowW 4 CC.drew.here (by omega) (by omega)).mono ?_
        rintro en w6 ⟨x, rfl, xa, xb, C⟩
        have K6 := KK.drew.draw C.2 (by omega)
        have R6 := RB.drew.only C.2 RB.drew.lt (by omega)
        have C6 := CC.drew.next C
        have e6 := K6.blk.at 3 rfl
        go_wp2_with fail
        refine hK3.out _ _ ?_
        clear hK3 K
        try simp only [Act.put, List.setIfInBounds_toArray, List.set_cons_zero, List.set_cons_succ]
        refine wpAny_ready (rs := [1, 5]) (by kernel_rfl) (by simp) ?_
        refine AllReady.cons (i := 1) rfl (fun K hK => ?_) (AllReady.cons (i := 5) rfl (fun K hK => ?_) AllReady.nil)
        · go_simp
          refine hK _ _ ?_
          clear hK K
          try simp only [Act.put, List.setIfInBounds_toArray, List.set_cons_zero, List.set_cons_succ]
          refine wpAny_ready (rs := [5]) (by kernel_rfl) (by simp) ?_
          refine AllReady.cons (i := 5) rfl (fun K hK => ?_) AllReady.nil
          have hK3 : Shut _ := hK
          clear hK
          go_simp
          refine (belowW 4 C6.here (by omega) (by omega)).mono ?_
          rintro en w8 ⟨y, rfl, ya, yb, D⟩
          have K8 := K6.draw D.2 (by omega)
          have R8 := R6.only D.2 R6.lt (by omega)
          have C8 := C6.next D
          have e8 := K8.blk.at 3 rfl
          have e8a : (w8.alloc (.cells #[.int .i64 x, .int .i64 y] 36)).cell? ⟨q, 3, none⟩ = some (.slice c.xa c.X.length c.xc) := (K8.blk.alloc K8.lt _).at 3 rfl
          go_wp2_with fail
          refine hK3.out _ _ ?_
          clear hK3 K
          try simp only [Act.put, List.setIfInBounds_toArray, List.set_cons_zero, List.set_cons_succ]
          refine take_any 6 49 (v := ?_) rfl rfl (by kernel_rfl) (by kernel_rfl) (by kernel_rfl) (fun _ _ _ h => h) (Or.inl ⟨by rfl, ?_⟩) ?_
          rotate_left
          · intro w'; go_simp; try with_reducible rfl
          try simp only [Act.put, List.setIfInBounds_toArray, List.set_cons_zero, List.set_cons_succ]
          refine wpAny_ready (rs := [7]) (by kernel_rfl) (by simp) ?_
          refine AllReady.cons (i := 7) rfl (fun K hK => ?_) AllReady.nil
          go_simp
          refine hK _ _ ?_
          clear hK K
          try simp only [Act.put, List.setIfInBounds_toArray, List.set_cons_zero, List.set_cons_succ]
          refine wpAny_ready (rs := [8]) (by kernel_rfl) (by simp) ?_
          refine AllReady.cons (i := 8) rfl (fun K hK => ?_) AllReady.nil
          refine step_own_at 51 rfl rfl _ _ 28 rfl B 36 j0 (.agg #[.int .i64 0, .int .i64 0]) 2 16 Try.underlying28 hj hj0 hj1 hj2 rfl (by decide) (.slice c.xa c.X.length c.xc) c.X.length (prV c.X) rfl (World.ownsRow.alloc (K8.own.own 3 (by omega)) _) ⟨w8.heap.size, 0, none⟩ 1 1 [.int .i64 x, .int .i64 y] rfl rfl (cell_two_new _ _ _ _) (by intro u hu; simp at hu; rcases hu with rfl | rfl <;> rfl) (by have := hl.out; unfold maxLen; omega) (by have := hl.out; omega) (by have := K8.lt; have := K8.bq; simp; omega) ?_
          intro v' w9 hown hgrow hloc
          refine hK _ _ ?_
          clear hK K
          rw [prV_snoc] at hown
          have hl9 : c.X.length + 1 = (c.X ++ [(x, y)]).length := by simp
          obtain ⟨n2, c2, hv9, _⟩ := own_shape hown
          rw [hl9] at hv9 hown
          subst hv9
          have hyl : Hid ((c.X ++ [(x, y)]).length = c.X.length + 1) := by show _ = _; simp
          generalize c.X ++ [(x, y)] = Y at hown hyl hloc ⊢
          clear hl9
          obtain ⟨KB, hb9, KT2⟩ := (K8.alloc (.cells #[.int .i64 x, .int .i64 y] 36)).app (d := (⟨c.ua, c.uc, c.U, c.sa, c.sc, c.S, c.la, c.lc, c.L, n2, c2, Y, c.k⟩ : Cf)) (i := 3) (by omega) (elseX c n2 c2 Y) hgrow hown (hloc.imp id fun h => ⟨_, h, by simp⟩) rfl
          replace KT2 : KD B q (⟨c.ua, c.uc, c.U, c.sa, c.sc, c.S, c.la, c.lc, c.L, n2, c2, Y, c.k⟩ : Cf) (w9.setCell ⟨q, 3, none⟩ (.slice n2 Y.length c2)) := KT2
          have hb8 : Below B w8 w9 := ((Below.refl B w8).alloc (by have := K8.lt; have := HB2.out; omega) (.cells #[.int .i64 x, .int .i64 y] 36)).trans hb9
          have k6 := KB.at 3 rfl
          have f6 := KB.fz 3 rfl
          have RN := R8.lower hb8 (by omega)
          have CN := Draw.Cu.down C8 hb8 (by omega) (by omega)
          clear hloc hown hgrow K8 R8 C8 C e8 e8a K6 R6 C6 D e6
          try simp only [Act.put, List.setIfInBounds_toArray, List.set_cons_zero, List.set_cons_succ]
          refine take_any 9 52 (v := ?_) rfl rfl (by kernel_rfl) (by kernel_rfl) (by kernel_rfl) (fun _ _ _ h => h) (Or.inl ⟨by rfl, ?_⟩) ?_
          rotate_left
          · intro w'; go_simp; try with_reducible rfl
          try simp only [Act.put, List.setIfInBounds_toArray, List.set_cons_zero, List.set_cons_succ]
          refine wpAny_ready (rs := [10]) (by kernel_rfl) (by simp) ?_
          refine AllReady.cons (i := 10) rfl (fun K hK => ?_) AllReady.nil
          go_simp
          refine hK _ _ ?_
          clear hK K
          try simp only [Act.put, List.setIfInBounds_toArray, List.set_cons_zero, List.set_cons_succ]
          refine wpAny_done (by kernel_rfl) ?_ _
          have RT := RN.far (g' := q) (by omega) 3 (.slice n2 Y.length c2)
          have CT := Draw.Cu.set (q := q) CN (by omega) (by omega) 3 (.slice n2 Y.length c2)
          clear KB hb9 hb8 RN CN k6 f6
          generalize w9.setCell ⟨q, 3, none⟩ (.slice n2 Y.length c2) = w10 at KT2 RT CT ⊢
          clear KK RB CC
          have HLM : Hid (Lim (⟨c.ua, c.uc, c.U, c.sa, c.sc, c.S, c.la, c.lc, c.L, n2, c2, Y, c.k⟩ : Cf)) := ⟨HL.out.u, HL.out.s, HL.out.l, by have := hyl.out; have := ln.x; show Y.length ≤ 20; omega⟩
          clear HL ln
          have KK := KT2
          have RB := RT
          have CC := CT
          generalize (⟨c.ua, c.uc, c.U, c.sa, c.sc, c.S, c.la, c.lc, c.L, n2, c2, Y, c.k⟩ : Cf) = c1 at KK HLM
          clear KT2 RT CT
          have QB := KK.blk
          have OC := KK.own
          clear KK
          have r0 := RB.at 0 rfl
          have r1 := RB.at 1 rfl
          have r2 := RB.at 2 rfl
          have r3 := RB.at 3 rfl
          have r4 := RB.at 4 rfl
          have g0 := RB.fz 0 rfl
          have g1 := RB.fz 1 rfl
          have g2 := RB.fz 2 rfl
          have g3 := RB.fz 3 rfl
          have g4 := RB.fz 4 rfl
          have q0 := QB.at 0 rfl
          have q1 := QB.at 1 rfl
          have q2 := QB.at 2 rfl
          have q3 := QB.at 3 rfl
          have q4 := QB.at 4 rfl
          have F := show Hid _ from (show Blk W.heap.size c1.cells ((((((w10).setCell ⟨W.heap.size, 0, none⟩ (.slice c1.ua c1.U.length c1.uc)).setCell ⟨W.heap.size, 1, none⟩ (.slice c1.sa c1.S.length c1.sc)).setCell ⟨W.heap.size, 2, none⟩ (.slice c1.la c1.L.length c1.lc)).setCell ⟨W.heap.size, 3, none⟩ (.slice c1.xa c1.X.length c1.xc)).setCell ⟨W.heap.size, 4, none⟩ (.int .i64 c1.k)) ∧ Cu p ad len cap zs W ((((((w10).setCell ⟨W.heap.size, 0, none⟩ (.slice c1.ua c1.U.length c1.uc)).setCell ⟨W.heap.size, 1, none⟩ (.slice c1.sa c1.S.length c1.sc)).setCell ⟨W.heap.size, 2, none⟩ (.slice c1.la c1.L.length c1.lc)).setCell ⟨W.heap.size, 3, none⟩ (.slice c1.xa c1.X.length c1.xc)).setCell ⟨W.heap.size, 4, none⟩ (.int .i64 c1.k)) ∧ OwnC W.heap.size c1 ((((((w10).setCell ⟨W.heap.size, 0, none⟩ (.slice c1.ua c1.U.length c1.uc)).setCell ⟨W.heap.size, 1, none⟩ (.slice c1.sa c1.S.length c1.sc)).setCell ⟨W.heap.size, 2, none⟩ (.slice c1.la c1.L.length c1.lc)).setCell ⟨W.heap.size, 3, none⟩ (.slice c1.xa c1.X.length c1.xc)).setCell ⟨W.heap.size, 4, none⟩ (.int .i64 c1.k)) from ⟨(((((RB.set 0 (.slice c1.ua c1.U.length c1.uc)).set 1 (.slice c1.sa c1.S.length c1.sc)).set 2 (.slice c1.la c1.L.length c1.lc)).set 3 (.slice c1.xa c1.X.length c1.xc)).set 4 (.int .i64 c1.k)), (Cu.setCell (Cu.setCell (Cu.setCell (Cu.setCell (Cu.setCell CC hpW (Nat.le_refl _) 0 (.slice c1.ua c1.U.length c1.uc)) hpW (Nat.le_refl _) 1 (.slice c1.sa c1.S.length c1.sc)) hpW (Nat.le_refl _) 2 (.slice c1.la c1.L.length c1.lc)) hpW (Nat.le_refl _) 3 (.slice c1.xa c1.X.length c1.xc)) hpW (Nat.le_refl _) 4 (.int .i64 c1.k)), OwnC.le (((((OC.set (a := ⟨W.heap.size, 0, none⟩) (by dsimp only; omega) (.slice c1.ua c1.U.length c1.uc)).set (a := ⟨W.heap.size, 1, none⟩) (by dsimp only; omega) (.slice c1.sa c1.S.length c1.sc)).set (a := ⟨W.heap.size, 2, none⟩) (by dsimp only; omega) (.slice c1.la c1.L.length c1.lc)).set (a := ⟨W.heap.size, 3, none⟩) (by dsimp only; omega) (.slice c1.xa c1.X.length c1.xc)).set (a := ⟨W.heap.size, 4, none⟩) (by dsimp only; omega) (.int .i64 c1.k)) (by omega)⟩)
          have NQ : ¬ q = W.heap.size := by omega
          have NR : ¬ W.heap.size = q := by omega
          clear RB QB CC OC
          go_wp2
          have G := F.out
          exact bodyPost_ret (res_c rfl _ _ W.heap.size _ _ _ _ _ rfl (G.1.at 0 rfl) (G.1.at 1 rfl) (G.1.at 2 rfl) (G.1.at 3 rfl) (G.1.at 4 rfl)) rfl ⟨c1, rfl, HLM.out, G.2.2, G.2.1⟩
        · have hK3 : Shut _ := hK
          clear hK
          go_simp
          refine (belowW 4 C6.here (by omega) (by omega)).mono ?_
          rintro en w8 ⟨y, rfl, ya, yb, D⟩
          have K8 := K6.draw D.2 (by omega)
          have R8 := R6.only D.2 R6.lt (by omega)
          have C8 := C6.next D
          have e8 := K8.blk.at 3 rfl
          have e8a : (w8.alloc (.cells #[.int .i64 x, .int .i64 y] 36)).cell? ⟨q, 3, none⟩ = some (.slice c.xa c.X.length c.xc) := (K8.blk.alloc K8.lt _).at 3 rfl
          go_wp2_with fail
          refine hK3.out _ _ ?_
          clear hK3 K
          try simp only [Act.put, List.setIfInBounds_toArray, List.set_cons_zero, List.set_cons_succ]
          refine take_any 6 49 (v := ?_) rfl rfl (by kernel_rfl) (by kernel_rfl) (by kernel_rfl) (fun _ _ _ h => h) (Or.inl ⟨by rfl, ?_⟩) ?_
          rotate_left
          · intro w'; go_simp; try with_reducible rfl
          try simp only [Act.put, List.setIfInBounds_toArray, List.set_cons_zero, List.set_cons_succ]
          refine wpAny_ready (rs := [1, 7]) (by kernel_rfl) (by simp) ?_
          refine AllReady.cons (i := 1) rfl (fun K hK => ?_) (AllReady.cons (i := 7) rfl (fun K hK => ?_) AllReady.nil)
          · go_simp
            refine hK _ _ ?_
            clear hK K
            try simp only [Act.put, List.setIfInBounds_toArray, List.set_cons_zero, List.set_cons_succ]
            refine wpAny_ready (rs := [7]) (by kernel_rfl) (by simp) ?_
            refine AllReady.cons (i := 7) rfl (fun K hK => ?_) AllReady.nil
            go_simp
            refine hK _ _ ?_
            clear hK K
            try simp only [Act.put, List.setIfInBounds_toArray, List.set_cons_zero, List.set_cons_succ]
            refine wpAny_ready (rs := [8]) (by kernel_rfl) (by simp) ?_
            refine AllReady.cons (i := 8) rfl (fun K hK => ?_) AllReady.nil
            refine step_own_at 51 rfl rfl _ _ 28 rfl B 36 j0 (.agg #[.int .i64 0, .int .i64 0]) 2 16 Try.underlying28 hj hj0 hj1 hj2 rfl (by decide) (.slice c.xa c.X.length c.xc) c.X.length (prV c.X) rfl (World.ownsRow.alloc (K8.own.own 3 (by omega)) _) ⟨w8.heap.size, 0, none⟩ 1 1 [.int .i64 x, .int .i64 y] rfl rfl (cell_two_new _ _ _ _) (by intro u hu; simp at hu; rcases hu with rfl | rfl <;> rfl) (by have := hl.out; unfold maxLen; omega) (by have := hl.out; omega) (by have := K8.lt; have := K8.bq; simp; omega) ?_
            intro v' w9 hown hgrow hloc
            refine hK _ _ ?_
            clear hK K
            rw [prV_snoc] at hown
            have hl9 : c.X.length + 1 = (c.X ++ [(x, y)]).length := by simp
            obtain ⟨n2, c2, hv9, _⟩ := own_shape hown
            rw [hl9] at hv9 hown
            subst hv9
            have hyl : Hid ((c.X ++ [(x, y)]).length = c.X.length + 1) := by show _ = _; simp
            generalize c.X ++ [(x, y)] = Y at hown hyl hloc ⊢
            clear hl9
            obtain ⟨KB, hb9, KT2⟩ := (K8.alloc (.cells #[.int .i64 x, .int .i64 y] 36)).app (d := (⟨c.ua, c.uc, c.U, c.sa, c.sc, c.S, c.la, c.lc, c.L, n2, c2, Y, c.k⟩ : Cf)) (i := 3) (by omega) (elseX c n2 c2 Y) hgrow hown (hloc.imp id fun h => ⟨_, h, by simp⟩) rfl
            replace KT2 : KD B q (⟨c.ua, c.uc, c.U, c.sa, c.sc, c.S, c.la, c.lc, c.L, n2, c2, Y, c.k⟩ : Cf) (w9.setCell ⟨q, 3, none⟩ (.slice n2 Y.length c2)) := KT2
            have hb8 : Below B w8 w9 := ((Below.refl B w8).alloc (by have := K8.lt; have := HB2.out; omega) (.cells #[.int .i64 x, .int .i64 y] 36)).trans hb9
            have k6 := KB.at 3 rfl
            have f6 := KB.fz 3 rfl
            have RN := R8.lower hb8 (by omega)
            have CN := Draw.Cu.down C8 hb8 (by omega) (by omega)
            clear hloc hown hgrow K8 R8 C8 C e8 e8a K6 R6 C6 D e6
            try simp only [Act.put, List.setIfInBounds_toArray, List.set_cons_zero, List.set_cons_succ]
            refine take_any 9 52 (v := ?_) rfl rfl (by kernel_rfl) (by kernel_rfl) (by kernel_rfl) (fun _ _ _ h => h) (Or.inl ⟨by rfl, ?_⟩) ?_
            rotate_left
            · intro w'; go_simp; try with_reducible rfl
            try simp only [Act.put, List.setIfInBounds_toArray, List.set_cons_zero, List.set_cons_succ]
            refine wpAny_ready (rs := [10]) (by kernel_rfl) (by simp) ?_
            refine AllReady.cons (i := 10) rfl (fun K hK => ?_) AllReady.nil
            go_simp
            refine hK _ _ ?_
            clear hK K
            try simp only [Act.put, List.setIfInBounds_toArray, List.set_cons_zero, List.set_cons_succ]
            refine wpAny_done (by kernel_rfl) ?_ _
            have RT := RN.far (g' := q) (by omega) 3 (.slice n2 Y.length c2)
            have CT := Draw.Cu.set (q := q) CN (by omega) (by omega) 3 (.slice n2 Y.length c2)
            clear KB hb9 hb8 RN CN k6 f6
            generalize w9.setCell ⟨q, 3, none⟩ (.slice n2 Y.length c2) = w10 at KT2 RT CT ⊢
            clear KK RB CC
            have HLM : Hid (Lim (⟨c.ua, c.uc, c.U, c.sa, c.sc, c.S, c.la, c.lc, c.L, n2, c2, Y, c.k⟩ : Cf)) := ⟨HL.out.u, HL.out.s, HL.out.l, by have := hyl.out; have := ln.x; show Y.length ≤ 20; omega⟩
            clear HL ln
            have KK := KT2
            have RB := RT
            have CC := CT
            generalize (⟨c.ua, c.uc, c.U, c.sa, c.sc, c.S, c.la, c.lc, c.L, n2, c2, Y, c.k⟩ : Cf) = c1 at KK HLM
            clear KT2 RT CT
            have QB := KK.blk
            have OC := KK.own
            clear KK
            have r0 := RB.at 0 rfl
            have r1 := RB.at 1 rfl
            have r2 := RB.at 2 rfl
            have r3 := RB.at 3 rfl
            have r4 := RB.at 4 rfl
            have g0 := RB.fz 0 rfl
            have g1 := RB.fz 1 rfl
            have g2 := RB.fz 2 rfl
            have g3 := RB.fz 3 rfl
            have g4 := RB.fz 4 rfl
            have q0 := QB.at 0 rfl
            have q1 := QB.at 1 rfl
            have q2 := QB.at 2 rfl
            have q3 := QB.at 3 rfl
            have q4 := QB.at 4 rfl
            have F := show Hid _ from (show Blk W.heap.size c1.cells ((((((w10).setCell ⟨W.heap.size, 0, none⟩ (.slice c1.ua c1.U.length c1.uc)).setCell ⟨W.heap.size, 1, none⟩ (.slice c1.sa c1.S.length c1.sc)).setCell ⟨W.heap.size, 2, none⟩ (.slice c1.la c1.L.length c1.lc)).setCell ⟨W.heap.size, 3, none⟩ (.slice c1.xa c1.X.length c1.xc)).setCell ⟨W.heap.size, 4, none⟩ (.int .i64 c1.k)) ∧ Cu p ad len cap zs W ((((((w10).setCell ⟨W.heap.size, 0, none⟩ (.slice c1.ua c1.U.length c1.uc)).setCell ⟨W.heap.size, 1, none⟩ (.slice c1.sa c1.S.length c1.sc)).setCell ⟨W.heap.size, 2, none⟩ (.slice c1.la c1.L.length c1.lc)).setCell ⟨W.heap.size, 3, none⟩ (.slice c1.xa c1.X.length c1.xc)).setCell ⟨W.heap.size, 4, none⟩ (.int .i64 c1.k)) ∧ OwnC W.heap.size c1 ((((((w10).setCell ⟨W.heap.size, 0, none⟩ (.slice c1.ua c1.U.length c1.uc)).setCell ⟨W.heap.size, 1, none⟩ (.slice c1.sa c1.S.length c1.sc)).setCell ⟨W.heap.size, 2, none⟩ (.slice c1.la c1.L.length c1.lc)).setCell ⟨W.heap.size, 3, none⟩ (.slice c1.xa c1.X.length c1.xc)).setCell ⟨W.heap.size, 4, none⟩ (.int .i64 c1.k)) from ⟨(((((RB.set 0 (.slice c1.ua c1.U.length c1.uc)).set 1 (.slice c1.sa c1.S.length c1.sc)).set 2 (.slice c1.la c1.L.length c1.lc)).set 3 (.slice c1.xa c1.X.length c1.xc)).set 4 (.int .i64 c1.k)), (Cu.setCell (Cu.setCell (Cu.setCell (Cu.setCell (Cu.setCell CC hpW (Nat.le_refl _) 0 (.slice c1.ua c1.U.length c1.uc)) hpW (Nat.le_refl _) 1 (.slice c1.sa c1.S.length c1.sc)) hpW (Nat.le_refl _) 2 (.slice c1.la c1.L.length c1.lc)) hpW (Nat.le_refl _) 3 (.slice c1.xa c1.X.length c1.xc)) hpW (Nat.le_refl _) 4 (.int .i64 c1.k)), OwnC.le (((((OC.set (a := ⟨W.heap.size, 0, none⟩) (by dsimp only; omega) (.slice c1.ua c1.U.length c1.uc)).set (a := ⟨W.heap.size, 1, none⟩) (by dsimp only; omega) (.slice c1.sa c1.S.length c1.sc)).set (a := ⟨W.heap.size, 2, none⟩) (by dsimp only; omega) (.slice c1.la c1.L.length c1.lc)).set (a := ⟨W.heap.size, 3, none⟩) (by dsimp only; omega) (.slice c1.xa c1.X.length c1.xc)).set (a := ⟨W.heap.size, 4, none⟩) (by dsimp only; omega) (.int .i64 c1.k)) (by omega)⟩)
            have NQ : ¬ q = W.heap.size := by omega
            have NR : ¬ W.heap.size = q := by omega
            clear RB QB CC OC
            go_wp2
            have G := F.out
            exact bodyPost_ret (res_c rfl _ _ W.heap.size _ _ _ _ _ rfl (G.1.at 0 rfl) (G.1.at 1 rfl) (G.1.at 2 rfl) (G.1.at 3 rfl) (G.1.at 4 rfl)) rfl ⟨c1, rfl, HLM.out, G.2.2, G.2.1⟩
          · go_simp
            refine hK _ _ ?_
            clear hK K
            try simp only [Act.put, List.setIfInBounds_toArray, List.set_cons_zero, List.set_cons_succ]
            refine wpAny_ready (rs := [1]) (by kernel_rfl) (by simp) ?_
            refine AllReady.cons (i := 1) rfl (fun K hK => ?_) AllReady.nil
            go_simp
            refine hK _ _ ?_
            clear hK K
            try simp only [Act.put, List.setIfInBounds_toArray, List.set_cons_zero, List.set_cons_succ]
            refine wpAny_ready (rs := [8]) (by kernel_rfl) (by simp) ?_
            refine AllReady.cons (i := 8) rfl (fun K hK => ?_) AllReady.nil
            refine step_own_at 51 rfl rfl _ _ 28 rfl B 36 j0 (.agg #[.int .i64 0, .int .i64 0]) 2 16 Try.underlying28 hj hj0 hj1 hj2 rfl (by decide) (.slice c.xa c.X.length c.xc) c.X.length (prV c.X) rfl (World.ownsRow.alloc (K8.own.own 3 (by omega)) _) ⟨w8.heap.size, 0, none⟩ 1 1 [.int .i64 x, .int .i64 y] rfl rfl (cell_two_new _ _ _ _) (by intro u hu; simp at hu; rcases hu with rfl | rfl <;> rfl) (by have := hl.out; unfold maxLen; omega) (by have := hl.out; omega) (by have := K8.lt; have := K8.bq; simp; omega) ?_
            intro v' w9 hown hgrow hloc
            refine hK _ _ ?_
            clear hK K
            rw [prV_snoc] at hown
            have hl9 : c.X.length + 1 = (c.X ++ [(x, y)]).length := by simp
            obtain ⟨n2, c2, hv9, _⟩ := own_shape hown
            rw [hl9] at hv9 hown
            subst hv9
            have hyl : Hid ((c.X ++ [(x, y)]).length = c.X.length + 1) := by show _ = _; simp
            generalize c.X ++ [(x, y)] = Y at hown hyl hloc ⊢
            clear hl9
            obtain ⟨KB, hb9, KT2⟩ := (K8.alloc (.cells #[.int .i64 x, .int .i64 y] 36)).app (d := (⟨c.ua, c.uc, c.U, c.sa, c.sc, c.S, c.la, c.lc, c.L, n2, c2, Y, c.k⟩ : Cf)) (i := 3) (by omega) (elseX c n2 c2 Y) hgrow hown (hloc.imp id fun h => ⟨_, h, by simp⟩) rfl
            replace KT2 : KD B q (⟨c.ua, c.uc, c.U, c.sa, c.sc, c.S, c.la, c.lc, c.L, n2, c2, Y, c.k⟩ : Cf) (w9.setCell ⟨q, 3, none⟩ (.slice n2 Y.length c2)) := KT2
            have hb8 : Below B w8 w9 := ((Below.refl B w8).alloc (by have := K8.lt; have := HB2.out; omega) (.cells #[.int .i64 x, .int .i64 y] 36)).trans hb9
            have k6 := KB.at 3 rfl
            have f6 := KB.fz 3 rfl
            have RN := R8.lower hb8 (by omega)
            have CN := Draw.Cu.down C8 hb8 (by omega) (by omega)
            clear hloc hown hgrow K8 R8 C8 C e8 e8a K6 R6 C6 D e6
            try simp only [Act.put, List.setIfInBounds_toArray, List.set_cons_zero, List.set_cons_succ]
            refine take_any 9 52 (v := ?_) rfl rfl (by kernel_rfl) (by kernel_rfl) (by kernel_rfl) (fun _ _ _ h => h) (Or.inl ⟨by rfl, ?_⟩) ?_
            rotate_left
            · intro w'; go_simp; try with_reducible rfl
            try simp only [Act.put, List.setIfInBounds_toArray, List.set_cons_zero, List.set_cons_succ]
            refine wpAny_ready (rs := [10]) (by kernel_rfl) (by simp) ?_
            refine AllReady.cons (i := 10) rfl (fun K hK => ?_) AllReady.nil
            go_simp
            refine hK _ _ ?_
            clear hK K
            try simp only [Act.put, List.setIfInBounds_toArray, List.set_cons_zero, List.set_cons_succ]
            refine wpAny_done (by kernel_rfl) ?_ _
            have RT := RN.far (g' := q) (by omega) 3 (.slice n2 Y.length c2)
            have CT := Draw.Cu.set (q := q) CN (by omega) (by omega) 3 (.slice n2 Y.length c2)
            clear KB hb9 hb8 RN CN k6 f6
            generalize w9.setCell ⟨q, 3, none⟩ (.slice n2 Y.length c2) = w10 at KT2 RT CT ⊢
            clear KK RB CC
            have HLM : Hid (Lim (⟨c.ua, c.uc, c.U, c.sa, c.sc, c.S, c.la, c.lc, c.L, n2, c2, Y, c.k⟩ : Cf)) := ⟨HL.out.u, HL.out.s, HL.out.l, by have := hyl.out; have := ln.x; show Y.length ≤ 20; omega⟩
            clear HL ln
            have KK := KT2
            have RB := RT
            have CC := CT
            generalize (⟨c.ua, c.uc, c.U, c.sa, c.sc, c.S, c.la, c.lc, c.L, n2, c2, Y, c.k⟩ : Cf) = c1 at KK HLM
            clear KT2 RT CT
            have QB := KK.blk
            have OC := KK.own
            clear KK
            have r0 := RB.at 0 rfl
            have r1 := RB.at 1 rfl
            have r2 := RB.at 2 rfl
            have r3 := RB.at 3 rfl
            have r4 := RB.at 4 rfl
            have g0 := RB.fz 0 rfl
            have g1 := RB.fz 1 rfl
            have g2 := RB.fz 2 rfl
            have g3 := RB.fz 3 rfl
            have g4 := RB.fz 4 rfl
            have q0 := QB.at 0 rfl
            have q1 := QB.at 1 rfl
            have q2 := QB.at 2 rfl
            have q3 := QB.at 3 rfl
            have q4 := QB.at 4 rfl
            have F := show Hid _ from (show Blk W.heap.size c1.cells ((((((w10).setCell ⟨W.heap.size, 0, none⟩ (.slice c1.ua c1.U.length c1.uc)).setCell ⟨W.heap.size, 1, none⟩ (.slice c1.sa c1.S.length c1.sc)).setCell ⟨W.heap.size, 2, none⟩ (.slice c1.la c1.L.length c1.lc)).setCell ⟨W.heap.size, 3, none⟩ (.slice c1.xa c1.X.length c1.xc)).setCell ⟨W.heap.size, 4, none⟩ (.int .i64 c1.k)) ∧ Cu p ad len cap zs W ((((((w10).setCell ⟨W.heap.size, 0, none⟩ (.slice c1.ua c1.U.length c1.uc)).setCell ⟨W.heap.size, 1, none⟩ (.slice c1.sa c1.S.length c1.sc)).setCell ⟨W.heap.size, 2, none⟩ (.slice c1.la c1.L.length c1.lc)).setCell ⟨W.heap.size, 3, none⟩ (.slice c1.xa c1.X.length c1.xc)).setCell ⟨W.heap.size, 4, none⟩ (.int .i64 c1.k)) ∧ OwnC W.heap.size c1 ((((((w10).setCell ⟨W.heap.size, 0, none⟩ (.slice c1.ua c1.U.length c1.uc)).setCell ⟨W.heap.size, 1, none⟩ (.slice c1.sa c1.S.length c1.sc)).setCell ⟨W.heap.size, 2, none⟩ (.slice c1.la c1.L.length c1.lc)).setCell ⟨W.heap.size, 3, none⟩ (.slice c1.xa c1.X.length c1.xc)).setCell ⟨W.heap.size, 4, none⟩ (.int .i64 c1.k)) from ⟨(((((RB.set 0 (.slice c1.ua c1.U.length c1.uc)).set 1 (.slice c1.sa c1.S.length c1.sc)).set 2 (.slice c1.la c1.L.length c1.lc)).set 3 (.slice c1.xa c1.X.length c1.xc)).set 4 (.int .i64 c1.k)), (Cu.setCell (Cu.setCell (Cu.setCell (Cu.setCell (Cu.setCell CC hpW (Nat.le_refl _) 0 (.slice c1.ua c1.U.length c1.uc)) hpW (Nat.le_refl _) 1 (.slice c1.sa c1.S.length c1.sc)) hpW (Nat.le_refl _) 2 (.slice c1.la c1.L.length c1.lc)) hpW (Nat.le_refl _) 3 (.slice c1.xa c1.X.length c1.xc)) hpW (Nat.le_refl _) 4 (.int .i64 c1.k)), OwnC.le (((((OC.set (a := ⟨W.heap.size, 0, none⟩) (by dsimp only; omega) (.slice c1.ua c1.U.length c1.uc)).set (a := ⟨W.heap.size, 1, none⟩) (by dsimp only; omega) (.slice c1.sa c1.S.length c1.sc)).set (a := ⟨W.heap.size, 2, none⟩) (by dsimp only; omega) (.slice c1.la c1.L.length c1.lc)).set (a := ⟨W.heap.size, 3, none⟩) (by dsimp only; omega) (.slice c1.xa c1.X.length c1.xc)).set (a := ⟨W.heap.size, 4, none⟩) (by dsimp only; omega) (.int .i64 c1.k)) (by omega)⟩)
            have NQ : ¬ q = W.heap.size := by omega
            have NR : ¬ W.heap.size = q := by omega
            clear RB QB CC OC
            go_wp2
            have G := F.out
            exact bodyPost_ret (res_c rfl _ _ W.heap.size _ _ _ _ _ rfl (G.1.at 0 rfl) (G.1.at 1 rfl) (G.1.at 2 rfl) (G.1.at 3 rfl) (G.1.at 4 rfl)) rfl ⟨c1, rfl, HLM.out, G.2.2, G.2.1⟩
    · obtain ⟨w21, hw21⟩ : ∃ v, w5.alloc (.cells #[.int .i64 (-1), .int .i64 20, .int .i64 21] 3) = v := ⟨_, rfl⟩
      have RBN := RB.alloc RB.lt (.cells #[.int .i64 (-1), .int .i64 20, .int .i64 21] 3)
      have KKN := KK.alloc (.cells #[.int .i64 (-1), .int .i64 20, .int .i64 21] 3)
      have CCN := CC.alloc (.cells #[.int .i64 (-1), .int .i64 20, .int .i64 21] 3)
      have pg : p < w5.heap.size := CC.lt
      have rg : W.heap.size < w5.heap.size := RB.lt
      have kg : q < w5.heap.size := KK.lt
      have LB : Blk w5.heap.size [.int .i64 (-1), .int .i64 20, .int .i64 21] w21 := by rw [← hw21]; exact Blk.new _ _ _
      rw [hw21] at RBN KKN CCN
      clear RB KK CC
      have RB := RBN
      have KK := KKN
      have CC := CCN
      clear RBN KKN CCN
      have HX := pickI w5.heap.size 3 [-1, 20, 21] CC.here (by omega) (by omega) pg LB.lt (by decide) LB (by decide)
      go_wp2_with fail
      try rw [hw21]
      refine HX.mono ?_
      clear HX hw21
      rintro en w22 ⟨y, rfl, yi, C⟩
      have RBN := RB.only C.2 RB.lt (by omega)
      have KKN := KK.draw C.2 (by omega)
      have CCN := CC.next C
      clear RB KK CC
      have RB := RBN
      have KK := KKN
      have CC := CCN
      clear RBN KKN CCN
      clear C
      clear LB pg rg kg
      have uq := KK.blk.at 4 rfl
      have vq := KK.blk.fz 4 rfl
      obtain ⟨w10, hw10⟩ : ∃ v, w22.setCell ⟨q, 4, none⟩ (.int .i64 y) = v := ⟨_, rfl⟩
      have KT2 : KD B q (⟨c.ua, c.uc, c.U, c.sa, c.sc, c.S, c.la, c.lc, c.L, c.xa, c.xc, c.X, y⟩ : Cf) w10 := by rw [← hw10]; exact KK.skew y
      have RT : Blk W.heap.size [.slice none 0 0, .slice none 0 0, .slice none 0 0, .slice none 0 0, .int .i64 0] w10 := by rw [← hw10]; exact RB.far (by omega) 4 (.int .i64 y)
      have CT : Cu p ad len cap zs W w10 := by rw [← hw10]; exact Cu.setCell CC hpW (by omega) 4 (.int .i64 y)
      have HLM : Hid (Lim (⟨c.ua, c.uc, c.U, c.sa, c.sc, c.S, c.la, c.lc, c.L, c.xa, c.xc, c.X, y⟩ : Cf)) := ⟨HL.out.u, HL.out.s, HL.out.l, HL.out.x⟩
      clear HL ln KK RB CC
      have KK := KT2
      have RB := RT
      have CC := CT
      generalize (⟨c.ua, c.uc, c.U, c.sa, c.sc, c.S, c.la, c.lc, c.L, c.xa, c.xc, c.X, y⟩ : Cf) = c1 at KK HLM
      clear KT2 RT CT
      have QB := KK.blk
      have OC := KK.own
      clear KK
      have r0 := RB.at 0 rfl
      have r1 := RB.at 1 rfl
      have r2 := RB.at 2 rfl
      have r3 := RB.at 3 rfl
      have r4 := RB.at 4 rfl
      have g0 := RB.fz 0 rfl
      have g1 := RB.fz 1 rfl
      have g2 := RB.fz 2 rfl
      have g3 := RB.fz 3 rfl
      have g4 := RB.fz 4 rfl
      have q0 := QB.at 0 rfl
      have q1 := QB.at 1 rfl
      have q2 := QB.at 2 rfl
      have q3 := QB.at 3 rfl
      have q4 := QB.at 4 rfl
      have F := show Hid _ from (show Blk W.heap.size c1.cells ((((((w10).setCell ⟨W.heap.size, 0, none⟩ (.slice c1.ua c1.U.length c1.uc)).setCell ⟨W.heap.size, 1, none⟩ (.slice c1.sa c1.S.length c1.sc)).setCell ⟨W.heap.size, 2, none⟩ (.slice c1.la c1.L.length c1.lc)).setCell ⟨W.heap.size, 3, none⟩ (.slice c1.xa c1.X.length c1.xc)).setCell ⟨W.heap.size, 4, none⟩ (.int .i64 c1.k)) ∧ Cu p ad len cap zs W ((((((w10).setCell ⟨W.heap.size, 0, none⟩ (.slice c1.ua c1.U.length c1.uc)).setCell ⟨W.heap.size, 1, none⟩ (.slice c1.sa c1.S.length c1.sc)).setCell ⟨W.heap.size, 2, none⟩ (.slice c1.la c1.L.length c1.lc)).setCell ⟨W.heap.size, 3, none⟩ (.slice c1.xa c1.X.length c1.xc)).setCell ⟨W.heap.size, 4, none⟩ (.int .i64 c1.k)) ∧ OwnC W.heap.size c1 ((((((w10).setCell ⟨W.heap.size, 0, none⟩ (.slice c1.ua c1.U.length c1.uc)).setCell ⟨W.heap.size, 1, none⟩ (.slice c1.sa c1.S.length c1.sc)).setCell ⟨W.heap.size, 2, none⟩ (.slice c1.la c1.L.length c1.lc)).setCell ⟨W.heap.size, 3, none⟩ (.slice c1.xa c1.X.length c1.xc)).setCell ⟨W.heap.size, 4, none⟩ (.int .i64 c1.k)) from ⟨(((((RB.set 0 (.slice c1.ua c1.U.length c1.uc)).set 1 (.slice c1.sa c1.S.length c1.sc)).set 2 (.slice c1.la c1.L.length c1.lc)).set 3 (.slice c1.xa c1.X.length c1.xc)).set 4 (.int .i64 c1.k)), (Cu.setCell (Cu.setCell (Cu.setCell (Cu.setCell (Cu.setCell CC hpW (Nat.le_refl _) 0 (.slice c1.ua c1.U.length c1.uc)) hpW (Nat.le_refl _) 1 (.slice c1.sa c1.S.length c1.sc)) hpW (Nat.le_refl _) 2 (.slice c1.la c1.L.length c1.lc)) hpW (Nat.le_refl _) 3 (.slice c1.xa c1.X.length c1.xc)) hpW (Nat.le_refl _) 4 (.int .i64 c1.k)), OwnC.le (((((OC.set (a := ⟨W.heap.size, 0, none⟩) (by dsimp only; omega) (.slice c1.ua c1.U.length c1.uc)).set (a := ⟨W.heap.size, 1, none⟩) (by dsimp only; omega) (.slice c1.sa c1.S.length c1.sc)).set (a := ⟨W.heap.size, 2, none⟩) (by dsimp only; omega) (.slice c1.la c1.L.length c1.lc)).set (a := ⟨W.heap.size, 3, none⟩) (by dsimp only; omega) (.slice c1.xa c1.X.length c1.xc)).set (a := ⟨W.heap.size, 4, none⟩) (by dsimp only; omega) (.int .i64 c1.k)) (by omega)⟩)
      have NQ : ¬ q = W.heap.size := by omega
      have NR : ¬ W.heap.size = q := by omega
      clear RB QB CC OC
      go_wp2
      have G := F.out
      exact bodyPost_ret (res_c rfl _ _ W.heap.size _ _ _ _ _ rfl (G.1.at 0 rfl) (G.1.at 1 rfl) (G.1.at 2 rfl) (G.1.at 3 rfl) (G.1.at 4 rfl)) rfl ⟨c1, rfl, HLM.out, G.2.2, G.2.1⟩
end Go.Proofs.Ytgmbgginddfnmaa
