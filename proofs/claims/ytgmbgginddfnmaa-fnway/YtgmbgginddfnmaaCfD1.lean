/- A right Config, as the laws draw it. -/
import Derived.Test.YtgmbgginddfnmaaCfD0
set_option linter.unusedVariables false
namespace Go.Proofs.Ytgmbgginddfnmaa
open Go Go.RowKit Go.Joins Own Draw

theorem cell_two_new (w : World) (x y : Value) (t : TypeId) : ∀ j u, [x, y][j]? = some u → (w.alloc (.cells #[x, y] t)).cell? ((⟨w.heap.size, 0, none⟩ : Addr).add j) = some u := by
  intro j u hj
  match j, hj with
  | 0, hj => simp at hj; subst hj; simp [Addr.add]
  | 1, hj => simp at hj; subst hj; simp [Addr.add]
theorem elseU (c : Cf) (n2 : Option Addr) (c2 : Nat) (Y : List Int) : Else 0 c (⟨n2, c2, Y, c.sa, c.sc, c.S, c.la, c.lc, c.L, c.xa, c.xc, c.X, c.k⟩ : Cf) := by
  intro j hj hn
  match j, hj, hn with
  | 0, _, h => exact absurd rfl h
  | 1, _, _ => exact ⟨rfl, rfl, rfl⟩
  | 2, _, _ => exact ⟨rfl, rfl, rfl⟩
  | 3, _, _ => exact ⟨rfl, rfl, rfl⟩
  | _ + 4, h, _ => omega
theorem elseS (c : Cf) (n2 : Option Addr) (c2 : Nat) (Y : List Int) : Else 1 c (⟨c.ua, c.uc, c.U, n2, c2, Y, c.la, c.lc, c.L, c.xa, c.xc, c.X, c.k⟩ : Cf) := by
  intro j hj hn
  match j, hj, hn with
  | 0, _, _ => exact ⟨rfl, rfl, rfl⟩
  | 1, _, h => exact absurd rfl h
  | 2, _, _ => exact ⟨rfl, rfl, rfl⟩
  | 3, _, _ => exact ⟨rfl, rfl, rfl⟩
  | _ + 4, h, _ => omega
theorem elseL (c : Cf) (n2 : Option Addr) (c2 : Nat) (Y : List (Int × Int)) : Else 2 c (⟨c.ua, c.uc, c.U, c.sa, c.sc, c.S, n2, c2, Y, c.xa, c.xc, c.X, c.k⟩ : Cf) := by
  intro j hj hn
  match j, hj, hn with
  | 0, _, _ => exact ⟨rfl, rfl, rfl⟩
  | 1, _, _ => exact ⟨rfl, rfl, rfl⟩
  | 2, _, h => exact absurd rfl h
  | 3, _, _ => exact ⟨rfl, rfl, rfl⟩
  | _ + 4, h, _ => omega
theorem elseX (c : Cf) (n2 : Option Addr) (c2 : Nat) (Y : List (Int × Int)) : Else 3 c (⟨c.ua, c.uc, c.U, c.sa, c.sc, c.S, c.la, c.lc, c.L, n2, c2, Y, c.k⟩ : Cf) := by
  intro j hj hn
  match j, hj, hn with
  | 0, _, _ => exact ⟨rfl, rfl, rfl⟩
  | 1, _, _ => exact ⟨rfl, rfl, rfl⟩
  | 2, _, _ => exact ⟨rfl, rfl, rfl⟩
  | 3, _, h => exact absurd rfl h
  | _ + 4, h, _ => omega
set_option maxRecDepth 100000 in
set_option maxHeartbeats 25600000 in
theorem configW {p : Nat} {ad : Option Addr} {len cap : Nat} {zs : List Int} {W : World} (hC : Cu p ad len cap zs W W) : Calls Try.prog 55 #[.pointer (some ⟨p, 0, none⟩)] W fun en w' => ∃ c : Cf, en = .returned c.val ∧ Lens c 3 3 9 9 ∧ OwnC W.heap.size c w' ∧ Cu p ad len cap zs W w' := by
  obtain ⟨i0, hi, hz0, hz1, hz2⟩ := info_parts infoInt
  obtain ⟨j0, hj, hj0, hj1, hj2⟩ := info_parts infoPair
  have hpW : p < W.heap.size := hC.lt
  obtain ⟨W1, hW1⟩ : ∃ W1, W.alloc (.cells #[.slice none 0 0, .slice none 0 0, .slice none 0 0, .slice none 0 0, .int .i64 0] 30) = W1 := ⟨_, rfl⟩
  have RB : Blk W.heap.size [.slice none 0 0, .slice none 0 0, .slice none 0 0, .slice none 0 0, .int .i64 0] W1 := by rw [← hW1]; exact Blk.new _ _ _
  have CC : Cu p ad len cap zs W W1 := by rw [← hW1]; exact hC.alloc _
  clear hC
  go_enter Try.func55, Try.ntmps55
  obtain ⟨w2, hw2⟩ : ∃ v, W1.alloc (.cells #[.int .i64 0, .int .i64 2, .int .i64 5, .int .i64 5, .int .i64 20] 3) = v := ⟨_, rfl⟩
  have RBN := RB.alloc RB.lt (.cells #[.int .i64 0, .int .i64 2, .int .i64 5, .int .i64 5, .int .i64 20] 3)
  have CCN := CC.alloc (.cells #[.int .i64 0, .int .i64 2, .int .i64 5, .int .i64 5, .int .i64 20] 3)
  have pg : p < W1.heap.size := CC.lt
  have rg : W.heap.size < W1.heap.size := RB.lt
  have LB : Blk W1.heap.size [.int .i64 0, .int .i64 2, .int .i64 5, .int .i64 5, .int .i64 20] w2 := by rw [← hw2]; exact Blk.new _ _ _
  rw [hw2] at RBN CCN
  clear RB CC
  have RB := RBN
  have CC := CCN
  clear RBN CCN
  have HX := pickI W1.heap.size 5 [0, 2, 5, 5, 20] CC.here (by omega) (by omega) pg LB.lt (by decide) LB (by decide)
  go_wp2_with fail
  try rw [hw2]
  refine HX.mono ?_
  clear HX hw2
  rintro en w3 ⟨k0, rfl, k0i, C⟩
  have RBN := RB.only C.2 RB.lt (by omega)
  have CCN := CC.next C
  clear RB CC
  have RB := RBN
  have CC := CCN
  clear RBN CCN
  clear C
  clear LB pg rg hW1
  obtain ⟨w4, hw4⟩ : ∃ v, w3.alloc (.cells #[.slice none 0 0, .slice none 0 0, .slice none 0 0, .slice none 0 0, .int .i64 k0] 30) = v := ⟨_, rfl⟩
  have RBN := RB.alloc RB.lt (.cells #[.slice none 0 0, .slice none 0 0, .slice none 0 0, .slice none 0 0, .int .i64 k0] 30)
  have CCN := CC.alloc (.cells #[.slice none 0 0, .slice none 0 0, .slice none 0 0, .slice none 0 0, .int .i64 k0] 30)
  have pg : p < w3.heap.size := CC.lt
  have rg : W.heap.size < w3.heap.size := RB.lt
  have LB : Blk w3.heap.size [.slice none 0 0, .slice none 0 0, .slice none 0 0, .slice none 0 0, .int .i64 k0] w4 := by rw [← hw4]; exact Blk.new _ _ _
  rw [hw4] at RBN CCN
  clear RB CC
  have RB := RBN
  have CC := CCN
  clear RBN CCN
  have QB := LB
  clear LB
  obtain ⟨q, hq⟩ : ∃ q, w3.heap.size = q := ⟨_, rfl⟩
  rw [hq] at QB pg rg
  have KK : KC q (⟨none, 0, [], none, 0, [], none, 0, [], none, 0, [], k0⟩ : Cf) w4 := ⟨QB, ⟨fun i hi => (match i, hi with | 0, _ => World.ownsRow_nil _ _ _ _ | 1, _ => World.ownsRow_nil _ _ _ _ | 2, _ => World.ownsRow_nil _ _ _ _ | 3, _ => World.ownsRow_nil _ _ _ _ | _ + 4, h => by omega), fun i j hi hj hn k hk => (match i, hi, hk with | 0, _, hk => by cases hk | 1, _, hk => by cases hk | 2, _, hk => by cases hk | 3, _, hk => by cases hk | _ + 4, h, _ => by omega)⟩⟩
  have HL0 : Lens (⟨none, 0, [], none, 0, [], none, 0, [], none, 0, [], k0⟩ : Cf) 0 0 0 0 := ⟨rfl, rfl, Nat.le_refl _, Nat.le_refl _⟩
  clear QB
  go_wp2
  try rw [hw4]
  try rw [hq]
  clear hq
  go_loopw [4] (fun i wr => ∃ (m : Nat) (c : Cf), i = .int .i64 (m : Int) ∧ m ≤ 3 ∧ Lens c m 0 0 0 ∧ KC q c wr ∧ Blk W.heap.size [.slice none 0 0, .slice none 0 0, .slice none 0 0, .slice none 0 0, .int .i64 0] wr ∧ Cu p ad len cap zs W wr) (fun i _ => 3 - (intOf i).toNat)
  case atStart => exact ⟨0, (⟨none, 0, [], none, 0, [], none, 0, [], none, 0, [], k0⟩ : Cf), rfl, by omega, HL0, by first | exact KK | (rw [hw4]; exact KK), by first | exact RB | (rw [hw4]; exact RB), by first | exact CC | (rw [hw4]; exact CC)⟩
  case round =>
    clear KK RB CC HL0 hw4
    obtain ⟨m, c, rfl, hm, ln, KK, RB, CC⟩ := hrel
    by_cases h0 : m < 3
    · have hl : Hid (c.U.length ≤ 3) := by show c.U.length ≤ 3; have := ln.u; omega
      have m2 : (m : Int) < 3 := by omega
      have e1 := KK.blk.at 0 rfl
      have e2 := KK.drew.blk.at 0 rfl
      go_wp2_with fail
      refine wp_region_any (by kernel_rfl) ?_
      show wpAny _ _ _ _ _ _ _ wr.drew
      refine take_any 0 18 (v := ?_) rfl rfl (by kernel_rfl) (by kernel_rfl) (by kernel_rfl) (fun _ _ _ h => h) (Or.inl ⟨by rfl, ?_⟩) ?_
      rotate_left
      · intro w'; go_simp; try with_reducible rfl
      try simp only [Act.put, List.setIfInBounds_toArray, List.set_cons_zero, List.set_cons_succ]
      refine take_any 2 20 (v := ?_) rfl rfl (by kernel_rfl) (by kernel_rfl) (by kernel_rfl) (fun _ _ _ h => h) (Or.inl ⟨by rfl, ?_⟩) ?_
      rotate_left
      · intro w'; go_simp; try with_reducible rfl
      try simp only [Act.put, List.setIfInBounds_toArray, List.set_cons_zero, List.set_cons_succ]
      refine wpAny_ready (rs := [1, 3]) (by kernel_rfl) (by simp) ?_
      refine AllReady.cons (i := 1) rfl (fun K hK => ?_) (AllReady.cons (i := 3) rfl (fun K hK => ?_) AllReady.nil)
      · go_simp
        refine hK _ _ ?_
        clear hK K
        try simp only [Act.put, List.setIfInBounds_toArray, List.set_cons_zero, List.set_cons_succ]
        refine wpAny_ready (rs := [3]) (by kernel_rfl) (by simp) ?_
        refine AllReady.cons (i := 3) rfl (fun K hK => ?_) AllReady.nil
        have hK3 : Shut _ := hK
        clear hK
        go_simp
        refine (belowW 3 CC.drew.here (by omega) (by omega)).mono ?_
        rintro en w8 ⟨x, rfl, xa, xb, C⟩
        have K8 := KK.drew.draw C.2 (by omega)
        have R8 := RB.drew.only C.2 RB.drew.lt (by omega)
        have C8 := CC.drew.next C
        have e8 := K8.blk.at 0 rfl
        have e8a : (w8.alloc (.cells #[.int .i64 x] 3)).cell? ⟨q, 0, none⟩ = some (.slice c.ua c.U.length c.uc) := (K8.blk.alloc K8.lt _).at 0 rfl
        go_wp2_with fail
        refine hK3.out _ _ ?_
        clear hK3 K
        try simp only [Act.put, List.setIfInBounds_toArray, List.set_cons_zero, List.set_cons_succ]
        refine wpAny_ready (rs := [4]) (by kernel_rfl) (by simp) ?_
        refine AllReady.cons (i := 4) rfl (fun K hK => ?_) AllReady.nil
        go_simp
        refine hK _ _ ?_
        clear hK K
        try simp only [Act.put, List.setIfInBounds_toArray, List.set_cons_zero, List.set_cons_succ]
        refine wpAny_ready (rs := [5]) (by kernel_rfl) (by simp) ?_
        refine AllReady.cons (i := 5) rfl (fun K hK => ?_) AllReady.nil
        refine step_own_at 23 rfl rfl _ _ 24 rfl (q + 1) 3 i0 (.int .i64 0) 1 8 Try.underlying24 hi hz0 hz1 hz2 rfl (by decide) (.slice c.ua c.U.length c.uc) c.U.length (intV c.U) rfl (World.ownsRow.alloc (K8.own.own 0 (by omega)) _) ⟨w8.heap.size, 0, none⟩ 1 1 [.int .i64 x] rfl rfl (cell_one_new _ _ _) (by intro u hu; simp at hu; subst hu; rfl) (by have := hl.out; unfold maxLen; omega) (by have := hl.out; omega) (by have := K8.lt; simp; omega) ?_
        intro v' w9 hown hgrow hloc
        refine hK _ _ ?_
        clear hK K
        rw [intV_snoc] at hown
        have hl9 : c.U.length + 1 = (c.U ++ [x]).length := by simp
        obtain ⟨n2, c2, hv9, _⟩ := own_shape hown
        rw [hl9] at hv9 hown
        subst hv9
        have hyl : Hid ((c.U ++ [x]).length = c.U.length + 1) := by show _ = _; simp
        generalize c.U ++ [x] = Y at hown hyl hloc ⊢
        clear hl9
        obtain ⟨KB, hb9, KT2⟩ := (K8.alloc (.cells #[.int .i64 x] 3)).app (d := (⟨n2, c2, Y, c.sa, c.sc, c.S, c.la, c.lc, c.L, c.xa, c.xc, c.X, c.k⟩ : Cf)) (i := 0) (by omega) (elseU c n2 c2 Y) hgrow hown (hloc.imp id fun h => ⟨_, h, by simp⟩) rfl
        replace KT2 : KC q (⟨n2, c2, Y, c.sa, c.sc, c.S, c.la, c.lc, c.L, c.xa, c.xc, c.X, c.k⟩ : Cf) (w9.setCell ⟨q, 0, none⟩ (.slice n2 Y.length c2)) := KT2
        have hb8 : Below (q + 1) w8 w9 := ((Below.refl (q + 1) w8).alloc (by have := K8.lt; omega) (.cells #[.int .i64 x] 3)).trans hb9
        have k6 := KB.at 0 rfl
        have f6 := KB.fz 0 rfl
        have RN := R8.lower hb8 (by omega)
        have CN := Draw.Cu.down C8 hb8 (by omega) (by omega)
        clear hloc hown hgrow K8 R8 C8 C e8 e8a
        try simp only [Act.put, List.setIfInBounds_toArray, List.set_cons_zero, List.set_cons_succ]
        refine take_any 6 24 (v := ?_) rfl rfl (by kernel_rfl) (by kernel_rfl) (by kernel_rfl) (fun _ _ _ h => h) (Or.inl ⟨by rfl, ?_⟩) ?_
        rotate_left
        · intro w'; go_simp; try with_reducible rfl
        try simp only [Act.put, List.setIfInBounds_toArray, List.set_cons_zero, List.set_cons_succ]
        refine wpAny_ready (rs := [7]) (by kernel_rfl) (by simp) ?_
        refine AllReady.cons (i := 7) rfl (fun K hK => ?_) AllReady.nil
        go_simp
        refine hK _ _ ?_
        clear hK K
        try simp only [Act.put, List.setIfInBounds_toArray, List.set_cons_zero, List.set_cons_succ]
        refine wpAny_done (by kernel_rfl) ?_ _
        have RT := RN.far (g' := q) (by omega) 0 (.slice n2 Y.length c2)
        have CT := Draw.Cu.set (q := q) CN (by omega) (by omega) 0 (.slice n2 Y.length c2)
        clear KB hb9 hb8 RN CN k6 f6
        generalize w9.setCell ⟨q, 0, none⟩ (.slice n2 Y.length c2) = w10 at KT2 RT CT ⊢
        go_wp2
        go_roundw
        case rel =>
          have R : ∃ (m' : Nat) (c' : Cf), Value.int .i64 ((m : Int) + 1) = .int .i64 (m' : Int) ∧ m' ≤ 3 ∧ Lens c' m' 0 0 0 ∧ KC q c' w10 ∧ Blk W.heap.size [.slice none 0 0, .slice none 0 0, .slice none 0 0, .slice none 0 0, .int .i64 0] w10 ∧ Cu p ad len cap zs W w10 := ⟨m + 1, (⟨n2, c2, Y, c.sa, c.sc, c.S, c.la, c.lc, c.L, c.xa, c.xc, c.X, c.k⟩ : Cf), by go_num, by omega, ⟨by have := hyl.out; have := ln.u; show Y.length = _; omega, ln.s, ln.l, ln.x⟩, KT2, RT, CT⟩
          first | exact R | ((repeat apply Exists.intro); exact ⟨R, rfl⟩)
        case measure => first | (simp [intOf]; done) | (simp [intOf]; omega)
      · have hK3 : Shut _ := hK
        clear hK
        go_simp
        refine (belowW 3 CC.drew.here (by omega) (by omega)).mono ?_
        rintro en w8 ⟨x, rfl, xa, xb, C⟩
        have K8 := KK.drew.draw C.2 (by omega)
        have R8 := RB.drew.only C.2 RB.drew.lt (by omega)
        have C8 := CC.drew.next C
        have e8 := K8.blk.at 0 rfl
        have e8a : (w8.alloc (.cells #[.int .i64 x] 3)).cell? ⟨q, 0, none⟩ = some (.slice c.ua c.U.length c.uc) := (K8.blk.alloc K8.lt _).at 0 rfl
        go_wp2_with fail
        refine hK3.out _ _ ?_
        clear hK3 K
        try simp only [Act.put, List.setIfInBounds_toArray, List.set_cons_zero, List.set_cons_succ]
        refine wpAny_ready (rs := [1, 4]) (by kernel_rfl) (by simp) ?_
        refine AllReady.cons (i := 1) rfl (fun K hK => ?_) (AllReady.cons (i := 4) rfl (fun K hK => ?_) AllReady.nil)
        · go_simp
          refine hK _ _ ?_
          clear hK K
          try simp only [Act.put, List.setIfInBounds_toArray, List.set_cons_zero, List.set_cons_succ]
          refine wpAny_ready (rs := [4]) (by kernel_rfl) (by simp) ?_
          refine AllReady.cons (i := 4) rfl (fun K hK => ?_) AllReady.nil
          go_simp
          refine hK _ _ ?_
          clear hK K
          try simp only [Act.put, List.setIfInBounds_toArray, List.set_cons_zero, List.set_cons_succ]
          refine wpAny_ready (rs := [5]) (by kernel_rfl) (by simp) ?_
          refine AllReady.cons (i := 5) rfl (fun K hK => ?_) AllReady.nil
          refine step_own_at 23 rfl rfl _ _ 24 rfl (q + 1) 3 i0 (.int .i64 0) 1 8 Try.underlying24 hi hz0 hz1 hz2 rfl (by decide) (.slice c.ua c.U.length c.uc) c.U.length (intV c.U) rfl (World.ownsRow.alloc (K8.own.own 0 (by omega)) _) ⟨w8.heap.size, 0, none⟩ 1 1 [.int .i64 x] rfl rfl (cell_one_new _ _ _) (by intro u hu; simp at hu; subst hu; rfl) (by have := hl.out; unfold maxLen; omega) (by have := hl.out; omega) (by have := K8.lt; simp; omega) ?_
          intro v' w9 hown hgrow hloc
          refine hK _ _ ?_
          clear hK K
          rw [intV_snoc] at hown
          have hl9 : c.U.length + 1 = (c.U ++ [x]).length := by simp
          obtain ⟨n2, c2, hv9, _⟩ := own_shape hown
          rw [hl9] at hv9 hown
          subst hv9
          have hyl : Hid ((c.U ++ [x]).length = c.U.length + 1) := by show _ = _; simp
          generalize c.U ++ [x] = Y at hown hyl hloc ⊢
          clear hl9
          obtain ⟨KB, hb9, KT2⟩ := (K8.alloc (.cells #[.int .i64 x] 3)).app (d := (⟨n2, c2, Y, c.sa, c.sc, c.S, c.la, c.lc, c.L, c.xa, c.xc, c.X, c.k⟩ : Cf)) (i := 0) (by omega) (elseU c n2 c2 Y) hgrow hown (hloc.imp id fun h => ⟨_, h, by simp⟩) rfl
          replace KT2 : KC q (⟨n2, c2, Y, c.sa, c.sc, c.S, c.la, c.lc, c.L, c.xa, c.xc, c.X, c.k⟩ : Cf) (w9.setCell ⟨q, 0, none⟩ (.slice n2 Y.length c2)) := KT2
          have hb8 : Below (q + 1) w8 w9 := ((Below.refl (q + 1) w8).alloc (by have := K8.lt; omega) (.cells #[.int .i64 x] 3)).trans hb9
          have k6 := KB.at 0 rfl
          have f6 := KB.fz 0 rfl
          have RN := R8.lower hb8 (by omega)
          have CN := Draw.Cu.down C8 hb8 (by omega) (by omega)
          clear hloc hown hgrow K8 R8 C8 C e8 e8a
          try simp only [Act.put, List.setIfInBounds_toArray, List.set_cons_zero, List.set_cons_succ]
          refine take_any 6 24 (v := ?_) rfl rfl (by kernel_rfl) (by kernel_rfl) (by kernel_rfl) (fun _ _ _ h => h) (Or.inl ⟨by rfl, ?_⟩) ?_
          rotate_left
          · intro w'; go_simp; try with_reducible rfl
          try simp only [Act.put, List.setIfInBounds_toArray, List.set_cons_zero, List.set_cons_succ]
          refine wpAny_ready (rs := [7]) (by kernel_rfl) (by simp) ?_
          refine AllReady.cons (i := 7) rfl (fun K hK => ?_) AllReady.nil
          go_simp
          refine hK _ _ ?_
          clear hK K
          try simp only [Act.put, List.setIfInBounds_toArray, List.set_cons_zero, List.set_cons_succ]
          refine wpAny_done (by kernel_rfl) ?_ _
          have RT := RN.far (g' := q) (by omega) 0 (.slice n2 Y.length c2)
          have CT := Draw.Cu.set (q := q) CN (by omega) (by omega) 0 (.slice n2 Y.length c2)
          clear KB hb9 hb8 RN CN k6 f6
          generalize w9.setCell ⟨q, 0, none⟩ (.slice n2 Y.length c2) = w10 at KT2 RT CT ⊢
          go_wp2
          go_roundw
          case rel =>
            have R : ∃ (m' : Nat) (c' : Cf), Value.int .i64 ((m : Int) + 1) = .int .i64 (m' : Int) ∧ m' ≤ 3 ∧ Lens c' m' 0 0 0 ∧ KC q c' w10 ∧ Blk W.heap.size [.slice none 0 0, .slice none 0 0, .slice none 0 0, .slice none 0 0, .int .i64 0] w10 ∧ Cu p ad len cap zs W w10 := ⟨m + 1, (⟨n2, c2, Y, c.sa, c.sc, c.S, c.la, c.lc, c.L, c.xa, c.xc, c.X, c.k⟩ : Cf), by go_num, by omega, ⟨by have := hyl.out; have := ln.u; show Y.length = _; omega, ln.s, ln.l, ln.x⟩, KT2, RT, CT⟩
            first | exact R | ((repeat apply Exists.intro); exact ⟨R, rfl⟩)
          case measure => first | (simp [intOf]; done) | (simp [intOf]; omega)
        · go_simp
          refine hK _ _ ?_
          clear hK K
          try simp only [Act.put, List.setIfInBounds_toArray, List.set_cons_zero, List.set_cons_succ]
          refine wpAny_ready (rs := [1]) (by kernel_rfl) (by simp) ?_
          refine AllReady.cons (i := 1) rfl (fun K hK => ?_) AllReady.nil
          go_simp
          refine hK _ _ ?_
          clear hK K
          try simp only [Act.put, List.setIfInBounds_toArray, List.set_cons_zero, List.set_cons_succ]
          refine wpAny_ready (rs := [5]) (by kernel_rfl) (by simp) ?_
          refine AllReady.cons (i := 5) rfl (fun K hK => ?_) AllReady.nil
          refine step_own_at 23 rfl rfl _ _ 24 rfl (q + 1) 3 i0 (.int .i64 0) 1 8 Try.underlying24 hi hz0 hz1 hz2 rfl (by decide) (.slice c.ua c.U.length c.uc) c.U.length (intV c.U) rfl (World.ownsRow.alloc (K8.own.own 0 (by omega)) _) ⟨w8.heap.size, 0, none⟩ 1 1 [.int .i64 x] rfl rfl (cell_one_new _ _ _) (by intro u hu; simp at hu; subst hu; rfl) (by have := hl.out; unfold maxLen; omega) (by have := hl.out; omega) (by have := K8.lt; simp; omega) ?_
          intro v' w9 hown hgrow hloc
          refine hK _ _ ?_
          clear hK K
          rw [intV_snoc] at hown
          have hl9 : c.U.length + 1 = (c.U ++ [x]).length := by simp
          obtain ⟨n2, c2, hv9, _⟩ := own_shape hown
          rw [hl9] at hv9 hown
          subst hv9
          have hyl : Hid ((c.U ++ [x]).length = c.U.length + 1) := by show _ = _; simp
          generalize c.U ++ [x] = Y at hown hyl hloc ⊢
          clear hl9
          obtain ⟨KB, hb9, KT2⟩ := (K8.alloc (.cells #[.int .i64 x] 3)).app (d := (⟨n2, c2, Y, c.sa, c.sc, c.S, c.la, c.lc, c.L, c.xa, c.xc, c.X, c.k⟩ : Cf)) (i := 0) (by omega) (elseU c n2 c2 Y) hgrow hown (hloc.imp id fun h => ⟨_, h, by simp⟩) rfl
          replace KT2 : KC q (⟨n2, c2, Y, c.sa, c.sc, c.S, c.la, c.lc, c.L, c.xa, c.xc, c.X, c.k⟩ : Cf) (w9.setCell ⟨q, 0, none⟩ (.slice n2 Y.length c2)) := KT2
          have hb8 : Below (q + 1) w8 w9 := ((Below.refl (q + 1) w8).alloc (by have := K8.lt; omega) (.cells #[.int .i64 x] 3)).trans hb9
          have k6 := KB.at 0 rfl
          have f6 := KB.fz 0 rfl
          have RN := R8.lower hb8 (by omega)
          have CN := Draw.Cu.down C8 hb8 (by omega) (by omega)
          clear hloc hown hgrow K8 R8 C8 C e8 e8a
          try simp only [Act.put, List.setIfInBounds_toArray, List.set_cons_zero, List.set_cons_succ]
          refine take_any 6 24 (v := ?_) rfl rfl (by kernel_rfl) (by kernel_rfl) (by kernel_rfl) (fun _ _ _ h => h) (Or.inl ⟨by rfl, ?_⟩) ?_
          rotate_left
          · intro w'; go_simp; try with_reducible rfl
          try simp only [Act.put, List.setIfInBounds_toArray, List.set_cons_zero, List.set_cons_succ]
          refine wpAny_ready (rs := [7]) (by kernel_rfl) (by simp) ?_
          refine AllReady.cons (i := 7) rfl (fun K hK => ?_) AllReady.nil
          go_simp
          refine hK _ _ ?_
          clear hK K
          try simp only [Act.put, List.setIfInBounds_toArray, List.set_cons_zero, List.set_cons_succ]
          refine wpAny_done (by kernel_rfl) ?_ _
          have RT := RN.far (g' := q) (by omega) 0 (.slice n2 Y.length c2)
          have CT := Draw.Cu.set (q := q) CN (by omega) (by omega) 0 (.slice n2 Y.length c2)
          clear KB hb9 hb8 RN CN k6 f6
          generalize w9.setCell ⟨q, 0, none⟩ (.slice n2 Y.length c2) = w10 at KT2 RT CT ⊢
          go_wp2
          go_roundw
          case rel =>
            have R : ∃ (m' : Nat) (c' : Cf), Value.int .i64 ((m : Int) + 1) = .int .i64 (m' : Int) ∧ m' ≤ 3 ∧ Lens c' m' 0 0 0 ∧ KC q c' w10 ∧ Blk W.heap.size [.slice none 0 0, .slice none 0 0, .slice none 0 0, .slice none 0 0, .int .i64 0] w10 ∧ Cu p ad len cap zs W w10 := ⟨m + 1, (⟨n2, c2, Y, c.sa, c.sc, c.S, c.la, c.lc, c.L, c.xa, c.xc, c.X, c.k⟩ : Cf), by go_num, by omega, ⟨by have := hyl.out; have := ln.u; show Y.length = _; omega, ln.s, ln.l, ln.x⟩, KT2, RT, CT⟩
            first | exact R | ((repeat apply Exists.intro); exact ⟨R, rfl⟩)
          case measure => first | (simp [intOf]; done) | (simp [intOf]; omega)
    · obtain rfl : m = 3 := by omega
      go_wp2
      go_loopw [5] (fun i wr => ∃ (m : Nat) (c : Cf), i = .int .i64 (m : Int) ∧ m ≤ 3 ∧ Lens c 3 m 0 0 ∧ KC q c wr ∧ Blk W.heap.size [.slice none 0 0, .slice none 0 0, .slice none 0 0, .slice none 0 0, .int .i64 0] wr ∧ Cu p ad len cap zs W wr) (fun i _ => 3 - (intOf i).toNat)
      case atStart => exact ⟨0, c, rfl, by omega, ln, KK, RB, CC⟩
      case round =>
        clear KK RB CC ln
        obtain ⟨m, c, rfl, hm, ln, KK, RB, CC⟩ := hrel
        by_cases h0 : m < 3
        · have hl : Hid (c.S.length ≤ 3) := by show c.S.length ≤ 3; have := ln.s; omega
          have m2 : (m : Int) < 3 := by omega
          have e1 := KK.blk.at 1 rfl
          have e2 := KK.drew.blk.at 1 rfl
          go_wp2_with fail
          refine wp_region_any (by kernel_rfl) ?_
          show wpAny _ _ _ _ _ _ _ wr.drew
          refine take_any 0 29 (v := ?_) rfl rfl (by kernel_rfl) (by kernel_rfl) (by kernel_rfl) (fun _ _ _ h => h) (Or.inl ⟨by rfl, ?_⟩) ?_
          rotate_left
          · intro w'; go_simp; try with_reducible rfl
          try simp only [Act.put, List.setIfInBounds_toArray, List.set_cons_zero, List.set_cons_succ]
          refine take_any 2 31 (v := ?_) rfl rfl (by kernel_rfl) (by kernel_rfl) (by kernel_rfl) (fun _ _ _ h => h) (Or.inl ⟨by rfl, ?_⟩) ?_
          rotate_left
          · intro w'; go_simp; try with_reducible rfl
          try simp only [Act.put, List.setIfInBounds_toArray, List.set_cons_zero, List.set_cons_succ]
          refine wpAny_ready (rs := [1, 3]) (by kernel_rfl) (by simp) ?_
          refine AllReady.cons (i := 1) rfl (fun K hK => ?_) (AllReady.cons (i := 3) rfl (fun K hK => ?_) AllReady.nil)
          · go_simp
            refine hK _ _ ?_
            clear hK K
            try simp only [Act.put, List.setIfInBounds_toArray, List.set_cons_zero, List.set_cons_succ]
            refine wpAny_ready (rs := [3]) (by kernel_rfl) (by simp) ?_
            refine AllReady.cons (i := 3) rfl (fun K hK => ?_) AllReady.nil
            have hK3 : Shut _ := hK
            clear hK
            go_simp
            refine (belowW 3 CC.drew.here (by omega) (by omega)).mono ?_
            rintro en w8 ⟨x, rfl, xa, xb, C⟩
            have K8 := KK.drew.draw C.2 (by omega)
            have R8 := RB.drew.only C.2 RB.drew.lt (by omega)
            have C8 := CC.drew.next C
            have e8 := K8.blk.at 1 rfl
            have e8a : (w8.alloc (.cells #[.int .i64 x] 3)).cell? ⟨q, 1, none⟩ = some (.slice c.sa c.S.length c.sc) := (K8.blk.alloc K8.lt _).at 1 rfl
            go_wp2_with fail
            refine hK3.out _ _ ?_
            clear hK3 K
            try simp only [Act.put, List.setIfInBounds_toArray, List.set_cons_zero, List.set_cons_succ]
            refine wpAny_ready (rs := [4]) (by kernel_rfl) (by simp) ?_
            refine AllReady.cons (i := 4) rfl (fun K hK => ?_) AllReady.nil
            go_simp
            refine hK _ _ ?_
            clear hK K
            try simp only [Act.put, List.setIfInBounds_toArray, List.set_cons_zero, List.set_cons_succ]
            refine wpAny_ready (rs := [5]) (by kernel_rfl) (by simp) ?_
            refine AllReady.cons (i := 5) rfl (fun K hK => ?_) AllReady.nil
            refine step_own_at 34 rfl rfl _ _ 24 rfl (q + 1) 3 i0 (.int .i64 0) 1 8 Try.underlying24 hi hz0 hz1 hz2 rfl (by decide) (.slice c.sa c.S.length c.sc) c.S.length (intV c.S) rfl (World.ownsRow.alloc (K8.own.own 1 (by omega)) _) ⟨w8.heap.size, 0, none⟩ 1 1 [.int .i64 x] rfl rfl (cell_one_new _ _ _) (by intro u hu; simp at hu; subst hu; rfl) (by have := hl.out; unfold maxLen; omega) (by have := hl.out; omega) (by have := K8.lt; simp; omega) ?_
            intro v' w9 hown hgrow hloc
            refine hK _ _ ?_
            clear hK K
            rw [intV_snoc] at hown
            have hl9 : c.S.length + 1 = (c.S ++ [x]).length := by simp
            obtain ⟨n2, c2, hv9, _⟩ := own_shape hown
            rw [hl9] at hv9 hown
            subst hv9
            have hyl : Hid ((c.S ++ [x]).length = c.S.length + 1) := by show _ = _; simp
            generalize c.S ++ [x] = Y at hown hyl hloc ⊢
            clear hl9
            obtain ⟨KB, hb9, KT2⟩ := (K8.alloc (.cells #[.int .i64 x] 3)).app (d := (⟨c.ua, c.uc, c.U, n2, c2, Y, c.la, c.lc, c.L, c.xa, c.xc, c.X, c.k⟩ : Cf)) (i := 1) (by omega) (elseS c n2 c2 Y) hgrow hown (hloc.imp id fun h => ⟨_, h, by simp⟩) rfl
            replace KT2 : KC q (⟨c.ua, c.uc, c.U, n2, c2, Y, c.la, c.lc, c.L, c.xa, c.xc, c.X, c.k⟩ : Cf) (w9.setCell ⟨q, 1, none⟩ (.slice n2 Y.length c2)) := KT2
            have hb8 : Below (q + 1) w8 w9 := ((Below.refl (q + 1) w8).alloc (by have := K8.lt; omega) (.cells #[.int .i64 x] 3)).trans hb9
            have k6 := KB.at 1 rfl
            have f6 := KB.fz 1 rfl
            have RN := R8.lower hb8 (by omega)
            have CN := Draw.Cu.down C8 hb8 (by omega) (by omega)
            clear hloc hown hgrow K8 R8 C8 C e8 e8a
            try simp only [Act.put, List.setIfInBounds_toArray, List.set_cons_zero, List.set_cons_succ]
            refine take_any 6 35 (v := ?_) rfl rfl (by kernel_rfl) (by kernel_rfl) (by kernel_rfl) (fun _ _ _ h => h) (Or.inl ⟨by rfl, ?_⟩) ?_
            rotate_left
            · intro w'; go_simp; try with_reducible rfl
            try simp only [Act.put, List.setIfInBounds_toArray, List.set_cons_zero, List.set_cons_succ]
            refine wpAny_ready (rs := [7]) (by kernel_rfl) (by simp) ?_
            refine AllReady.cons (i := 7) rfl (fun K hK => ?_) AllReady.nil
            go_simp
            refine hK _ _ ?_
            clear hK K
            try simp only [Act.put, List.setIfInBounds_toArray, List.set_cons_zero, List.set_cons_succ]
            refine wpAny_done (by kernel_rfl) ?_ _
            have RT := RN.far (g' := q) (by omega) 1 (.slice n2 Y.length c2)
            have CT := Draw.Cu.set (q := q) CN (by omega) (by omega) 1 (.slice n2 Y.length c2)
            clear KB hb9 hb8 RN CN k6 f6
            generalize w9.setCell ⟨q, 1, none⟩ (.slice n2 Y.length c2) = w10 at KT2 RT CT ⊢
            go_wp2
            go_roundw
            case rel =>
              have R : ∃ (m' : Nat) (c' : Cf), Value.int .i64 ((m : Int) + 1) = .int .i64 (m' : Int) ∧ m' ≤ 3 ∧ Lens c' 3 m' 0 0 ∧ KC q c' w10 ∧ Blk W.heap.size [.slice none 0 0, .slice none 0 0, .slice none 0 0, .slice none 0 0, .int .i64 0] w10 ∧ Cu p ad len cap zs W w10 := ⟨m + 1, (⟨c.ua, c.uc, c.U, n2, c2, Y, c.la, c.lc, c.L, c.xa, c.xc, c.X, c.k⟩ : Cf), by go_num, by omega, ⟨ln.u, by have := hyl.out; have := ln.s; show Y.length = _; omega, ln.l, ln.x⟩, KT2, RT, CT⟩
              first | exact R | ((repeat apply Exists.intro); exact ⟨R, rfl⟩)
            case measure => first | (simp [intOf]; done) | (simp [intOf]; omega)
          · have hK3 : Shut _ := hK
            clear hK
            go_simp
            refine (belowW 3 CC.drew.here (by omega) (by omega)).mono ?_
            rintro en w8 ⟨x, rfl, xa, xb, C⟩
            have K8 := KK.drew.draw C.2 (by omega)
            have R8 := RB.drew.only C.2 RB.drew.lt (by omega)
            have C8 := CC.drew.next C
            have e8 := K8.blk.at 1 rfl
            have e8a : (w8.alloc (.cells #[.int .i64 x] 3)).cell? ⟨q, 1, none⟩ = some (.slice c.sa c.S.length c.sc) := (K8.blk.alloc K8.lt _).at 1 rfl
            go_wp2_with fail
            refine hK3.out _ _ ?_
            clear hK3 K
            try simp only [Act.put, List.setIfInBounds_toArray, List.set_cons_zero, List.set_cons_succ]
            refine wpAny_ready (rs := [1, 4]) (by kernel_rfl) (by simp) ?_
            refine AllReady.cons (i := 1) rfl (fun K hK => ?_) (AllReady.cons (i := 4) rfl (fun K hK => ?_) AllReady.nil)
            · go_simp
              refine hK _ _ ?_
              clear hK K
              try simp only [Act.put, List.setIfInBounds_toArray, List.set_cons_zero, List.set_cons_succ]
              refine wpAny_ready (rs := [4]) (by kernel_rfl) (by simp) ?_
              refine AllReady.cons (i := 4) rfl (fun K hK => ?_) AllReady.nil
              go_simp
              refine hK _ _ ?_
              clear hK K
              try simp only [Act.put, List.setIfInBounds_toArray, List.set_cons_zero, List.set_cons_succ]
              refine wpAny_ready (rs := [5]) (by kernel_rfl) (by simp) ?_
              refine AllReady.cons (i := 5) rfl (fun K hK => ?_) AllReady.nil
              refine step_own_at 34 rfl rfl _ _ 24 rfl (q + 1) 3 i0 (.int .i64 0) 1 8 Try.underlying24 hi hz0 hz1 hz2 rfl (by decide) (.slice c.sa c.S.length c.sc) c.S.length (intV c.S) rfl (World.ownsRow.alloc (K8.own.own 1 (by omega)) _) ⟨w8.heap.size, 0, none⟩ 1 1 [.int .i64 x] rfl rfl (cell_one_new _ _ _) (by intro u hu; simp at hu; subst hu; rfl) (by have := hl.out; unfold maxLen; omega) (by have := hl.out; omega) (by have := K8.lt; simp; omega) ?_
              intro v' w9 hown hgrow hloc
              refine hK _ _ ?_
              clear hK K
              rw [intV_snoc] at hown
              have hl9 : c.S.length + 1 = (c.S ++ [x]).length := by simp
              obtain ⟨n2, c2, hv9, _⟩ := own_shape hown
              rw [hl9] at hv9 hown
              subst hv9
              have hyl : Hid ((c.S ++ [x]).length = c.S.length + 1) := by show _ = _; simp
              generalize c.S ++ [x] = Y at hown hyl hloc ⊢
              clear hl9
              obtain ⟨KB, hb9, KT2⟩ := (K8.alloc (.cells #[.int .i64 x] 3)).app (d := (⟨c.ua, c.uc, c.U, n2, c2, Y, c.la, c.lc, c.L, c.xa, c.xc, c.X, c.k⟩ : Cf)) (i := 1) (by omega) (elseS c n2 c2 Y) hgrow hown (hloc.imp id fun h => ⟨_, h, by simp⟩) rfl
              replace KT2 : KC q (⟨c.ua, c.uc, c.U, n2, c2, Y, c.la, c.lc, c.L, c.xa, c.xc, c.X, c.k⟩ : Cf) (w9.setCell ⟨q, 1, none⟩ (.slice n2 Y.length c2)) := KT2
              have hb8 : Below (q + 1) w8 w9 := ((Below.refl (q + 1) w8).alloc (by have := K8.lt; omega) (.cells #[.int .i64 x] 3)).trans hb9
              have k6 := KB.at 1 rfl
              have f6 := KB.fz 1 rfl
              have RN := R8.lower hb8 (by omega)
              have CN := Draw.Cu.down C8 hb8 (by omega) (by omega)
              clear hloc hown hgrow K8 R8 C8 C e8 e8a
              try simp only [Act.put, List.setIfInBounds_toArray, List.set_cons_zero, List.set_cons_succ]
              refine take_any 6 35 (v := ?_) rfl rfl (by kernel_rfl) (by kernel_rfl) (by kernel_rfl) (fun _ _ _ h => h) (Or.inl ⟨by rfl, ?_⟩) ?_
              rotate_left
              · intro w'; go_simp; try with_reducible rfl
              try simp only [Act.put, List.setIfInBounds_toArray, List.set_cons_zero, List.set_cons_succ]
              refine wpAny_ready (rs := [7]) (by kernel_rfl) (by simp) ?_
              refine AllReady.cons (i := 7) rfl (fun K hK => ?_) AllReady.nil
              go_simp
              refine hK _ _ ?_
              clear hK K
              try simp only [Act.put, List.setIfInBounds_toArray, List.set_cons_zero, List.set_cons_succ]
              refine wpAny_done (by kernel_rfl) ?_ _
              have RT := RN.far (g' := q) (by omega) 1 (.slice n2 Y.length c2)
              have CT := Draw.Cu.set (q := q) CN (by omega) (by omega) 1 (.slice n2 Y.length c2)
              clear KB hb9 hb8 RN CN k6 f6
              generalize w9.setCell ⟨q, 1, none⟩ (.slice n2 Y.length c2) = w10 at KT2 RT CT ⊢
              go_wp2
              go_roundw
              case rel =>
                have R : ∃ (m' : Nat) (c' : Cf), Value.int .i64 ((m : Int) + 1) = .int .i64 (m' : Int) ∧ m' ≤ 3 ∧ Lens c' 3 m' 0 0 ∧ KC q c' w10 ∧ Blk W.heap.size [.slice none 0 0, .slice none 0 0, .slice none 0 0, .slice none 0 0, .int .i64 0] w10 ∧ Cu p ad len cap zs W w10 := ⟨m + 1, (⟨c.ua, c.uc, c.U, n2, c2, Y, c.la, c.lc, c.L, c.xa, c.xc, c.X, c.k⟩ : Cf), by go_num, by omega, ⟨ln.u, by have := hyl.out; have := ln.s; show Y.length = _; omega, ln.l, ln.x⟩, KT2, RT, CT⟩
                first | exact R | ((repeat apply Exists.intro); exact ⟨R, rfl⟩)
              case measure => first | (simp [intOf]; done) | (simp [intOf]; omega)
            · go_simp
              refine hK _ _ ?_
              clear hK K
              try simp only [Act.put, List.setIfInBounds_toArray, List.set_cons_zero, List.set_cons_succ]
              refine wpAny_ready (rs := [1]) (by kernel_rfl) (by simp) ?_
              refine AllReady.cons (i := 1) rfl (fun K hK => ?_) AllReady.nil
              go_simp
              refine hK _ _ ?_
              clear hK K
              try simp only [Act.put, List.setIfInBounds_toArray, List.set_cons_zero, List.set_cons_succ]
              refine wpAny_ready (rs := [5]) (by kernel_rfl) (by simp) ?_
              refine AllReady.cons (i := 5) rfl (fun K hK => ?_) AllReady.nil
              refine step_own_at 34 rfl rfl _ _ 24 rfl (q + 1) 3 i0 (.int .i64 0) 1 8 Try.underlying24 hi hz0 hz1 hz2 rfl (by decide) (.slice c.sa c.S.length c.sc) c.S.length (intV c.S) rfl (World.ownsRow.alloc (K8.own.own 1 (by omega)) _) ⟨w8.heap.size, 0, none⟩ 1 1 [.int .i64 x] rfl rfl (cell_one_new _ _ _) (by intro u hu; simp at hu; subst hu; rfl) (by have := hl.out; unfold maxLen; omega) (by have := hl.out; omega) (by have := K8.lt; simp; omega) ?_
              intro v' w9 hown hgrow hloc
              refine hK _ _ ?_
              clear hK K
              rw [intV_snoc] at hown
              have hl9 : c.S.length + 1 = (c.S ++ [x]).length := by simp
              obtain ⟨n2, c2, hv9, _⟩ := own_shape hown
              rw [hl9] at hv9 hown
              subst hv9
              have hyl : Hid ((c.S ++ [x]).length = c.S.length + 1) := by show _ = _; simp
              generalize c.S ++ [x] = Y at hown hyl hloc ⊢
              clear hl9
              obtain ⟨KB, hb9, KT2⟩ := (K8.alloc (.cells #[.int .i64 x] 3)).app (d := (⟨c.ua, c.uc, c.U, n2, c2, Y, c.la, c.lc, c.L, c.xa, c.xc, c.X, c.k⟩ : Cf)) (i := 1) (by omega) (elseS c n2 c2 Y) hgrow hown (hloc.imp id fun h => ⟨_, h, by simp⟩) rfl
              replace KT2 : KC q (⟨c.ua, c.uc, c.U, n2, c2, Y, c.la, c.lc, c.L, c.xa, c.xc, c.X, c.k⟩ : Cf) (w9.setCell ⟨q, 1, none⟩ (.slice n2 Y.length c2)) := KT2
              have hb8 : Below (q + 1) w8 w9 := ((Below.refl (q + 1) w8).alloc (by have := K8.lt; omega) (.cells #[.int .i64 x] 3)).trans hb9
              have k6 := KB.at 1 rfl
              have f6 := KB.fz 1 rfl
              have RN := R8.lower hb8 (by omega)
              have CN := Draw.Cu.down C8 hb8 (by omega) (by omega)
              clear hloc hown hgrow K8 R8 C8 C e8 e8a
              try simp only [Act.put, List.setIfInBounds_toArray, List.set_cons_zero, List.set_cons_succ]
              refine take_any 6 35 (v := ?_) rfl rfl (by kernel_rfl) (by kernel_rfl) (by kernel_rfl) (fun _ _ _ h => h) (Or.inl ⟨by rfl, ?_⟩) ?_
              rotate_left
              · intro w'; go_simp; try with_reducible rfl
              try simp only [Act.put, List.setIfInBounds_toArray, List.set_cons_zero, List.set_cons_succ]
              refine wpAny_ready (rs := [7]) (by kernel_rfl) (by simp) ?_
              refine AllReady.cons (i := 7) rfl (fun K hK => ?_) AllReady.nil
              go_simp
              refine hK _ _ ?_
              clear hK K
              try simp only [Act.put, List.setIfInBounds_toArray, List.set_cons_zero, List.set_cons_succ]
              refine wpAny_done (by kernel_rfl) ?_ _
              have RT := RN.far (g' := q) (by omega) 1 (.slice n2 Y.length c2)
              have CT := Draw.Cu.set (q := q) CN (by omega) (by omega) 1 (.slice n2 Y.length c2)
              clear KB hb9 hb8 RN CN k6 f6
              generalize w9.setCell ⟨q, 1, none⟩ (.slice n2 Y.length c2) = w10 at KT2 RT CT ⊢
              go_wp2
              go_roundw
              case rel =>
                have R : ∃ (m' : Nat) (c' : Cf), Value.int .i64 ((m : Int) + 1) = .int .i64 (m' : Int) ∧ m' ≤ 3 ∧ Lens c' 3 m' 0 0 ∧ KC q c' w10 ∧ Blk W.heap.size [.slice none 0 0, .slice none 0 0, .slice none 0 0, .slice none 0 0, .int .i64 0] w10 ∧ Cu p ad len cap zs W w10 := ⟨m + 1, (⟨c.ua, c.uc, c.U, n2, c2, Y, c.la, c.lc, c.L, c.xa, c.xc, c.X, c.k⟩ : Cf), by go_num, by omega, ⟨ln.u, by have := hyl.out; have := ln.s; show Y.length = _; omega, ln.l, ln.x⟩, KT2, RT, CT⟩
                first | exact R | ((repeat apply Exists.intro); exact ⟨R, rfl⟩)
              case measure => first | (simp [intOf]; done) | (simp [intOf]; omega)
        · obtain rfl : m = 3 := by omega
          go_wp2
          go_loopw [6, 7] (fun i v7 wr => ∃ (a : Nat) (c : Cf), i = .int .i64 (a : Int) ∧ a ≤ 3 ∧ Lens c 3 3 (3 * a) 0 ∧ KC q c wr ∧ Blk W.heap.size [.slice none 0 0, .slice none 0 0, .slice none 0 0, .slice none 0 0, .int .i64 0] wr ∧ Cu p ad len cap zs W wr) (fun i _ _ => 3 - (intOf i).toNat)
          case atStart => exact ⟨0, c, rfl, by omega, ln, KK, RB, CC⟩
          case round =>
            clear KK RB CC ln
            obtain ⟨a, c, rfl, ha, ln, KK, RB, CC⟩ := hrel
            by_cases ha3 : a < 3
            · have a2 : (a : Int) < 3 := by omega
              go_wp2
              go_loopw [7] (fun i wr => ∃ (b : Nat) (c : Cf), i = .int .i64 (b : Int) ∧ b ≤ 3 ∧ Lens c 3 3 (3 * a + b) 0 ∧ KC q c wr ∧ Blk W.heap.size [.slice none 0 0, .slice none 0 0, .slice none 0 0, .slice none 0 0, .int .i64 0] wr ∧ Cu p ad len cap zs W wr) (fun i _ => 3 - (intOf i).toNat)
              case atStart => exact ⟨0, c, rfl, by omega, ln, KK, RB, CC⟩
              case round =>
                clear KK RB CC ln
                obtain ⟨b, c, rfl, hb, ln, KK, RB, CC⟩ := hrel
                by_cases hb3 : b < 3
                · have b2 : (b : Int) < 3 := by omega
                  by_cases hab : a = b
                  · have e1 : ((a : Int) != (b : Int)) = false := by rw [hab]; simp
                    have e2 : decide ((a : Int) = (b : Int)) = true := decide_eq_true (by omega)
                    have e3 : ((a : Int) == (b : Int)) = true := beq_iff_eq.2 (by omega)
                    clear hab
                    go_wp2
                    go_roundw
                    case rel =>
                      have R : ∃ (b' : Nat) (c' : Cf), Value.int .i64 ((b : Int) + 1) = .int .i64 (b' : Int) ∧ b' ≤ 3 ∧ Lens c' 3 3 (3 * a + b') 0 ∧ KC q c' wr ∧ Blk W.heap.size [.slice none 0 0, .slice none 0 0, .slice none 0 0, .slice none 0 0, .int .i64 0] wr ∧ Cu p ad len cap zs W wr := ⟨b + 1, c, by go_num, by omega, ⟨ln.u, ln.s, by have := ln.l; omega, ln.x⟩, KK, RB, CC⟩
                      first | exact R | ((repeat apply Exists.intro); exact ⟨R, rfl⟩)
                    case measure => first | (simp [intOf]; done) | (simp [intOf]; omega)
                  · have e1 : ((a : Int) != (b : Int)) = true := bne_iff_ne.2 (by omega)
                    have e2 : decide ((a : Int) = (b : Int)) = false := decide_eq_false (by omega)
                    have e3 : ((a : Int) == (b : Int)) = false := beq_eq_false_iff_ne.2 (by omega)
                    clear hab
                    have HX := onceW 3 CC.here (by omega)
                    go_wp2_with fail
                    refine HX.mono ?_
                    clear HX
                    rintro en w5 ⟨bb, rfl, C⟩
                    have RBN := RB.only C.2 RB.lt (by omega)
                    have KKN := KK.draw C.2 (by omega)
                    have CCN := CC.next C
                    clear RB KK CC C
                    have RB := RBN
                    have KK := KKN
                    have CC := CCN
                    clear RBN KKN CCN
                    cases bb with
                    | true =>
                      go_wp2
                      go_roundw
                      case rel =>
                        have R : ∃ (b' : Nat) (c' : Cf), Value.int .i64 ((b : Int) + 1) = .int .i64 (b' : Int) ∧ b' ≤ 3 ∧ Lens c' 3 3 (3 * a + b') 0 ∧ KC q c' w5 ∧ Blk W.heap.size [.slice none 0 0, .slice none 0 0, .slice none 0 0, .slice none 0 0, .int .i64 0] w5 ∧ Cu p ad len cap zs W w5 := ⟨b + 1, c, by go_num, by omega, ⟨ln.u, ln.s, by have := ln.l; omega, ln.x⟩, KK, RB, CC⟩
                        first | exact R | ((repeat apply Exists.intro); exact ⟨R, rfl⟩)
                      case measure => first | (simp [intOf]; done) | (simp [intOf]; omega)
                    | false =>
                      have hl : Hid (c.L.length ≤ 9) := by show c.L.length ≤ 9; have := ln.l; omega
                      have e1 := KK.blk.at 2 rfl
                      have e2 : (w5.alloc (.cells #[.int .i64 (a : Int), .int .i64 (b : Int)] 36)).cell? ⟨q, 2, none⟩ = some (.slice c.la c.L.length c.lc) := (KK.blk.alloc KK.lt _).at 2 rfl
                      go_wp2_with (first | (at_builtin; refine wpList_append_own_at _ rfl _ _ 28 rfl (q + 1) 36 j0 (.agg #[.int .i64 0, .int .i64 0]) 2 16 Try.underlying28 hj hj0 hj1 hj2 rfl (by decide) (.slice c.la c.L.length c.lc) c.L.length (prV c.L) rfl (World.ownsRow.alloc (KK.own.own 2 (by omega)) _) ⟨w5.heap.size, 0, none⟩ 1 1 [.int .i64 (a : Int), .int .i64 (b : Int)] rfl rfl (cell_two_new _ _ _ _) ?c2 ?c3 ?c4 ?c5 ?_) | go_in)
                      case c2 => intro u hu; simp at hu; rcases hu with rfl | rfl <;> rfl
                      case c3 => have := hl.out; unfold maxLen; omega
                      case c4 => have := hl.out; omega
                      case c5 => have := KK.lt; simp; omega
                      intro v' w9 hown hgrow _ hloc
                      rw [prV_snoc] at hown
                      have hl9 : c.L.length + 1 = (c.L ++ [((a : Int), (b : Int))]).length := by simp
                      obtain ⟨n2, c2, hv9, _⟩ := own_shape hown
                      rw [hl9] at hv9 hown
                      subst hv9
                      have hyl : Hid ((c.L ++ [((a : Int), (b : Int))]).length = c.L.length + 1) := by show _ = _; simp
                      generalize c.L ++ [((a : Int), (b : Int))] = Y at hown hyl hloc ⊢
                      clear hl9
                      obtain ⟨KB, hb9, KT2⟩ := (KK.alloc (.cells #[.int .i64 (a : Int), .int .i64 (b : Int)] 36)).app (d := (⟨c.ua, c.uc, c.U, c.sa, c.sc, c.S, n2, c2, Y, c.xa, c.xc, c.X, c.k⟩ : Cf)) (i := 2) (by omega) (elseL c n2 c2 Y) hgrow hown (hloc.imp id fun h => ⟨_, h, by simp⟩) rfl
                      replace KT2 : KC q (⟨c.ua, c.uc, c.U, c.sa, c.sc, c.S, n2, c2, Y, c.xa, c.xc, c.X, c.k⟩ : Cf) (w9.setCell ⟨q, 2, none⟩ (.slice n2 Y.length c2)) := KT2
                      have hb8 : Below (q + 1) w5 w9 := ((Below.refl (q + 1) w5).alloc (by have := KK.lt; omega) (.cells #[.int .i64 (a : Int), .int .i64 (b : Int)] 36)).trans hb9
                      have k6 := KB.at 2 rfl
                      have f6 := KB.fz 2 rfl
                      have RN := RB.lower hb8 (by omega)
                      have CN := Draw.Cu.down CC hb8 (by omega) (by omega)
                      have RT := RN.far (g' := q) (by omega) 2 (.slice n2 Y.length c2)
                      have CT := Draw.Cu.set (q := q) CN (by omega) (by omega) 2 (.slice n2 Y.length c2)
                      obtain ⟨w10, hw10⟩ : ∃ v, w9.setCell ⟨q, 2, none⟩ (.slice n2 Y.length c2) = v := ⟨_, rfl⟩
                      rw [hw10] at KT2 RT CT
                      clear hloc hown hgrow hb9 hb8 RN CN KB e1 e2 KK RB CC
                      go_wp2
                      try rw [hw10]
                      clear hw10
                      go_roundw
                      case rel =>
                        have R : ∃ (b' : Nat) (c' : Cf), Value.int .i64 ((b : Int) + 1) = .int .i64 (b' : Int) ∧ b' ≤ 3 ∧ Lens c' 3 3 (3 * a + b') 0 ∧ KC q c' w10 ∧ Blk W.heap.size [.slice none 0 0, .slice none 0 0, .slice none 0 0, .slice none 0 0, .int .i64 0] w10 ∧ Cu p ad len cap zs W w10 := ⟨b + 1, (⟨c.ua, c.uc, c.U, c.sa, c.sc, c.S, n2, c2, Y, c.xa, c.xc, c.X, c.k⟩ : Cf), by go_num, by omega, ⟨ln.u, ln.s, by have := hyl.out; have := ln.l; show Y.length ≤ _; omega, ln.x⟩, KT2, RT, CT⟩
                        first | exact R | ((repeat apply Exists.intro); exact ⟨R, rfl⟩)
                      case measure => first | (simp [intOf]; done) | (simp [intOf]; omega)
                · obtain rfl : b = 3 := by omega
                  go_wp2
                  go_roundw
                  case rel =>
                    have R : ∃ (a' : Nat) (c' : Cf), Value.int .i64 ((a : Int) + 1) = .int .i64 (a' : Int) ∧ a' ≤ 3 ∧ Lens c' 3 3 (3 * a') 0 ∧ KC q c' wr ∧ Blk W.heap.size [.slice none 0 0, .slice none 0 0, .slice none 0 0, .slice none 0 0, .int .i64 0] wr ∧ Cu p ad len cap zs W wr := ⟨a + 1, c, by go_num, by omega, ⟨ln.u, ln.s, by have := ln.l; omega, ln.x⟩, KK, RB, CC⟩
                    first | exact R | ((repeat apply Exists.intro); exact ⟨R, rfl⟩)
                  case measure => first | (simp [intOf]; done) | (simp [intOf]; omega)
            · obtain rfl : a = 3 := by omega
              go_wp2
              go_loopw [8, 9] (fun i v7 wr => ∃ (a : Nat) (c : Cf), i = .int .i64 (a : Int) ∧ a ≤ 3 ∧ Lens c 3 3 9 (3 * a) ∧ KC q c wr ∧ Blk W.heap.size [.slice none 0 0, .slice none 0 0, .slice none 0 0, .slice none 0 0, .int .i64 0] wr ∧ Cu p ad len cap zs W wr) (fun i _ _ => 3 - (intOf i).toNat)
              case atStart => exact ⟨0, c, rfl, by omega, ln, KK, RB, CC⟩
              case round =>
                clear KK RB CC ln
                obtain ⟨a, c, rfl, ha, ln, KK, RB, CC⟩ := hrel
                by_cases ha3 : a < 3
                · have a2 : (a : Int) < 3 := by omega
                  go_wp2
                  go_loopw [9] (fun i wr => ∃ (b : Nat) (c : Cf), i = .int .i64 (b : Int) ∧ b ≤ 3 ∧ Lens c 3 3 9 (3 * a + b) ∧ KC q c wr ∧ Blk W.heap.size [.slice none 0 0, .slice none 0 0, .slice none 0 0, .slice none 0 0, .int .i64 0] wr ∧ Cu p ad len cap zs W wr) (fun i _ => 3 - (intOf i).toNat)
                  case atStart => exact ⟨0, c, rfl, by omega, ln, KK, RB, CC⟩
                  case round =>
                    clear KK RB CC ln
                    obtain ⟨b, c, rfl, hb, ln, KK, RB, CC⟩ := hrel
                    by_cases hb3 : b < 3
                    · have b2 : (b : Int) < 3 := by omega
                      by_cases hab : a = b
                      · have e1 : ((a : Int) != (b : Int)) = false := by rw [hab]; simp
                        have e2 : decide ((a : Int) = (b : Int)) = true := decide_eq_true (by omega)
                        have e3 : ((a : Int) == (b : Int)) = true := beq_iff_eq.2 (by omega)
                        clear hab
                        go_wp2
                        go_roundw
                        case rel =>
                          have R : ∃ (b' : Nat) (c' : Cf), Value.int .i64 ((b : Int) + 1) = .int .i64 (b' : Int) ∧ b' ≤ 3 ∧ Lens c' 3 3 9 (3 * a + b') ∧ KC q c' wr ∧ Blk W.heap.size [.slice none 0 0, .slice none 0 0, .slice none 0 0, .slice none 0 0, .int .i64 0] wr ∧ Cu p ad len cap zs W wr := ⟨b + 1, c, by go_num, by omega, ⟨ln.u, ln.s, ln.l, by have := ln.x; omega⟩, KK, RB, CC⟩
                          first | exact R | ((repeat apply Exists.intro); exact ⟨R, rfl⟩)
                        case measure => first | (simp [intOf]; done) | (simp [intOf]; omega)
                      · have e1 : ((a : Int) != (b : Int)) = true := bne_iff_ne.2 (by omega)
                        have e2 : decide ((a : Int) = (b : Int)) = false := decide_eq_false (by omega)
                        have e3 : ((a : Int) == (b : Int)) = false := beq_eq_false_iff_ne.2 (by omega)
                        clear hab
                        have HX := onceW 3 CC.here (by omega)
                        go_wp2_with fail
                        refine HX.mono ?_
                        clear HX
                        rintro en w5 ⟨bb, rfl, C⟩
                        have RBN := RB.only C.2 RB.lt (by omega)
                        have KKN := KK.draw C.2 (by omega)
                        have CCN := CC.next C
                        clear RB KK CC C
                        have RB := RBN
                        have KK := KKN
                        have CC := CCN
                        clear RBN KKN CCN
                        cases bb with
                        | true =>
                          go_wp2
                          go_roundw
                          case rel =>
                            have R : ∃ (b' : Nat) (c' : Cf), Value.int .i64 ((b : Int) + 1) = .int .i64 (b' : Int) ∧ b' ≤ 3 ∧ Lens c' 3 3 9 (3 * a + b') ∧ KC q c' w5 ∧ Blk W.heap.size [.slice none 0 0, .slice none 0 0, .slice none 0 0, .slice none 0 0, .int .i64 0] w5 ∧ Cu p ad len cap zs W w5 := ⟨b + 1, c, by go_num, by omega, ⟨ln.u, ln.s, ln.l, by have := ln.x; omega⟩, KK, RB, CC⟩
                            first | exact R | ((repeat apply Exists.intro); exact ⟨R, rfl⟩)
                          case measure => first | (simp [intOf]; done) | (simp [intOf]; omega)
                        | false =>
                          have hl : Hid (c.X.length ≤ 9) := by show c.X.length ≤ 9; have := ln.x; omega
                          have e1 := KK.blk.at 3 rfl
                          have e2 : (w5.alloc (.cells #[.int .i64 (a : Int), .int .i64 (b : Int)] 36)).cell? ⟨q, 3, none⟩ = some (.slice c.xa c.X.length c.xc) := (KK.blk.alloc KK.lt _).at 3 rfl
                          go_wp2_with (first | (at_builtin; refine wpList_append_own_at _ rfl _ _ 28 rfl (q + 1) 36 j0 (.agg #[.int .i64 0, .int .i64 0]) 2 16 Try.underlying28 hj hj0 hj1 hj2 rfl (by decide) (.slice c.xa c.X.length c.xc) c.X.length (prV c.X) rfl (World.ownsRow.alloc (KK.own.own 3 (by omega)) _) ⟨w5.heap.size, 0, none⟩ 1 1 [.int .i64 (a : Int), .int .i64 (b : Int)] rfl rfl (cell_two_new _ _ _ _) ?c2 ?c3 ?c4 ?c5 ?_) | go_in)
                          case c2 => intro u hu; simp at hu; rcases hu with rfl | rfl <;> rfl
                          case c3 => have := hl.out; unfold maxLen; omega
                          case c4 => have := hl.out; omega
                          case c5 => have := KK.lt; simp; omega
                          intro v' w9 hown hgrow _ hloc
                          rw [prV_snoc] at hown
                          have hl9 : c.X.length + 1 = (c.X ++ [((a : Int), (b : Int))]).length := by simp
                          obtain ⟨n2, c2, hv9, _⟩ := own_shape hown
                          rw [hl9] at hv9 hown
                          subst hv9
                          have hyl : Hid ((c.X ++ [((a : Int), (b : Int))]).length = c.X.length + 1) := by show _ = _; simp
                          generalize c.X ++ [((a : Int), (b : Int))] = Y at hown hyl hloc ⊢
                          clear hl9
                          obtain ⟨KB, hb9, KT2⟩ := (KK.alloc (.cells #[.int .i64 (a : Int), .int .i64 (b : Int)] 36)).app (d := (⟨c.ua, c.uc, c.U, c.sa, c.sc, c.S, c.la, c.lc, c.L, n2, c2, Y, c.k⟩ : Cf)) (i := 3) (by omega) (elseX c n2 c2 Y) hgrow hown (hloc.imp id fun h => ⟨_, h, by simp⟩) rfl
                          replace KT2 : KC q (⟨c.ua, c.uc, c.U, c.sa, c.sc, c.S, c.la, c.lc, c.L, n2, c2, Y, c.k⟩ : Cf) (w9.setCell ⟨q, 3, none⟩ (.slice n2 Y.length c2)) := KT2
                          have hb8 : Below (q + 1) w5 w9 := ((Below.refl (q + 1) w5).alloc (by have := KK.lt; omega) (.cells #[.int .i64 (a : Int), .int .i64 (b : Int)] 36)).trans hb9
                          have k6 := KB.at 3 rfl
                          have f6 := KB.fz 3 rfl
                          have RN := RB.lower hb8 (by omega)
                          have CN := Draw.Cu.down CC hb8 (by omega) (by omega)
                          have RT := RN.far (g' := q) (by omega) 3 (.slice n2 Y.length c2)
                          have CT := Draw.Cu.set (q := q) CN (by omega) (by omega) 3 (.slice n2 Y.length c2)
                          obtain ⟨w10, hw10⟩ : ∃ v, w9.setCell ⟨q, 3, none⟩ (.slice n2 Y.length c2) = v := ⟨_, rfl⟩
                          rw [hw10] at KT2 RT CT
                          clear hloc hown hgrow hb9 hb8 RN CN KB e1 e2 KK RB CC
                          go_wp2
                          try rw [hw10]
                          clear hw10
                          go_roundw
                          case rel =>
                            have R : ∃ (b' : Nat) (c' : Cf), Value.int .i64 ((b : Int) + 1) = .int .i64 (b' : Int) ∧ b' ≤ 3 ∧ Lens c' 3 3 9 (3 * a + b') ∧ KC q c' w10 ∧ Blk W.heap.size [.slice none 0 0, .slice none 0 0, .slice none 0 0, .slice none 0 0, .int .i64 0] w10 ∧ Cu p ad len cap zs W w10 := ⟨b + 1, (⟨c.ua, c.uc, c.U, c.sa, c.sc, c.S, c.la, c.lc, c.L, n2, c2, Y, c.k⟩ : Cf), by go_num, by omega, ⟨ln.u, ln.s, ln.l, by have := hyl.out; have := ln.x; show Y.length ≤ _; omega⟩, KT2, RT, CT⟩
                            first | exact R | ((repeat apply Exists.intro); exact ⟨R, rfl⟩)
                          case measure => first | (simp [intOf]; done) | (simp [intOf]; omega)
                    · obtain rfl : b = 3 := by omega
                      go_wp2
                      go_roundw
                      case rel =>
                        have R : ∃ (a' : Nat) (c' : Cf), Value.int .i64 ((a : Int) + 1) = .int .i64 (a' : Int) ∧ a' ≤ 3 ∧ Lens c' 3 3 9 (3 * a') ∧ KC q c' wr ∧ Blk W.heap.size [.slice none 0 0, .slice none 0 0, .slice none 0 0, .slice none 0 0, .int .i64 0] wr ∧ Cu p ad len cap zs W wr := ⟨a + 1, c, by go_num, by omega, ⟨ln.u, ln.s, ln.l, by have := ln.x; omega⟩, KK, RB, CC⟩
                        first | exact R | ((repeat apply Exists.intro); exact ⟨R, rfl⟩)
                      case measure => first | (simp [intOf]; done) | (simp [intOf]; omega)
                · obtain rfl : a = 3 := by omega
                  have HX := onceW 3 CC.here (by omega)
                  go_wp2_with fail
                  refine HX.mono ?_
                  clear HX
                  rintro en w5 ⟨bb, rfl, C⟩
                  have RBN := RB.only C.2 RB.lt (by omega)
                  have KKN := KK.draw C.2 (by omega)
                  have CCN := CC.next C
                  clear RB KK CC C
                  have RB := RBN
                  have KK := KKN
                  have CC := CCN
                  clear RBN KKN CCN
                  have HLN : Hid (Lens c 3 3 9 9) := ⟨ln.u, ln.s, by have := ln.l; omega, by have := ln.x; omega⟩
                  cases bb with
                  | false =>
                    clear ln
                    have QB := KK.blk
                    have OC := KK.own
                    clear KK
                    have r0 := RB.at 0 rfl
                    have r1 := RB.at 1 rfl
                    have r2 := RB.at 2 rfl
                    have r3 := RB.at 3 rfl
                    have r4 := RB.at 4 rfl
                    have g0 := RB.fz 0 rfl
                    have g1 := RB.fz 1 rfl
                    have g2 := RB.fz 2 rfl
                    have g3 := RB.fz 3 rfl
                    have g4 := RB.fz 4 rfl
                    have q0 := QB.at 0 rfl
                    have q1 := QB.at 1 rfl
                    have q2 := QB.at 2 rfl
                    have q3 := QB.at 3 rfl
                    have q4 := QB.at 4 rfl
                    have F := show Hid _ from (show Blk W.heap.size c.cells ((((((w5).setCell ⟨W.heap.size, 0, none⟩ (.slice c.ua c.U.length c.uc)).setCell ⟨W.heap.size, 1, none⟩ (.slice c.sa c.S.length c.sc)).setCell ⟨W.heap.size, 2, none⟩ (.slice c.la c.L.length c.lc)).setCell ⟨W.heap.size, 3, none⟩ (.slice c.xa c.X.length c.xc)).setCell ⟨W.heap.size, 4, none⟩ (.int .i64 c.k)) ∧ Cu p ad len cap zs W ((((((w5).setCell ⟨W.heap.size, 0, none⟩ (.slice c.ua c.U.length c.uc)).setCell ⟨W.heap.size, 1, none⟩ (.slice c.sa c.S.length c.sc)).setCell ⟨W.heap.size, 2, none⟩ (.slice c.la c.L.length c.lc)).setCell ⟨W.heap.size, 3, none⟩ (.slice c.xa c.X.length c.xc)).setCell ⟨W.heap.size, 4, none⟩ (.int .i64 c.k)) ∧ OwnC W.heap.size c ((((((w5).setCell ⟨W.heap.size, 0, none⟩ (.slice c.ua c.U.length c.uc)).setCell ⟨W.heap.size, 1, none⟩ (.slice c.sa c.S.length c.sc)).setCell ⟨W.heap.size, 2, none⟩ (.slice c.la c.L.length c.lc)).setCell ⟨W.heap.size, 3, none⟩ (.slice c.xa c.X.length c.xc)).setCell ⟨W.heap.size, 4, none⟩ (.int .i64 c.k)) from ⟨(((((RB.set 0 (.slice c.ua c.U.length c.uc)).set 1 (.slice c.sa c.S.length c.sc)).set 2 (.slice c.la c.L.length c.lc)).set 3 (.slice c.xa c.X.length c.xc)).set 4 (.int .i64 c.k)), (Cu.setCell (Cu.setCell (Cu.setCell (Cu.setCell (Cu.setCell CC hpW (Nat.le_refl _) 0 (.slice c.ua c.U.length c.uc)) hpW (Nat.le_refl _) 1 (.slice c.sa c.S.length c.sc)) hpW (Nat.le_refl _) 2 (.slice c.la c.L.length c.lc)) hpW (Nat.le_refl _) 3 (.slice c.xa c.X.length c.xc)) hpW (Nat.le_refl _) 4 (.int .i64 c.k)), OwnC.le (((((OC.set (a := ⟨W.heap.size, 0, none⟩) (by dsimp only; omega) (.slice c.ua c.U.length c.uc)).set (a := ⟨W.heap.size, 1, none⟩) (by dsimp only; omega) (.slice c.sa c.S.length c.sc)).set (a := ⟨W.heap.size, 2, none⟩) (by dsimp only; omega) (.slice c.la c.L.length c.lc)).set (a := ⟨W.heap.size, 3, none⟩) (by dsimp only; omega) (.slice c.xa c.X.length c.xc)).set (a := ⟨W.heap.size, 4, none⟩) (by dsimp only; omega) (.int .i64 c.k)) (by omega)⟩)
                    have NQ : ¬ q = W.heap.size := by omega
                    have NR : ¬ W.heap.size = q := by omega
                    clear RB QB CC OC
                    go_wp2
                    have G := F.out
                    exact bodyPost_ret (res_c rfl _ _ W.heap.size _ _ _ _ _ rfl (G.1.at 0 rfl) (G.1.at 1 rfl) (G.1.at 2 rfl) (G.1.at 3 rfl) (G.1.at 4 rfl)) rfl ⟨c, rfl, HLN.out, G.2.2, G.2.1⟩
                  | true =>
                    have hu3 : 0 < c.U.length := by have := ln.u; omega
                    have hs3 : 2 < c.S.length := by have := ln.s; omega
                    obtain ⟨bu, fu, eu, lu, cu⟩ := KK.own.at.hu 0 hu3
                    obtain ⟨bs, fs, es, ls, cs⟩ := KK.own.at.hs 2 hs3
                    generalize c.U[0] = u0 at cu
                    generalize c.S[2] = s2 at cs
                    rw [Nat.add_zero] at cu
                    have d0 := KK.blk.at 0 rfl
                    rw [eu] at d0
                    have d1 := KK.blk.at 1 rfl
                    rw [es] at d1
                    have iu : (0 : Int) < (c.U.length : Int) := by omega
                    have iz : (2 : Int) < (c.S.length : Int) := by omega
                    obtain ⟨KB, hb9, KT2⟩ := KK.drew.app (d := (⟨c.ua, c.uc, c.U, some ⟨w5.heap.size, 0, none⟩, 3, [u0, u0, s2], c.la, c.lc, c.L, c.xa, c.xc, c.X, c.k⟩ : Cf)) (i := 1) (w' := w5.drew.alloc (.cells #[.int .i64 u0, .int .i64 u0, .int .i64 s2] 3)) (by omega) (elseS c _ _ _) (World.grownBy_alloc _ _ _) (World.ownsRow_lit w5.drew #[.int .i64 u0, .int .i64 u0, .int .i64 s2] 3 (by have := KK.drew.lt; omega) (by decide) rfl) (Or.inr ⟨_, rfl, Nat.le_refl _⟩) rfl
                    have HLM : Hid (Lens (⟨c.ua, c.uc, c.U, some ⟨w5.heap.size, 0, none⟩, 3, [u0, u0, s2], c.la, c.lc, c.L, c.xa, c.xc, c.X, c.k⟩ : Cf) 3 3 9 9) := ⟨HLN.out.u, rfl, HLN.out.l, HLN.out.x⟩
                    have RT := (RB.drew.lower hb9 (by omega)).far (g' := q) (by omega) 1 (.slice (some ⟨w5.heap.size, 0, none⟩) 3 3)
                    have CT := Draw.Cu.set (q := q) (Draw.Cu.down CC.drew hb9 (by omega) (by omega)) (by omega) (by omega) 1 (.slice (some ⟨w5.heap.size, 0, none⟩) 3 3)
                    replace KT2 : KC q (⟨c.ua, c.uc, c.U, some ⟨w5.heap.size, 0, none⟩, 3, [u0, u0, s2], c.la, c.lc, c.L, c.xa, c.xc, c.X, c.k⟩ : Cf) ((w5.drew.alloc (.cells #[.int .i64 u0, .int .i64 u0, .int .i64 s2] 3)).setCell ⟨q, 1, none⟩ (.slice (some ⟨w5.heap.size, 0, none⟩) 3 3)) := KT2
                    have kA := KB.at 1 rfl
                    rw [es] at kA
                    have fA := KB.fz 1 rfl
                    have kB : (w5.alloc (.cells #[.int .i64 u0, .int .i64 u0, .int .i64 s2] 3)).cell? ⟨q, 1, none⟩ = _ := kA
                    have fB : (w5.alloc (.cells #[.int .i64 u0, .int .i64 u0, .int .i64 s2] 3)).frozen? ⟨q, 1, none⟩ = false := fA
                    have qne : ¬ q = w5.heap.size := by have := KK.lt; omega
                    have qne2 : ¬ w5.heap.size = q := by have := KK.lt; omega
                    generalize (⟨c.ua, c.uc, c.U, some ⟨w5.heap.size, 0, none⟩, 3, [u0, u0, s2], c.la, c.lc, c.L, c.xa, c.xc, c.X, c.k⟩ : Cf) = c1 at KT2 HLM
                    clear ln KK RB CC hb9 KB HLN
                    go_wp2
                    go_region
                    all_goals
                      have KK : KC q c1 (((w5.alloc (.cells #[.int .i64 u0, .int .i64 u0, .int .i64 s2] 3)).setCell ⟨q, 1, none⟩ (.slice (some ⟨w5.heap.size, 0, none⟩) 3 3)).drew) := KT2
                      have RB : Blk W.heap.size [.slice none 0 0, .slice none 0 0, .slice none 0 0, .slice none 0 0, .int .i64 0] (((w5.alloc (.cells #[.int .i64 u0, .int .i64 u0, .int .i64 s2] 3)).setCell ⟨q, 1, none⟩ (.slice (some ⟨w5.heap.size, 0, none⟩) 3 3)).drew) := RT
                      have CC : Cu p ad len cap zs W (((w5.alloc (.cells #[.int .i64 u0, .int .i64 u0, .int .i64 s2] 3)).setCell ⟨q, 1, none⟩ (.slice (some ⟨w5.heap.size, 0, none⟩) 3 3)).drew) := CT
                      clear KT2 RT CT d0 d1 kA fA kB fB qne qne2 cu cs iu iz
                      generalize ((w5.alloc (.cells #[.int .i64 u0, .int .i64 u0, .int .i64 s2] 3)).setCell ⟨q, 1, none⟩ (.slice (some ⟨w5.heap.size, 0, none⟩) 3 3)).drew = w11 at KK RB CC ⊢
                      have QB := KK.blk
                      have OC := KK.own
                      clear KK
                      have r0 := RB.at 0 rfl
                      have r1 := RB.at 1 rfl
                      have r2 := RB.at 2 rfl
                      have r3 := RB.at 3 rfl
                      have r4 := RB.at 4 rfl
                      have g0 := RB.fz 0 rfl
                      have g1 := RB.fz 1 rfl
                      have g2 := RB.fz 2 rfl
                      have g3 := RB.fz 3 rfl
                      have g4 := RB.fz 4 rfl
                      have q0 := QB.at 0 rfl
                      have q1 := QB.at 1 rfl
                      have q2 := QB.at 2 rfl
                      have q3 := QB.at 3 rfl
                      have q4 := QB.at 4 rfl
                      have F := show Hid _ from (show Blk W.heap.size c1.cells ((((((w11).setCell ⟨W.heap.size, 0, none⟩ (.slice c1.ua c1.U.length c1.uc)).setCell ⟨W.heap.size, 1, none⟩ (.slice c1.sa c1.S.length c1.sc)).setCell ⟨W.heap.size, 2, none⟩ (.slice c1.la c1.L.length c1.lc)).setCell ⟨W.heap.size, 3, none⟩ (.slice c1.xa c1.X.length c1.xc)).setCell ⟨W.heap.size, 4, none⟩ (.int .i64 c1.k)) ∧ Cu p ad len cap zs W ((((((w11).setCell ⟨W.heap.size, 0, none⟩ (.slice c1.ua c1.U.length c1.uc)).setCell ⟨W.heap.size, 1, none⟩ (.slice c1.sa c1.S.length c1.sc)).setCell ⟨W.heap.size, 2, none⟩ (.slice c1.la c1.L.length c1.lc)).setCell ⟨W.heap.size, 3, none⟩ (.slice c1.xa c1.X.length c1.xc)).setCell ⟨W.heap.size, 4, none⟩ (.int .i64 c1.k)) ∧ OwnC W.heap.size c1 ((((((w11).setCell ⟨W.heap.size, 0, none⟩ (.slice c1.ua c1.U.length c1.uc)).setCell ⟨W.heap.size, 1, none⟩ (.slice c1.sa c1.S.length c1.sc)).setCell ⟨W.heap.size, 2, none⟩ (.slice c1.la c1.L.length c1.lc)).setCell ⟨W.heap.size, 3, none⟩ (.slice c1.xa c1.X.length c1.xc)).setCell ⟨W.heap.size, 4, none⟩ (.int .i64 c1.k)) from ⟨(((((RB.set 0 (.slice c1.ua c1.U.length c1.uc)).set 1 (.slice c1.sa c1.S.length c1.sc)).set 2 (.slice c1.la c1.L.length c1.lc)).set 3 (.slice c1.xa c1.X.length c1.xc)).set 4 (.int .i64 c1.k)), (Cu.setCell (Cu.setCell (Cu.setCell (Cu.setCell (Cu.setCell CC hpW (Nat.le_refl _) 0 (.slice c1.ua c1.U.length c1.uc)) hpW (Nat.le_refl _) 1 (.slice c1.sa c1.S.length c1.sc)) hpW (Nat.le_refl _) 2 (.slice c1.la c1.L.length c1.lc)) hpW (Nat.le_refl _) 3 (.slice c1.xa c1.X.length c1.xc)) hpW (Nat.le_refl _) 4 (.int .i64 c1.k)), OwnC.le (((((OC.set (a := ⟨W.heap.size, 0, none⟩) (by dsimp only; omega) (.slice c1.ua c1.U.length c1.uc)).set (a := ⟨W.heap.size, 1, none⟩) (by dsimp only; omega) (.slice c1.sa c1.S.length c1.sc)).set (a := ⟨W.heap.size, 2, none⟩) (by dsimp only; omega) (.slice c1.la c1.L.length c1.lc)).set (a := ⟨W.heap.size, 3, none⟩) (by dsimp only; omega) (.slice c1.xa c1.X.length c1.xc)).set (a := ⟨W.heap.size, 4, none⟩) (by dsimp only; omega) (.int .i64 c1.k)) (by omega)⟩)
                      have NQ : ¬ q = W.heap.size := by omega
                      have NR : ¬ W.heap.size = q := by omega
                      clear RB QB CC OC
                      go_wp2
                      have G := F.out
                      exact bodyPost_ret (res_c rfl _ _ W.heap.size _ _ _ _ _ rfl (G.1.at 0 rfl) (G.1.at 1 rfl) (G.1.at 2 rfl) (G.1.at 3 rfl) (G.1.at 4 rfl)) rfl ⟨c1, rfl, HLM.out, G.2.2, G.2.1⟩
end Go.Proofs.Ytgmbgginddfnmaa
