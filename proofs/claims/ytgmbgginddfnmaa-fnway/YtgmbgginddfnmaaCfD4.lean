/- What the law on ways draws from the code. -/
import Derived.Test.YtgmbgginddfnmaaCfD3
set_option linter.unusedVariables false
namespace Go.Proofs.Ytgmbgginddfnmaa
open Go Go.RowKit Go.Joins Own Draw

theorem res_cab {fn : Func} {p x y : Tmp} (hres : fn.results = #[.cell p 30, .tmp x, .tmp y]) (tmps : Array Value) (w : World) (g : Nat) (v0 v1 v2 v3 v4 : Value) (u0 u1 : Value) (hx : tmps.getD x undef = u0) (hy : tmps.getD y undef = u1) (hp : tmps.getD p undef = .pointer (some ⟨g, 0, none⟩)) (h0 : w.cell? ⟨g, 0, none⟩ = some v0) (h1 : w.cell? ⟨g, 1, none⟩ = some v1) (h2 : w.cell? ⟨g, 2, none⟩ = some v2) (h3 : w.cell? ⟨g, 3, none⟩ = some v3) (h4 : w.cell? ⟨g, 4, none⟩ = some v4) :
    (results fn tmps).run Try.prog w = .ok (.tuple #[.agg #[v0, v1, v2, v3, v4], u0, u1]) w := by
  have hp' : tmps[p]?.getD undef = .pointer (some ⟨g, 0, none⟩) := by simpa using hp
  have hx' : tmps[x]?.getD undef = u0 := by simpa using hx
  have hy' : tmps[y]?.getD undef = u1 := by simpa using hy
  simp [results, hres, hp', hx', hy', asAddr, go_sem, h0, h1, h2, h3, h4, loadVar, Try.isAgg30, Try.sizeOf30]
set_option maxRecDepth 100000 in
set_option maxHeartbeats 12800000 in
theorem drawNH (ad : Option Addr) (len cap : Nat) (zs : List Int) (W : World) (hz : CodeAt W W.heap.size ad len zs) :
    Calls Try.prog 16 #[.slice ad len cap] W fun en w' => ∃ (c : Cf) (a b : Int), en = .returned (.tuple #[c.val, .int .i64 a, .int .i64 b]) ∧ i64 a ∧ i64 b ∧ CfAt c w' ∧ CfOk c ∧ Below W.heap.size W w' := by
  obtain ⟨W1, hW1⟩ : ∃ W1, W.alloc (.cells #[.slice none 0 0, .slice none 0 0, .slice none 0 0, .slice none 0 0, .int .i64 0] 30) = W1 := ⟨_, rfl⟩
  have RB : Blk W.heap.size [.slice none 0 0, .slice none 0 0, .slice none 0 0, .slice none 0 0, .int .i64 0] W1 := by rw [← hW1]; exact Blk.new _ _ _
  have B1 : Below W.heap.size W W1 := by rw [← hW1]; exact (Below.refl _ _).alloc (Nat.le_refl _) _
  have HC : Hid (CodeAt W1 W1.heap.size ad len zs) := (hz.below B1).lt B1.size
  have lW : W.heap.size < W1.heap.size := RB.lt
  clear hz
  go_enter Try.func16, Try.ntmps16
  go_wp2_with fail
  try rw [hW1]
  refine (new_go ad len cap zs W1 HC.out).mono ?_
  clear hW1
  rintro en w2 ⟨rfl, cur, hb2, Z2⟩
  have D2 : Dr w2 W1.heap.size ad len cap zs (newS zs len) := ⟨cur, HC.out.below hb2, Nat.zero_le _⟩
  have CC := Cu.start D2
  have BB := B1.trans (hb2.mono B1.size)
  have RBN := RB.later hb2 RB.lt
  clear cur HC hb2 B1 D2 RB Z2
  have RB := RBN
  clear RBN
  generalize W1.heap.size = p at *
  obtain ⟨w3, hw3⟩ : ∃ v, w2.alloc (.cells #[.int .i64 0, .int .i64 1, .int .i64 2, .int .i64 0, .int .i64 1, .int .i64 2, .int .i64 (-1), .int .i64 3] 3) = v := ⟨_, rfl⟩
  have RBN := RB.alloc RB.lt (.cells #[.int .i64 0, .int .i64 1, .int .i64 2, .int .i64 0, .int .i64 1, .int .i64 2, .int .i64 (-1), .int .i64 3] 3)
  have CCN := (CC.alloc (.cells #[.int .i64 0, .int .i64 1, .int .i64 2, .int .i64 0, .int .i64 1, .int .i64 2, .int .i64 (-1), .int .i64 3] 3)).here
  have BBN := BB.alloc BB.size (.cells #[.int .i64 0, .int .i64 1, .int .i64 2, .int .i64 0, .int .i64 1, .int .i64 2, .int .i64 (-1), .int .i64 3] 3)
  have pg : p < w2.heap.size := CC.lt
  have LB : Blk w2.heap.size [.int .i64 0, .int .i64 1, .int .i64 2, .int .i64 0, .int .i64 1, .int .i64 2, .int .i64 (-1), .int .i64 3] w3 := by rw [← hw3]; exact Blk.new _ _ _
  rw [hw3] at RBN CCN BBN
  clear RB CC BB
  have RB := RBN
  have CC := CCN
  have BB := BBN
  clear RBN CCN BBN
  have HX := pickI w2.heap.size 8 [0, 1, 2, 0, 1, 2, -1, 3] CC.here (by omega) (by omega) pg LB.lt (by decide) LB (by decide)
  go_wp2_with fail
  try rw [hw3]
  refine HX.mono ?_
  clear HX hw3
  rintro en w4 ⟨a, rfl, ai, C⟩
  have RBN := RB.only C.2 RB.lt (by omega)
  have BBN := BB.trans (C.2.below (B := W.heap.size) (by omega) CC.lt)
  have CCN := C.here
  clear RB CC BB
  have RB := RBN
  have CC := CCN
  have BB := BBN
  clear RBN CCN BBN
  clear C
  clear LB pg
  obtain ⟨w5, hw5⟩ : ∃ v, w4.alloc (.cells #[.int .i64 0, .int .i64 1, .int .i64 2, .int .i64 0, .int .i64 1, .int .i64 2, .int .i64 (-1), .int .i64 3] 3) = v := ⟨_, rfl⟩
  have RBN := RB.alloc RB.lt (.cells #[.int .i64 0, .int .i64 1, .int .i64 2, .int .i64 0, .int .i64 1, .int .i64 2, .int .i64 (-1), .int .i64 3] 3)
  have CCN := (CC.alloc (.cells #[.int .i64 0, .int .i64 1, .int .i64 2, .int .i64 0, .int .i64 1, .int .i64 2, .int .i64 (-1), .int .i64 3] 3)).here
  have BBN := BB.alloc BB.size (.cells #[.int .i64 0, .int .i64 1, .int .i64 2, .int .i64 0, .int .i64 1, .int .i64 2, .int .i64 (-1), .int .i64 3] 3)
  have pg : p < w4.heap.size := CC.lt
  have LB : Blk w4.heap.size [.int .i64 0, .int .i64 1, .int .i64 2, .int .i64 0, .int .i64 1, .int .i64 2, .int .i64 (-1), .int .i64 3] w5 := by rw [← hw5]; exact Blk.new _ _ _
  rw [hw5] at RBN CCN BBN
  clear RB CC BB
  have RB := RBN
  have CC := CCN
  have BB := BBN
  clear RBN CCN BBN
  have HX := pickI w4.heap.size 8 [0, 1, 2, 0, 1, 2, -1, 3] CC.here (by omega) (by omega) pg LB.lt (by decide) LB (by decide)
  go_wp2_with fail
  try rw [hw5]
  refine HX.mono ?_
  clear HX hw5
  rintro en w6 ⟨b, rfl, bi, C⟩
  have RBN := RB.only C.2 RB.lt (by omega)
  have BBN := BB.trans (C.2.below (B := W.heap.size) (by omega) CC.lt)
  have CCN := C.here
  clear RB CC BB
  have RB := RBN
  have CC := CCN
  have BB := BBN
  clear RBN CCN BBN
  clear C
  clear LB pg
  have pB : p < w6.heap.size := CC.lt
  have HX := anyC CC
  go_wp2_with fail
  refine HX.mono ?_
  clear HX
  rintro en w7 ⟨c, rfl, lm, OC, C⟩
  have RBN := RB.only C.2 RB.lt (by omega)
  have BBN := BB.trans (C.2.below (B := W.heap.size) (by omega) CC.lt)
  have CCN := C.here
  have zB := C.size
  clear RB CC BB
  have RB := RBN
  have CC := CCN
  have BB := BBN
  clear RBN CCN BBN
  clear C
  generalize w6.heap.size = B at OC pB zB
  obtain ⟨q, hq⟩ : ∃ q, w7.heap.size = q := ⟨_, rfl⟩
  obtain ⟨w8, hw8⟩ : ∃ v, w7.alloc (.cells #[.slice c.ua c.U.length c.uc, .slice c.sa c.S.length c.sc, .slice c.la c.L.length c.lc, .slice c.xa c.X.length c.xc, .int .i64 c.k] 30) = v := ⟨_, rfl⟩
  have KK : KD B q c w8 := by
    rw [← hw8, ← hq]
    refine ⟨Blk.new _ _ _, OC.later ((Below.refl _ _).alloc (Nat.le_refl _) _), fun i hi e => ?_, zB⟩
    have := ((OC.own i hi).lt _ e).2
    omega
  have RBN : Blk W.heap.size [.slice none 0 0, .slice none 0 0, .slice none 0 0, .slice none 0 0, .int .i64 0] w8 := by rw [← hw8]; exact RB.alloc RB.lt _
  have CCN : Cu p ad len cap zs w8 w8 := by rw [← hw8]; exact (CC.alloc _).here
  have BBN : Below W.heap.size W w8 := by rw [← hw8]; exact BB.alloc BB.size _
  rw [hq] at zB
  clear RB CC BB OC
  have RB := RBN
  have CC := CCN
  have BB := BBN
  clear RBN CCN BBN
  have HX := onceW 3 CC (by omega)
  go_wp2_with fail
  try rw [hw8]
  try rw [hq]
  refine HX.mono ?_
  clear HX hw8 hq
  rintro en w9 ⟨bb, rfl, C⟩
  have RBN := RB.only C.2 RB.lt (by omega)
  have KKN := KK.draw C.2 (by omega)
  have BBN := BB.trans (C.2.below (B := W.heap.size) (by omega) CC.lt)
  have CCN := C.here
  clear RB KK BB CC C
  have RB := RBN
  have KK := KKN
  have BB := BBN
  have CC := CCN
  clear RBN KKN BBN CCN
  have HO : Hid (CfOk c) := KK.own.ok (by have := lm.u; omega) (by have := lm.s; omega) (by have := lm.l; omega) (by have := lm.x; omega)
  cases bb with
  | false =>
    clear lm
    have QB := KK.blk
    have OC := KK.own
    clear KK
    have r0 := RB.at 0 rfl
    have r1 := RB.at 1 rfl
    have r2 := RB.at 2 rfl
    have r3 := RB.at 3 rfl
    have r4 := RB.at 4 rfl
    have g0 := RB.fz 0 rfl
    have g1 := RB.fz 1 rfl
    have g2 := RB.fz 2 rfl
    have g3 := RB.fz 3 rfl
    have g4 := RB.fz 4 rfl
    have q0 := QB.at 0 rfl
    have q1 := QB.at 1 rfl
    have q2 := QB.at 2 rfl
    have q3 := QB.at 3 rfl
    have q4 := QB.at 4 rfl
    have F := show Hid _ from (show Blk W.heap.size c.cells ((((((w9).setCell ⟨W.heap.size, 0, none⟩ (.slice c.ua c.U.length c.uc)).setCell ⟨W.heap.size, 1, none⟩ (.slice c.sa c.S.length c.sc)).setCell ⟨W.heap.size, 2, none⟩ (.slice c.la c.L.length c.lc)).setCell ⟨W.heap.size, 3, none⟩ (.slice c.xa c.X.length c.xc)).setCell ⟨W.heap.size, 4, none⟩ (.int .i64 c.k)) ∧ Below W.heap.size W ((((((w9).setCell ⟨W.heap.size, 0, none⟩ (.slice c.ua c.U.length c.uc)).setCell ⟨W.heap.size, 1, none⟩ (.slice c.sa c.S.length c.sc)).setCell ⟨W.heap.size, 2, none⟩ (.slice c.la c.L.length c.lc)).setCell ⟨W.heap.size, 3, none⟩ (.slice c.xa c.X.length c.xc)).setCell ⟨W.heap.size, 4, none⟩ (.int .i64 c.k)) ∧ CfAt c ((((((w9).setCell ⟨W.heap.size, 0, none⟩ (.slice c.ua c.U.length c.uc)).setCell ⟨W.heap.size, 1, none⟩ (.slice c.sa c.S.length c.sc)).setCell ⟨W.heap.size, 2, none⟩ (.slice c.la c.L.length c.lc)).setCell ⟨W.heap.size, 3, none⟩ (.slice c.xa c.X.length c.xc)).setCell ⟨W.heap.size, 4, none⟩ (.int .i64 c.k)) from ⟨(((((RB.set 0 (.slice c.ua c.U.length c.uc)).set 1 (.slice c.sa c.S.length c.sc)).set 2 (.slice c.la c.L.length c.lc)).set 3 (.slice c.xa c.X.length c.xc)).set 4 (.int .i64 c.k)), (((((BB.setCell (p := ⟨W.heap.size, 0, none⟩) (Nat.le_refl _) (.slice c.ua c.U.length c.uc)).setCell (p := ⟨W.heap.size, 1, none⟩) (Nat.le_refl _) (.slice c.sa c.S.length c.sc)).setCell (p := ⟨W.heap.size, 2, none⟩) (Nat.le_refl _) (.slice c.la c.L.length c.lc)).setCell (p := ⟨W.heap.size, 3, none⟩) (Nat.le_refl _) (.slice c.xa c.X.length c.xc)).setCell (p := ⟨W.heap.size, 4, none⟩) (Nat.le_refl _) (.int .i64 c.k)), OwnC.at (((((OC.set (a := ⟨W.heap.size, 0, none⟩) (by dsimp only; omega) (.slice c.ua c.U.length c.uc)).set (a := ⟨W.heap.size, 1, none⟩) (by dsimp only; omega) (.slice c.sa c.S.length c.sc)).set (a := ⟨W.heap.size, 2, none⟩) (by dsimp only; omega) (.slice c.la c.L.length c.lc)).set (a := ⟨W.heap.size, 3, none⟩) (by dsimp only; omega) (.slice c.xa c.X.length c.xc)).set (a := ⟨W.heap.size, 4, none⟩) (by dsimp only; omega) (.int .i64 c.k))⟩)
    have NQ : ¬ q = W.heap.size := by omega
    have NR : ¬ W.heap.size = q := by omega
    clear RB QB CC OC BB
    go_wp2
    have G := F.out
    exact bodyPost_ret (res_cab rfl _ _ W.heap.size _ _ _ _ _ (.int .i64 a) (.int .i64 b) rfl rfl rfl (G.1.at 0 rfl) (G.1.at 1 rfl) (G.1.at 2 rfl) (G.1.at 3 rfl) (G.1.at 4 rfl)) rfl ⟨c, a, b, rfl, ai, bi, G.2.2, HO.out, G.2.1⟩
  | true =>
    have d2 := KK.blk.at 2 rfl
    by_cases h2 : 2 < c.L.length
    · have h22 : (2 : Int) < (c.L.length : Int) := by omega
      have h23 : decide ((2 : Int) < (c.L.length : Int)) = true := decide_eq_true h22
      obtain ⟨g, cp, eg⟩ := ownsRow_form (KK.own.own 2 (by omega)) (show 0 < c.L.length by omega)
      replace eg : Value.slice c.la c.L.length c.lc = .slice (some ⟨g, 0, none⟩) c.L.length cp := eg
      injection eg with eg _ eg2
      rw [eg] at d2
      have e1 : w9.drew.cell? ⟨q, 2, none⟩ = _ := d2
      clear eg2 lm
      go_wp2_with fail
      refine wp_region_any (by kernel_rfl) ?_
      show wpAny _ _ _ _ _ _ _ w9.drew
      refine take_any 0 27 (v := ?_) rfl rfl (by kernel_rfl) (by kernel_rfl) (by kernel_rfl) (fun _ _ _ h => h) (Or.inl ⟨by rfl, ?_⟩) ?_
      rotate_left
      · intro w'; go_simp; try with_reducible rfl
      try simp only [Act.put, List.setIfInBounds_toArray, List.set_cons_zero, List.set_cons_succ]
      refine take_any 2 29 (v := ?_) rfl rfl (by kernel_rfl) (by kernel_rfl) (by kernel_rfl) (fun _ _ _ h => h) (Or.inl ⟨by rfl, ?_⟩) ?_
      rotate_left
      · intro w'; go_simp; try with_reducible rfl
      try simp only [Act.put, List.setIfInBounds_toArray, List.set_cons_zero, List.set_cons_succ]
      refine wpAny_ready (rs := [1, 3]) (by kernel_rfl) (by simp) ?_
      refine AllReady.cons (i := 1) rfl (fun K hK => ?_) (AllReady.cons (i := 3) rfl (fun K hK => ?_) AllReady.nil)
      · go_simp
        refine hK _ _ ?_
        clear hK K
        try simp only [Act.put, List.setIfInBounds_toArray, List.set_cons_zero, List.set_cons_succ]
        refine wpAny_ready (rs := [3]) (by kernel_rfl) (by simp) ?_
        refine AllReady.cons (i := 3) rfl (fun K hK => ?_) AllReady.nil
        have hK3 : Shut _ := hK
        clear hK
        go_simp
        refine (belowW 3 CC.drew.here (by omega) (by omega)).mono ?_
        rintro en w8 ⟨x, rfl, xa, xb, C⟩
        have K8 := KK.drew.draw C.2 (by omega)
        have R8 := RB.drew.only C.2 RB.drew.lt (by omega)
        have B8 := BB.drew.trans (C.2.below (B := W.heap.size) (by omega) CC.drew.lt)
        have e8 := K8.blk.at 2 rfl
        rw [eg] at e8
        go_wp2_with fail
        refine hK3.out _ _ ?_
        clear hK3 K
        try simp only [Act.put, List.setIfInBounds_toArray, List.set_cons_zero, List.set_cons_succ]
        obtain ⟨n, rfl⟩ := Int.eq_ofNat_of_zero_le xa
        have n3 : n < 3 := by omega
        have hcl := HO.out.cl
        have nc : (n : Int) ≤ (c.lc : Int) := by omega
        have nc2 : n ≤ c.lc := by omega
        have hln : (c.L.take n).length = n := by rw [List.length_take]; omega
        have f8 := K8.blk.fz 2 rfl
        refine take_any 4 31 (v := ?_) rfl rfl (by kernel_rfl) (by kernel_rfl) (by kernel_rfl) (fun _ _ _ h => h) (Or.inl ⟨by rfl, ?_⟩) ?_
        rotate_left
        · intro w'; go_simp; try with_reducible rfl
        try simp only [Act.put, List.setIfInBounds_toArray, List.set_cons_zero, List.set_cons_succ]
        refine take_any 5 32 (v := ?_) rfl rfl (by kernel_rfl) (by kernel_rfl) (by kernel_rfl) (fun _ _ _ h => h) (Or.inl ⟨by rfl, ?_⟩) ?_
        rotate_left
        · intro w'; go_simp; try with_reducible rfl
        try simp only [Act.put, List.setIfInBounds_toArray, List.set_cons_zero, List.set_cons_succ]
        refine wpAny_ready (rs := [6]) (by kernel_rfl) (by simp) ?_
        refine AllReady.cons (i := 6) rfl (fun K hK => ?_) AllReady.nil
        go_simp
        refine hK _ _ ?_
        clear hK K
        try simp only [Act.put, List.setIfInBounds_toArray, List.set_cons_zero, List.set_cons_succ]
        refine wpAny_done (by kernel_rfl) ?_ _
        have QB : Blk q ((⟨c.ua, c.uc, c.U, c.sa, c.sc, c.S, some ⟨g, 0, none⟩, c.lc, c.L.take n, c.xa, c.xc, c.X, c.k⟩ : Cf)).cells (w8.setCell ⟨q, 2, none⟩ (.slice (some ⟨g, 0, none⟩) n c.lc)) := by
          have := K8.blk.set 2 (.slice (some ⟨g, 0, none⟩) n c.lc)
          show Blk q [_, _, .slice (some ⟨g, 0, none⟩) (c.L.take n).length c.lc, _, _] _
          rw [hln]
          exact this
        have OC := K8.own.setq K8.nq 2 (.slice (some ⟨g, 0, none⟩) n c.lc)
        have RBN := R8.far (g' := q) (by omega) 2 (.slice (some ⟨g, 0, none⟩) n c.lc)
        have BBN := B8.setCell (p := ⟨q, 2, none⟩) (by dsimp only; omega) (.slice (some ⟨g, 0, none⟩) n c.lc)
        have HO2 : Hid (CfOk (⟨c.ua, c.uc, c.U, c.sa, c.sc, c.S, some ⟨g, 0, none⟩, c.lc, c.L.take n, c.xa, c.xc, c.X, c.k⟩ : Cf)) := ⟨HO.out.lu, HO.out.ls, by show (c.L.take n).length ≤ _; omega, HO.out.lx, by show (c.L.take n).length ≤ c.lc; omega, HO.out.cx⟩
        have HA : Hid (∀ w : World, CfAt c w → CfAt (⟨c.ua, c.uc, c.U, c.sa, c.sc, c.S, some ⟨g, 0, none⟩, c.lc, c.L.take n, c.xa, c.xc, c.X, c.k⟩ : Cf) w) := (fun w h => ⟨h.hu, h.hs, by have := h.hl.take n; rw [eg] at this; exact this, h.hx⟩ : ∀ w : World, CfAt c w → CfAt (⟨c.ua, c.uc, c.U, c.sa, c.sc, c.S, some ⟨g, 0, none⟩, c.lc, c.L.take n, c.xa, c.xc, c.X, c.k⟩ : Cf) w)
        clear RB BB CC K8 R8 B8 C e8 f8 e1 d2 hln
        have RB := RBN
        have BB := BBN
        have CC := True.intro
        clear RBN BBN
        generalize w8.setCell ⟨q, 2, none⟩ (.slice (some ⟨g, 0, none⟩) n c.lc) = w10 at QB OC RB BB ⊢
        generalize (⟨c.ua, c.uc, c.U, c.sa, c.sc, c.S, some ⟨g, 0, none⟩, c.lc, c.L.take n, c.xa, c.xc, c.X, c.k⟩ : Cf) = c1 at QB HO2 HA
        clear KK
        have r0 := RB.at 0 rfl
        have r1 := RB.at 1 rfl
        have r2 := RB.at 2 rfl
        have r3 := RB.at 3 rfl
        have r4 := RB.at 4 rfl
        have g0 := RB.fz 0 rfl
        have g1 := RB.fz 1 rfl
        have g2 := RB.fz 2 rfl
        have g3 := RB.fz 3 rfl
        have g4 := RB.fz 4 rfl
        have q0 := QB.at 0 rfl
        have q1 := QB.at 1 rfl
        have q2 := QB.at 2 rfl
        have q3 := QB.at 3 rfl
        have q4 := QB.at 4 rfl
        have F := show Hid _ from (show Blk W.heap.size c1.cells ((((((w10).setCell ⟨W.heap.size, 0, none⟩ (.slice c1.ua c1.U.length c1.uc)).setCell ⟨W.heap.size, 1, none⟩ (.slice c1.sa c1.S.length c1.sc)).setCell ⟨W.heap.size, 2, none⟩ (.slice c1.la c1.L.length c1.lc)).setCell ⟨W.heap.size, 3, none⟩ (.slice c1.xa c1.X.length c1.xc)).setCell ⟨W.heap.size, 4, none⟩ (.int .i64 c1.k)) ∧ Below W.heap.size W ((((((w10).setCell ⟨W.heap.size, 0, none⟩ (.slice c1.ua c1.U.length c1.uc)).setCell ⟨W.heap.size, 1, none⟩ (.slice c1.sa c1.S.length c1.sc)).setCell ⟨W.heap.size, 2, none⟩ (.slice c1.la c1.L.length c1.lc)).setCell ⟨W.heap.size, 3, none⟩ (.slice c1.xa c1.X.length c1.xc)).setCell ⟨W.heap.size, 4, none⟩ (.int .i64 c1.k)) ∧ CfAt c1 ((((((w10).setCell ⟨W.heap.size, 0, none⟩ (.slice c1.ua c1.U.length c1.uc)).setCell ⟨W.heap.size, 1, none⟩ (.slice c1.sa c1.S.length c1.sc)).setCell ⟨W.heap.size, 2, none⟩ (.slice c1.la c1.L.length c1.lc)).setCell ⟨W.heap.size, 3, none⟩ (.slice c1.xa c1.X.length c1.xc)).setCell ⟨W.heap.size, 4, none⟩ (.int .i64 c1.k)) from ⟨(((((RB.set 0 (.slice c1.ua c1.U.length c1.uc)).set 1 (.slice c1.sa c1.S.length c1.sc)).set 2 (.slice c1.la c1.L.length c1.lc)).set 3 (.slice c1.xa c1.X.length c1.xc)).set 4 (.int .i64 c1.k)), (((((BB.setCell (p := ⟨W.heap.size, 0, none⟩) (Nat.le_refl _) (.slice c1.ua c1.U.length c1.uc)).setCell (p := ⟨W.heap.size, 1, none⟩) (Nat.le_refl _) (.slice c1.sa c1.S.length c1.sc)).setCell (p := ⟨W.heap.size, 2, none⟩) (Nat.le_refl _) (.slice c1.la c1.L.length c1.lc)).setCell (p := ⟨W.heap.size, 3, none⟩) (Nat.le_refl _) (.slice c1.xa c1.X.length c1.xc)).setCell (p := ⟨W.heap.size, 4, none⟩) (Nat.le_refl _) (.int .i64 c1.k)), HA.out _ (OwnC.at (((((OC.set (a := ⟨W.heap.size, 0, none⟩) (by dsimp only; omega) (.slice c1.ua c1.U.length c1.uc)).set (a := ⟨W.heap.size, 1, none⟩) (by dsimp only; omega) (.slice c1.sa c1.S.length c1.sc)).set (a := ⟨W.heap.size, 2, none⟩) (by dsimp only; omega) (.slice c1.la c1.L.length c1.lc)).set (a := ⟨W.heap.size, 3, none⟩) (by dsimp only; omega) (.slice c1.xa c1.X.length c1.xc)).set (a := ⟨W.heap.size, 4, none⟩) (by dsimp only; omega) (.int .i64 c1.k)))⟩)
        have NQ : ¬ q = W.heap.size := by omega
        have NR : ¬ W.heap.size = q := by omega
        clear RB QB CC OC BB
        go_wp2
        have G := F.out
        exact bodyPost_ret (res_cab rfl _ _ W.heap.size _ _ _ _ _ (.int .i64 a) (.int .i64 b) rfl rfl rfl (G.1.at 0 rfl) (G.1.at 1 rfl) (G.1.at 2 rfl) (G.1.at 3 rfl) (G.1.at 4 rfl)) rfl ⟨c1, a, b, rfl, ai, bi, G.2.2, HO2.out, G.2.1⟩
      · have hK3 : Shut _ := hK
        clear hK
        go_simp
        refine (belowW 3 CC.drew.here (by omega) (by omega)).mono ?_
        rintro en w8 ⟨x, rfl, xa, xb, C⟩
        have K8 := KK.drew.draw C.2 (by omega)
        have R8 := RB.drew.only C.2 RB.drew.lt (by omega)
        have B8 := BB.drew.trans (C.2.below (B := W.heap.size) (by omega) CC.drew.lt)
        have e8 := K8.blk.at 2 rfl
        rw [eg] at e8
        go_wp2_with fail
        refine hK3.out _ _ ?_
        clear hK3 K
        try simp only [Act.put, List.setIfInBounds_toArray, List.set_cons_zero, List.set_cons_succ]
        refine wpAny_ready (rs := [1]) (by kernel_rfl) (by simp) ?_
        refine AllReady.cons (i := 1) rfl (fun K hK => ?_) AllReady.nil
        go_simp
        refine hK _ _ ?_
        clear hK K
        try simp only [Act.put, List.setIfInBounds_toArray, List.set_cons_zero, List.set_cons_succ]
        obtain ⟨n, rfl⟩ := Int.eq_ofNat_of_zero_le xa
        have n3 : n < 3 := by omega
        have hcl := HO.out.cl
        have nc : (n : Int) ≤ (c.lc : Int) := by omega
        have nc2 : n ≤ c.lc := by omega
        have hln : (c.L.take n).length = n := by rw [List.length_take]; omega
        have f8 := K8.blk.fz 2 rfl
        refine take_any 4 31 (v := ?_) rfl rfl (by kernel_rfl) (by kernel_rfl) (by kernel_rfl) (fun _ _ _ h => h) (Or.inl ⟨by rfl, ?_⟩) ?_
        rotate_left
        · intro w'; go_simp; try with_reducible rfl
        try simp only [Act.put, List.setIfInBounds_toArray, List.set_cons_zero, List.set_cons_succ]
        refine take_any 5 32 (v := ?_) rfl rfl (by kernel_rfl) (by kernel_rfl) (by kernel_rfl) (fun _ _ _ h => h) (Or.inl ⟨by rfl, ?_⟩) ?_
        rotate_left
        · intro w'; go_simp; try with_reducible rfl
        try simp only [Act.put, List.setIfInBounds_toArray, List.set_cons_zero, List.set_cons_succ]
        refine wpAny_ready (rs := [6]) (by kernel_rfl) (by simp) ?_
        refine AllReady.cons (i := 6) rfl (fun K hK => ?_) AllReady.nil
        go_simp
        refine hK _ _ ?_
        clear hK K
        try simp only [Act.put, List.setIfInBounds_toArray, List.set_cons_zero, List.set_cons_succ]
        refine wpAny_done (by kernel_rfl) ?_ _
        have QB : Blk q ((⟨c.ua, c.uc, c.U, c.sa, c.sc, c.S, some ⟨g, 0, none⟩, c.lc, c.L.take n, c.xa, c.xc, c.X, c.k⟩ : Cf)).cells (w8.setCell ⟨q, 2, none⟩ (.slice (some ⟨g, 0, none⟩) n c.lc)) := by
          have := K8.blk.set 2 (.slice (some ⟨g, 0, none⟩) n c.lc)
          show Blk q [_, _, .slice (some ⟨g, 0, none⟩) (c.L.take n).length c.lc, _, _] _
          rw [hln]
          exact this
        have OC := K8.own.setq K8.nq 2 (.slice (some ⟨g, 0, none⟩) n c.lc)
        have RBN := R8.far (g' := q) (by omega) 2 (.slice (some ⟨g, 0, none⟩) n c.lc)
        have BBN := B8.setCell (p := ⟨q, 2, none⟩) (by dsimp only; omega) (.slice (some ⟨g, 0, none⟩) n c.lc)
        have HO2 : Hid (CfOk (⟨c.ua, c.uc, c.U, c.sa, c.sc, c.S, some ⟨g, 0, none⟩, c.lc, c.L.take n, c.xa, c.xc, c.X, c.k⟩ : Cf)) := ⟨HO.out.lu, HO.out.ls, by show (c.L.take n).length ≤ _; omega, HO.out.lx, by show (c.L.take n).length ≤ c.lc; omega, HO.out.cx⟩
        have HA : Hid (∀ w : World, CfAt c w → CfAt (⟨c.ua, c.uc, c.U, c.sa, c.sc, c.S, some ⟨g, 0, none⟩, c.lc, c.L.take n, c.xa, c.xc, c.X, c.k⟩ : Cf) w) := (fun w h => ⟨h.hu, h.hs, by have := h.hl.take n; rw [eg] at this; exact this, h.hx⟩ : ∀ w : World, CfAt c w → CfAt (⟨c.ua, c.uc, c.U, c.sa, c.sc, c.S, some ⟨g, 0, none⟩, c.lc, c.L.take n, c.xa, c.xc, c.X, c.k⟩ : Cf) w)
        clear RB BB CC K8 R8 B8 C e8 f8 e1 d2 hln
        have RB := RBN
        have BB := BBN
        have CC := True.intro
        clear RBN BBN
        generalize w8.setCell ⟨q, 2, none⟩ (.slice (some ⟨g, 0, none⟩) n c.lc) = w10 at QB OC RB BB ⊢
        generalize (⟨c.ua, c.uc, c.U, c.sa, c.sc, c.S, some ⟨g, 0, none⟩, c.lc, c.L.take n, c.xa, c.xc, c.X, c.k⟩ : Cf) = c1 at QB HO2 HA
        clear KK
        have r0 := RB.at 0 rfl
        have r1 := RB.at 1 rfl
        have r2 := RB.at 2 rfl
        have r3 := RB.at 3 rfl
        have r4 := RB.at 4 rfl
        have g0 := RB.fz 0 rfl
        have g1 := RB.fz 1 rfl
        have g2 := RB.fz 2 rfl
        have g3 := RB.fz 3 rfl
        have g4 := RB.fz 4 rfl
        have q0 := QB.at 0 rfl
        have q1 := QB.at 1 rfl
        have q2 := QB.at 2 rfl
        have q3 := QB.at 3 rfl
        have q4 := QB.at 4 rfl
        have F := show Hid _ from (show Blk W.heap.size c1.cells ((((((w10).setCell ⟨W.heap.size, 0, none⟩ (.slice c1.ua c1.U.length c1.uc)).setCell ⟨W.heap.size, 1, none⟩ (.slice c1.sa c1.S.length c1.sc)).setCell ⟨W.heap.size, 2, none⟩ (.slice c1.la c1.L.length c1.lc)).setCell ⟨W.heap.size, 3, none⟩ (.slice c1.xa c1.X.length c1.xc)).setCell ⟨W.heap.size, 4, none⟩ (.int .i64 c1.k)) ∧ Below W.heap.size W ((((((w10).setCell ⟨W.heap.size, 0, none⟩ (.slice c1.ua c1.U.length c1.uc)).setCell ⟨W.heap.size, 1, none⟩ (.slice c1.sa c1.S.length c1.sc)).setCell ⟨W.heap.size, 2, none⟩ (.slice c1.la c1.L.length c1.lc)).setCell ⟨W.heap.size, 3, none⟩ (.slice c1.xa c1.X.length c1.xc)).setCell ⟨W.heap.size, 4, none⟩ (.int .i64 c1.k)) ∧ CfAt c1 ((((((w10).setCell ⟨W.heap.size, 0, none⟩ (.slice c1.ua c1.U.length c1.uc)).setCell ⟨W.heap.size, 1, none⟩ (.slice c1.sa c1.S.length c1.sc)).setCell ⟨W.heap.size, 2, none⟩ (.slice c1.la c1.L.length c1.lc)).setCell ⟨W.heap.size, 3, none⟩ (.slice c1.xa c1.X.length c1.xc)).setCell ⟨W.heap.size, 4, none⟩ (.int .i64 c1.k)) from ⟨(((((RB.set 0 (.slice c1.ua c1.U.length c1.uc)).set 1 (.slice c1.sa c1.S.length c1.sc)).set 2 (.slice c1.la c1.L.length c1.lc)).set 3 (.slice c1.xa c1.X.length c1.xc)).set 4 (.int .i64 c1.k)), (((((BB.setCell (p := ⟨W.heap.size, 0, none⟩) (Nat.le_refl _) (.slice c1.ua c1.U.length c1.uc)).setCell (p := ⟨W.heap.size, 1, none⟩) (Nat.le_refl _) (.slice c1.sa c1.S.length c1.sc)).setCell (p := ⟨W.heap.size, 2, none⟩) (Nat.le_refl _) (.slice c1.la c1.L.length c1.lc)).setCell (p := ⟨W.heap.size, 3, none⟩) (Nat.le_refl _) (.slice c1.xa c1.X.length c1.xc)).setCell (p := ⟨W.heap.size, 4, none⟩) (Nat.le_refl _) (.int .i64 c1.k)), HA.out _ (OwnC.at (((((OC.set (a := ⟨W.heap.size, 0, none⟩) (by dsimp only; omega) (.slice c1.ua c1.U.length c1.uc)).set (a := ⟨W.heap.size, 1, none⟩) (by dsimp only; omega) (.slice c1.sa c1.S.length c1.sc)).set (a := ⟨W.heap.size, 2, none⟩) (by dsimp only; omega) (.slice c1.la c1.L.length c1.lc)).set (a := ⟨W.heap.size, 3, none⟩) (by dsimp only; omega) (.slice c1.xa c1.X.length c1.xc)).set (a := ⟨W.heap.size, 4, none⟩) (by dsimp only; omega) (.int .i64 c1.k)))⟩)
        have NQ : ¬ q = W.heap.size := by omega
        have NR : ¬ W.heap.size = q := by omega
        clear RB QB CC OC BB
        go_wp2
        have G := F.out
        exact bodyPost_ret (res_cab rfl _ _ W.heap.size _ _ _ _ _ (.int .i64 a) (.int .i64 b) rfl rfl rfl (G.1.at 0 rfl) (G.1.at 1 rfl) (G.1.at 2 rfl) (G.1.at 3 rfl) (G.1.at 4 rfl)) rfl ⟨c1, a, b, rfl, ai, bi, G.2.2, HO2.out, G.2.1⟩
    · have h22 : ¬ ((2 : Int) < (c.L.length : Int)) := by omega
      have h23 : decide ((2 : Int) < (c.L.length : Int)) = false := decide_eq_false h22
      clear lm
      have QB := KK.blk
      have OC := KK.own
      clear KK
      have r0 := RB.at 0 rfl
      have r1 := RB.at 1 rfl
      have r2 := RB.at 2 rfl
      have r3 := RB.at 3 rfl
      have r4 := RB.at 4 rfl
      have g0 := RB.fz 0 rfl
      have g1 := RB.fz 1 rfl
      have g2 := RB.fz 2 rfl
      have g3 := RB.fz 3 rfl
      have g4 := RB.fz 4 rfl
      have q0 := QB.at 0 rfl
      have q1 := QB.at 1 rfl
      have q2 := QB.at 2 rfl
      have q3 := QB.at 3 rfl
      have q4 := QB.at 4 rfl
      have F := show Hid _ from (show Blk W.heap.size c.cells ((((((w9).setCell ⟨W.heap.size, 0, none⟩ (.slice c.ua c.U.length c.uc)).setCell ⟨W.heap.size, 1, none⟩ (.slice c.sa c.S.length c.sc)).setCell ⟨W.heap.size, 2, none⟩ (.slice c.la c.L.length c.lc)).setCell ⟨W.heap.size, 3, none⟩ (.slice c.xa c.X.length c.xc)).setCell ⟨W.heap.size, 4, none⟩ (.int .i64 c.k)) ∧ Below W.heap.size W ((((((w9).setCell ⟨W.heap.size, 0, none⟩ (.slice c.ua c.U.length c.uc)).setCell ⟨W.heap.size, 1, none⟩ (.slice c.sa c.S.length c.sc)).setCell ⟨W.heap.size, 2, none⟩ (.slice c.la c.L.length c.lc)).setCell ⟨W.heap.size, 3, none⟩ (.slice c.xa c.X.length c.xc)).setCell ⟨W.heap.size, 4, none⟩ (.int .i64 c.k)) ∧ CfAt c ((((((w9).setCell ⟨W.heap.size, 0, none⟩ (.slice c.ua c.U.length c.uc)).setCell ⟨W.heap.size, 1, none⟩ (.slice c.sa c.S.length c.sc)).setCell ⟨W.heap.size, 2, none⟩ (.slice c.la c.L.length c.lc)).setCell ⟨W.heap.size, 3, none⟩ (.slice c.xa c.X.length c.xc)).setCell ⟨W.heap.size, 4, none⟩ (.int .i64 c.k)) from ⟨(((((RB.set 0 (.slice c.ua c.U.length c.uc)).set 1 (.slice c.sa c.S.length c.sc)).set 2 (.slice c.la c.L.length c.lc)).set 3 (.slice c.xa c.X.length c.xc)).set 4 (.int .i64 c.k)), (((((BB.setCell (p := ⟨W.heap.size, 0, none⟩) (Nat.le_refl _) (.slice c.ua c.U.length c.uc)).setCell (p := ⟨W.heap.size, 1, none⟩) (Nat.le_refl _) (.slice c.sa c.S.length c.sc)).setCell (p := ⟨W.heap.size, 2, none⟩) (Nat.le_refl _) (.slice c.la c.L.length c.lc)).setCell (p := ⟨W.heap.size, 3, none⟩) (Nat.le_refl _) (.slice c.xa c.X.length c.xc)).setCell (p := ⟨W.heap.size, 4, none⟩) (Nat.le_refl _) (.int .i64 c.k)), OwnC.at (((((OC.set (a := ⟨W.heap.size, 0, none⟩) (by dsimp only; omega) (.slice c.ua c.U.length c.uc)).set (a := ⟨W.heap.size, 1, none⟩) (by dsimp only; omega) (.slice c.sa c.S.length c.sc)).set (a := ⟨W.heap.size, 2, none⟩) (by dsimp only; omega) (.slice c.la c.L.length c.lc)).set (a := ⟨W.heap.size, 3, none⟩) (by dsimp only; omega) (.slice c.xa c.X.length c.xc)).set (a := ⟨W.heap.size, 4, none⟩) (by dsimp only; omega) (.int .i64 c.k))⟩)
      have NQ : ¬ q = W.heap.size := by omega
      have NR : ¬ W.heap.size = q := by omega
      clear RB QB CC OC BB
      go_wp2
      have G := F.out
      exact bodyPost_ret (res_cab rfl _ _ W.heap.size _ _ _ _ _ (.int .i64 a) (.int .i64 b) rfl rfl rfl (G.1.at 0 rfl) (G.1.at 1 rfl) (G.1.at 2 rfl) (G.1.at 3 rfl) (G.1.at 4 rfl)) rfl ⟨c, a, b, rfl, ai, bi, G.2.2, HO.out, G.2.1⟩
end Go.Proofs.Ytgmbgginddfnmaa
