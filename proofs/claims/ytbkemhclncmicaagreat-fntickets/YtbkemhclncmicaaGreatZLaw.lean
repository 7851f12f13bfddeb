/- The law on tickets, step by step. -/
import Derived.Lib.SmallJoins
import Derived.Test.YtbkemhclncmicaaGreatZLaw0
set_option linter.unusedVariables false
namespace Go.Proofs.YtbkemhclncmicaaGreat
open Go Go.RowKit Go.Joins Own Var Term Draw

set_option maxRecDepth 100000 in
set_option maxHeartbeats 51200000 in
theorem tickets_at (ad : Option Addr) (len cap : Nat) (zs : List Int) (W : World) (hl : len ≤ 1048576) (hz : CodeAt W W.heap.size ad len zs) :
    Calls Tryz.prog 3 #[.slice ad len cap] W fun e w' => e = .returned (.bool true) ∧ Below W.heap.size W w' := by
  have HZ : Hid (CodeAt W W.heap.size ad len zs) := hz
  clear hz
  have BB := Below.refl W.heap.size W
  go_enter Tryz.func3, Tryz.ntmps3
  go_wp2_with fail
  refine (big_go ad len cap W hl).mono ?_
  rintro e w0 ⟨rfl, rfl⟩
  have HX := drawT ad len cap zs W ((HZ.out.below BB).lt BB.size)
  go_wp2_with fail
  refine HX.mono ?_
  clear HX
  rintro en w1 ⟨c, s, k, a, b, e, pa, P, pc, va, V, vc, key, rfl, si, ki, hp, hv, lP, lV, hb⟩
  have BBN := BB.trans (hb.mono BB.size)
  clear BB
  have BB := BBN
  clear BBN
  clear hb
  obtain ⟨w2, hw2⟩ : ∃ v, w1.alloc (.cells #[.int .i64 c, .int .i64 s, .int .i64 k, .int .i64 a, .int .i64 b, .int .i64 e, .slice pa P.length pc, .slice va V.length vc] 28) = v := ⟨_, rfl⟩
  have hb : Below w1.heap.size w1 w2 := by rw [← hw2]; exact (Below.refl _ _).alloc (Nat.le_refl _) _
  have TB : Blk w1.heap.size [.int .i64 c, .int .i64 s, .int .i64 k, .int .i64 a, .int .i64 b, .int .i64 e, .slice pa P.length pc, .slice va V.length vc] w2 := by rw [← hw2]; exact Blk.new _ _ _
  have hpN := RowAt.later hp hb
  have hvN := RowAt.later hv hb
  have BBN := BB.trans (hb.mono BB.size)
  clear hp hv BB
  have hp := hpN
  have hv := hvN
  have BB := BBN
  clear hpN hvN BBN
  clear hb
  have lP2 : P.length ≤ 1048576 := by omega
  have lV2 : V.length ≤ 1048576 := by omega
  have d0 := TB.at 0 rfl
  have d1 := TB.at 1 rfl
  have d2 := TB.at 2 rfl
  have d3 := TB.at 3 rfl
  have d4 := TB.at 4 rfl
  have d5 := TB.at 5 rfl
  have d6 := TB.at 6 rfl
  have d7 := TB.at 7 rfl
  obtain ⟨X, hX⟩ : ∃ X, shT c s k a b e P V key = X := ⟨_, rfl⟩
  have zX : X.size ≤ 1048576 := by rw [← hX]; unfold shT; split; exact Nat.le_trans (sealT_size _ _) (by omega); show 0 ≤ 1048576; omega
  have HX := implShowT_is c s k a b e pa P pc va V vc key w2 si hp hv lP2 lV2
  go_wp2_with fail
  try rw [hw2]
  refine HX.mono ?_
  clear HX hw2 d0 d1 d2 d3 d4 d5 d6 d7
  rintro en w3 ⟨rfl, hb⟩
  have TBN := TB.later hb TB.lt
  have hpN := RowAt.later hp hb
  have hvN := RowAt.later hv hb
  have BBN := BB.trans (hb.mono BB.size)
  clear TB hp hv BB
  have TB := TBN
  have hp := hpN
  have hv := hvN
  have BB := BBN
  clear TBN hpN hvN BBN
  clear hb
  rw [hX]
  by_cases h0 : X.size = 0
  · have k0 := (shown_nil (key := key) h0).1
    have HR := implReadT_is X key w3 zX
    rw [k0, rtN_no k0, rtN_no k0, rtN_no k0, rtN_no k0, rtN_no k0, rtN_no k0, rtP_no k0, rtV_no k0] at HR
    clear k0
    have hne := nil_size X h0
    go_wp2_with fail
    refine HR.mono ?_
    clear HR
    rintro en w4 ⟨ua, uc, ub, ud, rfl, ou, ov, _, hb⟩
    have TBN := TB.later hb TB.lt
    have hpN := RowAt.later hp hb
    have hvN := RowAt.later hv hb
    have BBN := BB.trans (hb.mono BB.size)
    clear TB hp hv BB
    have TB := TBN
    have hp := hpN
    have hv := hvN
    have BB := BBN
    clear TBN hpN hvN BBN
    clear hb
    clear ou ov
    obtain ⟨w5, hw5⟩ : ∃ v, w4.alloc (.cells #[.int .i64 0, .int .i64 0, .int .i64 0, .int .i64 0, .int .i64 0, .int .i64 0, .slice ua 0 uc, .slice ub 0 ud] 28) = v := ⟨_, rfl⟩
    have hb : Below w4.heap.size w4 w5 := by rw [← hw5]; exact (Below.refl _ _).alloc (Nat.le_refl _) _
    have XB : Blk w4.heap.size [.int .i64 0, .int .i64 0, .int .i64 0, .int .i64 0, .int .i64 0, .int .i64 0, .slice ua 0 uc, .slice ub 0 ud] w5 := by rw [← hw5]; exact Blk.new _ _ _
    have TBN := TB.later hb TB.lt
    have hpN := RowAt.later hp hb
    have hvN := RowAt.later hv hb
    have BBN := BB.trans (hb.mono BB.size)
    clear TB hp hv BB
    have TB := TBN
    have hp := hpN
    have hv := hvN
    have BB := BBN
    clear TBN hpN hvN BBN
    clear hb
    have d0 := TB.at 0 rfl
    have d1 := TB.at 1 rfl
    have d2 := TB.at 2 rfl
    have d3 := TB.at 3 rfl
    have d4 := TB.at 4 rfl
    have d5 := TB.at 5 rfl
    have d6 := TB.at 6 rfl
    have d7 := TB.at 7 rfl
    have HX := specShowT_is c s k a b e pa P pc va V vc key w5 hp hv lP2 lV2
    go_wp2_with fail
    try rw [hw5]
    refine HX.mono ?_
    clear HX hw5 d0 d1 d2 d3 d4 d5 d6 d7
    rintro en w6 ⟨rfl, hb⟩
    have TBN := TB.later hb TB.lt
    have XBN := XB.later hb XB.lt
    have hpN := RowAt.later hp hb
    have hvN := RowAt.later hv hb
    have BBN := BB.trans (hb.mono BB.size)
    clear TB XB hp hv BB
    have TB := TBN
    have XB := XBN
    have hp := hpN
    have hv := hvN
    have BB := BBN
    clear TBN XBN hpN hvN BBN
    clear hb
    rw [hX]
    clear TB XB hp hv
    clear lP2 lV2 lP lV si
    have HX := drawA ad len cap zs w6 ((HZ.out.below BB).lt BB.size)
    go_wp2_with fail
    refine HX.mono ?_
    clear HX hne h0
    rintro en w7 ⟨c2, t2, q2, key2, rfl, ki2, hb⟩
    have BBN := BB.trans (hb.mono BB.size)
    clear BB
    have BB := BBN
    clear BBN
    clear hb
    obtain ⟨w8, hw8⟩ : ∃ v, w7.alloc (.cells #[.int .i64 c2, .int .i64 t2, .int .i64 q2] 36) = v := ⟨_, rfl⟩
    have hb : Below w7.heap.size w7 w8 := by rw [← hw8]; exact (Below.refl _ _).alloc (Nat.le_refl _) _
    have AB : Blk w7.heap.size [.int .i64 c2, .int .i64 t2, .int .i64 q2] w8 := by rw [← hw8]; exact Blk.new _ _ _
    have BBN := BB.trans (hb.mono BB.size)
    clear BB
    have BB := BBN
    clear BBN
    clear hb
    have d0 := AB.at 0 rfl
    have d1 := AB.at 1 rfl
    have d2 := AB.at 2 rfl
    obtain ⟨U, hU⟩ : ∃ X, shA c2 t2 q2 key2 = X := ⟨_, rfl⟩
    have zU : U.size ≤ 1048576 := by rw [← hU]; unfold shA; split; exact Nat.le_trans (sealT_size _ _) (by omega); show 0 ≤ 1048576; omega
    have HX := implShowA_is c2 t2 q2 key2 w8
    go_wp2_with fail
    try rw [hw8]
    refine HX.mono ?_
    clear HX hw8 d0 d1 d2
    rintro en w9 ⟨rfl, hb⟩
    have ABN := AB.later hb AB.lt
    have BBN := BB.trans (hb.mono BB.size)
    clear AB BB
    have AB := ABN
    have BB := BBN
    clear ABN BBN
    clear hb
    rw [hU]
    by_cases h1 : U.size = 0
    · have k0 := (shown_nil (key := key2) h1).2.1
      have HR := implReadA_is U key2 w9 zU
      rw [k0, raV_no k0, raV_no k0, raV_no k0] at HR
      clear k0
      have hne := nil_size U h1
      have HX := HR
      go_wp2_with fail
      refine HX.mono ?_
      clear HX
      rintro en w10 ⟨rfl, hb⟩
      have ABN := AB.later hb AB.lt
      have BBN := BB.trans (hb.mono BB.size)
      clear AB BB
      have AB := ABN
      have BB := BBN
      clear ABN BBN
      clear hb
      obtain ⟨w11, hw11⟩ : ∃ v, w10.alloc (.cells #[.int .i64 0, .int .i64 0, .int .i64 0] 36) = v := ⟨_, rfl⟩
      have hb : Below w10.heap.size w10 w11 := by rw [← hw11]; exact (Below.refl _ _).alloc (Nat.le_refl _) _
      have YB : Blk w10.heap.size [.int .i64 0, .int .i64 0, .int .i64 0] w11 := by rw [← hw11]; exact Blk.new _ _ _
      have ABN := AB.later hb AB.lt
      have BBN := BB.trans (hb.mono BB.size)
      clear AB BB
      have AB := ABN
      have BB := BBN
      clear ABN BBN
      clear hb
      have zs0 : w11.setCell ⟨w10.heap.size, 0, none⟩ (.int .i64 0) = w11 := by rw [← hw11]; simp [go_sem]
      have zc0 := YB.at 0 rfl
      have zf0 := YB.fz 0 rfl
      have zs1 : w11.setCell ⟨w10.heap.size, 1, none⟩ (.int .i64 0) = w11 := by rw [← hw11]; simp [go_sem]
      have zc1 := YB.at 1 rfl
      have zf1 := YB.fz 1 rfl
      have zs2 : w11.setCell ⟨w10.heap.size, 2, none⟩ (.int .i64 0) = w11 := by rw [← hw11]; simp [go_sem]
      have zc2 := YB.at 2 rfl
      have zf2 := YB.fz 2 rfl
      have d0 := AB.at 0 rfl
      have d1 := AB.at 1 rfl
      have d2 := AB.at 2 rfl
      have HX := specShowA_is c2 t2 q2 key2 w11
      go_wp2_with fail
      try rw [hw11]
      refine HX.mono ?_
      clear HX hw11 d0 d1 d2 zs0 zc0 zf0 zs1 zc1 zf1 zs2 zc2 zf2
      rintro en w12 ⟨rfl, hb⟩
      have ABN := AB.later hb AB.lt
      have YBN := YB.later hb YB.lt
      have BBN := BB.trans (hb.mono BB.size)
      clear AB YB BB
      have AB := ABN
      have YB := YBN
      have BB := BBN
      clear ABN YBN BBN
      clear hb
      rw [hU]
      have d0 := AB.at 0 rfl
      have d1 := AB.at 1 rfl
      have d2 := AB.at 2 rfl
      have e0 := YB.at 0 rfl
      have e1 := YB.at 1 rfl
      have e2 := YB.at 2 rfl
      have HX := drawG ad len cap zs w12 ((HZ.out.below BB).lt BB.size)
      go_wp2_with fail
      refine HX.mono ?_
      clear HX hne h1 d0 d1 d2 e0 e1 e2
      clear AB YB
      rintro en w13 ⟨k3, s3, n3, a3, b3, e3, key3, rfl, si3, ki3, hb⟩
      have BBN := BB.trans (hb.mono BB.size)
      clear BB
      have BB := BBN
      clear BBN
      clear hb
      obtain ⟨w14, hw14⟩ : ∃ v, w13.alloc (.cells #[.int .i64 k3, .int .i64 s3, .int .i64 n3, .int .i64 a3, .int .i64 b3, .int .i64 e3] 43) = v := ⟨_, rfl⟩
      have hb : Below w13.heap.size w13 w14 := by rw [← hw14]; exact (Below.refl _ _).alloc (Nat.le_refl _) _
      have GB : Blk w13.heap.size [.int .i64 k3, .int .i64 s3, .int .i64 n3, .int .i64 a3, .int .i64 b3, .int .i64 e3] w14 := by rw [← hw14]; exact Blk.new _ _ _
      have BBN := BB.trans (hb.mono BB.size)
      clear BB
      have BB := BBN
      clear BBN
      clear hb
      have d0 := GB.at 0 rfl
      have d1 := GB.at 1 rfl
      have d2 := GB.at 2 rfl
      have d3 := GB.at 3 rfl
      have d4 := GB.at 4 rfl
      have d5 := GB.at 5 rfl
      obtain ⟨Y, hY⟩ : ∃ X, shG k3 s3 n3 a3 b3 e3 key3 = X := ⟨_, rfl⟩
      have zY : Y.size ≤ 1048576 := by rw [← hY]; unfold shG; split; exact Nat.le_trans (sealT_size _ _) (by omega); show 0 ≤ 1048576; omega
      have HX := implShowG_is k3 s3 n3 a3 b3 e3 key3 w14 si3
      go_wp2_with fail
      try rw [hw14]
      refine HX.mono ?_
      clear HX hw14 d0 d1 d2 d3 d4 d5
      rintro en w15 ⟨rfl, hb⟩
      have GBN := GB.later hb GB.lt
      have BBN := BB.trans (hb.mono BB.size)
      clear GB BB
      have GB := GBN
      have BB := BBN
      clear GBN BBN
      clear hb
      rw [hY]
      by_cases h2 : Y.size = 0
      · have k0 := (shown_nil (key := key3) h2).2.2
        have HR := implReadG_is Y key3 w15 zY
        rw [k0, rgV_no k0, rgV_no k0, rgV_no k0, rgV_no k0, rgV_no k0, rgV_no k0] at HR
        clear k0
        have hne := nil_size Y h2
        have HX := HR
        go_wp2_with fail
        refine HX.mono ?_
        clear HX
        rintro en w16 ⟨rfl, hb⟩
        have GBN := GB.later hb GB.lt
        have BBN := BB.trans (hb.mono BB.size)
        clear GB BB
        have GB := GBN
        have BB := BBN
        clear GBN BBN
        clear hb
        obtain ⟨w17, hw17⟩ : ∃ v, w16.alloc (.cells #[.int .i64 0, .int .i64 0, .int .i64 0, .int .i64 0, .int .i64 0, .int .i64 0] 43) = v := ⟨_, rfl⟩
        have hb : Below w16.heap.size w16 w17 := by rw [← hw17]; exact (Below.refl _ _).alloc (Nat.le_refl _) _
        have ZB : Blk w16.heap.size [.int .i64 0, .int .i64 0, .int .i64 0, .int .i64 0, .int .i64 0, .int .i64 0] w17 := by rw [← hw17]; exact Blk.new _ _ _
        have GBN := GB.later hb GB.lt
        have BBN := BB.trans (hb.mono BB.size)
        clear GB BB
        have GB := GBN
        have BB := BBN
        clear GBN BBN
        clear hb
        have zs0 : w17.setCell ⟨w16.heap.size, 0, none⟩ (.int .i64 0) = w17 := by rw [← hw17]; simp [go_sem]
        have zc0 := ZB.at 0 rfl
        have zf0 := ZB.fz 0 rfl
        have zs1 : w17.setCell ⟨w16.heap.size, 1, none⟩ (.int .i64 0) = w17 := by rw [← hw17]; simp [go_sem]
        have zc1 := ZB.at 1 rfl
        have zf1 := ZB.fz 1 rfl
        have zs2 : w17.setCell ⟨w16.heap.size, 2, none⟩ (.int .i64 0) = w17 := by rw [← hw17]; simp [go_sem]
        have zc2 := ZB.at 2 rfl
        have zf2 := ZB.fz 2 rfl
        have zs3 : w17.setCell ⟨w16.heap.size, 3, none⟩ (.int .i64 0) = w17 := by rw [← hw17]; simp [go_sem]
        have zc3 := ZB.at 3 rfl
        have zf3 := ZB.fz 3 rfl
        have zs4 : w17.setCell ⟨w16.heap.size, 4, none⟩ (.int .i64 0) = w17 := by rw [← hw17]; simp [go_sem]
        have zc4 := ZB.at 4 rfl
        have zf4 := ZB.fz 4 rfl
        have zs5 : w17.setCell ⟨w16.heap.size, 5, none⟩ (.int .i64 0) = w17 := by rw [← hw17]; simp [go_sem]
        have zc5 := ZB.at 5 rfl
        have zf5 := ZB.fz 5 rfl
        have d0 := GB.at 0 rfl
        have d1 := GB.at 1 rfl
        have d2 := GB.at 2 rfl
        have d3 := GB.at 3 rfl
        have d4 := GB.at 4 rfl
        have d5 := GB.at 5 rfl
        have HX := specShowG_is k3 s3 n3 a3 b3 e3 key3 w17
        go_wp2_with fail
        try rw [hw17]
        refine HX.mono ?_
        clear HX hw17 d0 d1 d2 d3 d4 d5 zs0 zc0 zf0 zs1 zc1 zf1 zs2 zc2 zf2 zs3 zc3 zf3 zs4 zc4 zf4 zs5 zc5 zf5
        rintro en w18 ⟨rfl, hb⟩
        have GBN := GB.later hb GB.lt
        have ZBN := ZB.later hb ZB.lt
        have BBN := BB.trans (hb.mono BB.size)
        clear GB ZB BB
        have GB := GBN
        have ZB := ZBN
        have BB := BBN
        clear GBN ZBN BBN
        clear hb
        rw [hY]
        have d0 := GB.at 0 rfl
        have d1 := GB.at 1 rfl
        have d2 := GB.at 2 rfl
        have d3 := GB.at 3 rfl
        have d4 := GB.at 4 rfl
        have d5 := GB.at 5 rfl
        have e0 := ZB.at 0 rfl
        have e1 := ZB.at 1 rfl
        have e2 := ZB.at 2 rfl
        have e3 := ZB.at 3 rfl
        have e4 := ZB.at 4 rfl
        have e5 := ZB.at 5 rfl
        have o1 : rtK X (wrap64 (key + 1)) = false := by rw [← hX]; exact shT_other (succ_ne key ki)
        have HR := implReadT_is X (wrap64 (key + 1)) w18 zX
        rw [o1, rtN_no o1, rtN_no o1, rtN_no o1, rtN_no o1, rtN_no o1, rtN_no o1, rtP_no o1, rtV_no o1] at HR
        clear o1
        go_wp2_with fail
        refine HR.mono ?_
        clear HR hne h2 d0 d1 d2 d3 d4 d5 e0 e1 e2 e3 e4 e5
        clear GB ZB
        rintro en w19 ⟨ua9, uc9, ub9, ud9, rfl, _, _, _, hb⟩
        have BBN := BB.trans (hb.mono BB.size)
        clear BB
        have BB := BBN
        clear BBN
        clear hb
        obtain ⟨w20, hw20⟩ : ∃ v, w19.alloc (.cells #[.int .i64 0, .int .i64 0, .int .i64 0, .int .i64 0, .int .i64 0, .int .i64 0, .slice ua9 0 uc9, .slice ub9 0 ud9] 28) = v := ⟨_, rfl⟩
        have hb : Below w19.heap.size w19 w20 := by rw [← hw20]; exact (Below.refl _ _).alloc (Nat.le_refl _) _
        have B9 : Blk w19.heap.size [.int .i64 0, .int .i64 0, .int .i64 0, .int .i64 0, .int .i64 0, .int .i64 0, .slice ua9 0 uc9, .slice ub9 0 ud9] w20 := by rw [← hw20]; exact Blk.new _ _ _
        have BBN := BB.trans (hb.mono BB.size)
        clear BB
        have BB := BBN
        clear BBN
        clear hb
        have o1 : raK U (wrap64 (key2 + 1)) = false := by rw [← hU]; exact shA_other (succ_ne key2 ki2)
        have HR := implReadA_is U (wrap64 (key2 + 1)) w20 zU
        rw [o1, raV_no o1, raV_no o1, raV_no o1] at HR
        clear o1
        have HX := HR
        go_wp2_with fail
        try rw [hw20]
        refine HX.mono ?_
        clear HX hw20
        rintro en w21 ⟨rfl, hb⟩
        have B9N := B9.later hb B9.lt
        have BBN := BB.trans (hb.mono BB.size)
        clear B9 BB
        have B9 := B9N
        have BB := BBN
        clear B9N BBN
        clear hb
        clear B9
        obtain ⟨w22, hw22⟩ : ∃ v, w21.alloc (.cells #[.int .i64 0, .int .i64 0, .int .i64 0] 36) = v := ⟨_, rfl⟩
        have hb : Below w21.heap.size w21 w22 := by rw [← hw22]; exact (Below.refl _ _).alloc (Nat.le_refl _) _
        have B9 : Blk w21.heap.size [.int .i64 0, .int .i64 0, .int .i64 0] w22 := by rw [← hw22]; exact Blk.new _ _ _
        have BBN := BB.trans (hb.mono BB.size)
        clear BB
        have BB := BBN
        clear BBN
        clear hb
        have zs0 : w22.setCell ⟨w21.heap.size, 0, none⟩ (.int .i64 0) = w22 := by rw [← hw22]; simp [go_sem]
        have zc0 := B9.at 0 rfl
        have zf0 := B9.fz 0 rfl
        have zs1 : w22.setCell ⟨w21.heap.size, 1, none⟩ (.int .i64 0) = w22 := by rw [← hw22]; simp [go_sem]
        have zc1 := B9.at 1 rfl
        have zf1 := B9.fz 1 rfl
        have zs2 : w22.setCell ⟨w21.heap.size, 2, none⟩ (.int .i64 0) = w22 := by rw [← hw22]; simp [go_sem]
        have zc2 := B9.at 2 rfl
        have zf2 := B9.fz 2 rfl
        have o1 : rgK Y (wrap64 (key3 + 1)) = false := by rw [← hY]; exact shG_other (succ_ne key3 ki3)
        have HR := implReadG_is Y (wrap64 (key3 + 1)) w22 zY
        rw [o1, rgV_no o1, rgV_no o1, rgV_no o1, rgV_no o1, rgV_no o1, rgV_no o1] at HR
        clear o1
        have HX := HR
        go_wp2_with fail
        try rw [hw22]
        refine HX.mono ?_
        clear HX hw22 zs0 zc0 zf0 zs1 zc1 zf1 zs2 zc2 zf2
        rintro en w23 ⟨rfl, hb⟩
        have B9N := B9.later hb B9.lt
        have BBN := BB.trans (hb.mono BB.size)
        clear B9 BB
        have B9 := B9N
        have BB := BBN
        clear B9N BBN
        clear hb
        clear B9
        obtain ⟨w24, hw24⟩ : ∃ v, w23.alloc (.cells #[.int .i64 0, .int .i64 0, .int .i64 0, .int .i64 0, .int .i64 0, .int .i64 0] 43) = v := ⟨_, rfl⟩
        have hb : Below w23.heap.size w23 w24 := by rw [← hw24]; exact (Below.refl _ _).alloc (Nat.le_refl _) _
        have B9 : Blk w23.heap.size [.int .i64 0, .int .i64 0, .int .i64 0, .int .i64 0, .int .i64 0, .int .i64 0] w24 := by rw [← hw24]; exact Blk.new _ _ _
        have BBN := BB.trans (hb.mono BB.size)
        clear BB
        have BB := BBN
        clear BBN
        clear hb
        have zs0 : w24.setCell ⟨w23.heap.size, 0, none⟩ (.int .i64 0) = w24 := by rw [← hw24]; simp [go_sem]
        have zc0 := B9.at 0 rfl
        have zf0 := B9.fz 0 rfl
        have zs1 : w24.setCell ⟨w23.heap.size, 1, none⟩ (.int .i64 0) = w24 := by rw [← hw24]; simp [go_sem]
        have zc1 := B9.at 1 rfl
        have zf1 := B9.fz 1 rfl
        have zs2 : w24.setCell ⟨w23.heap.size, 2, none⟩ (.int .i64 0) = w24 := by rw [← hw24]; simp [go_sem]
        have zc2 := B9.at 2 rfl
        have zf2 := B9.fz 2 rfl
        have zs3 : w24.setCell ⟨w23.heap.size, 3, none⟩ (.int .i64 0) = w24 := by rw [← hw24]; simp [go_sem]
        have zc3 := B9.at 3 rfl
        have zf3 := B9.fz 3 rfl
        have zs4 : w24.setCell ⟨w23.heap.size, 4, none⟩ (.int .i64 0) = w24 := by rw [← hw24]; simp [go_sem]
        have zc4 := B9.at 4 rfl
        have zf4 := B9.fz 4 rfl
        have zs5 : w24.setCell ⟨w23.heap.size, 5, none⟩ (.int .i64 0) = w24 := by rw [← hw24]; simp [go_sem]
        have zc5 := B9.at 5 rfl
        have zf5 := B9.fz 5 rfl
        have o1 : rgK U key2 = false := by rw [← hU]; exact shA_grant
        have HR := implReadG_is U key2 w24 zU
        rw [o1, rgV_no o1, rgV_no o1, rgV_no o1, rgV_no o1, rgV_no o1, rgV_no o1] at HR
        clear o1
        have HX := HR
        go_wp2_with fail
        try rw [hw24]
        refine HX.mono ?_
        clear HX hw24 zs0 zc0 zf0 zs1 zc1 zf1 zs2 zc2 zf2 zs3 zc3 zf3 zs4 zc4 zf4 zs5 zc5 zf5
        rintro en w25 ⟨rfl, hb⟩
        have B9N := B9.later hb B9.lt
        have BBN := BB.trans (hb.mono BB.size)
        clear B9 BB
        have B9 := B9N
        have BB := BBN
        clear B9N BBN
        clear hb
        clear B9
        obtain ⟨w26, hw26⟩ : ∃ v, w25.alloc (.cells #[.int .i64 0, .int .i64 0, .int .i64 0, .int .i64 0, .int .i64 0, .int .i64 0] 43) = v := ⟨_, rfl⟩
        have hb : Below w25.heap.size w25 w26 := by rw [← hw26]; exact (Below.refl _ _).alloc (Nat.le_refl _) _
        have B9 : Blk w25.heap.size [.int .i64 0, .int .i64 0, .int .i64 0, .int .i64 0, .int .i64 0, .int .i64 0] w26 := by rw [← hw26]; exact Blk.new _ _ _
        have BBN := BB.trans (hb.mono BB.size)
        clear BB
        have BB := BBN
        clear BBN
        clear hb
        have zs0 : w26.setCell ⟨w25.heap.size, 0, none⟩ (.int .i64 0) = w26 := by rw [← hw26]; simp [go_sem]
        have zc0 := B9.at 0 rfl
        have zf0 := B9.fz 0 rfl
        have zs1 : w26.setCell ⟨w25.heap.size, 1, none⟩ (.int .i64 0) = w26 := by rw [← hw26]; simp [go_sem]
        have zc1 := B9.at 1 rfl
        have zf1 := B9.fz 1 rfl
        have zs2 : w26.setCell ⟨w25.heap.size, 2, none⟩ (.int .i64 0) = w26 := by rw [← hw26]; simp [go_sem]
        have zc2 := B9.at 2 rfl
        have zf2 := B9.fz 2 rfl
        have zs3 : w26.setCell ⟨w25.heap.size, 3, none⟩ (.int .i64 0) = w26 := by rw [← hw26]; simp [go_sem]
        have zc3 := B9.at 3 rfl
        have zf3 := B9.fz 3 rfl
        have zs4 : w26.setCell ⟨w25.heap.size, 4, none⟩ (.int .i64 0) = w26 := by rw [← hw26]; simp [go_sem]
        have zc4 := B9.at 4 rfl
        have zf4 := B9.fz 4 rfl
        have zs5 : w26.setCell ⟨w25.heap.size, 5, none⟩ (.int .i64 0) = w26 := by rw [← hw26]; simp [go_sem]
        have zc5 := B9.at 5 rfl
        have zf5 := B9.fz 5 rfl
        have HX := drawR ad len cap zs w26 ((HZ.out.below BB).lt BB.size)
        go_wp2_with fail
        try rw [hw26]
        refine HX.mono ?_
        clear HX hw26 zs0 zc0 zf0 zs1 zc1 zf1 zs2 zc2 zf2 zs3 zc3 zf3 zs4 zc4 zf4 zs5 zc5 zf5
        rintro en w27 ⟨x, y, z, rfl, hb⟩
        have B9N := B9.later hb B9.lt
        have BBN := BB.trans (hb.mono BB.size)
        clear B9 BB
        have B9 := B9N
        have BB := BBN
        clear B9N BBN
        clear hb
        clear B9
        obtain ⟨w28, hw28⟩ : ∃ v, w27.alloc (.cells #[.int .i64 x, .int .i64 y, .int .i64 z] 25) = v := ⟨_, rfl⟩
        have hb : Below w27.heap.size w27 w28 := by rw [← hw28]; exact (Below.refl _ _).alloc (Nat.le_refl _) _
        have RB : Blk w27.heap.size [.int .i64 x, .int .i64 y, .int .i64 z] w28 := by rw [← hw28]; exact Blk.new _ _ _
        have BBN := BB.trans (hb.mono BB.size)
        clear BB
        have BB := BBN
        clear BBN
        clear hb
        have d0 := RB.at 0 rfl
        have d1 := RB.at 1 rfl
        have d2 := RB.at 2 rfl
        have HX := implShow_is x y z w28
        go_wp2_with fail
        try rw [hw28]
        refine HX.mono ?_
        clear HX hw28 d0 d1 d2
        rintro en w29 ⟨rfl, hb⟩
        have RBN := RB.later hb RB.lt
        have BBN := BB.trans (hb.mono BB.size)
        clear RB BB
        have RB := RBN
        have BB := BBN
        clear RBN BBN
        clear hb
        have zR : (shR x y z).size ≤ 1048576 := Nat.le_trans (shR_size x y z) (by omega)
        by_cases h3 : rOk x y z = true
        · obtain ⟨k0, k1, k2, k3_⟩ := rest_trip x y z (shR_full x y z h3)
          have HR := implRead_is (shR x y z) w29 zR
          rw [k0, k1, k2, k3_] at HR
          clear k0 k1 k2 k3_
          have HX := HR
          go_wp2_with fail
          refine HX.mono ?_
          clear HX
          rintro en w30 ⟨rfl, hb⟩
          have RBN := RB.later hb RB.lt
          have BBN := BB.trans (hb.mono BB.size)
          clear RB BB
          have RB := RBN
          have BB := BBN
          clear RBN BBN
          clear hb
          obtain ⟨w31, hw31⟩ : ∃ v, w30.alloc (.cells #[.int .i64 x, .int .i64 y, .int .i64 z] 25) = v := ⟨_, rfl⟩
          have hb : Below w30.heap.size w30 w31 := by rw [← hw31]; exact (Below.refl _ _).alloc (Nat.le_refl _) _
          have QB : Blk w30.heap.size [.int .i64 x, .int .i64 y, .int .i64 z] w31 := by rw [← hw31]; exact Blk.new _ _ _
          have RBN := RB.later hb RB.lt
          have BBN := BB.trans (hb.mono BB.size)
          clear RB BB
          have RB := RBN
          have BB := BBN
          clear RBN BBN
          clear hb
          have d0 := RB.at 0 rfl
          have d1 := RB.at 1 rfl
          have d2 := RB.at 2 rfl
          have e0 := QB.at 0 rfl
          have e1 := QB.at 1 rfl
          have e2 := QB.at 2 rfl
          have SK := specOk_is x y z w31
          rw [h3] at SK
          go_wp2_with fail
          try rw [hw31]
          refine SK.mono ?_
          clear SK hw31  d0 d1 d2 e0 e1 e2
          rintro en w32 ⟨rfl, hb⟩
          have RBN := RB.later hb RB.lt
          have QBN := QB.later hb QB.lt
          have BBN := BB.trans (hb.mono BB.size)
          clear RB QB BB
          have RB := RBN
          have QB := QBN
          have BB := BBN
          clear RBN QBN BBN
          clear hb
          have d0 := RB.at 0 rfl
          have d1 := RB.at 1 rfl
          have d2 := RB.at 2 rfl
          have e0 := QB.at 0 rfl
          have e1 := QB.at 1 rfl
          have e2 := QB.at 2 rfl
          clear RB QB
          go_wp2
          go_ret
          exact ⟨rfl, BB⟩
        · rw [Bool.not_eq_true] at h3
          have k0 : rdK (numsR (shR x y z)).1 = false := by unfold shR; rw [h3]; show rdK (numsR ⟨#[]⟩).1 = false; rw [numsR_nil]; rfl
          obtain ⟨k1, k2, k3_⟩ := rd_no k0
          have HR := implRead_is (shR x y z) w29 zR
          rw [k0, k1, k2, k3_] at HR
          clear k0 k1 k2 k3_
          have HX := HR
          go_wp2_with fail
          refine HX.mono ?_
          clear HX
          rintro en w30 ⟨rfl, hb⟩
          have RBN := RB.later hb RB.lt
          have BBN := BB.trans (hb.mono BB.size)
          clear RB BB
          have RB := RBN
          have BB := BBN
          clear RBN BBN
          clear hb
          obtain ⟨w31, hw31⟩ : ∃ v, w30.alloc (.cells #[.int .i64 0, .int .i64 0, .int .i64 0] 25) = v := ⟨_, rfl⟩
          have hb : Below w30.heap.size w30 w31 := by rw [← hw31]; exact (Below.refl _ _).alloc (Nat.le_refl _) _
          have QB : Blk w30.heap.size [.int .i64 0, .int .i64 0, .int .i64 0] w31 := by rw [← hw31]; exact Blk.new _ _ _
          have RBN := RB.later hb RB.lt
          have BBN := BB.trans (hb.mono BB.size)
          clear RB BB
          have RB := RBN
          have BB := BBN
          clear RBN BBN
          clear hb
          have zs0 : w31.setCell ⟨w30.heap.size, 0, none⟩ (.int .i64 0) = w31 := by rw [← hw31]; simp [go_sem]
          have zc0 := QB.at 0 rfl
          have zf0 := QB.fz 0 rfl
          have zs1 : w31.setCell ⟨w30.heap.size, 1, none⟩ (.int .i64 0) = w31 := by rw [← hw31]; simp [go_sem]
          have zc1 := QB.at 1 rfl
          have zf1 := QB.fz 1 rfl
          have zs2 : w31.setCell ⟨w30.heap.size, 2, none⟩ (.int .i64 0) = w31 := by rw [← hw31]; simp [go_sem]
          have zc2 := QB.at 2 rfl
          have zf2 := QB.fz 2 rfl
          have d0 := RB.at 0 rfl
          have d1 := RB.at 1 rfl
          have d2 := RB.at 2 rfl
          have e0 := QB.at 0 rfl
          have e1 := QB.at 1 rfl
          have e2 := QB.at 2 rfl
          have SK := specOk_is x y z w31
          rw [h3] at SK
          go_wp2_with fail
          try rw [hw31]
          refine SK.mono ?_
          clear SK hw31 zs0 zc0 zf0 zs1 zc1 zf1 zs2 zc2 zf2 d0 d1 d2 e0 e1 e2
          rintro en w32 ⟨rfl, hb⟩
          have RBN := RB.later hb RB.lt
          have QBN := QB.later hb QB.lt
          have BBN := BB.trans (hb.mono BB.size)
          clear RB QB BB
          have RB := RBN
          have QB := QBN
          have BB := BBN
          clear RBN QBN BBN
          clear hb
          have d0 := RB.at 0 rfl
          have d1 := RB.at 1 rfl
          have d2 := RB.at 2 rfl
          have e0 := QB.at 0 rfl
          have e1 := QB.at 1 rfl
          have e2 := QB.at 2 rfl
          clear RB QB
          go_wp2
          go_ret
          exact ⟨rfl, BB⟩
      · obtain ⟨k0, k1, k2, k3_, k4, k5, k6⟩ := shG_yes (k := k3) (s := s3) (n := n3) (a := a3) (b := b3) (e := e3) (key := key3) (by rw [hY]; exact h2)
        rw [hY] at k0 k1 k2 k3_ k4 k5 k6
        have HR := implReadG_is Y key3 w15 zY
        rw [k0, k1, k2, k3_, k4, k5, k6] at HR
        clear k0 k1 k2 k3_ k4 k5 k6
        have hne := ne_nil Y (by omega)
        have HX := HR
        go_wp2_with fail
        refine HX.mono ?_
        clear HX
        rintro en w16 ⟨rfl, hb⟩
        have GBN := GB.later hb GB.lt
        have BBN := BB.trans (hb.mono BB.size)
        clear GB BB
        have GB := GBN
        have BB := BBN
        clear GBN BBN
        clear hb
        obtain ⟨w17, hw17⟩ : ∃ v, w16.alloc (.cells #[.int .i64 k3, .int .i64 s3, .int .i64 n3, .int .i64 a3, .int .i64 b3, .int .i64 e3] 43) = v := ⟨_, rfl⟩
        have hb : Below w16.heap.size w16 w17 := by rw [← hw17]; exact (Below.refl _ _).alloc (Nat.le_refl _) _
        have ZB : Blk w16.heap.size [.int .i64 k3, .int .i64 s3, .int .i64 n3, .int .i64 a3, .int .i64 b3, .int .i64 e3] w17 := by rw [← hw17]; exact Blk.new _ _ _
        have GBN := GB.later hb GB.lt
        have BBN := BB.trans (hb.mono BB.size)
        clear GB BB
        have GB := GBN
        have BB := BBN
        clear GBN BBN
        clear hb
        have d0 := GB.at 0 rfl
        have d1 := GB.at 1 rfl
        have d2 := GB.at 2 rfl
        have d3 := GB.at 3 rfl
        have d4 := GB.at 4 rfl
        have d5 := GB.at 5 rfl
        have HX := specShowG_is k3 s3 n3 a3 b3 e3 key3 w17
        go_wp2_with fail
        try rw [hw17]
        refine HX.mono ?_
        clear HX hw17 d0 d1 d2 d3 d4 d5
        rintro en w18 ⟨rfl, hb⟩
        have GBN := GB.later hb GB.lt
        have ZBN := ZB.later hb ZB.lt
        have BBN := BB.trans (hb.mono BB.size)
        clear GB ZB BB
        have GB := GBN
        have ZB := ZBN
        have BB := BBN
        clear GBN ZBN BBN
        clear hb
        rw [hY]
        have d0 := GB.at 0 rfl
        have d1 := GB.at 1 rfl
        have d2 := GB.at 2 rfl
        have d3 := GB.at 3 rfl
        have d4 := GB.at 4 rfl
        have d5 := GB.at 5 rfl
        have e0 := ZB.at 0 rfl
        have e1 := ZB.at 1 rfl
        have e2 := ZB.at 2 rfl
        have e3 := ZB.at 3 rfl
        have e4 := ZB.at 4 rfl
        have e5 := ZB.at 5 rfl
        have o1 : rtK X (wrap64 (key + 1)) = false := by rw [← hX]; exact shT_other (succ_ne key ki)
        have HR := implReadT_is X (wrap64 (key + 1)) w18 zX
        rw [o1, rtN_no o1, rtN_no o1, rtN_no o1, rtN_no o1, rtN_no o1, rtN_no o1, rtP_no o1, rtV_no o1] at HR
        clear o1
        go_wp2_with fail
        refine HR.mono ?_
        clear HR hne h2 d0 d1 d2 d3 d4 d5 e0 e1 e2 e3 e4 e5
        clear GB ZB
        rintro en w19 ⟨ua9, uc9, ub9, ud9, rfl, _, _, _, hb⟩
        have BBN := BB.trans (hb.mono BB.size)
        clear BB
        have BB := BBN
        clear BBN
        clear hb
        obtain ⟨w20, hw20⟩ : ∃ v, w19.alloc (.cells #[.int .i64 0, .int .i64 0, .int .i64 0, .int .i64 0, .int .i64 0, .int .i64 0, .slice ua9 0 uc9, .slice ub9 0 ud9] 28) = v := ⟨_, rfl⟩
        have hb : Below w19.heap.size w19 w20 := by rw [← hw20]; exact (Below.refl _ _).alloc (Nat.le_refl _) _
        have B9 : Blk w19.heap.size [.int .i64 0, .int .i64 0, .int .i64 0, .int .i64 0, .int .i64 0, .int .i64 0, .slice ua9 0 uc9, .slice ub9 0 ud9] w20 := by rw [← hw20]; exact Blk.new _ _ _
        have BBN := BB.trans (hb.mono BB.size)
        clear BB
        have BB := BBN
        clear BBN
        clear hb
        have o1 : raK U (wrap64 (key2 + 1)) = false := by rw [← hU]; exact shA_other (succ_ne key2 ki2)
        have HR := implReadA_is U (wrap64 (key2 + 1)) w20 zU
        rw [o1, raV_no o1, raV_no o1, raV_no o1] at HR
        clear o1
        have HX := HR
        go_wp2_with fail
        try rw [hw20]
        refine HX.mono ?_
        clear HX hw20
        rintro en w21 ⟨rfl, hb⟩
        have B9N := B9.later hb B9.lt
        have BBN := BB.trans (hb.mono BB.size)
        clear B9 BB
        have B9 := B9N
        have BB := BBN
        clear B9N BBN
        clear hb
        clear B9
        obtain ⟨w22, hw22⟩ : ∃ v, w21.alloc (.cells #[.int .i64 0, .int .i64 0, .int .i64 0] 36) = v := ⟨_, rfl⟩
        have hb : Below w21.heap.size w21 w22 := by rw [← hw22]; exact (Below.refl _ _).alloc (Nat.le_refl _) _
        have B9 : Blk w21.heap.size [.int .i64 0, .int .i64 0, .int .i64 0] w22 := by rw [← hw22]; exact Blk.new _ _ _
        have BBN := BB.trans (hb.mono BB.size)
        clear BB
        have BB := BBN
        clear BBN
        clear hb
        have zs0 : w22.setCell ⟨w21.heap.size, 0, none⟩ (.int .i64 0) = w22 := by rw [← hw22]; simp [go_sem]
        have zc0 := B9.at 0 rfl
        have zf0 := B9.fz 0 rfl
        have zs1 : w22.setCell ⟨w21.heap.size, 1, none⟩ (.int .i64 0) = w22 := by rw [← hw22]; simp [go_sem]
        have zc1 := B9.at 1 rfl
        have zf1 := B9.fz 1 rfl
        have zs2 : w22.setCell ⟨w21.heap.size, 2, none⟩ (.int .i64 0) = w22 := by rw [← hw22]; simp [go_sem]
        have zc2 := B9.at 2 rfl
        have zf2 := B9.fz 2 rfl
        have o1 : rgK Y (wrap64 (key3 + 1)) = false := by rw [← hY]; exact shG_other (succ_ne key3 ki3)
        have HR := implReadG_is Y (wrap64 (key3 + 1)) w22 zY
        rw [o1, rgV_no o1, rgV_no o1, rgV_no o1, rgV_no o1, rgV_no o1, rgV_no o1] at HR
        clear o1
        have HX := HR
        go_wp2_with fail
        try rw [hw22]
        refine HX.mono ?_
        clear HX hw22 zs0 zc0 zf0 zs1 zc1 zf1 zs2 zc2 zf2
        rintro en w23 ⟨rfl, hb⟩
        have B9N := B9.later hb B9.lt
        have BBN := BB.trans (hb.mono BB.size)
        clear B9 BB
        have B9 := B9N
        have BB := BBN
        clear B9N BBN
        clear hb
        clear B9
        obtain ⟨w24, hw24⟩ : ∃ v, w23.alloc (.cells #[.int .i64 0, .int .i64 0, .int .i64 0, .int .i64 0, .int .i64 0, .int .i64 0] 43) = v := ⟨_, rfl⟩
        have hb : Below w23.heap.size w23 w24 := by rw [← hw24]; exact (Below.refl _ _).alloc (Nat.le_refl _) _
        have B9 : Blk w23.heap.size [.int .i64 0, .int .i64 0, .int .i64 0, .int .i64 0, .int .i64 0, .int .i64 0] w24 := by rw [← hw24]; exact Blk.new _ _ _
        have BBN := BB.trans (hb.mono BB.size)
        clear BB
        have BB := BBN
        clear BBN
        clear hb
        have zs0 : w24.setCell ⟨w23.heap.size, 0, none⟩ (.int .i64 0) = w24 := by rw [← hw24]; simp [go_sem]
        have zc0 := B9.at 0 rfl
        have zf0 := B9.fz 0 rfl
        have zs1 : w24.setCell ⟨w23.heap.size, 1, none⟩ (.int .i64 0) = w24 := by rw [← hw24]; simp [go_sem]
        have zc1 := B9.at 1 rfl
        have zf1 := B9.fz 1 rfl
        have zs2 : w24.setCell ⟨w23.heap.size, 2, none⟩ (.int .i64 0) = w24 := by rw [← hw24]; simp [go_sem]
        have zc2 := B9.at 2 rfl
        have zf2 := B9.fz 2 rfl
        have zs3 : w24.setCell ⟨w23.heap.size, 3, none⟩ (.int .i64 0) = w24 := by rw [← hw24]; simp [go_sem]
        have zc3 := B9.at 3 rfl
        have zf3 := B9.fz 3 rfl
        have zs4 : w24.setCell ⟨w23.heap.size, 4, none⟩ (.int .i64 0) = w24 := by rw [← hw24]; simp [go_sem]
        have zc4 := B9.at 4 rfl
        have zf4 := B9.fz 4 rfl
        have zs5 : w24.setCell ⟨w23.heap.size, 5, none⟩ (.int .i64 0) = w24 := by rw [← hw24]; simp [go_sem]
        have zc5 := B9.at 5 rfl
        have zf5 := B9.fz 5 rfl
        have o1 : rgK U key2 = false := by rw [← hU]; exact shA_grant
        have HR := implReadG_is U key2 w24 zU
        rw [o1, rgV_no o1, rgV_no o1, rgV_no o1, rgV_no o1, rgV_no o1, rgV_no o1] at HR
        clear o1
        have HX := HR
        go_wp2_with fail
        try rw [hw24]
        refine HX.mono ?_
        clear HX hw24 zs0 zc0 zf0 zs1 zc1 zf1 zs2 zc2 zf2 zs3 zc3 zf3 zs4 zc4 zf4 zs5 zc5 zf5
        rintro en w25 ⟨rfl, hb⟩
        have B9N := B9.later hb B9.lt
        have BBN := BB.trans (hb.mono BB.size)
        clear B9 BB
        have B9 := B9N
        have BB := BBN
        clear B9N BBN
        clear hb
        clear B9
        obtain ⟨w26, hw26⟩ : ∃ v, w25.alloc (.cells #[.int .i64 0, .int .i64 0, .int .i64 0, .int .i64 0, .int .i64 0, .int .i64 0] 43) = v := ⟨_, rfl⟩
        have hb : Below w25.heap.size w25 w26 := by rw [← hw26]; exact (Below.refl _ _).alloc (Nat.le_refl _) _
        have B9 : Blk w25.heap.size [.int .i64 0, .int .i64 0, .int .i64 0, .int .i64 0, .int .i64 0, .int .i64 0] w26 := by rw [← hw26]; exact Blk.new _ _ _
        have BBN := BB.trans (hb.mono BB.size)
        clear BB
        have BB := BBN
        clear BBN
        clear hb
        have zs0 : w26.setCell ⟨w25.heap.size, 0, none⟩ (.int .i64 0) = w26 := by rw [← hw26]; simp [go_sem]
        have zc0 := B9.at 0 rfl
        have zf0 := B9.fz 0 rfl
        have zs1 : w26.setCell ⟨w25.heap.size, 1, none⟩ (.int .i64 0) = w26 := by rw [← hw26]; simp [go_sem]
        have zc1 := B9.at 1 rfl
        have zf1 := B9.fz 1 rfl
        have zs2 : w26.setCell ⟨w25.heap.size, 2, none⟩ (.int .i64 0) = w26 := by rw [← hw26]; simp [go_sem]
        have zc2 := B9.at 2 rfl
        have zf2 := B9.fz 2 rfl
        have zs3 : w26.setCell ⟨w25.heap.size, 3, none⟩ (.int .i64 0) = w26 := by rw [← hw26]; simp [go_sem]
        have zc3 := B9.at 3 rfl
        have zf3 := B9.fz 3 rfl
        have zs4 : w26.setCell ⟨w25.heap.size, 4, none⟩ (.int .i64 0) = w26 := by rw [← hw26]; simp [go_sem]
        have zc4 := B9.at 4 rfl
        have zf4 := B9.fz 4 rfl
        have zs5 : w26.setCell ⟨w25.heap.size, 5, none⟩ (.int .i64 0) = w26 := by rw [← hw26]; simp [go_sem]
        have zc5 := B9.at 5 rfl
        have zf5 := B9.fz 5 rfl
        have HX := drawR ad len cap zs w26 ((HZ.out.below BB).lt BB.size)
        go_wp2_with fail
        try rw [hw26]
        refine HX.mono ?_
        clear HX hw26 zs0 zc0 zf0 zs1 zc1 zf1 zs2 zc2 zf2 zs3 zc3 zf3 zs4 zc4 zf4 zs5 zc5 zf5
        rintro en w27 ⟨x, y, z, rfl, hb⟩
        have B9N := B9.later hb B9.lt
        have BBN := BB.trans (hb.mono BB.size)
        clear B9 BB
        have B9 := B9N
        have BB := BBN
        clear B9N BBN
        clear hb
        clear B9
        obtain ⟨w28, hw28⟩ : ∃ v, w27.alloc (.cells #[.int .i64 x, .int .i64 y, .int .i64 z] 25) = v := ⟨_, rfl⟩
        have hb : Below w27.heap.size w27 w28 := by rw [← hw28]; exact (Below.refl _ _).alloc (Nat.le_refl _) _
        have RB : Blk w27.heap.size [.int .i64 x, .int .i64 y, .int .i64 z] w28 := by rw [← hw28]; exact Blk.new _ _ _
        have BBN := BB.trans (hb.mono BB.size)
        clear BB
        have BB := BBN
        clear BBN
        clear hb
        have d0 := RB.at 0 rfl
        have d1 := RB.at 1 rfl
        have d2 := RB.at 2 rfl
        have HX := implShow_is x y z w28
        go_wp2_with fail
        try rw [hw28]
        refine HX.mono ?_
        clear HX hw28 d0 d1 d2
        rintro en w29 ⟨rfl, hb⟩
        have RBN := RB.later hb RB.lt
        have BBN := BB.trans (hb.mono BB.size)
        clear RB BB
        have RB := RBN
        have BB := BBN
        clear RBN BBN
        clear hb
        have zR : (shR x y z).size ≤ 1048576 := Nat.le_trans (shR_size x y z) (by omega)
        by_cases h3 : rOk x y z = true
        · obtain ⟨k0, k1, k2, k3_⟩ := rest_trip x y z (shR_full x y z h3)
          have HR := implRead_is (shR x y z) w29 zR
          rw [k0, k1, k2, k3_] at HR
          clear k0 k1 k2 k3_
          have HX := HR
          go_wp2_with fail
          refine HX.mono ?_
          clear HX
          rintro en w30 ⟨rfl, hb⟩
          have RBN := RB.later hb RB.lt
          have BBN := BB.trans (hb.mono BB.size)
          clear RB BB
          have RB := RBN
          have BB := BBN
          clear RBN BBN
          clear hb
          obtain ⟨w31, hw31⟩ : ∃ v, w30.alloc (.cells #[.int .i64 x, .int .i64 y, .int .i64 z] 25) = v := ⟨_, rfl⟩
          have hb : Below w30.heap.size w30 w31 := by rw [← hw31]; exact (Below.refl _ _).alloc (Nat.le_refl _) _
          have QB : Blk w30.heap.size [.int .i64 x, .int .i64 y, .int .i64 z] w31 := by rw [← hw31]; exact Blk.new _ _ _
          have RBN := RB.later hb RB.lt
          have BBN := BB.trans (hb.mono BB.size)
          clear RB BB
          have RB := RBN
          have BB := BBN
          clear RBN BBN
          clear hb
          have d0 := RB.at 0 rfl
          have d1 := RB.at 1 rfl
          have d2 := RB.at 2 rfl
          have e0 := QB.at 0 rfl
          have e1 := QB.at 1 rfl
          have e2 := QB.at 2 rfl
          have SK := specOk_is x y z w31
          rw [h3] at SK
          go_wp2_with fail
          try rw [hw31]
          refine SK.mono ?_
          clear SK hw31  d0 d1 d2 e0 e1 e2
          rintro en w32 ⟨rfl, hb⟩
          have RBN := RB.later hb RB.lt
          have QBN := QB.later hb QB.lt
          have BBN := BB.trans (hb.mono BB.size)
          clear RB QB BB
          have RB := RBN
          have QB := QBN
          have BB := BBN
          clear RBN QBN BBN
          clear hb
          have d0 := RB.at 0 rfl
          have d1 := RB.at 1 rfl
          have d2 := RB.at 2 rfl
          have e0 := QB.at 0 rfl
          have e1 := QB.at 1 rfl
          have e2 := QB.at 2 rfl
          clear RB QB
          go_wp2
          go_ret
          exact ⟨rfl, BB⟩
        · rw [Bool.not_eq_true] at h3
          have k0 : rdK (numsR (shR x y z)).1 = false := by unfold shR; rw [h3]; show rdK (numsR ⟨#[]⟩).1 = false; rw [numsR_nil]; rfl
          obtain ⟨k1, k2, k3_⟩ := rd_no k0
          have HR := implRead_is (shR x y z) w29 zR
          rw [k0, k1, k2, k3_] at HR
          clear k0 k1 k2 k3_
          have HX := HR
          go_wp2_with fail
          refine HX.mono ?_
          clear HX
          rintro en w30 ⟨rfl, hb⟩
          have RBN := RB.later hb RB.lt
          have BBN := BB.trans (hb.mono BB.size)
          clear RB BB
          have RB := RBN
          have BB := BBN
          clear RBN BBN
          clear hb
          obtain ⟨w31, hw31⟩ : ∃ v, w30.alloc (.cells #[.int .i64 0, .int .i64 0, .int .i64 0] 25) = v := ⟨_, rfl⟩
          have hb : Below w30.heap.size w30 w31 := by rw [← hw31]; exact (Below.refl _ _).alloc (Nat.le_refl _) _
          have QB : Blk w30.heap.size [.int .i64 0, .int .i64 0, .int .i64 0] w31 := by rw [← hw31]; exact Blk.new _ _ _
          have RBN := RB.later hb RB.lt
          have BBN := BB.trans (hb.mono BB.size)
          clear RB BB
          have RB := RBN
          have BB := BBN
          clear RBN BBN
          clear hb
          have zs0 : w31.setCell ⟨w30.heap.size, 0, none⟩ (.int .i64 0) = w31 := by rw [← hw31]; simp [go_sem]
          have zc0 := QB.at 0 rfl
          have zf0 := QB.fz 0 rfl
          have zs1 : w31.setCell ⟨w30.heap.size, 1, none⟩ (.int .i64 0) = w31 := by rw [← hw31]; simp [go_sem]
          have zc1 := QB.at 1 rfl
          have zf1 := QB.fz 1 rfl
          have zs2 : w31.setCell ⟨w30.heap.size, 2, none⟩ (.int .i64 0) = w31 := by rw [← hw31]; simp [go_sem]
          have zc2 := QB.at 2 rfl
          have zf2 := QB.fz 2 rfl
          have d0 := RB.at 0 rfl
          have d1 := RB.at 1 rfl
          have d2 := RB.at 2 rfl
          have e0 := QB.at 0 rfl
          have e1 := QB.at 1 rfl
          have e2 := QB.at 2 rfl
          have SK := specOk_is x y z w31
          rw [h3] at SK
          go_wp2_with fail
          try rw [hw31]
          refine SK.mono ?_
          clear SK hw31 zs0 zc0 zf0 zs1 zc1 zf1 zs2 zc2 zf2 d0 d1 d2 e0 e1 e2
          rintro en w32 ⟨rfl, hb⟩
          have RBN := RB.later hb RB.lt
          have QBN := QB.later hb QB.lt
          have BBN := BB.trans (hb.mono BB.size)
          clear RB QB BB
          have RB := RBN
          have QB := QBN
          have BB := BBN
          clear RBN QBN BBN
          clear hb
          have d0 := RB.at 0 rfl
          have d1 := RB.at 1 rfl
          have d2 := RB.at 2 rfl
          have e0 := QB.at 0 rfl
          have e1 := QB.at 1 rfl
          have e2 := QB.at 2 rfl
          clear RB QB
          go_wp2
          go_ret
          exact ⟨rfl, BB⟩
    · obtain ⟨k0, k1, k2, k3⟩ := shA_yes (c := c2) (t := t2) (q := q2) (key := key2) (by rw [hU]; exact h1)
      rw [hU] at k0 k1 k2 k3
      have HR := implReadA_is U key2 w9 zU
      rw [k0, k1, k2, k3] at HR
      clear k0 k1 k2 k3
      have hne := ne_nil U (by omega)
      have HX := HR
      go_wp2_with fail
      refine HX.mono ?_
      clear HX
      rintro en w10 ⟨rfl, hb⟩
      have ABN := AB.later hb AB.lt
      have BBN := BB.trans (hb.mono BB.size)
      clear AB BB
      have AB := ABN
      have BB := BBN
      clear ABN BBN
      clear hb
      obtain ⟨w11, hw11⟩ : ∃ v, w10.alloc (.cells #[.int .i64 c2, .int .i64 t2, .int .i64 q2] 36) = v := ⟨_, rfl⟩
      have hb : Below w10.heap.size w10 w11 := by rw [← hw11]; exact (Below.refl _ _).alloc (Nat.le_refl _) _
      have YB : Blk w10.heap.size [.int .i64 c2, .int .i64 t2, .int .i64 q2] w11 := by rw [← hw11]; exact Blk.new _ _ _
      have ABN := AB.later hb AB.lt
      have BBN := BB.trans (hb.mono BB.size)
      clear AB BB
      have AB := ABN
      have BB := BBN
      clear ABN BBN
      clear hb
      have d0 := AB.at 0 rfl
      have d1 := AB.at 1 rfl
      have d2 := AB.at 2 rfl
      have HX := specShowA_is c2 t2 q2 key2 w11
      go_wp2_with fail
      try rw [hw11]
      refine HX.mono ?_
      clear HX hw11 d0 d1 d2
      rintro en w12 ⟨rfl, hb⟩
      have ABN := AB.later hb AB.lt
      have YBN := YB.later hb YB.lt
      have BBN := BB.trans (hb.mono BB.size)
      clear AB YB BB
      have AB := ABN
      have YB := YBN
      have BB := BBN
      clear ABN YBN BBN
      clear hb
      rw [hU]
      have d0 := AB.at 0 rfl
      have d1 := AB.at 1 rfl
      have d2 := AB.at 2 rfl
      have e0 := YB.at 0 rfl
      have e1 := YB.at 1 rfl
      have e2 := YB.at 2 rfl
      have HX := drawG ad len cap zs w12 ((HZ.out.below BB).lt BB.size)
      go_wp2_with fail
      refine HX.mono ?_
      clear HX hne h1 d0 d1 d2 e0 e1 e2
      clear AB YB
      rintro en w13 ⟨k3, s3, n3, a3, b3, e3, key3, rfl, si3, ki3, hb⟩
      have BBN := BB.trans (hb.mono BB.size)
      clear BB
      have BB := BBN
      clear BBN
      clear hb
      obtain ⟨w14, hw14⟩ : ∃ v, w13.alloc (.cells #[.int .i64 k3, .int .i64 s3, .int .i64 n3, .int .i64 a3, .int .i64 b3, .int .i64 e3] 43) = v := ⟨_, rfl⟩
      have hb : Below w13.heap.size w13 w14 := by rw [← hw14]; exact (Below.refl _ _).alloc (Nat.le_refl _) _
      have GB : Blk w13.heap.size [.int .i64 k3, .int .i64 s3, .int .i64 n3, .int .i64 a3, .int .i64 b3, .int .i64 e3] w14 := by rw [← hw14]; exact Blk.new _ _ _
      have BBN := BB.trans (hb.mono BB.size)
      clear BB
      have BB := BBN
      clear BBN
      clear hb
      have d0 := GB.at 0 rfl
      have d1 := GB.at 1 rfl
      have d2 := GB.at 2 rfl
      have d3 := GB.at 3 rfl
      have d4 := GB.at 4 rfl
      have d5 := GB.at 5 rfl
      obtain ⟨Y, hY⟩ : ∃ X, shG k3 s3 n3 a3 b3 e3 key3 = X := ⟨_, rfl⟩
      have zY : Y.size ≤ 1048576 := by rw [← hY]; unfold shG; split; exact Nat.le_trans (sealT_size _ _) (by omega); show 0 ≤ 1048576; omega
      have HX := implShowG_is k3 s3 n3 a3 b3 e3 key3 w14 si3
      go_wp2_with fail
      try rw [hw14]
      refine HX.mono ?_
      clear HX hw14 d0 d1 d2 d3 d4 d5
      rintro en w15 ⟨rfl, hb⟩
      have GBN := GB.later hb GB.lt
      have BBN := BB.trans (hb.mono BB.size)
      clear GB BB
      have GB := GBN
      have BB := BBN
      clear GBN BBN
      clear hb
      rw [hY]
      by_cases h2 : Y.size = 0
      · have k0 := (shown_nil (key := key3) h2).2.2
        have HR := implReadG_is Y key3 w15 zY
        rw [k0, rgV_no k0, rgV_no k0, rgV_no k0, rgV_no k0, rgV_no k0, rgV_no k0] at HR
        clear k0
        have hne := nil_size Y h2
        have HX := HR
        go_wp2_with fail
        refine HX.mono ?_
        clear HX
        rintro en w16 ⟨rfl, hb⟩
        have GBN := GB.later hb GB.lt
        have BBN := BB.trans (hb.mono BB.size)
        clear GB BB
        have GB := GBN
        have BB := BBN
        clear GBN BBN
        clear hb
        obtain ⟨w17, hw17⟩ : ∃ v, w16.alloc (.cells #[.int .i64 0, .int .i64 0, .int .i64 0, .int .i64 0, .int .i64 0, .int .i64 0] 43) = v := ⟨_, rfl⟩
        have hb : Below w16.heap.size w16 w17 := by rw [← hw17]; exact (Below.refl _ _).alloc (Nat.le_refl _) _
        have ZB : Blk w16.heap.size [.int .i64 0, .int .i64 0, .int .i64 0, .int .i64 0, .int .i64 0, .int .i64 0] w17 := by rw [← hw17]; exact Blk.new _ _ _
        have GBN := GB.later hb GB.lt
        have BBN := BB.trans (hb.mono BB.size)
        clear GB BB
        have GB := GBN
        have BB := BBN
        clear GBN BBN
        clear hb
        have zs0 : w17.setCell ⟨w16.heap.size, 0, none⟩ (.int .i64 0) = w17 := by rw [← hw17]; simp [go_sem]
        have zc0 := ZB.at 0 rfl
        have zf0 := ZB.fz 0 rfl
        have zs1 : w17.setCell ⟨w16.heap.size, 1, none⟩ (.int .i64 0) = w17 := by rw [← hw17]; simp [go_sem]
        have zc1 := ZB.at 1 rfl
        have zf1 := ZB.fz 1 rfl
        have zs2 : w17.setCell ⟨w16.heap.size, 2, none⟩ (.int .i64 0) = w17 := by rw [← hw17]; simp [go_sem]
        have zc2 := ZB.at 2 rfl
        have zf2 := ZB.fz 2 rfl
        have zs3 : w17.setCell ⟨w16.heap.size, 3, none⟩ (.int .i64 0) = w17 := by rw [← hw17]; simp [go_sem]
        have zc3 := ZB.at 3 rfl
        have zf3 := ZB.fz 3 rfl
        have zs4 : w17.setCell ⟨w16.heap.size, 4, none⟩ (.int .i64 0) = w17 := by rw [← hw17]; simp [go_sem]
        have zc4 := ZB.at 4 rfl
        have zf4 := ZB.fz 4 rfl
        have zs5 : w17.setCell ⟨w16.heap.size, 5, none⟩ (.int .i64 0) = w17 := by rw [← hw17]; simp [go_sem]
        have zc5 := ZB.at 5 rfl
        have zf5 := ZB.fz 5 rfl
        have d0 := GB.at 0 rfl
        have d1 := GB.at 1 rfl
        have d2 := GB.at 2 rfl
        have d3 := GB.at 3 rfl
        have d4 := GB.at 4 rfl
        have d5 := GB.at 5 rfl
        have HX := specShowG_is k3 s3 n3 a3 b3 e3 key3 w17
        go_wp2_with fail
        try rw [hw17]
        refine HX.mono ?_
        clear HX hw17 d0 d1 d2 d3 d4 d5 zs0 zc0 zf0 zs1 zc1 zf1 zs2 zc2 zf2 zs3 zc3 zf3 zs4 zc4 zf4 zs5 zc5 zf5
        rintro en w18 ⟨rfl, hb⟩
        have GBN := GB.later hb GB.lt
        have ZBN := ZB.later hb ZB.lt
        have BBN := BB.trans (hb.mono BB.size)
        clear GB ZB BB
        have GB := GBN
        have ZB := ZBN
        have BB := BBN
        clear GBN ZBN BBN
        clear hb
        rw [hY]
        have d0 := GB.at 0 rfl
        have d1 := GB.at 1 rfl
        have d2 := GB.at 2 rfl
        have d3 := GB.at 3 rfl
        have d4 := GB.at 4 rfl
        have d5 := GB.at 5 rfl
        have e0 := ZB.at 0 rfl
        have e1 := ZB.at 1 rfl
        have e2 := ZB.at 2 rfl
        have e3 := ZB.at 3 rfl
        have e4 := ZB.at 4 rfl
        have e5 := ZB.at 5 rfl
        have o1 : rtK X (wrap64 (key + 1)) = false := by rw [← hX]; exact shT_other (succ_ne key ki)
        have HR := implReadT_is X (wrap64 (key + 1)) w18 zX
        rw [o1, rtN_no o1, rtN_no o1, rtN_no o1, rtN_no o1, rtN_no o1, rtN_no o1, rtP_no o1, rtV_no o1] at HR
        clear o1
        go_wp2_with fail
        refine HR.mono ?_
        clear HR hne h2 d0 d1 d2 d3 d4 d5 e0 e1 e2 e3 e4 e5
        clear GB ZB
        rintro en w19 ⟨ua9, uc9, ub9, ud9, rfl, _, _, _, hb⟩
        have BBN := BB.trans (hb.mono BB.size)
        clear BB
        have BB := BBN
        clear BBN
        clear hb
        obtain ⟨w20, hw20⟩ : ∃ v, w19.alloc (.cells #[.int .i64 0, .int .i64 0, .int .i64 0, .int .i64 0, .int .i64 0, .int .i64 0, .slice ua9 0 uc9, .slice ub9 0 ud9] 28) = v := ⟨_, rfl⟩
        have hb : Below w19.heap.size w19 w20 := by rw [← hw20]; exact (Below.refl _ _).alloc (Nat.le_refl _) _
        have B9 : Blk w19.heap.size [.int .i64 0, .int .i64 0, .int .i64 0, .int .i64 0, .int .i64 0, .int .i64 0, .slice ua9 0 uc9, .slice ub9 0 ud9] w20 := by rw [← hw20]; exact Blk.new _ _ _
        have BBN := BB.trans (hb.mono BB.size)
        clear BB
        have BB := BBN
        clear BBN
        clear hb
        have o1 : raK U (wrap64 (key2 + 1)) = false := by rw [← hU]; exact shA_other (succ_ne key2 ki2)
        have HR := implReadA_is U (wrap64 (key2 + 1)) w20 zU
        rw [o1, raV_no o1, raV_no o1, raV_no o1] at HR
        clear o1
        have HX := HR
        go_wp2_with fail
        try rw [hw20]
        refine HX.mono ?_
        clear HX hw20
        rintro en w21 ⟨rfl, hb⟩
        have B9N := B9.later hb B9.lt
        have BBN := BB.trans (hb.mono BB.size)
        clear B9 BB
        have B9 := B9N
        have BB := BBN
        clear B9N BBN
        clear hb
        clear B9
        obtain ⟨w22, hw22⟩ : ∃ v, w21.alloc (.cells #[.int .i64 0, .int .i64 0, .int .i64 0] 36) = v := ⟨_, rfl⟩
        have hb : Below w21.heap.size w21 w22 := by rw [← hw22]; exact (Below.refl _ _).alloc (Nat.le_refl _) _
        have B9 : Blk w21.heap.size [.int .i64 0, .int .i64 0, .int .i64 0] w22 := by rw [← hw22]; exact Blk.new _ _ _
        have BBN := BB.trans (hb.mono BB.size)
        clear BB
        have BB := BBN
        clear BBN
        clear hb
        have zs0 : w22.setCell ⟨w21.heap.size, 0, none⟩ (.int .i64 0) = w22 := by rw [← hw22]; simp [go_sem]
        have zc0 := B9.at 0 rfl
        have zf0 := B9.fz 0 rfl
        have zs1 : w22.setCell ⟨w21.heap.size, 1, none⟩ (.int .i64 0) = w22 := by rw [← hw22]; simp [go_sem]
        have zc1 := B9.at 1 rfl
        have zf1 := B9.fz 1 rfl
        have zs2 : w22.setCell ⟨w21.heap.size, 2, none⟩ (.int .i64 0) = w22 := by rw [← hw22]; simp [go_sem]
        have zc2 := B9.at 2 rfl
        have zf2 := B9.fz 2 rfl
        have o1 : rgK Y (wrap64 (key3 + 1)) = false := by rw [← hY]; exact shG_other (succ_ne key3 ki3)
        have HR := implReadG_is Y (wrap64 (key3 + 1)) w22 zY
        rw [o1, rgV_no o1, rgV_no o1, rgV_no o1, rgV_no o1, rgV_no o1, rgV_no o1] at HR
        clear o1
        have HX := HR
        go_wp2_with fail
        try rw [hw22]
        refine HX.mono ?_
        clear HX hw22 zs0 zc0 zf0 zs1 zc1 zf1 zs2 zc2 zf2
        rintro en w23 ⟨rfl, hb⟩
        have B9N := B9.later hb B9.lt
        have BBN := BB.trans (hb.mono BB.size)
        clear B9 BB
        have B9 := B9N
        have BB := BBN
        clear B9N BBN
        clear hb
        clear B9
        obtain ⟨w24, hw24⟩ : ∃ v, w23.alloc (.cells #[.int .i64 0, .int .i64 0, .int .i64 0, .int .i64 0, .int .i64 0, .int .i64 0] 43) = v := ⟨_, rfl⟩
        have hb : Below w23.heap.size w23 w24 := by rw [← hw24]; exact (Below.refl _ _).alloc (Nat.le_refl _) _
        have B9 : Blk w23.heap.size [.int .i64 0, .int .i64 0, .int .i64 0, .int .i64 0, .int .i64 0, .int .i64 0] w24 := by rw [← hw24]; exact Blk.new _ _ _
        have BBN := BB.trans (hb.mono BB.size)
        clear BB
        have BB := BBN
        clear BBN
        clear hb
        have zs0 : w24.setCell ⟨w23.heap.size, 0, none⟩ (.int .i64 0) = w24 := by rw [← hw24]; simp [go_sem]
        have zc0 := B9.at 0 rfl
        have zf0 := B9.fz 0 rfl
        have zs1 : w24.setCell ⟨w23.heap.size, 1, none⟩ (.int .i64 0) = w24 := by rw [← hw24]; simp [go_sem]
        have zc1 := B9.at 1 rfl
        have zf1 := B9.fz 1 rfl
        have zs2 : w24.setCell ⟨w23.heap.size, 2, none⟩ (.int .i64 0) = w24 := by rw [← hw24]; simp [go_sem]
        have zc2 := B9.at 2 rfl
        have zf2 := B9.fz 2 rfl
        have zs3 : w24.setCell ⟨w23.heap.size, 3, none⟩ (.int .i64 0) = w24 := by rw [← hw24]; simp [go_sem]
        have zc3 := B9.at 3 rfl
        have zf3 := B9.fz 3 rfl
        have zs4 : w24.setCell ⟨w23.heap.size, 4, none⟩ (.int .i64 0) = w24 := by rw [← hw24]; simp [go_sem]
        have zc4 := B9.at 4 rfl
        have zf4 := B9.fz 4 rfl
        have zs5 : w24.setCell ⟨w23.heap.size, 5, none⟩ (.int .i64 0) = w24 := by rw [← hw24]; simp [go_sem]
        have zc5 := B9.at 5 rfl
        have zf5 := B9.fz 5 rfl
        have o1 : rgK U key2 = false := by rw [← hU]; exact shA_grant
        have HR := implReadG_is U key2 w24 zU
        rw [o1, rgV_no o1, rgV_no o1, rgV_no o1, rgV_no o1, rgV_no o1, rgV_no o1] at HR
        clear o1
        have HX := HR
        go_wp2_with fail
        try rw [hw24]
        refine HX.mono ?_
        clear HX hw24 zs0 zc0 zf0 zs1 zc1 zf1 zs2 zc2 zf2 zs3 zc3 zf3 zs4 zc4 zf4 zs5 zc5 zf5
        rintro en w25 ⟨rfl, hb⟩
        have B9N := B9.later hb B9.lt
        have BBN := BB.trans (hb.mono BB.size)
        clear B9 BB
        have B9 := B9N
        have BB := BBN
        clear B9N BBN
        clear hb
        clear B9
        obtain ⟨w26, hw26⟩ : ∃ v, w25.alloc (.cells #[.int .i64 0, .int .i64 0, .int .i64 0, .int .i64 0, .int .i64 0, .int .i64 0] 43) = v := ⟨_, rfl⟩
        have hb : Below w25.heap.size w25 w26 := by rw [← hw26]; exact (Below.refl _ _).alloc (Nat.le_refl _) _
        have B9 : Blk w25.heap.size [.int .i64 0, .int .i64 0, .int .i64 0, .int .i64 0, .int .i64 0, .int .i64 0] w26 := by rw [← hw26]; exact Blk.new _ _ _
        have BBN := BB.trans (hb.mono BB.size)
        clear BB
        have BB := BBN
        clear BBN
        clear hb
        have zs0 : w26.setCell ⟨w25.heap.size, 0, none⟩ (.int .i64 0) = w26 := by rw [← hw26]; simp [go_sem]
        have zc0 := B9.at 0 rfl
        have zf0 := B9.fz 0 rfl
        have zs1 : w26.setCell ⟨w25.heap.size, 1, none⟩ (.int .i64 0) = w26 := by rw [← hw26]; simp [go_sem]
        have zc1 := B9.at 1 rfl
        have zf1 := B9.fz 1 rfl
        have zs2 : w26.setCell ⟨w25.heap.size, 2, none⟩ (.int .i64 0) = w26 := by rw [← hw26]; simp [go_sem]
        have zc2 := B9.at 2 rfl
        have zf2 := B9.fz 2 rfl
        have zs3 : w26.setCell ⟨w25.heap.size, 3, none⟩ (.int .i64 0) = w26 := by rw [← hw26]; simp [go_sem]
        have zc3 := B9.at 3 rfl
        have zf3 := B9.fz 3 rfl
        have zs4 : w26.setCell ⟨w25.heap.size, 4, none⟩ (.int .i64 0) = w26 := by rw [← hw26]; simp [go_sem]
        have zc4 := B9.at 4 rfl
        have zf4 := B9.fz 4 rfl
        have zs5 : w26.setCell ⟨w25.heap.size, 5, none⟩ (.int .i64 0) = w26 := by rw [← hw26]; simp [go_sem]
        have zc5 := B9.at 5 rfl
        have zf5 := B9.fz 5 rfl
        have HX := drawR ad len cap zs w26 ((HZ.out.below BB).lt BB.size)
        go_wp2_with fail
        try rw [hw26]
        refine HX.mono ?_
        clear HX hw26 zs0 zc0 zf0 zs1 zc1 zf1 zs2 zc2 zf2 zs3 zc3 zf3 zs4 zc4 zf4 zs5 zc5 zf5
        rintro en w27 ⟨x, y, z, rfl, hb⟩
        have B9N := B9.later hb B9.lt
        have BBN := BB.trans (hb.mono BB.size)
        clear B9 BB
        have B9 := B9N
        have BB := BBN
        clear B9N BBN
        clear hb
        clear B9
        obtain ⟨w28, hw28⟩ : ∃ v, w27.alloc (.cells #[.int .i64 x, .int .i64 y, .int .i64 z] 25) = v := ⟨_, rfl⟩
        have hb : Below w27.heap.size w27 w28 := by rw [← hw28]; exact (Below.refl _ _).alloc (Nat.le_refl _) _
        have RB : Blk w27.heap.size [.int .i64 x, .int .i64 y, .int .i64 z] w28 := by rw [← hw28]; exact Blk.new _ _ _
        have BBN := BB.trans (hb.mono BB.size)
        clear BB
        have BB := BBN
        clear BBN
        clear hb
        have d0 := RB.at 0 rfl
        have d1 := RB.at 1 rfl
        have d2 := RB.at 2 rfl
        have HX := implShow_is x y z w28
        go_wp2_with fail
        try rw [hw28]
        refine HX.mono ?_
        clear HX hw28 d0 d1 d2
        rintro en w29 ⟨rfl, hb⟩
        have RBN := RB.later hb RB.lt
        have BBN := BB.trans (hb.mono BB.size)
        clear RB BB
        have RB := RBN
        have BB := BBN
        clear RBN BBN
        clear hb
        have zR : (shR x y z).size ≤ 1048576 := Nat.le_trans (shR_size x y z) (by omega)
        by_cases h3 : rOk x y z = true
        · obtain ⟨k0, k1, k2, k3_⟩ := rest_trip x y z (shR_full x y z h3)
          have HR := implRead_is (shR x y z) w29 zR
          rw [k0, k1, k2, k3_] at HR
          clear k0 k1 k2 k3_
          have HX := HR
          go_wp2_with fail
          refine HX.mono ?_
          clear HX
          rintro en w30 ⟨rfl, hb⟩
          have RBN := RB.later hb RB.lt
          have BBN := BB.trans (hb.mono BB.size)
          clear RB BB
          have RB := RBN
          have BB := BBN
          clear RBN BBN
          clear hb
          obtain ⟨w31, hw31⟩ : ∃ v, w30.alloc (.cells #[.int .i64 x, .int .i64 y, .int .i64 z] 25) = v := ⟨_, rfl⟩
          have hb : Below w30.heap.size w30 w31 := by rw [← hw31]; exact (Below.refl _ _).alloc (Nat.le_refl _) _
          have QB : Blk w30.heap.size [.int .i64 x, .int .i64 y, .int .i64 z] w31 := by rw [← hw31]; exact Blk.new _ _ _
          have RBN := RB.later hb RB.lt
          have BBN := BB.trans (hb.mono BB.size)
          clear RB BB
          have RB := RBN
          have BB := BBN
          clear RBN BBN
          clear hb
          have d0 := RB.at 0 rfl
          have d1 := RB.at 1 rfl
          have d2 := RB.at 2 rfl
          have e0 := QB.at 0 rfl
          have e1 := QB.at 1 rfl
          have e2 := QB.at 2 rfl
          have SK := specOk_is x y z w31
          rw [h3] at SK
          go_wp2_with fail
          try rw [hw31]
          refine SK.mono ?_
          clear SK hw31  d0 d1 d2 e0 e1 e2
          rintro en w32 ⟨rfl, hb⟩
          have RBN := RB.later hb RB.lt
          have QBN := QB.later hb QB.lt
          have BBN := BB.trans (hb.mono BB.size)
          clear RB QB BB
          have RB := RBN
          have QB := QBN
          have BB := BBN
          clear RBN QBN BBN
          clear hb
          have d0 := RB.at 0 rfl
          have d1 := RB.at 1 rfl
          have d2 := RB.at 2 rfl
          have e0 := QB.at 0 rfl
          have e1 := QB.at 1 rfl
          have e2 := QB.at 2 rfl
          clear RB QB
          go_wp2
          go_ret
          exact ⟨rfl, BB⟩
        · rw [Bool.not_eq_true] at h3
          have k0 : rdK (numsR (shR x y z)).1 = false := by unfold shR; rw [h3]; show rdK (numsR ⟨#[]⟩).1 = false; rw [numsR_nil]; rfl
          obtain ⟨k1, k2, k3_⟩ := rd_no k0
          have HR := implRead_is (shR x y z) w29 zR
          rw [k0, k1, k2, k3_] at HR
          clear k0 k1 k2 k3_
          have HX := HR
          go_wp2_with fail
          refine HX.mono ?_
          clear HX
          rintro en w30 ⟨rfl, hb⟩
          have RBN := RB.later hb RB.lt
          have BBN := BB.trans (hb.mono BB.size)
          clear RB BB
          have RB := RBN
          have BB := BBN
          clear RBN BBN
          clear hb
          obtain ⟨w31, hw31⟩ : ∃ v, w30.alloc (.cells #[.int .i64 0, .int .i64 0, .int .i64 0] 25) = v := ⟨_, rfl⟩
          have hb : Below w30.heap.size w30 w31 := by rw [← hw31]; exact (Below.refl _ _).alloc (Nat.le_refl _) _
          have QB : Blk w30.heap.size [.int .i64 0, .int .i64 0, .int .i64 0] w31 := by rw [← hw31]; exact Blk.new _ _ _
          have RBN := RB.later hb RB.lt
          have BBN := BB.trans (hb.mono BB.size)
          clear RB BB
          have RB := RBN
          have BB := BBN
          clear RBN BBN
          clear hb
          have zs0 : w31.setCell ⟨w30.heap.size, 0, none⟩ (.int .i64 0) = w31 := by rw [← hw31]; simp [go_sem]
          have zc0 := QB.at 0 rfl
          have zf0 := QB.fz 0 rfl
          have zs1 : w31.setCell ⟨w30.heap.size, 1, none⟩ (.int .i64 0) = w31 := by rw [← hw31]; simp [go_sem]
          have zc1 := QB.at 1 rfl
          have zf1 := QB.fz 1 rfl
          have zs2 : w31.setCell ⟨w30.heap.size, 2, none⟩ (.int .i64 0) = w31 := by rw [← hw31]; simp [go_sem]
          have zc2 := QB.at 2 rfl
          have zf2 := QB.fz 2 rfl
          have d0 := RB.at 0 rfl
          have d1 := RB.at 1 rfl
          have d2 := RB.at 2 rfl
          have e0 := QB.at 0 rfl
          have e1 := QB.at 1 rfl
          have e2 := QB.at 2 rfl
          have SK := specOk_is x y z w31
          rw [h3] at SK
          go_wp2_with fail
          try rw [hw31]
          refine SK.mono ?_
          clear SK hw31 zs0 zc0 zf0 zs1 zc1 zf1 zs2 zc2 zf2 d0 d1 d2 e0 e1 e2
          rintro en w32 ⟨rfl, hb⟩
          have RBN := RB.later hb RB.lt
          have QBN := QB.later hb QB.lt
          have BBN := BB.trans (hb.mono BB.size)
          clear RB QB BB
          have RB := RBN
          have QB := QBN
          have BB := BBN
          clear RBN QBN BBN
          clear hb
          have d0 := RB.at 0 rfl
          have d1 := RB.at 1 rfl
          have d2 := RB.at 2 rfl
          have e0 := QB.at 0 rfl
          have e1 := QB.at 1 rfl
          have e2 := QB.at 2 rfl
          clear RB QB
          go_wp2
          go_ret
          exact ⟨rfl, BB⟩
      · obtain ⟨k0, k1, k2, k3_, k4, k5, k6⟩ := shG_yes (k := k3) (s := s3) (n := n3) (a := a3) (b := b3) (e := e3) (key := key3) (by rw [hY]; exact h2)
        rw [hY] at k0 k1 k2 k3_ k4 k5 k6
        have HR := implReadG_is Y key3 w15 zY
        rw [k0, k1, k2, k3_, k4, k5, k6] at HR
        clear k0 k1 k2 k3_ k4 k5 k6
        have hne := ne_nil Y (by omega)
        have HX := HR
        go_wp2_with fail
        refine HX.mono ?_
        clear HX
        rintro en w16 ⟨rfl, hb⟩
        have GBN := GB.later hb GB.lt
        have BBN := BB.trans (hb.mono BB.size)
        clear GB BB
        have GB := GBN
        have BB := BBN
        clear GBN BBN
        clear hb
        obtain ⟨w17, hw17⟩ : ∃ v, w16.alloc (.cells #[.int .i64 k3, .int .i64 s3, .int .i64 n3, .int .i64 a3, .int .i64 b3, .int .i64 e3] 43) = v := ⟨_, rfl⟩
        have hb : Below w16.heap.size w16 w17 := by rw [← hw17]; exact (Below.refl _ _).alloc (Nat.le_refl _) _
        have ZB : Blk w16.heap.size [.int .i64 k3, .int .i64 s3, .int .i64 n3, .int .i64 a3, .int .i64 b3, .int .i64 e3] w17 := by rw [← hw17]; exact Blk.new _ _ _
        have GBN := GB.later hb GB.lt
        have BBN := BB.trans (hb.mono BB.size)
        clear GB BB
        have GB := GBN
        have BB := BBN
        clear GBN BBN
        clear hb
        have d0 := GB.at 0 rfl
        have d1 := GB.at 1 rfl
        have d2 := GB.at 2 rfl
        have d3 := GB.at 3 rfl
        have d4 := GB.at 4 rfl
        have d5 := GB.at 5 rfl
        have HX := specShowG_is k3 s3 n3 a3 b3 e3 key3 w17
        go_wp2_with fail
        try rw [hw17]
        refine HX.mono ?_
        clear HX hw17 d0 d1 d2 d3 d4 d5
        rintro en w18 ⟨rfl, hb⟩
        have GBN := GB.later hb GB.lt
        have ZBN := ZB.later hb ZB.lt
        have BBN := BB.trans (hb.mono BB.size)
        clear GB ZB BB
        have GB := GBN
        have ZB := ZBN
        have BB := BBN
        clear GBN ZBN BBN
        clear hb
        rw [hY]
        have d0 := GB.at 0 rfl
        have d1 := GB.at 1 rfl
        have d2 := GB.at 2 rfl
        have d3 := GB.at 3 rfl
        have d4 := GB.at 4 rfl
        have d5 := GB.at 5 rfl
        have e0 := ZB.at 0 rfl
        have e1 := ZB.at 1 rfl
        have e2 := ZB.at 2 rfl
        have e3 := ZB.at 3 rfl
        have e4 := ZB.at 4 rfl
        have e5 := ZB.at 5 rfl
        have o1 : rtK X (wrap64 (key + 1)) = false := by rw [← hX]; exact shT_other (succ_ne key ki)
        have HR := implReadT_is X (wrap64 (key + 1)) w18 zX
        rw [o1, rtN_no o1, rtN_no o1, rtN_no o1, rtN_no o1, rtN_no o1, rtN_no o1, rtP_no o1, rtV_no o1] at HR
        clear o1
        go_wp2_with fail
        refine HR.mono ?_
        clear HR hne h2 d0 d1 d2 d3 d4 d5 e0 e1 e2 e3 e4 e5
        clear GB ZB
        rintro en w19 ⟨ua9, uc9, ub9, ud9, rfl, _, _, _, hb⟩
        have BBN := BB.trans (hb.mono BB.size)
        clear BB
        have BB := BBN
        clear BBN
        clear hb
        obtain ⟨w20, hw20⟩ : ∃ v, w19.alloc (.cells #[.int .i64 0, .int .i64 0, .int .i64 0, .int .i64 0, .int .i64 0, .int .i64 0, .slice ua9 0 uc9, .slice ub9 0 ud9] 28) = v := ⟨_, rfl⟩
        have hb : Below w19.heap.size w19 w20 := by rw [← hw20]; exact (Below.refl _ _).alloc (Nat.le_refl _) _
        have B9 : Blk w19.heap.size [.int .i64 0, .int .i64 0, .int .i64 0, .int .i64 0, .int .i64 0, .int .i64 0, .slice ua9 0 uc9, .slice ub9 0 ud9] w20 := by rw [← hw20]; exact Blk.new _ _ _
        have BBN := BB.trans (hb.mono BB.size)
        clear BB
        have BB := BBN
        clear BBN
        clear hb
        have o1 : raK U (wrap64 (key2 + 1)) = false := by rw [← hU]; exact shA_other (succ_ne key2 ki2)
        have HR := implReadA_is U (wrap64 (key2 + 1)) w20 zU
        rw [o1, raV_no o1, raV_no o1, raV_no o1] at HR
        clear o1
        have HX := HR
        go_wp2_with fail
        try rw [hw20]
        refine HX.mono ?_
        clear HX hw20
        rintro en w21 ⟨rfl, hb⟩
        have B9N := B9.later hb B9.lt
        have BBN := BB.trans (hb.mono BB.size)
        clear B9 BB
        have B9 := B9N
        have BB := BBN
        clear B9N BBN
        clear hb
        clear B9
        obtain ⟨w22, hw22⟩ : ∃ v, w21.alloc (.cells #[.int .i64 0, .int .i64 0, .int .i64 0] 36) = v := ⟨_, rfl⟩
        have hb : Below w21.heap.size w21 w22 := by rw [← hw22]; exact (Below.refl _ _).alloc (Nat.le_refl _) _
        have B9 : Blk w21.heap.size [.int .i64 0, .int .i64 0, .int .i64 0] w22 := by rw [← hw22]; exact Blk.new _ _ _
        have BBN := BB.trans (hb.mono BB.size)
        clear BB
        have BB := BBN
        clear BBN
        clear hb
        have zs0 : w22.setCell ⟨w21.heap.size, 0, none⟩ (.int .i64 0) = w22 := by rw [← hw22]; simp [go_sem]
        have zc0 := B9.at 0 rfl
        have zf0 := B9.fz 0 rfl
        have zs1 : w22.setCell ⟨w21.heap.size, 1, none⟩ (.int .i64 0) = w22 := by rw [← hw22]; simp [go_sem]
        have zc1 := B9.at 1 rfl
        have zf1 := B9.fz 1 rfl
        have zs2 : w22.setCell ⟨w21.heap.size, 2, none⟩ (.int .i64 0) = w22 := by rw [← hw22]; simp [go_sem]
        have zc2 := B9.at 2 rfl
        have zf2 := B9.fz 2 rfl
        have o1 : rgK Y (wrap64 (key3 + 1)) = false := by rw [← hY]; exact shG_other (succ_ne key3 ki3)
        have HR := implReadG_is Y (wrap64 (key3 + 1)) w22 zY
        rw [o1, rgV_no o1, rgV_no o1, rgV_no o1, rgV_no o1, rgV_no o1, rgV_no o1] at HR
        clear o1
        have HX := HR
        go_wp2_with fail
        try rw [hw22]
        refine HX.mono ?_
        clear HX hw22 zs0 zc0 zf0 zs1 zc1 zf1 zs2 zc2 zf2
        rintro en w23 ⟨rfl, hb⟩
        have B9N := B9.later hb B9.lt
        have BBN := BB.trans (hb.mono BB.size)
        clear B9 BB
        have B9 := B9N
        have BB := BBN
        clear B9N BBN
        clear hb
        clear B9
        obtain ⟨w24, hw24⟩ : ∃ v, w23.alloc (.cells #[.int .i64 0, .int .i64 0, .int .i64 0, .int .i64 0, .int .i64 0, .int .i64 0] 43) = v := ⟨_, rfl⟩
        have hb : Below w23.heap.size w23 w24 := by rw [← hw24]; exact (Below.refl _ _).alloc (Nat.le_refl _) _
        have B9 : Blk w23.heap.size [.int .i64 0, .int .i64 0, .int .i64 0, .int .i64 0, .int .i64 0, .int .i64 0] w24 := by rw [← hw24]; exact Blk.new _ _ _
        have BBN := BB.trans (hb.mono BB.size)
        clear BB
        have BB := BBN
        clear BBN
        clear hb
        have zs0 : w24.setCell ⟨w23.heap.size, 0, none⟩ (.int .i64 0) = w24 := by rw [← hw24]; simp [go_sem]
        have zc0 := B9.at 0 rfl
        have zf0 := B9.fz 0 rfl
        have zs1 : w24.setCell ⟨w23.heap.size, 1, none⟩ (.int .i64 0) = w24 := by rw [← hw24]; simp [go_sem]
        have zc1 := B9.at 1 rfl
        have zf1 := B9.fz 1 rfl
        have zs2 : w24.setCell ⟨w23.heap.size, 2, none⟩ (.int .i64 0) = w24 := by rw [← hw24]; simp [go_sem]
        have zc2 := B9.at 2 rfl
        have zf2 := B9.fz 2 rfl
        have zs3 : w24.setCell ⟨w23.heap.size, 3, none⟩ (.int .i64 0) = w24 := by rw [← hw24]; simp [go_sem]
        have zc3 := B9.at 3 rfl
        have zf3 := B9.fz 3 rfl
        have zs4 : w24.setCell ⟨w23.heap.size, 4, none⟩ (.int .i64 0) = w24 := by rw [← hw24]; simp [go_sem]
        have zc4 := B9.at 4 rfl
        have zf4 := B9.fz 4 rfl
        have zs5 : w24.setCell ⟨w23.heap.size, 5, none⟩ (.int .i64 0) = w24 := by rw [← hw24]; simp [go_sem]
        have zc5 := B9.at 5 rfl
        have zf5 := B9.fz 5 rfl
        have o1 : rgK U key2 = false := by rw [← hU]; exact shA_grant
        have HR := implReadG_is U key2 w24 zU
        rw [o1, rgV_no o1, rgV_no o1, rgV_no o1, rgV_no o1, rgV_no o1, rgV_no o1] at HR
        clear o1
        have HX := HR
        go_wp2_with fail
        try rw [hw24]
        refine HX.mono ?_
        clear HX hw24 zs0 zc0 zf0 zs1 zc1 zf1 zs2 zc2 zf2 zs3 zc3 zf3 zs4 zc4 zf4 zs5 zc5 zf5
        rintro en w25 ⟨rfl, hb⟩
        have B9N := B9.later hb B9.lt
        have BBN := BB.trans (hb.mono BB.size)
        clear B9 BB
        have B9 := B9N
        have BB := BBN
        clear B9N BBN
        clear hb
        clear B9
        obtain ⟨w26, hw26⟩ : ∃ v, w25.alloc (.cells #[.int .i64 0, .int .i64 0, .int .i64 0, .int .i64 0, .int .i64 0, .int .i64 0] 43) = v := ⟨_, rfl⟩
        have hb : Below w25.heap.size w25 w26 := by rw [← hw26]; exact (Below.refl _ _).alloc (Nat.le_refl _) _
        have B9 : Blk w25.heap.size [.int .i64 0, .int .i64 0, .int .i64 0, .int .i64 0, .int .i64 0, .int .i64 0] w26 := by rw [← hw26]; exact Blk.new _ _ _
        have BBN := BB.trans (hb.mono BB.size)
        clear BB
        have BB := BBN
        clear BBN
        clear hb
        have zs0 : w26.setCell ⟨w25.heap.size, 0, none⟩ (.int .i64 0) = w26 := by rw [← hw26]; simp [go_sem]
        have zc0 := B9.at 0 rfl
        have zf0 := B9.fz 0 rfl
        have zs1 : w26.setCell ⟨w25.heap.size, 1, none⟩ (.int .i64 0) = w26 := by rw [← hw26]; simp [go_sem]
        have zc1 := B9.at 1 rfl
        have zf1 := B9.fz 1 rfl
        have zs2 : w26.setCell ⟨w25.heap.size, 2, none⟩ (.int .i64 0) = w26 := by rw [← hw26]; simp [go_sem]
        have zc2 := B9.at 2 rfl
        have zf2 := B9.fz 2 rfl
        have zs3 : w26.setCell ⟨w25.heap.size, 3, none⟩ (.int .i64 0) = w26 := by rw [← hw26]; simp [go_sem]
        have zc3 := B9.at 3 rfl
        have zf3 := B9.fz 3 rfl
        have zs4 : w26.setCell ⟨w25.heap.size, 4, none⟩ (.int .i64 0) = w26 := by rw [← hw26]; simp [go_sem]
        have zc4 := B9.at 4 rfl
        have zf4 := B9.fz 4 rfl
        have zs5 : w26.setCell ⟨w25.heap.size, 5, none⟩ (.int .i64 0) = w26 := by rw [← hw26]; simp [go_sem]
        have zc5 := B9.at 5 rfl
        have zf5 := B9.fz 5 rfl
        have HX := drawR ad len cap zs w26 ((HZ.out.below BB).lt BB.size)
        go_wp2_with fail
        try rw [hw26]
        refine HX.mono ?_
        clear HX hw26 zs0 zc0 zf0 zs1 zc1 zf1 zs2 zc2 zf2 zs3 zc3 zf3 zs4 zc4 zf4 zs5 zc5 zf5
        rintro en w27 ⟨x, y, z, rfl, hb⟩
        have B9N := B9.later hb B9.lt
        have BBN := BB.trans (hb.mono BB.size)
        clear B9 BB
        have B9 := B9N
        have BB := BBN
        clear B9N BBN
        clear hb
        clear B9
        obtain ⟨w28, hw28⟩ : ∃ v, w27.alloc (.cells #[.int .i64 x, .int .i64 y, .int .i64 z] 25) = v := ⟨_, rfl⟩
        have hb : Below w27.heap.size w27 w28 := by rw [← hw28]; exact (Below.refl _ _).alloc (Nat.le_refl _) _
        have RB : Blk w27.heap.size [.int .i64 x, .int .i64 y, .int .i64 z] w28 := by rw [← hw28]; exact Blk.new _ _ _
        have BBN := BB.trans (hb.mono BB.size)
        clear BB
        have BB := BBN
        clear BBN
        clear hb
        have d0 := RB.at 0 rfl
        have d1 := RB.at 1 rfl
        have d2 := RB.at 2 rfl
        have HX := implShow_is x y z w28
        go_wp2_with fail
        try rw [hw28]
        refine HX.mono ?_
        clear HX hw28 d0 d1 d2
        rintro en w29 ⟨rfl, hb⟩
        have RBN := RB.later hb RB.lt
        have BBN := BB.trans (hb.mono BB.size)
        clear RB BB
        have RB := RBN
        have BB := BBN
        clear RBN BBN
        clear hb
        have zR : (shR x y z).size ≤ 1048576 := Nat.le_trans (shR_size x y z) (by omega)
        by_cases h3 : rOk x y z = true
        · obtain ⟨k0, k1, k2, k3_⟩ := rest_trip x y z (shR_full x y z h3)
          have HR := implRead_is (shR x y z) w29 zR
          rw [k0, k1, k2, k3_] at HR
          clear k0 k1 k2 k3_
          have HX := HR
          go_wp2_with fail
          refine HX.mono ?_
          clear HX
          rintro en w30 ⟨rfl, hb⟩
          have RBN := RB.later hb RB.lt
          have BBN := BB.trans (hb.mono BB.size)
          clear RB BB
          have RB := RBN
          have BB := BBN
          clear RBN BBN
          clear hb
          obtain ⟨w31, hw31⟩ : ∃ v, w30.alloc (.cells #[.int .i64 x, .int .i64 y, .int .i64 z] 25) = v := ⟨_, rfl⟩
          have hb : Below w30.heap.size w30 w31 := by rw [← hw31]; exact (Below.refl _ _).alloc (Nat.le_refl _) _
          have QB : Blk w30.heap.size [.int .i64 x, .int .i64 y, .int .i64 z] w31 := by rw [← hw31]; exact Blk.new _ _ _
          have RBN := RB.later hb RB.lt
          have BBN := BB.trans (hb.mono BB.size)
          clear RB BB
          have RB := RBN
          have BB := BBN
          clear RBN BBN
          clear hb
          have d0 := RB.at 0 rfl
          have d1 := RB.at 1 rfl
          have d2 := RB.at 2 rfl
          have e0 := QB.at 0 rfl
          have e1 := QB.at 1 rfl
          have e2 := QB.at 2 rfl
          have SK := specOk_is x y z w31
          rw [h3] at SK
          go_wp2_with fail
          try rw [hw31]
          refine SK.mono ?_
          clear SK hw31  d0 d1 d2 e0 e1 e2
          rintro en w32 ⟨rfl, hb⟩
          have RBN := RB.later hb RB.lt
          have QBN := QB.later hb QB.lt
          have BBN := BB.trans (hb.mono BB.size)
          clear RB QB BB
          have RB := RBN
          have QB := QBN
          have BB := BBN
          clear RBN QBN BBN
          clear hb
          have d0 := RB.at 0 rfl
          have d1 := RB.at 1 rfl
          have d2 := RB.at 2 rfl
          have e0 := QB.at 0 rfl
          have e1 := QB.at 1 rfl
          have e2 := QB.at 2 rfl
          clear RB QB
          go_wp2
          go_ret
          exact ⟨rfl, BB⟩
        · rw [Bool.not_eq_true] at h3
          have k0 : rdK (numsR (shR x y z)).1 = false := by unfold shR; rw [h3]; show rdK (numsR ⟨#[]⟩).1 = false; rw [numsR_nil]; rfl
          obtain ⟨k1, k2, k3_⟩ := rd_no k0
          have HR := implRead_is (shR x y z) w29 zR
          rw [k0, k1, k2, k3_] at HR
          clear k0 k1 k2 k3_
          have HX := HR
          go_wp2_with fail
          refine HX.mono ?_
          clear HX
          rintro en w30 ⟨rfl, hb⟩
          have RBN := RB.later hb RB.lt
          have BBN := BB.trans (hb.mono BB.size)
          clear RB BB
          have RB := RBN
          have BB := BBN
          clear RBN BBN
          clear hb
          obtain ⟨w31, hw31⟩ : ∃ v, w30.alloc (.cells #[.int .i64 0, .int .i64 0, .int .i64 0] 25) = v := ⟨_, rfl⟩
          have hb : Below w30.heap.size w30 w31 := by rw [← hw31]; exact (Below.refl _ _).alloc (Nat.le_refl _) _
          have QB : Blk w30.heap.size [.int .i64 0, .int .i64 0, .int .i64 0] w31 := by rw [← hw31]; exact Blk.new _ _ _
          have RBN := RB.later hb RB.lt
          have BBN := BB.trans (hb.mono BB.size)
          clear RB BB
          have RB := RBN
          have BB := BBN
          clear RBN BBN
          clear hb
          have zs0 : w31.setCell ⟨w30.heap.size, 0, none⟩ (.int .i64 0) = w31 := by rw [← hw31]; simp [go_sem]
          have zc0 := QB.at 0 rfl
          have zf0 := QB.fz 0 rfl
          have zs1 : w31.setCell ⟨w30.heap.size, 1, none⟩ (.int .i64 0) = w31 := by rw [← hw31]; simp [go_sem]
          have zc1 := QB.at 1 rfl
          have zf1 := QB.fz 1 rfl
          have zs2 : w31.setCell ⟨w30.heap.size, 2, none⟩ (.int .i64 0) = w31 := by rw [← hw31]; simp [go_sem]
          have zc2 := QB.at 2 rfl
          have zf2 := QB.fz 2 rfl
          have d0 := RB.at 0 rfl
          have d1 := RB.at 1 rfl
          have d2 := RB.at 2 rfl
          have e0 := QB.at 0 rfl
          have e1 := QB.at 1 rfl
          have e2 := QB.at 2 rfl
          have SK := specOk_is x y z w31
          rw [h3] at SK
          go_wp2_with fail
          try rw [hw31]
          refine SK.mono ?_
          clear SK hw31 zs0 zc0 zf0 zs1 zc1 zf1 zs2 zc2 zf2 d0 d1 d2 e0 e1 e2
          rintro en w32 ⟨rfl, hb⟩
          have RBN := RB.later hb RB.lt
          have QBN := QB.later hb QB.lt
          have BBN := BB.trans (hb.mono BB.size)
          clear RB QB BB
          have RB := RBN
          have QB := QBN
          have BB := BBN
          clear RBN QBN BBN
          clear hb
          have d0 := RB.at 0 rfl
          have d1 := RB.at 1 rfl
          have d2 := RB.at 2 rfl
          have e0 := QB.at 0 rfl
          have e1 := QB.at 1 rfl
          have e2 := QB.at 2 rfl
          clear RB QB
          go_wp2
          go_ret
          exact ⟨rfl, BB⟩
  · obtain ⟨k0, k1, k2, k3, k4, k5, k6, k7, k8⟩ := shT_yes (c := c) (s := s) (k := k) (a := a) (b := b) (e := e) (key := key) (P := P) (V := V) (by rw [hX]; exact h0)
    rw [hX] at k0 k1 k2 k3 k4 k5 k6 k7 k8
    have HR := implReadT_is X key w3 zX
    rw [k0, k1, k2, k3, k4, k5, k6, k7, k8] at HR
    clear k0 k1 k2 k3 k4 k5 k6 k7 k8
    have hne := ne_nil X (by omega)
    go_wp2_with fail
    refine HR.mono ?_
    clear HR
    rintro en w4 ⟨ua, uc, ub, ud, rfl, ou, ov, _, hb⟩
    have TBN := TB.later hb TB.lt
    have hpN := RowAt.later hp hb
    have hvN := RowAt.later hv hb
    have BBN := BB.trans (hb.mono BB.size)
    clear TB hp hv BB
    have TB := TBN
    have hp := hpN
    have hv := hvN
    have BB := BBN
    clear TBN hpN hvN BBN
    clear hb
    have hu := own_rowAt (f := Value.int .i64) ou
    have hw := own_rowAt (f := Value.int .i64) ov
    clear ou ov
    obtain ⟨w5, hw5⟩ : ∃ v, w4.alloc (.cells #[.int .i64 c, .int .i64 s, .int .i64 k, .int .i64 a, .int .i64 b, .int .i64 e, .slice ua P.length uc, .slice ub V.length ud] 28) = v := ⟨_, rfl⟩
    have hb : Below w4.heap.size w4 w5 := by rw [← hw5]; exact (Below.refl _ _).alloc (Nat.le_refl _) _
    have XB : Blk w4.heap.size [.int .i64 c, .int .i64 s, .int .i64 k, .int .i64 a, .int .i64 b, .int .i64 e, .slice ua P.length uc, .slice ub V.length ud] w5 := by rw [← hw5]; exact Blk.new _ _ _
    have TBN := TB.later hb TB.lt
    have hpN := RowAt.later hp hb
    have hvN := RowAt.later hv hb
    have huN := RowAt.later hu hb
    have hwN := RowAt.later hw hb
    have BBN := BB.trans (hb.mono BB.size)
    clear TB hp hv hu hw BB
    have TB := TBN
    have hp := hpN
    have hv := hvN
    have hu := huN
    have hw := hwN
    have BB := BBN
    clear TBN hpN hvN huN hwN BBN
    clear hb
    have d0 := TB.at 0 rfl
    have d1 := TB.at 1 rfl
    have d2 := TB.at 2 rfl
    have d3 := TB.at 3 rfl
    have d4 := TB.at 4 rfl
    have d5 := TB.at 5 rfl
    have d6 := TB.at 6 rfl
    have d7 := TB.at 7 rfl
    have HX := specShowT_is c s k a b e pa P pc va V vc key w5 hp hv lP2 lV2
    go_wp2_with fail
    try rw [hw5]
    refine HX.mono ?_
    clear HX hw5 d0 d1 d2 d3 d4 d5 d6 d7
    rintro en w6 ⟨rfl, hb⟩
    have TBN := TB.later hb TB.lt
    have XBN := XB.later hb XB.lt
    have hpN := RowAt.later hp hb
    have hvN := RowAt.later hv hb
    have huN := RowAt.later hu hb
    have hwN := RowAt.later hw hb
    have BBN := BB.trans (hb.mono BB.size)
    clear TB XB hp hv hu hw BB
    have TB := TBN
    have XB := XBN
    have hp := hpN
    have hv := hvN
    have hu := huN
    have hw := hwN
    have BB := BBN
    clear TBN XBN hpN hvN huN hwN BBN
    clear hb
    rw [hX]
    have d0 := TB.at 0 rfl
    have d1 := TB.at 1 rfl
    have d2 := TB.at 2 rfl
    have d3 := TB.at 3 rfl
    have d4 := TB.at 4 rfl
    have d5 := TB.at 5 rfl
    have d6 := TB.at 6 rfl
    have d7 := TB.at 7 rfl
    have e0 := XB.at 0 rfl
    have e1 := XB.at 1 rfl
    have e2 := XB.at 2 rfl
    have e3 := XB.at 3 rfl
    have e4 := XB.at 4 rfl
    have e5 := XB.at 5 rfl
    have e6 := XB.at 6 rfl
    have e7 := XB.at 7 rfl
    have HX := same_is ua pa uc pc P w6 hu hp lP2
    go_wp2_with fail
    refine HX.mono ?_
    clear HX d0 d1 d2 d3 d4 d5 d6 d7 e0 e1 e2 e3 e4 e5 e6 e7
    rintro en w7 ⟨rfl, hb⟩
    have TBN := TB.later hb TB.lt
    have XBN := XB.later hb XB.lt
    have hpN := RowAt.later hp hb
    have hvN := RowAt.later hv hb
    have huN := RowAt.later hu hb
    have hwN := RowAt.later hw hb
    have BBN := BB.trans (hb.mono BB.size)
    clear TB XB hp hv hu hw BB
    have TB := TBN
    have XB := XBN
    have hp := hpN
    have hv := hvN
    have hu := huN
    have hw := hwN
    have BB := BBN
    clear TBN XBN hpN hvN huN hwN BBN
    clear hb
    have d0 := TB.at 0 rfl
    have d1 := TB.at 1 rfl
    have d2 := TB.at 2 rfl
    have d3 := TB.at 3 rfl
    have d4 := TB.at 4 rfl
    have d5 := TB.at 5 rfl
    have d6 := TB.at 6 rfl
    have d7 := TB.at 7 rfl
    have e0 := XB.at 0 rfl
    have e1 := XB.at 1 rfl
    have e2 := XB.at 2 rfl
    have e3 := XB.at 3 rfl
    have e4 := XB.at 4 rfl
    have e5 := XB.at 5 rfl
    have e6 := XB.at 6 rfl
    have e7 := XB.at 7 rfl
    have HX := same_is ub va ud vc V w7 hw hv lV2
    go_wp2_with fail
    refine HX.mono ?_
    clear HX d0 d1 d2 d3 d4 d5 d6 d7 e0 e1 e2 e3 e4 e5 e6 e7
    rintro en w8 ⟨rfl, hb⟩
    have TBN := TB.later hb TB.lt
    have XBN := XB.later hb XB.lt
    have hpN := RowAt.later hp hb
    have hvN := RowAt.later hv hb
    have huN := RowAt.later hu hb
    have hwN := RowAt.later hw hb
    have BBN := BB.trans (hb.mono BB.size)
    clear TB XB hp hv hu hw BB
    have TB := TBN
    have XB := XBN
    have hp := hpN
    have hv := hvN
    have hu := huN
    have hw := hwN
    have BB := BBN
    clear TBN XBN hpN hvN huN hwN BBN
    clear hb
    clear hu hw
    clear TB XB hp hv
    clear lP2 lV2 lP lV si hne h0
    have HX := drawA ad len cap zs w8 ((HZ.out.below BB).lt BB.size)
    go_wp2_with fail
    refine HX.mono ?_
    clear HX
    rintro en w9 ⟨c2, t2, q2, key2, rfl, ki2, hb⟩
    have BBN := BB.trans (hb.mono BB.size)
    clear BB
    have BB := BBN
    clear BBN
    clear hb
    obtain ⟨w10, hw10⟩ : ∃ v, w9.alloc (.cells #[.int .i64 c2, .int .i64 t2, .int .i64 q2] 36) = v := ⟨_, rfl⟩
    have hb : Below w9.heap.size w9 w10 := by rw [← hw10]; exact (Below.refl _ _).alloc (Nat.le_refl _) _
    have AB : Blk w9.heap.size [.int .i64 c2, .int .i64 t2, .int .i64 q2] w10 := by rw [← hw10]; exact Blk.new _ _ _
    have BBN := BB.trans (hb.mono BB.size)
    clear BB
    have BB := BBN
    clear BBN
    clear hb
    have d0 := AB.at 0 rfl
    have d1 := AB.at 1 rfl
    have d2 := AB.at 2 rfl
    obtain ⟨U, hU⟩ : ∃ X, shA c2 t2 q2 key2 = X := ⟨_, rfl⟩
    have zU : U.size ≤ 1048576 := by rw [← hU]; unfold shA; split; exact Nat.le_trans (sealT_size _ _) (by omega); show 0 ≤ 1048576; omega
    have HX := implShowA_is c2 t2 q2 key2 w10
    go_wp2_with fail
    try rw [hw10]
    refine HX.mono ?_
    clear HX hw10 d0 d1 d2
    rintro en w11 ⟨rfl, hb⟩
    have ABN := AB.later hb AB.lt
    have BBN := BB.trans (hb.mono BB.size)
    clear AB BB
    have AB := ABN
    have BB := BBN
    clear ABN BBN
    clear hb
    rw [hU]
    by_cases h1 : U.size = 0
    · have k0 := (shown_nil (key := key2) h1).2.1
      have HR := implReadA_is U key2 w11 zU
      rw [k0, raV_no k0, raV_no k0, raV_no k0] at HR
      clear k0
      have hne := nil_size U h1
      have HX := HR
      go_wp2_with fail
      refine HX.mono ?_
      clear HX
      rintro en w12 ⟨rfl, hb⟩
      have ABN := AB.later hb AB.lt
      have BBN := BB.trans (hb.mono BB.size)
      clear AB BB
      have AB := ABN
      have BB := BBN
      clear ABN BBN
      clear hb
      obtain ⟨w13, hw13⟩ : ∃ v, w12.alloc (.cells #[.int .i64 0, .int .i64 0, .int .i64 0] 36) = v := ⟨_, rfl⟩
      have hb : Below w12.heap.size w12 w13 := by rw [← hw13]; exact (Below.refl _ _).alloc (Nat.le_refl _) _
      have YB : Blk w12.heap.size [.int .i64 0, .int .i64 0, .int .i64 0] w13 := by rw [← hw13]; exact Blk.new _ _ _
      have ABN := AB.later hb AB.lt
      have BBN := BB.trans (hb.mono BB.size)
      clear AB BB
      have AB := ABN
      have BB := BBN
      clear ABN BBN
      clear hb
      have zs0 : w13.setCell ⟨w12.heap.size, 0, none⟩ (.int .i64 0) = w13 := by rw [← hw13]; simp [go_sem]
      have zc0 := YB.at 0 rfl
      have zf0 := YB.fz 0 rfl
      have zs1 : w13.setCell ⟨w12.heap.size, 1, none⟩ (.int .i64 0) = w13 := by rw [← hw13]; simp [go_sem]
      have zc1 := YB.at 1 rfl
      have zf1 := YB.fz 1 rfl
      have zs2 : w13.setCell ⟨w12.heap.size, 2, none⟩ (.int .i64 0) = w13 := by rw [← hw13]; simp [go_sem]
      have zc2 := YB.at 2 rfl
      have zf2 := YB.fz 2 rfl
      have d0 := AB.at 0 rfl
      have d1 := AB.at 1 rfl
      have d2 := AB.at 2 rfl
      have HX := specShowA_is c2 t2 q2 key2 w13
      go_wp2_with fail
      try rw [hw13]
      refine HX.mono ?_
      clear HX hw13 d0 d1 d2 zs0 zc0 zf0 zs1 zc1 zf1 zs2 zc2 zf2
      rintro en w14 ⟨rfl, hb⟩
      have ABN := AB.later hb AB.lt
      have YBN := YB.later hb YB.lt
      have BBN := BB.trans (hb.mono BB.size)
      clear AB YB BB
      have AB := ABN
      have YB := YBN
      have BB := BBN
      clear ABN YBN BBN
      clear hb
      rw [hU]
      have d0 := AB.at 0 rfl
      have d1 := AB.at 1 rfl
      have d2 := AB.at 2 rfl
      have e0 := YB.at 0 rfl
      have e1 := YB.at 1 rfl
      have e2 := YB.at 2 rfl
      have HX := drawG ad len cap zs w14 ((HZ.out.below BB).lt BB.size)
      go_wp2_with fail
      refine HX.mono ?_
      clear HX hne h1 d0 d1 d2 e0 e1 e2
      clear AB YB
      rintro en w15 ⟨k3, s3, n3, a3, b3, e3, key3, rfl, si3, ki3, hb⟩
      have BBN := BB.trans (hb.mono BB.size)
      clear BB
      have BB := BBN
      clear BBN
      clear hb
      obtain ⟨w16, hw16⟩ : ∃ v, w15.alloc (.cells #[.int .i64 k3, .int .i64 s3, .int .i64 n3, .int .i64 a3, .int .i64 b3, .int .i64 e3] 43) = v := ⟨_, rfl⟩
      have hb : Below w15.heap.size w15 w16 := by rw [← hw16]; exact (Below.refl _ _).alloc (Nat.le_refl _) _
      have GB : Blk w15.heap.size [.int .i64 k3, .int .i64 s3, .int .i64 n3, .int .i64 a3, .int .i64 b3, .int .i64 e3] w16 := by rw [← hw16]; exact Blk.new _ _ _
      have BBN := BB.trans (hb.mono BB.size)
      clear BB
      have BB := BBN
      clear BBN
      clear hb
      have d0 := GB.at 0 rfl
      have d1 := GB.at 1 rfl
      have d2 := GB.at 2 rfl
      have d3 := GB.at 3 rfl
      have d4 := GB.at 4 rfl
      have d5 := GB.at 5 rfl
      obtain ⟨Y, hY⟩ : ∃ X, shG k3 s3 n3 a3 b3 e3 key3 = X := ⟨_, rfl⟩
      have zY : Y.size ≤ 1048576 := by rw [← hY]; unfold shG; split; exact Nat.le_trans (sealT_size _ _) (by omega); show 0 ≤ 1048576; omega
      have HX := implShowG_is k3 s3 n3 a3 b3 e3 key3 w16 si3
      go_wp2_with fail
      try rw [hw16]
      refine HX.mono ?_
      clear HX hw16 d0 d1 d2 d3 d4 d5
      rintro en w17 ⟨rfl, hb⟩
      have GBN := GB.later hb GB.lt
      have BBN := BB.trans (hb.mono BB.size)
      clear GB BB
      have GB := GBN
      have BB := BBN
      clear GBN BBN
      clear hb
      rw [hY]
      by_cases h2 : Y.size = 0
      · have k0 := (shown_nil (key := key3) h2).2.2
        have HR := implReadG_is Y key3 w17 zY
        rw [k0, rgV_no k0, rgV_no k0, rgV_no k0, rgV_no k0, rgV_no k0, rgV_no k0] at HR
        clear k0
        have hne := nil_size Y h2
        have HX := HR
        go_wp2_with fail
        refine HX.mono ?_
        clear HX
        rintro en w18 ⟨rfl, hb⟩
        have GBN := GB.later hb GB.lt
        have BBN := BB.trans (hb.mono BB.size)
        clear GB BB
        have GB := GBN
        have BB := BBN
        clear GBN BBN
        clear hb
        obtain ⟨w19, hw19⟩ : ∃ v, w18.alloc (.cells #[.int .i64 0, .int .i64 0, .int .i64 0, .int .i64 0, .int .i64 0, .int .i64 0] 43) = v := ⟨_, rfl⟩
        have hb : Below w18.heap.size w18 w19 := by rw [← hw19]; exact (Below.refl _ _).alloc (Nat.le_refl _) _
        have ZB : Blk w18.heap.size [.int .i64 0, .int .i64 0, .int .i64 0, .int .i64 0, .int .i64 0, .int .i64 0] w19 := by rw [← hw19]; exact Blk.new _ _ _
        have GBN := GB.later hb GB.lt
        have BBN := BB.trans (hb.mono BB.size)
        clear GB BB
        have GB := GBN
        have BB := BBN
        clear GBN BBN
        clear hb
        have zs0 : w19.setCell ⟨w18.heap.size, 0, none⟩ (.int .i64 0) = w19 := by rw [← hw19]; simp [go_sem]
        have zc0 := ZB.at 0 rfl
        have zf0 := ZB.fz 0 rfl
        have zs1 : w19.setCell ⟨w18.heap.size, 1, none⟩ (.int .i64 0) = w19 := by rw [← hw19]; simp [go_sem]
        have zc1 := ZB.at 1 rfl
        have zf1 := ZB.fz 1 rfl
        have zs2 : w19.setCell ⟨w18.heap.size, 2, none⟩ (.int .i64 0) = w19 := by rw [← hw19]; simp [go_sem]
        have zc2 := ZB.at 2 rfl
        have zf2 := ZB.fz 2 rfl
        have zs3 : w19.setCell ⟨w18.heap.size, 3, none⟩ (.int .i64 0) = w19 := by rw [← hw19]; simp [go_sem]
        have zc3 := ZB.at 3 rfl
        have zf3 := ZB.fz 3 rfl
        have zs4 : w19.setCell ⟨w18.heap.size, 4, none⟩ (.int .i64 0) = w19 := by rw [← hw19]; simp [go_sem]
        have zc4 := ZB.at 4 rfl
        have zf4 := ZB.fz 4 rfl
        have zs5 : w19.setCell ⟨w18.heap.size, 5, none⟩ (.int .i64 0) = w19 := by rw [← hw19]; simp [go_sem]
        have zc5 := ZB.at 5 rfl
        have zf5 := ZB.fz 5 rfl
        have d0 := GB.at 0 rfl
        have d1 := GB.at 1 rfl
        have d2 := GB.at 2 rfl
        have d3 := GB.at 3 rfl
        have d4 := GB.at 4 rfl
        have d5 := GB.at 5 rfl
        have HX := specShowG_is k3 s3 n3 a3 b3 e3 key3 w19
        go_wp2_with fail
        try rw [hw19]
        refine HX.mono ?_
        clear HX hw19 d0 d1 d2 d3 d4 d5 zs0 zc0 zf0 zs1 zc1 zf1 zs2 zc2 zf2 zs3 zc3 zf3 zs4 zc4 zf4 zs5 zc5 zf5
        rintro en w20 ⟨rfl, hb⟩
        have GBN := GB.later hb GB.lt
        have ZBN := ZB.later hb ZB.lt
        have BBN := BB.trans (hb.mono BB.size)
        clear GB ZB BB
        have GB := GBN
        have ZB := ZBN
        have BB := BBN
        clear GBN ZBN BBN
        clear hb
        rw [hY]
        have d0 := GB.at 0 rfl
        have d1 := GB.at 1 rfl
        have d2 := GB.at 2 rfl
        have d3 := GB.at 3 rfl
        have d4 := GB.at 4 rfl
        have d5 := GB.at 5 rfl
        have e0 := ZB.at 0 rfl
        have e1 := ZB.at 1 rfl
        have e2 := ZB.at 2 rfl
        have e3 := ZB.at 3 rfl
        have e4 := ZB.at 4 rfl
        have e5 := ZB.at 5 rfl
        have o1 : rtK X (wrap64 (key + 1)) = false := by rw [← hX]; exact shT_other (succ_ne key ki)
        have HR := implReadT_is X (wrap64 (key + 1)) w20 zX
        rw [o1, rtN_no o1, rtN_no o1, rtN_no o1, rtN_no o1, rtN_no o1, rtN_no o1, rtP_no o1, rtV_no o1] at HR
        clear o1
        go_wp2_with fail
        refine HR.mono ?_
        clear HR hne h2 d0 d1 d2 d3 d4 d5 e0 e1 e2 e3 e4 e5
        clear GB ZB
        rintro en w21 ⟨ua9, uc9, ub9, ud9, rfl, _, _, _, hb⟩
        have BBN := BB.trans (hb.mono BB.size)
        clear BB
        have BB := BBN
        clear BBN
        clear hb
        obtain ⟨w22, hw22⟩ : ∃ v, w21.alloc (.cells #[.int .i64 0, .int .i64 0, .int .i64 0, .int .i64 0, .int .i64 0, .int .i64 0, .slice ua9 0 uc9, .slice ub9 0 ud9] 28) = v := ⟨_, rfl⟩
        have hb : Below w21.heap.size w21 w22 := by rw [← hw22]; exact (Below.refl _ _).alloc (Nat.le_refl _) _
        have B9 : Blk w21.heap.size [.int .i64 0, .int .i64 0, .int .i64 0, .int .i64 0, .int .i64 0, .int .i64 0, .slice ua9 0 uc9, .slice ub9 0 ud9] w22 := by rw [← hw22]; exact Blk.new _ _ _
        have BBN := BB.trans (hb.mono BB.size)
        clear BB
        have BB := BBN
        clear BBN
        clear hb
        have o1 : raK U (wrap64 (key2 + 1)) = false := by rw [← hU]; exact shA_other (succ_ne key2 ki2)
        have HR := implReadA_is U (wrap64 (key2 + 1)) w22 zU
        rw [o1, raV_no o1, raV_no o1, raV_no o1] at HR
        clear o1
        have HX := HR
        go_wp2_with fail
        try rw [hw22]
        refine HX.mono ?_
        clear HX hw22
        rintro en w23 ⟨rfl, hb⟩
        have B9N := B9.later hb B9.lt
        have BBN := BB.trans (hb.mono BB.size)
        clear B9 BB
        have B9 := B9N
        have BB := BBN
        clear B9N BBN
        clear hb
        clear B9
        obtain ⟨w24, hw24⟩ : ∃ v, w23.alloc (.cells #[.int .i64 0, .int .i64 0, .int .i64 0] 36) = v := ⟨_, rfl⟩
        have hb : Below w23.heap.size w23 w24 := by rw [← hw24]; exact (Below.refl _ _).alloc (Nat.le_refl _) _
        have B9 : Blk w23.heap.size [.int .i64 0, .int .i64 0, .int .i64 0] w24 := by rw [← hw24]; exact Blk.new _ _ _
        have BBN := BB.trans (hb.mono BB.size)
        clear BB
        have BB := BBN
        clear BBN
        clear hb
        have zs0 : w24.setCell ⟨w23.heap.size, 0, none⟩ (.int .i64 0) = w24 := by rw [← hw24]; simp [go_sem]
        have zc0 := B9.at 0 rfl
        have zf0 := B9.fz 0 rfl
        have zs1 : w24.setCell ⟨w23.heap.size, 1, none⟩ (.int .i64 0) = w24 := by rw [← hw24]; simp [go_sem]
        have zc1 := B9.at 1 rfl
        have zf1 := B9.fz 1 rfl
        have zs2 : w24.setCell ⟨w23.heap.size, 2, none⟩ (.int .i64 0) = w24 := by rw [← hw24]; simp [go_sem]
        have zc2 := B9.at 2 rfl
        have zf2 := B9.fz 2 rfl
        have o1 : rgK Y (wrap64 (key3 + 1)) = false := by rw [← hY]; exact shG_other (succ_ne key3 ki3)
        have HR := implReadG_is Y (wrap64 (key3 + 1)) w24 zY
        rw [o1, rgV_no o1, rgV_no o1, rgV_no o1, rgV_no o1, rgV_no o1, rgV_no o1] at HR
        clear o1
        have HX := HR
        go_wp2_with fail
        try rw [hw24]
        refine HX.mono ?_
        clear HX hw24 zs0 zc0 zf0 zs1 zc1 zf1 zs2 zc2 zf2
        rintro en w25 ⟨rfl, hb⟩
        have B9N := B9.later hb B9.lt
        have BBN := BB.trans (hb.mono BB.size)
        clear B9 BB
        have B9 := B9N
        have BB := BBN
        clear B9N BBN
        clear hb
        clear B9
        obtain ⟨w26, hw26⟩ : ∃ v, w25.alloc (.cells #[.int .i64 0, .int .i64 0, .int .i64 0, .int .i64 0, .int .i64 0, .int .i64 0] 43) = v := ⟨_, rfl⟩
        have hb : Below w25.heap.size w25 w26 := by rw [← hw26]; exact (Below.refl _ _).alloc (Nat.le_refl _) _
        have B9 : Blk w25.heap.size [.int .i64 0, .int .i64 0, .int .i64 0, .int .i64 0, .int .i64 0, .int .i64 0] w26 := by rw [← hw26]; exact Blk.new _ _ _
        have BBN := BB.trans (hb.mono BB.size)
        clear BB
        have BB := BBN
        clear BBN
        clear hb
        have zs0 : w26.setCell ⟨w25.heap.size, 0, none⟩ (.int .i64 0) = w26 := by rw [← hw26]; simp [go_sem]
        have zc0 := B9.at 0 rfl
        have zf0 := B9.fz 0 rfl
        have zs1 : w26.setCell ⟨w25.heap.size, 1, none⟩ (.int .i64 0) = w26 := by rw [← hw26]; simp [go_sem]
        have zc1 := B9.at 1 rfl
        have zf1 := B9.fz 1 rfl
        have zs2 : w26.setCell ⟨w25.heap.size, 2, none⟩ (.int .i64 0) = w26 := by rw [← hw26]; simp [go_sem]
        have zc2 := B9.at 2 rfl
        have zf2 := B9.fz 2 rfl
        have zs3 : w26.setCell ⟨w25.heap.size, 3, none⟩ (.int .i64 0) = w26 := by rw [← hw26]; simp [go_sem]
        have zc3 := B9.at 3 rfl
        have zf3 := B9.fz 3 rfl
        have zs4 : w26.setCell ⟨w25.heap.size, 4, none⟩ (.int .i64 0) = w26 := by rw [← hw26]; simp [go_sem]
        have zc4 := B9.at 4 rfl
        have zf4 := B9.fz 4 rfl
        have zs5 : w26.setCell ⟨w25.heap.size, 5, none⟩ (.int .i64 0) = w26 := by rw [← hw26]; simp [go_sem]
        have zc5 := B9.at 5 rfl
        have zf5 := B9.fz 5 rfl
        have o1 : rgK U key2 = false := by rw [← hU]; exact shA_grant
        have HR := implReadG_is U key2 w26 zU
        rw [o1, rgV_no o1, rgV_no o1, rgV_no o1, rgV_no o1, rgV_no o1, rgV_no o1] at HR
        clear o1
        have HX := HR
        go_wp2_with fail
        try rw [hw26]
        refine HX.mono ?_
        clear HX hw26 zs0 zc0 zf0 zs1 zc1 zf1 zs2 zc2 zf2 zs3 zc3 zf3 zs4 zc4 zf4 zs5 zc5 zf5
        rintro en w27 ⟨rfl, hb⟩
        have B9N := B9.later hb B9.lt
        have BBN := BB.trans (hb.mono BB.size)
        clear B9 BB
        have B9 := B9N
        have BB := BBN
        clear B9N BBN
        clear hb
        clear B9
        obtain ⟨w28, hw28⟩ : ∃ v, w27.alloc (.cells #[.int .i64 0, .int .i64 0, .int .i64 0, .int .i64 0, .int .i64 0, .int .i64 0] 43) = v := ⟨_, rfl⟩
        have hb : Below w27.heap.size w27 w28 := by rw [← hw28]; exact (Below.refl _ _).alloc (Nat.le_refl _) _
        have B9 : Blk w27.heap.size [.int .i64 0, .int .i64 0, .int .i64 0, .int .i64 0, .int .i64 0, .int .i64 0] w28 := by rw [← hw28]; exact Blk.new _ _ _
        have BBN := BB.trans (hb.mono BB.size)
        clear BB
        have BB := BBN
        clear BBN
        clear hb
        have zs0 : w28.setCell ⟨w27.heap.size, 0, none⟩ (.int .i64 0) = w28 := by rw [← hw28]; simp [go_sem]
        have zc0 := B9.at 0 rfl
        have zf0 := B9.fz 0 rfl
        have zs1 : w28.setCell ⟨w27.heap.size, 1, none⟩ (.int .i64 0) = w28 := by rw [← hw28]; simp [go_sem]
        have zc1 := B9.at 1 rfl
        have zf1 := B9.fz 1 rfl
        have zs2 : w28.setCell ⟨w27.heap.size, 2, none⟩ (.int .i64 0) = w28 := by rw [← hw28]; simp [go_sem]
        have zc2 := B9.at 2 rfl
        have zf2 := B9.fz 2 rfl
        have zs3 : w28.setCell ⟨w27.heap.size, 3, none⟩ (.int .i64 0) = w28 := by rw [← hw28]; simp [go_sem]
        have zc3 := B9.at 3 rfl
        have zf3 := B9.fz 3 rfl
        have zs4 : w28.setCell ⟨w27.heap.size, 4, none⟩ (.int .i64 0) = w28 := by rw [← hw28]; simp [go_sem]
        have zc4 := B9.at 4 rfl
        have zf4 := B9.fz 4 rfl
        have zs5 : w28.setCell ⟨w27.heap.size, 5, none⟩ (.int .i64 0) = w28 := by rw [← hw28]; simp [go_sem]
        have zc5 := B9.at 5 rfl
        have zf5 := B9.fz 5 rfl
        have HX := drawR ad len cap zs w28 ((HZ.out.below BB).lt BB.size)
        go_wp2_with fail
        try rw [hw28]
        refine HX.mono ?_
        clear HX hw28 zs0 zc0 zf0 zs1 zc1 zf1 zs2 zc2 zf2 zs3 zc3 zf3 zs4 zc4 zf4 zs5 zc5 zf5
        rintro en w29 ⟨x, y, z, rfl, hb⟩
        have B9N := B9.later hb B9.lt
        have BBN := BB.trans (hb.mono BB.size)
        clear B9 BB
        have B9 := B9N
        have BB := BBN
        clear B9N BBN
        clear hb
        clear B9
        obtain ⟨w30, hw30⟩ : ∃ v, w29.alloc (.cells #[.int .i64 x, .int .i64 y, .int .i64 z] 25) = v := ⟨_, rfl⟩
        have hb : Below w29.heap.size w29 w30 := by rw [← hw30]; exact (Below.refl _ _).alloc (Nat.le_refl _) _
        have RB : Blk w29.heap.size [.int .i64 x, .int .i64 y, .int .i64 z] w30 := by rw [← hw30]; exact Blk.new _ _ _
        have BBN := BB.trans (hb.mono BB.size)
        clear BB
        have BB := BBN
        clear BBN
        clear hb
        have d0 := RB.at 0 rfl
        have d1 := RB.at 1 rfl
        have d2 := RB.at 2 rfl
        have HX := implShow_is x y z w30
        go_wp2_with fail
        try rw [hw30]
        refine HX.mono ?_
        clear HX hw30 d0 d1 d2
        rintro en w31 ⟨rfl, hb⟩
        have RBN := RB.later hb RB.lt
        have BBN := BB.trans (hb.mono BB.size)
        clear RB BB
        have RB := RBN
        have BB := BBN
        clear RBN BBN
        clear hb
        have zR : (shR x y z).size ≤ 1048576 := Nat.le_trans (shR_size x y z) (by omega)
        by_cases h3 : rOk x y z = true
        · obtain ⟨k0, k1, k2, k3_⟩ := rest_trip x y z (shR_full x y z h3)
          have HR := implRead_is (shR x y z) w31 zR
          rw [k0, k1, k2, k3_] at HR
          clear k0 k1 k2 k3_
          have HX := HR
          go_wp2_with fail
          refine HX.mono ?_
          clear HX
          rintro en w32 ⟨rfl, hb⟩
          have RBN := RB.later hb RB.lt
          have BBN := BB.trans (hb.mono BB.size)
          clear RB BB
          have RB := RBN
          have BB := BBN
          clear RBN BBN
          clear hb
          obtain ⟨w33, hw33⟩ : ∃ v, w32.alloc (.cells #[.int .i64 x, .int .i64 y, .int .i64 z] 25) = v := ⟨_, rfl⟩
          have hb : Below w32.heap.size w32 w33 := by rw [← hw33]; exact (Below.refl _ _).alloc (Nat.le_refl _) _
          have QB : Blk w32.heap.size [.int .i64 x, .int .i64 y, .int .i64 z] w33 := by rw [← hw33]; exact Blk.new _ _ _
          have RBN := RB.later hb RB.lt
          have BBN := BB.trans (hb.mono BB.size)
          clear RB BB
          have RB := RBN
          have BB := BBN
          clear RBN BBN
          clear hb
          have d0 := RB.at 0 rfl
          have d1 := RB.at 1 rfl
          have d2 := RB.at 2 rfl
          have e0 := QB.at 0 rfl
          have e1 := QB.at 1 rfl
          have e2 := QB.at 2 rfl
          have SK := specOk_is x y z w33
          rw [h3] at SK
          go_wp2_with fail
          try rw [hw33]
          refine SK.mono ?_
          clear SK hw33  d0 d1 d2 e0 e1 e2
          rintro en w34 ⟨rfl, hb⟩
          have RBN := RB.later hb RB.lt
          have QBN := QB.later hb QB.lt
          have BBN := BB.trans (hb.mono BB.size)
          clear RB QB BB
          have RB := RBN
          have QB := QBN
          have BB := BBN
          clear RBN QBN BBN
          clear hb
          have d0 := RB.at 0 rfl
          have d1 := RB.at 1 rfl
          have d2 := RB.at 2 rfl
          have e0 := QB.at 0 rfl
          have e1 := QB.at 1 rfl
          have e2 := QB.at 2 rfl
          clear RB QB
          go_wp2
          go_ret
          exact ⟨rfl, BB⟩
        · rw [Bool.not_eq_true] at h3
          have k0 : rdK (numsR (shR x y z)).1 = false := by unfold shR; rw [h3]; show rdK (numsR ⟨#[]⟩).1 = false; rw [numsR_nil]; rfl
          obtain ⟨k1, k2, k3_⟩ := rd_no k0
          have HR := implRead_is (shR x y z) w31 zR
          rw [k0, k1, k2, k3_] at HR
          clear k0 k1 k2 k3_
          have HX := HR
          go_wp2_with fail
          refine HX.mono ?_
          clear HX
          rintro en w32 ⟨rfl, hb⟩
          have RBN := RB.later hb RB.lt
          have BBN := BB.trans (hb.mono BB.size)
          clear RB BB
          have RB := RBN
          have BB := BBN
          clear RBN BBN
          clear hb
          obtain ⟨w33, hw33⟩ : ∃ v, w32.alloc (.cells #[.int .i64 0, .int .i64 0, .int .i64 0] 25) = v := ⟨_, rfl⟩
          have hb : Below w32.heap.size w32 w33 := by rw [← hw33]; exact (Below.refl _ _).alloc (Nat.le_refl _) _
          have QB : Blk w32.heap.size [.int .i64 0, .int .i64 0, .int .i64 0] w33 := by rw [← hw33]; exact Blk.new _ _ _
          have RBN := RB.later hb RB.lt
          have BBN := BB.trans (hb.mono BB.size)
          clear RB BB
          have RB := RBN
          have BB := BBN
          clear RBN BBN
          clear hb
          have zs0 : w33.setCell ⟨w32.heap.size, 0, none⟩ (.int .i64 0) = w33 := by rw [← hw33]; simp [go_sem]
          have zc0 := QB.at 0 rfl
          have zf0 := QB.fz 0 rfl
          have zs1 : w33.setCell ⟨w32.heap.size, 1, none⟩ (.int .i64 0) = w33 := by rw [← hw33]; simp [go_sem]
          have zc1 := QB.at 1 rfl
          have zf1 := QB.fz 1 rfl
          have zs2 : w33.setCell ⟨w32.heap.size, 2, none⟩ (.int .i64 0) = w33 := by rw [← hw33]; simp [go_sem]
          have zc2 := QB.at 2 rfl
          have zf2 := QB.fz 2 rfl
          have d0 := RB.at 0 rfl
          have d1 := RB.at 1 rfl
          have d2 := RB.at 2 rfl
          have e0 := QB.at 0 rfl
          have e1 := QB.at 1 rfl
          have e2 := QB.at 2 rfl
          have SK := specOk_is x y z w33
          rw [h3] at SK
          go_wp2_with fail
          try rw [hw33]
          refine SK.mono ?_
          clear SK hw33 zs0 zc0 zf0 zs1 zc1 zf1 zs2 zc2 zf2 d0 d1 d2 e0 e1 e2
          rintro en w34 ⟨rfl, hb⟩
          have RBN := RB.later hb RB.lt
          have QBN := QB.later hb QB.lt
          have BBN := BB.trans (hb.mono BB.size)
          clear RB QB BB
          have RB := RBN
          have QB := QBN
          have BB := BBN
          clear RBN QBN BBN
          clear hb
          have d0 := RB.at 0 rfl
          have d1 := RB.at 1 rfl
          have d2 := RB.at 2 rfl
          have e0 := QB.at 0 rfl
          have e1 := QB.at 1 rfl
          have e2 := QB.at 2 rfl
          clear RB QB
          go_wp2
          go_ret
          exact ⟨rfl, BB⟩
      · obtain ⟨k0, k1, k2, k3_, k4, k5, k6⟩ := shG_yes (k := k3) (s := s3) (n := n3) (a := a3) (b := b3) (e := e3) (key := key3) (by rw [hY]; exact h2)
        rw [hY] at k0 k1 k2 k3_ k4 k5 k6
        have HR := implReadG_is Y key3 w17 zY
        rw [k0, k1, k2, k3_, k4, k5, k6] at HR
        clear k0 k1 k2 k3_ k4 k5 k6
        have hne := ne_nil Y (by omega)
        have HX := HR
        go_wp2_with fail
        refine HX.mono ?_
        clear HX
        rintro en w18 ⟨rfl, hb⟩
        have GBN := GB.later hb GB.lt
        have BBN := BB.trans (hb.mono BB.size)
        clear GB BB
        have GB := GBN
        have BB := BBN
        clear GBN BBN
        clear hb
        obtain ⟨w19, hw19⟩ : ∃ v, w18.alloc (.cells #[.int .i64 k3, .int .i64 s3, .int .i64 n3, .int .i64 a3, .int .i64 b3, .int .i64 e3] 43) = v := ⟨_, rfl⟩
        have hb : Below w18.heap.size w18 w19 := by rw [← hw19]; exact (Below.refl _ _).alloc (Nat.le_refl _) _
        have ZB : Blk w18.heap.size [.int .i64 k3, .int .i64 s3, .int .i64 n3, .int .i64 a3, .int .i64 b3, .int .i64 e3] w19 := by rw [← hw19]; exact Blk.new _ _ _
        have GBN := GB.later hb GB.lt
        have BBN := BB.trans (hb.mono BB.size)
        clear GB BB
        have GB := GBN
        have BB := BBN
        clear GBN BBN
        clear hb
        have d0 := GB.at 0 rfl
        have d1 := GB.at 1 rfl
        have d2 := GB.at 2 rfl
        have d3 := GB.at 3 rfl
        have d4 := GB.at 4 rfl
        have d5 := GB.at 5 rfl
        have HX := specShowG_is k3 s3 n3 a3 b3 e3 key3 w19
        go_wp2_with fail
        try rw [hw19]
        refine HX.mono ?_
        clear HX hw19 d0 d1 d2 d3 d4 d5
        rintro en w20 ⟨rfl, hb⟩
        have GBN := GB.later hb GB.lt
        have ZBN := ZB.later hb ZB.lt
        have BBN := BB.trans (hb.mono BB.size)
        clear GB ZB BB
        have GB := GBN
        have ZB := ZBN
        have BB := BBN
        clear GBN ZBN BBN
        clear hb
        rw [hY]
        have d0 := GB.at 0 rfl
        have d1 := GB.at 1 rfl
        have d2 := GB.at 2 rfl
        have d3 := GB.at 3 rfl
        have d4 := GB.at 4 rfl
        have d5 := GB.at 5 rfl
        have e0 := ZB.at 0 rfl
        have e1 := ZB.at 1 rfl
        have e2 := ZB.at 2 rfl
        have e3 := ZB.at 3 rfl
        have e4 := ZB.at 4 rfl
        have e5 := ZB.at 5 rfl
        have o1 : rtK X (wrap64 (key + 1)) = false := by rw [← hX]; exact shT_other (succ_ne key ki)
        have HR := implReadT_is X (wrap64 (key + 1)) w20 zX
        rw [o1, rtN_no o1, rtN_no o1, rtN_no o1, rtN_no o1, rtN_no o1, rtN_no o1, rtP_no o1, rtV_no o1] at HR
        clear o1
        go_wp2_with fail
        refine HR.mono ?_
        clear HR hne h2 d0 d1 d2 d3 d4 d5 e0 e1 e2 e3 e4 e5
        clear GB ZB
        rintro en w21 ⟨ua9, uc9, ub9, ud9, rfl, _, _, _, hb⟩
        have BBN := BB.trans (hb.mono BB.size)
        clear BB
        have BB := BBN
        clear BBN
        clear hb
        obtain ⟨w22, hw22⟩ : ∃ v, w21.alloc (.cells #[.int .i64 0, .int .i64 0, .int .i64 0, .int .i64 0, .int .i64 0, .int .i64 0, .slice ua9 0 uc9, .slice ub9 0 ud9] 28) = v := ⟨_, rfl⟩
        have hb : Below w21.heap.size w21 w22 := by rw [← hw22]; exact (Below.refl _ _).alloc (Nat.le_refl _) _
        have B9 : Blk w21.heap.size [.int .i64 0, .int .i64 0, .int .i64 0, .int .i64 0, .int .i64 0, .int .i64 0, .slice ua9 0 uc9, .slice ub9 0 ud9] w22 := by rw [← hw22]; exact Blk.new _ _ _
        have BBN := BB.trans (hb.mono BB.size)
        clear BB
        have BB := BBN
        clear BBN
        clear hb
        have o1 : raK U (wrap64 (key2 + 1)) = false := by rw [← hU]; exact shA_other (succ_ne key2 ki2)
        have HR := implReadA_is U (wrap64 (key2 + 1)) w22 zU
        rw [o1, raV_no o1, raV_no o1, raV_no o1] at HR
        clear o1
        have HX := HR
        go_wp2_with fail
        try rw [hw22]
        refine HX.mono ?_
        clear HX hw22
        rintro en w23 ⟨rfl, hb⟩
        have B9N := B9.later hb B9.lt
        have BBN := BB.trans (hb.mono BB.size)
        clear B9 BB
        have B9 := B9N
        have BB := BBN
        clear B9N BBN
        clear hb
        clear B9
        obtain ⟨w24, hw24⟩ : ∃ v, w23.alloc (.cells #[.int .i64 0, .int .i64 0, .int .i64 0] 36) = v := ⟨_, rfl⟩
        have hb : Below w23.heap.size w23 w24 := by rw [← hw24]; exact (Below.refl _ _).alloc (Nat.le_refl _) _
        have B9 : Blk w23.heap.size [.int .i64 0, .int .i64 0, .int .i64 0] w24 := by rw [← hw24]; exact Blk.new _ _ _
        have BBN := BB.trans (hb.mono BB.size)
        clear BB
        have BB := BBN
        clear BBN
        clear hb
        have zs0 : w24.setCell ⟨w23.heap.size, 0, none⟩ (.int .i64 0) = w24 := by rw [← hw24]; simp [go_sem]
        have zc0 := B9.at 0 rfl
        have zf0 := B9.fz 0 rfl
        have zs1 : w24.setCell ⟨w23.heap.size, 1, none⟩ (.int .i64 0) = w24 := by rw [← hw24]; simp [go_sem]
        have zc1 := B9.at 1 rfl
        have zf1 := B9.fz 1 rfl
        have zs2 : w24.setCell ⟨w23.heap.size, 2, none⟩ (.int .i64 0) = w24 := by rw [← hw24]; simp [go_sem]
        have zc2 := B9.at 2 rfl
        have zf2 := B9.fz 2 rfl
        have o1 : rgK Y (wrap64 (key3 + 1)) = false := by rw [← hY]; exact shG_other (succ_ne key3 ki3)
        have HR := implReadG_is Y (wrap64 (key3 + 1)) w24 zY
        rw [o1, rgV_no o1, rgV_no o1, rgV_no o1, rgV_no o1, rgV_no o1, rgV_no o1] at HR
        clear o1
        have HX := HR
        go_wp2_with fail
        try rw [hw24]
        refine HX.mono ?_
        clear HX hw24 zs0 zc0 zf0 zs1 zc1 zf1 zs2 zc2 zf2
        rintro en w25 ⟨rfl, hb⟩
        have B9N := B9.later hb B9.lt
        have BBN := BB.trans (hb.mono BB.size)
        clear B9 BB
        have B9 := B9N
        have BB := BBN
        clear B9N BBN
        clear hb
        clear B9
        obtain ⟨w26, hw26⟩ : ∃ v, w25.alloc (.cells #[.int .i64 0, .int .i64 0, .int .i64 0, .int .i64 0, .int .i64 0, .int .i64 0] 43) = v := ⟨_, rfl⟩
        have hb : Below w25.heap.size w25 w26 := by rw [← hw26]; exact (Below.refl _ _).alloc (Nat.le_refl _) _
        have B9 : Blk w25.heap.size [.int .i64 0, .int .i64 0, .int .i64 0, .int .i64 0, .int .i64 0, .int .i64 0] w26 := by rw [← hw26]; exact Blk.new _ _ _
        have BBN := BB.trans (hb.mono BB.size)
        clear BB
        have BB := BBN
        clear BBN
        clear hb
        have zs0 : w26.setCell ⟨w25.heap.size, 0, none⟩ (.int .i64 0) = w26 := by rw [← hw26]; simp [go_sem]
        have zc0 := B9.at 0 rfl
        have zf0 := B9.fz 0 rfl
        have zs1 : w26.setCell ⟨w25.heap.size, 1, none⟩ (.int .i64 0) = w26 := by rw [← hw26]; simp [go_sem]
        have zc1 := B9.at 1 rfl
        have zf1 := B9.fz 1 rfl
        have zs2 : w26.setCell ⟨w25.heap.size, 2, none⟩ (.int .i64 0) = w26 := by rw [← hw26]; simp [go_sem]
        have zc2 := B9.at 2 rfl
        have zf2 := B9.fz 2 rfl
        have zs3 : w26.setCell ⟨w25.heap.size, 3, none⟩ (.int .i64 0) = w26 := by rw [← hw26]; simp [go_sem]
        have zc3 := B9.at 3 rfl
        have zf3 := B9.fz 3 rfl
        have zs4 : w26.setCell ⟨w25.heap.size, 4, none⟩ (.int .i64 0) = w26 := by rw [← hw26]; simp [go_sem]
        have zc4 := B9.at 4 rfl
        have zf4 := B9.fz 4 rfl
        have zs5 : w26.setCell ⟨w25.heap.size, 5, none⟩ (.int .i64 0) = w26 := by rw [← hw26]; simp [go_sem]
        have zc5 := B9.at 5 rfl
        have zf5 := B9.fz 5 rfl
        have o1 : rgK U key2 = false := by rw [← hU]; exact shA_grant
        have HR := implReadG_is U key2 w26 zU
        rw [o1, rgV_no o1, rgV_no o1, rgV_no o1, rgV_no o1, rgV_no o1, rgV_no o1] at HR
        clear o1
        have HX := HR
        go_wp2_with fail
        try rw [hw26]
        refine HX.mono ?_
        clear HX hw26 zs0 zc0 zf0 zs1 zc1 zf1 zs2 zc2 zf2 zs3 zc3 zf3 zs4 zc4 zf4 zs5 zc5 zf5
        rintro en w27 ⟨rfl, hb⟩
        have B9N := B9.later hb B9.lt
        have BBN := BB.trans (hb.mono BB.size)
        clear B9 BB
        have B9 := B9N
        have BB := BBN
        clear B9N BBN
        clear hb
        clear B9
        obtain ⟨w28, hw28⟩ : ∃ v, w27.alloc (.cells #[.int .i64 0, .int .i64 0, .int .i64 0, .int .i64 0, .int .i64 0, .int .i64 0] 43) = v := ⟨_, rfl⟩
        have hb : Below w27.heap.size w27 w28 := by rw [← hw28]; exact (Below.refl _ _).alloc (Nat.le_refl _) _
        have B9 : Blk w27.heap.size [.int .i64 0, .int .i64 0, .int .i64 0, .int .i64 0, .int .i64 0, .int .i64 0] w28 := by rw [← hw28]; exact Blk.new _ _ _
        have BBN := BB.trans (hb.mono BB.size)
        clear BB
        have BB := BBN
        clear BBN
        clear hb
        have zs0 : w28.setCell ⟨w27.heap.size, 0, none⟩ (.int .i64 0) = w28 := by rw [← hw28]; simp [go_sem]
        have zc0 := B9.at 0 rfl
        have zf0 := B9.fz 0 rfl
        have zs1 : w28.setCell ⟨w27.heap.size, 1, none⟩ (.int .i64 0) = w28 := by rw [← hw28]; simp [go_sem]
        have zc1 := B9.at 1 rfl
        have zf1 := B9.fz 1 rfl
        have zs2 : w28.setCell ⟨w27.heap.size, 2, none⟩ (.int .i64 0) = w28 := by rw [← hw28]; simp [go_sem]
        have zc2 := B9.at 2 rfl
        have zf2 := B9.fz 2 rfl
        have zs3 : w28.setCell ⟨w27.heap.size, 3, none⟩ (.int .i64 0) = w28 := by rw [← hw28]; simp [go_sem]
        have zc3 := B9.at 3 rfl
        have zf3 := B9.fz 3 rfl
        have zs4 : w28.setCell ⟨w27.heap.size, 4, none⟩ (.int .i64 0) = w28 := by rw [← hw28]; simp [go_sem]
        have zc4 := B9.at 4 rfl
        have zf4 := B9.fz 4 rfl
        have zs5 : w28.setCell ⟨w27.heap.size, 5, none⟩ (.int .i64 0) = w28 := by rw [← hw28]; simp [go_sem]
        have zc5 := B9.at 5 rfl
        have zf5 := B9.fz 5 rfl
        have HX := drawR ad len cap zs w28 ((HZ.out.below BB).lt BB.size)
        go_wp2_with fail
        try rw [hw28]
        refine HX.mono ?_
        clear HX hw28 zs0 zc0 zf0 zs1 zc1 zf1 zs2 zc2 zf2 zs3 zc3 zf3 zs4 zc4 zf4 zs5 zc5 zf5
        rintro en w29 ⟨x, y, z, rfl, hb⟩
        have B9N := B9.later hb B9.lt
        have BBN := BB.trans (hb.mono BB.size)
        clear B9 BB
        have B9 := B9N
        have BB := BBN
        clear B9N BBN
        clear hb
        clear B9
        obtain ⟨w30, hw30⟩ : ∃ v, w29.alloc (.cells #[.int .i64 x, .int .i64 y, .int .i64 z] 25) = v := ⟨_, rfl⟩
        have hb : Below w29.heap.size w29 w30 := by rw [← hw30]; exact (Below.refl _ _).alloc (Nat.le_refl _) _
        have RB : Blk w29.heap.size [.int .i64 x, .int .i64 y, .int .i64 z] w30 := by rw [← hw30]; exact Blk.new _ _ _
        have BBN := BB.trans (hb.mono BB.size)
        clear BB
        have BB := BBN
        clear BBN
        clear hb
        have d0 := RB.at 0 rfl
        have d1 := RB.at 1 rfl
        have d2 := RB.at 2 rfl
        have HX := implShow_is x y z w30
        go_wp2_with fail
        try rw [hw30]
        refine HX.mono ?_
        clear HX hw30 d0 d1 d2
        rintro en w31 ⟨rfl, hb⟩
        have RBN := RB.later hb RB.lt
        have BBN := BB.trans (hb.mono BB.size)
        clear RB BB
        have RB := RBN
        have BB := BBN
        clear RBN BBN
        clear hb
        have zR : (shR x y z).size ≤ 1048576 := Nat.le_trans (shR_size x y z) (by omega)
        by_cases h3 : rOk x y z = true
        · obtain ⟨k0, k1, k2, k3_⟩ := rest_trip x y z (shR_full x y z h3)
          have HR := implRead_is (shR x y z) w31 zR
          rw [k0, k1, k2, k3_] at HR
          clear k0 k1 k2 k3_
          have HX := HR
          go_wp2_with fail
          refine HX.mono ?_
          clear HX
          rintro en w32 ⟨rfl, hb⟩
          have RBN := RB.later hb RB.lt
          have BBN := BB.trans (hb.mono BB.size)
          clear RB BB
          have RB := RBN
          have BB := BBN
          clear RBN BBN
          clear hb
          obtain ⟨w33, hw33⟩ : ∃ v, w32.alloc (.cells #[.int .i64 x, .int .i64 y, .int .i64 z] 25) = v := ⟨_, rfl⟩
          have hb : Below w32.heap.size w32 w33 := by rw [← hw33]; exact (Below.refl _ _).alloc (Nat.le_refl _) _
          have QB : Blk w32.heap.size [.int .i64 x, .int .i64 y, .int .i64 z] w33 := by rw [← hw33]; exact Blk.new _ _ _
          have RBN := RB.later hb RB.lt
          have BBN := BB.trans (hb.mono BB.size)
          clear RB BB
          have RB := RBN
          have BB := BBN
          clear RBN BBN
          clear hb
          have d0 := RB.at 0 rfl
          have d1 := RB.at 1 rfl
          have d2 := RB.at 2 rfl
          have e0 := QB.at 0 rfl
          have e1 := QB.at 1 rfl
          have e2 := QB.at 2 rfl
          have SK := specOk_is x y z w33
          rw [h3] at SK
          go_wp2_with fail
          try rw [hw33]
          refine SK.mono ?_
          clear SK hw33  d0 d1 d2 e0 e1 e2
          rintro en w34 ⟨rfl, hb⟩
          have RBN := RB.later hb RB.lt
          have QBN := QB.later hb QB.lt
          have BBN := BB.trans (hb.mono BB.size)
          clear RB QB BB
          have RB := RBN
          have QB := QBN
          have BB := BBN
          clear RBN QBN BBN
          clear hb
          have d0 := RB.at 0 rfl
          have d1 := RB.at 1 rfl
          have d2 := RB.at 2 rfl
          have e0 := QB.at 0 rfl
          have e1 := QB.at 1 rfl
          have e2 := QB.at 2 rfl
          clear RB QB
          go_wp2
          go_ret
          exact ⟨rfl, BB⟩
        · rw [Bool.not_eq_true] at h3
          have k0 : rdK (numsR (shR x y z)).1 = false := by unfold shR; rw [h3]; show rdK (numsR ⟨#[]⟩).1 = false; rw [numsR_nil]; rfl
          obtain ⟨k1, k2, k3_⟩ := rd_no k0
          have HR := implRead_is (shR x y z) w31 zR
          rw [k0, k1, k2, k3_] at HR
          clear k0 k1 k2 k3_
          have HX := HR
          go_wp2_with fail
          refine HX.mono ?_
          clear HX
          rintro en w32 ⟨rfl, hb⟩
          have RBN := RB.later hb RB.lt
          have BBN := BB.trans (hb.mono BB.size)
          clear RB BB
          have RB := RBN
          have BB := BBN
          clear RBN BBN
          clear hb
          obtain ⟨w33, hw33⟩ : ∃ v, w32.alloc (.cells #[.int .i64 0, .int .i64 0, .int .i64 0] 25) = v := ⟨_, rfl⟩
          have hb : Below w32.heap.size w32 w33 := by rw [← hw33]; exact (Below.refl _ _).alloc (Nat.le_refl _) _
          have QB : Blk w32.heap.size [.int .i64 0, .int .i64 0, .int .i64 0] w33 := by rw [← hw33]; exact Blk.new _ _ _
          have RBN := RB.later hb RB.lt
          have BBN := BB.trans (hb.mono BB.size)
          clear RB BB
          have RB := RBN
          have BB := BBN
          clear RBN BBN
          clear hb
          have zs0 : w33.setCell ⟨w32.heap.size, 0, none⟩ (.int .i64 0) = w33 := by rw [← hw33]; simp [go_sem]
          have zc0 := QB.at 0 rfl
          have zf0 := QB.fz 0 rfl
          have zs1 : w33.setCell ⟨w32.heap.size, 1, none⟩ (.int .i64 0) = w33 := by rw [← hw33]; simp [go_sem]
          have zc1 := QB.at 1 rfl
          have zf1 := QB.fz 1 rfl
          have zs2 : w33.setCell ⟨w32.heap.size, 2, none⟩ (.int .i64 0) = w33 := by rw [← hw33]; simp [go_sem]
          have zc2 := QB.at 2 rfl
          have zf2 := QB.fz 2 rfl
          have d0 := RB.at 0 rfl
          have d1 := RB.at 1 rfl
          have d2 := RB.at 2 rfl
          have e0 := QB.at 0 rfl
          have e1 := QB.at 1 rfl
          have e2 := QB.at 2 rfl
          have SK := specOk_is x y z w33
          rw [h3] at SK
          go_wp2_with fail
          try rw [hw33]
          refine SK.mono ?_
          clear SK hw33 zs0 zc0 zf0 zs1 zc1 zf1 zs2 zc2 zf2 d0 d1 d2 e0 e1 e2
          rintro en w34 ⟨rfl, hb⟩
          have RBN := RB.later hb RB.lt
          have QBN := QB.later hb QB.lt
          have BBN := BB.trans (hb.mono BB.size)
          clear RB QB BB
          have RB := RBN
          have QB := QBN
          have BB := BBN
          clear RBN QBN BBN
          clear hb
          have d0 := RB.at 0 rfl
          have d1 := RB.at 1 rfl
          have d2 := RB.at 2 rfl
          have e0 := QB.at 0 rfl
          have e1 := QB.at 1 rfl
          have e2 := QB.at 2 rfl
          clear RB QB
          go_wp2
          go_ret
          exact ⟨rfl, BB⟩
    · obtain ⟨k0, k1, k2, k3⟩ := shA_yes (c := c2) (t := t2) (q := q2) (key := key2) (by rw [hU]; exact h1)
      rw [hU] at k0 k1 k2 k3
      have HR := implReadA_is U key2 w11 zU
      rw [k0, k1, k2, k3] at HR
      clear k0 k1 k2 k3
      have hne := ne_nil U (by omega)
      have HX := HR
      go_wp2_with fail
      refine HX.mono ?_
      clear HX
      rintro en w12 ⟨rfl, hb⟩
      have ABN := AB.later hb AB.lt
      have BBN := BB.trans (hb.mono BB.size)
      clear AB BB
      have AB := ABN
      have BB := BBN
      clear ABN BBN
      clear hb
      obtain ⟨w13, hw13⟩ : ∃ v, w12.alloc (.cells #[.int .i64 c2, .int .i64 t2, .int .i64 q2] 36) = v := ⟨_, rfl⟩
      have hb : Below w12.heap.size w12 w13 := by rw [← hw13]; exact (Below.refl _ _).alloc (Nat.le_refl _) _
      have YB : Blk w12.heap.size [.int .i64 c2, .int .i64 t2, .int .i64 q2] w13 := by rw [← hw13]; exact Blk.new _ _ _
      have ABN := AB.later hb AB.lt
      have BBN := BB.trans (hb.mono BB.size)
      clear AB BB
      have AB := ABN
      have BB := BBN
      clear ABN BBN
      clear hb
      have d0 := AB.at 0 rfl
      have d1 := AB.at 1 rfl
      have d2 := AB.at 2 rfl
      have HX := specShowA_is c2 t2 q2 key2 w13
      go_wp2_with fail
      try rw [hw13]
      refine HX.mono ?_
      clear HX hw13 d0 d1 d2
      rintro en w14 ⟨rfl, hb⟩
      have ABN := AB.later hb AB.lt
      have YBN := YB.later hb YB.lt
      have BBN := BB.trans (hb.mono BB.size)
      clear AB YB BB
      have AB := ABN
      have YB := YBN
      have BB := BBN
      clear ABN YBN BBN
      clear hb
      rw [hU]
      have d0 := AB.at 0 rfl
      have d1 := AB.at 1 rfl
      have d2 := AB.at 2 rfl
      have e0 := YB.at 0 rfl
      have e1 := YB.at 1 rfl
      have e2 := YB.at 2 rfl
      have HX := drawG ad len cap zs w14 ((HZ.out.below BB).lt BB.size)
      go_wp2_with fail
      refine HX.mono ?_
      clear HX hne h1 d0 d1 d2 e0 e1 e2
      clear AB YB
      rintro en w15 ⟨k3, s3, n3, a3, b3, e3, key3, rfl, si3, ki3, hb⟩
      have BBN := BB.trans (hb.mono BB.size)
      clear BB
      have BB := BBN
      clear BBN
      clear hb
      obtain ⟨w16, hw16⟩ : ∃ v, w15.alloc (.cells #[.int .i64 k3, .int .i64 s3, .int .i64 n3, .int .i64 a3, .int .i64 b3, .int .i64 e3] 43) = v := ⟨_, rfl⟩
      have hb : Below w15.heap.size w15 w16 := by rw [← hw16]; exact (Below.refl _ _).alloc (Nat.le_refl _) _
      have GB : Blk w15.heap.size [.int .i64 k3, .int .i64 s3, .int .i64 n3, .int .i64 a3, .int .i64 b3, .int .i64 e3] w16 := by rw [← hw16]; exact Blk.new _ _ _
      have BBN := BB.trans (hb.mono BB.size)
      clear BB
      have BB := BBN
      clear BBN
      clear hb
      have d0 := GB.at 0 rfl
      have d1 := GB.at 1 rfl
      have d2 := GB.at 2 rfl
      have d3 := GB.at 3 rfl
      have d4 := GB.at 4 rfl
      have d5 := GB.at 5 rfl
      obtain ⟨Y, hY⟩ : ∃ X, shG k3 s3 n3 a3 b3 e3 key3 = X := ⟨_, rfl⟩
      have zY : Y.size ≤ 1048576 := by rw [← hY]; unfold shG; split; exact Nat.le_trans (sealT_size _ _) (by omega); show 0 ≤ 1048576; omega
      have HX := implShowG_is k3 s3 n3 a3 b3 e3 key3 w16 si3
      go_wp2_with fail
      try rw [hw16]
      refine HX.mono ?_
      clear HX hw16 d0 d1 d2 d3 d4 d5
      rintro en w17 ⟨rfl, hb⟩
      have GBN := GB.later hb GB.lt
      have BBN := BB.trans (hb.mono BB.size)
      clear GB BB
      have GB := GBN
      have BB := BBN
      clear GBN BBN
      clear hb
      rw [hY]
      by_cases h2 : Y.size = 0
      · have k0 := (shown_nil (key := key3) h2).2.2
        have HR := implReadG_is Y key3 w17 zY
        rw [k0, rgV_no k0, rgV_no k0, rgV_no k0, rgV_no k0, rgV_no k0, rgV_no k0] at HR
        clear k0
        have hne := nil_size Y h2
        have HX := HR
        go_wp2_with fail
        refine HX.mono ?_
        clear HX
        rintro en w18 ⟨rfl, hb⟩
        have GBN := GB.later hb GB.lt
        have BBN := BB.trans (hb.mono BB.size)
        clear GB BB
        have GB := GBN
        have BB := BBN
        clear GBN BBN
        clear hb
        obtain ⟨w19, hw19⟩ : ∃ v, w18.alloc (.cells #[.int .i64 0, .int .i64 0, .int .i64 0, .int .i64 0, .int .i64 0, .int .i64 0] 43) = v := ⟨_, rfl⟩
        have hb : Below w18.heap.size w18 w19 := by rw [← hw19]; exact (Below.refl _ _).alloc (Nat.le_refl _) _
        have ZB : Blk w18.heap.size [.int .i64 0, .int .i64 0, .int .i64 0, .int .i64 0, .int .i64 0, .int .i64 0] w19 := by rw [← hw19]; exact Blk.new _ _ _
        have GBN := GB.later hb GB.lt
        have BBN := BB.trans (hb.mono BB.size)
        clear GB BB
        have GB := GBN
        have BB := BBN
        clear GBN BBN
        clear hb
        have zs0 : w19.setCell ⟨w18.heap.size, 0, none⟩ (.int .i64 0) = w19 := by rw [← hw19]; simp [go_sem]
        have zc0 := ZB.at 0 rfl
        have zf0 := ZB.fz 0 rfl
        have zs1 : w19.setCell ⟨w18.heap.size, 1, none⟩ (.int .i64 0) = w19 := by rw [← hw19]; simp [go_sem]
        have zc1 := ZB.at 1 rfl
        have zf1 := ZB.fz 1 rfl
        have zs2 : w19.setCell ⟨w18.heap.size, 2, none⟩ (.int .i64 0) = w19 := by rw [← hw19]; simp [go_sem]
        have zc2 := ZB.at 2 rfl
        have zf2 := ZB.fz 2 rfl
        have zs3 : w19.setCell ⟨w18.heap.size, 3, none⟩ (.int .i64 0) = w19 := by rw [← hw19]; simp [go_sem]
        have zc3 := ZB.at 3 rfl
        have zf3 := ZB.fz 3 rfl
        have zs4 : w19.setCell ⟨w18.heap.size, 4, none⟩ (.int .i64 0) = w19 := by rw [← hw19]; simp [go_sem]
        have zc4 := ZB.at 4 rfl
        have zf4 := ZB.fz 4 rfl
        have zs5 : w19.setCell ⟨w18.heap.size, 5, none⟩ (.int .i64 0) = w19 := by rw [← hw19]; simp [go_sem]
        have zc5 := ZB.at 5 rfl
        have zf5 := ZB.fz 5 rfl
        have d0 := GB.at 0 rfl
        have d1 := GB.at 1 rfl
        have d2 := GB.at 2 rfl
        have d3 := GB.at 3 rfl
        have d4 := GB.at 4 rfl
        have d5 := GB.at 5 rfl
        have HX := specShowG_is k3 s3 n3 a3 b3 e3 key3 w19
        go_wp2_with fail
        try rw [hw19]
        refine HX.mono ?_
        clear HX hw19 d0 d1 d2 d3 d4 d5 zs0 zc0 zf0 zs1 zc1 zf1 zs2 zc2 zf2 zs3 zc3 zf3 zs4 zc4 zf4 zs5 zc5 zf5
        rintro en w20 ⟨rfl, hb⟩
        have GBN := GB.later hb GB.lt
        have ZBN := ZB.later hb ZB.lt
        have BBN := BB.trans (hb.mono BB.size)
        clear GB ZB BB
        have GB := GBN
        have ZB := ZBN
        have BB := BBN
        clear GBN ZBN BBN
        clear hb
        rw [hY]
        have d0 := GB.at 0 rfl
        have d1 := GB.at 1 rfl
        have d2 := GB.at 2 rfl
        have d3 := GB.at 3 rfl
        have d4 := GB.at 4 rfl
        have d5 := GB.at 5 rfl
        have e0 := ZB.at 0 rfl
        have e1 := ZB.at 1 rfl
        have e2 := ZB.at 2 rfl
        have e3 := ZB.at 3 rfl
        have e4 := ZB.at 4 rfl
        have e5 := ZB.at 5 rfl
        have o1 : rtK X (wrap64 (key + 1)) = false := by rw [← hX]; exact shT_other (succ_ne key ki)
        have HR := implReadT_is X (wrap64 (key + 1)) w20 zX
        rw [o1, rtN_no o1, rtN_no o1, rtN_no o1, rtN_no o1, rtN_no o1, rtN_no o1, rtP_no o1, rtV_no o1] at HR
        clear o1
        go_wp2_with fail
        refine HR.mono ?_
        clear HR hne h2 d0 d1 d2 d3 d4 d5 e0 e1 e2 e3 e4 e5
        clear GB ZB
        rintro en w21 ⟨ua9, uc9, ub9, ud9, rfl, _, _, _, hb⟩
        have BBN := BB.trans (hb.mono BB.size)
        clear BB
        have BB := BBN
        clear BBN
        clear hb
        obtain ⟨w22, hw22⟩ : ∃ v, w21.alloc (.cells #[.int .i64 0, .int .i64 0, .int .i64 0, .int .i64 0, .int .i64 0, .int .i64 0, .slice ua9 0 uc9, .slice ub9 0 ud9] 28) = v := ⟨_, rfl⟩
        have hb : Below w21.heap.size w21 w22 := by rw [← hw22]; exact (Below.refl _ _).alloc (Nat.le_refl _) _
        have B9 : Blk w21.heap.size [.int .i64 0, .int .i64 0, .int .i64 0, .int .i64 0, .int .i64 0, .int .i64 0, .slice ua9 0 uc9, .slice ub9 0 ud9] w22 := by rw [← hw22]; exact Blk.new _ _ _
        have BBN := BB.trans (hb.mono BB.size)
        clear BB
        have BB := BBN
        clear BBN
        clear hb
        have o1 : raK U (wrap64 (key2 + 1)) = false := by rw [← hU]; exact shA_other (succ_ne key2 ki2)
        have HR := implReadA_is U (wrap64 (key2 + 1)) w22 zU
        rw [o1, raV_no o1, raV_no o1, raV_no o1] at HR
        clear o1
        have HX := HR
        go_wp2_with fail
        try rw [hw22]
        refine HX.mono ?_
        clear HX hw22
        rintro en w23 ⟨rfl, hb⟩
        have B9N := B9.later hb B9.lt
        have BBN := BB.trans (hb.mono BB.size)
        clear B9 BB
        have B9 := B9N
        have BB := BBN
        clear B9N BBN
        clear hb
        clear B9
        obtain ⟨w24, hw24⟩ : ∃ v, w23.alloc (.cells #[.int .i64 0, .int .i64 0, .int .i64 0] 36) = v := ⟨_, rfl⟩
        have hb : Below w23.heap.size w23 w24 := by rw [← hw24]; exact (Below.refl _ _).alloc (Nat.le_refl _) _
        have B9 : Blk w23.heap.size [.int .i64 0, .int .i64 0, .int .i64 0] w24 := by rw [← hw24]; exact Blk.new _ _ _
        have BBN := BB.trans (hb.mono BB.size)
        clear BB
        have BB := BBN
        clear BBN
        clear hb
        have zs0 : w24.setCell ⟨w23.heap.size, 0, none⟩ (.int .i64 0) = w24 := by rw [← hw24]; simp [go_sem]
        have zc0 := B9.at 0 rfl
        have zf0 := B9.fz 0 rfl
        have zs1 : w24.setCell ⟨w23.heap.size, 1, none⟩ (.int .i64 0) = w24 := by rw [← hw24]; simp [go_sem]
        have zc1 := B9.at 1 rfl
        have zf1 := B9.fz 1 rfl
        have zs2 : w24.setCell ⟨w23.heap.size, 2, none⟩ (.int .i64 0) = w24 := by rw [← hw24]; simp [go_sem]
        have zc2 := B9.at 2 rfl
        have zf2 := B9.fz 2 rfl
        have o1 : rgK Y (wrap64 (key3 + 1)) = false := by rw [← hY]; exact shG_other (succ_ne key3 ki3)
        have HR := implReadG_is Y (wrap64 (key3 + 1)) w24 zY
        rw [o1, rgV_no o1, rgV_no o1, rgV_no o1, rgV_no o1, rgV_no o1, rgV_no o1] at HR
        clear o1
        have HX := HR
        go_wp2_with fail
        try rw [hw24]
        refine HX.mono ?_
        clear HX hw24 zs0 zc0 zf0 zs1 zc1 zf1 zs2 zc2 zf2
        rintro en w25 ⟨rfl, hb⟩
        have B9N := B9.later hb B9.lt
        have BBN := BB.trans (hb.mono BB.size)
        clear B9 BB
        have B9 := B9N
        have BB := BBN
        clear B9N BBN
        clear hb
        clear B9
        obtain ⟨w26, hw26⟩ : ∃ v, w25.alloc (.cells #[.int .i64 0, .int .i64 0, .int .i64 0, .int .i64 0, .int .i64 0, .int .i64 0] 43) = v := ⟨_, rfl⟩
        have hb : Below w25.heap.size w25 w26 := by rw [← hw26]; exact (Below.refl _ _).alloc (Nat.le_refl _) _
        have B9 : Blk w25.heap.size [.int .i64 0, .int .i64 0, .int .i64 0, .int .i64 0, .int .i64 0, .int .i64 0] w26 := by rw [← hw26]; exact Blk.new _ _ _
        have BBN := BB.trans (hb.mono BB.size)
        clear BB
        have BB := BBN
        clear BBN
        clear hb
        have zs0 : w26.setCell ⟨w25.heap.size, 0, none⟩ (.int .i64 0) = w26 := by rw [← hw26]; simp [go_sem]
        have zc0 := B9.at 0 rfl
        have zf0 := B9.fz 0 rfl
        have zs1 : w26.setCell ⟨w25.heap.size, 1, none⟩ (.int .i64 0) = w26 := by rw [← hw26]; simp [go_sem]
        have zc1 := B9.at 1 rfl
        have zf1 := B9.fz 1 rfl
        have zs2 : w26.setCell ⟨w25.heap.size, 2, none⟩ (.int .i64 0) = w26 := by rw [← hw26]; simp [go_sem]
        have zc2 := B9.at 2 rfl
        have zf2 := B9.fz 2 rfl
        have zs3 : w26.setCell ⟨w25.heap.size, 3, none⟩ (.int .i64 0) = w26 := by rw [← hw26]; simp [go_sem]
        have zc3 := B9.at 3 rfl
        have zf3 := B9.fz 3 rfl
        have zs4 : w26.setCell ⟨w25.heap.size, 4, none⟩ (.int .i64 0) = w26 := by rw [← hw26]; simp [go_sem]
        have zc4 := B9.at 4 rfl
        have zf4 := B9.fz 4 rfl
        have zs5 : w26.setCell ⟨w25.heap.size, 5, none⟩ (.int .i64 0) = w26 := by rw [← hw26]; simp [go_sem]
        have zc5 := B9.at 5 rfl
        have zf5 := B9.fz 5 rfl
        have o1 : rgK U key2 = false := by rw [← hU]; exact shA_grant
        have HR := implReadG_is U key2 w26 zU
        rw [o1, rgV_no o1, rgV_no o1, rgV_no o1, rgV_no o1, rgV_no o1, rgV_no o1] at HR
        clear o1
        have HX := HR
        go_wp2_with fail
        try rw [hw26]
        refine HX.mono ?_
        clear HX hw26 zs0 zc0 zf0 zs1 zc1 zf1 zs2 zc2 zf2 zs3 zc3 zf3 zs4 zc4 zf4 zs5 zc5 zf5
        rintro en w27 ⟨rfl, hb⟩
        have B9N := B9.later hb B9.lt
        have BBN := BB.trans (hb.mono BB.size)
        clear B9 BB
        have B9 := B9N
        have BB := BBN
        clear B9N BBN
        clear hb
        clear B9
        obtain ⟨w28, hw28⟩ : ∃ v, w27.alloc (.cells #[.int .i64 0, .int .i64 0, .int .i64 0, .int .i64 0, .int .i64 0, .int .i64 0] 43) = v := ⟨_, rfl⟩
        have hb : Below w27.heap.size w27 w28 := by rw [← hw28]; exact (Below.refl _ _).alloc (Nat.le_refl _) _
        have B9 : Blk w27.heap.size [.int .i64 0, .int .i64 0, .int .i64 0, .int .i64 0, .int .i64 0, .int .i64 0] w28 := by rw [← hw28]; exact Blk.new _ _ _
        have BBN := BB.trans (hb.mono BB.size)
        clear BB
        have BB := BBN
        clear BBN
        clear hb
        have zs0 : w28.setCell ⟨w27.heap.size, 0, none⟩ (.int .i64 0) = w28 := by rw [← hw28]; simp [go_sem]
        have zc0 := B9.at 0 rfl
        have zf0 := B9.fz 0 rfl
        have zs1 : w28.setCell ⟨w27.heap.size, 1, none⟩ (.int .i64 0) = w28 := by rw [← hw28]; simp [go_sem]
        have zc1 := B9.at 1 rfl
        have zf1 := B9.fz 1 rfl
        have zs2 : w28.setCell ⟨w27.heap.size, 2, none⟩ (.int .i64 0) = w28 := by rw [← hw28]; simp [go_sem]
        have zc2 := B9.at 2 rfl
        have zf2 := B9.fz 2 rfl
        have zs3 : w28.setCell ⟨w27.heap.size, 3, none⟩ (.int .i64 0) = w28 := by rw [← hw28]; simp [go_sem]
        have zc3 := B9.at 3 rfl
        have zf3 := B9.fz 3 rfl
        have zs4 : w28.setCell ⟨w27.heap.size, 4, none⟩ (.int .i64 0) = w28 := by rw [← hw28]; simp [go_sem]
        have zc4 := B9.at 4 rfl
        have zf4 := B9.fz 4 rfl
        have zs5 : w28.setCell ⟨w27.heap.size, 5, none⟩ (.int .i64 0) = w28 := by rw [← hw28]; simp [go_sem]
        have zc5 := B9.at 5 rfl
        have zf5 := B9.fz 5 rfl
        have HX := drawR ad len cap zs w28 ((HZ.out.below BB).lt BB.size)
        go_wp2_with fail
        try rw [hw28]
        refine HX.mono ?_
        clear HX hw28 zs0 zc0 zf0 zs1 zc1 zf1 zs2 zc2 zf2 zs3 zc3 zf3 zs4 zc4 zf4 zs5 zc5 zf5
        rintro en w29 ⟨x, y, z, rfl, hb⟩
        have B9N := B9.later hb B9.lt
        have BBN := BB.trans (hb.mono BB.size)
        clear B9 BB
        have B9 := B9N
        have BB := BBN
        clear B9N BBN
        clear hb
        clear B9
        obtain ⟨w30, hw30⟩ : ∃ v, w29.alloc (.cells #[.int .i64 x, .int .i64 y, .int .i64 z] 25) = v := ⟨_, rfl⟩
        have hb : Below w29.heap.size w29 w30 := by rw [← hw30]; exact (Below.refl _ _).alloc (Nat.le_refl _) _
        have RB : Blk w29.heap.size [.int .i64 x, .int .i64 y, .int .i64 z] w30 := by rw [← hw30]; exact Blk.new _ _ _
        have BBN := BB.trans (hb.mono BB.size)
        clear BB
        have BB := BBN
        clear BBN
        clear hb
        have d0 := RB.at 0 rfl
        have d1 := RB.at 1 rfl
        have d2 := RB.at 2 rfl
        have HX := implShow_is x y z w30
        go_wp2_with fail
        try rw [hw30]
        refine HX.mono ?_
        clear HX hw30 d0 d1 d2
        rintro en w31 ⟨rfl, hb⟩
        have RBN := RB.later hb RB.lt
        have BBN := BB.trans (hb.mono BB.size)
        clear RB BB
        have RB := RBN
        have BB := BBN
        clear RBN BBN
        clear hb
        have zR : (shR x y z).size ≤ 1048576 := Nat.le_trans (shR_size x y z) (by omega)
        by_cases h3 : rOk x y z = true
        · obtain ⟨k0, k1, k2, k3_⟩ := rest_trip x y z (shR_full x y z h3)
          have HR := implRead_is (shR x y z) w31 zR
          rw [k0, k1, k2, k3_] at HR
          clear k0 k1 k2 k3_
          have HX := HR
          go_wp2_with fail
          refine HX.mono ?_
          clear HX
          rintro en w32 ⟨rfl, hb⟩
          have RBN := RB.later hb RB.lt
          have BBN := BB.trans (hb.mono BB.size)
          clear RB BB
          have RB := RBN
          have BB := BBN
          clear RBN BBN
          clear hb
          obtain ⟨w33, hw33⟩ : ∃ v, w32.alloc (.cells #[.int .i64 x, .int .i64 y, .int .i64 z] 25) = v := ⟨_, rfl⟩
          have hb : Below w32.heap.size w32 w33 := by rw [← hw33]; exact (Below.refl _ _).alloc (Nat.le_refl _) _
          have QB : Blk w32.heap.size [.int .i64 x, .int .i64 y, .int .i64 z] w33 := by rw [← hw33]; exact Blk.new _ _ _
          have RBN := RB.later hb RB.lt
          have BBN := BB.trans (hb.mono BB.size)
          clear RB BB
          have RB := RBN
          have BB := BBN
          clear RBN BBN
          clear hb
          have d0 := RB.at 0 rfl
          have d1 := RB.at 1 rfl
          have d2 := RB.at 2 rfl
          have e0 := QB.at 0 rfl
          have e1 := QB.at 1 rfl
          have e2 := QB.at 2 rfl
          have SK := specOk_is x y z w33
          rw [h3] at SK
          go_wp2_with fail
          try rw [hw33]
          refine SK.mono ?_
          clear SK hw33  d0 d1 d2 e0 e1 e2
          rintro en w34 ⟨rfl, hb⟩
          have RBN := RB.later hb RB.lt
          have QBN := QB.later hb QB.lt
          have BBN := BB.trans (hb.mono BB.size)
          clear RB QB BB
          have RB := RBN
          have QB := QBN
          have BB := BBN
          clear RBN QBN BBN
          clear hb
          have d0 := RB.at 0 rfl
          have d1 := RB.at 1 rfl
          have d2 := RB.at 2 rfl
          have e0 := QB.at 0 rfl
          have e1 := QB.at 1 rfl
          have e2 := QB.at 2 rfl
          clear RB QB
          go_wp2
          go_ret
          exact ⟨rfl, BB⟩
        · rw [Bool.not_eq_true] at h3
          have k0 : rdK (numsR (shR x y z)).1 = false := by unfold shR; rw [h3]; show rdK (numsR ⟨#[]⟩).1 = false; rw [numsR_nil]; rfl
          obtain ⟨k1, k2, k3_⟩ := rd_no k0
          have HR := implRead_is (shR x y z) w31 zR
          rw [k0, k1, k2, k3_] at HR
          clear k0 k1 k2 k3_
          have HX := HR
          go_wp2_with fail
          refine HX.mono ?_
          clear HX
          rintro en w32 ⟨rfl, hb⟩
          have RBN := RB.later hb RB.lt
          have BBN := BB.trans (hb.mono BB.size)
          clear RB BB
          have RB := RBN
          have BB := BBN
          clear RBN BBN
          clear hb
          obtain ⟨w33, hw33⟩ : ∃ v, w32.alloc (.cells #[.int .i64 0, .int .i64 0, .int .i64 0] 25) = v := ⟨_, rfl⟩
          have hb : Below w32.heap.size w32 w33 := by rw [← hw33]; exact (Below.refl _ _).alloc (Nat.le_refl _) _
          have QB : Blk w32.heap.size [.int .i64 0, .int .i64 0, .int .i64 0] w33 := by rw [← hw33]; exact Blk.new _ _ _
          have RBN := RB.later hb RB.lt
          have BBN := BB.trans (hb.mono BB.size)
          clear RB BB
          have RB := RBN
          have BB := BBN
          clear RBN BBN
          clear hb
          have zs0 : w33.setCell ⟨w32.heap.size, 0, none⟩ (.int .i64 0) = w33 := by rw [← hw33]; simp [go_sem]
          have zc0 := QB.at 0 rfl
          have zf0 := QB.fz 0 rfl
          have zs1 : w33.setCell ⟨w32.heap.size, 1, none⟩ (.int .i64 0) = w33 := by rw [← hw33]; simp [go_sem]
          have zc1 := QB.at 1 rfl
          have zf1 := QB.fz 1 rfl
          have zs2 : w33.setCell ⟨w32.heap.size, 2, none⟩ (.int .i64 0) = w33 := by rw [← hw33]; simp [go_sem]
          have zc2 := QB.at 2 rfl
          have zf2 := QB.fz 2 rfl
          have d0 := RB.at 0 rfl
          have d1 := RB.at 1 rfl
          have d2 := RB.at 2 rfl
          have e0 := QB.at 0 rfl
          have e1 := QB.at 1 rfl
          have e2 := QB.at 2 rfl
          have SK := specOk_is x y z w33
          rw [h3] at SK
          go_wp2_with fail
          try rw [hw33]
          refine SK.mono ?_
          clear SK hw33 zs0 zc0 zf0 zs1 zc1 zf1 zs2 zc2 zf2 d0 d1 d2 e0 e1 e2
          rintro en w34 ⟨rfl, hb⟩
          have RBN := RB.later hb RB.lt
          have QBN := QB.later hb QB.lt
          have BBN := BB.trans (hb.mono BB.size)
          clear RB QB BB
          have RB := RBN
          have QB := QBN
          have BB := BBN
          clear RBN QBN BBN
          clear hb
          have d0 := RB.at 0 rfl
          have d1 := RB.at 1 rfl
          have d2 := RB.at 2 rfl
          have e0 := QB.at 0 rfl
          have e1 := QB.at 1 rfl
          have e2 := QB.at 2 rfl
          clear RB QB
          go_wp2
          go_ret
          exact ⟨rfl, BB⟩
      · obtain ⟨k0, k1, k2, k3_, k4, k5, k6⟩ := shG_yes (k := k3) (s := s3) (n := n3) (a := a3) (b := b3) (e := e3) (key := key3) (by rw [hY]; exact h2)
        rw [hY] at k0 k1 k2 k3_ k4 k5 k6
        have HR := implReadG_is Y key3 w17 zY
        rw [k0, k1, k2, k3_, k4, k5, k6] at HR
        clear k0 k1 k2 k3_ k4 k5 k6
        have hne := ne_nil Y (by omega)
        have HX := HR
        go_wp2_with fail
        refine HX.mono ?_
        clear HX
        rintro en w18 ⟨rfl, hb⟩
        have GBN := GB.later hb GB.lt
        have BBN := BB.trans (hb.mono BB.size)
        clear GB BB
        have GB := GBN
        have BB := BBN
        clear GBN BBN
        clear hb
        obtain ⟨w19, hw19⟩ : ∃ v, w18.alloc (.cells #[.int .i64 k3, .int .i64 s3, .int .i64 n3, .int .i64 a3, .int .i64 b3, .int .i64 e3] 43) = v := ⟨_, rfl⟩
        have hb : Below w18.heap.size w18 w19 := by rw [← hw19]; exact (Below.refl _ _).alloc (Nat.le_refl _) _
        have ZB : Blk w18.heap.size [.int .i64 k3, .int .i64 s3, .int .i64 n3, .int .i64 a3, .int .i64 b3, .int .i64 e3] w19 := by rw [← hw19]; exact Blk.new _ _ _
        have GBN := GB.later hb GB.lt
        have BBN := BB.trans (hb.mono BB.size)
        clear GB BB
        have GB := GBN
        have BB := BBN
        clear GBN BBN
        clear hb
        have d0 := GB.at 0 rfl
        have d1 := GB.at 1 rfl
        have d2 := GB.at 2 rfl
        have d3 := GB.at 3 rfl
        have d4 := GB.at 4 rfl
        have d5 := GB.at 5 rfl
        have HX := specShowG_is k3 s3 n3 a3 b3 e3 key3 w19
        go_wp2_with fail
        try rw [hw19]
        refine HX.mono ?_
        clear HX hw19 d0 d1 d2 d3 d4 d5
        rintro en w20 ⟨rfl, hb⟩
        have GBN := GB.later hb GB.lt
        have ZBN := ZB.later hb ZB.lt
        have BBN := BB.trans (hb.mono BB.size)
        clear GB ZB BB
        have GB := GBN
        have ZB := ZBN
        have BB := BBN
        clear GBN ZBN BBN
        clear hb
        rw [hY]
        have d0 := GB.at 0 rfl
        have d1 := GB.at 1 rfl
        have d2 := GB.at 2 rfl
        have d3 := GB.at 3 rfl
        have d4 := GB.at 4 rfl
        have d5 := GB.at 5 rfl
        have e0 := ZB.at 0 rfl
        have e1 := ZB.at 1 rfl
        have e2 := ZB.at 2 rfl
        have e3 := ZB.at 3 rfl
        have e4 := ZB.at 4 rfl
        have e5 := ZB.at 5 rfl
        have o1 : rtK X (wrap64 (key + 1)) = false := by rw [← hX]; exact shT_other (succ_ne key ki)
        have HR := implReadT_is X (wrap64 (key + 1)) w20 zX
        rw [o1, rtN_no o1, rtN_no o1, rtN_no o1, rtN_no o1, rtN_no o1, rtN_no o1, rtP_no o1, rtV_no o1] at HR
        clear o1
        go_wp2_with fail
        refine HR.mono ?_
        clear HR hne h2 d0 d1 d2 d3 d4 d5 e0 e1 e2 e3 e4 e5
        clear GB ZB
        rintro en w21 ⟨ua9, uc9, ub9, ud9, rfl, _, _, _, hb⟩
        have BBN := BB.trans (hb.mono BB.size)
        clear BB
        have BB := BBN
        clear BBN
        clear hb
        obtain ⟨w22, hw22⟩ : ∃ v, w21.alloc (.cells #[.int .i64 0, .int .i64 0, .int .i64 0, .int .i64 0, .int .i64 0, .int .i64 0, .slice ua9 0 uc9, .slice ub9 0 ud9] 28) = v := ⟨_, rfl⟩
        have hb : Below w21.heap.size w21 w22 := by rw [← hw22]; exact (Below.refl _ _).alloc (Nat.le_refl _) _
        have B9 : Blk w21.heap.size [.int .i64 0, .int .i64 0, .int .i64 0, .int .i64 0, .int .i64 0, .int .i64 0, .slice ua9 0 uc9, .slice ub9 0 ud9] w22 := by rw [← hw22]; exact Blk.new _ _ _
        have BBN := BB.trans (hb.mono BB.size)
        clear BB
        have BB := BBN
        clear BBN
        clear hb
        have o1 : raK U (wrap64 (key2 + 1)) = false := by rw [← hU]; exact shA_other (succ_ne key2 ki2)
        have HR := implReadA_is U (wrap64 (key2 + 1)) w22 zU
        rw [o1, raV_no o1, raV_no o1, raV_no o1] at HR
        clear o1
        have HX := HR
        go_wp2_with fail
        try rw [hw22]
        refine HX.mono ?_
        clear HX hw22
        rintro en w23 ⟨rfl, hb⟩
        have B9N := B9.later hb B9.lt
        have BBN := BB.trans (hb.mono BB.size)
        clear B9 BB
        have B9 := B9N
        have BB := BBN
        clear B9N BBN
        clear hb
        clear B9
        obtain ⟨w24, hw24⟩ : ∃ v, w23.alloc (.cells #[.int .i64 0, .int .i64 0, .int .i64 0] 36) = v := ⟨_, rfl⟩
        have hb : Below w23.heap.size w23 w24 := by rw [← hw24]; exact (Below.refl _ _).alloc (Nat.le_refl _) _
        have B9 : Blk w23.heap.size [.int .i64 0, .int .i64 0, .int .i64 0] w24 := by rw [← hw24]; exact Blk.new _ _ _
        have BBN := BB.trans (hb.mono BB.size)
        clear BB
        have BB := BBN
        clear BBN
        clear hb
        have zs0 : w24.setCell ⟨w23.heap.size, 0, none⟩ (.int .i64 0) = w24 := by rw [← hw24]; simp [go_sem]
        have zc0 := B9.at 0 rfl
        have zf0 := B9.fz 0 rfl
        have zs1 : w24.setCell ⟨w23.heap.size, 1, none⟩ (.int .i64 0) = w24 := by rw [← hw24]; simp [go_sem]
        have zc1 := B9.at 1 rfl
        have zf1 := B9.fz 1 rfl
        have zs2 : w24.setCell ⟨w23.heap.size, 2, none⟩ (.int .i64 0) = w24 := by rw [← hw24]; simp [go_sem]
        have zc2 := B9.at 2 rfl
        have zf2 := B9.fz 2 rfl
        have o1 : rgK Y (wrap64 (key3 + 1)) = false := by rw [← hY]; exact shG_other (succ_ne key3 ki3)
        have HR := implReadG_is Y (wrap64 (key3 + 1)) w24 zY
        rw [o1, rgV_no o1, rgV_no o1, rgV_no o1, rgV_no o1, rgV_no o1, rgV_no o1] at HR
        clear o1
        have HX := HR
        go_wp2_with fail
        try rw [hw24]
        refine HX.mono ?_
        clear HX hw24 zs0 zc0 zf0 zs1 zc1 zf1 zs2 zc2 zf2
        rintro en w25 ⟨rfl, hb⟩
        have B9N := B9.later hb B9.lt
        have BBN := BB.trans (hb.mono BB.size)
        clear B9 BB
        have B9 := B9N
        have BB := BBN
        clear B9N BBN
        clear hb
        clear B9
        obtain ⟨w26, hw26⟩ : ∃ v, w25.alloc (.cells #[.int .i64 0, .int .i64 0, .int .i64 0, .int .i64 0, .int .i64 0, .int .i64 0] 43) = v := ⟨_, rfl⟩
        have hb : Below w25.heap.size w25 w26 := by rw [← hw26]; exact (Below.refl _ _).alloc (Nat.le_refl _) _
        have B9 : Blk w25.heap.size [.int .i64 0, .int .i64 0, .int .i64 0, .int .i64 0, .int .i64 0, .int .i64 0] w26 := by rw [← hw26]; exact Blk.new _ _ _
        have BBN := BB.trans (hb.mono BB.size)
        clear BB
        have BB := BBN
        clear BBN
        clear hb
        have zs0 : w26.setCell ⟨w25.heap.size, 0, none⟩ (.int .i64 0) = w26 := by rw [← hw26]; simp [go_sem]
        have zc0 := B9.at 0 rfl
        have zf0 := B9.fz 0 rfl
        have zs1 : w26.setCell ⟨w25.heap.size, 1, none⟩ (.int .i64 0) = w26 := by rw [← hw26]; simp [go_sem]
        have zc1 := B9.at 1 rfl
        have zf1 := B9.fz 1 rfl
        have zs2 : w26.setCell ⟨w25.heap.size, 2, none⟩ (.int .i64 0) = w26 := by rw [← hw26]; simp [go_sem]
        have zc2 := B9.at 2 rfl
        have zf2 := B9.fz 2 rfl
        have zs3 : w26.setCell ⟨w25.heap.size, 3, none⟩ (.int .i64 0) = w26 := by rw [← hw26]; simp [go_sem]
        have zc3 := B9.at 3 rfl
        have zf3 := B9.fz 3 rfl
        have zs4 : w26.setCell ⟨w25.heap.size, 4, none⟩ (.int .i64 0) = w26 := by rw [← hw26]; simp [go_sem]
        have zc4 := B9.at 4 rfl
        have zf4 := B9.fz 4 rfl
        have zs5 : w26.setCell ⟨w25.heap.size, 5, none⟩ (.int .i64 0) = w26 := by rw [← hw26]; simp [go_sem]
        have zc5 := B9.at 5 rfl
        have zf5 := B9.fz 5 rfl
        have o1 : rgK U key2 = false := by rw [← hU]; exact shA_grant
        have HR := implReadG_is U key2 w26 zU
        rw [o1, rgV_no o1, rgV_no o1, rgV_no o1, rgV_no o1, rgV_no o1, rgV_no o1] at HR
        clear o1
        have HX := HR
        go_wp2_with fail
        try rw [hw26]
        refine HX.mono ?_
        clear HX hw26 zs0 zc0 zf0 zs1 zc1 zf1 zs2 zc2 zf2 zs3 zc3 zf3 zs4 zc4 zf4 zs5 zc5 zf5
        rintro en w27 ⟨rfl, hb⟩
        have B9N := B9.later hb B9.lt
        have BBN := BB.trans (hb.mono BB.size)
        clear B9 BB
        have B9 := B9N
        have BB := BBN
        clear B9N BBN
        clear hb
        clear B9
        obtain ⟨w28, hw28⟩ : ∃ v, w27.alloc (.cells #[.int .i64 0, .int .i64 0, .int .i64 0, .int .i64 0, .int .i64 0, .int .i64 0] 43) = v := ⟨_, rfl⟩
        have hb : Below w27.heap.size w27 w28 := by rw [← hw28]; exact (Below.refl _ _).alloc (Nat.le_refl _) _
        have B9 : Blk w27.heap.size [.int .i64 0, .int .i64 0, .int .i64 0, .int .i64 0, .int .i64 0, .int .i64 0] w28 := by rw [← hw28]; exact Blk.new _ _ _
        have BBN := BB.trans (hb.mono BB.size)
        clear BB
        have BB := BBN
        clear BBN
        clear hb
        have zs0 : w28.setCell ⟨w27.heap.size, 0, none⟩ (.int .i64 0) = w28 := by rw [← hw28]; simp [go_sem]
        have zc0 := B9.at 0 rfl
        have zf0 := B9.fz 0 rfl
        have zs1 : w28.setCell ⟨w27.heap.size, 1, none⟩ (.int .i64 0) = w28 := by rw [← hw28]; simp [go_sem]
        have zc1 := B9.at 1 rfl
        have zf1 := B9.fz 1 rfl
        have zs2 : w28.setCell ⟨w27.heap.size, 2, none⟩ (.int .i64 0) = w28 := by rw [← hw28]; simp [go_sem]
        have zc2 := B9.at 2 rfl
        have zf2 := B9.fz 2 rfl
        have zs3 : w28.setCell ⟨w27.heap.size, 3, none⟩ (.int .i64 0) = w28 := by rw [← hw28]; simp [go_sem]
        have zc3 := B9.at 3 rfl
        have zf3 := B9.fz 3 rfl
        have zs4 : w28.setCell ⟨w27.heap.size, 4, none⟩ (.int .i64 0) = w28 := by rw [← hw28]; simp [go_sem]
        have zc4 := B9.at 4 rfl
        have zf4 := B9.fz 4 rfl
        have zs5 : w28.setCell ⟨w27.heap.size, 5, none⟩ (.int .i64 0) = w28 := by rw [← hw28]; simp [go_sem]
        have zc5 := B9.at 5 rfl
        have zf5 := B9.fz 5 rfl
        have HX := drawR ad len cap zs w28 ((HZ.out.below BB).lt BB.size)
        go_wp2_with fail
        try rw [hw28]
        refine HX.mono ?_
        clear HX hw28 zs0 zc0 zf0 zs1 zc1 zf1 zs2 zc2 zf2 zs3 zc3 zf3 zs4 zc4 zf4 zs5 zc5 zf5
        rintro en w29 ⟨x, y, z, rfl, hb⟩
        have B9N := B9.later hb B9.lt
        have BBN := BB.trans (hb.mono BB.size)
        clear B9 BB
        have B9 := B9N
        have BB := BBN
        clear B9N BBN
        clear hb
        clear B9
        obtain ⟨w30, hw30⟩ : ∃ v, w29.alloc (.cells #[.int .i64 x, .int .i64 y, .int .i64 z] 25) = v := ⟨_, rfl⟩
        have hb : Below w29.heap.size w29 w30 := by rw [← hw30]; exact (Below.refl _ _).alloc (Nat.le_refl _) _
        have RB : Blk w29.heap.size [.int .i64 x, .int .i64 y, .int .i64 z] w30 := by rw [← hw30]; exact Blk.new _ _ _
        have BBN := BB.trans (hb.mono BB.size)
        clear BB
        have BB := BBN
        clear BBN
        clear hb
        have d0 := RB.at 0 rfl
        have d1 := RB.at 1 rfl
        have d2 := RB.at 2 rfl
        have HX := implShow_is x y z w30
        go_wp2_with fail
        try rw [hw30]
        refine HX.mono ?_
        clear HX hw30 d0 d1 d2
        rintro en w31 ⟨rfl, hb⟩
        have RBN := RB.later hb RB.lt
        have BBN := BB.trans (hb.mono BB.size)
        clear RB BB
        have RB := RBN
        have BB := BBN
        clear RBN BBN
        clear hb
        have zR : (shR x y z).size ≤ 1048576 := Nat.le_trans (shR_size x y z) (by omega)
        by_cases h3 : rOk x y z = true
        · obtain ⟨k0, k1, k2, k3_⟩ := rest_trip x y z (shR_full x y z h3)
          have HR := implRead_is (shR x y z) w31 zR
          rw [k0, k1, k2, k3_] at HR
          clear k0 k1 k2 k3_
          have HX := HR
          go_wp2_with fail
          refine HX.mono ?_
          clear HX
          rintro en w32 ⟨rfl, hb⟩
          have RBN := RB.later hb RB.lt
          have BBN := BB.trans (hb.mono BB.size)
          clear RB BB
          have RB := RBN
          have BB := BBN
          clear RBN BBN
          clear hb
          obtain ⟨w33, hw33⟩ : ∃ v, w32.alloc (.cells #[.int .i64 x, .int .i64 y, .int .i64 z] 25) = v := ⟨_, rfl⟩
          have hb : Below w32.heap.size w32 w33 := by rw [← hw33]; exact (Below.refl _ _).alloc (Nat.le_refl _) _
          have QB : Blk w32.heap.size [.int .i64 x, .int .i64 y, .int .i64 z] w33 := by rw [← hw33]; exact Blk.new _ _ _
          have RBN := RB.later hb RB.lt
          have BBN := BB.trans (hb.mono BB.size)
          clear RB BB
          have RB := RBN
          have BB := BBN
          clear RBN BBN
          clear hb
          have d0 := RB.at 0 rfl
          have d1 := RB.at 1 rfl
          have d2 := RB.at 2 rfl
          have e0 := QB.at 0 rfl
          have e1 := QB.at 1 rfl
          have e2 := QB.at 2 rfl
          have SK := specOk_is x y z w33
          rw [h3] at SK
          go_wp2_with fail
          try rw [hw33]
          refine SK.mono ?_
          clear SK hw33  d0 d1 d2 e0 e1 e2
          rintro en w34 ⟨rfl, hb⟩
          have RBN := RB.later hb RB.lt
          have QBN := QB.later hb QB.lt
          have BBN := BB.trans (hb.mono BB.size)
          clear RB QB BB
          have RB := RBN
          have QB := QBN
          have BB := BBN
          clear RBN QBN BBN
          clear hb
          have d0 := RB.at 0 rfl
          have d1 := RB.at 1 rfl
          have d2 := RB.at 2 rfl
          have e0 := QB.at 0 rfl
          have e1 := QB.at 1 rfl
          have e2 := QB.at 2 rfl
          clear RB QB
          go_wp2
          go_ret
          exact ⟨rfl, BB⟩
        · rw [Bool.not_eq_true] at h3
          have k0 : rdK (numsR (shR x y z)).1 = false := by unfold shR; rw [h3]; show rdK (numsR ⟨#[]⟩).1 = false; rw [numsR_nil]; rfl
          obtain ⟨k1, k2, k3_⟩ := rd_no k0
          have HR := implRead_is (shR x y z) w31 zR
          rw [k0, k1, k2, k3_] at HR
          clear k0 k1 k2 k3_
          have HX := HR
          go_wp2_with fail
          refine HX.mono ?_
          clear HX
          rintro en w32 ⟨rfl, hb⟩
          have RBN := RB.later hb RB.lt
          have BBN := BB.trans (hb.mono BB.size)
          clear RB BB
          have RB := RBN
          have BB := BBN
          clear RBN BBN
          clear hb
          obtain ⟨w33, hw33⟩ : ∃ v, w32.alloc (.cells #[.int .i64 0, .int .i64 0, .int .i64 0] 25) = v := ⟨_, rfl⟩
          have hb : Below w32.heap.size w32 w33 := by rw [← hw33]; exact (Below.refl _ _).alloc (Nat.le_refl _) _
          have QB : Blk w32.heap.size [.int .i64 0, .int .i64 0, .int .i64 0] w33 := by rw [← hw33]; exact Blk.new _ _ _
          have RBN := RB.later hb RB.lt
          have BBN := BB.trans (hb.mono BB.size)
          clear RB BB
          have RB := RBN
          have BB := BBN
          clear RBN BBN
          clear hb
          have zs0 : w33.setCell ⟨w32.heap.size, 0, none⟩ (.int .i64 0) = w33 := by rw [← hw33]; simp [go_sem]
          have zc0 := QB.at 0 rfl
          have zf0 := QB.fz 0 rfl
          have zs1 : w33.setCell ⟨w32.heap.size, 1, none⟩ (.int .i64 0) = w33 := by rw [← hw33]; simp [go_sem]
          have zc1 := QB.at 1 rfl
          have zf1 := QB.fz 1 rfl
          have zs2 : w33.setCell ⟨w32.heap.size, 2, none⟩ (.int .i64 0) = w33 := by rw [← hw33]; simp [go_sem]
          have zc2 := QB.at 2 rfl
          have zf2 := QB.fz 2 rfl
          have d0 := RB.at 0 rfl
          have d1 := RB.at 1 rfl
          have d2 := RB.at 2 rfl
          have e0 := QB.at 0 rfl
          have e1 := QB.at 1 rfl
          have e2 := QB.at 2 rfl
          have SK := specOk_is x y z w33
          rw [h3] at SK
          go_wp2_with fail
          try rw [hw33]
          refine SK.mono ?_
          clear SK hw33 zs0 zc0 zf0 zs1 zc1 zf1 zs2 zc2 zf2 d0 d1 d2 e0 e1 e2
          rintro en w34 ⟨rfl, hb⟩
          have RBN := RB.later hb RB.lt
          have QBN := QB.later hb QB.lt
          have BBN := BB.trans (hb.mono BB.size)
          clear RB QB BB
          have RB := RBN
          have QB := QBN
          have BB := BBN
          clear RBN QBN BBN
          clear hb
          have d0 := RB.at 0 rfl
          have d1 := RB.at 1 rfl
          have d2 := RB.at 2 rfl
          have e0 := QB.at 0 rfl
          have e1 := QB.at 1 rfl
          have e2 := QB.at 2 rfl
          clear RB QB
          go_wp2
          go_ret
          exact ⟨rfl, BB⟩

end Go.Proofs.YtbkemhclncmicaaGreat
