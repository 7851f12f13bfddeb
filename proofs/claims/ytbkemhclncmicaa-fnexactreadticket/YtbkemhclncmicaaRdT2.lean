/- Tickets: what a text is read as, by the model. -/
import Derived.Test.YtbkemhclncmicaaMarks2
import Derived.Test.YtbkemhclncmicaaTick4
import Derived.Test.YtbkemhclncmicaaRest2
import Derived.Test.YtbkemhclncmicaaNums
set_option linter.unusedVariables false
namespace Go.Proofs.Ytbkemhclncmicaa
open Go Go.RowKit Go.Joins Own Var Term

theorem rt_yes {s : ByteArray} {key : Int} {x0 x1 x2 x3 x4 : ByteArray} (h : (partsR (openR s key).1).1 = [x0, x1, x2, x3, x4]) (h0 : (numsR x0).2 = true) (h1 : (keyR x1).2 = true) (h2 : rdK (numsR x2).1 = true) (h3 : (numsR x3).2 = true) (h4 : (numsR x4).2 = true) (c sv : Int) (hw : (numsR x0).1 = [c, sv])
    (hg : tOk c sv (keyR x1).1 (rdA (numsR x2).1) (rdB (numsR x2).1) (rdC (numsR x2).1) (numsR x3).1 (numsR x4).1 = true) : rtK s key = true := by
  rw [rtK_five h, h0, h1, h2, h3, h4, hw]
  show (decide (2 = 2) && _) = true
  simpa using hg
theorem rt_no {s : ByteArray} {key : Int} {x0 x1 x2 x3 x4 : ByteArray} (h : (partsR (openR s key).1).1 = [x0, x1, x2, x3, x4])
    (hn : (numsR x0).2 = false ∨ (keyR x1).2 = false ∨ rdK (numsR x2).1 = false ∨ (numsR x3).2 = false ∨ (numsR x4).2 = false ∨ (numsR x0).1.length ≠ 2 ∨ ∃ c sv, (numsR x0).1 = [c, sv] ∧ tOk c sv (keyR x1).1 (rdA (numsR x2).1) (rdB (numsR x2).1) (rdC (numsR x2).1) (numsR x3).1 (numsR x4).1 = false) : rtK s key = false := by
  rw [rtK_five h]
  rcases hn with e | e | e | e | e | e | ⟨c, sv, e, g⟩
  · rw [e]; rfl
  · rw [e]; simp
  · rw [e]; simp
  · rw [e]; simp
  · rw [e]; simp
  · rw [decide_eq_false e]; simp
  · rw [e]
    simp only [Bool.and_eq_false_iff]
    exact Or.inr (Or.inr (Or.inr (Or.inr (Or.inr (Or.inr g)))))
set_option maxRecDepth 100000 in
set_option maxHeartbeats 25600000 in
theorem specReadT_is (s : ByteArray) (key : Int) (w : World) (hs : s.size ≤ 1048576) : Calls Try.prog 14 #[.string s, .int .i64 key] w fun en w' => ∃ (ua : Option Addr) (uc : Nat) (va : Option Addr) (vc : Nat), en = .returned (.tuple #[.agg #[.int .i64 (rtN s key 0), .int .i64 (rtN s key 1), .int .i64 (rtN s key 2), .int .i64 (rtN s key 3), .int .i64 (rtN s key 4), .int .i64 (rtN s key 5), .slice ua (rtP s key).length uc, .slice va (rtV s key).length vc], .bool (rtK s key)]) ∧
      w'.ownsRow w.heap.size 3 1 (.slice ua (rtP s key).length uc) (rtP s key).length (intV (rtP s key)) ∧ w'.ownsRow w.heap.size 3 1 (.slice va (rtV s key).length vc) (rtV s key).length (intV (rtV s key)) ∧
      Apart (.slice ua (rtP s key).length uc) (.slice va (rtV s key).length vc) ∧ Below w.heap.size w w' := by
  obtain ⟨W1, hW1⟩ : ∃ W1, w.alloc (.cells #[.int .i64 0, .int .i64 0, .int .i64 0, .int .i64 0, .int .i64 0, .int .i64 0, .slice none 0 0, .slice none 0 0] 31) = W1 := ⟨_, rfl⟩
  have BC : Below w.heap.size w W1 := by rw [← hW1]; exact (Below.refl _ _).alloc (Nat.le_refl _) _
  have RR : Blk w.heap.size [.int .i64 0, .int .i64 0, .int .i64 0, .int .i64 0, .int .i64 0, .int .i64 0, .slice none 0 0, .slice none 0 0] W1 := by rw [← hW1]; exact Blk.new w #[.int .i64 0, .int .i64 0, .int .i64 0, .int .i64 0, .int .i64 0, .int .i64 0, .slice none 0 0, .slice none 0 0] _
  have lr : w.heap.size < W1.heap.size := by rw [← hW1]; simp
  have RP := fun w' => spec_parts (openR s key).1 w' (Nat.le_trans (openR_size s key) (by omega))
  have HZ := parts_size (openR s key).1
  have HRG : (partsR (openR s key).1).1.length ≠ 5 → rtK s key = false := rtK_not
  obtain ⟨XL, pb, hP⟩ : ∃ L b, partsR (openR s key).1 = (L, b) := ⟨_, _, rfl⟩
  rw [hP] at RP HZ HRG
  simp only at RP HZ HRG
  go_enter Try.func14, Try.ntmps14
  go_wp2_with fail
  try rw [hW1]
  refine (spec_open s key _ hs).mono ?_
  clear hW1
  rintro en w2 ⟨rfl, hb⟩
  have RRN := RR.later hb lr
  have lrN := Nat.lt_of_lt_of_le lr hb.size
  have BCN := BC.trans (hb.mono BC.size)
  clear RR lr BC hb
  have RR := RRN
  have lr := lrN
  have BC := BCN
  clear RRN lrN BCN
  generalize (openR s key).2 = ob
  go_wp2_with fail
  refine (RP _).mono ?_
  rintro en w3 ⟨v, rfl, ho, hb⟩
  have RRN := RR.later hb lr
  have lrN := Nat.lt_of_lt_of_le lr hb.size
  have BCN := BC.trans (hb.mono BC.size)
  clear RR lr BC hb
  have RR := RRN
  have lr := lrN
  have BC := BCN
  clear RRN lrN BCN
  clear RP
  by_cases h5 : XL.length = 5
  · obtain ⟨x0, x1, x2, x3, x4, rfl⟩ : ∃ x0 x1 x2 x3 x4, XL = [x0, x1, x2, x3, x4] := by
      match XL, h5 with
      | [x0, x1, x2, x3, x4], _ => exact ⟨x0, x1, x2, x3, x4, rfl⟩
    have hP' : (partsR (openR s key).1).1 = [x0, x1, x2, x3, x4] := by rw [hP]
    clear h5 HRG hP
    have z0 : x0.size ≤ 1048576 := Nat.le_trans (HZ x0 (by simp)) (by omega)
    have z1 : x1.size ≤ 1048576 := Nat.le_trans (HZ x1 (by simp)) (by omega)
    have z2 : x2.size ≤ 1048576 := Nat.le_trans (HZ x2 (by simp)) (by omega)
    have z3 : x3.size ≤ 1048576 := Nat.le_trans (HZ x3 (by simp)) (by omega)
    have z4 : x4.size ≤ 1048576 := Nat.le_trans (HZ x4 (by simp)) (by omega)
    clear HZ
    obtain ⟨gp, capp, rfl, hcap, hg, lx, XC0⟩ := own_blk (f := Value.string) (xs := [x0, x1, x2, x3, x4]) ho (by simp)
    simp only [List.length_cons, List.length_nil, Nat.zero_add, Nat.reduceAdd] at hcap
    have hc5 : (5 : Int) ≤ (capp : Int) := by omega
    have XC : Blk gp [.string x0, .string x1, .string x2, .string x3, .string x4] w3 := XC0
    clear ho hg XC0 hcap
    have HM := fun w => spec_readNums x0 w z0
    have HK := fun w => spec_readKey x1 w z1
    have HR := fun w => specRead_is x2 w z2
    have H3 := fun w => spec_readNums x3 w z3
    have H4 := fun w => spec_readNums x4 w z4
    have HY := rt_yes hP'
    have HV := fun c sv hw => rt_five (c := c) (sv := sv) hP' hw
    have HO := rt_no hP'
    have HN := nums_len x0
    have lP : (numsR x3).1.length ≤ 1048576 := Nat.le_trans (numsR_len x3) (by omega)
    have lV : (numsR x4).1.length ≤ 1048576 := Nat.le_trans (numsR_len x4) (by omega)
    generalize (numsR x0).1 = NL at HM HY HV HO HN
    generalize (numsR x0).2 = nb at HM HY HO HN
    generalize (keyR x1).1 = kv at HK HY HV HO
    generalize (keyR x1).2 = ka at HK HY HO
    generalize rdA (numsR x2).1 = ra at HR HY HV HO
    generalize rdB (numsR x2).1 = rb at HR HY HV HO
    generalize rdC (numsR x2).1 = rc at HR HY HV HO
    generalize rdK (numsR x2).1 = rk at HR HY HO
    generalize (numsR x3).1 = PL at H3 HY HV HO lP
    generalize (numsR x3).2 = d3 at H3 HY HO
    generalize (numsR x4).1 = VL at H4 HY HV HO lV
    generalize (numsR x4).2 = d4 at H4 HY HO
    clear hP' z0 z1 z2 z3 z4
    have q0 := XC.at 0 rfl
    go_wp2_with fail
    refine (HM _).mono ?_
    rintro en w5 ⟨v, rfl, ho, hb⟩
    clear q0 HM
    have RRN := RR.later hb lr
    have XCN := XC.later hb lx
    have lrN := Nat.lt_of_lt_of_le lr hb.size
    have lxN := Nat.lt_of_lt_of_le lx hb.size
    have BCN := BC.trans (hb.mono BC.size)
    clear RR XC lr lx BC hb
    have RR := RRN
    have XC := XCN
    have lr := lrN
    have lx := lxN
    have BC := BCN
    clear RRN XCN lrN lxN BCN
    by_cases h2 : NL.length = 2
    · obtain ⟨c, sv, rfl⟩ : ∃ c sv, NL = [c, sv] := by
        match NL, h2 with
        | [c, sv], _ => exact ⟨c, sv, rfl⟩
      obtain ⟨g5, cap5, rfl, hcap, hg, lq, QC0⟩ := own_blk (f := Value.int .i64) (xs := [c, sv]) ho (by simp)
      simp only [List.length_cons, List.length_nil, Nat.zero_add, Nat.reduceAdd] at hcap
      have hc2 : (2 : Int) ≤ (cap5 : Int) := by omega
      have QC : Blk g5 [.int .i64 c, .int .i64 sv] w5 := QC0
      clear ho hg hcap h2 QC0
      have q0 := XC.at 1 rfl
      go_wp2_with fail
      refine (HK _).mono ?_
      rintro en w6 ⟨rfl, hb⟩
      clear q0 HK
      have RRN := RR.later hb lr
      have XCN := XC.later hb lx
      have QCN := QC.later hb lq
      have lrN := Nat.lt_of_lt_of_le lr hb.size
      have lxN := Nat.lt_of_lt_of_le lx hb.size
      have lqN := Nat.lt_of_lt_of_le lq hb.size
      have BCN := BC.trans (hb.mono BC.size)
      clear RR XC QC lr lx lq BC hb
      have RR := RRN
      have XC := XCN
      have QC := QCN
      have lr := lrN
      have lx := lxN
      have lq := lqN
      have BC := BCN
      clear RRN XCN QCN lrN lxN lqN BCN
      have q0 := XC.at 2 rfl
      go_wp2_with fail
      refine (HR _).mono ?_
      rintro en w7 ⟨rfl, hb⟩
      clear q0 HR
      have RRN := RR.later hb lr
      have XCN := XC.later hb lx
      have QCN := QC.later hb lq
      have lrN := Nat.lt_of_lt_of_le lr hb.size
      have lxN := Nat.lt_of_lt_of_le lx hb.size
      have lqN := Nat.lt_of_lt_of_le lq hb.size
      have BCN := BC.trans (hb.mono BC.size)
      clear RR XC QC lr lx lq BC hb
      have RR := RRN
      have XC := XCN
      have QC := QCN
      have lr := lrN
      have lx := lxN
      have lq := lqN
      have BC := BCN
      clear RRN XCN QCN lrN lxN lqN BCN
      obtain ⟨W8, hW8⟩ : ∃ W8, w7.alloc (.cells #[.int .i64 ra, .int .i64 rb, .int .i64 rc] 29) = W8 := ⟨_, rfl⟩
      have RRN : Blk w.heap.size [.int .i64 0, .int .i64 0, .int .i64 0, .int .i64 0, .int .i64 0, .int .i64 0, .slice none 0 0, .slice none 0 0] W8 := by rw [← hW8]; exact RR.alloc lr _
      have XCN : Blk gp [.string x0, .string x1, .string x2, .string x3, .string x4] W8 := by rw [← hW8]; exact XC.alloc lx _
      have QCN : Blk g5 [.int .i64 c, .int .i64 sv] W8 := by rw [← hW8]; exact QC.alloc lq _
      have EC : Blk w7.heap.size [.int .i64 ra, .int .i64 rb, .int .i64 rc] W8 := by rw [← hW8]; exact Blk.new w7 _ _
      have BCN : Below w.heap.size w W8 := by rw [← hW8]; exact BC.alloc BC.size _
      have le : w7.heap.size < W8.heap.size := by rw [← hW8]; simp
      have lrN := Nat.lt_trans lr le
      have lxN := Nat.lt_trans lx le
      have lqN := Nat.lt_trans lq le
      clear RR XC QC BC lr lx lq
      have RR := RRN
      have XC := XCN
      have QC := QCN
      have BC := BCN
      have lr := lrN
      have lx := lxN
      have lq := lqN
      clear RRN XCN QCN BCN lrN lxN lqN
      have q0 := XC.at 3 rfl
      go_wp2_with fail
      try rw [hW8]
      refine (H3 _).mono ?_
      clear hW8
      rintro en w9 ⟨u, rfl, OU, hb⟩
      clear q0 H3
      obtain ⟨ua, uc, rfl, _, _⟩ := own_row (f := Value.int .i64) OU
      have mu := own_in OU
      have MU : w.heap.size ≤ W8.heap.size := Nat.le_of_lt lr
      have OP := ownsRow_le OU MU
      have NP : ∀ k, (.slice ua PL.length uc : Value).ownBlock = some k → k ≠ w.heap.size := fun k h => by have := (mu k h).1; omega
      clear OU MU
      have RRN := RR.later hb lr
      have XCN := XC.later hb lx
      have QCN := QC.later hb lq
      have ECN := EC.later hb le
      have lrN := Nat.lt_of_lt_of_le lr hb.size
      have lxN := Nat.lt_of_lt_of_le lx hb.size
      have lqN := Nat.lt_of_lt_of_le lq hb.size
      have leN := Nat.lt_of_lt_of_le le hb.size
      have BCN := BC.trans (hb.mono BC.size)
      clear RR XC QC EC lr lx lq le BC hb
      have RR := RRN
      have XC := XCN
      have QC := QCN
      have EC := ECN
      have lr := lrN
      have lx := lxN
      have lq := lqN
      have le := leN
      have BC := BCN
      clear RRN XCN QCN ECN lrN lxN lqN leN BCN
      have lu : ∀ k, (.slice ua PL.length uc : Value).ownBlock = some k → k < w9.heap.size := fun k h => (mu k h).2
      clear mu
      have q0 := XC.at 4 rfl
      go_wp2_with fail
      refine (H4 _).mono ?_
      rintro en w10 ⟨u, rfl, OU, hb⟩
      clear q0 H4
      obtain ⟨va, vc, rfl, _, _⟩ := own_row (f := Value.int .i64) OU
      have AP : Apart (.slice ua PL.length uc) (.slice va VL.length vc) := apart_of lu (fun k h => (own_in OU k h).1)
      have MU : w.heap.size ≤ w9.heap.size := Nat.le_of_lt lr
      have OV := ownsRow_le OU MU
      have NV : ∀ k, (.slice va VL.length vc : Value).ownBlock = some k → k ≠ w.heap.size := fun k h => by have := (own_in OU k h).1; omega
      clear OU MU lu
      have RRN := RR.later hb lr
      have QCN := QC.later hb lq
      have ECN := EC.later hb le
      have OPN := own_later OP hb
      have lrN := Nat.lt_of_lt_of_le lr hb.size
      have lqN := Nat.lt_of_lt_of_le lq hb.size
      have leN := Nat.lt_of_lt_of_le le hb.size
      have BCN := BC.trans (hb.mono BC.size)
      clear RR QC EC OP lr lq le BC hb
      have RR := RRN
      have QC := QCN
      have EC := ECN
      have OP := OPN
      have lr := lrN
      have lq := lqN
      have le := leN
      have BC := BCN
      clear RRN QCN ECN OPN lrN lqN leN BCN
      have hk' : (ka && (rk && (d3 && d4))) = false → rtK s key = false := by
        intro h
        cases ka with
        | false => exact HO (Or.inr (Or.inl rfl))
        | true =>
          cases rk with
          | false => exact HO (Or.inr (Or.inr (Or.inl rfl)))
          | true =>
            cases d3 with
            | false => exact HO (Or.inr (Or.inr (Or.inr (Or.inl rfl))))
            | true =>
              cases d4 with
              | false => exact HO (Or.inr (Or.inr (Or.inr (Or.inr (Or.inl rfl)))))
              | true => cases h
      have hnb : nb = true := by
        cases nb with
        | true => rfl
        | false => have := HN rfl; cases this
      subst hnb
      clear HN
      cases ka with
      | false =>
        have hk := hk' rfl
        clear HY HV HO hk' OP OV AP QC EC
        have FG := show Hid _ from RR.fill8 BC (Nat.le_refl _) (.int .i64 0) (.int .i64 0) (.int .i64 0) (.int .i64 0) (.int .i64 0) (.int .i64 0) (.slice none 0 0) (.slice none 0 0)
        have r0 := RR.at 0 rfl
        have g0 := RR.fz 0 rfl
        have r1 := RR.at 1 rfl
        have g1 := RR.fz 1 rfl
        have r2 := RR.at 2 rfl
        have g2 := RR.fz 2 rfl
        have r3 := RR.at 3 rfl
        have g3 := RR.fz 3 rfl
        have r4 := RR.at 4 rfl
        have g4 := RR.fz 4 rfl
        have r5 := RR.at 5 rfl
        have g5 := RR.fz 5 rfl
        have r6 := RR.at 6 rfl
        have g6 := RR.fz 6 rfl
        have r7 := RR.at 7 rfl
        have g7 := RR.fz 7 rfl
        clear RR BC
        go_wp2
        have G := FG.out
        refine bodyPost_ret (res_tb rfl _ _ w.heap.size _ _ _ _ _ _ _ _ (.bool false) rfl rfl (G.1.at 0 rfl) (G.1.at 1 rfl) (G.1.at 2 rfl) (G.1.at 3 rfl) (G.1.at 4 rfl) (G.1.at 5 rfl) (G.1.at 6 rfl) (G.1.at 7 rfl)) rfl ⟨none, 0, none, 0, ?_, ?_, ?_, ?_, G.2⟩
        · rw [rtN_no hk, rtN_no hk, rtN_no hk, rtN_no hk, rtN_no hk, rtN_no hk, rtP_no hk, rtV_no hk, hk]; rfl
        · rw [rtP_no hk]; exact World.ownsRow_nil _ _ _ _
        · rw [rtV_no hk]; exact World.ownsRow_nil _ _ _ _
        · rw [rtP_no hk]; exact apart_nil _
      | true =>
        cases rk with
        | false =>
          have hk := hk' rfl
          clear HY HV HO hk' OP OV AP QC EC
          have FG := show Hid _ from RR.fill8 BC (Nat.le_refl _) (.int .i64 0) (.int .i64 0) (.int .i64 0) (.int .i64 0) (.int .i64 0) (.int .i64 0) (.slice none 0 0) (.slice none 0 0)
          have r0 := RR.at 0 rfl
          have g0 := RR.fz 0 rfl
          have r1 := RR.at 1 rfl
          have g1 := RR.fz 1 rfl
          have r2 := RR.at 2 rfl
          have g2 := RR.fz 2 rfl
          have r3 := RR.at 3 rfl
          have g3 := RR.fz 3 rfl
          have r4 := RR.at 4 rfl
          have g4 := RR.fz 4 rfl
          have r5 := RR.at 5 rfl
          have g5 := RR.fz 5 rfl
          have r6 := RR.at 6 rfl
          have g6 := RR.fz 6 rfl
          have r7 := RR.at 7 rfl
          have g7 := RR.fz 7 rfl
          clear RR BC
          go_wp2
          have G := FG.out
          refine bodyPost_ret (res_tb rfl _ _ w.heap.size _ _ _ _ _ _ _ _ (.bool false) rfl rfl (G.1.at 0 rfl) (G.1.at 1 rfl) (G.1.at 2 rfl) (G.1.at 3 rfl) (G.1.at 4 rfl) (G.1.at 5 rfl) (G.1.at 6 rfl) (G.1.at 7 rfl)) rfl ⟨none, 0, none, 0, ?_, ?_, ?_, ?_, G.2⟩
          · rw [rtN_no hk, rtN_no hk, rtN_no hk, rtN_no hk, rtN_no hk, rtN_no hk, rtP_no hk, rtV_no hk, hk]; rfl
          · rw [rtP_no hk]; exact World.ownsRow_nil _ _ _ _
          · rw [rtV_no hk]; exact World.ownsRow_nil _ _ _ _
          · rw [rtP_no hk]; exact apart_nil _
        | true =>
          cases d3 with
          | false =>
            have hk := hk' rfl
            clear HY HV HO hk' OP OV AP QC EC
            have FG := show Hid _ from RR.fill8 BC (Nat.le_refl _) (.int .i64 0) (.int .i64 0) (.int .i64 0) (.int .i64 0) (.int .i64 0) (.int .i64 0) (.slice none 0 0) (.slice none 0 0)
            have r0 := RR.at 0 rfl
            have g0 := RR.fz 0 rfl
            have r1 := RR.at 1 rfl
            have g1 := RR.fz 1 rfl
            have r2 := RR.at 2 rfl
            have g2 := RR.fz 2 rfl
            have r3 := RR.at 3 rfl
            have g3 := RR.fz 3 rfl
            have r4 := RR.at 4 rfl
            have g4 := RR.fz 4 rfl
            have r5 := RR.at 5 rfl
            have g5 := RR.fz 5 rfl
            have r6 := RR.at 6 rfl
            have g6 := RR.fz 6 rfl
            have r7 := RR.at 7 rfl
            have g7 := RR.fz 7 rfl
            clear RR BC
            go_wp2
            have G := FG.out
            refine bodyPost_ret (res_tb rfl _ _ w.heap.size _ _ _ _ _ _ _ _ (.bool false) rfl rfl (G.1.at 0 rfl) (G.1.at 1 rfl) (G.1.at 2 rfl) (G.1.at 3 rfl) (G.1.at 4 rfl) (G.1.at 5 rfl) (G.1.at 6 rfl) (G.1.at 7 rfl)) rfl ⟨none, 0, none, 0, ?_, ?_, ?_, ?_, G.2⟩
            · rw [rtN_no hk, rtN_no hk, rtN_no hk, rtN_no hk, rtN_no hk, rtN_no hk, rtP_no hk, rtV_no hk, hk]; rfl
            · rw [rtP_no hk]; exact World.ownsRow_nil _ _ _ _
            · rw [rtV_no hk]; exact World.ownsRow_nil _ _ _ _
            · rw [rtP_no hk]; exact apart_nil _
          | true =>
            cases d4 with
            | false =>
              have hk := hk' rfl
              clear HY HV HO hk' OP OV AP QC EC
              have FG := show Hid _ from RR.fill8 BC (Nat.le_refl _) (.int .i64 0) (.int .i64 0) (.int .i64 0) (.int .i64 0) (.int .i64 0) (.int .i64 0) (.slice none 0 0) (.slice none 0 0)
              have r0 := RR.at 0 rfl
              have g0 := RR.fz 0 rfl
              have r1 := RR.at 1 rfl
              have g1 := RR.fz 1 rfl
              have r2 := RR.at 2 rfl
              have g2 := RR.fz 2 rfl
              have r3 := RR.at 3 rfl
              have g3 := RR.fz 3 rfl
              have r4 := RR.at 4 rfl
              have g4 := RR.fz 4 rfl
              have r5 := RR.at 5 rfl
              have g5 := RR.fz 5 rfl
              have r6 := RR.at 6 rfl
              have g6 := RR.fz 6 rfl
              have r7 := RR.at 7 rfl
              have g7 := RR.fz 7 rfl
              clear RR BC
              go_wp2
              have G := FG.out
              refine bodyPost_ret (res_tb rfl _ _ w.heap.size _ _ _ _ _ _ _ _ (.bool false) rfl rfl (G.1.at 0 rfl) (G.1.at 1 rfl) (G.1.at 2 rfl) (G.1.at 3 rfl) (G.1.at 4 rfl) (G.1.at 5 rfl) (G.1.at 6 rfl) (G.1.at 7 rfl)) rfl ⟨none, 0, none, 0, ?_, ?_, ?_, ?_, G.2⟩
              · rw [rtN_no hk, rtN_no hk, rtN_no hk, rtN_no hk, rtN_no hk, rtN_no hk, rtP_no hk, rtV_no hk, hk]; rfl
              · rw [rtP_no hk]; exact World.ownsRow_nil _ _ _ _
              · rw [rtV_no hk]; exact World.ownsRow_nil _ _ _ _
              · rw [rtP_no hk]; exact apart_nil _
            | true =>
            clear hk'
            obtain ⟨W11, hW11⟩ : ∃ W11, (w10.alloc (.cells #[.int .i64 c, .int .i64 sv, .int .i64 kv, .int .i64 ra, .int .i64 rb, .int .i64 rc, .slice ua PL.length uc, .slice va VL.length vc] 31)).drew = W11 := ⟨_, rfl⟩
            have X11 : Below w10.heap.size w10 W11 := by rw [← hW11]; exact ((Below.refl _ _).alloc (Nat.le_refl _) _).drew
            have R8 := RR.later X11 lr
            have Q8 := QC.later X11 lq
            have E8 := EC.later X11 le
            have D8 : Blk w10.heap.size [.int .i64 c, .int .i64 sv, .int .i64 kv, .int .i64 ra, .int .i64 rb, .int .i64 rc, .slice ua PL.length uc, .slice va VL.length vc] W11 := by rw [← hW11]; exact (Blk.new w10 #[.int .i64 c, .int .i64 sv, .int .i64 kv, .int .i64 ra, .int .i64 rb, .int .i64 rc, .slice ua PL.length uc, .slice va VL.length vc] _).drew
            have O8 := own_later OP X11
            have V8 := own_later OV X11
            have B8 := BC.trans (X11.mono BC.size)
            have l8 : w.heap.size < W11.heap.size := Nat.lt_of_lt_of_le lr X11.size
            have n8 : w.heap.size < w10.heap.size := lr
            have Z8 : Hid (w10.heap.size < W11.heap.size) := by show _ < _; rw [← hW11]; simp
            generalize hg9 : w7.heap.size = g9 at EC le E8
            go_wp2_with fail
            try rw [hg9]
            refine wp_region_held_drew (S := (fun Vw => Blk g5 [.int .i64 c, .int .i64 sv] Vw ∧ Blk g9 [.int .i64 ra, .int .i64 rb, .int .i64 rc] Vw)) (by kernel_rfl) ⟨QC.drew, EC.drew⟩ (fun hHeld => ?_)
            refine take_one 0 95 (v := ?_) rfl rfl (by kernel_rfl) (by kernel_rfl) (by kernel_rfl) (fun _ _ _ h => h) (Or.inl ⟨by rfl, ?_⟩) hHeld ?_
            rotate_left
            · intro w' hSw; (try dsimp only at hSw); have d0 := hSw.1.at 0 rfl; have d1 := hSw.1.at 1 rfl; have e0 := hSw.2.at 0 rfl; have e1 := hSw.2.at 1 rfl; have e2 := hSw.2.at 2 rfl; go_simp; try with_reducible rfl
            try simp only [Act.put, List.setIfInBounds_toArray, List.set_cons_zero, List.set_cons_succ]
            refine take_one 1 96 (v := ?_) rfl rfl (by kernel_rfl) (by kernel_rfl) (by kernel_rfl) (fun _ _ _ h => h) (Or.inl ⟨by rfl, ?_⟩) hHeld ?_
            rotate_left
            · intro w' hSw; (try dsimp only at hSw); have d0 := hSw.1.at 0 rfl; have d1 := hSw.1.at 1 rfl; have e0 := hSw.2.at 0 rfl; have e1 := hSw.2.at 1 rfl; have e2 := hSw.2.at 2 rfl; go_simp; try with_reducible rfl
            try simp only [Act.put, List.setIfInBounds_toArray, List.set_cons_zero, List.set_cons_succ]
            refine take_one 2 97 (v := ?_) rfl rfl (by kernel_rfl) (by kernel_rfl) (by kernel_rfl) (fun _ _ _ h => h) (Or.inl ⟨by rfl, ?_⟩) hHeld ?_
            rotate_left
            · intro w' hSw; (try dsimp only at hSw); have d0 := hSw.1.at 0 rfl; have d1 := hSw.1.at 1 rfl; have e0 := hSw.2.at 0 rfl; have e1 := hSw.2.at 1 rfl; have e2 := hSw.2.at 2 rfl; go_simp; try with_reducible rfl
            try simp only [Act.put, List.setIfInBounds_toArray, List.set_cons_zero, List.set_cons_succ]
            refine take_one 3 98 (v := ?_) rfl rfl (by kernel_rfl) (by kernel_rfl) (by kernel_rfl) (fun _ _ _ h => h) (Or.inl ⟨by rfl, ?_⟩) hHeld ?_
            rotate_left
            · intro w' hSw; (try dsimp only at hSw); have d0 := hSw.1.at 0 rfl; have d1 := hSw.1.at 1 rfl; have e0 := hSw.2.at 0 rfl; have e1 := hSw.2.at 1 rfl; have e2 := hSw.2.at 2 rfl; go_simp; try with_reducible rfl
            try simp only [Act.put, List.setIfInBounds_toArray, List.set_cons_zero, List.set_cons_succ]
            refine take_one 4 99 (v := ?_) rfl rfl (by kernel_rfl) (by kernel_rfl) (by kernel_rfl) (fun _ _ _ h => h) (Or.inl ⟨by rfl, ?_⟩) hHeld ?_
            rotate_left
            · intro w' hSw; (try dsimp only at hSw); have d0 := hSw.1.at 0 rfl; have d1 := hSw.1.at 1 rfl; have e0 := hSw.2.at 0 rfl; have e1 := hSw.2.at 1 rfl; have e2 := hSw.2.at 2 rfl; go_simp; try with_reducible rfl
            try simp only [Act.put, List.setIfInBounds_toArray, List.set_cons_zero, List.set_cons_succ]
            refine take_one 5 100 (v := ?_) rfl rfl (by kernel_rfl) (by kernel_rfl) (by kernel_rfl) (fun _ _ _ h => h) (Or.inl ⟨by rfl, ?_⟩) hHeld ?_
            rotate_left
            · intro w' hSw; (try dsimp only at hSw); have d0 := hSw.1.at 0 rfl; have d1 := hSw.1.at 1 rfl; have e0 := hSw.2.at 0 rfl; have e1 := hSw.2.at 1 rfl; have e2 := hSw.2.at 2 rfl; go_simp; try with_reducible rfl
            try simp only [Act.put, List.setIfInBounds_toArray, List.set_cons_zero, List.set_cons_succ]
            refine take_one 6 101 (v := ?_) rfl rfl (by kernel_rfl) (by kernel_rfl) (by kernel_rfl) (fun _ _ _ h => h) (Or.inl ⟨by rfl, ?_⟩) hHeld ?_
            rotate_left
            · intro w' hSw; (try dsimp only at hSw); have d0 := hSw.1.at 0 rfl; have d1 := hSw.1.at 1 rfl; have e0 := hSw.2.at 0 rfl; have e1 := hSw.2.at 1 rfl; have e2 := hSw.2.at 2 rfl; go_simp; try with_reducible rfl
            try simp only [Act.put, List.setIfInBounds_toArray, List.set_cons_zero, List.set_cons_succ]
            refine take_one 7 102 (v := ?_) rfl rfl (by kernel_rfl) (by kernel_rfl) (by kernel_rfl) (fun _ _ _ h => h) (Or.inl ⟨by rfl, ?_⟩) hHeld ?_
            rotate_left
            · intro w' hSw; (try dsimp only at hSw); have d0 := hSw.1.at 0 rfl; have d1 := hSw.1.at 1 rfl; have e0 := hSw.2.at 0 rfl; have e1 := hSw.2.at 1 rfl; have e2 := hSw.2.at 2 rfl; go_simp; try with_reducible rfl
            try simp only [Act.put, List.setIfInBounds_toArray, List.set_cons_zero, List.set_cons_succ]
            refine take_one 8 103 (v := ?_) rfl rfl (by kernel_rfl) (by kernel_rfl) (by kernel_rfl) (fun _ _ _ h => h) (Or.inl ⟨by rfl, ?_⟩) hHeld ?_
            rotate_left
            · intro w' hSw; (try dsimp only at hSw); have d0 := hSw.1.at 0 rfl; have d1 := hSw.1.at 1 rfl; have e0 := hSw.2.at 0 rfl; have e1 := hSw.2.at 1 rfl; have e2 := hSw.2.at 2 rfl; go_simp; try with_reducible rfl
            try simp only [Act.put, List.setIfInBounds_toArray, List.set_cons_zero, List.set_cons_succ]
            refine take_one 9 104 (v := ?_) rfl rfl (by kernel_rfl) (by kernel_rfl) (by kernel_rfl) (fun _ _ _ h => h) (Or.inl ⟨by rfl, ?_⟩) hHeld ?_
            rotate_left
            · intro w' hSw; (try dsimp only at hSw); have d0 := hSw.1.at 0 rfl; have d1 := hSw.1.at 1 rfl; have e0 := hSw.2.at 0 rfl; have e1 := hSw.2.at 1 rfl; have e2 := hSw.2.at 2 rfl; go_simp; try with_reducible rfl
            try simp only [Act.put, List.setIfInBounds_toArray, List.set_cons_zero, List.set_cons_succ]
            refine take_one 10 105 (v := ?_) rfl rfl (by kernel_rfl) (by kernel_rfl) (by kernel_rfl) (fun _ _ _ h => h) (Or.inl ⟨by rfl, ?_⟩) hHeld ?_
            rotate_left
            · intro w' hSw; (try dsimp only at hSw); have d0 := hSw.1.at 0 rfl; have d1 := hSw.1.at 1 rfl; have e0 := hSw.2.at 0 rfl; have e1 := hSw.2.at 1 rfl; have e2 := hSw.2.at 2 rfl; go_simp; try with_reducible rfl
            try simp only [Act.put, List.setIfInBounds_toArray, List.set_cons_zero, List.set_cons_succ]
            refine wpAnyH_ready (rs := [11]) (by kernel_rfl) (by simp) ?_
            refine AllReadyH.cons (i := 11) rfl (fun K hK => ?_) AllReadyH.nil
            go_simp
            refine hK.out _ _ ⟨(QC.drew.alloc (by simpa using lq) _), (EC.drew.alloc (by simpa using le) _)⟩ (fun hHeld2 => ?_)
            clear hK K hHeld
            have hHeld := hHeld2
            clear hHeld2
            try simp only [Act.put, List.setIfInBounds_toArray, List.set_cons_zero, List.set_cons_succ]
            refine wpAnyH_ready (rs := [12]) (by kernel_rfl) (by simp) ?_
            refine AllReadyH.cons (i := 12) rfl (fun K hK => ?_) AllReadyH.nil
            go_simp
            refine hK.out _ _ ⟨Q8, E8⟩ (fun hHeld2 => ?_)
            clear hK K hHeld
            have hHeld := hHeld2
            clear hHeld2
            try simp only [Act.put, List.setIfInBounds_toArray, List.set_cons_zero, List.set_cons_succ]
            refine wpAnyH_done (by kernel_rfl) ?_ _
            try rw [hW11]
            clear hHeld hW11 QC EC Q8 E8 RR BC OP OV X11 le lq lr
            have e0 := D8.at 0 rfl
            have e1 := D8.at 1 rfl
            have e2 := D8.at 2 rfl
            have e3 := D8.at 3 rfl
            have e4 := D8.at 4 rfl
            have e5 := D8.at 5 rfl
            have e6 := D8.at 6 rfl
            have e7 := D8.at 7 rfl
            have HA := spec_ticketOk c sv kv ra rb rc ua PL uc va VL vc W11 (own_rowAt (f := Value.int .i64) O8) (own_rowAt (f := Value.int .i64) V8) lP lV
            go_wp2_with fail
            refine HA.mono ?_
            rintro en w12 ⟨rfl, hb⟩
            clear e0 e1 e2 e3 e4 e5 e6 e7 HA
            have DC := D8.later hb Z8.out
            have RR := R8.later hb l8
            have BC := B8.trans (hb.mono B8.size)
            have OP := own_later O8 hb
            have OV := own_later V8 hb
            have NH : Hid (w.heap.size < w10.heap.size) := n8
            clear D8 R8 B8 O8 V8 hb Z8 l8 n8
            have e0 := DC.at 0 rfl
            have e1 := DC.at 1 rfl
            have e2 := DC.at 2 rfl
            have e3 := DC.at 3 rfl
            have e4 := DC.at 4 rfl
            have e5 := DC.at 5 rfl
            have e6 := DC.at 6 rfl
            have e7 := DC.at 7 rfl
            by_cases h0 : tOk c sv kv ra rb rc PL VL = true
            · have hk := HY (by trivial) (by trivial) (by trivial) (by trivial) (by trivial) c sv rfl h0
              obtain ⟨y0, y1, y2, y3, y4, y5, yP, yV⟩ := HV c sv rfl hk
              clear HY HV HO
              rw [h0]
              have FG := show Hid _ from RR.fill8 BC (Nat.le_refl _) (.int .i64 c) (.int .i64 sv) (.int .i64 kv) (.int .i64 ra) (.int .i64 rb) (.int .i64 rc) (.slice ua PL.length uc) (.slice va VL.length vc)
              have nP : ∀ k, (.slice ua PL.length uc : Value).ownBlock = some k → k ≠ w.heap.size := NP
              have FU := show Hid _ from own_fill8 (q := w.heap.size) OP nP (.int .i64 c) (.int .i64 sv) (.int .i64 kv) (.int .i64 ra) (.int .i64 rb) (.int .i64 rc) (.slice ua PL.length uc) (.slice va VL.length vc)
              have FV := show Hid _ from own_fill8 (q := w.heap.size) OV NV (.int .i64 c) (.int .i64 sv) (.int .i64 kv) (.int .i64 ra) (.int .i64 rb) (.int .i64 rc) (.slice ua PL.length uc) (.slice va VL.length vc)
              have r0 := RR.at 0 rfl
              have g0 := RR.fz 0 rfl
              have r1 := RR.at 1 rfl
              have g1 := RR.fz 1 rfl
              have r2 := RR.at 2 rfl
              have g2 := RR.fz 2 rfl
              have r3 := RR.at 3 rfl
              have g3 := RR.fz 3 rfl
              have r4 := RR.at 4 rfl
              have g4 := RR.fz 4 rfl
              have r5 := RR.at 5 rfl
              have g5 := RR.fz 5 rfl
              have r6 := RR.at 6 rfl
              have g6 := RR.fz 6 rfl
              have r7 := RR.at 7 rfl
              have g7 := RR.fz 7 rfl
              clear RR BC OP OV DC
              go_wp2
              have G := FG.out
              refine bodyPost_ret (res_tb rfl _ _ w.heap.size _ _ _ _ _ _ _ _ (.bool true) rfl rfl (G.1.at 0 rfl) (G.1.at 1 rfl) (G.1.at 2 rfl) (G.1.at 3 rfl) (G.1.at 4 rfl) (G.1.at 5 rfl) (G.1.at 6 rfl) (G.1.at 7 rfl)) rfl ⟨ua, uc, va, vc, ?_, ?_, ?_, ?_, G.2⟩
              · rw [y0, y1, y2, y3, y4, y5, yP, yV, hk]
              · rw [yP]; exact FU.out
              · rw [yV]; exact FV.out
              · rw [yP, yV]; exact AP
            · rw [Bool.not_eq_true] at h0
              have hk := HO (Or.inr (Or.inr (Or.inr (Or.inr (Or.inr (Or.inr ⟨c, sv, rfl, h0⟩))))))
              clear HY HV HO OP OV AP DC
              rw [h0]
              have FG := show Hid _ from RR.fill8 BC (Nat.le_refl _) (.int .i64 0) (.int .i64 0) (.int .i64 0) (.int .i64 0) (.int .i64 0) (.int .i64 0) (.slice none 0 0) (.slice none 0 0)
              have r0 := RR.at 0 rfl
              have g0 := RR.fz 0 rfl
              have r1 := RR.at 1 rfl
              have g1 := RR.fz 1 rfl
              have r2 := RR.at 2 rfl
              have g2 := RR.fz 2 rfl
              have r3 := RR.at 3 rfl
              have g3 := RR.fz 3 rfl
              have r4 := RR.at 4 rfl
              have g4 := RR.fz 4 rfl
              have r5 := RR.at 5 rfl
              have g5 := RR.fz 5 rfl
              have r6 := RR.at 6 rfl
              have g6 := RR.fz 6 rfl
              have r7 := RR.at 7 rfl
              have g7 := RR.fz 7 rfl
              clear RR BC
              go_wp2
              have G := FG.out
              refine bodyPost_ret (res_tb rfl _ _ w.heap.size _ _ _ _ _ _ _ _ (.bool false) rfl rfl (G.1.at 0 rfl) (G.1.at 1 rfl) (G.1.at 2 rfl) (G.1.at 3 rfl) (G.1.at 4 rfl) (G.1.at 5 rfl) (G.1.at 6 rfl) (G.1.at 7 rfl)) rfl ⟨none, 0, none, 0, ?_, ?_, ?_, ?_, G.2⟩
              · rw [rtN_no hk, rtN_no hk, rtN_no hk, rtN_no hk, rtN_no hk, rtN_no hk, rtP_no hk, rtV_no hk, hk]; rfl
              · rw [rtP_no hk]; exact World.ownsRow_nil _ _ _ _
              · rw [rtV_no hk]; exact World.ownsRow_nil _ _ _ _
              · rw [rtP_no hk]; exact apart_nil _
    · have hk := HO (Or.inr (Or.inr (Or.inr (Or.inr (Or.inr (Or.inl h2))))))
      obtain ⟨a, cap, rfl, _, _⟩ := own_row (f := Value.int .i64) ho
      have h2' : ((NL.length : Int) == 2) = false := by simp; omega
      clear ho HN HY HV HO
      have q0 := XC.at 1 rfl
      go_wp2_with fail
      refine (HK _).mono ?_
      rintro en w6 ⟨rfl, hb⟩
      clear q0 HK
      have RRN := RR.later hb lr
      have XCN := XC.later hb lx
      have lrN := Nat.lt_of_lt_of_le lr hb.size
      have lxN := Nat.lt_of_lt_of_le lx hb.size
      have BCN := BC.trans (hb.mono BC.size)
      clear RR XC lr lx BC hb
      have RR := RRN
      have XC := XCN
      have lr := lrN
      have lx := lxN
      have BC := BCN
      clear RRN XCN lrN lxN BCN
      have q0 := XC.at 2 rfl
      go_wp2_with fail
      refine (HR _).mono ?_
      rintro en w7 ⟨rfl, hb⟩
      clear q0 HR
      have RRN := RR.later hb lr
      have XCN := XC.later hb lx
      have lrN := Nat.lt_of_lt_of_le lr hb.size
      have lxN := Nat.lt_of_lt_of_le lx hb.size
      have BCN := BC.trans (hb.mono BC.size)
      clear RR XC lr lx BC hb
      have RR := RRN
      have XC := XCN
      have lr := lrN
      have lx := lxN
      have BC := BCN
      clear RRN XCN lrN lxN BCN
      obtain ⟨W8, hW8⟩ : ∃ W8, w7.alloc (.cells #[.int .i64 ra, .int .i64 rb, .int .i64 rc] 29) = W8 := ⟨_, rfl⟩
      have RRN : Blk w.heap.size [.int .i64 0, .int .i64 0, .int .i64 0, .int .i64 0, .int .i64 0, .int .i64 0, .slice none 0 0, .slice none 0 0] W8 := by rw [← hW8]; exact RR.alloc lr _
      have XCN : Blk gp [.string x0, .string x1, .string x2, .string x3, .string x4] W8 := by rw [← hW8]; exact XC.alloc lx _
      have EC : Blk w7.heap.size [.int .i64 ra, .int .i64 rb, .int .i64 rc] W8 := by rw [← hW8]; exact Blk.new w7 _ _
      have BCN : Below w.heap.size w W8 := by rw [← hW8]; exact BC.alloc BC.size _
      have le : w7.heap.size < W8.heap.size := by rw [← hW8]; simp
      have lrN := Nat.lt_trans lr le
      have lxN := Nat.lt_trans lx le
      clear RR XC BC lr lx
      have RR := RRN
      have XC := XCN
      have BC := BCN
      have lr := lrN
      have lx := lxN
      clear RRN XCN BCN lrN lxN
      have q0 := XC.at 3 rfl
      go_wp2_with fail
      try rw [hW8]
      refine (H3 _).mono ?_
      clear hW8
      rintro en w9 ⟨u, rfl, OU, hb⟩
      clear q0 H3
      obtain ⟨ua, uc, rfl, _, _⟩ := own_row (f := Value.int .i64) OU
      have mu := own_in OU
      have MU : w.heap.size ≤ W8.heap.size := Nat.le_of_lt lr
      have OP := ownsRow_le OU MU
      have NP : ∀ k, (.slice ua PL.length uc : Value).ownBlock = some k → k ≠ w.heap.size := fun k h => by have := (mu k h).1; omega
      clear OU MU
      have RRN := RR.later hb lr
      have XCN := XC.later hb lx
      have ECN := EC.later hb le
      have lrN := Nat.lt_of_lt_of_le lr hb.size
      have lxN := Nat.lt_of_lt_of_le lx hb.size
      have leN := Nat.lt_of_lt_of_le le hb.size
      have BCN := BC.trans (hb.mono BC.size)
      clear RR XC EC lr lx le BC hb
      have RR := RRN
      have XC := XCN
      have EC := ECN
      have lr := lrN
      have lx := lxN
      have le := leN
      have BC := BCN
      clear RRN XCN ECN lrN lxN leN BCN
      have lu : ∀ k, (.slice ua PL.length uc : Value).ownBlock = some k → k < w9.heap.size := fun k h => (mu k h).2
      clear mu
      have q0 := XC.at 4 rfl
      go_wp2_with fail
      refine (H4 _).mono ?_
      rintro en w10 ⟨u, rfl, OU, hb⟩
      clear q0 H4
      obtain ⟨va, vc, rfl, _, _⟩ := own_row (f := Value.int .i64) OU
      have AP : Apart (.slice ua PL.length uc) (.slice va VL.length vc) := apart_of lu (fun k h => (own_in OU k h).1)
      have MU : w.heap.size ≤ w9.heap.size := Nat.le_of_lt lr
      have OV := ownsRow_le OU MU
      have NV : ∀ k, (.slice va VL.length vc : Value).ownBlock = some k → k ≠ w.heap.size := fun k h => by have := (own_in OU k h).1; omega
      clear OU MU lu
      have RRN := RR.later hb lr
      have ECN := EC.later hb le
      have OPN := own_later OP hb
      have lrN := Nat.lt_of_lt_of_le lr hb.size
      have leN := Nat.lt_of_lt_of_le le hb.size
      have BCN := BC.trans (hb.mono BC.size)
      clear RR EC OP lr le BC hb
      have RR := RRN
      have EC := ECN
      have OP := OPN
      have lr := lrN
      have le := leN
      have BC := BCN
      clear RRN ECN OPN lrN leN BCN
      clear OP OV AP EC
      cases nb with
      | false =>
        have FG := show Hid _ from RR.fill8 BC (Nat.le_refl _) (.int .i64 0) (.int .i64 0) (.int .i64 0) (.int .i64 0) (.int .i64 0) (.int .i64 0) (.slice none 0 0) (.slice none 0 0)
        have r0 := RR.at 0 rfl
        have g0 := RR.fz 0 rfl
        have r1 := RR.at 1 rfl
        have g1 := RR.fz 1 rfl
        have r2 := RR.at 2 rfl
        have g2 := RR.fz 2 rfl
        have r3 := RR.at 3 rfl
        have g3 := RR.fz 3 rfl
        have r4 := RR.at 4 rfl
        have g4 := RR.fz 4 rfl
        have r5 := RR.at 5 rfl
        have g5 := RR.fz 5 rfl
        have r6 := RR.at 6 rfl
        have g6 := RR.fz 6 rfl
        have r7 := RR.at 7 rfl
        have g7 := RR.fz 7 rfl
        clear RR BC
        go_wp2
        have G := FG.out
        refine bodyPost_ret (res_tb rfl _ _ w.heap.size _ _ _ _ _ _ _ _ (.bool false) rfl rfl (G.1.at 0 rfl) (G.1.at 1 rfl) (G.1.at 2 rfl) (G.1.at 3 rfl) (G.1.at 4 rfl) (G.1.at 5 rfl) (G.1.at 6 rfl) (G.1.at 7 rfl)) rfl ⟨none, 0, none, 0, ?_, ?_, ?_, ?_, G.2⟩
        · rw [rtN_no hk, rtN_no hk, rtN_no hk, rtN_no hk, rtN_no hk, rtN_no hk, rtP_no hk, rtV_no hk, hk]; rfl
        · rw [rtP_no hk]; exact World.ownsRow_nil _ _ _ _
        · rw [rtV_no hk]; exact World.ownsRow_nil _ _ _ _
        · rw [rtP_no hk]; exact apart_nil _
      | true =>
        cases ka with
        | false =>
          have FG := show Hid _ from RR.fill8 BC (Nat.le_refl _) (.int .i64 0) (.int .i64 0) (.int .i64 0) (.int .i64 0) (.int .i64 0) (.int .i64 0) (.slice none 0 0) (.slice none 0 0)
          have r0 := RR.at 0 rfl
          have g0 := RR.fz 0 rfl
          have r1 := RR.at 1 rfl
          have g1 := RR.fz 1 rfl
          have r2 := RR.at 2 rfl
          have g2 := RR.fz 2 rfl
          have r3 := RR.at 3 rfl
          have g3 := RR.fz 3 rfl
          have r4 := RR.at 4 rfl
          have g4 := RR.fz 4 rfl
          have r5 := RR.at 5 rfl
          have g5 := RR.fz 5 rfl
          have r6 := RR.at 6 rfl
          have g6 := RR.fz 6 rfl
          have r7 := RR.at 7 rfl
          have g7 := RR.fz 7 rfl
          clear RR BC
          go_wp2
          have G := FG.out
          refine bodyPost_ret (res_tb rfl _ _ w.heap.size _ _ _ _ _ _ _ _ (.bool false) rfl rfl (G.1.at 0 rfl) (G.1.at 1 rfl) (G.1.at 2 rfl) (G.1.at 3 rfl) (G.1.at 4 rfl) (G.1.at 5 rfl) (G.1.at 6 rfl) (G.1.at 7 rfl)) rfl ⟨none, 0, none, 0, ?_, ?_, ?_, ?_, G.2⟩
          · rw [rtN_no hk, rtN_no hk, rtN_no hk, rtN_no hk, rtN_no hk, rtN_no hk, rtP_no hk, rtV_no hk, hk]; rfl
          · rw [rtP_no hk]; exact World.ownsRow_nil _ _ _ _
          · rw [rtV_no hk]; exact World.ownsRow_nil _ _ _ _
          · rw [rtP_no hk]; exact apart_nil _
        | true =>
          cases rk with
          | false =>
            have FG := show Hid _ from RR.fill8 BC (Nat.le_refl _) (.int .i64 0) (.int .i64 0) (.int .i64 0) (.int .i64 0) (.int .i64 0) (.int .i64 0) (.slice none 0 0) (.slice none 0 0)
            have r0 := RR.at 0 rfl
            have g0 := RR.fz 0 rfl
            have r1 := RR.at 1 rfl
            have g1 := RR.fz 1 rfl
            have r2 := RR.at 2 rfl
            have g2 := RR.fz 2 rfl
            have r3 := RR.at 3 rfl
            have g3 := RR.fz 3 rfl
            have r4 := RR.at 4 rfl
            have g4 := RR.fz 4 rfl
            have r5 := RR.at 5 rfl
            have g5 := RR.fz 5 rfl
            have r6 := RR.at 6 rfl
            have g6 := RR.fz 6 rfl
            have r7 := RR.at 7 rfl
            have g7 := RR.fz 7 rfl
            clear RR BC
            go_wp2
            have G := FG.out
            refine bodyPost_ret (res_tb rfl _ _ w.heap.size _ _ _ _ _ _ _ _ (.bool false) rfl rfl (G.1.at 0 rfl) (G.1.at 1 rfl) (G.1.at 2 rfl) (G.1.at 3 rfl) (G.1.at 4 rfl) (G.1.at 5 rfl) (G.1.at 6 rfl) (G.1.at 7 rfl)) rfl ⟨none, 0, none, 0, ?_, ?_, ?_, ?_, G.2⟩
            · rw [rtN_no hk, rtN_no hk, rtN_no hk, rtN_no hk, rtN_no hk, rtN_no hk, rtP_no hk, rtV_no hk, hk]; rfl
            · rw [rtP_no hk]; exact World.ownsRow_nil _ _ _ _
            · rw [rtV_no hk]; exact World.ownsRow_nil _ _ _ _
            · rw [rtP_no hk]; exact apart_nil _
          | true =>
            cases d3 with
            | false =>
              have FG := show Hid _ from RR.fill8 BC (Nat.le_refl _) (.int .i64 0) (.int .i64 0) (.int .i64 0) (.int .i64 0) (.int .i64 0) (.int .i64 0) (.slice none 0 0) (.slice none 0 0)
              have r0 := RR.at 0 rfl
              have g0 := RR.fz 0 rfl
              have r1 := RR.at 1 rfl
              have g1 := RR.fz 1 rfl
              have r2 := RR.at 2 rfl
              have g2 := RR.fz 2 rfl
              have r3 := RR.at 3 rfl
              have g3 := RR.fz 3 rfl
              have r4 := RR.at 4 rfl
              have g4 := RR.fz 4 rfl
              have r5 := RR.at 5 rfl
              have g5 := RR.fz 5 rfl
              have r6 := RR.at 6 rfl
              have g6 := RR.fz 6 rfl
              have r7 := RR.at 7 rfl
              have g7 := RR.fz 7 rfl
              clear RR BC
              go_wp2
              have G := FG.out
              refine bodyPost_ret (res_tb rfl _ _ w.heap.size _ _ _ _ _ _ _ _ (.bool false) rfl rfl (G.1.at 0 rfl) (G.1.at 1 rfl) (G.1.at 2 rfl) (G.1.at 3 rfl) (G.1.at 4 rfl) (G.1.at 5 rfl) (G.1.at 6 rfl) (G.1.at 7 rfl)) rfl ⟨none, 0, none, 0, ?_, ?_, ?_, ?_, G.2⟩
              · rw [rtN_no hk, rtN_no hk, rtN_no hk, rtN_no hk, rtN_no hk, rtN_no hk, rtP_no hk, rtV_no hk, hk]; rfl
              · rw [rtP_no hk]; exact World.ownsRow_nil _ _ _ _
              · rw [rtV_no hk]; exact World.ownsRow_nil _ _ _ _
              · rw [rtP_no hk]; exact apart_nil _
            | true =>
              cases d4 with
              | false =>
                have FG := show Hid _ from RR.fill8 BC (Nat.le_refl _) (.int .i64 0) (.int .i64 0) (.int .i64 0) (.int .i64 0) (.int .i64 0) (.int .i64 0) (.slice none 0 0) (.slice none 0 0)
                have r0 := RR.at 0 rfl
                have g0 := RR.fz 0 rfl
                have r1 := RR.at 1 rfl
                have g1 := RR.fz 1 rfl
                have r2 := RR.at 2 rfl
                have g2 := RR.fz 2 rfl
                have r3 := RR.at 3 rfl
                have g3 := RR.fz 3 rfl
                have r4 := RR.at 4 rfl
                have g4 := RR.fz 4 rfl
                have r5 := RR.at 5 rfl
                have g5 := RR.fz 5 rfl
                have r6 := RR.at 6 rfl
                have g6 := RR.fz 6 rfl
                have r7 := RR.at 7 rfl
                have g7 := RR.fz 7 rfl
                clear RR BC
                go_wp2
                have G := FG.out
                refine bodyPost_ret (res_tb rfl _ _ w.heap.size _ _ _ _ _ _ _ _ (.bool false) rfl rfl (G.1.at 0 rfl) (G.1.at 1 rfl) (G.1.at 2 rfl) (G.1.at 3 rfl) (G.1.at 4 rfl) (G.1.at 5 rfl) (G.1.at 6 rfl) (G.1.at 7 rfl)) rfl ⟨none, 0, none, 0, ?_, ?_, ?_, ?_, G.2⟩
                · rw [rtN_no hk, rtN_no hk, rtN_no hk, rtN_no hk, rtN_no hk, rtN_no hk, rtP_no hk, rtV_no hk, hk]; rfl
                · rw [rtP_no hk]; exact World.ownsRow_nil _ _ _ _
                · rw [rtV_no hk]; exact World.ownsRow_nil _ _ _ _
                · rw [rtP_no hk]; exact apart_nil _
              | true =>
                have FG := show Hid _ from RR.fill8 BC (Nat.le_refl _) (.int .i64 0) (.int .i64 0) (.int .i64 0) (.int .i64 0) (.int .i64 0) (.int .i64 0) (.slice none 0 0) (.slice none 0 0)
                have r0 := RR.at 0 rfl
                have g0 := RR.fz 0 rfl
                have r1 := RR.at 1 rfl
                have g1 := RR.fz 1 rfl
                have r2 := RR.at 2 rfl
                have g2 := RR.fz 2 rfl
                have r3 := RR.at 3 rfl
                have g3 := RR.fz 3 rfl
                have r4 := RR.at 4 rfl
                have g4 := RR.fz 4 rfl
                have r5 := RR.at 5 rfl
                have g5 := RR.fz 5 rfl
                have r6 := RR.at 6 rfl
                have g6 := RR.fz 6 rfl
                have r7 := RR.at 7 rfl
                have g7 := RR.fz 7 rfl
                clear RR BC
                go_wp2
                have G := FG.out
                refine bodyPost_ret (res_tb rfl _ _ w.heap.size _ _ _ _ _ _ _ _ (.bool false) rfl rfl (G.1.at 0 rfl) (G.1.at 1 rfl) (G.1.at 2 rfl) (G.1.at 3 rfl) (G.1.at 4 rfl) (G.1.at 5 rfl) (G.1.at 6 rfl) (G.1.at 7 rfl)) rfl ⟨none, 0, none, 0, ?_, ?_, ?_, ?_, G.2⟩
                · rw [rtN_no hk, rtN_no hk, rtN_no hk, rtN_no hk, rtN_no hk, rtN_no hk, rtP_no hk, rtV_no hk, hk]; rfl
                · rw [rtP_no hk]; exact World.ownsRow_nil _ _ _ _
                · rw [rtV_no hk]; exact World.ownsRow_nil _ _ _ _
                · rw [rtP_no hk]; exact apart_nil _
  · have hk := HRG h5
    obtain ⟨a, cap, rfl, _, _⟩ := own_row (f := Value.string) ho
    have h5' : ((XL.length : Int) == 5) = false := by simp; omega
    clear ho
    have FG := show Hid _ from RR.fill8 BC (Nat.le_refl _) (.int .i64 0) (.int .i64 0) (.int .i64 0) (.int .i64 0) (.int .i64 0) (.int .i64 0) (.slice none 0 0) (.slice none 0 0)
    have r0 := RR.at 0 rfl
    have g0 := RR.fz 0 rfl
    have r1 := RR.at 1 rfl
    have g1 := RR.fz 1 rfl
    have r2 := RR.at 2 rfl
    have g2 := RR.fz 2 rfl
    have r3 := RR.at 3 rfl
    have g3 := RR.fz 3 rfl
    have r4 := RR.at 4 rfl
    have g4 := RR.fz 4 rfl
    have r5 := RR.at 5 rfl
    have g5 := RR.fz 5 rfl
    have r6 := RR.at 6 rfl
    have g6 := RR.fz 6 rfl
    have r7 := RR.at 7 rfl
    have g7 := RR.fz 7 rfl
    clear RR BC
    go_wp2
    have G := FG.out
    refine bodyPost_ret (res_tb rfl _ _ w.heap.size _ _ _ _ _ _ _ _ (.bool false) rfl rfl (G.1.at 0 rfl) (G.1.at 1 rfl) (G.1.at 2 rfl) (G.1.at 3 rfl) (G.1.at 4 rfl) (G.1.at 5 rfl) (G.1.at 6 rfl) (G.1.at 7 rfl)) rfl ⟨none, 0, none, 0, ?_, ?_, ?_, ?_, G.2⟩
    · rw [rtN_no hk, rtN_no hk, rtN_no hk, rtN_no hk, rtN_no hk, rtN_no hk, rtP_no hk, rtV_no hk, hk]; rfl
    · rw [rtP_no hk]; exact World.ownsRow_nil _ _ _ _
    · rw [rtV_no hk]; exact World.ownsRow_nil _ _ _ _
    · rw [rtP_no hk]; exact apart_nil _

end Go.Proofs.Ytbkemhclncmicaa

set_option linter.unusedVariables false
namespace Go.Proofs.Ytbkemhclncmicaa
open Go Go.RowKit Own Var Term

set_option maxRecDepth 100000 in
set_option maxHeartbeats 3200000 in
theorem eqTicket_is (c s k a b e : Int) (P V : List Int) (pa pb va vb : Option Addr) (pc pd vc vd : Nat) (w : World) (hp : RowAt (Value.int .i64) w pa P) (hq : RowAt (Value.int .i64) w pb P) (hv : RowAt (Value.int .i64) w va V) (hu : RowAt (Value.int .i64) w vb V) (hpl : P.length ≤ 1048576) (hvl : V.length ≤ 1048576) :
    Calls Try.prog 13 #[.agg #[.int .i64 c, .int .i64 s, .int .i64 k, .int .i64 a, .int .i64 b, .int .i64 e, .slice pa P.length pc, .slice va V.length vc], .agg #[.int .i64 c, .int .i64 s, .int .i64 k, .int .i64 a, .int .i64 b, .int .i64 e, .slice pb P.length pd, .slice vb V.length vd]] w fun en w' => en = .returned (.bool true) ∧ Below w.heap.size w w' := by
  obtain ⟨W2, hW2⟩ : ∃ W2, (w.alloc (.cells #[.int .i64 c, .int .i64 s, .int .i64 k, .int .i64 a, .int .i64 b, .int .i64 e, .slice pa P.length pc, .slice va V.length vc] 31)).alloc (.cells #[.int .i64 c, .int .i64 s, .int .i64 k, .int .i64 a, .int .i64 b, .int .i64 e, .slice pb P.length pd, .slice vb V.length vd] 31) = W2 := ⟨_, rfl⟩
  have B2 : Below w.heap.size w W2 := by rw [← hW2]; exact ((Below.refl _ _).alloc (Nat.le_refl _) _).alloc (by simp) _
  have T2 : Blk w.heap.size [.int .i64 c, .int .i64 s, .int .i64 k, .int .i64 a, .int .i64 b, .int .i64 e, .slice pa P.length pc, .slice va V.length vc] W2 := by rw [← hW2]; exact (Blk.new w #[.int .i64 c, .int .i64 s, .int .i64 k, .int .i64 a, .int .i64 b, .int .i64 e, .slice pa P.length pc, .slice va V.length vc] _).alloc (by simp) _
  have U2 : Blk (w.heap.size + 1) [.int .i64 c, .int .i64 s, .int .i64 k, .int .i64 a, .int .i64 b, .int .i64 e, .slice pb P.length pd, .slice vb V.length vd] W2 := by rw [← hW2]; have := Blk.new (w.alloc (.cells #[.int .i64 c, .int .i64 s, .int .i64 k, .int .i64 a, .int .i64 b, .int .i64 e, .slice pa P.length pc, .slice va V.length vc] 31)) #[.int .i64 c, .int .i64 s, .int .i64 k, .int .i64 a, .int .i64 b, .int .i64 e, .slice pb P.length pd, .slice vb V.length vd] 31; simpa using this
  have Z2 : Hid (w.heap.size + 2 ≤ W2.heap.size) := by show _ ≤ _; rw [← hW2]; simp
  have d0 := T2.at 0 rfl
  have d1 := T2.at 1 rfl
  have d2 := T2.at 2 rfl
  have d3 := T2.at 3 rfl
  have d4 := T2.at 4 rfl
  have d5 := T2.at 5 rfl
  have e0 := U2.at 0 rfl
  have e1 := U2.at 1 rfl
  have e2 := U2.at 2 rfl
  have e3 := U2.at 3 rfl
  have e4 := U2.at 4 rfl
  have e5 := U2.at 5 rfl
  go_enter Try.func13, Try.ntmps13
  go_wp2_with fail
  try rw [hW2]
  refine (eqRest_is a b e _).mono ?_
  clear hW2
  rintro en w3 ⟨rfl, hb3⟩
  have T3 := T2.later hb3 (by have := Z2.out; omega)
  have U3 := U2.later hb3 (by have := Z2.out; omega)
  have Z3 : Hid (w.heap.size + 2 ≤ w3.heap.size) := Nat.le_trans Z2.out hb3.size
  have B3 := B2.trans (hb3.mono B2.size)
  clear d0 e0 d1 e1 d2 e2 d3 e3 d4 e4 d5 e5 T2 U2 B2 hb3 Z2
  have d6 := T3.at 6 rfl
  have e6 := U3.at 6 rfl
  have HE := eqI_is pa pb pc pd P w3 (hp.later B3) (hq.later B3) hpl
  go_wp2_with fail
  refine HE.mono ?_
  rintro en w4 ⟨rfl, hb4⟩
  have T4 := T3.later hb4 (by have := Z3.out; omega)
  have U4 := U3.later hb4 (by have := Z3.out; omega)
  have B4 := B3.trans (hb4.mono B3.size)
  clear d6 e6 T3 U3 B3 hb4 Z3 HE
  have d7 := T4.at 7 rfl
  have e7 := U4.at 7 rfl
  have HE := eqI_is va vb vc vd V w4 (hv.later B4) (hu.later B4) hvl
  go_wp2_with fail
  refine HE.mono ?_
  rintro en w5 ⟨rfl, hb5⟩
  have B5 := B4.trans (hb5.mono B4.size)
  clear d7 e7 T4 U4 B4 hb5 HE
  go_wp2
  go_ret
  exact ⟨rfl, B5⟩

end Go.Proofs.Ytbkemhclncmicaa

set_option linter.unusedVariables false
namespace Go.Proofs.Ytbkemhclncmicaa
open Go Go.RowKit Own Var Term

theorem rtP_len (s : ByteArray) (key : Int) : (rtP s key).length ≤ 12 := by
  unfold rtP
  split
  · exact numsR_len _
  · simp
theorem rtV_len (s : ByteArray) (key : Int) : (rtV s key).length ≤ 12 := by
  unfold rtV
  split
  · exact numsR_len _
  · simp
theorem row_below {w : World} {base n : Nat} {a : Option Addr} {c : Nat} {xs : List Value} (h : w.ownsRow base 3 1 (.slice a n c) n xs) : ∀ p : Addr, a = some p → p.block < w.heap.size := by
  intro p e
  subst e
  exact (own_in h p.block rfl).2
set_option maxRecDepth 100000 in
set_option maxHeartbeats 25600000 in
theorem readT_walk (s : ByteArray) (key : Int) (w : World) (hz : s.size ≤ maxLen) : Calls Try.prog 4 #[.string s, .int .i64 key] w fun en w' => en = .returned (.bool true) ∧ Below w.heap.size w w' := by
  by_cases hs : s.size ≤ 1048576
  · have hd : decide ((1048576 : Int) < (s.size : Int)) = false := by simp; omega
    have RS := fun w => specReadT_is s key w hs
    have RI := fun w => implReadT_is s key w hs
    have lP : (rtP s key).length ≤ 1048576 := Nat.le_trans (rtP_len s key) (by omega)
    have lV : (rtV s key).length ≤ 1048576 := Nat.le_trans (rtV_len s key) (by omega)
    generalize rtN s key 0 = y0 at RS RI
    generalize rtN s key 1 = y1 at RS RI
    generalize rtN s key 2 = y2 at RS RI
    generalize rtN s key 3 = y3 at RS RI
    generalize rtN s key 4 = y4 at RS RI
    generalize rtN s key 5 = y5 at RS RI
    generalize rtK s key = kk at RS RI
    generalize rtP s key = P at RS RI lP
    generalize rtV s key = V at RS RI lV
    go_enter Try.func4, Try.ntmps4
    go_wp2_with fail
    refine (RS _).mono ?_
    rintro en w1 ⟨pa, pc, va, vc, rfl, op, ov, _, hb1⟩
    clear RS
    obtain ⟨W2, hW2⟩ : ∃ W2, w1.alloc (.cells #[.int .i64 y0, .int .i64 y1, .int .i64 y2, .int .i64 y3, .int .i64 y4, .int .i64 y5, .slice pa P.length pc, .slice va V.length vc] 31) = W2 := ⟨_, rfl⟩
    have X2 : Below w1.heap.size w1 W2 := by rw [← hW2]; exact (Below.refl _ _).alloc (Nat.le_refl _) _
    have T2 : Blk w1.heap.size [.int .i64 y0, .int .i64 y1, .int .i64 y2, .int .i64 y3, .int .i64 y4, .int .i64 y5, .slice pa P.length pc, .slice va V.length vc] W2 := by rw [← hW2]; exact Blk.new _ _ _
    have Z2 : w1.heap.size < W2.heap.size := by rw [← hW2]; simp
    have B2 := hb1.trans (X2.mono hb1.size)
    have sp2 : RowAt (Value.int .i64) W2 pa P := (own_rowAt (f := Value.int .i64) op).later X2
    have sv2 : RowAt (Value.int .i64) W2 va V := (own_rowAt (f := Value.int .i64) ov).later X2
    have bp := row_below op
    have bv := row_below ov
    have M2 : w.heap.size ≤ W2.heap.size := Nat.le_trans hb1.size X2.size
    have ZH : Hid (w1.heap.size < W2.heap.size) := Z2
    clear op ov hb1 X2 Z2
    go_wp2_with fail
    try rw [hW2]
    refine (RI _).mono ?_
    clear hW2
    rintro en w3 ⟨qa, qc, ua, uc, rfl, oq, ou, ap, hb3⟩
    obtain ⟨W4, hW4⟩ : ∃ W4, w3.alloc (.cells #[.int .i64 y0, .int .i64 y1, .int .i64 y2, .int .i64 y3, .int .i64 y4, .int .i64 y5, .slice qa P.length qc, .slice ua V.length uc] 31) = W4 := ⟨_, rfl⟩
    have X4 : Below w3.heap.size w3 W4 := by rw [← hW4]; exact (Below.refl _ _).alloc (Nat.le_refl _) _
    have Y4 : Below W2.heap.size W2 W4 := hb3.trans (X4.mono hb3.size)
    have T4 := T2.later Y4 ZH.out
    have U4 : Blk w3.heap.size [.int .i64 y0, .int .i64 y1, .int .i64 y2, .int .i64 y3, .int .i64 y4, .int .i64 y5, .slice qa P.length qc, .slice ua V.length uc] W4 := by rw [← hW4]; exact Blk.new _ _ _
    have L4 : w3.heap.size < W4.heap.size := by rw [← hW4]; simp
    have B4 := B2.trans (Y4.mono B2.size)
    have sp4 := sp2.later Y4
    have sv4 := sv2.later Y4
    have oq4 := own_later oq X4
    have ou4 := own_later ou X4
    have iq := own_in oq
    have iu := own_in ou
    have N4 : W2.heap.size ≤ w3.heap.size := hb3.size
    have ZT : w1.heap.size < W2.heap.size := ZH.out
    have h1q : (Value.slice qa P.length qc).ownBlock ≠ some w1.heap.size := fun h => by have := (iq _ h).1; omega
    have h1u : (Value.slice ua V.length uc).ownBlock ≠ some w1.heap.size := fun h => by have := (iu _ h).1; omega
    have h3q : (Value.slice qa P.length qc).ownBlock ≠ some w3.heap.size := fun h => by have := (iq _ h).2; omega
    have h3u : (Value.slice ua V.length uc).ownBlock ≠ some w3.heap.size := fun h => by have := (iu _ h).2; omega
    have rq : ∀ k, (Value.slice qa P.length qc).ownBlock = some k → w.heap.size ≤ k := fun k h => by have := (iq _ h).1; omega
    have ru : ∀ k, (Value.slice ua V.length uc).ownBlock = some k → w.heap.size ≤ k := fun k h => by have := (iu _ h).1; omega
    have pq : ∀ p : Addr, pa = some p → some p.block ≠ (Value.slice qa P.length qc).ownBlock ∧ some p.block ≠ (Value.slice ua V.length uc).ownBlock := fun p e => ⟨fun h => by have := (iq _ h.symm).1; have := bp p e; omega, fun h => by have := (iu _ h.symm).1; have := bp p e; omega⟩
    have vq : ∀ p : Addr, va = some p → some p.block ≠ (Value.slice qa P.length qc).ownBlock ∧ some p.block ≠ (Value.slice ua V.length uc).ownBlock := fun p e => ⟨fun h => by have := (iq _ h.symm).1; have := bv p e; omega, fun h => by have := (iu _ h.symm).1; have := bv p e; omega⟩
    have l14 : w1.heap.size < W4.heap.size := Nat.lt_of_lt_of_le ZT Y4.size
    have HL : Hid (w1.heap.size < W4.heap.size ∧ w3.heap.size < W4.heap.size) := ⟨l14, L4⟩
    clear T2 B2 sp2 sv2 hb3 X4 Y4 oq ou iq iu N4 ZT ZH bp bv l14 L4
    have d0 := T4.at 0 rfl
    have d1 := T4.at 1 rfl
    have d2 := T4.at 2 rfl
    have d3 := T4.at 3 rfl
    have d4 := T4.at 4 rfl
    have d5 := T4.at 5 rfl
    have d6 := T4.at 6 rfl
    have d7 := T4.at 7 rfl
    have e0 := U4.at 0 rfl
    have e1 := U4.at 1 rfl
    have e2 := U4.at 2 rfl
    have e3 := U4.at 3 rfl
    have e4 := U4.at 4 rfl
    have e5 := U4.at 5 rfl
    have e6 := U4.at 6 rfl
    have e7 := U4.at 7 rfl
    have HE := eqTicket_is y0 y1 y2 y3 y4 y5 P V qa pa ua va qc pc uc vc W4 (own_rowAt (f := Value.int .i64) oq4) sp4 (own_rowAt (f := Value.int .i64) ou4) sv4 lP lV
    go_wp2_with fail
    try rw [hW4]
    refine HE.mono ?_
    clear hW4 HE d0 d1 d2 d3 d4 d5 d6 d7 e0 e1 e2 e3 e4 e5 e6 e7
    rintro en w5 ⟨rfl, hb5⟩
    have T5 := T4.later hb5 HL.out.1
    have U5 := U4.later hb5 HL.out.2
    have B5 := B4.trans (hb5.mono B4.size)
    have sp5 := sp4.later hb5
    have sv5 := sv4.later hb5
    have oq5 := own_later oq4 hb5
    have ou5 := own_later ou4 hb5
    have H5 : Hid (w1.heap.size < w5.heap.size ∧ w3.heap.size < w5.heap.size) := ⟨Nat.lt_of_lt_of_le HL.out.1 hb5.size, Nat.lt_of_lt_of_le HL.out.2 hb5.size⟩
    clear T4 U4 B4 sp4 sv4 oq4 ou4 HL hb5
    have e0 := U5.at 0 rfl
    have e1 := U5.at 1 rfl
    have e2 := U5.at 2 rfl
    have e3 := U5.at 3 rfl
    have e4 := U5.at 4 rfl
    have e5 := U5.at 5 rfl
    have e6 := U5.at 6 rfl
    have e7 := U5.at 7 rfl
    have HM := markTicket_is _ y0 y1 y2 y3 y4 y5 qa ua P.length V.length qc uc _ _ w5 lP lV oq5 ou5 ap
    go_wp2_with fail
    refine HM.mono ?_
    clear HM e0 e1 e2 e3 e4 e5 e6 e7
    rintro en w6 ⟨rfl, oq6, ou6, TU⟩
    have T6 := T5.turn TU H5.out.1 h1q h1u
    have U6 := U5.turn TU H5.out.2 h3q h3u
    have sp6 := TU.row sp5 pq
    have sv6 := TU.row sv5 vq
    have B6 := B5.trans (TU.below rq ru B5.size)
    have H6 : Hid (w1.heap.size < w6.heap.size ∧ w3.heap.size < w6.heap.size) := ⟨Nat.lt_of_lt_of_le H5.out.1 TU.2.2.2.1, Nat.lt_of_lt_of_le H5.out.2 TU.2.2.2.1⟩
    have mq : RowAt (Value.int .i64) w6 qa (miK 0 P.length) := own_rowAt (f := Value.int .i64) oq6
    have mu : RowAt (Value.int .i64) w6 ua (miK P.length V.length) := own_rowAt (f := Value.int .i64) ou6
    clear T5 U5 B5 sp5 sv5 oq5 ou5 H5 TU oq6 ou6 ap h1q h1u h3q h3u rq ru pq vq
    have hneg : ¬ (P.length : Int) + (V.length : Int) + 1 < 0 := by omega
    have e0 := U6.at 0 rfl
    have e1 := U6.at 1 rfl
    have e2 := U6.at 2 rfl
    have e3 := U6.at 3 rfl
    have e4 := U6.at 4 rfl
    have e5 := U6.at 5 rfl
    have e6 := U6.at 6 rfl
    have e7 := U6.at 7 rfl
    have HH := fun w mq mu => heldTicket_is y0 y1 y2 y3 y4 y5 qa ua P.length V.length qc uc w lP lV mq mu
    go_wp2_with fail
    refine (HH _ mq mu).mono ?_
    clear e0 e1 e2 e3 e4 e5 e6 e7
    rintro en w7 ⟨rfl, hb7⟩
    have T7 := T6.later hb7 H6.out.1
    have U7 := U6.later hb7 H6.out.2
    have B7 := B6.trans (hb7.mono B6.size)
    have sp7 := sp6.later hb7
    have sv7 := sv6.later hb7
    have mq7 := mq.later hb7
    have mu7 := mu.later hb7
    have H7 : Hid (w1.heap.size < w7.heap.size ∧ w3.heap.size < w7.heap.size) := ⟨Nat.lt_of_lt_of_le H6.out.1 hb7.size, Nat.lt_of_lt_of_le H6.out.2 hb7.size⟩
    clear T6 U6 B6 sp6 sv6 mq mu H6 hb7
    go_wp2_with fail
    refine (RI _).mono ?_
    rintro en w8 ⟨ha, hc, ka, kc, rfl, oh, ok, _, hb8⟩
    clear RI
    obtain ⟨W9, hW9⟩ : ∃ W9, w8.alloc (.cells #[.int .i64 y0, .int .i64 y1, .int .i64 y2, .int .i64 y3, .int .i64 y4, .int .i64 y5, .slice ha P.length hc, .slice ka V.length kc] 31) = W9 := ⟨_, rfl⟩
    have X9 : Below w8.heap.size w8 W9 := by rw [← hW9]; exact (Below.refl _ _).alloc (Nat.le_refl _) _
    have Y9 : Below w7.heap.size w7 W9 := hb8.trans (X9.mono hb8.size)
    have T9 := T7.later Y9 H7.out.1
    have U9 := U7.later Y9 H7.out.2
    have K9 : Blk w8.heap.size [.int .i64 y0, .int .i64 y1, .int .i64 y2, .int .i64 y3, .int .i64 y4, .int .i64 y5, .slice ha P.length hc, .slice ka V.length kc] W9 := by rw [← hW9]; exact Blk.new _ _ _
    have B9 := B7.trans (Y9.mono B7.size)
    have sp9 := sp7.later Y9
    have sv9 := sv7.later Y9
    have mq9 := mq7.later Y9
    have mu9 := mu7.later Y9
    have oh9 := own_later oh X9
    have ok9 := own_later ok X9
    have H9 : Hid (w3.heap.size < W9.heap.size) := Nat.lt_of_lt_of_le H7.out.2 Y9.size
    clear T7 U7 B7 sp7 sv7 mq7 mu7 H7 hb8 X9 Y9 oh ok
    have d0 := T9.at 0 rfl
    have d1 := T9.at 1 rfl
    have d2 := T9.at 2 rfl
    have d3 := T9.at 3 rfl
    have d4 := T9.at 4 rfl
    have d5 := T9.at 5 rfl
    have d6 := T9.at 6 rfl
    have d7 := T9.at 7 rfl
    have e0 := K9.at 0 rfl
    have e1 := K9.at 1 rfl
    have e2 := K9.at 2 rfl
    have e3 := K9.at 3 rfl
    have e4 := K9.at 4 rfl
    have e5 := K9.at 5 rfl
    have e6 := K9.at 6 rfl
    have e7 := K9.at 7 rfl
    have HE := eqTicket_is y0 y1 y2 y3 y4 y5 P V ha pa ka va hc pc kc vc W9 (own_rowAt (f := Value.int .i64) oh9) sp9 (own_rowAt (f := Value.int .i64) ok9) sv9 lP lV
    go_wp2_with fail
    try rw [hW9]
    refine HE.mono ?_
    clear hW9 HE d0 d1 d2 d3 d4 d5 d6 d7 e0 e1 e2 e3 e4 e5 e6 e7
    rintro en w10 ⟨rfl, hb10⟩
    have U10 := U9.later hb10 H9.out
    have B10 := B9.trans (hb10.mono B9.size)
    have mq10 := mq9.later hb10
    have mu10 := mu9.later hb10
    clear T9 U9 K9 B9 sp9 sv9 mq9 mu9 oh9 ok9 H9 hb10
    have e0 := U10.at 0 rfl
    have e1 := U10.at 1 rfl
    have e2 := U10.at 2 rfl
    have e3 := U10.at 3 rfl
    have e4 := U10.at 4 rfl
    have e5 := U10.at 5 rfl
    have e6 := U10.at 6 rfl
    have e7 := U10.at 7 rfl
    go_wp2_with fail
    refine (HH _ mq10 mu10).mono ?_
    clear e0 e1 e2 e3 e4 e5 e6 e7 HH
    rintro en w11 ⟨rfl, hb11⟩
    have B11 := B10.trans (hb11.mono B10.size)
    clear U10 B10 mq10 mu10 hb11
    go_wp2
    go_ret
    exact ⟨rfl, B11⟩
  · have hd : decide ((1048576 : Int) < (s.size : Int)) = true := by simp; omega
    go_enter Try.func4, Try.ntmps4
    go_wp2
    go_ret
    exact ⟨rfl, Below.refl _ _⟩

end Go.Proofs.Ytbkemhclncmicaa
