/- Stricter of the model. -/
import Derived.Test.YtjbbhegijlnndaaSt0
import Derived.Test.YtjbbhegijlnndaaRk2
set_option linter.unusedVariables false
set_option maxRecDepth 100000
namespace Go.Proofs.Ytjbbhegijlnndaa.Nd
open Go Go.RowKit Go.Joins Own Draw Go.Proofs.Ytjbbhegijlnndaa

theorem noth_mono (a : List PT) : ∀ (i j : Nat), i ≤ j → nothK a i = true → nothK a j = true
  | i, 0, h, e => by obtain rfl : i = 0 := by omega
                     exact e
  | i, j + 1, h, e => by
    by_cases hij : i = j + 1
    · subst hij; exact e
    · have h2 := noth_mono a i j (by omega) e
      have e2 : nothK a (j + 1) = (nothK a j || ((ofK ((j : Int) + 1) a).2 && notP (ofK ((j : Int) + 1) a).1)) := rfl
      rw [e2, h2]; rfl
theorem all_mono (a b : List PT) : ∀ (i j : Nat), i ≤ j → allK a b i = false → allK a b j = false
  | i, 0, h, e => by obtain rfl : i = 0 := by omega
                     exact e
  | i, j + 1, h, e => by
    by_cases hij : i = j + 1
    · subst hij; exact e
    · have h2 := all_mono a b i j (by omega) e
      have e2 : allK a b (j + 1) = (allK a b j && (!(ofK ((j : Int) + 1) b).2 || condK ((j : Int) + 1) (ofK ((j : Int) + 1) a) (ofK ((j : Int) + 1) b))) := rfl
      rw [e2, h2]; rfl
set_option maxHeartbeats 6400000 in
theorem specNothing_is (r : Rw TT) (w : World) (hr : RpT w r) (hok : okL (rsT r) = true) :
    Calls Try.prog 51 #[.slice r.1 r.2.2.length r.2.1] w fun e w' => e = .returned (.bool (nothK (rsT r) 5)) ∧ Below w.heap.size w w' := by
  have HOK : Hid (okL (rsT r) = true) := hok
  clear hok
  go_enter Try.func51, Try.ntmps51
  go_wp2
  go_loopw [3] (fun kv wr => ∃ i : Nat, i ≤ 5 ∧ kv = .int .i64 ((i : Int) + 1) ∧ Hid (nothK (rsT r) i = false) ∧ Below w.heap.size w wr) (fun kv _ => 6 - (intOf kv).toNat)
  case atStart => exact ⟨0, by omega, rfl, rfl, Below.refl _ _⟩
  case round =>
    obtain ⟨i, hi, rfl, HN, BC⟩ := hrel
    by_cases hlt : i < 5
    · have hlt2 : (i : Int) + 1 ≤ 5 := by omega
      have K := kind_is r ((i : Int) + 1) wr (hr.later BC) HOK.out
      have HS0 : Hid (nothK (rsT r) (i + 1) = (nothK (rsT r) i || ((ofK ((i : Int) + 1) (rsT r)).2 && notP (ofK ((i : Int) + 1) (rsT r)).1))) := (rfl : nothK (rsT r) (i + 1) = _)
      have HAC : Hid (AccOk ((i : Int) + 1) (ofK ((i : Int) + 1) (rsT r))) := ofK_ok _ _ _ rfl (okL_mem HOK.out).2
      generalize ofK ((i : Int) + 1) (rsT r) = f at K HS0 HAC
      obtain ⟨p, b⟩ := f
      go_wp2_with fail
      refine K.mono ?_
      clear K
      rintro en W1 ⟨⟨y, rfl, hy, oy⟩, hb⟩
      dsimp only at hy ⊢
      replace BC := BC.trans (hb.mono BC.size)
      clear hb oy
      obtain ⟨W, hW⟩ : ∃ V, W1.alloc (.cells #[.int .i64 y.1, .slice y.2.1.1 y.2.1.2.2.length y.2.1.2.1, .int .i64 y.2.2] 59) = V := ⟨_, rfl⟩
      have XA : Below W1.heap.size W1 W := by rw [← hW]; exact (Below.refl _ _).alloc (Nat.le_refl _) _
      have TV : Blk W1.heap.size [.int .i64 y.1, .slice y.2.1.1 y.2.1.2.2.length y.2.1.2.1, .int .i64 y.2.2] W := by rw [← hW]; exact Blk.new _ _ _
      replace BC := BC.trans (XA.mono BC.size)
      clear XA
      cases b with
      | false =>
        have HS : Hid (nothK (rsT r) (i + 1) = (nothK (rsT r) i || false)) := HS0
        clear HS0 HAC hy
        have HR : ∃ i' : Nat, i' ≤ 5 ∧ Value.int .i64 ((i : Int) + 1 + 1) = .int .i64 ((i' : Int) + 1) ∧ Hid (nothK (rsT r) i' = false) ∧ Below w.heap.size w W := ⟨i + 1, by omega, by go_num, by show _ = _; rw [HS.out, HN.out]; rfl, BC⟩
        clear HS HN BC TV
        go_wp2
        try rw [hW]
        go_roundw
        case rel => exact HR
        case measure => simp [intOf]; omega
      | true =>
        have hp1 : p.1 = (i : Int) + 1 := by have h_ := HAC.out; unfold AccOk at h_; rw [if_pos rfl] at h_; exact h_.2
        have HS1 : Hid (nothK (rsT r) (i + 1) = (nothK (rsT r) i || (if (i : Int) + 1 = 1 ∨ (i : Int) + 1 = 2 then decide (y.2.1.2.2.length = 0) else if (i : Int) + 1 = 5 then decide (y.2.2 = 0) else false))) := by
          show _ = _
          rw [HS0.out, ← hp1, ← hy]
          rfl
        have u1 := TV.at 1 rfl
        have u2 := TV.at 2 rfl
        clear HS0 HAC hy hp1
        by_cases c2 : (i : Int) + 1 ≤ 2
        · by_cases cz : y.2.1.2.2.length = 0
          · have hz : ((y.2.1.2.2.length : Int) == 0) = true := by rw [cz]; rfl
            have HS : Hid (nothK (rsT r) (i + 1) = (nothK (rsT r) i || true)) := by show _ = _; rw [HS1.out, if_pos (by omega), decide_eq_true cz]
            clear HS1 cz
            have HF : Hid (nothK (rsT r) 5 = true) := noth_mono _ (i + 1) 5 (by omega) (by rw [HS.out, HN.out]; rfl)
            clear HS HN TV
            go_wp2
            try rw [hW]
            go_ret
            exact ⟨by rw [HF.out]; rfl, BC⟩
          · have hz : ((y.2.1.2.2.length : Int) == 0) = false := beq_eq_false_iff_ne.2 (by omega)
            have e5 : ((i : Int) + 1 == 5) = false := beq_eq_false_iff_ne.2 (by omega)
            have HS : Hid (nothK (rsT r) (i + 1) = (nothK (rsT r) i || false)) := by show _ = _; rw [HS1.out, if_pos (by omega), decide_eq_false cz]
            clear HS1 cz
            have HR : ∃ i' : Nat, i' ≤ 5 ∧ Value.int .i64 ((i : Int) + 1 + 1) = .int .i64 ((i' : Int) + 1) ∧ Hid (nothK (rsT r) i' = false) ∧ Below w.heap.size w W := ⟨i + 1, by omega, by go_num, by show _ = _; rw [HS.out, HN.out]; rfl, BC⟩
            clear HS HN BC TV
            go_wp2
            try rw [hW]
            go_roundw
            case rel => exact HR
            case measure => simp [intOf]; omega
        · by_cases c5 : (i : Int) + 1 = 5
          · have e5 : ((i : Int) + 1 == 5) = true := beq_iff_eq.2 c5
            by_cases cz : y.2.2 = 0
            · have hz : (y.2.2 == 0) = true := beq_iff_eq.2 cz
              have HS : Hid (nothK (rsT r) (i + 1) = (nothK (rsT r) i || true)) := by show _ = _; rw [HS1.out, if_neg (by omega), if_pos c5, decide_eq_true cz]
              clear HS1 cz c5
              have HF : Hid (nothK (rsT r) 5 = true) := noth_mono _ (i + 1) 5 (by omega) (by rw [HS.out, HN.out]; rfl)
              clear HS HN TV
              go_wp2
              try rw [hW]
              go_ret
              exact ⟨by rw [HF.out]; rfl, BC⟩
            · have hz : (y.2.2 == 0) = false := beq_eq_false_iff_ne.2 cz
              have HS : Hid (nothK (rsT r) (i + 1) = (nothK (rsT r) i || false)) := by show _ = _; rw [HS1.out, if_neg (by omega), if_pos c5, decide_eq_false cz]
              clear HS1 cz c5
              have HR : ∃ i' : Nat, i' ≤ 5 ∧ Value.int .i64 ((i : Int) + 1 + 1) = .int .i64 ((i' : Int) + 1) ∧ Hid (nothK (rsT r) i' = false) ∧ Below w.heap.size w W := ⟨i + 1, by omega, by go_num, by show _ = _; rw [HS.out, HN.out]; rfl, BC⟩
              clear HS HN BC TV
              go_wp2
              try rw [hW]
              go_roundw
              case rel => exact HR
              case measure => simp [intOf]; omega
          · have e5 : ((i : Int) + 1 == 5) = false := beq_eq_false_iff_ne.2 c5
            have HS : Hid (nothK (rsT r) (i + 1) = (nothK (rsT r) i || false)) := by show _ = _; rw [HS1.out, if_neg (by omega), if_neg c5]
            clear HS1 c5
            have HR : ∃ i' : Nat, i' ≤ 5 ∧ Value.int .i64 ((i : Int) + 1 + 1) = .int .i64 ((i' : Int) + 1) ∧ Hid (nothK (rsT r) i' = false) ∧ Below w.heap.size w W := ⟨i + 1, by omega, by go_num, by show _ = _; rw [HS.out, HN.out]; rfl, BC⟩
            clear HS HN BC TV
            go_wp2
            try rw [hW]
            go_roundw
            case rel => exact HR
            case measure => simp [intOf]; omega
    · obtain rfl : i = 5 := by omega
      have hlt2 : ¬ (((5 : Nat) : Int) + 1 ≤ 5) := by omega
      go_wp2
      go_ret
      exact ⟨by rw [HN.out]; rfl, BC⟩
set_option maxHeartbeats 12800000 in
theorem specStricter_is (p q : Rw TT) (w : World) (hp : RpT w p) (hq : RpT w q) (lp : rtT p ≤ 1048576) (lq : rtT q ≤ 1048576) :
    Calls Try.prog 18 #[.slice p.1 p.2.2.length p.2.1, .slice q.1 q.2.2.length q.2.1] w fun e w' => e = .returned (.bool (strP (rsT p) (rsT q))) ∧ Below w.heap.size w w' := by
  have p1 := rt_parts lp
  have p2 := rt_parts lq
  have K0 := specRulesOk_is p w hp p1.2 p1.1
  have HQ : Hid ((∀ x ∈ q.2.2, x.2.1.2.2.length ≤ 1048576) ∧ q.2.2.length ≤ 1048576) := ⟨p2.2, p2.1⟩
  have HS : Hid (strP (rsT p) (rsT q) = (okL (rsT p) && (okL (rsT q) && (nothK (rsT p) 5 || allK (rsT p) (rsT q) 5)))) := (rfl : strP (rsT p) (rsT q) = _)
  have HOP : Hid (okL (rsT p) = okL (rsT p)) := (rfl : okL (rsT p) = okL (rsT p))
  generalize strP (rsT p) (rsT q) = ans at HS ⊢
  clear p1 p2 lp lq
  generalize hoa : okL (rsT p) = oa at K0 HS
  clear HOP
  have HOP : Hid (okL (rsT p) = oa) := hoa
  clear hoa
  go_enter Try.func18, Try.ntmps18
  go_wp2_with fail
  refine K0.mono ?_
  clear K0
  rintro en W1 ⟨rfl, BC⟩
  cases oa with
  | false =>
    have HS2 : Hid (ans = false) := by show _ = _; rw [HS.out]; rfl
    clear HS
    go_wp2
    go_ret
    exact ⟨by rw [HS2.out]; rfl, BC⟩
  | true =>
    have K1 := specRulesOk_is q W1 (hq.later BC) HQ.out.1 HQ.out.2
    generalize hob : okL (rsT q) = ob at K1 HS
    have HOQ : Hid (okL (rsT q) = ob) := hob
    clear hob
    go_wp2_with fail
    refine K1.mono ?_
    clear K1
    rintro en W2 ⟨rfl, hb⟩
    replace BC := BC.trans (hb.mono BC.size)
    clear hb
    cases ob with
    | false =>
      have HS2 : Hid (ans = false) := by show _ = _; rw [HS.out]; rfl
      clear HS
      go_wp2
      go_ret
      exact ⟨by rw [HS2.out]; rfl, BC⟩
    | true =>
      have K2 := specNothing_is p W2 (hp.later BC) HOP.out
      have HS2 : Hid (ans = (nothK (rsT p) 5 || allK (rsT p) (rsT q) 5)) := by show _ = _; rw [HS.out]; rfl
      clear HS
      generalize nothK (rsT p) 5 = nb at K2 HS2
      go_wp2_with fail
      refine K2.mono ?_
      clear K2
      rintro en W3 ⟨rfl, hb⟩
      replace BC := BC.trans (hb.mono BC.size)
      clear hb
      cases nb with
      | true =>
        have HS3 : Hid (ans = true) := by show _ = _; rw [HS2.out]; rfl
        clear HS2
        go_wp2
        go_ret
        exact ⟨by rw [HS3.out]; rfl, BC⟩
      | false =>
        have HE : Hid (ans = allK (rsT p) (rsT q) 5) := by show _ = _; rw [HS2.out]; rfl
        clear HS2
        go_wp2
        go_loopw [5] (fun kv wr => ∃ i : Nat, i ≤ 5 ∧ kv = .int .i64 ((i : Int) + 1) ∧ Hid (allK (rsT p) (rsT q) i = true) ∧ Below w.heap.size w wr) (fun kv _ => 6 - (intOf kv).toNat)
        case atStart => exact ⟨0, by omega, rfl, rfl, BC⟩
        case round =>
          clear BC
          obtain ⟨i, hi, rfl, HN, BC⟩ := hrel
          by_cases hlt : i < 5
          · have hlt2 : (i : Int) + 1 ≤ 5 := by omega
            have K := kind_is p ((i : Int) + 1) wr (hp.later BC) HOP.out
            have HS0 : Hid (allK (rsT p) (rsT q) (i + 1) = (allK (rsT p) (rsT q) i && (!(ofK ((i : Int) + 1) (rsT q)).2 || condK ((i : Int) + 1) (ofK ((i : Int) + 1) (rsT p)) (ofK ((i : Int) + 1) (rsT q))))) := (rfl : allK (rsT p) (rsT q) (i + 1) = _)
            have HAP : Hid (AccOk ((i : Int) + 1) (ofK ((i : Int) + 1) (rsT p))) := ofK_ok _ _ _ rfl (okL_mem HOP.out).2
            have HAQ : Hid (AccOk ((i : Int) + 1) (ofK ((i : Int) + 1) (rsT q))) := ofK_ok _ _ _ rfl (okL_mem HOQ.out).2
            generalize ofK ((i : Int) + 1) (rsT p) = f at K HS0 HAP
            obtain ⟨px, b⟩ := f
            go_wp2_with fail
            refine K.mono ?_
            clear K
            rintro en W1 ⟨⟨x, rfl, hx, ox⟩, hb⟩
            dsimp only at hx ⊢
            replace BC := BC.trans (hb.mono BC.size)
            clear hb
            have hxd := ox.dp
            clear ox
            obtain ⟨W, hW⟩ : ∃ V, W1.alloc (.cells #[.int .i64 x.1, .slice x.2.1.1 x.2.1.2.2.length x.2.1.2.1, .int .i64 x.2.2] 59) = V := ⟨_, rfl⟩
            have XA : Below W1.heap.size W1 W := by rw [← hW]; exact (Below.refl _ _).alloc (Nat.le_refl _) _
            have TX : Blk W1.heap.size [.int .i64 x.1, .slice x.2.1.1 x.2.1.2.2.length x.2.1.2.1, .int .i64 x.2.2] W := by rw [← hW]; exact Blk.new _ _ _
            replace BC := BC.trans (XA.mono BC.size)
            replace hxd := hxd.later XA
            clear XA
            have K := kind_is q ((i : Int) + 1) W (hq.later BC) HOQ.out
            generalize ofK ((i : Int) + 1) (rsT q) = g at K HS0 HAQ
            obtain ⟨py, c⟩ := g
            obtain ⟨xb, hxb⟩ : ∃ xb, W1.heap.size = xb := ⟨_, rfl⟩
            rw [hxb] at TX
            go_wp2_with fail
            try rw [hW]
            try rw [hxb]
            refine K.mono ?_
            clear K hW hxb
            rintro en W2 ⟨⟨y, rfl, hy, oy⟩, hb⟩
            dsimp only at hy ⊢
            replace BC := BC.trans (hb.mono BC.size)
            replace TX := TX.later hb TX.lt
            replace hxd := hxd.later hb
            clear hb
            have hyd := oy.dp
            clear oy
            obtain ⟨WW, hW⟩ : ∃ V, W2.alloc (.cells #[.int .i64 y.1, .slice y.2.1.1 y.2.1.2.2.length y.2.1.2.1, .int .i64 y.2.2] 59) = V := ⟨_, rfl⟩
            have XA : Below W2.heap.size W2 WW := by rw [← hW]; exact (Below.refl _ _).alloc (Nat.le_refl _) _
            have TY : Blk W2.heap.size [.int .i64 y.1, .slice y.2.1.1 y.2.1.2.2.length y.2.1.2.1, .int .i64 y.2.2] WW := by rw [← hW]; exact Blk.new _ _ _
            replace BC := BC.trans (XA.mono BC.size)
            replace hxd := hxd.later XA
            replace hyd := hyd.later XA
            replace TX := TX.later XA TX.lt
            clear XA
            have rx : riB (-1) x.2.1.2.2 = true := by have h_ := acc_rise HAP.out; dsimp only at h_; rw [← hx] at h_; exact h_
            have ry : riB (-1) y.2.1.2.2 = true := by have h_ := acc_rise HAQ.out; dsimp only at h_; rw [← hy] at h_; exact h_
            have lx := ri_len rx
            have ly := ri_len ry
            have hxr : RowAt (Value.int .i64) WW x.2.1.1 x.2.1.2.2 := hxd
            have hyr : RowAt (Value.int .i64) WW y.2.1.1 y.2.1.2.2 := hyd
            have HSX : Hid (allK (rsT p) (rsT q) (i + 1) = (allK (rsT p) (rsT q) i && (!c || condK ((i : Int) + 1) (stT x, b) (stT y, c)))) := by show _ = _; rw [HS0.out, ← hx, ← hy]
            clear HS0 HAP HAQ hx hy rx ry hxd hyd
            have x1 := TX.at 1 rfl
            have x2 := TX.at 2 rfl
            have y1 := TY.at 1 rfl
            have y2 := TY.at 2 rfl
            cases c with
            | false =>
              have HS : Hid (allK (rsT p) (rsT q) (i + 1) = (allK (rsT p) (rsT q) i && true)) := by show _ = _; rw [HSX.out]; rfl
              clear HSX
              have HR : ∃ i' : Nat, i' ≤ 5 ∧ Value.int .i64 ((i : Int) + 1 + 1) = .int .i64 ((i' : Int) + 1) ∧ Hid (allK (rsT p) (rsT q) i' = true) ∧ Below w.heap.size w WW := ⟨i + 1, by omega, by go_num, by show _ = _; rw [HS.out, HN.out]; rfl, BC⟩
              clear HS HN BC TX TY
              go_wp2
              try rw [hW]
              go_roundw
              case rel => exact HR
              case measure => simp [intOf]; omega
            | true =>
              by_cases c12 : (i : Int) + 1 = 1 ∨ (i : Int) + 1 = 2
              · have HSY : Hid (allK (rsT p) (rsT q) (i + 1) = (allK (rsT p) (rsT q) i && (b && x.2.1.2.2.all (fun n => y.2.1.2.2.contains n)))) := by
                  show _ = _
                  rw [HSX.out]
                  unfold condK
                  rw [if_pos c12]
                  rfl
                clear HSX
                cases b with
                | false =>
                  have HS : Hid (allK (rsT p) (rsT q) (i + 1) = (allK (rsT p) (rsT q) i && false)) := by show _ = _; rw [HSY.out]; rfl
                  clear HSY
                  by_cases c1 : (i : Int) + 1 = 1
                  · have e1 : ((i : Int) + 1 == 1) = true := beq_iff_eq.2 c1
                    clear c1 c12
                    have HF : Hid (allK (rsT p) (rsT q) 5 = false) := all_mono _ _ (i + 1) 5 (by omega) (by rw [HS.out, HN.out]; rfl)
                    clear HS HN TX TY
                    go_wp2
                    try rw [hW]
                    go_ret
                    exact ⟨by rw [HE.out, HF.out]; rfl, BC⟩
                  · have e1 : ((i : Int) + 1 == 1) = false := beq_eq_false_iff_ne.2 c1
                    have e2 : ((i : Int) + 1 == 2) = true := beq_iff_eq.2 (c12.resolve_left c1)
                    clear c1 c12
                    have HF : Hid (allK (rsT p) (rsT q) 5 = false) := all_mono _ _ (i + 1) 5 (by omega) (by rw [HS.out, HN.out]; rfl)
                    clear HS HN TX TY
                    go_wp2
                    try rw [hW]
                    go_ret
                    exact ⟨by rw [HE.out, HF.out]; rfl, BC⟩
                | true =>
                  have HS1 : Hid (allK (rsT p) (rsT q) (i + 1) = (allK (rsT p) (rsT q) i && x.2.1.2.2.all (fun n => y.2.1.2.2.contains n))) := by show _ = _; rw [HSY.out]; rfl
                  clear HSY
                  by_cases c1 : (i : Int) + 1 = 1
                  · have e1 : ((i : Int) + 1 == 1) = true := beq_iff_eq.2 c1
                    clear c1 c12
                    generalize hv : x.2.1.2.2.all (fun n => y.2.1.2.2.contains n) = v at HS1
                    have KA := l17All_is x.2.1.1 y.2.1.1 x.2.1.2.1 y.2.1.2.1 x.2.1.2.2 y.2.1.2.2 WW hxr (by omega) hyr (by omega)
                    rw [hv] at KA
                    clear hv
                    go_wp2_with fail
                    try rw [hW]
                    refine KA.mono ?_
                    clear KA
                    rintro en v1 ⟨rfl, rfl⟩
                    cases v with
                    | true =>
                      have HS : Hid (allK (rsT p) (rsT q) (i + 1) = (allK (rsT p) (rsT q) i && true)) := by show _ = _; rw [HS1.out]
                      clear HS1
                      have HR : ∃ i' : Nat, i' ≤ 5 ∧ Value.int .i64 ((i : Int) + 1 + 1) = .int .i64 ((i' : Int) + 1) ∧ Hid (allK (rsT p) (rsT q) i' = true) ∧ Below w.heap.size w WW := ⟨i + 1, by omega, by go_num, by show _ = _; rw [HS.out, HN.out]; rfl, BC⟩
                      clear HS HN BC TX TY
                      go_wp2
                      try rw [hW]
                      go_roundw
                      case rel => exact HR
                      case measure => simp [intOf]; omega
                    | false =>
                      have HS : Hid (allK (rsT p) (rsT q) (i + 1) = (allK (rsT p) (rsT q) i && false)) := by show _ = _; rw [HS1.out]
                      clear HS1
                      have HF : Hid (allK (rsT p) (rsT q) 5 = false) := all_mono _ _ (i + 1) 5 (by omega) (by rw [HS.out, HN.out]; rfl)
                      clear HS HN TX TY
                      go_wp2
                      try rw [hW]
                      go_ret
                      exact ⟨by rw [HE.out, HF.out]; rfl, BC⟩
                  · have e1 : ((i : Int) + 1 == 1) = false := beq_eq_false_iff_ne.2 c1
                    have e2 : ((i : Int) + 1 == 2) = true := beq_iff_eq.2 (c12.resolve_left c1)
                    clear c1 c12
                    generalize hv : x.2.1.2.2.all (fun n => y.2.1.2.2.contains n) = v at HS1
                    have KA := l17All_is x.2.1.1 y.2.1.1 x.2.1.2.1 y.2.1.2.1 x.2.1.2.2 y.2.1.2.2 WW hxr (by omega) hyr (by omega)
                    rw [hv] at KA
                    clear hv
                    go_wp2_with fail
                    try rw [hW]
                    refine KA.mono ?_
                    clear KA
                    rintro en v1 ⟨rfl, rfl⟩
                    cases v with
                    | true =>
                      have HS : Hid (allK (rsT p) (rsT q) (i + 1) = (allK (rsT p) (rsT q) i && true)) := by show _ = _; rw [HS1.out]
                      clear HS1
                      have HR : ∃ i' : Nat, i' ≤ 5 ∧ Value.int .i64 ((i : Int) + 1 + 1) = .int .i64 ((i' : Int) + 1) ∧ Hid (allK (rsT p) (rsT q) i' = true) ∧ Below w.heap.size w WW := ⟨i + 1, by omega, by go_num, by show _ = _; rw [HS.out, HN.out]; rfl, BC⟩
                      clear HS HN BC TX TY
                      go_wp2
                      try rw [hW]
                      go_roundw
                      case rel => exact HR
                      case measure => simp [intOf]; omega
                    | false =>
                      have HS : Hid (allK (rsT p) (rsT q) (i + 1) = (allK (rsT p) (rsT q) i && false)) := by show _ = _; rw [HS1.out]
                      clear HS1
                      have HF : Hid (allK (rsT p) (rsT q) 5 = false) := all_mono _ _ (i + 1) 5 (by omega) (by rw [HS.out, HN.out]; rfl)
                      clear HS HN TX TY
                      go_wp2
                      try rw [hW]
                      go_ret
                      exact ⟨by rw [HE.out, HF.out]; rfl, BC⟩
              · have e1 : ((i : Int) + 1 == 1) = false := beq_eq_false_iff_ne.2 (fun h => c12 (Or.inl h))
                have e2 : ((i : Int) + 1 == 2) = false := beq_eq_false_iff_ne.2 (fun h => c12 (Or.inr h))
                by_cases c3 : (i : Int) + 1 = 3
                · have e3 : ((i : Int) + 1 == 3) = true := beq_iff_eq.2 c3
                  have HS1 : Hid (allK (rsT p) (rsT q) (i + 1) = (allK (rsT p) (rsT q) i && y.2.1.2.2.all (fun n => x.2.1.2.2.contains n))) := by
                    show _ = _
                    rw [HSX.out]
                    unfold condK
                    rw [if_neg c12, if_pos c3]
                    rfl
                  clear HSX c12 c3
                  generalize hv : y.2.1.2.2.all (fun n => x.2.1.2.2.contains n) = v at HS1
                  have KA := l17All_is y.2.1.1 x.2.1.1 y.2.1.2.1 x.2.1.2.1 y.2.1.2.2 x.2.1.2.2 WW hyr (by omega) hxr (by omega)
                  rw [hv] at KA
                  clear hv
                  go_wp2_with fail
                  try rw [hW]
                  refine KA.mono ?_
                  clear KA
                  rintro en v1 ⟨rfl, rfl⟩
                  cases v with
                  | true =>
                    have HS : Hid (allK (rsT p) (rsT q) (i + 1) = (allK (rsT p) (rsT q) i && true)) := by show _ = _; rw [HS1.out]
                    clear HS1
                    have HR : ∃ i' : Nat, i' ≤ 5 ∧ Value.int .i64 ((i : Int) + 1 + 1) = .int .i64 ((i' : Int) + 1) ∧ Hid (allK (rsT p) (rsT q) i' = true) ∧ Below w.heap.size w WW := ⟨i + 1, by omega, by go_num, by show _ = _; rw [HS.out, HN.out]; rfl, BC⟩
                    clear HS HN BC TX TY
                    go_wp2
                    try rw [hW]
                    go_roundw
                    case rel => exact HR
                    case measure => simp [intOf]; omega
                  | false =>
                    have HS : Hid (allK (rsT p) (rsT q) (i + 1) = (allK (rsT p) (rsT q) i && false)) := by show _ = _; rw [HS1.out]
                    clear HS1
                    have HF : Hid (allK (rsT p) (rsT q) 5 = false) := all_mono _ _ (i + 1) 5 (by omega) (by rw [HS.out, HN.out]; rfl)
                    clear HS HN TX TY
                    go_wp2
                    try rw [hW]
                    go_ret
                    exact ⟨by rw [HE.out, HF.out]; rfl, BC⟩
                · have e3 : ((i : Int) + 1 == 3) = false := beq_eq_false_iff_ne.2 c3
                  have HSY : Hid (allK (rsT p) (rsT q) (i + 1) = (allK (rsT p) (rsT q) i && (b && decide (x.2.2 ≤ y.2.2)))) := by
                    show _ = _
                    rw [HSX.out]
                    unfold condK
                    rw [if_neg c12, if_neg c3]
                    rfl
                  clear HSX c12 c3
                  cases b with
                  | false =>
                    have HS : Hid (allK (rsT p) (rsT q) (i + 1) = (allK (rsT p) (rsT q) i && false)) := by show _ = _; rw [HSY.out]; rfl
                    clear HSY
                    have HF : Hid (allK (rsT p) (rsT q) 5 = false) := all_mono _ _ (i + 1) 5 (by omega) (by rw [HS.out, HN.out]; rfl)
                    clear HS HN TX TY
                    go_wp2
                    try rw [hW]
                    go_ret
                    exact ⟨by rw [HE.out, HF.out]; rfl, BC⟩
                  | true =>
                    by_cases hle : x.2.2 ≤ y.2.2
                    · have hgt : ¬ (x.2.2 > y.2.2) := by omega
                      have HS : Hid (allK (rsT p) (rsT q) (i + 1) = (allK (rsT p) (rsT q) i && true)) := by show _ = _; rw [HSY.out, decide_eq_true hle]; rfl
                      clear HSY hle
                      have HR : ∃ i' : Nat, i' ≤ 5 ∧ Value.int .i64 ((i : Int) + 1 + 1) = .int .i64 ((i' : Int) + 1) ∧ Hid (allK (rsT p) (rsT q) i' = true) ∧ Below w.heap.size w WW := ⟨i + 1, by omega, by go_num, by show _ = _; rw [HS.out, HN.out]; rfl, BC⟩
                      clear HS HN BC TX TY
                      go_wp2
                      try rw [hW]
                      go_roundw
                      case rel => exact HR
                      case measure => simp [intOf]; omega
                    · have hgt : x.2.2 > y.2.2 := by omega
                      have HS : Hid (allK (rsT p) (rsT q) (i + 1) = (allK (rsT p) (rsT q) i && false)) := by show _ = _; rw [HSY.out, decide_eq_false hle]; rfl
                      clear HSY hle
                      have HF : Hid (allK (rsT p) (rsT q) 5 = false) := all_mono _ _ (i + 1) 5 (by omega) (by rw [HS.out, HN.out]; rfl)
                      clear HS HN TX TY
                      go_wp2
                      try rw [hW]
                      go_ret
                      exact ⟨by rw [HE.out, HF.out]; rfl, BC⟩
          · obtain rfl : i = 5 := by omega
            have hlt2 : ¬ (((5 : Nat) : Int) + 1 ≤ 5) := by omega
            go_wp2
            go_ret
            exact ⟨by rw [HE.out, HN.out]; rfl, BC⟩
end Go.Proofs.Ytjbbhegijlnndaa.Nd
