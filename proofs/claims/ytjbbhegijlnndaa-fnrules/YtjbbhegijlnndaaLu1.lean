/- The law on rules. -/
import Derived.Test.YtjbbhegijlnndaaDa1
import Derived.Test.YtjbbhegijlnndaaFr0
import Derived.Test.YtjbbhegijlnndaaPf0
import Derived.Test.YtjbbhegijlnndaaRn2
import Derived.Test.YtjbbhegijlnndaaJo1
import Derived.Test.YtjbbhegijlnndaaSt2
import Derived.Test.YtjbbhegijlnndaaSt3
import Derived.Test.YtjbbhegijlnndaaSx0
import Derived.Test.YtjbbhegijlnndaaRu4
import Derived.Deep.CutRange
import Derived.Deep.DeepCutAuto
set_option linter.unusedVariables false
set_option maxRecDepth 100000
namespace Go.Proofs.Ytjbbhegijlnndaa.Nd
open Go Go.RowKit Go.Joins Own Draw Go.Proofs.Ytjbbhegijlnndaa

theorem bigF (a : Option Addr) (len cap : Nat) (W : World) (h : len ≤ 1048576) :
    Calls Try.prog 12 #[.slice a len cap] W fun e w' => e = .returned (.bool false) ∧ W = w' := by
  have hd : decide ((1048576 : Int) < (len : Int)) = false := by simp; omega
  go_enter Try.func12, Try.ntmps12
  go_wp2
  go_ret
  exact ⟨rfl, rfl⟩
theorem bigT (a : Option Addr) (len cap : Nat) (W : World) (h : 1048576 < len) (h2 : len ≤ maxLen) :
    Calls Try.prog 12 #[.slice a len cap] W fun e w' => e = .returned (.bool true) ∧ W = w' := by
  unfold maxLen at h2
  have hd : decide ((1048576 : Int) < (len : Int)) = true := by simp; omega
  go_enter Try.func12, Try.ntmps12
  go_wp2
  go_ret
  exact ⟨rfl, rfl⟩
theorem wf_20 {x : Int} (h : 0 ≤ x ∧ x ≤ 20) : (Lit.int .i64 x).wf = true := by
  simp [Lit.wf, IntKind.min, IntKind.max, IntKind.signed, IntKind.bits]
  omega
theorem AskOk.wf {x : TA} (h : AskOk x) : wfA (stA x) := ⟨wf_20 h.s, wf_20 h.o, fun g hg => wf_20 (h.g g hg)⟩
theorem Rs.b1 {w : World} {q : Rw TT} (h : Rs w q) : ∀ x ∈ q.2.2, x.2.1.2.2.length ≤ 1048576 := fun x hx => Nat.le_trans (h.set x hx) (by omega)
theorem Rs.b2 {w : World} {q : Rw TT} (h : Rs w q) : q.2.2.length ≤ 1048576 := Nat.le_trans h.len (by omega)
theorem Rs.b3 {w : World} {q : Rw TT} (h : Rs w q) : rtT q ≤ 1048576 := Nat.le_trans h.rt (by omega)
theorem rs_small {q : Rw TT} {l : List PT} (e : rsT q = nrmP l) : q.2.2.length ≤ 5 := by
  have h := (nrm_small l).1
  rw [← e] at h
  simpa [rsT] using h
theorem wpList_ldG {P : Program} {ops : Array Oper} {rest : List Oper} {o : Oper} {a : Act} {w : World} {Q : Exit → Act → World → Prop} (ty : TypeId) (x : Operand) (g off : Nat) (us vs : List Value) (ie : TypeInfo) (hie : P.info? ty = some ie) (hagg : ∀ w, (isAgg ty).run P w = .ok true w) (h : Blk g us w) (hs : vs.length = ie.size) (hv : (us.drop off).take vs.length = vs)
    (hgd : Region.wanted o (yielded ops a.tmps) = true) (ho : o.op = .load ty x) (hx : a.eval x = .pointer (some ⟨g, off, none⟩))
    (hn : wpList P ops Q rest (a.put o.dst (.agg vs.toArray)) w) : wpList P ops Q (o :: rest) a w := wpList_step fun K hK => by
  rw [if_pos hgd]
  unfold Oper.wp execOp
  simp only [ho, hx, Instr.loadAt, Instr.sureAddr, Sem.run_bind, Sem.run_pure, Result.andThen_ok, ldB ty ie hie hagg vs h hs hv]
  exact hK _ _ hn
set_option maxHeartbeats 25600000 in
theorem law_rules (ad : Option Addr) (len cap : Nat) (zs : List Int) (W : World) (hl : len ≤ 1048576) (hz : CodeAt W W.heap.size ad len zs) :
    Calls Try.prog 3 #[.slice ad len cap] W fun e w' => e = .returned (.bool true) ∧ Below W.heap.size W w' := by
  obtain ⟨ie, hie, his⟩ := info_A
  have HZ : Hid (CodeAt W W.heap.size ad len zs) := hz
  go_enter Try.func3, Try.ntmps3
  go_wp2_with fail
  refine (bigF ad len cap W hl).mono ?_
  rintro e w0 ⟨rfl, rfl⟩
  have BW : Below W.heap.size W W := Below.refl _ _
  have K := drawJoined_is ad len cap zs W hz
  clear hz
  go_wp2_with fail
  refine K.mono ?_
  clear K
  rintro en v1 ⟨A, B, rfl, rA, rB, bv1⟩
  have Ev1 := BW.trans (bv1.mono BW.size)
  clear bv1 BW
  have D0 : Below v1.heap.size v1 v1 := Below.refl _ _
  have HA : Hid (∀ w, Below v1.heap.size v1 w → Rs w A) := fun w b => rA.later b
  have HB : Hid (∀ w, Below v1.heap.size v1 w → Rs w B) := fun w b => rB.later b
  have lA := rA.len
  have lB := rB.len
  clear rA rB
  have K := implNormal_is A v1 (HA.out _ D0).dp (HA.out _ D0).b1 (HA.out _ D0).b2
  go_wp2_with fail
  refine K.mono ?_
  clear K
  rintro en v2 ⟨⟨n, rfl, hn, on, an⟩, bv2⟩
  have Ev2 := Ev1.trans (bv2.mono Ev1.size)
  have Dv2 := D0.trans (bv2.mono D0.size)
  have rn : Rs v2 n := rs_of on.dp hn
  clear on an
  clear bv2 Ev1 D0
  have HN : Hid (rsT n = nrmP (rsT A)) := hn
  have ln := rs_small hn
  have Hn : Hid (∀ w, Below v2.heap.size v2 w → Rs w n) := fun w b => rn.later b
  have Fn : Below v2.heap.size v2 v2 := Below.refl _ _
  clear rn hn
  have K := implJoined_is A B v2 (HA.out _ Dv2).dp (HB.out _ Dv2).dp (by have h1 := (HA.out _ Dv2).rt; have h2 := (HB.out _ Dv2).rt; omega)
  go_wp2_with fail
  refine K.mono ?_
  clear K
  rintro en v3 ⟨⟨j, rfl, hj, oj, aj⟩, bv3⟩
  have Ev3 := Ev2.trans (bv3.mono Ev2.size)
  have Dv3 := Dv2.trans (bv3.mono Dv2.size)
  replace Fn := Fn.trans (bv3.mono Fn.size)
  rw [← joP_nrm] at hj
  have rj : Rs v3 j := rs_of oj.dp hj
  clear oj aj
  clear bv3 Ev2 Dv2
  have HJ : Hid (rsT j = nrmP (rsT A ++ rsT B)) := hj
  have lj := rs_small hj
  have Hj : Hid (∀ w, Below v3.heap.size v3 w → Rs w j) := fun w b => rj.later b
  have Fj : Below v3.heap.size v3 v3 := Below.refl _ _
  clear rj hj
  have K := drawStricter_is ad len cap zs v3 ((HZ.out.below Ev3).lt Ev3.size)
  go_wp2_with fail
  refine K.mono ?_
  clear K
  rintro en v4 ⟨P, Q, rfl, rP, rQ, bv4⟩
  have Ev4 := Ev3.trans (bv4.mono Ev3.size)
  have Dv4 := Dv3.trans (bv4.mono Dv3.size)
  replace Fn := Fn.trans (bv4.mono Fn.size)
  replace Fj := Fj.trans (bv4.mono Fj.size)
  clear bv4 Ev3 Dv3
  have HP : Hid (∀ w, Below v4.heap.size v4 w → Rs w P) := fun w b => rP.later b
  have HQ : Hid (∀ w, Below v4.heap.size v4 w → Rs w Q) := fun w b => rQ.later b
  have Fp : Below v4.heap.size v4 v4 := Below.refl _ _
  clear rP rQ
  obtain ⟨st, hst⟩ : ∃ b, strP (rsT P) (rsT Q) = b := ⟨_, rfl⟩
  have HST : Hid (strP (rsT P) (rsT Q) = st) := hst
  have K := implStricter_is P Q v4 (HP.out _ Fp).dp (HQ.out _ Fp).dp (HP.out _ Fp).b3 (HQ.out _ Fp).b3
  rw [hst] at K
  go_wp2_with fail
  refine K.mono ?_
  clear K
  rintro en v5 ⟨rfl, bv5⟩
  have Ev5 := Ev4.trans (bv5.mono Ev4.size)
  have Dv5 := Dv4.trans (bv5.mono Dv4.size)
  replace Fn := Fn.trans (bv5.mono Fn.size)
  replace Fj := Fj.trans (bv5.mono Fj.size)
  replace Fp := Fp.trans (bv5.mono Fp.size)
  clear bv5 Ev4 Dv4
  have K := specStricter_is P Q v5 (HP.out _ Fp).dp (HQ.out _ Fp).dp (HP.out _ Fp).b3 (HQ.out _ Fp).b3
  rw [hst] at K
  clear hst
  go_wp2_with fail
  refine K.mono ?_
  clear K
  rintro en v6 ⟨rfl, bv6⟩
  have Ev6 := Ev5.trans (bv6.mono Ev5.size)
  have Dv6 := Dv5.trans (bv6.mono Dv5.size)
  replace Fn := Fn.trans (bv6.mono Fn.size)
  replace Fj := Fj.trans (bv6.mono Fj.size)
  replace Fp := Fp.trans (bv6.mono Fp.size)
  clear bv6 Ev5 Dv5
  have K := specRulesOk_is n v6 (Hn.out _ Fn).dp (Hn.out _ Fn).b1 (Hn.out _ Fn).b2
  rw [HN.out, nrm_ok] at K
  go_wp2_with fail
  refine K.mono ?_
  clear K
  rintro en v7 ⟨rfl, bv7⟩
  have Ev7 := Ev6.trans (bv7.mono Ev6.size)
  have Dv7 := Dv6.trans (bv7.mono Dv6.size)
  replace Fn := Fn.trans (bv7.mono Fn.size)
  replace Fj := Fj.trans (bv7.mono Fj.size)
  replace Fp := Fp.trans (bv7.mono Fp.size)
  clear bv7 Ev6 Dv6
  have K := specRulesOk_is j v7 (Hj.out _ Fj).dp (Hj.out _ Fj).b1 (Hj.out _ Fj).b2
  rw [HJ.out, nrm_ok] at K
  go_wp2_with fail
  refine K.mono ?_
  clear K
  rintro en v8 ⟨rfl, bv8⟩
  have Ev8 := Ev7.trans (bv8.mono Ev7.size)
  have Dv8 := Dv7.trans (bv8.mono Dv7.size)
  replace Fn := Fn.trans (bv8.mono Fn.size)
  replace Fj := Fj.trans (bv8.mono Fj.size)
  replace Fp := Fp.trans (bv8.mono Fp.size)
  clear bv8 Ev7 Dv7
  have qn : ¬ ((n.2.2.length : Int) > 5) := by omega
  have qj : ¬ ((j.2.2.length : Int) > 5) := by omega
  have K := implNormal_is n v8 (Hn.out _ Fn).dp (Hn.out _ Fn).b1 (Hn.out _ Fn).b2
  go_wp2_with fail
  refine K.mono ?_
  clear K
  rintro en v9 ⟨⟨m, rfl, hm, om, am⟩, bv9⟩
  have Ev9 := Ev8.trans (bv9.mono Ev8.size)
  have Dv9 := Dv8.trans (bv9.mono Dv8.size)
  replace Fn := Fn.trans (bv9.mono Fn.size)
  replace Fj := Fj.trans (bv9.mono Fj.size)
  replace Fp := Fp.trans (bv9.mono Fp.size)
  have rm : Rs v9 m := rs_of om.dp hm
  clear om am
  clear bv9 Ev8 Dv8
  rw [HN.out, nrm_again, ← HN.out] at hm
  have K := implShow_is m v9 rm.dp rm.b3
  rw [hm] at K
  clear rm hm
  go_wp2_with fail
  refine K.mono ?_
  clear K
  rintro en v10 ⟨rfl, bv10⟩
  have Ev10 := Ev9.trans (bv10.mono Ev9.size)
  have Dv10 := Dv9.trans (bv10.mono Dv9.size)
  replace Fn := Fn.trans (bv10.mono Fn.size)
  replace Fj := Fj.trans (bv10.mono Fj.size)
  replace Fp := Fp.trans (bv10.mono Fp.size)
  clear bv10 Ev9 Dv9
  have K := implShow_is n v10 (Hn.out _ Fn).dp (Hn.out _ Fn).b3
  go_wp2_with fail
  refine K.mono ?_
  clear K
  rintro en v11 ⟨rfl, bv11⟩
  have Ev11 := Ev10.trans (bv11.mono Ev10.size)
  have Dv11 := Dv10.trans (bv11.mono Dv10.size)
  replace Fn := Fn.trans (bv11.mono Fn.size)
  replace Fj := Fj.trans (bv11.mono Fj.size)
  replace Fp := Fp.trans (bv11.mono Fp.size)
  clear bv11 Ev10 Dv10
  generalize showP (rsT n) = tn
  clear qn qj ln lj
  have GA : Hid (∀ w, Below v11.heap.size v11 w → Rs w A) := fun w b => HA.out w (Dv11.trans (b.mono Dv11.size))
  have GB : Hid (∀ w, Below v11.heap.size v11 w → Rs w B) := fun w b => HB.out w (Dv11.trans (b.mono Dv11.size))
  have Gn : Hid (∀ w, Below v11.heap.size v11 w → Rs w n) := fun w b => Hn.out w (Fn.trans (b.mono Fn.size))
  have Gj : Hid (∀ w, Below v11.heap.size v11 w → Rs w j) := fun w b => Hj.out w (Fj.trans (b.mono Fj.size))
  have GP : Hid (∀ w, Below v11.heap.size v11 w → Rs w P) := fun w b => HP.out w (Fp.trans (b.mono Fp.size))
  have GQ : Hid (∀ w, Below v11.heap.size v11 w → Rs w Q) := fun w b => HQ.out w (Fp.trans (b.mono Fp.size))
  have HB8 : Hid (Below W.heap.size W v11) := Ev11
  have C0 : Below v11.heap.size v11 v11 := Below.refl _ _
  clear HA HB Hn Hj HP HQ Fn Fj Fp Ev11 Dv11
  go_wp2
  go_loopw [11] (fun iv wr => ∃ i : Nat, i ≤ 12 ∧ iv = .int .i64 (i : Int) ∧ Below v11.heap.size v11 wr) (fun iv _ => 12 - (intOf iv).toNat)
  case atStart => exact ⟨0, by omega, rfl, C0⟩
  case round =>
    clear C0
    obtain ⟨i, hi, rfl, EC⟩ := hrel
    by_cases hlt : i < 12
    · have hlt2 : (i : Int) < 12 := by omega
      have BE := HB8.out.trans (EC.mono HB8.out.size)
      have K := fresh_is ad len cap zs i wr ((HZ.out.below BE).lt BE.size) hlt
      clear BE
      go_wp2_with fail
      refine K.mono ?_
      clear K
      rintro en v12 ⟨ya, yc, ys, rfl, hys, bv12⟩
      have Ev12 := EC.trans (bv12.mono EC.size)
      clear bv12 EC
      have K := drawAllows_is ya ys.length yc ys v12 hys
      clear hys
      go_wp2_with fail
      refine K.mono ?_
      clear K
      rintro en v13 ⟨qx, x, rfl, rqx, dx, ak, bv13⟩
      have Ev13 := Ev12.trans (bv13.mono Ev12.size)
      clear bv13 Ev12
      clear rqx
      obtain ⟨V1, hV1⟩ : ∃ V, v13.alloc (.cells #[.int .i64 0, .int .i64 0, .slice none 0 0, .int .i64 0, .int .i64 0] 34) = V := ⟨_, rfl⟩
      have XA : Below v13.heap.size v13 V1 := by rw [← hV1]; exact (Below.refl _ _).alloc (Nat.le_refl _) _
      have RB0 : Blk v13.heap.size [.int .i64 0, .int .i64 0, .slice none 0 0, .int .i64 0, .int .i64 0] V1 := by rw [← hV1]; exact Blk.new _ _ _
      have dx0 := dx
      have B1 : Below v13.heap.size v13 V1 := XA
      clear XA
      obtain ⟨xb, hxb⟩ : ∃ n, v13.heap.size = n := ⟨_, rfl⟩
      rw [hxb] at RB0 B1
      obtain ⟨V2, hV2⟩ : ∃ V, World.setCells V1 xb 0 [.int .i64 x.1, .int .i64 x.2.1, .slice x.2.2.1.1 x.2.2.1.2.2.length x.2.2.1.2.1, .int .i64 x.2.2.2.1, .int .i64 x.2.2.2.2] = V := ⟨_, rfl⟩
      have TX : Blk xb [.int .i64 x.1, .int .i64 x.2.1, .slice x.2.2.1.1 x.2.2.1.2.2.length x.2.2.1.2.1, .int .i64 x.2.2.2.1, .int .i64 x.2.2.2.2] V2 := by rw [← hV2]; exact RB0.sets [.int .i64 x.1, .int .i64 x.2.1, .slice x.2.2.1.1 x.2.2.1.2.2.length x.2.2.1.2.1, .int .i64 x.2.2.2.1, .int .i64 x.2.2.2.2] rfl
      have B2 : Below xb v13 V2 := by rw [← hV2]; exact below_sets (Nat.le_refl _) [.int .i64 x.1, .int .i64 x.2.1, .slice x.2.2.1.1 x.2.2.1.2.2.length x.2.2.1.2.1, .int .i64 x.2.2.2.1, .int .i64 x.2.2.2.2] 0 _ B1
      have HX : Hid (∀ w, Below V2.heap.size V2 w → DpA w x) := fun w b => by
        have h1 : Below v13.heap.size v13 V2 := by rw [hxb]; exact B2
        exact DpA.later (DpA.later dx0 h1) b
      have EC2 := Ev13.trans (B2.mono (by rw [← hxb]; exact Ev13.size))
      have HV1 : Hid (v13.alloc (.cells #[.int .i64 0, .int .i64 0, .slice none 0 0, .int .i64 0, .int .i64 0] 34) = V1) := hV1
      have HXB : Hid (v13.heap.size = xb) := hxb
      clear hV1 hxb B1 B2 dx dx0 Ev13
      go_wp2_with (first | (rw [HV1.out, HXB.out]; refine wpList_stB 34 _ _ xb 0 [.int .i64 0, .int .i64 0, .slice none 0 0, .int .i64 0, .int .i64 0] [.int .i64 x.1, .int .i64 x.2.1, .slice x.2.2.1.1 x.2.2.1.2.2.length x.2.2.1.2.1, .int .i64 x.2.2.2.1, .int .i64 x.2.2.2.2] ie hie RB0 (by rw [his]; rfl) (by simp) rfl rfl rfl rfl rfl ?_; try simp only [Act.put]; rw [hV2]) | (refine wpList_ldG 34 _ xb 0 _ [.int .i64 x.1, .int .i64 x.2.1, .slice x.2.2.1.1 x.2.2.1.2.2.length x.2.2.1.2.1, .int .i64 x.2.2.2.1, .int .i64 x.2.2.2.2] ie hie (Try.isAgg34) TX his.symm rfl (by rfl) rfl rfl ?_) | fail)
      clear hV2 RB0 HV1 HXB
      have FX : Below V2.heap.size V2 V2 := Below.refl _ _
      have hgl : x.2.2.1.2.2.length ≤ 1048576 := Nat.le_trans ak.l (by omega)
      have wf := ak.wf
      have hu : 0 ≤ (stA x).2.2.2.2 := ak.u.1
      clear ak
      obtain ⟨one, hone⟩ : ∃ b, alB (rsT A) (stA x) = b := ⟨_, rfl⟩
      obtain ⟨two, htwo⟩ : ∃ b, alB (rsT B) (stA x) = b := ⟨_, rfl⟩
      have HO1 : Hid (alB (rsT A) (stA x) = one) := hone
      have HO2 : Hid (alB (rsT B) (stA x) = two) := htwo
      clear hone htwo
      have K := specAllows_is A x V2 (GA.out _ EC2).dp (GA.out _ EC2).b1 (GA.out _ EC2).b2 (HX.out _ FX) hgl
      rw [HO1.out] at K
      refine K.mono ?_
      clear K
      rintro en v14 ⟨rfl, bv14⟩
      have Ev14 := EC2.trans (bv14.mono EC2.size)
      replace TX := TX.later bv14 TX.lt
      replace FX := FX.trans (bv14.mono FX.size)
      clear bv14 EC2
      have K := specAllows_is B x v14 (GB.out _ Ev14).dp (GB.out _ Ev14).b1 (GB.out _ Ev14).b2 (HX.out _ FX) hgl
      rw [HO2.out] at K
      go_wp2_with (first | (refine wpList_ldG 34 _ xb 0 _ [.int .i64 x.1, .int .i64 x.2.1, .slice x.2.2.1.1 x.2.2.1.2.2.length x.2.2.1.2.1, .int .i64 x.2.2.2.1, .int .i64 x.2.2.2.2] ie hie (Try.isAgg34) TX his.symm rfl (by rfl) rfl rfl ?_) | fail)
      refine K.mono ?_
      clear K
      rintro en v15 ⟨rfl, bv15⟩
      have Ev15 := Ev14.trans (bv15.mono Ev14.size)
      replace TX := TX.later bv15 TX.lt
      replace FX := FX.trans (bv15.mono FX.size)
      clear bv15 Ev14
      go_upto_region 19 with fail
      go_cut [126] (fun s126 wx => s126 = .bool false ∧ Hid (Blk xb [.int .i64 x.1, .int .i64 x.2.1, .slice x.2.2.1.1 x.2.2.1.2.2.length x.2.2.1.2.1, .int .i64 x.2.2.2.1, .int .i64 x.2.2.2.2] wx ∧ Below v11.heap.size v11 wx ∧ Below V2.heap.size V2 wx))
      case first =>
        have K := implAllows_is A x v15 (GA.out _ Ev15).dp (GA.out _ Ev15).b1 (GA.out _ Ev15).b2 (HX.out _ FX) hgl wf
        rw [HO1.out] at K
        go_wp2_with (first | (refine wpList_ldG 34 _ xb 0 _ [.int .i64 x.1, .int .i64 x.2.1, .slice x.2.2.1.1 x.2.2.1.2.2.length x.2.2.1.2.1, .int .i64 x.2.2.2.1, .int .i64 x.2.2.2.2] ie hie (Try.isAgg34) TX his.symm rfl (by rfl) rfl rfl ?_) | fail)
        refine K.mono ?_
        clear K
        rintro en v16 ⟨rfl, bv16⟩
        have Ev16 := Ev15.trans (bv16.mono Ev15.size)
        replace TX := TX.later bv16 TX.lt
        replace FX := FX.trans (bv16.mono FX.size)
        clear bv16 Ev15
        cases hoA : okL (rsT A) with
        | false =>
          have K := specRulesOk_is A v16 (GA.out _ Ev16).dp (GA.out _ Ev16).b1 (GA.out _ Ev16).b2
          rw [hoA] at K
          go_wp2_with (first | (refine wpList_ldG 34 _ xb 0 _ [.int .i64 x.1, .int .i64 x.2.1, .slice x.2.2.1.1 x.2.2.1.2.2.length x.2.2.1.2.1, .int .i64 x.2.2.2.1, .int .i64 x.2.2.2.2] ie hie (Try.isAgg34) TX his.symm rfl (by rfl) rfl rfl ?_) | fail)
          refine K.mono ?_
          clear K
          rintro en v17 ⟨rfl, bv17⟩
          have Ev17 := Ev16.trans (bv17.mono Ev16.size)
          replace TX := TX.later bv17 TX.lt
          replace FX := FX.trans (bv17.mono FX.size)
          clear bv17 Ev16
          have K := specRulesOk_is A v17 (GA.out _ Ev17).dp (GA.out _ Ev17).b1 (GA.out _ Ev17).b2
          rw [hoA] at K
          go_wp2_with (first | (refine wpList_ldG 34 _ xb 0 _ [.int .i64 x.1, .int .i64 x.2.1, .slice x.2.2.1.1 x.2.2.1.2.2.length x.2.2.1.2.1, .int .i64 x.2.2.2.1, .int .i64 x.2.2.2.2] ie hie (Try.isAgg34) TX his.symm rfl (by rfl) rfl rfl ?_) | fail)
          refine K.mono ?_
          clear K
          rintro en v18 ⟨rfl, bv18⟩
          have Ev18 := Ev17.trans (bv18.mono Ev17.size)
          replace TX := TX.later bv18 TX.lt
          replace FX := FX.trans (bv18.mono FX.size)
          clear bv18 Ev17
          clear hoA
          have HH : Hid (Blk xb [.int .i64 x.1, .int .i64 x.2.1, .slice x.2.2.1.1 x.2.2.1.2.2.length x.2.2.1.2.1, .int .i64 x.2.2.2.1, .int .i64 x.2.2.2.2] v18 ∧ Below v11.heap.size v11 v18 ∧ Below V2.heap.size V2 v18) := ⟨TX, Ev18, FX⟩
          clear TX Ev18 FX HX hgl wf
          go_wp2
          go_meet
          exact ⟨rfl, HH⟩
        | true =>
          have K := specRulesOk_is A v16 (GA.out _ Ev16).dp (GA.out _ Ev16).b1 (GA.out _ Ev16).b2
          rw [hoA] at K
          go_wp2_with (first | (refine wpList_ldG 34 _ xb 0 _ [.int .i64 x.1, .int .i64 x.2.1, .slice x.2.2.1.1 x.2.2.1.2.2.length x.2.2.1.2.1, .int .i64 x.2.2.2.1, .int .i64 x.2.2.2.2] ie hie (Try.isAgg34) TX his.symm rfl (by rfl) rfl rfl ?_) | fail)
          refine K.mono ?_
          clear K
          rintro en v19 ⟨rfl, bv19⟩
          have Ev19 := Ev16.trans (bv19.mono Ev16.size)
          replace TX := TX.later bv19 TX.lt
          replace FX := FX.trans (bv19.mono FX.size)
          clear bv19 Ev16
          have K := implAllows_is n x v19 (Gn.out _ Ev19).dp (Gn.out _ Ev19).b1 (Gn.out _ Ev19).b2 (HX.out _ FX) hgl wf
          rw [HN.out, al_nrm hoA, HO1.out] at K
          go_wp2_with (first | (refine wpList_ldG 34 _ xb 0 _ [.int .i64 x.1, .int .i64 x.2.1, .slice x.2.2.1.1 x.2.2.1.2.2.length x.2.2.1.2.1, .int .i64 x.2.2.2.1, .int .i64 x.2.2.2.2] ie hie (Try.isAgg34) TX his.symm rfl (by rfl) rfl rfl ?_) | fail)
          refine K.mono ?_
          clear K
          rintro en v20 ⟨rfl, bv20⟩
          have Ev20 := Ev19.trans (bv20.mono Ev19.size)
          replace TX := TX.later bv20 TX.lt
          replace FX := FX.trans (bv20.mono FX.size)
          clear bv20 Ev19
          have K := specRulesOk_is A v20 (GA.out _ Ev20).dp (GA.out _ Ev20).b1 (GA.out _ Ev20).b2
          rw [hoA] at K
          go_wp2_with (first | (refine wpList_ldG 34 _ xb 0 _ [.int .i64 x.1, .int .i64 x.2.1, .slice x.2.2.1.1 x.2.2.1.2.2.length x.2.2.1.2.1, .int .i64 x.2.2.2.1, .int .i64 x.2.2.2.2] ie hie (Try.isAgg34) TX his.symm rfl (by rfl) rfl rfl ?_) | fail)
          refine K.mono ?_
          clear K
          rintro en v21 ⟨rfl, bv21⟩
          have Ev21 := Ev20.trans (bv21.mono Ev20.size)
          replace TX := TX.later bv21 TX.lt
          replace FX := FX.trans (bv21.mono FX.size)
          clear bv21 Ev20
          cases hoB : okL (rsT B) with
          | false =>
            have K := specRulesOk_is B v21 (GB.out _ Ev21).dp (GB.out _ Ev21).b1 (GB.out _ Ev21).b2
            rw [hoB] at K
            go_wp2_with (first | (refine wpList_ldG 34 _ xb 0 _ [.int .i64 x.1, .int .i64 x.2.1, .slice x.2.2.1.1 x.2.2.1.2.2.length x.2.2.1.2.1, .int .i64 x.2.2.2.1, .int .i64 x.2.2.2.2] ie hie (Try.isAgg34) TX his.symm rfl (by rfl) rfl rfl ?_) | fail)
            refine K.mono ?_
            clear K
            rintro en v22 ⟨rfl, bv22⟩
            have Ev22 := Ev21.trans (bv22.mono Ev21.size)
            replace TX := TX.later bv22 TX.lt
            replace FX := FX.trans (bv22.mono FX.size)
            clear bv22 Ev21
            clear hoA hoB
            have HH : Hid (Blk xb [.int .i64 x.1, .int .i64 x.2.1, .slice x.2.2.1.1 x.2.2.1.2.2.length x.2.2.1.2.1, .int .i64 x.2.2.2.1, .int .i64 x.2.2.2.2] v22 ∧ Below v11.heap.size v11 v22 ∧ Below V2.heap.size V2 v22) := ⟨TX, Ev22, FX⟩
            clear TX Ev22 FX HX hgl wf
            go_wp2
            go_meet
            exact ⟨rfl, HH⟩
          | true =>
            have K := specRulesOk_is B v21 (GB.out _ Ev21).dp (GB.out _ Ev21).b1 (GB.out _ Ev21).b2
            rw [hoB] at K
            go_wp2_with (first | (refine wpList_ldG 34 _ xb 0 _ [.int .i64 x.1, .int .i64 x.2.1, .slice x.2.2.1.1 x.2.2.1.2.2.length x.2.2.1.2.1, .int .i64 x.2.2.2.1, .int .i64 x.2.2.2.2] ie hie (Try.isAgg34) TX his.symm rfl (by rfl) rfl rfl ?_) | fail)
            refine K.mono ?_
            clear K
            rintro en v23 ⟨rfl, bv23⟩
            have Ev23 := Ev21.trans (bv23.mono Ev21.size)
            replace TX := TX.later bv23 TX.lt
            replace FX := FX.trans (bv23.mono FX.size)
            clear bv23 Ev21
            by_cases hle : A.2.2.length + B.2.2.length ≤ 20
            · have hle2 : (A.2.2.length : Int) + (B.2.2.length : Int) ≤ 20 := by omega
              have hle3 : (rsT A).length + (rsT B).length ≤ 20 := by simpa [rsT] using hle
              cases one with
              | true =>
                have K := implAllows_is j x v23 (Gj.out _ Ev23).dp (Gj.out _ Ev23).b1 (Gj.out _ Ev23).b2 (HX.out _ FX) hgl wf
                rw [HJ.out, al_nrm (okL_app hoA hoB hle3), al_app hoA hoB hle3, HO1.out, HO2.out, Bool.true_and] at K
                go_wp2_with (first | (refine wpList_ldG 34 _ xb 0 _ [.int .i64 x.1, .int .i64 x.2.1, .slice x.2.2.1.1 x.2.2.1.2.2.length x.2.2.1.2.1, .int .i64 x.2.2.2.1, .int .i64 x.2.2.2.2] ie hie (Try.isAgg34) TX his.symm rfl (by rfl) rfl rfl ?_) | fail)
                refine K.mono ?_
                clear K
                rintro en v24 ⟨rfl, bv24⟩
                have Ev24 := Ev23.trans (bv24.mono Ev23.size)
                replace TX := TX.later bv24 TX.lt
                replace FX := FX.trans (bv24.mono FX.size)
                clear bv24 Ev23
                clear hoA hoB hle hle2 hle3
                have HH : Hid (Blk xb [.int .i64 x.1, .int .i64 x.2.1, .slice x.2.2.1.1 x.2.2.1.2.2.length x.2.2.1.2.1, .int .i64 x.2.2.2.1, .int .i64 x.2.2.2.2] v24 ∧ Below v11.heap.size v11 v24 ∧ Below V2.heap.size V2 v24) := ⟨TX, Ev24, FX⟩
                clear TX Ev24 FX HX hgl wf
                go_wp2
                go_meet
                exact ⟨rfl, HH⟩
              | false =>
                have K := implAllows_is j x v23 (Gj.out _ Ev23).dp (Gj.out _ Ev23).b1 (Gj.out _ Ev23).b2 (HX.out _ FX) hgl wf
                rw [HJ.out, al_nrm (okL_app hoA hoB hle3), al_app hoA hoB hle3, HO1.out, HO2.out, Bool.false_and] at K
                go_wp2_with (first | (refine wpList_ldG 34 _ xb 0 _ [.int .i64 x.1, .int .i64 x.2.1, .slice x.2.2.1.1 x.2.2.1.2.2.length x.2.2.1.2.1, .int .i64 x.2.2.2.1, .int .i64 x.2.2.2.2] ie hie (Try.isAgg34) TX his.symm rfl (by rfl) rfl rfl ?_) | fail)
                refine K.mono ?_
                clear K
                rintro en v25 ⟨rfl, bv25⟩
                have Ev25 := Ev23.trans (bv25.mono Ev23.size)
                replace TX := TX.later bv25 TX.lt
                replace FX := FX.trans (bv25.mono FX.size)
                clear bv25 Ev23
                clear hoA hoB hle hle2 hle3
                have HH : Hid (Blk xb [.int .i64 x.1, .int .i64 x.2.1, .slice x.2.2.1.1 x.2.2.1.2.2.length x.2.2.1.2.1, .int .i64 x.2.2.2.1, .int .i64 x.2.2.2.2] v25 ∧ Below v11.heap.size v11 v25 ∧ Below V2.heap.size V2 v25) := ⟨TX, Ev25, FX⟩
                clear TX Ev25 FX HX hgl wf
                go_wp2
                go_meet
                exact ⟨rfl, HH⟩
            · have hle2 : ¬ (A.2.2.length : Int) + (B.2.2.length : Int) ≤ 20 := by omega
              clear hoA hoB hle
              have HH : Hid (Blk xb [.int .i64 x.1, .int .i64 x.2.1, .slice x.2.2.1.1 x.2.2.1.2.2.length x.2.2.1.2.1, .int .i64 x.2.2.2.1, .int .i64 x.2.2.2.2] v23 ∧ Below v11.heap.size v11 v23 ∧ Below V2.heap.size V2 v23) := ⟨TX, Ev23, FX⟩
              clear TX Ev23 FX HX hgl wf
              go_wp2
              go_meet
              exact ⟨rfl, HH⟩
      case rest =>
      obtain ⟨rfl, HT⟩ := hcut
      clear TX Ev15 FX
      obtain ⟨TX, EC3, FX⟩ := HT.out
      clear HT
      go_upto_region 21 with fail
      go_cut [138] (fun s138 wx => s138 = .bool false ∧ Hid (Blk xb [.int .i64 x.1, .int .i64 x.2.1, .slice x.2.2.1.1 x.2.2.1.2.2.length x.2.2.1.2.1, .int .i64 x.2.2.2.1, .int .i64 x.2.2.2.2] wx ∧ Below v11.heap.size v11 wx ∧ Below V2.heap.size V2 wx))
      case first =>
        cases st with
        | false =>
          have HH : Hid (_ ∧ _ ∧ _) := ⟨TX, EC3, FX⟩
          clear TX EC3 FX HX hgl wf
          go_wp2
          go_meet
          exact ⟨rfl, HH⟩
        | true =>
          cases hp3 : alB (rsT P) (stA x) with
          | true =>
            have hq3 := str_sound HST.out hu hp3
            have K := specAllows_is P x _ (GP.out _ EC3).dp (GP.out _ EC3).b1 (GP.out _ EC3).b2 (HX.out _ FX) hgl
            rw [hp3] at K
            go_wp2_with (first | (refine wpList_ldG 34 _ xb 0 _ [.int .i64 x.1, .int .i64 x.2.1, .slice x.2.2.1.1 x.2.2.1.2.2.length x.2.2.1.2.1, .int .i64 x.2.2.2.1, .int .i64 x.2.2.2.2] ie hie (Try.isAgg34) TX his.symm rfl (by rfl) rfl rfl ?_) | fail)
            refine K.mono ?_
            clear K
            rintro en v26 ⟨rfl, bv26⟩
            have Ev26 := EC3.trans (bv26.mono EC3.size)
            replace TX := TX.later bv26 TX.lt
            replace FX := FX.trans (bv26.mono FX.size)
            clear bv26 EC3
            have K := specAllows_is Q x v26 (GQ.out _ Ev26).dp (GQ.out _ Ev26).b1 (GQ.out _ Ev26).b2 (HX.out _ FX) hgl
            rw [hq3] at K
            go_wp2_with (first | (refine wpList_ldG 34 _ xb 0 _ [.int .i64 x.1, .int .i64 x.2.1, .slice x.2.2.1.1 x.2.2.1.2.2.length x.2.2.1.2.1, .int .i64 x.2.2.2.1, .int .i64 x.2.2.2.2] ie hie (Try.isAgg34) TX his.symm rfl (by rfl) rfl rfl ?_) | fail)
            refine K.mono ?_
            clear K
            rintro en v27 ⟨rfl, bv27⟩
            have Ev27 := Ev26.trans (bv27.mono Ev26.size)
            replace TX := TX.later bv27 TX.lt
            replace FX := FX.trans (bv27.mono FX.size)
            clear bv27 Ev26
            clear hp3 hq3
            have HH : Hid (_ ∧ _ ∧ _) := ⟨TX, Ev27, FX⟩
            clear TX Ev27 FX HX hgl wf
            go_wp2
            go_meet
            exact ⟨rfl, HH⟩
          | false =>
            have K := specAllows_is P x _ (GP.out _ EC3).dp (GP.out _ EC3).b1 (GP.out _ EC3).b2 (HX.out _ FX) hgl
            rw [hp3] at K
            go_wp2_with (first | (refine wpList_ldG 34 _ xb 0 _ [.int .i64 x.1, .int .i64 x.2.1, .slice x.2.2.1.1 x.2.2.1.2.2.length x.2.2.1.2.1, .int .i64 x.2.2.2.1, .int .i64 x.2.2.2.2] ie hie (Try.isAgg34) TX his.symm rfl (by rfl) rfl rfl ?_) | fail)
            refine K.mono ?_
            clear K
            rintro en v28 ⟨rfl, bv28⟩
            have Ev28 := EC3.trans (bv28.mono EC3.size)
            replace TX := TX.later bv28 TX.lt
            replace FX := FX.trans (bv28.mono FX.size)
            clear bv28 EC3
            clear hp3
            have HH : Hid (_ ∧ _ ∧ _) := ⟨TX, Ev28, FX⟩
            clear TX Ev28 FX HX hgl wf
            go_wp2
            go_meet
            exact ⟨rfl, HH⟩
      case rest =>
      obtain ⟨rfl, HT⟩ := hcut
      clear TX EC3 FX
      obtain ⟨TX, EC4, FX⟩ := HT.out
      clear HT
      clear TX HX FX hgl wf
      go_wp2
      go_roundw
      case rel => exact ⟨i + 1, by omega, by go_num, EC4⟩
      case measure => simp [intOf]; omega
    · obtain rfl : i = 12 := by omega
      have hlt2 : ¬ (((12 : Nat) : Int) < 12) := by omega
      cases hoA : okL (rsT A) with
      | false =>
        have K := specRulesOk_is A wr (GA.out _ EC).dp (GA.out _ EC).b1 (GA.out _ EC).b2
        rw [hoA] at K
        go_wp2_with fail
        refine K.mono ?_
        clear K
        rintro en v29 ⟨rfl, bv29⟩
        have Ev29 := EC.trans (bv29.mono EC.size)
        clear bv29 EC
        go_wp2
        go_ret
        exact ⟨rfl, HB8.out.trans (Ev29.mono HB8.out.size)⟩
      | true =>
        have K := specRulesOk_is A wr (GA.out _ EC).dp (GA.out _ EC).b1 (GA.out _ EC).b2
        rw [hoA] at K
        go_wp2_with fail
        refine K.mono ?_
        clear K
        rintro en v30 ⟨rfl, bv30⟩
        have Ev30 := EC.trans (bv30.mono EC.size)
        clear bv30 EC
        have K := implStricter_is A A v30 (GA.out _ Ev30).dp (GA.out _ Ev30).dp (GA.out _ Ev30).b3 (GA.out _ Ev30).b3
        rw [str_self hoA] at K
        go_wp2_with fail
        refine K.mono ?_
        clear K
        rintro en v31 ⟨rfl, bv31⟩
        have Ev31 := Ev30.trans (bv31.mono Ev30.size)
        clear bv31 Ev30
        have K := implStricter_is A n v31 (GA.out _ Ev31).dp (Gn.out _ Ev31).dp (GA.out _ Ev31).b3 (Gn.out _ Ev31).b3
        rw [HN.out, str_nrm hoA] at K
        go_wp2_with fail
        refine K.mono ?_
        clear K
        rintro en v32 ⟨rfl, bv32⟩
        have Ev32 := Ev31.trans (bv32.mono Ev31.size)
        clear bv32 Ev31
        have K := implStricter_is n A v32 (Gn.out _ Ev32).dp (GA.out _ Ev32).dp (Gn.out _ Ev32).b3 (GA.out _ Ev32).b3
        rw [HN.out, nrm_str hoA] at K
        go_wp2_with fail
        refine K.mono ?_
        clear K
        rintro en v33 ⟨rfl, bv33⟩
        have Ev33 := Ev32.trans (bv33.mono Ev32.size)
        clear bv33 Ev32
        go_wp2
        go_ret
        exact ⟨rfl, HB8.out.trans (Ev33.mono HB8.out.size)⟩
end Go.Proofs.Ytjbbhegijlnndaa.Nd
