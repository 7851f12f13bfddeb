/- Roots: the model. -/
import Derived.Test.YtlmpfkbgknbcnaaGreatAb
import Derived.Test.YtlmpfkbgknbcnaaGreatRo2
set_option linter.unusedVariables false
set_option maxRecDepth 100000
namespace Go.Proofs.YtlmpfkbgknbcnaaGreat.Nd
open Go Go.RowKit Go.Joins Own Draw
theorem info_event : ∃ ie,Tryz.prog.info? 106 = some ie ∧ ie.size = 11:=by
 cases h : Tryz.prog.info? 106 with
 | none => exact absurd h (by have : (Tryz.prog.info? 106).isSome = true:=(by kernel_rfl); rw [Option.isSome_iff_ne_none] at this; exact this)
 | some ie =>
  refine ⟨ie,rfl,?_⟩
  have : (Tryz.prog.info? 106).map (·.size) = some 11:=by kernel_rfl
  rw [h] at this
  exact Option.some.inj this
/-- What the model puts besides, of an event that is no login; 0 where there is none. -/
def xS (p : TE) : Int:=if kdE p = 2 ∨ kdE p = 4 then (if btw (seE p) 0 2 then pkV (3 + seE p) else 0) else if kdE p = 3 then (if btw (seE p) 10 12 then lkV (reE p) (seE p - 10) else 0) else 0
def rtG (xs : List TE) : Nat → List Int → Int → List Int
 | 0,_,_ => []
 | f + 1,out,key => if h : 0 ≤ findN xs key ∧ (findN xs key).toNat < xs.length then
   (if kdE xs[(findN xs key).toNat] = 1 then (if pkV (byE xs[(findN xs key).toNat]) = 0 ∨ ckV (reE xs[(findN xs key).toNat]) = 0 then [] else putI (putI out (pkV (byE xs[(findN xs key).toNat]))) (ckV (reE xs[(findN xs key).toNat])))
    else if xS xs[(findN xs key).toNat] = 0 then [] else rtG xs f (putI out (xS xs[(findN xs key).toNat])) (paE xs[(findN xs key).toNat])) else []
theorem rtG_no {xs : List TE} {f : Nat} {out : List Int} {key : Int} (h : findN xs key = -1) : rtG xs (f + 1) out key = []:=by
 unfold rtG; rw [dif_neg (by omega)]
theorem rtG_yes {xs : List TE} {f : Nat} {out : List Int} {key : Int} {i : Nat} (h : findN xs key = (i : Int)) (hi : i < xs.length) : rtG xs (f + 1) out key =
  (if kdE xs[i] = 1 then (if pkV (byE xs[i]) = 0 ∨ ckV (reE xs[i]) = 0 then [] else putI (putI out (pkV (byE xs[i]))) (ckV (reE xs[i]))) else if xS xs[i] = 0 then [] else rtG xs f (putI out (xS xs[i])) (paE xs[i])):=by
 conv => lhs; unfold rtG
 rw [dif_pos ⟨by omega,by rw [h]; simpa using hi⟩]
 simp only [h,Int.toNat_natCast]
/-- What the model's Roots answers. -/
def rtSo (c : Cf) (xs : List TE) (n : Int) : List Int:=if confB c then rtG xs (xs.length + 1) [] n else []
theorem lit0 (W : World) (B : Nat) (hB : B ≤ W.heap.size) : (W.alloc (.cells #[] 3)).ownsRow B 3 1 (.slice (some ⟨W.heap.size,0,none⟩) 0 0) 0 (intV []):=World.ownsRow_lit _ _ _ hB (by unfold maxLen; omega) rfl
set_option maxRecDepth 100000 in
set_option maxHeartbeats 6400000 in
theorem specRoots_is (c : Cf) (a : Option Addr) (cap : Nat) (xs : List TE) (n : Int) (w : World) (C : CfAt c w) (K : CfOk c) (hr : FRow 11 cE w a xs) (hl0 : xs.length ≤ 1048576) (hl2 : confB c = true → xs.length ≤ 1048570) :
  Calls Tryz.prog 50 #[c.val,.slice a xs.length cap,I n] w fun en w' => ∃ (ra : Option Addr) (rc : Nat),en = .returned (.slice ra (rtSo c xs n).length rc) ∧ w'.ownsRow w.heap.size 3 1 (.slice ra (rtSo c xs n).length rc) (rtSo c xs n).length (intV (rtSo c xs n)) ∧ Below w.heap.size w w':=by
 obtain ⟨ie,hie,his⟩:=info_event
 obtain ⟨W1,hW1⟩ : ∃ W1,w.alloc (.cells #[.slice c.ua c.U.length c.uc,.slice c.sa c.S.length c.sc,.slice c.la c.L.length c.lc,.slice c.xa c.X.length c.xc,I c.k] 40) = W1:=⟨_,rfl⟩
 have B0 : Below w.heap.size w W1:=by rw [← hW1]; exact (Below.refl _ _).alloc (Nat.le_refl _) _
 have T0 : Blk w.heap.size c.cells W1:=by rw [← hW1]; exact Blk.new _ _ _
 obtain ⟨W2,hW2⟩ : ∃ W2,W1.alloc (.cells #[] 3) = W2:=⟨_,rfl⟩
 have hlit : W2.ownsRow w.heap.size 3 1 (.slice (some ⟨W1.heap.size,0,none⟩) 0 0) 0 (intV []):=by rw [← hW2]; exact lit0 _ _ B0.size
 have B1 : Below W1.heap.size W1 W2:=by rw [← hW2]; exact (Below.refl _ _).alloc (Nat.le_refl _) _
 have T1:=T0.later B1 T0.lt
 have B2:=B0.trans (B1.mono B0.size)
 have d0:=T1.at 0 rfl
 have d1:=T1.at 1 rfl
 have d2:=T1.at 2 rfl
 have d3:=T1.at 3 rfl
 have d4:=T1.at 4 rfl
 clear T0 B0 B1 T1
 go_enter Tryz.func50,Tryz.ntmps50
 go_wp2_with fail
 refine (cfSpecOk_is c W2 (C.later B2) K).mono ?_
 clear hW1 hW2 d0 d1 d2 d3 d4 C K
 rintro en w2 ⟨rfl,hb⟩
 replace B2:=B2.trans (hb.mono B2.size)
 replace hlit:=own_later hlit hb
 clear hb
 by_cases hc : confB c = true
 ·have hl:=hl2 hc
  rw [hc]
  have HV0 : Hid (rtSo c xs n = rtG xs (xs.length + 1) [] n):=by show _ = _; unfold rtSo; rw [if_pos hc]
  clear hc
  go_wp2
  go_loopw [2,7,8] (fun qv ov iv wr => ∃ (k f : Nat) (q : Int) (ys : List Int) (oa : Option Addr) (oc : Nat),k + f = xs.length + 1 ∧ Hid (ys.length ≤ k) ∧ iv = I k ∧ qv = I q ∧ ov = .slice oa ys.length oc ∧ Hid (rtSo c xs n = rtG xs f ys q) ∧ wr.ownsRow w.heap.size 3 1 (.slice oa ys.length oc) ys.length (intV ys) ∧ Below w.heap.size w wr) (fun _ _ iv _ => xs.length + 1 - (intOf iv).toNat)
  case atStart => exact ⟨0,xs.length + 1,n,[],_,_,by omega,Nat.le_refl _,rfl,rfl,rfl,HV0,hlit,B2⟩
  case round =>
   clear hlit B2 HV0
   obtain ⟨k,f,q,ys,oa,oc,hkf,hyl,rfl,rfl,rfl,HC,hown,hbel⟩:=hrel
   have hle : k ≤ xs.length + 1:=by omega
   cases f with
   | zero =>
    have hgt : ¬ ((k : Int) ≤ (xs.length : Int)):=by omega
    have HV : Hid (rtSo c xs n = []):=HC.out
    clear hown hyl
    go_wp2
    go_ret
    exact ⟨some ⟨wr.heap.size,0,none⟩,0,by rw [HV.out]; rfl,by rw [HV.out]; exact lit0 _ _ hbel.size,hbel.alloc hbel.size _⟩
   | succ f =>
    have hgt : ((k : Int) ≤ (xs.length : Int)):=by omega
    go_wp2_with fail
    refine (specFind_is a cap xs q wr (hr.later hbel) (by omega)).mono ?_
    rintro en w3 ⟨rfl,hb2⟩
    replace hown:=own_later hown hb2
    replace hbel:=hbel.trans (hb2.mono hbel.size)
    clear hb2
    rcases findN_cases xs q with hf | ⟨i,hf,hi2⟩
    ·have HV : Hid (rtSo c xs n = []):=HC.out.trans (rtG_no hf)
     rw [hf]
     clear hown hyl hf
     go_wp2
     go_ret
     exact ⟨some ⟨w3.heap.size,0,none⟩,0,by rw [HV.out]; rfl,by rw [HV.out]; exact lit0 _ _ hbel.size,hbel.alloc hbel.size _⟩
    ·have HC2:=HC.out.trans (rtG_yes hf hi2)
     rw [hf]
     clear hf HC
     obtain ⟨b1,o1,rfl,l1,hcc⟩:=hr i hi2
     have g0 : w3.cell? ⟨b1,o1 + i * 11,none⟩ = some (I xs[i].1):=(hbel.cell (p:=⟨b1,o1 + i * 11,none⟩) l1).trans (hcc 0 _ rfl)
     have g1 : w3.cell? ⟨b1,o1 + i * 11 + 1,none⟩ = some (I xs[i].2.1):=(hbel.cell (p:=⟨b1,o1 + i * 11 + 1,none⟩) l1).trans (hcc 1 _ rfl)
     have g2 : w3.cell? ⟨b1,o1 + i * 11 + 2,none⟩ = some (I xs[i].2.2.1):=(hbel.cell (p:=⟨b1,o1 + i * 11 + 2,none⟩) l1).trans (hcc 2 _ rfl)
     have g3 : w3.cell? ⟨b1,o1 + i * 11 + 3,none⟩ = some (I xs[i].2.2.2.1):=(hbel.cell (p:=⟨b1,o1 + i * 11 + 3,none⟩) l1).trans (hcc 3 _ rfl)
     have g4 : w3.cell? ⟨b1,o1 + i * 11 + 4,none⟩ = some (I xs[i].2.2.2.2.1):=(hbel.cell (p:=⟨b1,o1 + i * 11 + 4,none⟩) l1).trans (hcc 4 _ rfl)
     have g5 : w3.cell? ⟨b1,o1 + i * 11 + 5,none⟩ = some (I xs[i].2.2.2.2.2.1):=(hbel.cell (p:=⟨b1,o1 + i * 11 + 5,none⟩) l1).trans (hcc 5 _ rfl)
     have g6 : w3.cell? ⟨b1,o1 + i * 11 + 6,none⟩ = some (I xs[i].2.2.2.2.2.2.1):=(hbel.cell (p:=⟨b1,o1 + i * 11 + 6,none⟩) l1).trans (hcc 6 _ rfl)
     have g7 : w3.cell? ⟨b1,o1 + i * 11 + 7,none⟩ = some (I xs[i].2.2.2.2.2.2.2.1):=(hbel.cell (p:=⟨b1,o1 + i * 11 + 7,none⟩) l1).trans (hcc 7 _ rfl)
     have g8 : w3.cell? ⟨b1,o1 + i * 11 + 8,none⟩ = some (I xs[i].2.2.2.2.2.2.2.2.1):=(hbel.cell (p:=⟨b1,o1 + i * 11 + 8,none⟩) l1).trans (hcc 8 _ rfl)
     have g9 : w3.cell? ⟨b1,o1 + i * 11 + 9,none⟩ = some (I xs[i].2.2.2.2.2.2.2.2.2.1):=(hbel.cell (p:=⟨b1,o1 + i * 11 + 9,none⟩) l1).trans (hcc 9 _ rfl)
     have g10 : w3.cell? ⟨b1,o1 + i * 11 + 10,none⟩ = some (I xs[i].2.2.2.2.2.2.2.2.2.2):=(hbel.cell (p:=⟨b1,o1 + i * 11 + 10,none⟩) l1).trans (hcc 10 _ rfl)
     have hi3 : (i : Int) < (xs.length : Int):=by omega
     have nn : ¬ ((i : Int) < 0):=by omega
     generalize hp : xs[i] = p at HC2 g0 g1 g2 g3 g4 g5 g6 g7 g8 g9 g10
     clear hp hcc hr
     obtain ⟨p0,p1,p2,p3,p4,p5,p6,p7,p8,p9,p10⟩:=p
     replace HC2 : rtSo c xs n = (if p0 = 1 then (if pkV p2 = 0 ∨ ckV p1 = 0 then [] else putI (putI ys (pkV p2)) (ckV p1)) else if xS (p0,p1,p2,p3,p4,p5,p6,p7,p8,p9,p10) = 0 then [] else rtG xs f (putI ys (xS (p0,p1,p2,p3,p4,p5,p6,p7,p8,p9,p10))) p6):=HC2
     obtain ⟨V0,hV0⟩ : ∃ V0,w3.alloc (.cells #[I 0,I 0,I 0,I 0,I 0,I 0,I 0,I 0,I 0,I 0,I 0] 106) = V0:=⟨_,rfl⟩
     have T0 : Blk w3.heap.size [I 0,I 0,I 0,I 0,I 0,I 0,I 0,I 0,I 0,I 0,I 0] V0:=by rw [← hV0]; exact Blk.new _ _ _
     have bW0 : Below w3.heap.size w3 V0:=by rw [← hV0]; exact (Below.refl _ _).alloc (Nat.le_refl _) _
     obtain ⟨V1,hV1⟩ : ∃ V1,V0.setCells w3.heap.size 0 [I p0,I p1,I p2,I p3,I p4,I p5,I p6,I p7,I p8,I p9,I p10] = V1:=⟨_,rfl⟩
     have T1 : Blk w3.heap.size [I p0,I p1,I p2,I p3,I p4,I p5,I p6,I p7,I p8,I p9,I p10] V1:=by rw [← hV1]; exact T0.sets _ rfl
     have bW1 : Below w3.heap.size w3 V1:=by rw [← hV1]; exact below_sets (Nat.le_refl _) _ _ _ bW0
     replace hown:=own_later hown bW1
     replace hbel:=hbel.trans (bW1.mono hbel.size)
     have f0:=T1.at 0 rfl
     have f1:=T1.at 1 rfl
     have f2:=T1.at 2 rfl
     have f4:=T1.at 4 rfl
     have f6:=T1.at 6 rfl
     have hT1:=T1.lt
     clear bW0 bW1
     have hys : ys.length ≤ 1048576:=by have:=hyl.out; omega
     by_cases e1 : p0 = 1
     ·rw [if_pos e1] at HC2
      subst e1
      go_wp2_with (first | (refine wpList_stB 106 _ _ _ 0 _ [I 1,I p1,I p2,I p3,I p4,I p5,I p6,I p7,I p8,I p9,I p10] ie hie T0 his.symm (by simp) rfl rfl rfl rfl rfl ?_; rw [hV1]))
      refine (specPK_is p2 _).mono ?_
      rintro en w4 ⟨rfl,rfl⟩
      clear T0 hV0 hV1 g0 g1 g2 g3 g4 g5 g6 g7 g8 g9 g10
      go_wp2_with fail
      refine (specCK_is p1 _).mono ?_
      rintro en w4 ⟨rfl,rfl⟩
      generalize pkV p2 = x at HC2
      generalize ckV p1 = y at HC2
      by_cases ex : x = 0
      ·have HV : Hid (rtSo c xs n = []):=by show _ = _; rw [HC2,if_pos (Or.inl ex)]
       subst ex
       clear HC2 hown hyl
       go_wp2
       go_ret
       exact ⟨some ⟨V1.heap.size,0,none⟩,0,by rw [HV.out]; rfl,by rw [HV.out]; exact lit0 _ _ hbel.size,hbel.alloc hbel.size _⟩
      by_cases ey : y = 0
      ·have HV : Hid (rtSo c xs n = []):=by show _ = _; rw [HC2,if_pos (Or.inr ey)]
       subst ey
       have qx : (x == 0) = false:=beq_eq_false_iff_ne.2 ex
       clear HC2 hown hyl ex
       go_wp2
       go_ret
       exact ⟨some ⟨V1.heap.size,0,none⟩,0,by rw [HV.out]; rfl,by rw [HV.out]; exact lit0 _ _ hbel.size,hbel.alloc hbel.size _⟩
      have HV : Hid (rtSo c xs n = putI (putI ys x) y):=by show _ = _; rw [HC2,if_neg (by rintro (h | h) <;> contradiction)]
      have qx : (x == 0) = false:=beq_eq_false_iff_ne.2 ex
      have qy : (y == 0) = false:=beq_eq_false_iff_ne.2 ey
      clear HC2 ex ey
      have hp1:=putI_len ys x
      have KP:=l3Put_is w.heap.size _ ys x V1 hown hbel.size hys
      go_wp2_with fail
      refine KP.mono ?_
      clear KP
      rintro en w5 ⟨v5,rfl,ho5,hb5⟩
      replace hbel:=hbel.trans (hb5.mono hbel.size)
      clear hb5 hown
      have KP:=l3Put_is w.heap.size v5 (putI ys x) y w5 ho5 hbel.size (by have:=hyl.out; omega)
      generalize putI (putI ys x) y = R at KP HV
      go_wp2_with fail
      refine KP.mono ?_
      clear KP
      rintro en w6 ⟨v6,rfl,ho6,hb6⟩
      replace hbel:=hbel.trans (hb6.mono hbel.size)
      clear hb6 ho5
      obtain ⟨na,nc,rfl,_⟩:=own_shape ho6
      go_wp2
      go_ret
      exact ⟨na,nc,by rw [HV.out]; rfl,by rw [HV.out]; exact ho6,hbel⟩
     rw [if_neg e1] at HC2
     have q1 : (p0 == 1) = false:=beq_eq_false_iff_ne.2 e1
     by_cases e2 : p0 = 2
     ·by_cases hb : btw p4 0 2 = true
      ·have hb2:=(btw_iff _ _ _).1 hb
       have HX : xS (p0,p1,p2,p3,p4,p5,p6,p7,p8,p9,p10) = pkV (3 + p4):=by unfold xS kdE seE; dsimp only; rw [if_pos (Or.inl e2)]; rw [if_pos hb]
       rw [HX] at HC2
       have KI:=in_b p4 0 2 V1
       rw [hb] at KI
       clear HX hb e1
       subst e2
       go_wp2_with (first | (refine wpList_stB 106 _ _ _ 0 _ [I 2,I p1,I p2,I p3,I p4,I p5,I p6,I p7,I p8,I p9,I p10] ie hie T0 his.symm (by simp) rfl rfl rfl rfl rfl ?_; rw [hV1]))
       refine KI.mono ?_
       rintro en w4 ⟨rfl,rfl⟩
       clear KI
       clear T0 hV0 hV1 g0 g1 g2 g3 g4 g5 g6 g7 g8 g9 g10
       go_wp2_with fail
       refine (specPK_is (3 + p4) _).mono ?_
       rintro en w4 ⟨rfl,rfl⟩
       generalize pkV (3 + p4) = x at HC2
       clear hb2
       by_cases ex : x = 0
       ·have HV : Hid (rtSo c xs n = []):=by show _ = _; rw [HC2,if_pos ex]
        subst ex
        clear HC2 hown hyl
        go_wp2
        go_ret
        exact ⟨some ⟨V1.heap.size,0,none⟩,0,by rw [HV.out]; rfl,by rw [HV.out]; exact lit0 _ _ hbel.size,hbel.alloc hbel.size _⟩
       have HV : Hid (rtSo c xs n = rtG xs f (putI ys x) p6):=by show _ = _; rw [HC2,if_neg ex]
       have qx : (x == 0) = false:=beq_eq_false_iff_ne.2 ex
       clear HC2 ex
       have hp1:=putI_len ys x
       have KP:=l3Put_is w.heap.size _ ys x V1 hown hbel.size hys
       have HL : Hid ((putI ys x).length ≤ k + 1):=by have:=hyl.out; show _ ≤ _; omega
       clear hp1 hyl hys
       generalize putI ys x = R at KP HV HL
       go_wp2_with fail
       refine KP.mono ?_
       clear KP
       rintro en w5 ⟨v5,rfl,ho5,hb5⟩
       have f6:=(T1.later hb5 hT1).at 6 rfl
       replace hbel:=hbel.trans (hb5.mono hbel.size)
       clear hb5 hown
       obtain ⟨na,nc,rfl,_⟩:=own_shape ho5
       have HR : Hid (∃ (k' f' : Nat) (q' : Int) (ys' : List Int) (oa' : Option Addr) (oc' : Nat),k' + f' = xs.length + 1 ∧ Hid (ys'.length ≤ k') ∧ Value.int .i64 ((k : Int) + 1) = I k' ∧ Value.int .i64 p6 = I q' ∧ Value.slice na R.length nc = .slice oa' ys'.length oc' ∧ Hid (rtSo c xs n = rtG xs f' ys' q') ∧ w5.ownsRow w.heap.size 3 1 (.slice oa' ys'.length oc') ys'.length (intV ys') ∧ Below w.heap.size w w5):=⟨k + 1,f,p6,R,na,nc,by omega,HL,by go_num,rfl,rfl,HV,ho5,hbel⟩
       clear T1 HL HV ho5 hbel
       go_wp2
       go_roundw
       case rel => exact HR.out
       case measure => simp [intOf]; omega
      ·rw [Bool.not_eq_true] at hb
       have HX : xS (p0,p1,p2,p3,p4,p5,p6,p7,p8,p9,p10) = 0:=by unfold xS kdE seE; dsimp only; rw [if_pos (Or.inl e2)]; rw [hb]; rfl
       have HV : Hid (rtSo c xs n = []):=by show _ = _; rw [HC2,if_pos HX]
       have KI:=in_b p4 0 2 V1
       rw [hb] at KI
       clear HX hb e1 HC2 hown hyl
       subst e2
       go_wp2_with (first | (refine wpList_stB 106 _ _ _ 0 _ [I 2,I p1,I p2,I p3,I p4,I p5,I p6,I p7,I p8,I p9,I p10] ie hie T0 his.symm (by simp) rfl rfl rfl rfl rfl ?_; rw [hV1]))
       refine KI.mono ?_
       rintro en w4 ⟨rfl,rfl⟩
       clear KI
       clear T0 hV0 hV1 g0 g1 g2 g3 g4 g5 g6 g7 g8 g9 g10
       go_wp2
       go_ret
       exact ⟨some ⟨V1.heap.size,0,none⟩,0,by rw [HV.out]; rfl,by rw [HV.out]; exact lit0 _ _ hbel.size,hbel.alloc hbel.size _⟩
     have q2 : (p0 == 2) = false:=beq_eq_false_iff_ne.2 e2
     by_cases e4 : p0 = 4
     ·by_cases hb : btw p4 0 2 = true
      ·have hb2:=(btw_iff _ _ _).1 hb
       have HX : xS (p0,p1,p2,p3,p4,p5,p6,p7,p8,p9,p10) = pkV (3 + p4):=by unfold xS kdE seE; dsimp only; rw [if_pos (Or.inr e4)]; rw [if_pos hb]
       rw [HX] at HC2
       have KI:=in_b p4 0 2 V1
       rw [hb] at KI
       clear HX hb e1
       subst e4
       go_wp2_with (first | (refine wpList_stB 106 _ _ _ 0 _ [I 4,I p1,I p2,I p3,I p4,I p5,I p6,I p7,I p8,I p9,I p10] ie hie T0 his.symm (by simp) rfl rfl rfl rfl rfl ?_; rw [hV1]))
       refine KI.mono ?_
       rintro en w4 ⟨rfl,rfl⟩
       clear KI
       clear T0 hV0 hV1 g0 g1 g2 g3 g4 g5 g6 g7 g8 g9 g10
       go_wp2_with fail
       refine (specPK_is (3 + p4) _).mono ?_
       rintro en w4 ⟨rfl,rfl⟩
       generalize pkV (3 + p4) = x at HC2
       clear hb2
       by_cases ex : x = 0
       ·have HV : Hid (rtSo c xs n = []):=by show _ = _; rw [HC2,if_pos ex]
        subst ex
        clear HC2 hown hyl
        go_wp2
        go_ret
        exact ⟨some ⟨V1.heap.size,0,none⟩,0,by rw [HV.out]; rfl,by rw [HV.out]; exact lit0 _ _ hbel.size,hbel.alloc hbel.size _⟩
       have HV : Hid (rtSo c xs n = rtG xs f (putI ys x) p6):=by show _ = _; rw [HC2,if_neg ex]
       have qx : (x == 0) = false:=beq_eq_false_iff_ne.2 ex
       clear HC2 ex
       have hp1:=putI_len ys x
       have KP:=l3Put_is w.heap.size _ ys x V1 hown hbel.size hys
       have HL : Hid ((putI ys x).length ≤ k + 1):=by have:=hyl.out; show _ ≤ _; omega
       clear hp1 hyl hys
       generalize putI ys x = R at KP HV HL
       go_wp2_with fail
       refine KP.mono ?_
       clear KP
       rintro en w5 ⟨v5,rfl,ho5,hb5⟩
       have f6:=(T1.later hb5 hT1).at 6 rfl
       replace hbel:=hbel.trans (hb5.mono hbel.size)
       clear hb5 hown
       obtain ⟨na,nc,rfl,_⟩:=own_shape ho5
       have HR : Hid (∃ (k' f' : Nat) (q' : Int) (ys' : List Int) (oa' : Option Addr) (oc' : Nat),k' + f' = xs.length + 1 ∧ Hid (ys'.length ≤ k') ∧ Value.int .i64 ((k : Int) + 1) = I k' ∧ Value.int .i64 p6 = I q' ∧ Value.slice na R.length nc = .slice oa' ys'.length oc' ∧ Hid (rtSo c xs n = rtG xs f' ys' q') ∧ w5.ownsRow w.heap.size 3 1 (.slice oa' ys'.length oc') ys'.length (intV ys') ∧ Below w.heap.size w w5):=⟨k + 1,f,p6,R,na,nc,by omega,HL,by go_num,rfl,rfl,HV,ho5,hbel⟩
       clear T1 HL HV ho5 hbel
       go_wp2
       go_roundw
       case rel => exact HR.out
       case measure => simp [intOf]; omega
      ·rw [Bool.not_eq_true] at hb
       have HX : xS (p0,p1,p2,p3,p4,p5,p6,p7,p8,p9,p10) = 0:=by unfold xS kdE seE; dsimp only; rw [if_pos (Or.inr e4)]; rw [hb]; rfl
       have HV : Hid (rtSo c xs n = []):=by show _ = _; rw [HC2,if_pos HX]
       have KI:=in_b p4 0 2 V1
       rw [hb] at KI
       clear HX hb e1 HC2 hown hyl
       subst e4
       go_wp2_with (first | (refine wpList_stB 106 _ _ _ 0 _ [I 4,I p1,I p2,I p3,I p4,I p5,I p6,I p7,I p8,I p9,I p10] ie hie T0 his.symm (by simp) rfl rfl rfl rfl rfl ?_; rw [hV1]))
       refine KI.mono ?_
       rintro en w4 ⟨rfl,rfl⟩
       clear KI
       clear T0 hV0 hV1 g0 g1 g2 g3 g4 g5 g6 g7 g8 g9 g10
       go_wp2
       go_ret
       exact ⟨some ⟨V1.heap.size,0,none⟩,0,by rw [HV.out]; rfl,by rw [HV.out]; exact lit0 _ _ hbel.size,hbel.alloc hbel.size _⟩
     have q4 : (p0 == 4) = false:=beq_eq_false_iff_ne.2 e4
     by_cases e3 : p0 = 3
     ·by_cases hb : btw p4 10 12 = true
      ·have hb2:=(btw_iff _ _ _).1 hb
       have HX : xS (p0,p1,p2,p3,p4,p5,p6,p7,p8,p9,p10) = lkV p1 (p4 - 10):=by unfold xS kdE seE reE; dsimp only; rw [if_neg (by omega),if_pos e3]; rw [if_pos hb]
       rw [HX] at HC2
       have KI:=in_b p4 10 12 V1
       rw [hb] at KI
       clear HX hb e1
       subst e3
       go_wp2_with (first | (refine wpList_stB 106 _ _ _ 0 _ [I 3,I p1,I p2,I p3,I p4,I p5,I p6,I p7,I p8,I p9,I p10] ie hie T0 his.symm (by simp) rfl rfl rfl rfl rfl ?_; rw [hV1]))
       refine KI.mono ?_
       rintro en w4 ⟨rfl,rfl⟩
       clear KI
       clear T0 hV0 hV1 g0 g1 g2 g3 g4 g5 g6 g7 g8 g9 g10
       go_wp2_with fail
       refine (specLK_is p1 (p4 - 10) _).mono ?_
       rintro en w4 ⟨rfl,rfl⟩
       generalize lkV p1 (p4 - 10) = x at HC2
       clear hb2
       by_cases ex : x = 0
       ·have HV : Hid (rtSo c xs n = []):=by show _ = _; rw [HC2,if_pos ex]
        subst ex
        clear HC2 hown hyl
        go_wp2
        go_ret
        exact ⟨some ⟨V1.heap.size,0,none⟩,0,by rw [HV.out]; rfl,by rw [HV.out]; exact lit0 _ _ hbel.size,hbel.alloc hbel.size _⟩
       have HV : Hid (rtSo c xs n = rtG xs f (putI ys x) p6):=by show _ = _; rw [HC2,if_neg ex]
       have qx : (x == 0) = false:=beq_eq_false_iff_ne.2 ex
       clear HC2 ex
       have hp1:=putI_len ys x
       have KP:=l3Put_is w.heap.size _ ys x V1 hown hbel.size hys
       have HL : Hid ((putI ys x).length ≤ k + 1):=by have:=hyl.out; show _ ≤ _; omega
       clear hp1 hyl hys
       generalize putI ys x = R at KP HV HL
       go_wp2_with fail
       refine KP.mono ?_
       clear KP
       rintro en w5 ⟨v5,rfl,ho5,hb5⟩
       have f6:=(T1.later hb5 hT1).at 6 rfl
       replace hbel:=hbel.trans (hb5.mono hbel.size)
       clear hb5 hown
       obtain ⟨na,nc,rfl,_⟩:=own_shape ho5
       have HR : Hid (∃ (k' f' : Nat) (q' : Int) (ys' : List Int) (oa' : Option Addr) (oc' : Nat),k' + f' = xs.length + 1 ∧ Hid (ys'.length ≤ k') ∧ Value.int .i64 ((k : Int) + 1) = I k' ∧ Value.int .i64 p6 = I q' ∧ Value.slice na R.length nc = .slice oa' ys'.length oc' ∧ Hid (rtSo c xs n = rtG xs f' ys' q') ∧ w5.ownsRow w.heap.size 3 1 (.slice oa' ys'.length oc') ys'.length (intV ys') ∧ Below w.heap.size w w5):=⟨k + 1,f,p6,R,na,nc,by omega,HL,by go_num,rfl,rfl,HV,ho5,hbel⟩
       clear T1 HL HV ho5 hbel
       go_wp2
       go_roundw
       case rel => exact HR.out
       case measure => simp [intOf]; omega
      ·rw [Bool.not_eq_true] at hb
       have HX : xS (p0,p1,p2,p3,p4,p5,p6,p7,p8,p9,p10) = 0:=by unfold xS kdE seE; dsimp only; rw [if_neg (by omega),if_pos e3]; rw [hb]; rfl
       have HV : Hid (rtSo c xs n = []):=by show _ = _; rw [HC2,if_pos HX]
       have KI:=in_b p4 10 12 V1
       rw [hb] at KI
       clear HX hb e1 HC2 hown hyl
       subst e3
       go_wp2_with (first | (refine wpList_stB 106 _ _ _ 0 _ [I 3,I p1,I p2,I p3,I p4,I p5,I p6,I p7,I p8,I p9,I p10] ie hie T0 his.symm (by simp) rfl rfl rfl rfl rfl ?_; rw [hV1]))
       refine KI.mono ?_
       rintro en w4 ⟨rfl,rfl⟩
       clear KI
       clear T0 hV0 hV1 g0 g1 g2 g3 g4 g5 g6 g7 g8 g9 g10
       go_wp2
       go_ret
       exact ⟨some ⟨V1.heap.size,0,none⟩,0,by rw [HV.out]; rfl,by rw [HV.out]; exact lit0 _ _ hbel.size,hbel.alloc hbel.size _⟩
     have q3 : (p0 == 3) = false:=beq_eq_false_iff_ne.2 e3
     have HX : xS (p0,p1,p2,p3,p4,p5,p6,p7,p8,p9,p10) = 0:=by unfold xS kdE; dsimp only; rw [if_neg (by omega),if_neg e3]
     have HV : Hid (rtSo c xs n = []):=by show _ = _; rw [HC2,if_pos HX]
     clear HX HC2 hown hyl e1 e2 e3 e4
     go_wp2_with (first | (refine wpList_stB 106 _ _ _ 0 _ [I p0,I p1,I p2,I p3,I p4,I p5,I p6,I p7,I p8,I p9,I p10] ie hie T0 his.symm (by simp) rfl rfl rfl rfl rfl ?_; rw [hV1]))
     all_goals
      go_ret
      exact ⟨some ⟨V1.heap.size,0,none⟩,0,by rw [HV.out]; rfl,by rw [HV.out]; exact lit0 _ _ hbel.size,hbel.alloc hbel.size _⟩
 ·rw [Bool.not_eq_true] at hc
  have HV : Hid (rtSo c xs n = []):=by show _ = _; unfold rtSo; rw [hc]; rfl
  rw [hc]
  clear hc hr
  go_wp2
  go_ret
  rw [HV.out]
  exact ⟨_,0,rfl,hlit,B2⟩
end Go.Proofs.YtlmpfkbgknbcnaaGreat.Nd
