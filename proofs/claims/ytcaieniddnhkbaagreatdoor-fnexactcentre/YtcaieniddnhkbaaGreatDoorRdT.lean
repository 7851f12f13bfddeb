/- Tickets: what a text is read as. -/
import Derived.Test.YtcaieniddnhkbaaGreatDoorAb
import Derived.Test.YtcaieniddnhkbaaGreatDoorFillT
set_option linter.unusedVariables false
namespace Go.Proofs.YtcaieniddnhkbaaGreatDoor
open Go Go.RowKit Go.Joins Own Var Term
def rtX (s:ByteArray) (key:Int) (i:Nat):ByteArray:=(partsR (openR s key).1).1.getD i ⟨#[]⟩
def rtF (s:ByteArray) (key:Int):List Int :=
 [(numsR (rtX s key 0)).1.getD 0 0,(numsR (rtX s key 0)).1.getD 1 0,(keyR (rtX s key 1)).1,rdA (numsR (rtX s key 2)).1,rdB (numsR (rtX s key 2)).1,rdC (numsR (rtX s key 2)).1]
def rtK (s:ByteArray) (key:Int):Bool :=
 decide ((partsR (openR s key).1).1.length=5) && ((numsR (rtX s key 0)).2 && ((keyR (rtX s key 1)).2 && (rdK (numsR (rtX s key 2)).1 && ((numsR (rtX s key 3)).2 && ((numsR (rtX s key 4)).2 && (decide ((numsR (rtX s key 0)).1.length=2) &&
  tOk ((rtF s key).getD 0 0) ((rtF s key).getD 1 0) ((rtF s key).getD 2 0) ((rtF s key).getD 3 0) ((rtF s key).getD 4 0) ((rtF s key).getD 5 0) (numsR (rtX s key 3)).1 (numsR (rtX s key 4)).1))))))
def rtN (s:ByteArray) (key:Int) (i:Nat):Int:=if rtK s key then (rtF s key).getD i 0 else 0
def rtP (s:ByteArray) (key:Int):List Int:=if rtK s key then (numsR (rtX s key 3)).1 else []
def rtV (s:ByteArray) (key:Int):List Int:=if rtK s key then (numsR (rtX s key 4)).1 else []
theorem rtN_no {s:ByteArray} {key:Int} (h:rtK s key=false) (i:Nat):rtN s key i=0:=by unfold rtN;rw [h];rfl
theorem rtP_no {s:ByteArray} {key:Int} (h:rtK s key=false):rtP s key=[]:=by unfold rtP;rw [h];rfl
theorem rtV_no {s:ByteArray} {key:Int} (h:rtK s key=false):rtV s key=[]:=by unfold rtV;rw [h];rfl
theorem rtK_not {s:ByteArray} {key:Int} (h:(partsR (openR s key).1).1.length≠5):rtK s key=false:=by
 unfold rtK
 rw [decide_eq_false h]
 rfl
theorem rtX_at {s:ByteArray} {key:Int} {x0 x1 x2 x3 x4:ByteArray} (h:(partsR (openR s key).1).1=[x0,x1,x2,x3,x4]):rtX s key 0=x0∧rtX s key 1=x1∧rtX s key 2=x2∧rtX s key 3=x3∧rtX s key 4=x4:=by
 unfold rtX
 rw [h]
 exact ⟨rfl,rfl,rfl,rfl,rfl⟩
theorem rtK_five {s:ByteArray} {key:Int} {x0 x1 x2 x3 x4:ByteArray} (h:(partsR (openR s key).1).1=[x0,x1,x2,x3,x4]) :
  rtK s key=((numsR x0).2 && ((keyR x1).2 && (rdK (numsR x2).1 && ((numsR x3).2 && ((numsR x4).2 && (decide ((numsR x0).1.length=2) &&
   tOk ((numsR x0).1.getD 0 0) ((numsR x0).1.getD 1 0) (keyR x1).1 (rdA (numsR x2).1) (rdB (numsR x2).1) (rdC (numsR x2).1) (numsR x3).1 (numsR x4).1)))))):=by
 obtain ⟨e0,e1,e2,e3,e4⟩:=rtX_at h
 unfold rtK rtF
 rw [e0,e1,e2,e3,e4,h]
 rfl
theorem rt_five {s:ByteArray} {key:Int} {x0 x1 x2 x3 x4:ByteArray} {c sv:Int} (h:(partsR (openR s key).1).1=[x0,x1,x2,x3,x4]) (hw:(numsR x0).1=[c,sv]) (hk:rtK s key=true) :
  rtN s key 0=c∧rtN s key 1=sv∧rtN s key 2=(keyR x1).1∧rtN s key 3=rdA (numsR x2).1∧rtN s key 4=rdB (numsR x2).1∧rtN s key 5=rdC (numsR x2).1∧rtP s key=(numsR x3).1∧rtV s key=(numsR x4).1:=by
 obtain ⟨e0,e1,e2,e3,e4⟩:=rtX_at h
 unfold rtN rtF rtP rtV
 rw [hk,e0,e1,e2,e3,e4,hw]
 exact ⟨rfl,rfl,rfl,rfl,rfl,rfl,rfl,rfl⟩
theorem told_ticket (s:ByteArray) (key:Int) (x0 x1 x2 x3 x4:ByteArray) (hx:just (⟨#[]⟩:ByteArray) (partsR (openR s key).1).1 5=[x0,x1,x2,x3,x4]) (c sv:Int) (hw:just 0 (numsR x0).1 2=[c,sv]) :
  toldB (shT c sv (keyR x1).1 (rdA (numsR x2).1) (rdB (numsR x2).1) (rdC (numsR x2).1) (numsR x3).1 (numsR x4).1 key) s=rtK s key ∧
  (rtK s key=true→rtN s key 0=c∧rtN s key 1=sv∧rtN s key 2=(keyR x1).1∧rtN s key 3=rdA (numsR x2).1∧rtN s key 4=rdB (numsR x2).1∧rtN s key 5=rdC (numsR x2).1∧rtP s key=(numsR x3).1∧rtV s key=(numsR x4).1):=by
 have HI:=tick_iff s key x0 x1 x2 x3 x4 c sv (by unfold just at hx;exact hx.symm) (by unfold just at hw;exact hw.symm)
 generalize hX:shT c sv (keyR x1).1 (rdA (numsR x2).1) (rdB (numsR x2).1) (rdC (numsR x2).1) (numsR x3).1 (numsR x4).1 key=X at HI ⊢
 have HT:toldB X s=true ↔ (X.size≠0∧X=s):=by unfold toldB;simp
 by_cases h5:(partsR (openR s key).1).1.length=5
 ·have hL:(partsR (openR s key).1).1=[x0,x1,x2,x3,x4]:=by unfold just at hx;rw [if_pos h5] at hx;exact hx
  by_cases h2:(numsR x0).1.length=2
  ·have hN:(numsR x0).1=[c,sv]:=by unfold just at hw;rw [if_pos h2] at hw;exact hw
   refine ⟨?_,rt_five hL hN⟩
   rw [Bool.eq_iff_iff,HT,HI,rtK_five hL,hN]
   simp only [Bool.and_eq_true,decide_eq_true_eq]
   exact ⟨fun h=>⟨h.2.1,h.2.2.1,h.2.2.2.1,h.2.2.2.2.1,h.2.2.2.2.2.1,rfl,h.2.2.2.2.2.2.2⟩,fun h=>⟨h5,h.1,h.2.1,h.2.2.1,h.2.2.2.1,h.2.2.2.2.1,rfl,h.2.2.2.2.2.2⟩⟩
  ·have hk:rtK s key=false:=by rw [rtK_five hL,decide_eq_false h2];simp
   refine ⟨?_,fun h=>by rw [hk] at h;cases h⟩
   rw [hk,Bool.eq_false_iff]
   intro h
   exact h2 (HI.1 (HT.1 h)).2.2.2.2.2.2.1
 ·have hk:=rtK_not h5
  refine ⟨?_,fun h=>by rw [hk] at h;cases h⟩
  rw [hk,Bool.eq_false_iff]
  intro h
  exact h5 (HI.1 (HT.1 h)).1
theorem own_fill8 {W:World} {base n q:Nat} {e:TypeId} {v:Value} {xs:List Value} (h:W.ownsRow base e 1 v n xs) (hn:∀ k,v.ownBlock=some k→k≠q) (v0 v1 v2 v3 v4 v5 v6 v7:Value):(((((((((W).setCell ⟨q,0,none⟩ (v0)).setCell ⟨q,1,none⟩ (v1)).setCell ⟨q,2,none⟩ (v2)).setCell ⟨q,3,none⟩ (v3)).setCell ⟨q,4,none⟩ (v4)).setCell ⟨q,5,none⟩ (v5)).setCell ⟨q,6,none⟩ (v6)).setCell ⟨q,7,none⟩ (v7)).ownsRow base e 1 v n xs:=(own_set (own_set (own_set (own_set (own_set (own_set (own_set (own_set h q 0 v0 hn) q 1 v1 hn) q 2 v2 hn) q 3 v3 hn) q 4 v4 hn) q 5 v5 hn) q 6 v6 hn) q 7 v7 hn)
set_option maxRecDepth 100000 in
set_option maxHeartbeats 12800000 in
theorem implReadT_is (s:ByteArray) (key:Int) (w:World) (hs:s.size≤1048576):Calls Tryz.prog 155 #[.string s,I key] w fun en w'=>∃ (ua:Option Addr) (uc:Nat) (va:Option Addr) (vc:Nat),en=.returned (.tuple #[.agg #[I (rtN s key 0),I (rtN s key 1),I (rtN s key 2),I (rtN s key 3),I (rtN s key 4),I (rtN s key 5),.slice ua (rtP s key).length uc,.slice va (rtV s key).length vc],.bool (rtK s key)]) ∧
   w'.ownsRow w.heap.size 3 1 (.slice ua (rtP s key).length uc) (rtP s key).length (intV (rtP s key))∧w'.ownsRow w.heap.size 3 1 (.slice va (rtV s key).length vc) (rtV s key).length (intV (rtV s key)) ∧
   Apart (.slice ua (rtP s key).length uc) (.slice va (rtV s key).length vc)∧Below w.heap.size w w':=by
 obtain ⟨x0,x1,x2,x3,x4,hx⟩:∃ x0 x1 x2 x3 x4,just (⟨#[]⟩:ByteArray) (partsR (openR s key).1).1 5=[x0,x1,x2,x3,x4]:=by
  have hl:=just_len (⟨#[]⟩:ByteArray) (partsR (openR s key).1).1 5
  match just (⟨#[]⟩:ByteArray) (partsR (openR s key).1).1 5,hl with
  | [x0,x1,x2,x3,x4],_=>exact ⟨x0,x1,x2,x3,x4,rfl⟩
 obtain ⟨c,sv,hw⟩:∃ c sv,just 0 (numsR x0).1 2=[c,sv]:=by
  have hl:=just_len 0 (numsR x0).1 2
  match just 0 (numsR x0).1 2,hl with
  | [c,sv],_=>exact ⟨c,sv,rfl⟩
 have hsv:i64 sv:=just_i64 x0 2 sv (by rw [hw];simp)
 have HTD:=told_ticket s key x0 x1 x2 x3 x4 hx c sv hw
 have lP:(numsR x3).1.length≤1048576:=Nat.le_trans (numsR_len x3) (by omega)
 have lV:(numsR x4).1.length≤1048576:=Nat.le_trans (numsR_len x4) (by omega)
 obtain ⟨W2,hW2⟩:∃ W2,(w.alloc (.cells #[I 0,I 0,I 0,I 0,I 0,I 0,.slice none 0 0,.slice none 0 0] 43)).alloc (.cells #[I 0,I 0,I 0,I 0,I 0,I 0,.slice none 0 0,.slice none 0 0,I key] 196)=W2:=⟨_,rfl⟩
 have B2:Below w.heap.size w W2:=by rw [← hW2];exact ((Below.refl _ _).alloc (Nat.le_refl _) _).alloc (by simp) _
 have R2:Blk w.heap.size [I 0,I 0,I 0,I 0,I 0,I 0,.slice none 0 0,.slice none 0 0] W2:=by rw [← hW2];exact (Blk.new w #[I 0,I 0,I 0,I 0,I 0,I 0,.slice none 0 0,.slice none 0 0] _).alloc (by simp) _
 have T2:Blk (w.heap.size + 1) [I 0,I 0,I 0,I 0,I 0,I 0,.slice none 0 0,.slice none 0 0,I key] W2:=by rw [← hW2];have:=Blk.new (w.alloc (.cells #[I 0,I 0,I 0,I 0,I 0,I 0,.slice none 0 0,.slice none 0 0] 43)) #[I 0,I 0,I 0,I 0,I 0,I 0,.slice none 0 0,.slice none 0 0,I key] 196;simpa using this
 have Z2:w.heap.size + 2≤W2.heap.size:=by rw [← hW2];simp
 have HF:=fillT_is (w.heap.size + 1) 0 0 0 0 0 0 key s W2 T2 (by omega) hs x0 x1 x2 x3 x4 hx c sv hw
 clear hx hw T2
 generalize (keyR x1).1=kv at HF HTD
 generalize rdA (numsR x2).1=ra at HF HTD
 generalize rdB (numsR x2).1=rb at HF HTD
 generalize rdC (numsR x2).1=rc at HF HTD
 generalize (numsR x3).1=PL at HF HTD lP
 generalize (numsR x4).1=VL at HF HTD lV
 have NR:∀ (w:World) (ua:Option Addr) (uc:Nat) (va:Option Addr) (vc:Nat),w.ownsRow W2.heap.size 3 1 (.slice ua PL.length uc) PL.length (intV PL)→w.ownsRow W2.heap.size 3 1 (.slice va VL.length vc) VL.length (intV VL)→Apart (.slice ua PL.length uc) (.slice va VL.length vc) →
   ∃ (qa:Option Addr) (qc:Nat) (ta:Option Addr) (tc:Nat),(∀ w,Calls Tryz.prog 182 #[.agg #[I c,I sv,I kv,I ra,I rb,I rc,.slice ua PL.length uc,.slice va VL.length vc,I key],.string (shT c sv kv ra rb rc PL VL key),.string s] w fun en w'=>en=.returned (.tuple #[.agg #[I (rtN s key 0),I (rtN s key 1),I (rtN s key 2),I (rtN s key 3),I (rtN s key 4),I (rtN s key 5),.slice qa (rtP s key).length qc,.slice ta (rtV s key).length tc],.bool (rtK s key)])∧Below w.heap.size w w') ∧
    w.ownsRow W2.heap.size 3 1 (.slice qa (rtP s key).length qc) (rtP s key).length (intV (rtP s key))∧w.ownsRow W2.heap.size 3 1 (.slice ta (rtV s key).length tc) (rtV s key).length (intV (rtV s key))∧Apart (.slice qa (rtP s key).length qc) (.slice ta (rtV s key).length tc):=by
  intro w ua uc va vc ou ov ap
  have TT:=fun w=>toldT_is c sv kv ra rb rc ua PL.length uc va VL.length vc key (shT c sv kv ra rb rc PL VL key) s w
  rw [HTD.1] at TT
  cases hk:rtK s key with
  | true =>
   obtain ⟨e0,e1,e2,e3,e4,e5,eP,eV⟩:=HTD.2 hk
   rw [hk] at TT
   rw [e0,e1,e2,e3,e4,e5,eP,eV]
   exact ⟨ua,uc,va,vc,TT,ou,ov,ap⟩
  | false =>
   rw [hk] at TT
   rw [rtN_no hk,rtN_no hk,rtN_no hk,rtN_no hk,rtN_no hk,rtN_no hk,rtP_no hk,rtV_no hk]
   exact ⟨none,0,none,0,TT,World.ownsRow_nil _ _ _ _,World.ownsRow_nil _ _ _ _,apart_nil _⟩
 clear HTD
 generalize rtN s key 0=y0 at NR ⊢
 generalize rtN s key 1=y1 at NR ⊢
 generalize rtN s key 2=y2 at NR ⊢
 generalize rtN s key 3=y3 at NR ⊢
 generalize rtN s key 4=y4 at NR ⊢
 generalize rtN s key 5=y5 at NR ⊢
 generalize rtK s key=kk at NR ⊢
 generalize rtP s key=QP at NR ⊢
 generalize rtV s key=QV at NR ⊢
 have ZH:Hid (w.heap.size + 2≤W2.heap.size):=Z2
 clear Z2
 go_enter Tryz.func155,Tryz.ntmps155
 go_wp2_with fail
 try rw [hW2]
 refine HF.mono ?_
 clear hW2 HF
 rintro en w3 ⟨ua,uc,va,vc,rfl,TC,ou,ov,ap,hb3⟩
 obtain ⟨qa,qc,ta,tc,HT,OU,OV,AP⟩:=NR w3 ua uc va vc ou ov ap
 have OX:RowAt (Value.int .i64) w3.drew ua PL:=own_rowAt (f:=Value.int .i64) ou
 have OY:RowAt (Value.int .i64) w3.drew va VL:=own_rowAt (f:=Value.int .i64) ov
 have HS:=fun w hx hy=>showT_is c sv kv ra rb rc ua PL uc va VL vc key w hsv hx hy lP lV
 generalize shT c sv kv ra rb rc PL VL key=X at HT HS
 have RR:=R2.lower hb3 (by omega)
 have ZC:Hid (w.heap.size + 2≤w3.heap.size):=Nat.le_trans ZH.out hb3.size
 have BC:=B2.trans (hb3.mono (by omega))
 have BZ:w.heap.size + 2≤W2.heap.size:=ZH.out
 clear R2 ZH B2 hb3 NR ou ov ap
 go_wp2_with fail
 have TCD:=TC.drew
 have BCD:=BC.drew
 have RRD:=RR.drew
 have ZCD:Hid (w.heap.size + 2≤w3.drew.heap.size):=ZC
 have OUD:w3.drew.ownsRow _ _ _ _ _ _:=OU
 have OVD:w3.drew.ownsRow _ _ _ _ _ _:=OV
 clear TC BC ZC RR OU OV
 have TC:=TCD
 have BC:=BCD
 have RR:=RRD
 have ZC:=ZCD
 have OU:=OUD
 have OV:=OVD
 clear TCD BCD RRD ZCD OUD OVD
 refine wp_region_held_drew (S:=(fun Vw=>Blk (w.heap.size + 1) [I c,I sv,I kv,I ra,I rb,I rc,.slice ua PL.length uc,.slice va VL.length vc,I key] Vw)) (by kernel_rfl) TC (fun hH=>?_)
 refine tk 0 12 rfl _ hH (by intro w' h;have d0:=h.e9;go_simp;try with_reducible rfl) ?_
 try simp only [Act.put,pa,pb,pc]
 refine tk 1 13 rfl _ hH (by intro w' h;have d0:=h.e9;go_simp;try with_reducible rfl) ?_
 try simp only [Act.put,pa,pb,pc]
 refine tk 2 14 rfl _ hH (by intro w' h;have d0:=h.e9;go_simp;try with_reducible rfl) ?_
 try simp only [Act.put,pa,pb,pc]
 refine tk 4 16 rfl _ hH (by intro w' h;have d0:=h.e9;go_simp;try with_reducible rfl) ?_
 try simp only [Act.put,pa,pb,pc]
 have HS1:=HS _ OX OY
 refine wpAnyH_ready (rs:=[3]) (by kernel_rfl) (by simp) ?_
 refine AllReadyH.cons (i:=3) rfl (fun K hK=>?_) AllReadyH.nil
 go_simp
 refine (HS1).mono ?_
 rintro en v11 ⟨rfl,hv11⟩
 have TN:=TC.later hv11 (by have:=ZC.out;omega)
 have ZN:Hid (w.heap.size + 2≤v11.heap.size):=Nat.le_trans ZC.out hv11.size
 have BN:=BC.trans (hv11.mono BC.size)
 have RRN:=RR.lower hv11 (by have:=ZC.out;omega)
 have OUN:=own_later OU hv11
 have OVN:=own_later OV hv11
 clear TC ZC BC
 have TC:=TN
 have ZC:=ZN
 have BC:=BN
 clear TN ZN BN
 clear RR
 have RR:=RRN
 clear RRN
 clear OU
 have OU:=OUN
 clear OUN
 clear OV
 have OV:=OVN
 clear OVN
 clear hv11
 go_wp2_with fail
 refine hK.out _ _ TC (fun hJ=>?_)
 clear hK K hH
 have hH:=hJ
 clear hJ
 try simp only [Act.put,pa,pb,pc]
 clear HS1 HS
 refine wpAnyH_ready (rs:=[5]) (by kernel_rfl) (by simp) ?_
 refine AllReadyH.cons (i:=5) rfl (fun K hK=>?_) AllReadyH.nil
 go_simp
 refine (HT _).mono ?_
 rintro en v12 ⟨rfl,hv12⟩
 have TN:=TC.later hv12 (by have:=ZC.out;omega)
 have ZN:Hid (w.heap.size + 2≤v12.heap.size):=Nat.le_trans ZC.out hv12.size
 have BN:=BC.trans (hv12.mono BC.size)
 have RRN:=RR.lower hv12 (by have:=ZC.out;omega)
 have OUN:=own_later OU hv12
 have OVN:=own_later OV hv12
 clear TC ZC BC
 have TC:=TN
 have ZC:=ZN
 have BC:=BN
 clear TN ZN BN
 clear RR
 have RR:=RRN
 clear RRN
 clear OU
 have OU:=OUN
 clear OUN
 clear OV
 have OV:=OVN
 clear OVN
 clear hv12
 go_wp2_with fail
 refine hK.out _ _ TC (fun hJ=>?_)
 clear hK K hH
 have hH:=hJ
 clear hJ
 try simp only [Act.put,pa,pb,pc]
 refine tk 6 18 rfl _ hH (by intro w' h;have d0:=h.e9;go_simp;try with_reducible rfl) ?_
 try simp only [Act.put,pa,pb,pc]
 refine tk 7 19 rfl _ hH (by intro w' h;have d0:=h.e9;go_simp;try with_reducible rfl) ?_
 try simp only [Act.put,pa,pb,pc]
 have k0:=RR.at 0 rfl
 have f0:=RR.fz 0 rfl
 have k1:=RR.at 1 rfl
 have f1:=RR.fz 1 rfl
 have k2:=RR.at 2 rfl
 have f2:=RR.fz 2 rfl
 have k3:=RR.at 3 rfl
 have f3:=RR.fz 3 rfl
 have k4:=RR.at 4 rfl
 have f4:=RR.fz 4 rfl
 have k5:=RR.at 5 rfl
 have f5:=RR.fz 5 rfl
 have k6:=RR.at 6 rfl
 have f6:=RR.fz 6 rfl
 have k7:=RR.at 7 rfl
 have f7:=RR.fz 7 rfl
 have F:=show Hid _ from RR.fill8 BC (Nat.le_refl _) (I y0) (I y1) (I y2) (I y3) (I y4) (I y5) (.slice qa QP.length qc) (.slice ta QV.length tc)
 have FU:=show Hid _ from own_fill8 (q:=w.heap.size) OU (fun k h=>by have:=(own_in OU k h).1;omega) (I y0) (I y1) (I y2) (I y3) (I y4) (I y5) (.slice qa QP.length qc) (.slice ta QV.length tc)
 have FV:=show Hid _ from own_fill8 (q:=w.heap.size) OV (fun k h=>by have:=(own_in OV k h).1;omega) (I y0) (I y1) (I y2) (I y3) (I y4) (I y5) (.slice qa QP.length qc) (.slice ta QV.length tc)
 refine wpAnyH_ready (rs:=[8]) (by kernel_rfl) (by simp) ?_
 refine AllReadyH.cons (i:=8) rfl (fun K hK=>?_) AllReadyH.nil
 go_simp
 refine hK.out _ _ ((((((((TC.far (by omega) 0 _).far (by omega) 1 _).far (by omega) 2 _).far (by omega) 3 _).far (by omega) 4 _).far (by omega) 5 _).far (by omega) 6 _).far (by omega) 7 _) (fun hJ=>?_)
 clear hK K hH
 have hH:=hJ
 clear hJ
 try simp only [Act.put,pa,pb,pc]
 refine tk 9 5 rfl _ hH (by intro w' h;have d0:=h.e9;go_simp;try with_reducible rfl) ?_
 try simp only [Act.put,pa,pb,pc]
 refine wpAnyH_done (by kernel_rfl) ?_ _
 clear hH k0 f0 k1 f1 k2 f2 k3 f3 k4 f4 k5 f5 k6 f6 k7 f7 TC RR BC OU OV
 go_wp2
 have G:=F.out
 refine bodyPost_ret (res_tb rfl _ _ w.heap.size _ _ _ _ _ _ _ _ (.bool kk) rfl rfl (G.1.at 0 rfl) (G.1.at 1 rfl) (G.1.at 2 rfl) (G.1.at 3 rfl) (G.1.at 4 rfl) (G.1.at 5 rfl) (G.1.at 6 rfl) (G.1.at 7 rfl)) rfl ⟨qa,qc,ta,tc,rfl,?_,?_,AP,G.2⟩
 ·exact ownsRow_le FU.out (by omega)
 ·exact ownsRow_le FV.out (by omega)
end Go.Proofs.YtcaieniddnhkbaaGreatDoor
