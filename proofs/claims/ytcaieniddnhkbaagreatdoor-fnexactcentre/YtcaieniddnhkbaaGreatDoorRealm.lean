/- RealmOf: the program and the model. -/
import Derived.Test.YtcaieniddnhkbaaGreatDoorAb
import Derived.Test.YtcaieniddnhkbaaGreatDoorConf2
import Derived.Test.YtcaieniddnhkbaaGreatDoorTickMath
import Derived.Test.YtcaieniddnhkbaaGreatDoorKeys
set_option linter.unusedVariables false
set_option maxRecDepth 100000
namespace Go.Proofs.YtcaieniddnhkbaaGreatDoor
open Go Go.RowKit Var Term Draw
def roV (c:Cf) (p:Int):Int:=if confB c && btw p 0 5 then (if p < 3 then c.U.getD p.toNat 0 else c.S.getD (p - 3).toNat 0) else -1
theorem roV_same {c d:Cf} (E:Same c d) (p:Int):roV d p=roV c p:=by unfold roV;rw [E.conf,E.U,E.S]
theorem conf_len {c:Cf} (h:confB c=true):c.U.length=3∧c.S.length=3:=by
 unfold confB realmB at h
 simp only [Bool.and_eq_true,decide_eq_true_eq] at h
 exact ⟨h.1.1,h.2.1.1⟩
set_option maxRecDepth 100000 in
set_option maxHeartbeats 3200000 in
theorem implRO_is (c:Cf) (p:Int) (w:World) (C:CfAt c w) (K:CfOk c):Calls Tryz.prog 152 #[c.val,I p] w fun en w'=>en=.returned (I (roV c p))∧Below w.heap.size w w':=by
 obtain ⟨W1,hW1⟩:∃ W1,w.alloc (.cells #[.slice c.ua c.U.length c.uc,.slice c.sa c.S.length c.sc,.slice c.la c.L.length c.lc,.slice c.xa c.X.length c.xc,I c.k] 27)=W1:=⟨_,rfl⟩
 have B0:Below w.heap.size w W1:=by rw [← hW1];exact (Below.refl _ _).alloc (Nat.le_refl _) _
 have T0:Blk w.heap.size c.cells W1:=by rw [← hW1];exact Blk.new _ _ _
 have Z0:Hid (w.heap.size < W1.heap.size):=by show _ < _;rw [← hW1];simp
 have d0:=T0.at 0 rfl
 have d1:=T0.at 1 rfl
 have d2:=T0.at 2 rfl
 have d3:=T0.at 3 rfl
 have d4:=T0.at 4 rfl
 go_enter Tryz.func152,Tryz.ntmps152
 go_wp2_with fail
 try rw [hW1]
 refine (cfRight_is c W1 (C.later B0) K).mono ?_
 clear hW1 d0 d1 d2 d3 d4
 rintro en w2 ⟨rfl,hb⟩
 have T2:=T0.later hb Z0.out
 have B2:=B0.trans (hb.mono B0.size)
 clear T0 Z0 B0 hb
 by_cases hc:confB c=true
 ·have HL:=conf_len hc
  rw [hc]
  go_wp2_with fail
  refine (prin_is p _).mono ?_
  rintro e w3 ⟨rfl,rfl⟩
  by_cases hp:btw p 0 5=true
  ·have hb:=(btw_iff _ _ _).1 hp
   rw [hp]
   go_wp2_with fail
   refine (user_is p _).mono ?_
   rintro e w3 ⟨rfl,rfl⟩
   by_cases hu:btw p 0 2=true
   ·have hb2:=(btw_iff _ _ _).1 hu
    rw [hu]
    obtain ⟨j,rfl⟩:∃ j:Nat,p=(j:Int):=⟨p.toNat,by omega⟩
    have hj:j < c.U.length:=by omega
    have HV:Hid (roV c (j:Int)=c.U[j]):=by
     show roV c (j:Int)=c.U[j]
     unfold roV
     rw [hc,hp,Bool.and_self,if_pos rfl,if_pos (by omega)]
     simp [List.getD,hj]
    have hj2:(j:Int) < (c.U.length:Int):=by omega
    obtain ⟨b,off,ea,hlt,hcell⟩:=(C.hu.later B2) j hj
    have d0:=T2.at 0 rfl
    rw [ea] at d0
    generalize c.U[j]=z at hcell HV
    clear HL hc hp
    go_wp2
    go_ret
    exact ⟨by rw [HV.out];rfl,B2⟩
   ·have hb2:¬ (0≤p∧p≤2):=fun h=>hu ((btw_iff _ _ _).2 h)
    rw [Bool.not_eq_true] at hu
    rw [hu]
    clear hu
    obtain ⟨j,rfl⟩:∃ j:Nat,p=(j:Int) + 3:=⟨(p - 3).toNat,by omega⟩
    have hj:j < c.S.length:=by omega
    have HV:Hid (roV c ((j:Int) + 3)=c.S[j]):=by
     show roV c ((j:Int) + 3)=c.S[j]
     unfold roV
     rw [hc,hp,Bool.and_self,if_pos rfl,if_neg (by omega),show ((j:Int) + 3 - 3).toNat=j by omega]
     simp [List.getD,hj]
    have hj2:(j:Int) < (c.S.length:Int):=by omega
    have hj3:IntKind.i64.wrap ((j:Int) + 3 - 3)=(j:Int):=by rw [show (j:Int) + 3 - 3=(j:Int) by omega];exact wrap_i64_small j (by omega)
    obtain ⟨b,off,ea,hlt,hcell⟩:=(C.hs.later B2) j hj
    have d1:=T2.at 1 rfl
    rw [ea] at d1
    generalize c.S[j]=z at hcell HV
    clear HL hc hp
    go_wp2
    go_ret
    exact ⟨by rw [HV.out];rfl,B2⟩
  ·rw [Bool.not_eq_true] at hp
   have HV:Hid (roV c p=-1):=by show roV c p=-1;unfold roV;rw [hc,hp];rfl
   rw [hp]
   go_wp2
   go_ret
   exact ⟨by rw [HV.out];rfl,B2⟩
 ·rw [Bool.not_eq_true] at hc
  have HV:Hid (roV c p=-1):=by show roV c p=-1;unfold roV;rw [hc];rfl
  rw [hc]
  go_wp2
  go_ret
  exact ⟨by rw [HV.out];rfl,B2⟩
set_option maxRecDepth 100000 in
set_option maxHeartbeats 3200000 in
theorem specRO_is (c:Cf) (p:Int) (w:World) (C:CfAt c w) (K:CfOk c):Calls Tryz.prog 56 #[c.val,I p] w fun en w'=>en=.returned (I (roV c p))∧Below w.heap.size w w':=by
 obtain ⟨W1,hW1⟩:∃ W1,w.alloc (.cells #[.slice c.ua c.U.length c.uc,.slice c.sa c.S.length c.sc,.slice c.la c.L.length c.lc,.slice c.xa c.X.length c.xc,I c.k] 27)=W1:=⟨_,rfl⟩
 have B0:Below w.heap.size w W1:=by rw [← hW1];exact (Below.refl _ _).alloc (Nat.le_refl _) _
 have T0:Blk w.heap.size c.cells W1:=by rw [← hW1];exact Blk.new _ _ _
 have Z0:Hid (w.heap.size < W1.heap.size):=by show _ < _;rw [← hW1];simp
 have d0:=T0.at 0 rfl
 have d1:=T0.at 1 rfl
 have d2:=T0.at 2 rfl
 have d3:=T0.at 3 rfl
 have d4:=T0.at 4 rfl
 go_enter Tryz.func56,Tryz.ntmps56
 go_wp2_with fail
 try rw [hW1]
 refine (cfSpecOk_is c W1 (C.later B0) K).mono ?_
 clear hW1 d0 d1 d2 d3 d4
 rintro en w2 ⟨rfl,hb⟩
 have T2:=T0.later hb Z0.out
 have B2:=B0.trans (hb.mono B0.size)
 clear T0 Z0 B0 hb
 by_cases hc:confB c=true
 ·have HL:=conf_len hc
  rw [hc]
  go_wp2_with fail
  refine (spec_prin p _).mono ?_
  rintro e w3 ⟨rfl,rfl⟩
  by_cases hp:btw p 0 5=true
  ·have hb:=(btw_iff _ _ _).1 hp
   rw [hp]
   by_cases hu:p < 3
   ·obtain ⟨j,rfl⟩:∃ j:Nat,p=(j:Int):=⟨p.toNat,by omega⟩
    have hj:j < c.U.length:=by omega
    have HV:Hid (roV c (j:Int)=c.U[j]):=by
     show roV c (j:Int)=c.U[j]
     unfold roV
     rw [hc,hp,Bool.and_self,if_pos rfl,if_pos (by omega)]
     simp [List.getD,hj]
    have hj2:(j:Int) < (c.U.length:Int):=by omega
    obtain ⟨b,off,ea,hlt,hcell⟩:=(C.hu.later B2) j hj
    have d0:=T2.at 0 rfl
    rw [ea] at d0
    generalize c.U[j]=z at hcell HV
    clear HL hc hp
    go_wp2
    go_ret
    exact ⟨by rw [HV.out];rfl,B2⟩
   ·obtain ⟨j,rfl⟩:∃ j:Nat,p=(j:Int) + 3:=⟨(p - 3).toNat,by omega⟩
    have hj:j < c.S.length:=by omega
    have HV:Hid (roV c ((j:Int) + 3)=c.S[j]):=by
     show roV c ((j:Int) + 3)=c.S[j]
     unfold roV
     rw [hc,hp,Bool.and_self,if_pos rfl,if_neg (by omega),show ((j:Int) + 3 - 3).toNat=j by omega]
     simp [List.getD,hj]
    have hj2:(j:Int) < (c.S.length:Int):=by omega
    have hj3:IntKind.i64.wrap ((j:Int) + 3 - 3)=(j:Int):=by rw [show (j:Int) + 3 - 3=(j:Int) by omega];exact wrap_i64_small j (by omega)
    obtain ⟨b,off,ea,hlt,hcell⟩:=(C.hs.later B2) j hj
    have d1:=T2.at 1 rfl
    rw [ea] at d1
    generalize c.S[j]=z at hcell HV
    clear HL hc hp
    go_wp2
    go_ret
    exact ⟨by rw [HV.out];rfl,B2⟩
  ·rw [Bool.not_eq_true] at hp
   have HV:Hid (roV c p=-1):=by show roV c p=-1;unfold roV;rw [hc,hp];rfl
   rw [hp]
   go_wp2
   go_ret
   exact ⟨by rw [HV.out];rfl,B2⟩
 ·rw [Bool.not_eq_true] at hc
  have HV:Hid (roV c p=-1):=by show roV c p=-1;unfold roV;rw [hc];rfl
  rw [hc]
  go_wp2
  go_ret
  exact ⟨by rw [HV.out];rfl,B2⟩
end Go.Proofs.YtcaieniddnhkbaaGreatDoor
namespace Go.Proofs.YtcaieniddnhkbaaGreatDoor
open Go Go.RowKit Own Var Term
set_option maxRecDepth 100000 in
set_option maxHeartbeats 3200000 in
theorem fillA_is (p:Nat) (c0 t0 q0 key:Int) (s:ByteArray) (w:World) (hT:Blk p [I c0,I t0,I q0,I key] w) (hp:p < w.heap.size) (hs:s.size≤1048576)
  (m c t q:Int) (hj:just 0 (numsR (openR s key).1).1 4=[m,c,t,q]) :
  Calls Tryz.prog 183 #[.pointer (some ⟨p,0,none⟩),.string s] w fun en w'=>en=.returned (.tuple #[])∧Blk p [I c,I t,I q,I key] w'∧Below p w w':=by
 have d0:=hT.at 0 rfl
 have d1:=hT.at 1 rfl
 have d2:=hT.at 2 rfl
 have d3:=hT.at 3 rfl
 have HP:Hid (p < w.heap.size):=hp
 clear hp
 go_enter Tryz.func183,Tryz.ntmps183
 go_wp2_with fail
 refine (openA_is c0 t0 q0 key s _ hs).mono ?_
 rintro en w1 ⟨rfl,hb1⟩
 have T1:=hT.later hb1 HP.out
 have P1:Hid (p < w1.heap.size):=Nat.lt_of_lt_of_le HP.out hb1.size
 have B1:Below p w w1:=hb1.mono (Nat.le_of_lt HP.out)
 clear hT HP hb1 d0 d1 d2 d3
 have HN:=numbersOf_is (openR s key).1 4 w1 (Nat.le_trans (openR_size s key) (by omega)) (by omega)
 rw [hj] at HN
 go_wp2_with fail
 refine HN.mono ?_
 rintro en w2 ⟨u,rfl,ho,hb2⟩
 clear HN
 obtain ⟨g,cap,rfl,hcap,hg,hlt,Q2⟩:=own_blk (f:=Value.int .i64) (xs:=[m,c,t,q]) ho (by omega)
 have T2:=T1.later hb2 P1.out
 have B2:Below p w w2:=B1.trans (hb2.mono (Nat.le_of_lt P1.out))
 have hgp:p≠g:=by have:=P1.out;omega
 have hc4:(4:Int)≤(cap:Int):=by omega
 clear T1 B1 hb2 ho P1 hg
 have QD:Blk g [I m,I c,I t,I q] w2.drew:=Q2.drew
 have TD:=T2.drew
 have F:Hid _:=show Hid _ from (show Blk p [I c,I t,I q,I key] ((((w2.drew).setCell ⟨p,0,none⟩ (I c)).setCell ⟨p,1,none⟩ (I t)).setCell ⟨p,2,none⟩ (I q))∧Below p w ((((w2.drew).setCell ⟨p,0,none⟩ (I c)).setCell ⟨p,1,none⟩ (I t)).setCell ⟨p,2,none⟩ (I q)) from
  ⟨((TD.set 0 (I c)).set 1 (I t)).set 2 (I q),(((B2.drew.setCell (by dsimp only;omega) _).setCell (by dsimp only;omega) _).setCell (by dsimp only;omega) _)⟩)
 have k0:=TD.at 0 rfl
 have k1:=TD.at 1 rfl
 have k2:=TD.at 2 rfl
 have f0:=TD.fz 0 rfl
 have f1:=TD.fz 1 rfl
 have f2:=TD.fz 2 rfl
 have k3:=T2.at 0 rfl
 have k4:=T2.at 1 rfl
 have k5:=T2.at 2 rfl
 have f3:=T2.fz 0 rfl
 have f4:=T2.fz 1 rfl
 have f5:=T2.fz 2 rfl
 clear T2 B2 Q2
 go_wp2_with fail
 refine wp_region_held_drew (S:=(fun V=>Blk g [I m,I c,I t,I q] V)) (by kernel_rfl) QD (fun hH=>?_)
 refine tk 0 12 rfl _ hH (by intro w' h;have d0:=h.e4;go_simp;try with_reducible rfl) ?_
 try simp only [Act.put,pa,pb,pc]
 refine tk 1 13 rfl _ hH (by intro w' h;have d0:=h.e4;go_simp;try with_reducible rfl) ?_
 try simp only [Act.put,pa,pb,pc]
 refine tk 2 14 rfl _ hH (by intro w' h;have d0:=h.e4;go_simp;try with_reducible rfl) ?_
 try simp only [Act.put,pa,pb,pc]
 refine tk 3 15 rfl _ hH (by intro w' h;have d0:=h.e4;go_simp;try with_reducible rfl) ?_
 try simp only [Act.put,pa,pb,pc]
 refine tk 4 16 rfl _ hH (by intro w' h;have d0:=h.e4;go_simp;try with_reducible rfl) ?_
 try simp only [Act.put,pa,pb,pc]
 refine tk 5 17 rfl _ hH (by intro w' h;have d0:=h.e4;go_simp;try with_reducible rfl) ?_
 try simp only [Act.put,pa,pb,pc]
 refine tk 6 18 rfl _ hH (by intro w' h;have d0:=h.e4;go_simp;try with_reducible rfl) ?_
 try simp only [Act.put,pa,pb,pc]
 refine tk 7 19 rfl _ hH (by intro w' h;have d0:=h.e4;go_simp;try with_reducible rfl) ?_
 try simp only [Act.put,pa,pb,pc]
 refine tk 8 20 rfl _ hH (by intro w' h;have d0:=h.e4;go_simp;try with_reducible rfl) ?_
 try simp only [Act.put,pa,pb,pc]
 refine tk 9 21 rfl _ hH (by intro w' h;have d0:=h.e4;go_simp;try with_reducible rfl) ?_
 try simp only [Act.put,pa,pb,pc]
 refine tk 10 22 rfl _ hH (by intro w' h;have d0:=h.e4;go_simp;try with_reducible rfl) ?_
 try simp only [Act.put,pa,pb,pc]
 refine tk 11 23 rfl _ hH (by intro w' h;have d0:=h.e4;go_simp;try with_reducible rfl) ?_
 try simp only [Act.put,pa,pb,pc]
 refine tk 12 24 rfl _ hH (by intro w' h;have d0:=h.e4;go_simp;try with_reducible rfl) ?_
 try simp only [Act.put,pa,pb,pc]
 refine tk 13 25 rfl _ hH (by intro w' h;have d0:=h.e4;go_simp;try with_reducible rfl) ?_
 try simp only [Act.put,pa,pb,pc]
 refine wpAnyH_ready (rs:=[14]) (by kernel_rfl) (by simp) ?_
 refine AllReadyH.cons (i:=14) rfl (fun K hK=>?_) AllReadyH.nil
 go_simp
 refine hK.out _ _ (((QD.far (by omega) 0 _).far (by omega) 1 _).far (by omega) 2 _) (fun hJ=>?_)
 clear hK K hH
 have hH:=hJ
 clear hJ
 try simp only [Act.put,pa,pb,pc]
 refine wpAnyH_done (by kernel_rfl) ?_ _
 clear hH QD TD k0 k1 k2 f0 f1 f2 k3 k4 k5 f3 f4 f5
 go_wp2
 first | exact ⟨_,results_none rfl _ _ _,rfl,F.out⟩ | exact ⟨rfl,_,results_none rfl _ _ _,rfl,F.out⟩ | trace_state
end Go.Proofs.YtcaieniddnhkbaaGreatDoor
namespace Go.Proofs.YtcaieniddnhkbaaGreatDoor
open Go Go.RowKit Own Var Term
def raL (s:ByteArray) (key:Int):List Int:=(numsR (openR s key).1).1
def raK (s:ByteArray) (key:Int):Bool:=(numsR (openR s key).1).2 && (decide ((raL s key).length=4) && ((raL s key).getD 0 0 == 7 && aOk ((raL s key).getD 1 0) ((raL s key).getD 2 0) ((raL s key).getD 3 0)))
def raV (s:ByteArray) (key:Int) (i:Nat):Int:=if raK s key then (raL s key).getD i 0 else 0
theorem raV_no {s:ByteArray} {key:Int} (h:raK s key=false) (i:Nat):raV s key i=0:=by unfold raV;rw [h];rfl
theorem raK_four {s:ByteArray} {key m c t q:Int} (h:numsR (openR s key).1=([m,c,t,q],true)):raK s key=(m == 7 && aOk c t q):=by
 unfold raK raL
 rw [h]
 rfl
theorem raV_yes {s:ByteArray} {key m c t q:Int} (h:numsR (openR s key).1=([m,c,t,q],true)) (hk:raK s key=true):raV s key 1=c∧raV s key 2=t∧raV s key 3=q:=by
 unfold raV raL
 rw [hk,h]
 exact ⟨rfl,rfl,rfl⟩
theorem raK_not {s:ByteArray} {key:Int} (h:(numsR (openR s key).1).1.length≠4):raK s key=false:=by
 unfold raK raL
 rw [decide_eq_false h]
 simp
theorem told_auth (s:ByteArray) (key m c t q:Int) (hj:just 0 (numsR (openR s key).1).1 4=[m,c,t,q]) :
  toldB (shA c t q key) s=raK s key∧(raK s key=true→raV s key 1=c∧raV s key 2=t∧raV s key 3=q):=by
 have HI:=auth_iff s key m c t q (by unfold just at hj;exact hj.symm)
 have HT:toldB (shA c t q key) s=true ↔ ((shA c t q key).size≠0∧shA c t q key=s):=by unfold toldB;simp
 by_cases h4:(numsR (openR s key).1).1.length=4
 ·have hL:(numsR (openR s key).1).1=[m,c,t,q]:=by unfold just at hj;rw [if_pos h4] at hj;exact hj
  have hb:(numsR (openR s key).1).2=true:=nums_ok _ (by rw [hL];simp)
  have hp:numsR (openR s key).1=([m,c,t,q],true):=Prod.ext hL hb
  refine ⟨?_,raV_yes hp⟩
  rw [Bool.eq_iff_iff,HT,HI,raK_four hp,Bool.and_eq_true,beq_iff_eq]
  exact ⟨fun h=>h.2.2,fun h=>⟨hb,h4,h⟩⟩
 ·refine ⟨?_,fun h=>?_⟩
  ·rw [raK_not h4,Bool.eq_false_iff]
   intro h
   exact h4 (HI.1 (HT.1 h)).2.1
  ·rw [raK_not h4] at h;cases h
set_option maxRecDepth 100000 in
set_option maxHeartbeats 6400000 in
theorem implReadA_is (s:ByteArray) (key:Int) (w:World) (hs:s.size≤1048576):Calls Tryz.prog 157 #[.string s,I key] w fun en w'=>en=.returned (.tuple #[.agg #[I (raV s key 1),I (raV s key 2),I (raV s key 3)],.bool (raK s key)])∧Below w.heap.size w w':=by
 obtain ⟨m,c,t,q,hj⟩:∃ m c t q,just 0 (numsR (openR s key).1).1 4=[m,c,t,q]:=by
  have hl:=just_len 0 (numsR (openR s key).1).1 4
  match just 0 (numsR (openR s key).1).1 4,hl with
  | [m,c,t,q],_=>exact ⟨m,c,t,q,rfl⟩
 have HTD:=told_auth s key m c t q hj
 have HT:∀ w,Calls Tryz.prog 184 #[.agg #[I c,I t,I q,I key],.string (shA c t q key),.string s] w fun en w'=>en=.returned (.tuple #[.agg #[I (raV s key 1),I (raV s key 2),I (raV s key 3)],.bool (raK s key)])∧Below w.heap.size w w':=fun w=>(toldA_is c t q key (shA c t q key) s w).mono (by
  rintro en w' ⟨rfl,hb⟩
  refine ⟨?_,hb⟩
  rw [HTD.1]
  cases hk:raK s key with
  | true =>
   obtain ⟨e1,e2,e3⟩:=HTD.2 hk
   rw [e1,e2,e3]
   rfl
  | false =>
   rw [raV_no hk,raV_no hk,raV_no hk]
   rfl)
 clear HTD
 generalize raV s key 1=y1 at HT ⊢
 generalize raV s key 2=y2 at HT ⊢
 generalize raV s key 3=y3 at HT ⊢
 generalize raK s key=kk at HT ⊢
 obtain ⟨W2,hW2⟩:∃ W2,(w.alloc (.cells #[I 0,I 0,I 0] 116)).alloc (.cells #[I 0,I 0,I 0,I key] 229)=W2:=⟨_,rfl⟩
 have B2:Below w.heap.size w W2:=by rw [← hW2];exact ((Below.refl _ _).alloc (Nat.le_refl _) _).alloc (by simp) _
 have R2:Blk w.heap.size [I 0,I 0,I 0] W2:=by rw [← hW2];exact (Blk.new w #[I 0,I 0,I 0] _).alloc (by simp) _
 have T2:Blk (w.heap.size + 1) [I 0,I 0,I 0,I key] W2:=by rw [← hW2];have:=Blk.new (w.alloc (.cells #[I 0,I 0,I 0] 116)) #[I 0,I 0,I 0,I key] 229;simpa using this
 have Z2:w.heap.size + 2≤W2.heap.size:=by rw [← hW2];simp
 have HF:=fillA_is (w.heap.size + 1) 0 0 0 key s W2 T2 (by omega) hs m c t q hj
 have ZH:Hid (w.heap.size + 2≤W2.heap.size):=Z2
 clear hj T2 Z2
 go_enter Tryz.func157,Tryz.ntmps157
 go_wp2_with fail
 try rw [hW2]
 refine HF.mono ?_
 clear hW2 HF
 rintro en w3 ⟨rfl,TC,hb3⟩
 have RR:=R2.lower hb3 (by omega)
 have ZC:Hid (w.heap.size + 2≤w3.heap.size):=Nat.le_trans ZH.out hb3.size
 have BC:=B2.trans (hb3.mono (by omega))
 clear R2 ZH B2 hb3
 go_wp2_with fail
 have TCD:=TC.drew
 have BCD:=BC.drew
 have RRD:=RR.drew
 have ZCD:Hid (w.heap.size + 2≤w3.drew.heap.size):=ZC
 clear TC BC ZC RR
 have TC:=TCD
 have BC:=BCD
 have RR:=RRD
 have ZC:=ZCD
 clear TCD BCD RRD ZCD
 refine wp_region_held_drew (S:=(fun V=>Blk (w.heap.size + 1) [I c,I t,I q,I key] V)) (by kernel_rfl) TC (fun hH=>?_)
 refine tk 0 12 rfl _ hH (by intro w' h;have d0:=h.e4;go_simp;try with_reducible rfl) ?_
 try simp only [Act.put,pa,pb,pc]
 refine tk 1 13 rfl _ hH (by intro w' h;have d0:=h.e4;go_simp;try with_reducible rfl) ?_
 try simp only [Act.put,pa,pb,pc]
 refine tk 2 14 rfl _ hH (by intro w' h;have d0:=h.e4;go_simp;try with_reducible rfl) ?_
 try simp only [Act.put,pa,pb,pc]
 refine tk 4 16 rfl _ hH (by intro w' h;have d0:=h.e4;go_simp;try with_reducible rfl) ?_
 try simp only [Act.put,pa,pb,pc]
 refine wpAnyH_ready (rs:=[3]) (by kernel_rfl) (by simp) ?_
 refine AllReadyH.cons (i:=3) rfl (fun K hK=>?_) AllReadyH.nil
 go_simp
 refine (showA_is c t q key _).mono ?_
 rintro en v11 ⟨rfl,hv11⟩
 have TN:=TC.later hv11 (by have:=ZC.out;omega)
 have ZN:Hid (w.heap.size + 2≤v11.heap.size):=Nat.le_trans ZC.out hv11.size
 have BN:=BC.trans (hv11.mono BC.size)
 have RRN:=RR.lower hv11 (by have:=ZC.out;omega)
 clear TC ZC BC
 have TC:=TN
 have ZC:=ZN
 have BC:=BN
 clear TN ZN BN
 clear RR
 have RR:=RRN
 clear RRN
 clear hv11
 go_wp2_with fail
 refine hK.out _ _ TC (fun hJ=>?_)
 clear hK K hH
 have hH:=hJ
 clear hJ
 try simp only [Act.put,pa,pb,pc]
 refine wpAnyH_ready (rs:=[5]) (by kernel_rfl) (by simp) ?_
 refine AllReadyH.cons (i:=5) rfl (fun K hK=>?_) AllReadyH.nil
 go_simp
 refine (HT _).mono ?_
 rintro en v12 ⟨rfl,hv12⟩
 have TN:=TC.later hv12 (by have:=ZC.out;omega)
 have ZN:Hid (w.heap.size + 2≤v12.heap.size):=Nat.le_trans ZC.out hv12.size
 have BN:=BC.trans (hv12.mono BC.size)
 have RRN:=RR.lower hv12 (by have:=ZC.out;omega)
 clear TC ZC BC
 have TC:=TN
 have ZC:=ZN
 have BC:=BN
 clear TN ZN BN
 clear RR
 have RR:=RRN
 clear RRN
 clear hv12
 go_wp2_with fail
 refine hK.out _ _ TC (fun hJ=>?_)
 clear hK K hH
 have hH:=hJ
 clear hJ
 try simp only [Act.put,pa,pb,pc]
 refine tk 6 18 rfl _ hH (by intro w' h;have d0:=h.e4;go_simp;try with_reducible rfl) ?_
 try simp only [Act.put,pa,pb,pc]
 refine tk 7 19 rfl _ hH (by intro w' h;have d0:=h.e4;go_simp;try with_reducible rfl) ?_
 try simp only [Act.put,pa,pb,pc]
 have k0:=RR.at 0 rfl
 have f0:=RR.fz 0 rfl
 have k1:=RR.at 1 rfl
 have f1:=RR.fz 1 rfl
 have k2:=RR.at 2 rfl
 have f2:=RR.fz 2 rfl
 have F:=show Hid _ from RR.fill3 BC (Nat.le_refl _) (I y1) (I y2) (I y3)
 refine wpAnyH_ready (rs:=[8]) (by kernel_rfl) (by simp) ?_
 refine AllReadyH.cons (i:=8) rfl (fun K hK=>?_) AllReadyH.nil
 go_simp
 refine hK.out _ _ (((TC.far (by omega) 0 _).far (by omega) 1 _).far (by omega) 2 _) (fun hJ=>?_)
 clear hK K hH
 have hH:=hJ
 clear hJ
 try simp only [Act.put,pa,pb,pc]
 refine tk 9 5 rfl _ hH (by intro w' h;have d0:=h.e4;go_simp;try with_reducible rfl) ?_
 try simp only [Act.put,pa,pb,pc]
 refine wpAnyH_done (by kernel_rfl) ?_ _
 clear hH k0 k1 k2 f0 f1 f2 TC RR BC
 go_wp2
 have G:=F.out
 exact bodyPost_ret (res_ab rfl _ _ w.heap.size _ _ _ (.bool kk) rfl rfl (G.1.at 0 rfl) (G.1.at 1 rfl) (G.1.at 2 rfl)) rfl ⟨rfl,G.2⟩
end Go.Proofs.YtcaieniddnhkbaaGreatDoor
namespace Go.Proofs.YtcaieniddnhkbaaGreatDoor
open Go Go.RowKit Own Var Term
set_option maxRecDepth 100000 in
set_option maxHeartbeats 6400000 in
theorem specReadA_is (s:ByteArray) (key:Int) (w:World) (hs:s.size≤1048576):Calls Tryz.prog 77 #[.string s,I key] w fun en w'=>en=.returned (.tuple #[.agg #[I (raV s key 1),I (raV s key 2),I (raV s key 3)],.bool (raK s key)])∧Below w.heap.size w w':=by
 obtain ⟨W1,hW1⟩:∃ W1,w.alloc (.cells #[I 0,I 0,I 0] 116)=W1:=⟨_,rfl⟩
 have B1:Below w.heap.size w W1:=by rw [← hW1];exact (Below.refl _ _).alloc (Nat.le_refl _) _
 have R1:Blk w.heap.size [I 0,I 0,I 0] W1:=by rw [← hW1];exact Blk.new w #[I 0,I 0,I 0] _
 have Z1:Hid (w.heap.size < W1.heap.size):=by show _ < _;rw [← hW1];simp
 have RN:=fun w'=>spec_readNums (openR s key).1 w' (Nat.le_trans (openR_size s key) (by omega))
 obtain ⟨L,b,hN⟩:∃ L b,numsR (openR s key).1=(L,b):=⟨_,_,rfl⟩
 have HN:b=false→L=[]:=fun h=>by have:=nums_len (openR s key).1 (by rw [hN];exact h);rw [hN] at this;exact this
 rw [hN] at RN
 simp only at RN
 go_enter Tryz.func77,Tryz.ntmps77
 go_wp2_with fail
 try rw [hW1]
 refine (spec_open s key _ hs).mono ?_
 clear hW1
 rintro en w2 ⟨rfl,hb2⟩
 have R2:=R1.later hb2 Z1.out
 have Z2:Hid (w.heap.size < w2.heap.size):=Nat.lt_of_lt_of_le Z1.out hb2.size
 have B2:=B1.trans (hb2.mono B1.size)
 clear R1 Z1 B1 hb2
 generalize (openR s key).2=ob
 go_wp2_with fail
 refine (RN _).mono ?_
 rintro en w3 ⟨v,rfl,ho,hb3⟩
 have R3:=R2.later hb3 Z2.out
 have Z3:Hid (w.heap.size < w3.heap.size):=Nat.lt_of_lt_of_le Z2.out hb3.size
 have B3:=B2.trans (hb3.mono B2.size)
 clear R2 Z2 B2 hb3 RN
 by_cases h4:L.length=4
 ·have hb:b=true:=by
   cases b with
   | true=>rfl
   | false=>rw [HN rfl] at h4;cases h4
  subst hb
  obtain ⟨m,c,t,q,rfl⟩:∃ m c t q,L=[m,c,t,q]:=by
   match L,h4 with
   | [m,c,t,q],_=>exact ⟨m,c,t,q,rfl⟩
  clear HN h4
  obtain ⟨g,cap,rfl,hcap,hg,hlt,Q3⟩:=own_blk (f:=Value.int .i64) (xs:=[m,c,t,q]) ho (by simp)
  simp only [List.length_cons,List.length_nil,Nat.zero_add,Nat.reduceAdd] at hcap
  have hc4:(4:Int)≤(cap:Int):=by omega
  clear ho hg
  have q0:=Q3.at 0 rfl
  by_cases h7:m=7
  ·subst h7
   have QD:Blk g [I 7,I c,I t,I q] w3.drew:=Q3.drew
   obtain ⟨W4,hW4⟩:∃ W4,(w3.alloc (.cells #[I c,I t,I q] 116)).drew=W4:=⟨_,rfl⟩
   have B4:Below w.heap.size w W4:=by rw [← hW4];exact (B3.alloc (Nat.le_of_lt Z3.out) _).drew
   have R4:Blk w.heap.size [I 0,I 0,I 0] W4:=by rw [← hW4];exact (R3.alloc Z3.out _).drew
   have D4:Blk w3.heap.size [I c,I t,I q] W4:=by rw [← hW4];exact (Blk.new w3 #[I c,I t,I q] _).drew
   have Z4:Hid (w3.heap.size < W4.heap.size):=by show _ < _;rw [← hW4];simp
   have Q4:Blk g [I 7,I c,I t,I q] W4:=by rw [← hW4];exact (Q3.alloc hlt _).drew
   go_wp2_with fail
   refine wp_region_held_drew (S:=(fun V=>Blk g [I 7,I c,I t,I q] V)) (by kernel_rfl) QD (fun hH=>?_)
   refine tk 0 36 rfl _ hH (by intro w' h;have d0:=h.e4;go_simp;try with_reducible rfl) ?_
   try simp only [Act.put,pa,pb,pc]
   refine tk 1 37 rfl _ hH (by intro w' h;have d0:=h.e4;go_simp;try with_reducible rfl) ?_
   try simp only [Act.put,pa,pb,pc]
   refine tk 2 38 rfl _ hH (by intro w' h;have d0:=h.e4;go_simp;try with_reducible rfl) ?_
   try simp only [Act.put,pa,pb,pc]
   refine tk 3 39 rfl _ hH (by intro w' h;have d0:=h.e4;go_simp;try with_reducible rfl) ?_
   try simp only [Act.put,pa,pb,pc]
   refine tk 4 40 rfl _ hH (by intro w' h;have d0:=h.e4;go_simp;try with_reducible rfl) ?_
   try simp only [Act.put,pa,pb,pc]
   refine tk 5 41 rfl _ hH (by intro w' h;have d0:=h.e4;go_simp;try with_reducible rfl) ?_
   try simp only [Act.put,pa,pb,pc]
   refine tk 6 42 rfl _ hH (by intro w' h;have d0:=h.e4;go_simp;try with_reducible rfl) ?_
   try simp only [Act.put,pa,pb,pc]
   refine tk 7 43 rfl _ hH (by intro w' h;have d0:=h.e4;go_simp;try with_reducible rfl) ?_
   try simp only [Act.put,pa,pb,pc]
   refine tk 8 44 rfl _ hH (by intro w' h;have d0:=h.e4;go_simp;try with_reducible rfl) ?_
   try simp only [Act.put,pa,pb,pc]
   refine tk 9 45 rfl _ hH (by intro w' h;have d0:=h.e4;go_simp;try with_reducible rfl) ?_
   try simp only [Act.put,pa,pb,pc]
   refine wpAnyH_ready (rs:=[10]) (by kernel_rfl) (by simp) ?_
   refine AllReadyH.cons (i:=10) rfl (fun K hK=>?_) AllReadyH.nil
   go_simp
   refine hK.out _ _ (QD.alloc (by simpa using hlt) _) (fun hJ=>?_)
   clear hK K hH
   have hH:=hJ
   clear hJ
   try simp only [Act.put,pa,pb,pc]
   refine wpAnyH_ready (rs:=[11]) (by kernel_rfl) (by simp) ?_
   refine AllReadyH.cons (i:=11) rfl (fun K hK=>?_) AllReadyH.nil
   go_simp
   refine hK.out _ _ Q4 (fun hJ=>?_)
   clear hK K hH
   have hH:=hJ
   clear hJ
   try simp only [Act.put,pa,pb,pc]
   refine wpAnyH_done (by kernel_rfl) ?_ _
   try rw [hW4]
   clear hH q0 QD hW4 Q3 Q4
   have e0:=D4.at 0 rfl
   have e1:=D4.at 1 rfl
   have e2:=D4.at 2 rfl
   go_wp2_with fail
   refine (spec_authOk c t q _).mono ?_
   rintro en w5 ⟨rfl,hb5⟩
   clear e0 e1 e2
   have D5:=D4.later hb5 Z4.out
   have R5:=R4.later hb5 (Nat.lt_trans Z3.out Z4.out)
   have B5:=B4.trans (hb5.mono B4.size)
   have N5:Hid (w.heap.size < w3.heap.size):=Z3.out
   clear D4 R4 B4 hb5 R3 B3 Z4 Z3 hlt
   have e0:=D5.at 0 rfl
   have e1:=D5.at 1 rfl
   have e2:=D5.at 2 rfl
   by_cases h0:aOk c t q=true
   ·have hk:raK s key=true:=by rw [raK_four hN,h0];rfl
    obtain ⟨x1,x2,x3⟩:=raV_yes hN hk
    rw [h0]
    have FG:=show Hid _ from R5.fill3 B5 (Nat.le_refl _) (I c) (I t) (I q)
    have r0:=R5.at 0 rfl
    have r1:=R5.at 1 rfl
    have r2:=R5.at 2 rfl
    have g0:=R5.fz 0 rfl
    have g1:=R5.fz 1 rfl
    have g2:=R5.fz 2 rfl
    go_wp2
    have G:=FG.out
    exact bodyPost_ret (res_ab rfl _ _ w.heap.size _ _ _ (.bool true) rfl rfl (G.1.at 0 rfl) (G.1.at 1 rfl) (G.1.at 2 rfl)) rfl ⟨by rw [x1,x2,x3,hk],G.2⟩
   ·rw [Bool.not_eq_true] at h0
    have hk:raK s key=false:=by rw [raK_four hN,h0];rfl
    rw [h0]
    have FG:=show Hid _ from R5.fill3 B5 (Nat.le_refl _) (I 0) (I 0) (I 0)
    have r0:=R5.at 0 rfl
    have r1:=R5.at 1 rfl
    have r2:=R5.at 2 rfl
    have g0:=R5.fz 0 rfl
    have g1:=R5.fz 1 rfl
    have g2:=R5.fz 2 rfl
    go_wp2
    have G:=FG.out
    exact bodyPost_ret (res_ab rfl _ _ w.heap.size _ _ _ (.bool false) rfl rfl (G.1.at 0 rfl) (G.1.at 1 rfl) (G.1.at 2 rfl)) rfl ⟨by rw [raV_no hk,raV_no hk,raV_no hk,hk],G.2⟩
  ·have hk:raK s key=false:=by rw [raK_four hN,show (m == 7)=false by simpa using h7];rfl
   have h7':(m == 7)=false:=by simpa using h7
   have FG:=show Hid _ from R3.fill3 B3 (Nat.le_refl _) (I 0) (I 0) (I 0)
   have r0:=R3.at 0 rfl
   have r1:=R3.at 1 rfl
   have r2:=R3.at 2 rfl
   have g0:=R3.fz 0 rfl
   have g1:=R3.fz 1 rfl
   have g2:=R3.fz 2 rfl
   go_wp2
   have G:=FG.out
   exact bodyPost_ret (res_ab rfl _ _ w.heap.size _ _ _ (.bool false) rfl rfl (G.1.at 0 rfl) (G.1.at 1 rfl) (G.1.at 2 rfl)) rfl ⟨by rw [raV_no hk,raV_no hk,raV_no hk,hk],G.2⟩
 ·have hk:raK s key=false:=raK_not (by rw [hN];exact h4)
  obtain ⟨a,cap,rfl,_,_⟩:=own_row (f:=Value.int .i64) ho
  have h4':((L.length:Int) == 4)=false:=by simp;omega
  clear ho HN
  cases b with
  | false =>
   have FG:=show Hid _ from R3.fill3 B3 (Nat.le_refl _) (I 0) (I 0) (I 0)
   have r0:=R3.at 0 rfl
   have r1:=R3.at 1 rfl
   have r2:=R3.at 2 rfl
   have g0:=R3.fz 0 rfl
   have g1:=R3.fz 1 rfl
   have g2:=R3.fz 2 rfl
   go_wp2
   have G:=FG.out
   exact bodyPost_ret (res_ab rfl _ _ w.heap.size _ _ _ (.bool false) rfl rfl (G.1.at 0 rfl) (G.1.at 1 rfl) (G.1.at 2 rfl)) rfl ⟨by rw [raV_no hk,raV_no hk,raV_no hk,hk],G.2⟩
  | true =>
   have FG:=show Hid _ from R3.fill3 B3 (Nat.le_refl _) (I 0) (I 0) (I 0)
   have r0:=R3.at 0 rfl
   have r1:=R3.at 1 rfl
   have r2:=R3.at 2 rfl
   have g0:=R3.fz 0 rfl
   have g1:=R3.fz 1 rfl
   have g2:=R3.fz 2 rfl
   go_wp2
   have G:=FG.out
   exact bodyPost_ret (res_ab rfl _ _ w.heap.size _ _ _ (.bool false) rfl rfl (G.1.at 0 rfl) (G.1.at 1 rfl) (G.1.at 2 rfl)) rfl ⟨by rw [raV_no hk,raV_no hk,raV_no hk,hk],G.2⟩
end Go.Proofs.YtcaieniddnhkbaaGreatDoor
