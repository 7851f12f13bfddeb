/- Tickets: what a text is read as, by the model. -/
import Derived.Test.YtcaieniddnhkbaaGreatDoorAb
import Derived.Test.YtcaieniddnhkbaaGreatDoorRdT
import Derived.Test.YtcaieniddnhkbaaGreatDoorMeet8
set_option linter.unusedVariables false
namespace Go.Proofs.YtcaieniddnhkbaaGreatDoor
open Go Go.RowKit Go.Joins Own Var Term
theorem rt_yes {s:ByteArray} {key:Int} {x0 x1 x2 x3 x4:ByteArray} (h:(partsR (openR s key).1).1=[x0,x1,x2,x3,x4]) (h0:(numsR x0).2=true) (h1:(keyR x1).2=true) (h2:rdK (numsR x2).1=true) (h3:(numsR x3).2=true) (h4:(numsR x4).2=true) (c sv:Int) (hw:(numsR x0).1=[c,sv])
  (hg:tOk c sv (keyR x1).1 (rdA (numsR x2).1) (rdB (numsR x2).1) (rdC (numsR x2).1) (numsR x3).1 (numsR x4).1=true):rtK s key=true:=by
 rw [rtK_five h,h0,h1,h2,h3,h4,hw]
 show (decide (2=2) && _)=true
 simpa using hg
theorem rt_no {s:ByteArray} {key:Int} {x0 x1 x2 x3 x4:ByteArray} (h:(partsR (openR s key).1).1=[x0,x1,x2,x3,x4])
  (hn:(numsR x0).2=false ∨ (keyR x1).2=false ∨ rdK (numsR x2).1=false ∨ (numsR x3).2=false ∨ (numsR x4).2=false ∨ (numsR x0).1.length≠2 ∨ ∃ c sv,(numsR x0).1=[c,sv]∧tOk c sv (keyR x1).1 (rdA (numsR x2).1) (rdB (numsR x2).1) (rdC (numsR x2).1) (numsR x3).1 (numsR x4).1=false):rtK s key=false:=by
 rw [rtK_five h]
 rcases hn with e | e | e | e | e | e | ⟨c,sv,e,g⟩
 ·rw [e];rfl
 ·rw [e];simp
 ·rw [e];simp
 ·rw [e];simp
 ·rw [e];simp
 ·rw [decide_eq_false e];simp
 ·rw [e]
  simp only [Bool.and_eq_false_iff]
  exact Or.inr (Or.inr (Or.inr (Or.inr (Or.inr (Or.inr g)))))
set_option maxRecDepth 100000 in
set_option maxHeartbeats 25600000 in
theorem specReadT_is (s:ByteArray) (key:Int) (w:World) (hs:s.size≤1048576):Calls Tryz.prog 13 #[.string s,I key] w fun en w'=>∃ (ua:Option Addr) (uc:Nat) (va:Option Addr) (vc:Nat),en=.returned (.tuple #[.agg #[I (rtN s key 0),I (rtN s key 1),I (rtN s key 2),I (rtN s key 3),I (rtN s key 4),I (rtN s key 5),.slice ua (rtP s key).length uc,.slice va (rtV s key).length vc],.bool (rtK s key)]) ∧
   w'.ownsRow w.heap.size 3 1 (.slice ua (rtP s key).length uc) (rtP s key).length (intV (rtP s key))∧w'.ownsRow w.heap.size 3 1 (.slice va (rtV s key).length vc) (rtV s key).length (intV (rtV s key)) ∧
   Apart (.slice ua (rtP s key).length uc) (.slice va (rtV s key).length vc)∧Below w.heap.size w w':=by
 obtain ⟨W1,hW1⟩:∃ W1,w.alloc (.cells #[I 0,I 0,I 0,I 0,I 0,I 0,.slice none 0 0,.slice none 0 0] 43)=W1:=⟨_,rfl⟩
 have BC:Below w.heap.size w W1:=by rw [← hW1];exact (Below.refl _ _).alloc (Nat.le_refl _) _
 have RR:Blk w.heap.size [I 0,I 0,I 0,I 0,I 0,I 0,.slice none 0 0,.slice none 0 0] W1:=by rw [← hW1];exact Blk.new w #[I 0,I 0,I 0,I 0,I 0,I 0,.slice none 0 0,.slice none 0 0] _
 have lr:w.heap.size < W1.heap.size:=by rw [← hW1];simp
 have RP:=fun w'=>spec_parts (openR s key).1 w' (Nat.le_trans (openR_size s key) (by omega))
 have HZ:=parts_size (openR s key).1
 have HRG:(partsR (openR s key).1).1.length≠5→rtK s key=false:=rtK_not
 obtain ⟨XL,pb,hP⟩:∃ L b,partsR (openR s key).1=(L,b):=⟨_,_,rfl⟩
 rw [hP] at RP HZ HRG
 simp only at RP HZ HRG
 go_enter Tryz.func13,Tryz.ntmps13
 go_wp2_with fail
 try rw [hW1]
 refine (spec_open s key _ hs).mono ?_
 clear hW1
 rintro en w2 ⟨rfl,hb⟩
 have RRN:=RR.later hb lr
 have lrN:=Nat.lt_of_lt_of_le lr hb.size
 have BCN:=BC.trans (hb.mono BC.size)
 clear RR lr BC hb
 have RR:=RRN
 have lr:=lrN
 have BC:=BCN
 clear RRN lrN BCN
 generalize (openR s key).2=ob
 go_wp2_with fail
 refine (RP _).mono ?_
 rintro en w3 ⟨v,rfl,ho,hb⟩
 have RRN:=RR.later hb lr
 have lrN:=Nat.lt_of_lt_of_le lr hb.size
 have BCN:=BC.trans (hb.mono BC.size)
 clear RR lr BC hb
 have RR:=RRN
 have lr:=lrN
 have BC:=BCN
 clear RRN lrN BCN
 clear RP
 by_cases h5:XL.length=5
 ·obtain ⟨x0,x1,x2,x3,x4,rfl⟩:∃ x0 x1 x2 x3 x4,XL=[x0,x1,x2,x3,x4]:=by
   match XL,h5 with
   | [x0,x1,x2,x3,x4],_=>exact ⟨x0,x1,x2,x3,x4,rfl⟩
  have hP':(partsR (openR s key).1).1=[x0,x1,x2,x3,x4]:=by rw [hP]
  clear h5 HRG hP
  have z0:x0.size≤1048576:=Nat.le_trans (HZ x0 (by simp)) (by omega)
  have z1:x1.size≤1048576:=Nat.le_trans (HZ x1 (by simp)) (by omega)
  have z2:x2.size≤1048576:=Nat.le_trans (HZ x2 (by simp)) (by omega)
  have z3:x3.size≤1048576:=Nat.le_trans (HZ x3 (by simp)) (by omega)
  have z4:x4.size≤1048576:=Nat.le_trans (HZ x4 (by simp)) (by omega)
  clear HZ
  obtain ⟨gp,capp,rfl,hcap,hg,lx,XC0⟩:=own_blk (f:=Value.string) (xs:=[x0,x1,x2,x3,x4]) ho (by simp)
  simp only [List.length_cons,List.length_nil,Nat.zero_add,Nat.reduceAdd] at hcap
  have hc5:(5:Int)≤(capp:Int):=by omega
  have XC:Blk gp [.string x0,.string x1,.string x2,.string x3,.string x4] w3:=XC0
  clear ho hg XC0 hcap
  have HM:=fun w=>spec_readNums x0 w z0
  have HK:=fun w=>spec_readKey x1 w z1
  have HR:=fun w=>specRead_is x2 w z2
  have H3:=fun w=>spec_readNums x3 w z3
  have H4:=fun w=>spec_readNums x4 w z4
  have HY:=rt_yes hP'
  have HV:=fun c sv hw=>rt_five (c:=c) (sv:=sv) hP' hw
  have HO:=rt_no hP'
  have HN:=nums_len x0
  have lP:(numsR x3).1.length≤1048576:=Nat.le_trans (numsR_len x3) (by omega)
  have lV:(numsR x4).1.length≤1048576:=Nat.le_trans (numsR_len x4) (by omega)
  generalize (numsR x0).1=NL at HM HY HV HO HN
  generalize (numsR x0).2=nb at HM HY HO HN
  generalize (keyR x1).1=kv at HK HY HV HO
  generalize (keyR x1).2=ka at HK HY HO
  generalize rdA (numsR x2).1=ra at HR HY HV HO
  generalize rdB (numsR x2).1=rb at HR HY HV HO
  generalize rdC (numsR x2).1=rc at HR HY HV HO
  generalize rdK (numsR x2).1=rk at HR HY HO
  generalize (numsR x3).1=PL at H3 HY HV HO lP
  generalize (numsR x3).2=d3 at H3 HY HO
  generalize (numsR x4).1=VL at H4 HY HV HO lV
  generalize (numsR x4).2=d4 at H4 HY HO
  clear hP' z0 z1 z2 z3 z4
  have q0:=XC.at 0 rfl
  go_wp2_with fail
  refine (HM _).mono ?_
  rintro en w5 ⟨v,rfl,ho,hb⟩
  clear q0 HM
  have RRN:=RR.later hb lr
  have XCN:=XC.later hb lx
  have lrN:=Nat.lt_of_lt_of_le lr hb.size
  have lxN:=Nat.lt_of_lt_of_le lx hb.size
  have BCN:=BC.trans (hb.mono BC.size)
  clear RR XC lr lx BC hb
  have RR:=RRN
  have XC:=XCN
  have lr:=lrN
  have lx:=lxN
  have BC:=BCN
  clear RRN XCN lrN lxN BCN
  by_cases h2:NL.length=2
  ·obtain ⟨c,sv,rfl⟩:∃ c sv,NL=[c,sv]:=by
    match NL,h2 with
    | [c,sv],_=>exact ⟨c,sv,rfl⟩
   obtain ⟨g5,cap5,rfl,hcap,hg,lq,QC0⟩:=own_blk (f:=Value.int .i64) (xs:=[c,sv]) ho (by simp)
   simp only [List.length_cons,List.length_nil,Nat.zero_add,Nat.reduceAdd] at hcap
   have hc2:(2:Int)≤(cap5:Int):=by omega
   have QC:Blk g5 [I c,I sv] w5:=QC0
   clear ho hg hcap h2 QC0
   have q0:=XC.at 1 rfl
   go_wp2_with fail
   refine (HK _).mono ?_
   rintro en w6 ⟨rfl,hb⟩
   clear q0 HK
   have RRN:=RR.later hb lr
   have XCN:=XC.later hb lx
   have QCN:=QC.later hb lq
   have lrN:=Nat.lt_of_lt_of_le lr hb.size
   have lxN:=Nat.lt_of_lt_of_le lx hb.size
   have lqN:=Nat.lt_of_lt_of_le lq hb.size
   have BCN:=BC.trans (hb.mono BC.size)
   clear RR XC QC lr lx lq BC hb
   have RR:=RRN
   have XC:=XCN
   have QC:=QCN
   have lr:=lrN
   have lx:=lxN
   have lq:=lqN
   have BC:=BCN
   clear RRN XCN QCN lrN lxN lqN BCN
   have q0:=XC.at 2 rfl
   go_wp2_with fail
   refine (HR _).mono ?_
   rintro en w7 ⟨rfl,hb⟩
   clear q0 HR
   have RRN:=RR.later hb lr
   have XCN:=XC.later hb lx
   have QCN:=QC.later hb lq
   have lrN:=Nat.lt_of_lt_of_le lr hb.size
   have lxN:=Nat.lt_of_lt_of_le lx hb.size
   have lqN:=Nat.lt_of_lt_of_le lq hb.size
   have BCN:=BC.trans (hb.mono BC.size)
   clear RR XC QC lr lx lq BC hb
   have RR:=RRN
   have XC:=XCN
   have QC:=QCN
   have lr:=lrN
   have lx:=lxN
   have lq:=lqN
   have BC:=BCN
   clear RRN XCN QCN lrN lxN lqN BCN
   obtain ⟨W8,hW8⟩:∃ W8,w7.alloc (.cells #[I ra,I rb,I rc] 31)=W8:=⟨_,rfl⟩
   have RRN:Blk w.heap.size [I 0,I 0,I 0,I 0,I 0,I 0,.slice none 0 0,.slice none 0 0] W8:=by rw [← hW8];exact RR.alloc lr _
   have XCN:Blk gp [.string x0,.string x1,.string x2,.string x3,.string x4] W8:=by rw [← hW8];exact XC.alloc lx _
   have QCN:Blk g5 [I c,I sv] W8:=by rw [← hW8];exact QC.alloc lq _
   have EC:Blk w7.heap.size [I ra,I rb,I rc] W8:=by rw [← hW8];exact Blk.new w7 _ _
   have BCN:Below w.heap.size w W8:=by rw [← hW8];exact BC.alloc BC.size _
   have le:w7.heap.size < W8.heap.size:=by rw [← hW8];simp
   have lrN:=Nat.lt_trans lr le
   have lxN:=Nat.lt_trans lx le
   have lqN:=Nat.lt_trans lq le
   clear RR XC QC BC lr lx lq
   have RR:=RRN
   have XC:=XCN
   have QC:=QCN
   have BC:=BCN
   have lr:=lrN
   have lx:=lxN
   have lq:=lqN
   clear RRN XCN QCN BCN lrN lxN lqN
   have q0:=XC.at 3 rfl
   go_wp2_with fail
   try rw [hW8]
   refine (H3 _).mono ?_
   clear hW8
   rintro en w9 ⟨u,rfl,OU,hb⟩
   clear q0 H3
   obtain ⟨ua,uc,rfl,_,_⟩:=own_row (f:=Value.int .i64) OU
   have mu:=own_in OU
   have MU:w.heap.size≤W8.heap.size:=Nat.le_of_lt lr
   have OP:=ownsRow_le OU MU
   have NP:∀ k,(.slice ua PL.length uc:Value).ownBlock=some k→k≠w.heap.size:=fun k h=>by have:=(mu k h).1;omega
   clear OU MU
   have RRN:=RR.later hb lr
   have XCN:=XC.later hb lx
   have QCN:=QC.later hb lq
   have ECN:=EC.later hb le
   have lrN:=Nat.lt_of_lt_of_le lr hb.size
   have lxN:=Nat.lt_of_lt_of_le lx hb.size
   have lqN:=Nat.lt_of_lt_of_le lq hb.size
   have leN:=Nat.lt_of_lt_of_le le hb.size
   have BCN:=BC.trans (hb.mono BC.size)
   clear RR XC QC EC lr lx lq le BC hb
   have RR:=RRN
   have XC:=XCN
   have QC:=QCN
   have EC:=ECN
   have lr:=lrN
   have lx:=lxN
   have lq:=lqN
   have le:=leN
   have BC:=BCN
   clear RRN XCN QCN ECN lrN lxN lqN leN BCN
   have lu:∀ k,(.slice ua PL.length uc:Value).ownBlock=some k→k < w9.heap.size:=fun k h=>(mu k h).2
   clear mu
   have q0:=XC.at 4 rfl
   go_wp2_with fail
   refine (H4 _).mono ?_
   rintro en w10 ⟨u,rfl,OU,hb⟩
   clear q0 H4
   obtain ⟨va,vc,rfl,_,_⟩:=own_row (f:=Value.int .i64) OU
   have AP:Apart (.slice ua PL.length uc) (.slice va VL.length vc):=apart_of lu (fun k h=>(own_in OU k h).1)
   have MU:w.heap.size≤w9.heap.size:=Nat.le_of_lt lr
   have OV:=ownsRow_le OU MU
   have NV:∀ k,(.slice va VL.length vc:Value).ownBlock=some k→k≠w.heap.size:=fun k h=>by have:=(own_in OU k h).1;omega
   clear OU MU lu
   have RRN:=RR.later hb lr
   have QCN:=QC.later hb lq
   have ECN:=EC.later hb le
   have OPN:=own_later OP hb
   have lrN:=Nat.lt_of_lt_of_le lr hb.size
   have lqN:=Nat.lt_of_lt_of_le lq hb.size
   have leN:=Nat.lt_of_lt_of_le le hb.size
   have BCN:=BC.trans (hb.mono BC.size)
   clear RR QC EC OP lr lq le BC hb
   have RR:=RRN
   have QC:=QCN
   have EC:=ECN
   have OP:=OPN
   have lr:=lrN
   have lq:=lqN
   have le:=leN
   have BC:=BCN
   clear RRN QCN ECN OPN lrN lqN leN BCN
   have hk':(ka && (rk && (d3 && d4)))=false→rtK s key=false:=by
    intro h
    cases ka with
    | false=>exact HO (Or.inr (Or.inl rfl))
    | true =>
     cases rk with
     | false=>exact HO (Or.inr (Or.inr (Or.inl rfl)))
     | true =>
      cases d3 with
      | false=>exact HO (Or.inr (Or.inr (Or.inr (Or.inl rfl))))
      | true =>
       cases d4 with
       | false=>exact HO (Or.inr (Or.inr (Or.inr (Or.inr (Or.inl rfl)))))
       | true=>cases h
   have hnb:nb=true:=by
    cases nb with
    | true=>rfl
    | false=>have:=HN rfl;cases this
   subst hnb
   clear HN
   cases ka with
   | false =>
    have hk:=hk' rfl
    clear HY HV HO hk' OP OV AP QC EC
    have FG:=show Hid _ from RR.fill8 BC (Nat.le_refl _) (I 0) (I 0) (I 0) (I 0) (I 0) (I 0) (.slice none 0 0) (.slice none 0 0)
    have r0:=RR.at 0 rfl
    have g0:=RR.fz 0 rfl
    have r1:=RR.at 1 rfl
    have g1:=RR.fz 1 rfl
    have r2:=RR.at 2 rfl
    have g2:=RR.fz 2 rfl
    have r3:=RR.at 3 rfl
    have g3:=RR.fz 3 rfl
    have r4:=RR.at 4 rfl
    have g4:=RR.fz 4 rfl
    have r5:=RR.at 5 rfl
    have g5:=RR.fz 5 rfl
    have r6:=RR.at 6 rfl
    have g6:=RR.fz 6 rfl
    have r7:=RR.at 7 rfl
    have g7:=RR.fz 7 rfl
    clear RR BC
    go_wp2
    have G:=FG.out
    refine bodyPost_ret (res_tb rfl _ _ w.heap.size _ _ _ _ _ _ _ _ (.bool false) rfl rfl (G.1.at 0 rfl) (G.1.at 1 rfl) (G.1.at 2 rfl) (G.1.at 3 rfl) (G.1.at 4 rfl) (G.1.at 5 rfl) (G.1.at 6 rfl) (G.1.at 7 rfl)) rfl ⟨none,0,none,0,?_,?_,?_,?_,G.2⟩
    ·rw [rtN_no hk,rtN_no hk,rtN_no hk,rtN_no hk,rtN_no hk,rtN_no hk,rtP_no hk,rtV_no hk,hk];rfl
    ·rw [rtP_no hk];exact World.ownsRow_nil _ _ _ _
    ·rw [rtV_no hk];exact World.ownsRow_nil _ _ _ _
    ·rw [rtP_no hk];exact apart_nil _
   | true =>
    cases rk with
    | false =>
     have hk:=hk' rfl
     clear HY HV HO hk' OP OV AP QC EC
     have FG:=show Hid _ from RR.fill8 BC (Nat.le_refl _) (I 0) (I 0) (I 0) (I 0) (I 0) (I 0) (.slice none 0 0) (.slice none 0 0)
     have r0:=RR.at 0 rfl
     have g0:=RR.fz 0 rfl
     have r1:=RR.at 1 rfl
     have g1:=RR.fz 1 rfl
     have r2:=RR.at 2 rfl
     have g2:=RR.fz 2 rfl
     have r3:=RR.at 3 rfl
     have g3:=RR.fz 3 rfl
     have r4:=RR.at 4 rfl
     have g4:=RR.fz 4 rfl
     have r5:=RR.at 5 rfl
     have g5:=RR.fz 5 rfl
     have r6:=RR.at 6 rfl
     have g6:=RR.fz 6 rfl
     have r7:=RR.at 7 rfl
     have g7:=RR.fz 7 rfl
     clear RR BC
     go_wp2
     have G:=FG.out
     refine bodyPost_ret (res_tb rfl _ _ w.heap.size _ _ _ _ _ _ _ _ (.bool false) rfl rfl (G.1.at 0 rfl) (G.1.at 1 rfl) (G.1.at 2 rfl) (G.1.at 3 rfl) (G.1.at 4 rfl) (G.1.at 5 rfl) (G.1.at 6 rfl) (G.1.at 7 rfl)) rfl ⟨none,0,none,0,?_,?_,?_,?_,G.2⟩
     ·rw [rtN_no hk,rtN_no hk,rtN_no hk,rtN_no hk,rtN_no hk,rtN_no hk,rtP_no hk,rtV_no hk,hk];rfl
     ·rw [rtP_no hk];exact World.ownsRow_nil _ _ _ _
     ·rw [rtV_no hk];exact World.ownsRow_nil _ _ _ _
     ·rw [rtP_no hk];exact apart_nil _
    | true =>
     cases d3 with
     | false =>
      have hk:=hk' rfl
      clear HY HV HO hk' OP OV AP QC EC
      have FG:=show Hid _ from RR.fill8 BC (Nat.le_refl _) (I 0) (I 0) (I 0) (I 0) (I 0) (I 0) (.slice none 0 0) (.slice none 0 0)
      have r0:=RR.at 0 rfl
      have g0:=RR.fz 0 rfl
      have r1:=RR.at 1 rfl
      have g1:=RR.fz 1 rfl
      have r2:=RR.at 2 rfl
      have g2:=RR.fz 2 rfl
      have r3:=RR.at 3 rfl
      have g3:=RR.fz 3 rfl
      have r4:=RR.at 4 rfl
      have g4:=RR.fz 4 rfl
      have r5:=RR.at 5 rfl
      have g5:=RR.fz 5 rfl
      have r6:=RR.at 6 rfl
      have g6:=RR.fz 6 rfl
      have r7:=RR.at 7 rfl
      have g7:=RR.fz 7 rfl
      clear RR BC
      go_wp2
      have G:=FG.out
      refine bodyPost_ret (res_tb rfl _ _ w.heap.size _ _ _ _ _ _ _ _ (.bool false) rfl rfl (G.1.at 0 rfl) (G.1.at 1 rfl) (G.1.at 2 rfl) (G.1.at 3 rfl) (G.1.at 4 rfl) (G.1.at 5 rfl) (G.1.at 6 rfl) (G.1.at 7 rfl)) rfl ⟨none,0,none,0,?_,?_,?_,?_,G.2⟩
      ·rw [rtN_no hk,rtN_no hk,rtN_no hk,rtN_no hk,rtN_no hk,rtN_no hk,rtP_no hk,rtV_no hk,hk];rfl
      ·rw [rtP_no hk];exact World.ownsRow_nil _ _ _ _
      ·rw [rtV_no hk];exact World.ownsRow_nil _ _ _ _
      ·rw [rtP_no hk];exact apart_nil _
     | true =>
      cases d4 with
      | false =>
       have hk:=hk' rfl
       clear HY HV HO hk' OP OV AP QC EC
       have FG:=show Hid _ from RR.fill8 BC (Nat.le_refl _) (I 0) (I 0) (I 0) (I 0) (I 0) (I 0) (.slice none 0 0) (.slice none 0 0)
       have r0:=RR.at 0 rfl
       have g0:=RR.fz 0 rfl
       have r1:=RR.at 1 rfl
       have g1:=RR.fz 1 rfl
       have r2:=RR.at 2 rfl
       have g2:=RR.fz 2 rfl
       have r3:=RR.at 3 rfl
       have g3:=RR.fz 3 rfl
       have r4:=RR.at 4 rfl
       have g4:=RR.fz 4 rfl
       have r5:=RR.at 5 rfl
       have g5:=RR.fz 5 rfl
       have r6:=RR.at 6 rfl
       have g6:=RR.fz 6 rfl
       have r7:=RR.at 7 rfl
       have g7:=RR.fz 7 rfl
       clear RR BC
       go_wp2
       have G:=FG.out
       refine bodyPost_ret (res_tb rfl _ _ w.heap.size _ _ _ _ _ _ _ _ (.bool false) rfl rfl (G.1.at 0 rfl) (G.1.at 1 rfl) (G.1.at 2 rfl) (G.1.at 3 rfl) (G.1.at 4 rfl) (G.1.at 5 rfl) (G.1.at 6 rfl) (G.1.at 7 rfl)) rfl ⟨none,0,none,0,?_,?_,?_,?_,G.2⟩
       ·rw [rtN_no hk,rtN_no hk,rtN_no hk,rtN_no hk,rtN_no hk,rtN_no hk,rtP_no hk,rtV_no hk,hk];rfl
       ·rw [rtP_no hk];exact World.ownsRow_nil _ _ _ _
       ·rw [rtV_no hk];exact World.ownsRow_nil _ _ _ _
       ·rw [rtP_no hk];exact apart_nil _
      | true =>
      clear hk'
      obtain ⟨W11,hW11⟩:∃ W11,(w10.alloc (.cells #[I c,I sv,I kv,I ra,I rb,I rc,.slice ua PL.length uc,.slice va VL.length vc] 43)).drew=W11:=⟨_,rfl⟩
      have X11:Below w10.heap.size w10 W11:=by rw [← hW11];exact ((Below.refl _ _).alloc (Nat.le_refl _) _).drew
      have R8:=RR.later X11 lr
      have Q8:=QC.later X11 lq
      have E8:=EC.later X11 le
      have D8:Blk w10.heap.size [I c,I sv,I kv,I ra,I rb,I rc,.slice ua PL.length uc,.slice va VL.length vc] W11:=by rw [← hW11];exact (Blk.new w10 #[I c,I sv,I kv,I ra,I rb,I rc,.slice ua PL.length uc,.slice va VL.length vc] _).drew
      have O8:=own_later OP X11
      have V8:=own_later OV X11
      have B8:=BC.trans (X11.mono BC.size)
      have l8:w.heap.size < W11.heap.size:=Nat.lt_of_lt_of_le lr X11.size
      have n8:w.heap.size < w10.heap.size:=lr
      have Z8:Hid (w10.heap.size < W11.heap.size):=by show _ < _;rw [← hW11];simp
      generalize hg9:w7.heap.size=g9 at EC le E8
      go_wp2_with fail
      try rw [hg9]
      refine wp_region_held_drew (S:=(fun Vw=>Blk g5 [I c,I sv] Vw∧Blk g9 [I ra,I rb,I rc] Vw)) (by kernel_rfl) ⟨QC.drew,EC.drew⟩ (fun hH=>?_)
      refine tk 0 95 rfl _ hH (by intro w' h;have d0:=h.1.e2;have e0:=h.2.e3;go_simp;try with_reducible rfl) ?_
      try simp only [Act.put,pa,pb,pc]
      refine tk 1 96 rfl _ hH (by intro w' h;have d0:=h.1.e2;have e0:=h.2.e3;go_simp;try with_reducible rfl) ?_
      try simp only [Act.put,pa,pb,pc]
      refine tk 2 97 rfl _ hH (by intro w' h;have d0:=h.1.e2;have e0:=h.2.e3;go_simp;try with_reducible rfl) ?_
      try simp only [Act.put,pa,pb,pc]
      refine tk 3 98 rfl _ hH (by intro w' h;have d0:=h.1.e2;have e0:=h.2.e3;go_simp;try with_reducible rfl) ?_
      try simp only [Act.put,pa,pb,pc]
      refine tk 4 99 rfl _ hH (by intro w' h;have d0:=h.1.e2;have e0:=h.2.e3;go_simp;try with_reducible rfl) ?_
      try simp only [Act.put,pa,pb,pc]
      refine tk 5 100 rfl _ hH (by intro w' h;have d0:=h.1.e2;have e0:=h.2.e3;go_simp;try with_reducible rfl) ?_
      try simp only [Act.put,pa,pb,pc]
      refine tk 6 101 rfl _ hH (by intro w' h;have d0:=h.1.e2;have e0:=h.2.e3;go_simp;try with_reducible rfl) ?_
      try simp only [Act.put,pa,pb,pc]
      refine tk 7 102 rfl _ hH (by intro w' h;have d0:=h.1.e2;have e0:=h.2.e3;go_simp;try with_reducible rfl) ?_
      try simp only [Act.put,pa,pb,pc]
      refine tk 8 103 rfl _ hH (by intro w' h;have d0:=h.1.e2;have e0:=h.2.e3;go_simp;try with_reducible rfl) ?_
      try simp only [Act.put,pa,pb,pc]
      refine tk 9 104 rfl _ hH (by intro w' h;have d0:=h.1.e2;have e0:=h.2.e3;go_simp;try with_reducible rfl) ?_
      try simp only [Act.put,pa,pb,pc]
      refine tk 10 105 rfl _ hH (by intro w' h;have d0:=h.1.e2;have e0:=h.2.e3;go_simp;try with_reducible rfl) ?_
      try simp only [Act.put,pa,pb,pc]
      refine wpAnyH_ready (rs:=[11]) (by kernel_rfl) (by simp) ?_
      refine AllReadyH.cons (i:=11) rfl (fun K hK=>?_) AllReadyH.nil
      go_simp
      refine hK.out _ _ ⟨(QC.drew.alloc (by simpa using lq) _),(EC.drew.alloc (by simpa using le) _)⟩ (fun hJ=>?_)
      clear hK K hH
      have hH:=hJ
      clear hJ
      try simp only [Act.put,pa,pb,pc]
      refine wpAnyH_ready (rs:=[12]) (by kernel_rfl) (by simp) ?_
      refine AllReadyH.cons (i:=12) rfl (fun K hK=>?_) AllReadyH.nil
      go_simp
      refine hK.out _ _ ⟨Q8,E8⟩ (fun hJ=>?_)
      clear hK K hH
      have hH:=hJ
      clear hJ
      try simp only [Act.put,pa,pb,pc]
      refine wpAnyH_done (by kernel_rfl) ?_ _
      try rw [hW11]
      clear hH hW11 QC EC Q8 E8 RR BC OP OV X11 le lq lr
      have e0:=D8.at 0 rfl
      have e1:=D8.at 1 rfl
      have e2:=D8.at 2 rfl
      have e3:=D8.at 3 rfl
      have e4:=D8.at 4 rfl
      have e5:=D8.at 5 rfl
      have e6:=D8.at 6 rfl
      have e7:=D8.at 7 rfl
      have HA:=spec_ticketOk c sv kv ra rb rc ua PL uc va VL vc W11 (own_rowAt (f:=Value.int .i64) O8) (own_rowAt (f:=Value.int .i64) V8) lP lV
      go_wp2_with fail
      refine HA.mono ?_
      rintro en w12 ⟨rfl,hb⟩
      clear e0 e1 e2 e3 e4 e5 e6 e7 HA
      have DC:=D8.later hb Z8.out
      have RR:=R8.later hb l8
      have BC:=B8.trans (hb.mono B8.size)
      have OP:=own_later O8 hb
      have OV:=own_later V8 hb
      have NH:Hid (w.heap.size < w10.heap.size):=n8
      clear D8 R8 B8 O8 V8 hb Z8 l8 n8
      have e0:=DC.at 0 rfl
      have e1:=DC.at 1 rfl
      have e2:=DC.at 2 rfl
      have e3:=DC.at 3 rfl
      have e4:=DC.at 4 rfl
      have e5:=DC.at 5 rfl
      have e6:=DC.at 6 rfl
      have e7:=DC.at 7 rfl
      by_cases h0:tOk c sv kv ra rb rc PL VL=true
      ·have hk:=HY (by trivial) (by trivial) (by trivial) (by trivial) (by trivial) c sv rfl h0
       obtain ⟨y0,y1,y2,y3,y4,y5,yP,yV⟩:=HV c sv rfl hk
       clear HY HV HO
       rw [h0]
       have FG:=show Hid _ from RR.fill8 BC (Nat.le_refl _) (I c) (I sv) (I kv) (I ra) (I rb) (I rc) (.slice ua PL.length uc) (.slice va VL.length vc)
       have nP:∀ k,(.slice ua PL.length uc:Value).ownBlock=some k→k≠w.heap.size:=NP
       have FU:=show Hid _ from own_fill8 (q:=w.heap.size) OP nP (I c) (I sv) (I kv) (I ra) (I rb) (I rc) (.slice ua PL.length uc) (.slice va VL.length vc)
       have FV:=show Hid _ from own_fill8 (q:=w.heap.size) OV NV (I c) (I sv) (I kv) (I ra) (I rb) (I rc) (.slice ua PL.length uc) (.slice va VL.length vc)
       have r0:=RR.at 0 rfl
       have g0:=RR.fz 0 rfl
       have r1:=RR.at 1 rfl
       have g1:=RR.fz 1 rfl
       have r2:=RR.at 2 rfl
       have g2:=RR.fz 2 rfl
       have r3:=RR.at 3 rfl
       have g3:=RR.fz 3 rfl
       have r4:=RR.at 4 rfl
       have g4:=RR.fz 4 rfl
       have r5:=RR.at 5 rfl
       have g5:=RR.fz 5 rfl
       have r6:=RR.at 6 rfl
       have g6:=RR.fz 6 rfl
       have r7:=RR.at 7 rfl
       have g7:=RR.fz 7 rfl
       clear RR BC OP OV DC
       go_wp2
       have G:=FG.out
       refine bodyPost_ret (res_tb rfl _ _ w.heap.size _ _ _ _ _ _ _ _ (.bool true) rfl rfl (G.1.at 0 rfl) (G.1.at 1 rfl) (G.1.at 2 rfl) (G.1.at 3 rfl) (G.1.at 4 rfl) (G.1.at 5 rfl) (G.1.at 6 rfl) (G.1.at 7 rfl)) rfl ⟨ua,uc,va,vc,?_,?_,?_,?_,G.2⟩
       ·rw [y0,y1,y2,y3,y4,y5,yP,yV,hk]
       ·rw [yP];exact FU.out
       ·rw [yV];exact FV.out
       ·rw [yP,yV];exact AP
      ·rw [Bool.not_eq_true] at h0
       have hk:=HO (Or.inr (Or.inr (Or.inr (Or.inr (Or.inr (Or.inr ⟨c,sv,rfl,h0⟩))))))
       clear HY HV HO OP OV AP DC
       rw [h0]
       have FG:=show Hid _ from RR.fill8 BC (Nat.le_refl _) (I 0) (I 0) (I 0) (I 0) (I 0) (I 0) (.slice none 0 0) (.slice none 0 0)
       have r0:=RR.at 0 rfl
       have g0:=RR.fz 0 rfl
       have r1:=RR.at 1 rfl
       have g1:=RR.fz 1 rfl
       have r2:=RR.at 2 rfl
       have g2:=RR.fz 2 rfl
       have r3:=RR.at 3 rfl
       have g3:=RR.fz 3 rfl
       have r4:=RR.at 4 rfl
       have g4:=RR.fz 4 rfl
       have r5:=RR.at 5 rfl
       have g5:=RR.fz 5 rfl
       have r6:=RR.at 6 rfl
       have g6:=RR.fz 6 rfl
       have r7:=RR.at 7 rfl
       have g7:=RR.fz 7 rfl
       clear RR BC
       go_wp2
       have G:=FG.out
       refine bodyPost_ret (res_tb rfl _ _ w.heap.size _ _ _ _ _ _ _ _ (.bool false) rfl rfl (G.1.at 0 rfl) (G.1.at 1 rfl) (G.1.at 2 rfl) (G.1.at 3 rfl) (G.1.at 4 rfl) (G.1.at 5 rfl) (G.1.at 6 rfl) (G.1.at 7 rfl)) rfl ⟨none,0,none,0,?_,?_,?_,?_,G.2⟩
       ·rw [rtN_no hk,rtN_no hk,rtN_no hk,rtN_no hk,rtN_no hk,rtN_no hk,rtP_no hk,rtV_no hk,hk];rfl
       ·rw [rtP_no hk];exact World.ownsRow_nil _ _ _ _
       ·rw [rtV_no hk];exact World.ownsRow_nil _ _ _ _
       ·rw [rtP_no hk];exact apart_nil _
  ·have hk:=HO (Or.inr (Or.inr (Or.inr (Or.inr (Or.inr (Or.inl h2))))))
   obtain ⟨a,cap,rfl,_,_⟩:=own_row (f:=Value.int .i64) ho
   have h2':((NL.length:Int) == 2)=false:=by simp;omega
   clear ho HN HY HV HO
   have q0:=XC.at 1 rfl
   go_wp2_with fail
   refine (HK _).mono ?_
   rintro en w6 ⟨rfl,hb⟩
   clear q0 HK
   have RRN:=RR.later hb lr
   have XCN:=XC.later hb lx
   have lrN:=Nat.lt_of_lt_of_le lr hb.size
   have lxN:=Nat.lt_of_lt_of_le lx hb.size
   have BCN:=BC.trans (hb.mono BC.size)
   clear RR XC lr lx BC hb
   have RR:=RRN
   have XC:=XCN
   have lr:=lrN
   have lx:=lxN
   have BC:=BCN
   clear RRN XCN lrN lxN BCN
   have q0:=XC.at 2 rfl
   go_wp2_with fail
   refine (HR _).mono ?_
   rintro en w7 ⟨rfl,hb⟩
   clear q0 HR
   have RRN:=RR.later hb lr
   have XCN:=XC.later hb lx
   have lrN:=Nat.lt_of_lt_of_le lr hb.size
   have lxN:=Nat.lt_of_lt_of_le lx hb.size
   have BCN:=BC.trans (hb.mono BC.size)
   clear RR XC lr lx BC hb
   have RR:=RRN
   have XC:=XCN
   have lr:=lrN
   have lx:=lxN
   have BC:=BCN
   clear RRN XCN lrN lxN BCN
   obtain ⟨W8,hW8⟩:∃ W8,w7.alloc (.cells #[I ra,I rb,I rc] 31)=W8:=⟨_,rfl⟩
   have RRN:Blk w.heap.size [I 0,I 0,I 0,I 0,I 0,I 0,.slice none 0 0,.slice none 0 0] W8:=by rw [← hW8];exact RR.alloc lr _
   have XCN:Blk gp [.string x0,.string x1,.string x2,.string x3,.string x4] W8:=by rw [← hW8];exact XC.alloc lx _
   have EC:Blk w7.heap.size [I ra,I rb,I rc] W8:=by rw [← hW8];exact Blk.new w7 _ _
   have BCN:Below w.heap.size w W8:=by rw [← hW8];exact BC.alloc BC.size _
   have le:w7.heap.size < W8.heap.size:=by rw [← hW8];simp
   have lrN:=Nat.lt_trans lr le
   have lxN:=Nat.lt_trans lx le
   clear RR XC BC lr lx
   have RR:=RRN
   have XC:=XCN
   have BC:=BCN
   have lr:=lrN
   have lx:=lxN
   clear RRN XCN BCN lrN lxN
   have q0:=XC.at 3 rfl
   go_wp2_with fail
   try rw [hW8]
   refine (H3 _).mono ?_
   clear hW8
   rintro en w9 ⟨u,rfl,OU,hb⟩
   clear q0 H3
   obtain ⟨ua,uc,rfl,_,_⟩:=own_row (f:=Value.int .i64) OU
   have mu:=own_in OU
   have MU:w.heap.size≤W8.heap.size:=Nat.le_of_lt lr
   have OP:=ownsRow_le OU MU
   have NP:∀ k,(.slice ua PL.length uc:Value).ownBlock=some k→k≠w.heap.size:=fun k h=>by have:=(mu k h).1;omega
   clear OU MU
   have RRN:=RR.later hb lr
   have XCN:=XC.later hb lx
   have ECN:=EC.later hb le
   have lrN:=Nat.lt_of_lt_of_le lr hb.size
   have lxN:=Nat.lt_of_lt_of_le lx hb.size
   have leN:=Nat.lt_of_lt_of_le le hb.size
   have BCN:=BC.trans (hb.mono BC.size)
   clear RR XC EC lr lx le BC hb
   have RR:=RRN
   have XC:=XCN
   have EC:=ECN
   have lr:=lrN
   have lx:=lxN
   have le:=leN
   have BC:=BCN
   clear RRN XCN ECN lrN lxN leN BCN
   have lu:∀ k,(.slice ua PL.length uc:Value).ownBlock=some k→k < w9.heap.size:=fun k h=>(mu k h).2
   clear mu
   have q0:=XC.at 4 rfl
   go_wp2_with fail
   refine (H4 _).mono ?_
   rintro en w10 ⟨u,rfl,OU,hb⟩
   clear q0 H4
   obtain ⟨va,vc,rfl,_,_⟩:=own_row (f:=Value.int .i64) OU
   have AP:Apart (.slice ua PL.length uc) (.slice va VL.length vc):=apart_of lu (fun k h=>(own_in OU k h).1)
   have MU:w.heap.size≤w9.heap.size:=Nat.le_of_lt lr
   have OV:=ownsRow_le OU MU
   have NV:∀ k,(.slice va VL.length vc:Value).ownBlock=some k→k≠w.heap.size:=fun k h=>by have:=(own_in OU k h).1;omega
   clear OU MU lu
   have RRN:=RR.later hb lr
   have ECN:=EC.later hb le
   have OPN:=own_later OP hb
   have lrN:=Nat.lt_of_lt_of_le lr hb.size
   have leN:=Nat.lt_of_lt_of_le le hb.size
   have BCN:=BC.trans (hb.mono BC.size)
   clear RR EC OP lr le BC hb
   have RR:=RRN
   have EC:=ECN
   have OP:=OPN
   have lr:=lrN
   have le:=leN
   have BC:=BCN
   clear RRN ECN OPN lrN leN BCN
   clear OP OV AP EC
   cases nb with
   | false =>
    have FG:=show Hid _ from RR.fill8 BC (Nat.le_refl _) (I 0) (I 0) (I 0) (I 0) (I 0) (I 0) (.slice none 0 0) (.slice none 0 0)
    have r0:=RR.at 0 rfl
    have g0:=RR.fz 0 rfl
    have r1:=RR.at 1 rfl
    have g1:=RR.fz 1 rfl
    have r2:=RR.at 2 rfl
    have g2:=RR.fz 2 rfl
    have r3:=RR.at 3 rfl
    have g3:=RR.fz 3 rfl
    have r4:=RR.at 4 rfl
    have g4:=RR.fz 4 rfl
    have r5:=RR.at 5 rfl
    have g5:=RR.fz 5 rfl
    have r6:=RR.at 6 rfl
    have g6:=RR.fz 6 rfl
    have r7:=RR.at 7 rfl
    have g7:=RR.fz 7 rfl
    clear RR BC
    go_wp2
    have G:=FG.out
    refine bodyPost_ret (res_tb rfl _ _ w.heap.size _ _ _ _ _ _ _ _ (.bool false) rfl rfl (G.1.at 0 rfl) (G.1.at 1 rfl) (G.1.at 2 rfl) (G.1.at 3 rfl) (G.1.at 4 rfl) (G.1.at 5 rfl) (G.1.at 6 rfl) (G.1.at 7 rfl)) rfl ⟨none,0,none,0,?_,?_,?_,?_,G.2⟩
    ·rw [rtN_no hk,rtN_no hk,rtN_no hk,rtN_no hk,rtN_no hk,rtN_no hk,rtP_no hk,rtV_no hk,hk];rfl
    ·rw [rtP_no hk];exact World.ownsRow_nil _ _ _ _
    ·rw [rtV_no hk];exact World.ownsRow_nil _ _ _ _
    ·rw [rtP_no hk];exact apart_nil _
   | true =>
    cases ka with
    | false =>
     have FG:=show Hid _ from RR.fill8 BC (Nat.le_refl _) (I 0) (I 0) (I 0) (I 0) (I 0) (I 0) (.slice none 0 0) (.slice none 0 0)
     have r0:=RR.at 0 rfl
     have g0:=RR.fz 0 rfl
     have r1:=RR.at 1 rfl
     have g1:=RR.fz 1 rfl
     have r2:=RR.at 2 rfl
     have g2:=RR.fz 2 rfl
     have r3:=RR.at 3 rfl
     have g3:=RR.fz 3 rfl
     have r4:=RR.at 4 rfl
     have g4:=RR.fz 4 rfl
     have r5:=RR.at 5 rfl
     have g5:=RR.fz 5 rfl
     have r6:=RR.at 6 rfl
     have g6:=RR.fz 6 rfl
     have r7:=RR.at 7 rfl
     have g7:=RR.fz 7 rfl
     clear RR BC
     go_wp2
     have G:=FG.out
     refine bodyPost_ret (res_tb rfl _ _ w.heap.size _ _ _ _ _ _ _ _ (.bool false) rfl rfl (G.1.at 0 rfl) (G.1.at 1 rfl) (G.1.at 2 rfl) (G.1.at 3 rfl) (G.1.at 4 rfl) (G.1.at 5 rfl) (G.1.at 6 rfl) (G.1.at 7 rfl)) rfl ⟨none,0,none,0,?_,?_,?_,?_,G.2⟩
     ·rw [rtN_no hk,rtN_no hk,rtN_no hk,rtN_no hk,rtN_no hk,rtN_no hk,rtP_no hk,rtV_no hk,hk];rfl
     ·rw [rtP_no hk];exact World.ownsRow_nil _ _ _ _
     ·rw [rtV_no hk];exact World.ownsRow_nil _ _ _ _
     ·rw [rtP_no hk];exact apart_nil _
    | true =>
     cases rk with
     | false =>
      have FG:=show Hid _ from RR.fill8 BC (Nat.le_refl _) (I 0) (I 0) (I 0) (I 0) (I 0) (I 0) (.slice none 0 0) (.slice none 0 0)
      have r0:=RR.at 0 rfl
      have g0:=RR.fz 0 rfl
      have r1:=RR.at 1 rfl
      have g1:=RR.fz 1 rfl
      have r2:=RR.at 2 rfl
      have g2:=RR.fz 2 rfl
      have r3:=RR.at 3 rfl
      have g3:=RR.fz 3 rfl
      have r4:=RR.at 4 rfl
      have g4:=RR.fz 4 rfl
      have r5:=RR.at 5 rfl
      have g5:=RR.fz 5 rfl
      have r6:=RR.at 6 rfl
      have g6:=RR.fz 6 rfl
      have r7:=RR.at 7 rfl
      have g7:=RR.fz 7 rfl
      clear RR BC
      go_wp2
      have G:=FG.out
      refine bodyPost_ret (res_tb rfl _ _ w.heap.size _ _ _ _ _ _ _ _ (.bool false) rfl rfl (G.1.at 0 rfl) (G.1.at 1 rfl) (G.1.at 2 rfl) (G.1.at 3 rfl) (G.1.at 4 rfl) (G.1.at 5 rfl) (G.1.at 6 rfl) (G.1.at 7 rfl)) rfl ⟨none,0,none,0,?_,?_,?_,?_,G.2⟩
      ·rw [rtN_no hk,rtN_no hk,rtN_no hk,rtN_no hk,rtN_no hk,rtN_no hk,rtP_no hk,rtV_no hk,hk];rfl
      ·rw [rtP_no hk];exact World.ownsRow_nil _ _ _ _
      ·rw [rtV_no hk];exact World.ownsRow_nil _ _ _ _
      ·rw [rtP_no hk];exact apart_nil _
     | true =>
      cases d3 with
      | false =>
       have FG:=show Hid _ from RR.fill8 BC (Nat.le_refl _) (I 0) (I 0) (I 0) (I 0) (I 0) (I 0) (.slice none 0 0) (.slice none 0 0)
       have r0:=RR.at 0 rfl
       have g0:=RR.fz 0 rfl
       have r1:=RR.at 1 rfl
       have g1:=RR.fz 1 rfl
       have r2:=RR.at 2 rfl
       have g2:=RR.fz 2 rfl
       have r3:=RR.at 3 rfl
       have g3:=RR.fz 3 rfl
       have r4:=RR.at 4 rfl
       have g4:=RR.fz 4 rfl
       have r5:=RR.at 5 rfl
       have g5:=RR.fz 5 rfl
       have r6:=RR.at 6 rfl
       have g6:=RR.fz 6 rfl
       have r7:=RR.at 7 rfl
       have g7:=RR.fz 7 rfl
       clear RR BC
       go_wp2
       have G:=FG.out
       refine bodyPost_ret (res_tb rfl _ _ w.heap.size _ _ _ _ _ _ _ _ (.bool false) rfl rfl (G.1.at 0 rfl) (G.1.at 1 rfl) (G.1.at 2 rfl) (G.1.at 3 rfl) (G.1.at 4 rfl) (G.1.at 5 rfl) (G.1.at 6 rfl) (G.1.at 7 rfl)) rfl ⟨none,0,none,0,?_,?_,?_,?_,G.2⟩
       ·rw [rtN_no hk,rtN_no hk,rtN_no hk,rtN_no hk,rtN_no hk,rtN_no hk,rtP_no hk,rtV_no hk,hk];rfl
       ·rw [rtP_no hk];exact World.ownsRow_nil _ _ _ _
       ·rw [rtV_no hk];exact World.ownsRow_nil _ _ _ _
       ·rw [rtP_no hk];exact apart_nil _
      | true =>
       cases d4 with
       | false =>
        have FG:=show Hid _ from RR.fill8 BC (Nat.le_refl _) (I 0) (I 0) (I 0) (I 0) (I 0) (I 0) (.slice none 0 0) (.slice none 0 0)
        have r0:=RR.at 0 rfl
        have g0:=RR.fz 0 rfl
        have r1:=RR.at 1 rfl
        have g1:=RR.fz 1 rfl
        have r2:=RR.at 2 rfl
        have g2:=RR.fz 2 rfl
        have r3:=RR.at 3 rfl
        have g3:=RR.fz 3 rfl
        have r4:=RR.at 4 rfl
        have g4:=RR.fz 4 rfl
        have r5:=RR.at 5 rfl
        have g5:=RR.fz 5 rfl
        have r6:=RR.at 6 rfl
        have g6:=RR.fz 6 rfl
        have r7:=RR.at 7 rfl
        have g7:=RR.fz 7 rfl
        clear RR BC
        go_wp2
        have G:=FG.out
        refine bodyPost_ret (res_tb rfl _ _ w.heap.size _ _ _ _ _ _ _ _ (.bool false) rfl rfl (G.1.at 0 rfl) (G.1.at 1 rfl) (G.1.at 2 rfl) (G.1.at 3 rfl) (G.1.at 4 rfl) (G.1.at 5 rfl) (G.1.at 6 rfl) (G.1.at 7 rfl)) rfl ⟨none,0,none,0,?_,?_,?_,?_,G.2⟩
        ·rw [rtN_no hk,rtN_no hk,rtN_no hk,rtN_no hk,rtN_no hk,rtN_no hk,rtP_no hk,rtV_no hk,hk];rfl
        ·rw [rtP_no hk];exact World.ownsRow_nil _ _ _ _
        ·rw [rtV_no hk];exact World.ownsRow_nil _ _ _ _
        ·rw [rtP_no hk];exact apart_nil _
       | true =>
        have FG:=show Hid _ from RR.fill8 BC (Nat.le_refl _) (I 0) (I 0) (I 0) (I 0) (I 0) (I 0) (.slice none 0 0) (.slice none 0 0)
        have r0:=RR.at 0 rfl
        have g0:=RR.fz 0 rfl
        have r1:=RR.at 1 rfl
        have g1:=RR.fz 1 rfl
        have r2:=RR.at 2 rfl
        have g2:=RR.fz 2 rfl
        have r3:=RR.at 3 rfl
        have g3:=RR.fz 3 rfl
        have r4:=RR.at 4 rfl
        have g4:=RR.fz 4 rfl
        have r5:=RR.at 5 rfl
        have g5:=RR.fz 5 rfl
        have r6:=RR.at 6 rfl
        have g6:=RR.fz 6 rfl
        have r7:=RR.at 7 rfl
        have g7:=RR.fz 7 rfl
        clear RR BC
        go_wp2
        have G:=FG.out
        refine bodyPost_ret (res_tb rfl _ _ w.heap.size _ _ _ _ _ _ _ _ (.bool false) rfl rfl (G.1.at 0 rfl) (G.1.at 1 rfl) (G.1.at 2 rfl) (G.1.at 3 rfl) (G.1.at 4 rfl) (G.1.at 5 rfl) (G.1.at 6 rfl) (G.1.at 7 rfl)) rfl ⟨none,0,none,0,?_,?_,?_,?_,G.2⟩
        ·rw [rtN_no hk,rtN_no hk,rtN_no hk,rtN_no hk,rtN_no hk,rtN_no hk,rtP_no hk,rtV_no hk,hk];rfl
        ·rw [rtP_no hk];exact World.ownsRow_nil _ _ _ _
        ·rw [rtV_no hk];exact World.ownsRow_nil _ _ _ _
        ·rw [rtP_no hk];exact apart_nil _
 ·have hk:=HRG h5
  obtain ⟨a,cap,rfl,_,_⟩:=own_row (f:=Value.string) ho
  have h5':((XL.length:Int) == 5)=false:=by simp;omega
  clear ho
  have FG:=show Hid _ from RR.fill8 BC (Nat.le_refl _) (I 0) (I 0) (I 0) (I 0) (I 0) (I 0) (.slice none 0 0) (.slice none 0 0)
  have r0:=RR.at 0 rfl
  have g0:=RR.fz 0 rfl
  have r1:=RR.at 1 rfl
  have g1:=RR.fz 1 rfl
  have r2:=RR.at 2 rfl
  have g2:=RR.fz 2 rfl
  have r3:=RR.at 3 rfl
  have g3:=RR.fz 3 rfl
  have r4:=RR.at 4 rfl
  have g4:=RR.fz 4 rfl
  have r5:=RR.at 5 rfl
  have g5:=RR.fz 5 rfl
  have r6:=RR.at 6 rfl
  have g6:=RR.fz 6 rfl
  have r7:=RR.at 7 rfl
  have g7:=RR.fz 7 rfl
  clear RR BC
  go_wp2
  have G:=FG.out
  refine bodyPost_ret (res_tb rfl _ _ w.heap.size _ _ _ _ _ _ _ _ (.bool false) rfl rfl (G.1.at 0 rfl) (G.1.at 1 rfl) (G.1.at 2 rfl) (G.1.at 3 rfl) (G.1.at 4 rfl) (G.1.at 5 rfl) (G.1.at 6 rfl) (G.1.at 7 rfl)) rfl ⟨none,0,none,0,?_,?_,?_,?_,G.2⟩
  ·rw [rtN_no hk,rtN_no hk,rtN_no hk,rtN_no hk,rtN_no hk,rtN_no hk,rtP_no hk,rtV_no hk,hk];rfl
  ·rw [rtP_no hk];exact World.ownsRow_nil _ _ _ _
  ·rw [rtV_no hk];exact World.ownsRow_nil _ _ _ _
  ·rw [rtP_no hk];exact apart_nil _
end Go.Proofs.YtcaieniddnhkbaaGreatDoor
