/- Chapter 8: what a request says. -/
import Derived.Test.YtcaieniddnhkbaaGreatDoorAb
import Derived.Test.YtcaieniddnhkbaaGreatDoorIm8a
import Derived.Test.YtcaieniddnhkbaaGreatDoorIm8e
import Derived.Test.YtcaieniddnhkbaaGreatDoorKeys
set_option linter.unusedVariables false
set_option maxRecDepth 100000
namespace Go.Proofs.YtcaieniddnhkbaaGreatDoor
open Go Go.RowKit Own Var Term
def rqV (req:ByteArray):Value :=
 if (reqN req).length=3∧(reqN req).getD 2 0≤1000000 then
  (if (reqN req).getD 0 0=1∧(partsR req).1.length=2 then .iface 126 (.agg #[I ((reqN req).getD 1 0),I ((reqN req).getD 2 0),.string (reqP req 1)])
   else if (reqN req).getD 0 0=2∧(partsR req).1.length=5 then .iface 129 (.agg #[I ((reqN req).getD 1 0),I ((reqN req).getD 2 0),.string (reqP req 1),.string (reqP req 2),.string (reqP req 3),.string (reqP req 4)])
   else .nilIface)
 else .nilIface
theorem rq_none {req:ByteArray} (h:(partsR req).1=[]):rqV req=.nilIface:=by
 unfold rqV
 rw [if_neg]
 rintro ⟨h1,_⟩
 unfold reqN at h1
 rw [h] at h1
 simp only [List.getD_nil] at h1
 unfold numsR partsR at h1
 rw [rk_nil] at h1
 simp [numsP] at h1
theorem rq_some {req x:ByteArray} {xs:List ByteArray} (h:(partsR req).1=x :: xs) {n0 n1 n2:Int} (hj:just 0 (numsR x).1 3=[n0,n1,n2]) (hz:∀ z∈(numsR x).1,0≤z) :
  rqV req=if 1000000 < n2 then .nilIface else if n0=1∧xs.length=1 then .iface 126 (.agg #[I n1,I n2,.string (xs.getD 0 ⟨#[]⟩)]) else if n0=2∧xs.length=4 then .iface 129 (.agg #[I n1,I n2,.string (xs.getD 0 ⟨#[]⟩),.string (xs.getD 1 ⟨#[]⟩),.string (xs.getD 2 ⟨#[]⟩),.string (xs.getD 3 ⟨#[]⟩)]) else .nilIface:=by
 have hN:reqN req=(numsR x).1:=by unfold reqN;rw [h];rfl
 have hP:∀ i,reqP req (i+1)=xs.getD i ⟨#[]⟩:=fun i=>by unfold reqP;rw [h];simp
 unfold rqV
 rw [hN,hP 0,hP 1,hP 2,hP 3,h]
 unfold just at hj
 by_cases hl:(numsR x).1.length=3
 ·rw [if_pos hl] at hj
  rw [hj]
  by_cases h2:1000000 < n2
  ·rw [if_pos h2,if_neg]
   rintro ⟨_,e⟩
   simp at e
   omega
  ·rw [if_neg h2,if_pos ⟨rfl,by simp;omega⟩]
   simp
 ·rw [if_neg hl] at hj
  simp only [List.replicate,List.cons.injEq,and_true] at hj
  obtain ⟨rfl,rfl,rfl⟩:=hj
  rw [if_neg (fun e=>hl e.1),if_neg (by omega),if_neg (by omega),if_neg (by omega)]
set_option maxHeartbeats 6400000 in
theorem rq_is (req:ByteArray) (w:World) (hs:req.size≤1048576):Calls Tryz.prog 67 #[.string req] w fun en w'=>en=.returned (rqV req)∧Below w.heap.size w w':=by
 have HP:=impl_parts req w hs
 have hlen:=partsR_len req
 have hpz:=parts_size req
 go_enter Tryz.func67,Tryz.ntmps67
 go_wp2_with fail
 refine HP.mono ?_
 clear HP
 rintro en w2 ⟨v,rfl,hown,hb⟩
 have BC:Below w.heap.size w w2:=hb
 clear hb
 cases hp:(partsR req).1 with
 | nil =>
  have HR:Hid (rqV req=.nilIface):=rq_none hp
  rw [hp] at hown
  obtain ⟨a,cap,rfl,hc,_⟩:=own_row (f:=Value.string) (xs:=[]) hown
  clear hown hlen hpz hp
  generalize (partsR req).2=bb
  go_wp2
  go_ret
  exact ⟨by rw [HR.out];rfl,by first | exact BC | exact below_drewN BC _ | exact below_drewN (below_drewN BC _) _⟩
 | cons x xs =>
  rw [hp] at hown hlen hpz
  have hx:x.size≤1048576:=Nat.le_trans (hpz x (by simp)) (by omega)
  obtain ⟨n0,n1,n2,hj⟩:∃ n0 n1 n2,just 0 (numsR x).1 3=[n0,n1,n2]:=by
   have hl:=just_len 0 (numsR x).1 3
   match just 0 (numsR x).1 3,hl with
   | [n0,n1,n2],_=>exact ⟨n0,n1,n2,rfl⟩
  have HR:=show Hid _ from rq_some hp hj (fun z hz=>(numsR_small x z hz).1)
  obtain ⟨g,cap,rfl,hc,hg,hg2,PC⟩:=own_blk (f:=Value.string) hown (by simp)
  clear hown hp hpz
  generalize (partsR req).2=bb
  have hxl:xs.length≤11:=by simpa using hlen
  clear hlen
  have p0:w2.cell? ⟨g,0,none⟩=some (.string x):=PC.at 0 rfl
  have hgt:(0:Int) < ((xs.length+1:Nat):Int):=by omega
  rw [List.length_cons]
  have HN:=numbersOf_is x 3 w2 hx (by omega)
  rw [hj] at HN
  go_wp2_with fail
  refine HN.mono ?_
  clear HN p0 hj
  rintro en w3 ⟨u,rfl,hown,hb⟩
  replace PC:=PC.later hb PC.lt
  replace BC:=BC.trans (hb.mono BC.size)
  clear hb
  obtain ⟨k,kc,rfl,hkc,hk,hk2,NC⟩:=own_blk (f:=Value.int .i64) (xs:=[n0,n1,n2]) hown (by omega)
  clear hown hk hk2 hg hg2
  have m0:=NC.at 0 rfl
  have m1:=NC.at 1 rfl
  have m2:=NC.at 2 rfl
  by_cases e1:1000000 < n2
  ·rw [if_pos e1] at HR
   go_wp2_with fail
   go_quiet (fail)
   go_wp2
   go_ret
   exact ⟨by rw [HR.out];rfl,by first | exact BC | exact below_drewN BC _ | exact below_drewN (below_drewN BC _) _⟩
  ·rw [if_neg e1] at HR
   by_cases e2:n0=1
   ·subst e2
    by_cases e3:xs.length=1
    ·obtain ⟨y,rfl⟩:∃ y,xs=[y]:=by
      match xs,e3 with
      | [y],_=>exact ⟨y,rfl⟩
     ·have p1:w3.cell? ⟨g,1,none⟩=some (.string y):=PC.at 1 rfl
      rw [if_pos ⟨rfl,rfl⟩] at HR
      go_wp2_with fail
      go_quiet (fail)
      go_wp2
      go_ret
      exact ⟨by rw [HR.out];rfl,by first | exact BC | exact below_drewN BC _ | exact below_drewN (below_drewN BC _) _⟩
    ·rw [if_neg (by omega),if_neg (by omega)] at HR
     have e4:¬ ((xs.length+1:Nat):Int)=2:=by omega
     go_wp2_with fail
     go_quiet (fail)
     go_wp2
     go_ret
     exact ⟨by rw [HR.out];rfl,by first | exact BC | exact below_drewN BC _ | exact below_drewN (below_drewN BC _) _⟩
   ·rw [if_neg (by omega)] at HR
    by_cases e3:n0=2
    ·subst e3
     by_cases e5:xs.length=4
     ·obtain ⟨y1,y2,y3,y4,rfl⟩:∃ y1 y2 y3 y4,xs=[y1,y2,y3,y4]:=by
       match xs,e5 with
       | [y1,y2,y3,y4],_=>exact ⟨y1,y2,y3,y4,rfl⟩
      ·skip
       have p1:w3.cell? ⟨g,1,none⟩=some (.string y1):=PC.at 1 rfl
       have p2:w3.cell? ⟨g,2,none⟩=some (.string y2):=PC.at 2 rfl
       have p3:w3.cell? ⟨g,3,none⟩=some (.string y3):=PC.at 3 rfl
       have p4:w3.cell? ⟨g,4,none⟩=some (.string y4):=PC.at 4 rfl
       rw [if_pos ⟨rfl,rfl⟩] at HR
       go_wp2_with fail
       go_quiet (fail)
       go_wp2_with fail
       go_quiet (fail)
       go_wp2
       go_ret
       exact ⟨by rw [HR.out];rfl,by first | exact BC | exact below_drewN BC _ | exact below_drewN (below_drewN BC _) _⟩
     ·rw [if_neg (by omega)] at HR
      have e4:¬ ((xs.length+1:Nat):Int)=5:=by omega
      go_wp2_with fail
      go_quiet (fail)
      go_wp2
      go_ret
      exact ⟨by rw [HR.out];rfl,by first | exact BC | exact below_drewN BC _ | exact below_drewN (below_drewN BC _) _⟩
    ·rw [if_neg (by omega)] at HR
     go_wp2_with fail
     go_quiet (fail)
     go_wp2
     go_ret
     exact ⟨by rw [HR.out];rfl,by first | exact BC | exact below_drewN BC _ | exact below_drewN (below_drewN BC _) _⟩
end Go.Proofs.YtcaieniddnhkbaaGreatDoor
set_option maxRecDepth 100000
namespace Go.Proofs.YtcaieniddnhkbaaGreatDoor
open Go Go.RowKit Own Var Term
def GRes (lo:Nat) (r:Gr) (en:Ending) (w':World):Prop:=match r with
 | .error c=>en=.returned (.tuple #[gZ,refV c])
 | .ok g=>∃ (pa:Option Addr) (pc:Nat) (va:Option Addr) (vc:Nat),en=.returned (.tuple #[gfV g.cl g.sv g.key g.a g.b g.e pa g.P pc va g.V vc g.fk g.bk g.nonce g.kind g.by' g.par g.ev,.nilIface])∧RF lo w' pa g.P∧RF lo w' va g.V∧g.P.length≤100∧g.V.length≤100∧i64 g.sv
theorem stepB {P:Program} {ops:Array Oper} {o:Oper} {a:Act} {w:World} {K:Act→World→Prop} {Q:Exit→Act→World→Prop} {E:Prop} (ty:TypeId) (x y:Operand) (g off:Nat) (us vs:List Value) (ie:TypeInfo) (hie:P.info? ty=some ie) (h:Blk g us w) (hs:vs.length=ie.size) (hl:off+vs.length≤us.length) (h1:vs.all (·.oneCell')=true)
  (hgd:o.guard=none) (ho:o.op=.store ty x y) (hx:a.eval x=.pointer (some ⟨g,off,none⟩)) (hy:a.eval y=.agg vs.toArray)
  (hn:K (a.put o.dst undef) (w.setCells g off vs)):if Region.wanted o (yielded ops a.tmps)=true then Oper.wp P o a w K Q else E:=by
 rw [if_pos (by simp [Region.wanted,hgd])]
 unfold Oper.wp execOp
 simp only [ho,hx,hy,Instr.storeAt,Instr.sureAddr,Sem.run_bind,Sem.run_pure,Result.andThen_ok,stB ty ie hie vs h hs hl h1]
 exact hn
theorem lg_just {p:Int} {pre:ByteArray} {m y:Int} (hj:just 0 (numsR (openR pre (pkV p)).1).1 2=[m,y]):((lgIn p pre).length=2∧(lgIn p pre).getD 0 0=8 ↔ m=8)∧(m=8→(lgIn p pre).getD 1 0=y)∧0≤y∧y≤562949953421311:=by
 have hs:=numsR_small (openR pre (pkV p)).1
 unfold lgIn
 generalize (numsR (openR pre (pkV p)).1).1=L at hj hs
 unfold just at hj
 by_cases hl:L.length=2
 ·rw [if_pos hl] at hj
  subst hj
  refine ⟨by simp,fun _=>by simp,?_⟩
  have:=hs y (by simp)
  omega
 ·rw [if_neg hl] at hj
  simp only [List.replicate,List.cons.injEq,and_true] at hj
  obtain ⟨rfl,rfl⟩:=hj
  exact ⟨⟨fun h=>absurd h.1 hl,fun h=>absurd h (by omega)⟩,fun h=>absurd h (by omega),by omega⟩
set_option maxHeartbeats 6400000 in
theorem logIn_is (c:Cf) (realm now fresh p nonce:Int) (pre:ByteArray) (w:World) (C:CfAt c w) (K:CfOk c) (hn:0≤now∧now≤100000) (hr:0≤realm∧realm≤2) (hpre:pre.size≤1048576) :
  Calls Tryz.prog 68 #[cenV c realm now fresh,.agg #[I p,I nonce,.string pre]] w fun en w'=>GRes w.heap.size (lgG c realm now fresh p nonce pre) en w'∧Below w.heap.size w w':=by
 obtain ⟨ie,hie,hsz⟩:=info_gift
 obtain ⟨W3,hW3⟩:∃ Wz,((w.alloc (.cells #[.slice c.ua c.U.length c.uc,.slice c.sa c.S.length c.sc,.slice c.la c.L.length c.lc,.slice c.xa c.X.length c.xc,I c.k,I realm,I now,I fresh] 70)).alloc (.cells #[I p,I nonce,.string pre] 126)).alloc (.cells #[I 0,I 0,I 0,I 0,I 0,I 0,.slice none 0 0,.slice none 0 0,I 0,I 0,I 0,I 0,I 0,I 0,I 0,I 0,I 0,I 0,I 0,I 0,I 0,I 0] 73)=Wz:=⟨_,rfl⟩
 have BC:Below w.heap.size w W3:=by rw [← hW3];exact (((Below.refl _ _).alloc (Nat.le_refl _) _).alloc (by simp) _).alloc (by simp <;> omega) _
 have TC:Blk w.heap.size [.slice c.ua c.U.length c.uc,.slice c.sa c.S.length c.sc,.slice c.la c.L.length c.lc,.slice c.xa c.X.length c.xc,I c.k,I realm,I now,I fresh] W3:=by rw [← hW3];exact ((Blk.new w #[.slice c.ua c.U.length c.uc,.slice c.sa c.S.length c.sc,.slice c.la c.L.length c.lc,.slice c.xa c.X.length c.xc,I c.k,I realm,I now,I fresh] _).alloc (by simp) _).alloc (by simp <;> omega) _
 have QC:Blk (w.heap.size+1) [I p,I nonce,.string pre] W3:=by rw [← hW3];have:=(Blk.new (w.alloc (.cells #[.slice c.ua c.U.length c.uc,.slice c.sa c.S.length c.sc,.slice c.la c.L.length c.lc,.slice c.xa c.X.length c.xc,I c.k,I realm,I now,I fresh] 70)) #[I p,I nonce,.string pre] 126).alloc (by simp) (.cells #[I 0,I 0,I 0,I 0,I 0,I 0,.slice none 0 0,.slice none 0 0,I 0,I 0,I 0,I 0,I 0,I 0,I 0,I 0,I 0,I 0,I 0,I 0,I 0,I 0] 73);simpa using this
 have UC:Blk (w.heap.size+2) [I 0,I 0,I 0,I 0,I 0,I 0,.slice none 0 0,.slice none 0 0,I 0,I 0,I 0,I 0,I 0,I 0,I 0,I 0,I 0,I 0,I 0,I 0,I 0,I 0] W3:=by rw [← hW3];have:=Blk.new ((w.alloc (.cells #[.slice c.ua c.U.length c.uc,.slice c.sa c.S.length c.sc,.slice c.la c.L.length c.lc,.slice c.xa c.X.length c.xc,I c.k,I realm,I now,I fresh] 70)).alloc (.cells #[I p,I nonce,.string pre] 126)) #[I 0,I 0,I 0,I 0,I 0,I 0,.slice none 0 0,.slice none 0 0,I 0,I 0,I 0,I 0,I 0,I 0,I 0,I 0,I 0,I 0,I 0,I 0,I 0,I 0] 73;simpa using this
 obtain ⟨m,y,hj⟩:∃ m y,just 0 (numsR (openR pre (pkV p)).1).1 2=[m,y]:=by
  have hl:=just_len 0 (numsR (openR pre (pkV p)).1).1 2
  match just 0 (numsR (openR pre (pkV p)).1).1 2,hl with
  | [m,y],_=>exact ⟨m,y,rfl⟩
 obtain ⟨hm,hy,hyb⟩:=lg_just hj
 have HM:Hid ((lgIn p pre).length=2∧(lgIn p pre).getD 0 0=8 ↔ m=8):=hm
 have HY:Hid (m=8→(lgIn p pre).getD 1 0=y):=hy
 clear hm hy
 have hoz:=openR_size pre (pkV p)
 have q0:=QC.at 0 rfl
 have q1:=QC.at 1 rfl
 have q2:=QC.at 2 rfl
 go_enter Tryz.func68,Tryz.ntmps68
 go_wp2_with fail
 try rw [hW3]
 refine (implPK_is p _).mono ?_
 rintro en w4 ⟨rfl,rfl⟩
 go_wp2_with fail
 refine (impl_open pre (pkV p) _ hpre).mono ?_
 rintro en w5 ⟨rfl,hb⟩
 replace TC:=TC.later hb TC.lt
 replace QC:=QC.later hb QC.lt
 replace UC:=UC.later hb UC.lt
 replace BC:=BC.trans (hb.mono BC.size)
 clear hb
 try clear hW3 q0 q1 q2
 have HN:=numbersOf_is (openR pre (pkV p)).1 2 w5 (by omega) (by omega)
 rw [hj] at HN
 generalize (openR pre (pkV p)).2=ob
 generalize (openR pre (pkV p)).1=ib at HN hoz ⊢
 go_wp2_with fail
 refine HN.mono ?_
 clear HN
 rintro en w6 ⟨u,rfl,hown,hb⟩
 replace TC:=TC.later hb TC.lt
 replace QC:=QC.later hb QC.lt
 replace UC:=UC.later hb UC.lt
 replace BC:=BC.trans (hb.mono BC.size)
 clear hb
 obtain ⟨k,kc,rfl,hkc,hk,hk2,NC⟩:=own_blk (f:=Value.int .i64) (xs:=[m,y]) hown (by omega)
 clear hown hk2
 skip
 have d0:=TC.at 0 rfl
 have d1:=TC.at 1 rfl
 have d2:=TC.at 2 rfl
 have d3:=TC.at 3 rfl
 have d4:=TC.at 4 rfl
 have d5:=TC.at 5 rfl
 have d6:=TC.at 6 rfl
 have d7:=TC.at 7 rfl
 have q0:=QC.at 0 rfl
 have q1:=QC.at 1 rfl
 have q2:=QC.at 2 rfl
 go_wp2_with fail
 refine (hasP_is c realm now fresh p _ (C.later BC) K).mono ?_
 rintro en w7 ⟨rfl,hb⟩
 replace TC:=TC.later hb TC.lt
 replace QC:=QC.later hb QC.lt
 replace UC:=UC.later hb UC.lt
 replace NC:=NC.later hb NC.lt
 replace BC:=BC.trans (hb.mono BC.size)
 clear hb
 clear d0 d1 d2 d3 d4 d5 d6 d7 q0 q1 q2
 by_cases h0:roV c p=realm
 ·rw [decide_eq_true h0]
  have m0:=NC.at 0 rfl
  by_cases h1:m=8
  ·subst h1
   have HC:Hid (lgG c realm now fresh p nonce pre=if c.k < apV now y then .error 3 else if 100000 < now+50 then .error 4 else .ok ⟨p,10+realm,fresh,7,255,now+50,[],[],ckV realm,pkV p,nonce,1,p,0,0⟩):=by show _=_;unfold lgG;rw [if_pos h0,if_pos (HM.out.2 rfl),HY.out rfl]
   clear HM HY
   go_wp2_with fail
   clear m0
   replace TC:=TC.drew
   replace QC:=QC.drew
   replace UC:=UC.drew
   replace NC:=NC.drew
   replace BC:=BC.drew
   refine wp_region_held_drew (S:=(fun Vw=>Blk w.heap.size [.slice c.ua c.U.length c.uc,.slice c.sa c.S.length c.sc,.slice c.la c.L.length c.lc,.slice c.xa c.X.length c.xc,I c.k,I realm,I now,I fresh] Vw∧Blk k [I 8,I y] Vw)) (by kernel_rfl) ⟨TC,NC⟩ (fun hH=>?_)
   refine tk 0 40 rfl _ hH (by intro w' h;have d0:=h.1.e8;have n0:=h.2.e2;go_simp;try with_reducible rfl) ?_
   try simp only [Act.put,pa,pb,pc]
   refine tk 1 41 rfl _ hH (by intro w' h;have d0:=h.1.e8;have n0:=h.2.e2;go_simp;try with_reducible rfl) ?_
   try simp only [Act.put,pa,pb,pc]
   refine tk 2 42 rfl _ hH (by intro w' h;have d0:=h.1.e8;have n0:=h.2.e2;go_simp;try with_reducible rfl) ?_
   try simp only [Act.put,pa,pb,pc]
   refine tk 3 43 rfl _ hH (by intro w' h;have d0:=h.1.e8;have n0:=h.2.e2;go_simp;try with_reducible rfl) ?_
   try simp only [Act.put,pa,pb,pc]
   refine wpAnyH_ready (rs:=[4]) (by kernel_rfl) (by simp) ?_
   refine AllReadyH.cons (i:=4) rfl (fun K hK=>?_) AllReadyH.nil
   go_simp
   refine (cFar_is c realm now fresh y _ hyb hn).mono ?_
   rintro en w8 ⟨rfl,hb⟩
   replace TC:=TC.later hb TC.lt
   replace QC:=QC.later hb QC.lt
   replace UC:=UC.later hb UC.lt
   replace NC:=NC.later hb NC.lt
   replace BC:=BC.trans (hb.mono BC.size)
   clear hb
   go_wp2_with fail
   refine hK.out _ _ ⟨TC,NC⟩ (fun hJ=>?_)
   clear hK K hH
   have hH:=hJ
   clear hJ
   try simp only [Act.put,pa,pb,pc]
   refine tk 5 39 rfl _ hH (by intro w' h;have d0:=h.1.e8;have n0:=h.2.e2;go_simp;try with_reducible rfl) ?_
   try simp only [Act.put,pa,pb,pc]
   refine wpAnyH_done (by kernel_rfl) ?_ _
   by_cases h2:c.k < apV now y
   ·have HR:Hid (lgG c realm now fresh p nonce pre=.error 3):=by show _=_;rw [HC.out,if_pos h2]
    rw [decide_eq_true h2]
    go_wp2_with fail
    refine (refuse_is 3 _).mono ?_
    rintro en wf ⟨rfl,hb⟩
    replace TC:=TC.later hb TC.lt
    replace QC:=QC.later hb QC.lt
    replace UC:=UC.later hb UC.lt
    replace NC:=NC.later hb NC.lt
    replace BC:=BC.trans (hb.mono BC.size)
    clear hb
    have FU:=UC.sets [I 0,I 0,I 0,I 0,I 0,I 0,.slice none 0 0,.slice none 0 0,I 0,I 0,I 0,I 0,I 0,I 0,I 0,I 0,I 0,I 0,I 0,I 0,I 0,I 0] rfl
    have FB:=below_sets (m:=w.heap.size) (g:=w.heap.size+2) (by omega) [I 0,I 0,I 0,I 0,I 0,I 0,.slice none 0 0,.slice none 0 0,I 0,I 0,I 0,I 0,I 0,I 0,I 0,I 0,I 0,I 0,I 0,I 0,I 0,I 0] 0 _ BC
    go_wp2_with (refine wpList_stB 73 _ _ (w.heap.size+2) 0 _ [I 0,I 0,I 0,I 0,I 0,I 0,.slice none 0 0,.slice none 0 0,I 0,I 0,I 0,I 0,I 0,I 0,I 0,I 0,I 0,I 0,I 0,I 0,I 0,I 0] ie hie UC (by rw [hsz];rfl) (by simp) rfl rfl rfl rfl rfl ?_;try simp only [Act.put])
    exact bodyPost_ret (res_B2 rfl _ _ (w.heap.size+2) _ (refV 3) ie hie ag73 FU (by rw [hsz];rfl) rfl rfl) rfl ⟨by rw [HR.out];exact rfl,FB⟩
   ·rw [decide_eq_false h2]
    have d0:=TC.at 0 rfl
    have d1:=TC.at 1 rfl
    have d2:=TC.at 2 rfl
    have d3:=TC.at 3 rfl
    have d4:=TC.at 4 rfl
    have d5:=TC.at 5 rfl
    have d6:=TC.at 6 rfl
    have d7:=TC.at 7 rfl
    by_cases h3:100000 < now+50
    ·have HR:Hid (lgG c realm now fresh p nonce pre=.error 4):=by show _=_;rw [HC.out,if_neg h2,if_pos h3]
     go_wp2_with fail
     refine (refuse_is 4 _).mono ?_
     rintro en wf ⟨rfl,hb⟩
     replace TC:=TC.later hb TC.lt
     replace QC:=QC.later hb QC.lt
     replace UC:=UC.later hb UC.lt
     replace NC:=NC.later hb NC.lt
     replace BC:=BC.trans (hb.mono BC.size)
     clear hb
     have FU:=UC.sets [I 0,I 0,I 0,I 0,I 0,I 0,.slice none 0 0,.slice none 0 0,I 0,I 0,I 0,I 0,I 0,I 0,I 0,I 0,I 0,I 0,I 0,I 0,I 0,I 0] rfl
     have FB:=below_sets (m:=w.heap.size) (g:=w.heap.size+2) (by omega) [I 0,I 0,I 0,I 0,I 0,I 0,.slice none 0 0,.slice none 0 0,I 0,I 0,I 0,I 0,I 0,I 0,I 0,I 0,I 0,I 0,I 0,I 0,I 0,I 0] 0 _ BC
     go_wp2_with (refine wpList_stB 73 _ _ (w.heap.size+2) 0 _ [I 0,I 0,I 0,I 0,I 0,I 0,.slice none 0 0,.slice none 0 0,I 0,I 0,I 0,I 0,I 0,I 0,I 0,I 0,I 0,I 0,I 0,I 0,I 0,I 0] ie hie UC (by rw [hsz];rfl) (by simp) rfl rfl rfl rfl rfl ?_;try simp only [Act.put])
     exact bodyPost_ret (res_B2 rfl _ _ (w.heap.size+2) _ (refV 4) ie hie ag73 FU (by rw [hsz];rfl) rfl rfl) rfl ⟨by rw [HR.out];exact rfl,FB⟩
    ·have HR:Hid (lgG c realm now fresh p nonce pre=.ok ⟨p,10+realm,fresh,7,255,now+50,[],[],ckV realm,pkV p,nonce,1,p,0,0⟩):=by show _=_;rw [HC.out,if_neg h2,if_neg h3]
     go_wp2_with fail
     clear d0 d1 d2 d3 d4 d5 d6 d7 NC
     replace TC:=TC.drew
     replace QC:=QC.drew
     replace UC:=UC.drew
     replace BC:=BC.drew
     refine wp_region_held_drew (S:=(fun Vw=>Blk w.heap.size [.slice c.ua c.U.length c.uc,.slice c.sa c.S.length c.sc,.slice c.la c.L.length c.lc,.slice c.xa c.X.length c.xc,I c.k,I realm,I now,I fresh] Vw∧Blk (w.heap.size+1) [I p,I nonce,.string pre] Vw)) (by kernel_rfl) ⟨TC,QC⟩ (fun hH=>?_)
     refine tk 0 56 rfl _ hH (by intro w' h;have d0:=h.1.e8;have q0:=h.2.e3;go_simp;try with_reducible rfl) ?_
     try simp only [Act.put,pa,pb,pc]
     refine tk 1 57 rfl _ hH (by intro w' h;have d0:=h.1.e8;have q0:=h.2.e3;go_simp;try with_reducible rfl) ?_
     try simp only [Act.put,pa,pb,pc]
     refine tk 2 58 rfl _ hH (by intro w' h;have d0:=h.1.e8;have q0:=h.2.e3;go_simp;try with_reducible rfl) ?_
     try simp only [Act.put,pa,pb,pc]
     refine tk 4 60 rfl _ hH (by intro w' h;have d0:=h.1.e8;have q0:=h.2.e3;go_simp;try with_reducible rfl) ?_
     try simp only [Act.put,pa,pb,pc]
     refine tk 5 61 rfl _ hH (by intro w' h;have d0:=h.1.e8;have q0:=h.2.e3;go_simp;try with_reducible rfl) ?_
     try simp only [Act.put,pa,pb,pc]
     refine tk 6 62 rfl _ hH (by intro w' h;have d0:=h.1.e8;have q0:=h.2.e3;go_simp;try with_reducible rfl) ?_
     try simp only [Act.put,pa,pb,pc]
     refine tk 7 63 rfl _ hH (by intro w' h;have d0:=h.1.e8;have q0:=h.2.e3;go_simp;try with_reducible rfl) ?_
     try simp only [Act.put,pa,pb,pc]
     refine tk 8 64 rfl (I (now+50)) hH ?_ ?_
     ·intro w' hSw;go_simp;first | done | (try go_bits) <;> first | rfl | (simp <;> omega)
     try simp only [Act.put,pa,pb,pc]
     refine tk 9 65 rfl _ hH (by intro w' h;have d0:=h.1.e8;have q0:=h.2.e3;go_simp;try with_reducible rfl) ?_
     try simp only [Act.put,pa,pb,pc]
     refine tk 11 67 rfl _ hH (by intro w' h;have d0:=h.1.e8;have q0:=h.2.e3;go_simp;try with_reducible rfl) ?_
     try simp only [Act.put,pa,pb,pc]
     refine tk 12 68 rfl _ hH (by intro w' h;have d0:=h.1.e8;have q0:=h.2.e3;go_simp;try with_reducible rfl) ?_
     try simp only [Act.put,pa,pb,pc]
     refine tk 14 70 rfl _ hH (by intro w' h;have d0:=h.1.e8;have q0:=h.2.e3;go_simp;try with_reducible rfl) ?_
     try simp only [Act.put,pa,pb,pc]
     refine tk 15 71 rfl _ hH (by intro w' h;have d0:=h.1.e8;have q0:=h.2.e3;go_simp;try with_reducible rfl) ?_
     try simp only [Act.put,pa,pb,pc]
     refine tk 16 72 rfl _ hH (by intro w' h;have d0:=h.1.e8;have q0:=h.2.e3;go_simp;try with_reducible rfl) ?_
     try simp only [Act.put,pa,pb,pc]
     refine tk 17 73 rfl _ hH (by intro w' h;have d0:=h.1.e8;have q0:=h.2.e3;go_simp;try with_reducible rfl) ?_
     try simp only [Act.put,pa,pb,pc]
     refine tk 18 74 rfl _ hH (by intro w' h;have d0:=h.1.e8;have q0:=h.2.e3;go_simp;try with_reducible rfl) ?_
     try simp only [Act.put,pa,pb,pc]
     refine tk 19 75 rfl _ hH (by intro w' h;have d0:=h.1.e8;have q0:=h.2.e3;go_simp;try with_reducible rfl) ?_
     try simp only [Act.put,pa,pb,pc]
     refine wpAnyH_ready (rs:=[3]) (by kernel_rfl) (by simp) ?_
     refine AllReadyH.cons (i:=3) rfl (fun K hK=>?_) AllReadyH.nil
     go_simp
     refine (number_is c realm now fresh _ hr).mono ?_
     rintro en w9 ⟨rfl,hb⟩
     replace TC:=TC.later hb TC.lt
     replace QC:=QC.later hb QC.lt
     replace UC:=UC.later hb UC.lt
     replace BC:=BC.trans (hb.mono BC.size)
     clear hb
     go_wp2_with fail
     refine hK.out _ _ ⟨TC,QC⟩ (fun hJ=>?_)
     clear hK K hH
     have hH:=hJ
     clear hJ
     try simp only [Act.put,pa,pb,pc]
     refine tk 10 66 rfl _ hH (by intro w' h;have d0:=h.1.e8;have q0:=h.2.e3;go_simp;try with_reducible rfl) ?_
     try simp only [Act.put,pa,pb,pc]
     refine wpAnyH_ready (rs:=[13]) (by kernel_rfl) (by simp) ?_
     refine AllReadyH.cons (i:=13) rfl (fun K hK=>?_) AllReadyH.nil
     go_simp
     refine (implCK_is realm _).mono ?_
     rintro en wa ⟨rfl,rfl⟩
     go_wp2_with fail
     refine hK.out _ _ ⟨TC,QC⟩ (fun hJ=>?_)
     clear hK K hH
     have hH:=hJ
     clear hJ
     try simp only [Act.put,pa,pb,pc]
     refine tk 20 76 rfl _ hH (by intro w' h;have d0:=h.1.e8;have q0:=h.2.e3;go_simp;try with_reducible rfl) ?_
     try simp only [Act.put,pa,pb,pc]
     have N_:Blk (w.heap.size+2) [I p,I (10+realm),I fresh,I 7,I 255,I (now+50),.slice none 0 0,.slice none 0 0,I (ckV realm),I (pkV p),I nonce,I 1,I 0,I p,I 0,I 0,I 0,I 0,I 0,I 0,I 0,I 0] ((w9).setCells (w.heap.size+2) 0 [I p,I (10+realm),I fresh,I 7,I 255,I (now+50),.slice none 0 0,.slice none 0 0,I (ckV realm),I (pkV p),I nonce,I 1,I 0,I p,I 0,I 0,I 0,I 0,I 0,I 0,I 0,I 0]):=UC.part 0 [I p,I (10+realm),I fresh,I 7,I 255,I (now+50),.slice none 0 0,.slice none 0 0,I (ckV realm),I (pkV p),I nonce,I 1,I 0,I p,I 0,I 0,I 0,I 0,I 0,I 0,I 0,I 0] _ (by simp) rfl
     have TC_:=Blk.farS (q:=(w.heap.size+2)) (by omega) [I p,I (10+realm),I fresh,I 7,I 255,I (now+50),.slice none 0 0,.slice none 0 0,I (ckV realm),I (pkV p),I nonce,I 1,I 0,I p,I 0,I 0,I 0,I 0,I 0,I 0,I 0,I 0] 0 _ TC
     have QC_:=Blk.farS (q:=(w.heap.size+2)) (by omega) [I p,I (10+realm),I fresh,I 7,I 255,I (now+50),.slice none 0 0,.slice none 0 0,I (ckV realm),I (pkV p),I nonce,I 1,I 0,I p,I 0,I 0,I 0,I 0,I 0,I 0,I 0,I 0] 0 _ QC
     have BC_:=below_sets (m:=w.heap.size) (g:=(w.heap.size+2)) (by omega) [I p,I (10+realm),I fresh,I 7,I 255,I (now+50),.slice none 0 0,.slice none 0 0,I (ckV realm),I (pkV p),I nonce,I 1,I 0,I p,I 0,I 0,I 0,I 0,I 0,I 0,I 0,I 0] 0 _ BC
     refine wpAnyH_ready (rs:=[21]) (by kernel_rfl) (by simp) ?_
     refine AllReadyH.cons (i:=21) rfl (fun K hK=>?_) AllReadyH.nil
     refine stepB 73 _ _ ((w.heap.size+2)) 0 [I 0,I 0,I 0,I 0,I 0,I 0,.slice none 0 0,.slice none 0 0,I 0,I 0,I 0,I 0,I 0,I 0,I 0,I 0,I 0,I 0,I 0,I 0,I 0,I 0] [I p,I (10+realm),I fresh,I 7,I 255,I (now+50),.slice none 0 0,.slice none 0 0,I (ckV realm),I (pkV p),I nonce,I 1,I 0,I p,I 0,I 0,I 0,I 0,I 0,I 0,I 0,I 0] ie hie UC (by rw [hsz];rfl) (by simp) rfl rfl rfl rfl rfl ?_
     try simp only [Act.put,pa]
     obtain ⟨VF,hVF⟩:∃ Wz,(w9).setCells ((w.heap.size+2)) 0 [I p,I (10+realm),I fresh,I 7,I 255,I (now+50),.slice none 0 0,.slice none 0 0,I (ckV realm),I (pkV p),I nonce,I 1,I 0,I p,I 0,I 0,I 0,I 0,I 0,I 0,I 0,I 0]=Wz:=⟨_,rfl⟩
     rw [hVF] at N_ BC_ TC_ QC_ ⊢
     clear hVF UC BC TC QC
     have UC:=N_
     have BC:=BC_
     have TC:=TC_
     have QC:=QC_
     clear N_ BC_ TC_ QC_
     refine hK.out _ _ ⟨TC,QC⟩ (fun hJ=>?_)
     clear hK K hH
     have hH:=hJ
     clear hJ
     try simp only [Act.put,pa,pb,pc]
     refine tk 22 5 rfl _ hH (by intro w' h;have d0:=h.1.e8;have q0:=h.2.e3;go_simp;try with_reducible rfl) ?_
     try simp only [Act.put]
     refine wpAnyH_done (by kernel_rfl) ?_ _
     go_wp2
     refine bodyPost_ret (res_B2 rfl _ _ (w.heap.size+2) _ .nilIface ie hie ag73 UC (by rw [hsz];rfl) rfl rfl) rfl ⟨?_,BC⟩
     rw [HR.out]
     exact ⟨none,0,none,0,rfl,RF.none _ _,RF.none _ _,by simp,by simp,by unfold i64;dsimp only;omega⟩
  ·have HR:Hid (lgG c realm now fresh p nonce pre=.error 2):=by show _=_;unfold lgG;rw [if_pos h0,if_neg (fun e=>h1 (HM.out.1 e))]
   go_wp2_with fail
   refine (refuse_is 2 _).mono ?_
   rintro en wf ⟨rfl,hb⟩
   replace TC:=TC.later hb TC.lt
   replace QC:=QC.later hb QC.lt
   replace UC:=UC.later hb UC.lt
   replace NC:=NC.later hb NC.lt
   replace BC:=BC.trans (hb.mono BC.size)
   clear hb
   have FU:=UC.sets [I 0,I 0,I 0,I 0,I 0,I 0,.slice none 0 0,.slice none 0 0,I 0,I 0,I 0,I 0,I 0,I 0,I 0,I 0,I 0,I 0,I 0,I 0,I 0,I 0] rfl
   have FB:=below_sets (m:=w.heap.size) (g:=w.heap.size+2) (by omega) [I 0,I 0,I 0,I 0,I 0,I 0,.slice none 0 0,.slice none 0 0,I 0,I 0,I 0,I 0,I 0,I 0,I 0,I 0,I 0,I 0,I 0,I 0,I 0,I 0] 0 _ BC
   go_wp2_with (refine wpList_stB 73 _ _ (w.heap.size+2) 0 _ [I 0,I 0,I 0,I 0,I 0,I 0,.slice none 0 0,.slice none 0 0,I 0,I 0,I 0,I 0,I 0,I 0,I 0,I 0,I 0,I 0,I 0,I 0,I 0,I 0] ie hie UC (by rw [hsz];rfl) (by simp) rfl rfl rfl rfl rfl ?_;try simp only [Act.put])
   exact bodyPost_ret (res_B2 rfl _ _ (w.heap.size+2) _ (refV 2) ie hie ag73 FU (by rw [hsz];rfl) rfl rfl) rfl ⟨by rw [HR.out];exact rfl,FB⟩
 ·have HR:Hid (lgG c realm now fresh p nonce pre=.error 1):=by show _=_;unfold lgG;rw [if_neg h0]
  rw [decide_eq_false h0]
  go_wp2_with fail
  refine (refuse_is 1 _).mono ?_
  rintro en wf ⟨rfl,hb⟩
  replace TC:=TC.later hb TC.lt
  replace QC:=QC.later hb QC.lt
  replace UC:=UC.later hb UC.lt
  replace NC:=NC.later hb NC.lt
  replace BC:=BC.trans (hb.mono BC.size)
  clear hb
  have FU:=UC.sets [I 0,I 0,I 0,I 0,I 0,I 0,.slice none 0 0,.slice none 0 0,I 0,I 0,I 0,I 0,I 0,I 0,I 0,I 0,I 0,I 0,I 0,I 0,I 0,I 0] rfl
  have FB:=below_sets (m:=w.heap.size) (g:=w.heap.size+2) (by omega) [I 0,I 0,I 0,I 0,I 0,I 0,.slice none 0 0,.slice none 0 0,I 0,I 0,I 0,I 0,I 0,I 0,I 0,I 0,I 0,I 0,I 0,I 0,I 0,I 0] 0 _ BC
  go_wp2_with (refine wpList_stB 73 _ _ (w.heap.size+2) 0 _ [I 0,I 0,I 0,I 0,I 0,I 0,.slice none 0 0,.slice none 0 0,I 0,I 0,I 0,I 0,I 0,I 0,I 0,I 0,I 0,I 0,I 0,I 0,I 0,I 0] ie hie UC (by rw [hsz];rfl) (by simp) rfl rfl rfl rfl rfl ?_;try simp only [Act.put])
  exact bodyPost_ret (res_B2 rfl _ _ (w.heap.size+2) _ (refV 1) ie hie ag73 FU (by rw [hsz];rfl) rfl rfl) rfl ⟨by rw [HR.out];exact rfl,FB⟩
end Go.Proofs.YtcaieniddnhkbaaGreatDoor
