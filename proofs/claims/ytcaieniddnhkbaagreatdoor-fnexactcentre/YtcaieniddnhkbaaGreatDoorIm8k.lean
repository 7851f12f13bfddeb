/- Chapter 8: what a centre answers, the program's. -/
import Derived.Test.YtcaieniddnhkbaaGreatDoorAb
import Derived.Test.YtcaieniddnhkbaaGreatDoorIm8j
set_option linter.unusedVariables false
set_option maxRecDepth 100000
namespace Go.Proofs.YtcaieniddnhkbaaGreatDoor
open Go Go.RowKit Own Var Term
theorem cen_rq (c:Cf) (realm now fresh:Int) (req:ByteArray) (hc:cenOk c realm now fresh=true) :
  (rqV req=.nilIface∧cenG c realm now fresh req=.error 1) ∨
  (rqV req=.iface 126 (.agg #[I ((reqN req).getD 1 0),I ((reqN req).getD 2 0),.string (reqP req 1)])∧cenG c realm now fresh req=lgG c realm now fresh ((reqN req).getD 1 0) ((reqN req).getD 2 0) (reqP req 1)) ∨
  (rqV req=.iface 129 (.agg #[I ((reqN req).getD 1 0),I ((reqN req).getD 2 0),.string (reqP req 1),.string (reqP req 2),.string (reqP req 3),.string (reqP req 4)])∧cenG c realm now fresh req=askG c realm now fresh ((reqN req).getD 1 0) ((reqN req).getD 2 0) (reqP req 1) (reqP req 2) (reqP req 3) (reqP req 4)):=by
 unfold rqV cenG
 by_cases h:(reqN req).length=3∧(reqN req).getD 2 0≤1000000
 ·have hc2:cenOk c realm now fresh=true∧(reqN req).length=3∧(reqN req).getD 2 0≤1000000:=⟨hc,h.1,h.2⟩
  rw [if_pos h,if_pos hc2]
  by_cases h1:(reqN req).getD 0 0=1∧(partsR req).1.length=2
  ·rw [if_pos h1,if_pos h1];exact Or.inr (Or.inl ⟨rfl,rfl⟩)
  ·rw [if_neg h1,if_neg h1]
   by_cases h2:(reqN req).getD 0 0=2∧(partsR req).1.length=5
   ·rw [if_pos h2,if_pos h2];exact Or.inr (Or.inr ⟨rfl,rfl⟩)
   ·rw [if_neg h2,if_neg h2];exact Or.inl ⟨rfl,rfl⟩
 ·rw [if_neg h,if_neg (fun e=>h e.2)];exact Or.inl ⟨rfl,rfl⟩
theorem ta_nil126 (w:World):(Instr.typeAssert .nilIface 20 126 true).run Tryz.prog w=.ok (.tuple #[.agg #[I 0,I 0,.string ⟨#[]⟩],.bool false]) w:=by kernel_rfl
theorem ta_nil129 (w:World):(Instr.typeAssert .nilIface 20 129 true).run Tryz.prog w=.ok (.tuple #[.agg #[I 0,I 0,.string ⟨#[]⟩,.string ⟨#[]⟩,.string ⟨#[]⟩,.string ⟨#[]⟩],.bool false]) w:=by kernel_rfl
theorem ta_log (v:Value) (w:World):(Instr.typeAssert (.iface 126 v) 20 126 true).run Tryz.prog w=.ok (.tuple #[v,.bool true]) w:=by kernel_rfl
theorem ta_ask126 (v:Value) (w:World):(Instr.typeAssert (.iface 129 v) 20 126 true).run Tryz.prog w=.ok (.tuple #[.agg #[I 0,I 0,.string ⟨#[]⟩],.bool false]) w:=by kernel_rfl
theorem ta_ask (v:Value) (w:World):(Instr.typeAssert (.iface 129 v) 20 129 true).run Tryz.prog w=.ok (.tuple #[v,.bool true]) w:=by kernel_rfl
theorem reqP_size (req:ByteArray) (i:Nat):(reqP req i).size≤1048576:=by
 unfold reqP
 rw [List.getD_eq_getElem?_getD]
 cases h:(partsR req).1[i]? with
 | none=>show 0≤1048576;omega
 | some x=>exact Nat.le_trans (parts_size req x (List.mem_of_getElem? h)) (by omega)
theorem cen_ok {c:Cf} {realm now fresh:Int} (h:cenOk c realm now fresh=true):confB c=true∧(0≤realm∧realm≤2)∧(0≤now∧now≤100000)∧(101≤fresh∧fresh≤1000000):=by
 unfold cenOk inB at h
 simp only [Bool.and_eq_true,decide_eq_true_eq] at h
 exact ⟨h.1,(btw_iff _ _ _).1 h.2.1,h.2.2.1,h.2.2.2⟩
set_option maxHeartbeats 6400000 in
theorem answer_is (c:Cf) (realm now fresh:Int) (req:ByteArray) (w:World) (C:CfAt c w) (K:CfOk c) (hq:req.size≤1048576) :
  Calls Tryz.prog 29 #[cenV c realm now fresh,.string req] w fun en w'=>GRes w.heap.size (cenG c realm now fresh req) en w'∧Below w.heap.size w w':=by
 obtain ⟨ie,hie,hsz⟩:=info_gift
 have BC:Below w.heap.size w ((w.alloc (.cells #[.slice c.ua c.U.length c.uc,.slice c.sa c.S.length c.sc,.slice c.la c.L.length c.lc,.slice c.xa c.X.length c.xc,I c.k,I realm,I now,I fresh] 70)).alloc (.cells #[I 0,I 0,I 0,I 0,I 0,I 0,.slice none 0 0,.slice none 0 0,I 0,I 0,I 0,I 0,I 0,I 0,I 0,I 0,I 0,I 0,I 0,I 0,I 0,I 0] 73)):=((Below.refl _ _).alloc (by simp <;> omega) _).alloc (by simp <;> omega) _
 have TC:Blk w.heap.size [.slice c.ua c.U.length c.uc,.slice c.sa c.S.length c.sc,.slice c.la c.L.length c.lc,.slice c.xa c.X.length c.xc,I c.k,I realm,I now,I fresh] ((w.alloc (.cells #[.slice c.ua c.U.length c.uc,.slice c.sa c.S.length c.sc,.slice c.la c.L.length c.lc,.slice c.xa c.X.length c.xc,I c.k,I realm,I now,I fresh] 70)).alloc (.cells #[I 0,I 0,I 0,I 0,I 0,I 0,.slice none 0 0,.slice none 0 0,I 0,I 0,I 0,I 0,I 0,I 0,I 0,I 0,I 0,I 0,I 0,I 0,I 0,I 0] 73)):=by have h_:=((Blk.new w #[.slice c.ua c.U.length c.uc,.slice c.sa c.S.length c.sc,.slice c.la c.L.length c.lc,.slice c.xa c.X.length c.xc,I c.k,I realm,I now,I fresh] 70).alloc (by simp <;> omega) (.cells #[I 0,I 0,I 0,I 0,I 0,I 0,.slice none 0 0,.slice none 0 0,I 0,I 0,I 0,I 0,I 0,I 0,I 0,I 0,I 0,I 0,I 0,I 0,I 0,I 0] 73));simpa using h_
 have UC:Blk (w.heap.size+1) [I 0,I 0,I 0,I 0,I 0,I 0,.slice none 0 0,.slice none 0 0,I 0,I 0,I 0,I 0,I 0,I 0,I 0,I 0,I 0,I 0,I 0,I 0,I 0,I 0] ((w.alloc (.cells #[.slice c.ua c.U.length c.uc,.slice c.sa c.S.length c.sc,.slice c.la c.L.length c.lc,.slice c.xa c.X.length c.xc,I c.k,I realm,I now,I fresh] 70)).alloc (.cells #[I 0,I 0,I 0,I 0,I 0,I 0,.slice none 0 0,.slice none 0 0,I 0,I 0,I 0,I 0,I 0,I 0,I 0,I 0,I 0,I 0,I 0,I 0,I 0,I 0] 73)):=by have h_:=(Blk.new (w.alloc (.cells #[.slice c.ua c.U.length c.uc,.slice c.sa c.S.length c.sc,.slice c.la c.L.length c.lc,.slice c.xa c.X.length c.xc,I c.k,I realm,I now,I fresh] 70)) #[I 0,I 0,I 0,I 0,I 0,I 0,.slice none 0 0,.slice none 0 0,I 0,I 0,I 0,I 0,I 0,I 0,I 0,I 0,I 0,I 0,I 0,I 0,I 0,I 0] 73);simpa using h_
 have t1:=ta_nil126
 have t2:=ta_nil129
 have t3:=ta_log
 have t4:=ta_ask126
 have t5:=ta_ask
 have q1_:=TC.at 0 rfl
 have q2_:=TC.at 1 rfl
 have q3_:=TC.at 2 rfl
 have q4_:=TC.at 3 rfl
 have q5_:=TC.at 4 rfl
 have q6_:=TC.at 5 rfl
 have q7_:=TC.at 6 rfl
 have q8_:=TC.at 7 rfl
 go_enter Tryz.func29,Tryz.ntmps29
 go_wp2_with fail
 refine (cRight_is c realm now fresh _ (C.later BC) K).mono ?_
 rintro en w2 ⟨rfl,hb⟩
 replace TC:=TC.later hb TC.lt
 replace UC:=UC.later hb UC.lt
 replace BC:=BC.trans (hb.mono BC.size)
 clear hb
 clear q1_ q2_ q3_ q4_ q5_ q6_ q7_ q8_
 by_cases hc:cenOk c realm now fresh=true
 ·rw [hc]
  obtain ⟨hcf,hr,hn,hf⟩:=cen_ok hc
  go_wp2_with fail
  refine (rq_is req _ hq).mono ?_
  rintro en w3 ⟨rfl,hb⟩
  replace TC:=TC.later hb TC.lt
  replace UC:=UC.later hb UC.lt
  replace BC:=BC.trans (hb.mono BC.size)
  clear hb
  rcases cen_rq c realm now fresh req hc with ⟨hv,hg⟩ | ⟨hv,hg⟩ | ⟨hv,hg⟩
  ·rw [hv]
   have HR:Hid (cenG c realm now fresh req=.error 1):=hg
   clear hv hg
   go_wp2_with fail
   refine (refuse_is 1 _).mono ?_
   rintro en wf ⟨rfl,hb⟩
   replace TC:=TC.later hb TC.lt
   replace UC:=UC.later hb UC.lt
   replace BC:=BC.trans (hb.mono BC.size)
   clear hb
   have FU:=UC.sets [I 0,I 0,I 0,I 0,I 0,I 0,.slice none 0 0,.slice none 0 0,I 0,I 0,I 0,I 0,I 0,I 0,I 0,I 0,I 0,I 0,I 0,I 0,I 0,I 0] rfl
   have FB:=below_sets (m:=w.heap.size) (g:=(w.heap.size+1)) (by omega) [I 0,I 0,I 0,I 0,I 0,I 0,.slice none 0 0,.slice none 0 0,I 0,I 0,I 0,I 0,I 0,I 0,I 0,I 0,I 0,I 0,I 0,I 0,I 0,I 0] 0 _ BC
   go_wp2_with (refine wpList_stB 73 _ _ (w.heap.size+1) 0 _ [I 0,I 0,I 0,I 0,I 0,I 0,.slice none 0 0,.slice none 0 0,I 0,I 0,I 0,I 0,I 0,I 0,I 0,I 0,I 0,I 0,I 0,I 0,I 0,I 0] ie hie UC (by rw [hsz];rfl) (by simp) rfl rfl rfl rfl rfl ?_;try simp only [Act.put])
   exact bodyPost_ret (res_B2 rfl _ _ (w.heap.size+1) _ (refV 1) ie hie ag73 FU (by rw [hsz];rfl) rfl rfl) rfl ⟨by rw [HR.out];exact rfl,FB⟩
  ·rw [hv]
   have HG:Hid (cenG c realm now fresh req=lgG c realm now fresh ((reqN req).getD 1 0) ((reqN req).getD 2 0) (reqP req 1)):=hg
   clear hv hg
   have HS:=reqP_size req
   generalize (reqN req).getD 1 0=n1 at HG ⊢
   generalize (reqN req).getD 2 0=n2 at HG ⊢
   have s1:=HS 1
   generalize reqP req 1=p1 at HG s1 ⊢
   clear HS
   have XA_:Below w3.heap.size w3 (w3.alloc (.cells #[I n1,I n2,.string p1] 126)):=(Below.refl _ _).alloc (Nat.le_refl _) _
   have LC:Blk w3.heap.size [I n1,I n2,.string p1] (w3.alloc (.cells #[I n1,I n2,.string p1] 126)):=Blk.new _ _ _
   replace TC:=TC.later XA_ TC.lt
   replace UC:=UC.later XA_ UC.lt
   replace BC:=BC.trans (XA_.mono BC.size)
   clear XA_
   obtain ⟨W5,hW5⟩:∃ Wz,(w3.alloc (.cells #[I n1,I n2,.string p1] 126))=Wz:=⟨_,rfl⟩
   rw [hW5] at TC UC LC BC
   have q9_:=TC.at 0 rfl
   have q10_:=TC.at 1 rfl
   have q11_:=TC.at 2 rfl
   have q12_:=TC.at 3 rfl
   have q13_:=TC.at 4 rfl
   have q14_:=TC.at 5 rfl
   have q15_:=TC.at 6 rfl
   have q16_:=TC.at 7 rfl
   have q17_:=LC.at 0 rfl
   have q18_:=LC.at 1 rfl
   have q19_:=LC.at 2 rfl
   go_wp2_with (first | (rw [hW5]))
   refine (logIn_is c realm now fresh n1 n2 p1 _ (C.later BC) K hn hr s1).mono ?_
   rintro en w9 ⟨hG,hb⟩
   have zlo:Hid (w.heap.size+2≤W5.heap.size):=UC.lt
   replace TC:=TC.later hb TC.lt
   replace UC:=UC.later hb UC.lt
   replace LC:=LC.later hb LC.lt
   replace BC:=BC.trans (hb.mono BC.size)
   clear hb
   clear q9_ q10_ q11_ q12_ q13_ q14_ q15_ q16_ q17_ q18_ q19_ hW5
   cases hgr:lgG c realm now fresh n1 n2 p1 with
   | error code =>
    rw [hgr] at hG
    obtain rfl:en=_:=hG
    have HR:Hid (cenG c realm now fresh req=.error code):=by show _=_;rw [HG.out,hgr]
    have FU:=UC.sets [I 0,I 0,I 0,I 0,I 0,I 0,.slice none 0 0,.slice none 0 0,I 0,I 0,I 0,I 0,I 0,I 0,I 0,I 0,I 0,I 0,I 0,I 0,I 0,I 0] rfl
    have FB:=below_sets (m:=w.heap.size) (g:=(w.heap.size+1)) (by omega) [I 0,I 0,I 0,I 0,I 0,I 0,.slice none 0 0,.slice none 0 0,I 0,I 0,I 0,I 0,I 0,I 0,I 0,I 0,I 0,I 0,I 0,I 0,I 0,I 0] 0 _ BC
    go_wp2_with (refine wpList_stB 73 _ _ (w.heap.size+1) 0 _ [I 0,I 0,I 0,I 0,I 0,I 0,.slice none 0 0,.slice none 0 0,I 0,I 0,I 0,I 0,I 0,I 0,I 0,I 0,I 0,I 0,I 0,I 0,I 0,I 0] ie hie UC (by rw [hsz];rfl) (by simp) rfl rfl rfl rfl rfl ?_;try simp only [Act.put])
    exact bodyPost_ret (res_B2 rfl _ _ (w.heap.size+1) _ (refV code) ie hie ag73 FU (by rw [hsz];rfl) rfl rfl) rfl ⟨by rw [HR.out];exact rfl,FB⟩
   | ok gd =>
    rw [hgr] at hG
    obtain ⟨pa9,pc9,va9,vc9,rfl,R1,R2,l1,l2,i9⟩:=hG
    have HR:Hid (cenG c realm now fresh req=.ok gd):=by show _=_;rw [HG.out,hgr]
    have FU:=UC.sets [I gd.cl,I gd.sv,I gd.key,I gd.a,I gd.b,I gd.e,.slice pa9 gd.P.length pc9,.slice va9 gd.V.length vc9,I gd.fk,I gd.bk,I gd.nonce,I gd.kind,I 0,I gd.by',I 0,I 0,I 0,I gd.par,I gd.ev,I 0,I 0,I 0] rfl
    have FB:=below_sets (m:=w.heap.size) (g:=(w.heap.size+1)) (by omega) [I gd.cl,I gd.sv,I gd.key,I gd.a,I gd.b,I gd.e,.slice pa9 gd.P.length pc9,.slice va9 gd.V.length vc9,I gd.fk,I gd.bk,I gd.nonce,I gd.kind,I 0,I gd.by',I 0,I 0,I 0,I gd.par,I gd.ev,I 0,I 0,I 0] 0 _ BC
    replace R1:=RF.sets (q:=(w.heap.size+1)) (by have:=zlo.out;omega) [I gd.cl,I gd.sv,I gd.key,I gd.a,I gd.b,I gd.e,.slice pa9 gd.P.length pc9,.slice va9 gd.V.length vc9,I gd.fk,I gd.bk,I gd.nonce,I gd.kind,I 0,I gd.by',I 0,I 0,I 0,I gd.par,I gd.ev,I 0,I 0,I 0] 0 _ R1
    replace R2:=RF.sets (q:=(w.heap.size+1)) (by have:=zlo.out;omega) [I gd.cl,I gd.sv,I gd.key,I gd.a,I gd.b,I gd.e,.slice pa9 gd.P.length pc9,.slice va9 gd.V.length vc9,I gd.fk,I gd.bk,I gd.nonce,I gd.kind,I 0,I gd.by',I 0,I 0,I 0,I gd.par,I gd.ev,I 0,I 0,I 0] 0 _ R2
    go_wp2_with (refine wpList_stB 73 _ _ (w.heap.size+1) 0 _ [I gd.cl,I gd.sv,I gd.key,I gd.a,I gd.b,I gd.e,.slice pa9 gd.P.length pc9,.slice va9 gd.V.length vc9,I gd.fk,I gd.bk,I gd.nonce,I gd.kind,I 0,I gd.by',I 0,I 0,I 0,I gd.par,I gd.ev,I 0,I 0,I 0] ie hie UC (by rw [hsz];rfl) (by simp) rfl rfl rfl rfl rfl ?_;try simp only [Act.put])
    exact bodyPost_ret (res_B2 rfl _ _ (w.heap.size+1) _ .nilIface ie hie ag73 FU (by rw [hsz];rfl) rfl rfl) rfl ⟨by rw [HR.out];exact ⟨pa9,pc9,va9,vc9,rfl,R1.mono (by have:=zlo.out;omega),R2.mono (by have:=zlo.out;omega),l1,l2,i9⟩,FB⟩
  ·rw [hv]
   have HG:Hid (cenG c realm now fresh req=askG c realm now fresh ((reqN req).getD 1 0) ((reqN req).getD 2 0) (reqP req 1) (reqP req 2) (reqP req 3) (reqP req 4)):=hg
   clear hv hg
   have HS:=reqP_size req
   generalize (reqN req).getD 1 0=n1 at HG ⊢
   generalize (reqN req).getD 2 0=n2 at HG ⊢
   have s1:=HS 1
   have s2:=HS 2
   have s3:=HS 3
   have s4:=HS 4
   clear HS
   generalize reqP req 1=p1 at HG s1 ⊢
   generalize reqP req 2=p2 at HG s2 ⊢
   generalize reqP req 3=p3 at HG s3 ⊢
   generalize reqP req 4=p4 at HG s4 ⊢
   have XA_:Below w3.heap.size w3 (w3.alloc (.cells #[I n1,I n2,.string p1,.string p2,.string p3,.string p4] 129)):=(Below.refl _ _).alloc (Nat.le_refl _) _
   have LC:Blk w3.heap.size [I n1,I n2,.string p1,.string p2,.string p3,.string p4] (w3.alloc (.cells #[I n1,I n2,.string p1,.string p2,.string p3,.string p4] 129)):=Blk.new _ _ _
   replace TC:=TC.later XA_ TC.lt
   replace UC:=UC.later XA_ UC.lt
   replace BC:=BC.trans (XA_.mono BC.size)
   clear XA_
   obtain ⟨W5,hW5⟩:∃ Wz,(w3.alloc (.cells #[I n1,I n2,.string p1,.string p2,.string p3,.string p4] 129))=Wz:=⟨_,rfl⟩
   rw [hW5] at TC UC LC BC
   have q9_:=TC.at 0 rfl
   have q10_:=TC.at 1 rfl
   have q11_:=TC.at 2 rfl
   have q12_:=TC.at 3 rfl
   have q13_:=TC.at 4 rfl
   have q14_:=TC.at 5 rfl
   have q15_:=TC.at 6 rfl
   have q16_:=TC.at 7 rfl
   have q17_:=LC.at 0 rfl
   have q18_:=LC.at 1 rfl
   have q19_:=LC.at 2 rfl
   have q20_:=LC.at 3 rfl
   have q21_:=LC.at 4 rfl
   have q22_:=LC.at 5 rfl
   go_wp2_with (first | (rw [hW5]))
   refine (ask_is c realm now fresh n1 n2 p1 p2 p3 p4 _ (C.later BC) K hcf hn hr s1 s2 s3 s4).mono ?_
   rintro en w9 ⟨hG,hb⟩
   have zlo:Hid (w.heap.size+2≤W5.heap.size):=UC.lt
   replace TC:=TC.later hb TC.lt
   replace UC:=UC.later hb UC.lt
   replace LC:=LC.later hb LC.lt
   replace BC:=BC.trans (hb.mono BC.size)
   clear hb
   clear q9_ q10_ q11_ q12_ q13_ q14_ q15_ q16_ q17_ q18_ q19_ q20_ q21_ q22_ hW5
   cases hgr:askG c realm now fresh n1 n2 p1 p2 p3 p4 with
   | error code =>
    rw [hgr] at hG
    obtain rfl:en=_:=hG
    have HR:Hid (cenG c realm now fresh req=.error code):=by show _=_;rw [HG.out,hgr]
    have FU:=UC.sets [I 0,I 0,I 0,I 0,I 0,I 0,.slice none 0 0,.slice none 0 0,I 0,I 0,I 0,I 0,I 0,I 0,I 0,I 0,I 0,I 0,I 0,I 0,I 0,I 0] rfl
    have FB:=below_sets (m:=w.heap.size) (g:=(w.heap.size+1)) (by omega) [I 0,I 0,I 0,I 0,I 0,I 0,.slice none 0 0,.slice none 0 0,I 0,I 0,I 0,I 0,I 0,I 0,I 0,I 0,I 0,I 0,I 0,I 0,I 0,I 0] 0 _ BC
    go_wp2_with (refine wpList_stB 73 _ _ (w.heap.size+1) 0 _ [I 0,I 0,I 0,I 0,I 0,I 0,.slice none 0 0,.slice none 0 0,I 0,I 0,I 0,I 0,I 0,I 0,I 0,I 0,I 0,I 0,I 0,I 0,I 0,I 0] ie hie UC (by rw [hsz];rfl) (by simp) rfl rfl rfl rfl rfl ?_;try simp only [Act.put])
    exact bodyPost_ret (res_B2 rfl _ _ (w.heap.size+1) _ (refV code) ie hie ag73 FU (by rw [hsz];rfl) rfl rfl) rfl ⟨by rw [HR.out];exact rfl,FB⟩
   | ok gd =>
    rw [hgr] at hG
    obtain ⟨pa9,pc9,va9,vc9,rfl,R1,R2,l1,l2,i9⟩:=hG
    have HR:Hid (cenG c realm now fresh req=.ok gd):=by show _=_;rw [HG.out,hgr]
    have FU:=UC.sets [I gd.cl,I gd.sv,I gd.key,I gd.a,I gd.b,I gd.e,.slice pa9 gd.P.length pc9,.slice va9 gd.V.length vc9,I gd.fk,I gd.bk,I gd.nonce,I gd.kind,I 0,I gd.by',I 0,I 0,I 0,I gd.par,I gd.ev,I 0,I 0,I 0] rfl
    have FB:=below_sets (m:=w.heap.size) (g:=(w.heap.size+1)) (by omega) [I gd.cl,I gd.sv,I gd.key,I gd.a,I gd.b,I gd.e,.slice pa9 gd.P.length pc9,.slice va9 gd.V.length vc9,I gd.fk,I gd.bk,I gd.nonce,I gd.kind,I 0,I gd.by',I 0,I 0,I 0,I gd.par,I gd.ev,I 0,I 0,I 0] 0 _ BC
    replace R1:=RF.sets (q:=(w.heap.size+1)) (by have:=zlo.out;omega) [I gd.cl,I gd.sv,I gd.key,I gd.a,I gd.b,I gd.e,.slice pa9 gd.P.length pc9,.slice va9 gd.V.length vc9,I gd.fk,I gd.bk,I gd.nonce,I gd.kind,I 0,I gd.by',I 0,I 0,I 0,I gd.par,I gd.ev,I 0,I 0,I 0] 0 _ R1
    replace R2:=RF.sets (q:=(w.heap.size+1)) (by have:=zlo.out;omega) [I gd.cl,I gd.sv,I gd.key,I gd.a,I gd.b,I gd.e,.slice pa9 gd.P.length pc9,.slice va9 gd.V.length vc9,I gd.fk,I gd.bk,I gd.nonce,I gd.kind,I 0,I gd.by',I 0,I 0,I 0,I gd.par,I gd.ev,I 0,I 0,I 0] 0 _ R2
    go_wp2_with (refine wpList_stB 73 _ _ (w.heap.size+1) 0 _ [I gd.cl,I gd.sv,I gd.key,I gd.a,I gd.b,I gd.e,.slice pa9 gd.P.length pc9,.slice va9 gd.V.length vc9,I gd.fk,I gd.bk,I gd.nonce,I gd.kind,I 0,I gd.by',I 0,I 0,I 0,I gd.par,I gd.ev,I 0,I 0,I 0] ie hie UC (by rw [hsz];rfl) (by simp) rfl rfl rfl rfl rfl ?_;try simp only [Act.put])
    exact bodyPost_ret (res_B2 rfl _ _ (w.heap.size+1) _ .nilIface ie hie ag73 FU (by rw [hsz];rfl) rfl rfl) rfl ⟨by rw [HR.out];exact ⟨pa9,pc9,va9,vc9,rfl,R1.mono (by have:=zlo.out;omega),R2.mono (by have:=zlo.out;omega),l1,l2,i9⟩,FB⟩
 ·have HR:Hid (cenG c realm now fresh req=.error 1):=by show _=_;unfold cenG;rw [if_neg (fun h=>hc h.1)]
  rw [Bool.not_eq_true] at hc
  rw [hc]
  go_wp2_with fail
  refine (refuse_is 1 _).mono ?_
  rintro en wf ⟨rfl,hb⟩
  replace TC:=TC.later hb TC.lt
  replace UC:=UC.later hb UC.lt
  replace BC:=BC.trans (hb.mono BC.size)
  clear hb
  have FU:=UC.sets [I 0,I 0,I 0,I 0,I 0,I 0,.slice none 0 0,.slice none 0 0,I 0,I 0,I 0,I 0,I 0,I 0,I 0,I 0,I 0,I 0,I 0,I 0,I 0,I 0] rfl
  have FB:=below_sets (m:=w.heap.size) (g:=(w.heap.size+1)) (by omega) [I 0,I 0,I 0,I 0,I 0,I 0,.slice none 0 0,.slice none 0 0,I 0,I 0,I 0,I 0,I 0,I 0,I 0,I 0,I 0,I 0,I 0,I 0,I 0,I 0] 0 _ BC
  go_wp2_with (refine wpList_stB 73 _ _ (w.heap.size+1) 0 _ [I 0,I 0,I 0,I 0,I 0,I 0,.slice none 0 0,.slice none 0 0,I 0,I 0,I 0,I 0,I 0,I 0,I 0,I 0,I 0,I 0,I 0,I 0,I 0,I 0] ie hie UC (by rw [hsz];rfl) (by simp) rfl rfl rfl rfl rfl ?_;try simp only [Act.put])
  exact bodyPost_ret (res_B2 rfl _ _ (w.heap.size+1) _ (refV 1) ie hie ag73 FU (by rw [hsz];rfl) rfl rfl) rfl ⟨by rw [HR.out];exact rfl,FB⟩
set_option maxHeartbeats 6400000 in
theorem implCentre_is (c:Cf) (realm now fresh:Int) (req:ByteArray) (w:World) (C:CfAt c w) (KO:CfOk c) (hq:req.size≤1048576) (hg:w.cell? ⟨0,0,none⟩=some (.iface 178 (.agg #[.pointer (some ⟨2,75,none⟩)]))) :
  Calls Tryz.prog 7 #[c.val,I realm,I now,I fresh,.string req] w fun en w'=>en=.returned (toR realm (cenG c realm now fresh req)).val∧Below w.heap.size w w':=by
 obtain ⟨ir,hir,hrz⟩:=info_reply
 have BC:Below w.heap.size w (((w.alloc (.cells #[.slice c.ua c.U.length c.uc,.slice c.sa c.S.length c.sc,.slice c.la c.L.length c.lc,.slice c.xa c.X.length c.xc,I c.k] 27)).alloc (.cells #[I 0,.string ⟨#[]⟩,I 0,I 0,I 0,I 0,I 0,I 0,I 0,I 0,I 0,I 0,I 0] 35)).alloc (.cells #[.slice c.ua c.U.length c.uc,.slice c.sa c.S.length c.sc,.slice c.la c.L.length c.lc,.slice c.xa c.X.length c.xc,I c.k,I realm,I now,I fresh] 70)):=(((Below.refl _ _).alloc (by simp <;> omega) _).alloc (by simp <;> omega) _).alloc (by simp <;> omega) _
 have TC:Blk w.heap.size [.slice c.ua c.U.length c.uc,.slice c.sa c.S.length c.sc,.slice c.la c.L.length c.lc,.slice c.xa c.X.length c.xc,I c.k] (((w.alloc (.cells #[.slice c.ua c.U.length c.uc,.slice c.sa c.S.length c.sc,.slice c.la c.L.length c.lc,.slice c.xa c.X.length c.xc,I c.k] 27)).alloc (.cells #[I 0,.string ⟨#[]⟩,I 0,I 0,I 0,I 0,I 0,I 0,I 0,I 0,I 0,I 0,I 0] 35)).alloc (.cells #[.slice c.ua c.U.length c.uc,.slice c.sa c.S.length c.sc,.slice c.la c.L.length c.lc,.slice c.xa c.X.length c.xc,I c.k,I realm,I now,I fresh] 70)):=by have h_:=(((Blk.new w #[.slice c.ua c.U.length c.uc,.slice c.sa c.S.length c.sc,.slice c.la c.L.length c.lc,.slice c.xa c.X.length c.xc,I c.k] 27).alloc (by simp <;> omega) (.cells #[I 0,.string ⟨#[]⟩,I 0,I 0,I 0,I 0,I 0,I 0,I 0,I 0,I 0,I 0,I 0] 35)).alloc (by simp <;> omega) (.cells #[.slice c.ua c.U.length c.uc,.slice c.sa c.S.length c.sc,.slice c.la c.L.length c.lc,.slice c.xa c.X.length c.xc,I c.k,I realm,I now,I fresh] 70));simpa using h_
 have UC:Blk (w.heap.size+1) [I 0,.string ⟨#[]⟩,I 0,I 0,I 0,I 0,I 0,I 0,I 0,I 0,I 0,I 0,I 0] (((w.alloc (.cells #[.slice c.ua c.U.length c.uc,.slice c.sa c.S.length c.sc,.slice c.la c.L.length c.lc,.slice c.xa c.X.length c.xc,I c.k] 27)).alloc (.cells #[I 0,.string ⟨#[]⟩,I 0,I 0,I 0,I 0,I 0,I 0,I 0,I 0,I 0,I 0,I 0] 35)).alloc (.cells #[.slice c.ua c.U.length c.uc,.slice c.sa c.S.length c.sc,.slice c.la c.L.length c.lc,.slice c.xa c.X.length c.xc,I c.k,I realm,I now,I fresh] 70)):=by have h_:=((Blk.new (w.alloc (.cells #[.slice c.ua c.U.length c.uc,.slice c.sa c.S.length c.sc,.slice c.la c.L.length c.lc,.slice c.xa c.X.length c.xc,I c.k] 27)) #[I 0,.string ⟨#[]⟩,I 0,I 0,I 0,I 0,I 0,I 0,I 0,I 0,I 0,I 0,I 0] 35).alloc (by simp <;> omega) (.cells #[.slice c.ua c.U.length c.uc,.slice c.sa c.S.length c.sc,.slice c.la c.L.length c.lc,.slice c.xa c.X.length c.xc,I c.k,I realm,I now,I fresh] 70));simpa using h_
 have NC:Blk (w.heap.size+1+1) [.slice c.ua c.U.length c.uc,.slice c.sa c.S.length c.sc,.slice c.la c.L.length c.lc,.slice c.xa c.X.length c.xc,I c.k,I realm,I now,I fresh] (((w.alloc (.cells #[.slice c.ua c.U.length c.uc,.slice c.sa c.S.length c.sc,.slice c.la c.L.length c.lc,.slice c.xa c.X.length c.xc,I c.k] 27)).alloc (.cells #[I 0,.string ⟨#[]⟩,I 0,I 0,I 0,I 0,I 0,I 0,I 0,I 0,I 0,I 0,I 0] 35)).alloc (.cells #[.slice c.ua c.U.length c.uc,.slice c.sa c.S.length c.sc,.slice c.la c.L.length c.lc,.slice c.xa c.X.length c.xc,I c.k,I realm,I now,I fresh] 70)):=by have h_:=(Blk.new ((w.alloc (.cells #[.slice c.ua c.U.length c.uc,.slice c.sa c.S.length c.sc,.slice c.la c.L.length c.lc,.slice c.xa c.X.length c.xc,I c.k] 27)).alloc (.cells #[I 0,.string ⟨#[]⟩,I 0,I 0,I 0,I 0,I 0,I 0,I 0,I 0,I 0,I 0,I 0] 35)) #[.slice c.ua c.U.length c.uc,.slice c.sa c.S.length c.sc,.slice c.la c.L.length c.lc,.slice c.xa c.X.length c.xc,I c.k,I realm,I now,I fresh] 70);simpa using h_
 have hlt:0 < w.heap.size:=World.block_lt_of_cell? w _ hg
 go_enter Tryz.func7,Tryz.ntmps7
 go_wp2_with fail
 obtain ⟨W3,hW3⟩:∃ Wz,(((w.alloc (.cells #[.slice c.ua c.U.length c.uc,.slice c.sa c.S.length c.sc,.slice c.la c.L.length c.lc,.slice c.xa c.X.length c.xc,I c.k] 27)).alloc (.cells #[I 0,.string ⟨#[]⟩,I 0,I 0,I 0,I 0,I 0,I 0,I 0,I 0,I 0,I 0,I 0] 35)).alloc (.cells #[.slice c.ua c.U.length c.uc,.slice c.sa c.S.length c.sc,.slice c.la c.L.length c.lc,.slice c.xa c.X.length c.xc,I c.k,I realm,I now,I fresh] 70))=Wz:=⟨_,rfl⟩
 rw [hW3] at TC UC NC BC
 try rw [hW3]
 clear hW3
 replace TC:=TC.drew
 replace UC:=UC.drew
 replace NC:=NC.drew
 replace BC:=BC.drew
 refine wp_region_held_drew (S:=(fun Vw=>Blk (w.heap.size+1+1) [.slice c.ua c.U.length c.uc,.slice c.sa c.S.length c.sc,.slice c.la c.L.length c.lc,.slice c.xa c.X.length c.xc,I c.k,I realm,I now,I fresh] Vw)) (by kernel_rfl) NC (fun hH=>?_)
 refine tk 0 17 rfl _ hH (by intro w' h;have d0:=h.e8;go_simp;try with_reducible rfl) ?_
 try simp only [Act.put,pa,pb,pc]
 refine tk 1 18 rfl _ hH (by intro w' h;have d0:=h.e8;go_simp;try with_reducible rfl) ?_
 try simp only [Act.put,pa,pb,pc]
 refine tk 2 19 rfl _ hH (by intro w' h;have d0:=h.e8;go_simp;try with_reducible rfl) ?_
 try simp only [Act.put,pa,pb,pc]
 refine wpAnyH_ready (rs:=[3]) (by kernel_rfl) (by simp) ?_
 refine AllReadyH.cons (i:=3) rfl (fun K hK=>?_) AllReadyH.nil
 go_simp
 refine (answer_is c realm now fresh req _ (C.later BC) KO hq).mono ?_
 rintro en w4 ⟨hG,hb⟩
 replace TC:=TC.later hb TC.lt
 replace UC:=UC.later hb UC.lt
 replace NC:=NC.later hb NC.lt
 replace BC:=BC.trans (hb.mono BC.size)
 clear hb
 cases hgr:cenG c realm now fresh req with
 | error code =>
  rw [hgr] at hG
  obtain rfl:en=_:=hG
  go_wp2_with fail
  refine hK.out _ _ NC (fun hJ=>?_)
  clear hK K hH
  have hH:=hJ
  clear hJ
  try simp only [Act.put,pa,pb,pc]
  refine tk 4 21 rfl _ hH (by intro w' h;have d0:=h.e8;go_simp;try with_reducible rfl) ?_
  try simp only [Act.put,pa,pb,pc]
  refine tk 5 22 rfl _ hH (by intro w' h;have d0:=h.e8;go_simp;try with_reducible rfl) ?_
  try simp only [Act.put,pa,pb,pc]
  refine wpAnyH_ready (rs:=[6]) (by kernel_rfl) (by simp) ?_
  refine AllReadyH.cons (i:=6) rfl (fun K hK=>?_) AllReadyH.nil
  go_simp
  refine (reply_err c realm now fresh code _ ((BC.cell (p:=⟨0,0,none⟩) hlt).trans hg)).mono ?_
  rintro en w5 ⟨rfl,hb⟩
  replace TC:=TC.later hb TC.lt
  replace UC:=UC.later hb UC.lt
  replace NC:=NC.later hb NC.lt
  replace BC:=BC.trans (hb.mono BC.size)
  clear hb
  have HR:Hid ((toR realm (cenG c realm now fresh req)).val=(failR code).val):=by show _=_;rw [hgr];rfl
  generalize failR code=rp at HR ⊢
  obtain ⟨rc,rt,e0,e1,e2,e3,e4,e5,e6,e7,e8,e9,e10⟩:=rp
  go_wp2_with fail
  refine hK.out _ _ NC (fun hJ=>?_)
  clear hK K hH
  have hH:=hJ
  clear hJ
  try simp only [Act.put,pa,pb,pc]
  have N_:Blk (w.heap.size+1) [I rc,.string rt,I e0,I e1,I e2,I e3,I e4,I e5,I e6,I e7,I e8,I e9,I e10] ((w5).setCells (w.heap.size+1) 0 [I rc,.string rt,I e0,I e1,I e2,I e3,I e4,I e5,I e6,I e7,I e8,I e9,I e10]):=UC.part 0 [I rc,.string rt,I e0,I e1,I e2,I e3,I e4,I e5,I e6,I e7,I e8,I e9,I e10] _ (by simp) rfl
  have TC_:=Blk.farS (q:=(w.heap.size+1)) (by omega) [I rc,.string rt,I e0,I e1,I e2,I e3,I e4,I e5,I e6,I e7,I e8,I e9,I e10] 0 _ TC
  have NC_:=Blk.farS (q:=(w.heap.size+1)) (by omega) [I rc,.string rt,I e0,I e1,I e2,I e3,I e4,I e5,I e6,I e7,I e8,I e9,I e10] 0 _ NC
  have BC_:=below_sets (m:=w.heap.size) (g:=(w.heap.size+1)) (by omega) [I rc,.string rt,I e0,I e1,I e2,I e3,I e4,I e5,I e6,I e7,I e8,I e9,I e10] 0 _ BC
  refine wpAnyH_ready (rs:=[7]) (by kernel_rfl) (by simp) ?_
  refine AllReadyH.cons (i:=7) rfl (fun K hK=>?_) AllReadyH.nil
  refine stepB 35 _ _ ((w.heap.size+1)) 0 [I 0,.string ⟨#[]⟩,I 0,I 0,I 0,I 0,I 0,I 0,I 0,I 0,I 0,I 0,I 0] [I rc,.string rt,I e0,I e1,I e2,I e3,I e4,I e5,I e6,I e7,I e8,I e9,I e10] ir hir UC (by rw [hrz];rfl) (by simp) rfl rfl rfl rfl rfl ?_
  try simp only [Act.put,pa]
  obtain ⟨VF,hVF⟩:∃ Wz,(w5).setCells ((w.heap.size+1)) 0 [I rc,.string rt,I e0,I e1,I e2,I e3,I e4,I e5,I e6,I e7,I e8,I e9,I e10]=Wz:=⟨_,rfl⟩
  rw [hVF] at N_ BC_ TC_ NC_ ⊢
  clear hVF UC BC TC NC
  have UC:=N_
  have BC:=BC_
  have TC:=TC_
  have NC:=NC_
  clear N_ BC_ TC_ NC_
  refine hK.out _ _ NC (fun hJ=>?_)
  clear hK K hH
  have hH:=hJ
  clear hJ
  try simp only [Act.put,pa,pb,pc]
  refine wpAnyH_done (by kernel_rfl) ?_ _
  go_wp2
  exact bodyPost_ret (res_B1 rfl _ _ (w.heap.size+1) _ ir hir ag35 UC (by rw [hrz];rfl) rfl) rfl ⟨by rw [HR.out],BC⟩
 | ok gd =>
  rw [hgr] at hG
  obtain ⟨pa9,pc9,va9,vc9,rfl,R1,R2,l1,l2,i9⟩:=hG
  go_wp2_with fail
  refine hK.out _ _ NC (fun hJ=>?_)
  clear hK K hH
  have hH:=hJ
  clear hJ
  try simp only [Act.put,pa,pb,pc]
  refine tk 4 21 rfl _ hH (by intro w' h;have d0:=h.e8;go_simp;try with_reducible rfl) ?_
  try simp only [Act.put,pa,pb,pc]
  refine tk 5 22 rfl _ hH (by intro w' h;have d0:=h.e8;go_simp;try with_reducible rfl) ?_
  try simp only [Act.put,pa,pb,pc]
  refine wpAnyH_ready (rs:=[6]) (by kernel_rfl) (by simp) ?_
  refine AllReadyH.cons (i:=6) rfl (fun K hK=>?_) AllReadyH.nil
  go_simp
  refine (reply_ok c realm now fresh gd.cl gd.sv gd.key gd.a gd.b gd.e pa9 gd.P pc9 va9 gd.V vc9 gd.fk gd.bk gd.nonce gd.kind gd.by' gd.par gd.ev _ R1.row R2.row (by omega) (by omega) i9).mono ?_
  rintro en w5 ⟨rfl,hb⟩
  replace TC:=TC.later hb TC.lt
  replace UC:=UC.later hb UC.lt
  replace NC:=NC.later hb NC.lt
  replace R1:=R1.later hb
  replace R2:=R2.later hb
  replace BC:=BC.trans (hb.mono BC.size)
  clear hb R1 R2
  have HR:Hid ((toR realm (cenG c realm now fresh req)).val=(replyR gd.nonce (shT gd.cl gd.sv gd.key gd.a gd.b gd.e gd.P gd.V gd.fk) (shG gd.key gd.sv gd.nonce gd.a gd.b gd.e gd.bk) ⟨gd.kind,realm,gd.by',gd.cl,gd.sv,gd.key,gd.par,gd.ev,gd.a,gd.b,gd.e⟩).val):=by show _=_;rw [hgr];rfl
  generalize replyR gd.nonce (shT gd.cl gd.sv gd.key gd.a gd.b gd.e gd.P gd.V gd.fk) (shG gd.key gd.sv gd.nonce gd.a gd.b gd.e gd.bk) ⟨gd.kind,realm,gd.by',gd.cl,gd.sv,gd.key,gd.par,gd.ev,gd.a,gd.b,gd.e⟩=rp at HR ⊢
  obtain ⟨rc,rt,e0,e1,e2,e3,e4,e5,e6,e7,e8,e9,e10⟩:=rp
  go_wp2_with fail
  refine hK.out _ _ NC (fun hJ=>?_)
  clear hK K hH
  have hH:=hJ
  clear hJ
  try simp only [Act.put,pa,pb,pc]
  have N_:Blk (w.heap.size+1) [I rc,.string rt,I e0,I e1,I e2,I e3,I e4,I e5,I e6,I e7,I e8,I e9,I e10] ((w5).setCells (w.heap.size+1) 0 [I rc,.string rt,I e0,I e1,I e2,I e3,I e4,I e5,I e6,I e7,I e8,I e9,I e10]):=UC.part 0 [I rc,.string rt,I e0,I e1,I e2,I e3,I e4,I e5,I e6,I e7,I e8,I e9,I e10] _ (by simp) rfl
  have TC_:=Blk.farS (q:=(w.heap.size+1)) (by omega) [I rc,.string rt,I e0,I e1,I e2,I e3,I e4,I e5,I e6,I e7,I e8,I e9,I e10] 0 _ TC
  have NC_:=Blk.farS (q:=(w.heap.size+1)) (by omega) [I rc,.string rt,I e0,I e1,I e2,I e3,I e4,I e5,I e6,I e7,I e8,I e9,I e10] 0 _ NC
  have BC_:=below_sets (m:=w.heap.size) (g:=(w.heap.size+1)) (by omega) [I rc,.string rt,I e0,I e1,I e2,I e3,I e4,I e5,I e6,I e7,I e8,I e9,I e10] 0 _ BC
  refine wpAnyH_ready (rs:=[7]) (by kernel_rfl) (by simp) ?_
  refine AllReadyH.cons (i:=7) rfl (fun K hK=>?_) AllReadyH.nil
  refine stepB 35 _ _ ((w.heap.size+1)) 0 [I 0,.string ⟨#[]⟩,I 0,I 0,I 0,I 0,I 0,I 0,I 0,I 0,I 0,I 0,I 0] [I rc,.string rt,I e0,I e1,I e2,I e3,I e4,I e5,I e6,I e7,I e8,I e9,I e10] ir hir UC (by rw [hrz];rfl) (by simp) rfl rfl rfl rfl rfl ?_
  try simp only [Act.put,pa]
  obtain ⟨VF,hVF⟩:∃ Wz,(w5).setCells ((w.heap.size+1)) 0 [I rc,.string rt,I e0,I e1,I e2,I e3,I e4,I e5,I e6,I e7,I e8,I e9,I e10]=Wz:=⟨_,rfl⟩
  rw [hVF] at N_ BC_ TC_ NC_ ⊢
  clear hVF UC BC TC NC
  have UC:=N_
  have BC:=BC_
  have TC:=TC_
  have NC:=NC_
  clear N_ BC_ TC_ NC_
  refine hK.out _ _ NC (fun hJ=>?_)
  clear hK K hH
  have hH:=hJ
  clear hJ
  try simp only [Act.put,pa,pb,pc]
  refine wpAnyH_done (by kernel_rfl) ?_ _
  go_wp2
  exact bodyPost_ret (res_B1 rfl _ _ (w.heap.size+1) _ ir hir ag35 UC (by rw [hrz];rfl) rfl) rfl ⟨by rw [HR.out],BC⟩
end Go.Proofs.YtcaieniddnhkbaaGreatDoor
