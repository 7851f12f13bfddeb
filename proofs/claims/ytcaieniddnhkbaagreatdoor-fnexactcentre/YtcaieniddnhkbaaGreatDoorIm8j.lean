/- Chapter 8: what is asked of a centre, the program's. -/
import Derived.Test.YtcaieniddnhkbaaGreatDoorAb
import Derived.Test.YtcaieniddnhkbaaGreatDoorIm8i
set_option linter.unusedVariables false
set_option maxRecDepth 100000
namespace Go.Proofs.YtcaieniddnhkbaaGreatDoor
open Go Go.RowKit Own Var Term
theorem rt_client (s:ByteArray) (k:Int) (h:rtK s k=true):0≤rtN s k 0∧rtN s k 0≤5:=by
 unfold rtN
 rw [h,if_pos rfl]
 unfold rtK at h
 simp only [Bool.and_eq_true] at h
 have h1:=h.2.2.2.2.2.2.2
 unfold tOk at h1
 simp only [Bool.and_eq_true] at h1
 exact (btw_iff _ _ _).1 h1.1
set_option maxHeartbeats 6400000 in
theorem ask_is (c:Cf) (realm now fresh target nonce:Int) (tk au rs ev:ByteArray) (w:World) (C:CfAt c w) (K:CfOk c) (hcf:confB c=true) (hn:0≤now∧now≤100000) (hr:0≤realm∧realm≤2) (htk:tk.size≤1048576) (hau:au.size≤1048576) (hrs:rs.size≤1048576) (hev:ev.size≤1048576) :
  Calls Tryz.prog 69 #[cenV c realm now fresh,.agg #[I target,I nonce,.string tk,.string au,.string rs,.string ev]] w fun en w'=>GRes w.heap.size (askG c realm now fresh target nonce tk au rs ev) en w'∧Below w.heap.size w w':=by
 obtain ⟨ie,hie,hsz⟩:=info_gift
 have BC:Below w.heap.size w (((w.alloc (.cells #[.slice c.ua c.U.length c.uc,.slice c.sa c.S.length c.sc,.slice c.la c.L.length c.lc,.slice c.xa c.X.length c.xc,I c.k,I realm,I now,I fresh] 70)).alloc (.cells #[I target,I nonce,.string tk,.string au,.string rs,.string ev] 129)).alloc (.cells #[I 0,I 0,I 0,I 0,I 0,I 0,.slice none 0 0,.slice none 0 0,I 0,I 0,I 0,I 0,I 0,I 0,I 0,I 0,I 0,I 0,I 0,I 0,I 0,I 0] 73)):=(((Below.refl _ _).alloc (by simp <;> omega) _).alloc (by simp <;> omega) _).alloc (by simp <;> omega) _
 have TC:Blk w.heap.size [.slice c.ua c.U.length c.uc,.slice c.sa c.S.length c.sc,.slice c.la c.L.length c.lc,.slice c.xa c.X.length c.xc,I c.k,I realm,I now,I fresh] (((w.alloc (.cells #[.slice c.ua c.U.length c.uc,.slice c.sa c.S.length c.sc,.slice c.la c.L.length c.lc,.slice c.xa c.X.length c.xc,I c.k,I realm,I now,I fresh] 70)).alloc (.cells #[I target,I nonce,.string tk,.string au,.string rs,.string ev] 129)).alloc (.cells #[I 0,I 0,I 0,I 0,I 0,I 0,.slice none 0 0,.slice none 0 0,I 0,I 0,I 0,I 0,I 0,I 0,I 0,I 0,I 0,I 0,I 0,I 0,I 0,I 0] 73)):=by have h_:=(((Blk.new w #[.slice c.ua c.U.length c.uc,.slice c.sa c.S.length c.sc,.slice c.la c.L.length c.lc,.slice c.xa c.X.length c.xc,I c.k,I realm,I now,I fresh] 70).alloc (by simp <;> omega) (.cells #[I target,I nonce,.string tk,.string au,.string rs,.string ev] 129)).alloc (by simp <;> omega) (.cells #[I 0,I 0,I 0,I 0,I 0,I 0,.slice none 0 0,.slice none 0 0,I 0,I 0,I 0,I 0,I 0,I 0,I 0,I 0,I 0,I 0,I 0,I 0,I 0,I 0] 73));simpa using h_
 have QC:Blk (w.heap.size+1) [I target,I nonce,.string tk,.string au,.string rs,.string ev] (((w.alloc (.cells #[.slice c.ua c.U.length c.uc,.slice c.sa c.S.length c.sc,.slice c.la c.L.length c.lc,.slice c.xa c.X.length c.xc,I c.k,I realm,I now,I fresh] 70)).alloc (.cells #[I target,I nonce,.string tk,.string au,.string rs,.string ev] 129)).alloc (.cells #[I 0,I 0,I 0,I 0,I 0,I 0,.slice none 0 0,.slice none 0 0,I 0,I 0,I 0,I 0,I 0,I 0,I 0,I 0,I 0,I 0,I 0,I 0,I 0,I 0] 73)):=by have h_:=((Blk.new (w.alloc (.cells #[.slice c.ua c.U.length c.uc,.slice c.sa c.S.length c.sc,.slice c.la c.L.length c.lc,.slice c.xa c.X.length c.xc,I c.k,I realm,I now,I fresh] 70)) #[I target,I nonce,.string tk,.string au,.string rs,.string ev] 129).alloc (by simp <;> omega) (.cells #[I 0,I 0,I 0,I 0,I 0,I 0,.slice none 0 0,.slice none 0 0,I 0,I 0,I 0,I 0,I 0,I 0,I 0,I 0,I 0,I 0,I 0,I 0,I 0,I 0] 73));simpa using h_
 have UC:Blk (w.heap.size+1+1) [I 0,I 0,I 0,I 0,I 0,I 0,.slice none 0 0,.slice none 0 0,I 0,I 0,I 0,I 0,I 0,I 0,I 0,I 0,I 0,I 0,I 0,I 0,I 0,I 0] (((w.alloc (.cells #[.slice c.ua c.U.length c.uc,.slice c.sa c.S.length c.sc,.slice c.la c.L.length c.lc,.slice c.xa c.X.length c.xc,I c.k,I realm,I now,I fresh] 70)).alloc (.cells #[I target,I nonce,.string tk,.string au,.string rs,.string ev] 129)).alloc (.cells #[I 0,I 0,I 0,I 0,I 0,I 0,.slice none 0 0,.slice none 0 0,I 0,I 0,I 0,I 0,I 0,I 0,I 0,I 0,I 0,I 0,I 0,I 0,I 0,I 0] 73)):=by have h_:=(Blk.new ((w.alloc (.cells #[.slice c.ua c.U.length c.uc,.slice c.sa c.S.length c.sc,.slice c.la c.L.length c.lc,.slice c.xa c.X.length c.xc,I c.k,I realm,I now,I fresh] 70)).alloc (.cells #[I target,I nonce,.string tk,.string au,.string rs,.string ev] 129)) #[I 0,I 0,I 0,I 0,I 0,I 0,.slice none 0 0,.slice none 0 0,I 0,I 0,I 0,I 0,I 0,I 0,I 0,I 0,I 0,I 0,I 0,I 0,I 0,I 0] 73);simpa using h_
 have q1_:=QC.at 4 rfl
 go_enter Tryz.func69,Tryz.ntmps69
 go_wp2_with fail
 refine (implRead_is rs _ hrs).mono ?_
 rintro en w2 ⟨rfl,hb⟩
 have z2:=hb.size
 replace TC:=TC.later hb TC.lt
 replace QC:=QC.later hb QC.lt
 replace UC:=UC.later hb UC.lt
 replace BC:=BC.trans (hb.mono BC.size)
 clear hb
 clear q1_
 have ZW:Hid (w.heap.size+3≤w2.heap.size):=UC.lt
 clear z2
 generalize hwa:rdA (numsR rs).1=wa
 generalize hwb:rdB (numsR rs).1=wb
 generalize hwe:rdC (numsR rs).1=we
 have HW:Hid (rdA (numsR rs).1=wa∧rdB (numsR rs).1=wb∧rdC (numsR rs).1=we):=⟨hwa,hwb,hwe⟩
 clear hwa hwb hwe
 generalize hkk:rdK (numsR rs).1=kk
 have HK:Hid (rdK (numsR rs).1=kk):=hkk
 clear hkk
 have XA_:Below w2.heap.size w2 (w2.alloc (.cells #[I wa,I wb,I we] 31)):=(Below.refl _ _).alloc (Nat.le_refl _) _
 have RC:Blk w2.heap.size [I wa,I wb,I we] (w2.alloc (.cells #[I wa,I wb,I we] 31)):=Blk.new _ _ _
 replace TC:=TC.later XA_ TC.lt
 replace QC:=QC.later XA_ QC.lt
 replace UC:=UC.later XA_ UC.lt
 replace BC:=BC.trans (XA_.mono BC.size)
 clear XA_
 obtain ⟨W3,hW3⟩:∃ Wz,(w2.alloc (.cells #[I wa,I wb,I we] 31))=Wz:=⟨_,rfl⟩
 rw [hW3] at TC QC UC RC BC
 have q2_:=TC.at 0 rfl
 have q3_:=TC.at 1 rfl
 have q4_:=TC.at 2 rfl
 have q5_:=TC.at 3 rfl
 have q6_:=TC.at 4 rfl
 have q7_:=TC.at 5 rfl
 have q8_:=TC.at 6 rfl
 have q9_:=TC.at 7 rfl
 have q10_:=QC.at 2 rfl
 have zr:=UC.lt
 go_wp2_with fail
 try rw [hW3]
 refine (shown_is c realm now fresh tk _ (C.later BC) K hcf hr htk).mono ?_
 rintro en w4 ⟨x0,x1,x2,x3,x4,x5,pa,P,pc,va,V,vc,rfl,hsh,lP,lV,RP,RV,hb⟩
 have HS:Hid (shB c realm tk=true→x0=rtN tk (shK c realm tk) 0∧x2=rtN tk (shK c realm tk) 2∧x3=rtN tk (shK c realm tk) 3∧x4=rtN tk (shK c realm tk) 4∧x5=rtN tk (shK c realm tk) 5∧P=shP c realm tk∧V=rtV tk (shK c realm tk)):=hsh
 clear hsh
 replace TC:=TC.later hb TC.lt
 replace QC:=QC.later hb QC.lt
 replace UC:=UC.later hb UC.lt
 replace RC:=RC.later hb RC.lt
 replace BC:=BC.trans (hb.mono BC.size)
 replace RP:RF (w.heap.size+3) w4 pa P:=RP.mono zr
 replace RV:RF (w.heap.size+3) w4 va V:=RV.mono zr
 clear hb zr
 clear q2_ q3_ q4_ q5_ q6_ q7_ q8_ q9_ q10_ hW3
 have XA_:Below w4.heap.size w4 (w4.alloc (.cells #[I x0,I x1,I x2,I x3,I x4,I x5,.slice pa P.length pc,.slice va V.length vc] 43)):=(Below.refl _ _).alloc (Nat.le_refl _) _
 have KC:Blk w4.heap.size [I x0,I x1,I x2,I x3,I x4,I x5,.slice pa P.length pc,.slice va V.length vc] (w4.alloc (.cells #[I x0,I x1,I x2,I x3,I x4,I x5,.slice pa P.length pc,.slice va V.length vc] 43)):=Blk.new _ _ _
 replace TC:=TC.later XA_ TC.lt
 replace QC:=QC.later XA_ QC.lt
 replace UC:=UC.later XA_ UC.lt
 replace RC:=RC.later XA_ RC.lt
 replace BC:=BC.trans (XA_.mono BC.size)
 clear XA_
 replace RP:=RP.later ((Below.refl _ _).alloc (Nat.le_refl _) (.cells #[I x0,I x1,I x2,I x3,I x4,I x5,.slice pa P.length pc,.slice va V.length vc] 43))
 replace RV:=RV.later ((Below.refl _ _).alloc (Nat.le_refl _) (.cells #[I x0,I x1,I x2,I x3,I x4,I x5,.slice pa P.length pc,.slice va V.length vc] 43))
 obtain ⟨W5,hW5⟩:∃ Wz,(w4.alloc (.cells #[I x0,I x1,I x2,I x3,I x4,I x5,.slice pa P.length pc,.slice va V.length vc] 43))=Wz:=⟨_,rfl⟩
 rw [hW5] at TC QC UC RC KC BC RP RV
 generalize hsb:shB c realm tk=sb
 rw [hsb] at HS
 have HB:Hid (shB c realm tk=sb):=hsb
 clear hsb
 have q11_:=QC.at 0 rfl
 go_wp2_with fail
 try rw [hW5]
 refine (serv_is target _).mono ?_
 rintro en w6 ⟨rfl,rfl⟩
 clear q11_ hW5
 by_cases h0:btw target 0 2=true
 ·rw [h0]
  have ht:=(btw_iff _ _ _).1 h0
  cases kk with
  | false =>
   have HR:Hid (askG c realm now fresh target nonce tk au rs ev=.error 1):=by show _=_;unfold askG;rw [if_neg];rintro ⟨_,h,_⟩;rw [HK.out] at h;cases h
   go_wp2_with fail
   refine (refuse_is 1 _).mono ?_
   rintro en wf ⟨rfl,hb⟩
   replace TC:=TC.later hb TC.lt
   replace QC:=QC.later hb QC.lt
   replace UC:=UC.later hb UC.lt
   replace RC:=RC.later hb RC.lt
   replace KC:=KC.later hb KC.lt
   replace RP:=RP.later hb
   replace RV:=RV.later hb
   replace BC:=BC.trans (hb.mono BC.size)
   clear hb
   have FU:=UC.sets [I 0,I 0,I 0,I 0,I 0,I 0,.slice none 0 0,.slice none 0 0,I 0,I 0,I 0,I 0,I 0,I 0,I 0,I 0,I 0,I 0,I 0,I 0,I 0,I 0] rfl
   have FB:=below_sets (m:=w.heap.size) (g:=(w.heap.size+1+1)) (by omega) [I 0,I 0,I 0,I 0,I 0,I 0,.slice none 0 0,.slice none 0 0,I 0,I 0,I 0,I 0,I 0,I 0,I 0,I 0,I 0,I 0,I 0,I 0,I 0,I 0] 0 _ BC
   go_wp2_with (refine wpList_stB 73 _ _ (w.heap.size+1+1) 0 _ [I 0,I 0,I 0,I 0,I 0,I 0,.slice none 0 0,.slice none 0 0,I 0,I 0,I 0,I 0,I 0,I 0,I 0,I 0,I 0,I 0,I 0,I 0,I 0,I 0] ie hie UC (by rw [hsz];rfl) (by simp) rfl rfl rfl rfl rfl ?_;try simp only [Act.put])
   exact bodyPost_ret (res_B2 rfl _ _ (w.heap.size+1+1) _ (refV 1) ie hie ag73 FU (by rw [hsz];rfl) rfl rfl) rfl ⟨by rw [HR.out];exact rfl,FB⟩
  | true =>
   cases sb with
   | false =>
    have HR:Hid (askG c realm now fresh target nonce tk au rs ev=.error 1):=by show _=_;unfold askG;rw [if_neg];rintro ⟨_,_,h⟩;rw [HB.out] at h;cases h
    go_wp2_with fail
    refine (refuse_is 1 _).mono ?_
    rintro en wf ⟨rfl,hb⟩
    replace TC:=TC.later hb TC.lt
    replace QC:=QC.later hb QC.lt
    replace UC:=UC.later hb UC.lt
    replace RC:=RC.later hb RC.lt
    replace KC:=KC.later hb KC.lt
    replace RP:=RP.later hb
    replace RV:=RV.later hb
    replace BC:=BC.trans (hb.mono BC.size)
    clear hb
    have FU:=UC.sets [I 0,I 0,I 0,I 0,I 0,I 0,.slice none 0 0,.slice none 0 0,I 0,I 0,I 0,I 0,I 0,I 0,I 0,I 0,I 0,I 0,I 0,I 0,I 0,I 0] rfl
    have FB:=below_sets (m:=w.heap.size) (g:=(w.heap.size+1+1)) (by omega) [I 0,I 0,I 0,I 0,I 0,I 0,.slice none 0 0,.slice none 0 0,I 0,I 0,I 0,I 0,I 0,I 0,I 0,I 0,I 0,I 0,I 0,I 0,I 0,I 0] 0 _ BC
    go_wp2_with (refine wpList_stB 73 _ _ (w.heap.size+1+1) 0 _ [I 0,I 0,I 0,I 0,I 0,I 0,.slice none 0 0,.slice none 0 0,I 0,I 0,I 0,I 0,I 0,I 0,I 0,I 0,I 0,I 0,I 0,I 0,I 0,I 0] ie hie UC (by rw [hsz];rfl) (by simp) rfl rfl rfl rfl rfl ?_;try simp only [Act.put])
    exact bodyPost_ret (res_B2 rfl _ _ (w.heap.size+1+1) _ (refV 1) ie hie ag73 FU (by rw [hsz];rfl) rfl rfl) rfl ⟨by rw [HR.out];exact rfl,FB⟩
   | true =>
    obtain ⟨e0,e2,e3,e4,e5,e6,e7⟩:=HS.out rfl
    obtain ⟨ea,eb,ec⟩:=HW.out
    have HA:Hid (askG c realm now fresh target nonce tk au rs ev=if ckC c.k now x0 x2 x5 P.length au=0 then (if ev=atomT ⟨#[]⟩ then hoG c realm fresh target nonce x0 x2 x3 x4 x5 wa wb we P V else dgG c realm now fresh target nonce x0 x2 wa wb we ev) else .error (ckC c.k now x0 x2 x5 P.length au)):=by show _=_;unfold askG;rw [if_pos ⟨h0,HK.out,HB.out⟩,ea,eb,ec,← e0,← e2,← e3,← e4,← e5,← e6,← e7]
    have hx0:0≤x0∧x0≤5:=by rw [e0];exact rt_client tk _ (by have h_:=HB.out;unfold shB at h_;exact h_)
    clear e0 e2 e3 e4 e5 e6 e7 ea eb ec HS HB HK HW
    have q12_:=TC.at 0 rfl
    have q13_:=TC.at 1 rfl
    have q14_:=TC.at 2 rfl
    have q15_:=TC.at 3 rfl
    have q16_:=TC.at 4 rfl
    have q17_:=TC.at 5 rfl
    have q18_:=TC.at 6 rfl
    have q19_:=TC.at 7 rfl
    have q20_:=KC.at 0 rfl
    have q21_:=KC.at 1 rfl
    have q22_:=KC.at 2 rfl
    have q23_:=KC.at 3 rfl
    have q24_:=KC.at 4 rfl
    have q25_:=KC.at 5 rfl
    have q26_:=KC.at 6 rfl
    have q27_:=KC.at 7 rfl
    have q28_:=QC.at 3 rfl
    go_wp2_with fail
    refine (check_is c realm now fresh x0 x1 x2 x3 x4 x5 pa P.length pc va V.length vc au _ hau hn (by omega)).mono ?_
    rintro en w7 ⟨rfl,hb⟩
    replace TC:=TC.later hb TC.lt
    replace QC:=QC.later hb QC.lt
    replace UC:=UC.later hb UC.lt
    replace RC:=RC.later hb RC.lt
    replace KC:=KC.later hb KC.lt
    replace RP:=RP.later hb
    replace RV:=RV.later hb
    replace BC:=BC.trans (hb.mono BC.size)
    clear hb
    clear q12_ q13_ q14_ q15_ q16_ q17_ q18_ q19_ q20_ q21_ q22_ q23_ q24_ q25_ q26_ q27_ q28_
    by_cases h1:ckC c.k now x0 x2 x5 P.length au=0
    ·rw [if_pos h1] at HA
     rw [h1]
     rw [show erC 0=.nilIface from rfl]
     have HT:=impl_atom ⟨#[]⟩
     have hE:=rfl (a:=atomT ⟨#[]⟩)
     clear hE
     go_wp2_with fail
     replace TC:=TC.drew
     replace QC:=QC.drew
     replace UC:=UC.drew
     replace RC:=RC.drew
     replace KC:=KC.drew
     replace BC:=BC.drew
     replace RP:=RP.drew
     replace RV:=RV.drew
     refine wp_region_held_drew (S:=(fun Vw=>Blk (w.heap.size+1) [I target,I nonce,.string tk,.string au,.string rs,.string ev] Vw)) (by kernel_rfl) QC (fun hH=>?_)
     refine tK 0 48 rfl _ hH (by intro w' h;have q5:=h.at 5 rfl;go_simp;try with_reducible rfl) ?_
     try simp only [Act.put,pa,pb,pc]
     refine tK 1 49 rfl _ hH (by intro w' h;have q5:=h.at 5 rfl;go_simp;try with_reducible rfl) ?_
     try simp only [Act.put,pa,pb,pc]
     refine wpAnyH_ready (rs:=[2]) (by kernel_rfl) (by simp) ?_
     refine AllReadyH.cons (i:=2) rfl (fun K hK=>?_) AllReadyH.nil
     go_simp
     refine (HT _ (by show 0≤1048576;omega)).mono ?_
     rintro en w8 ⟨rfl,hb⟩
     replace TC:=TC.later hb TC.lt
     replace QC:=QC.later hb QC.lt
     replace UC:=UC.later hb UC.lt
     replace RC:=RC.later hb RC.lt
     replace KC:=KC.later hb KC.lt
     replace RP:=RP.later hb
     replace RV:=RV.later hb
     replace BC:=BC.trans (hb.mono BC.size)
     clear hb
     go_wp2_with fail
     refine hK.out _ _ QC (fun hJ=>?_)
     clear hK K hH
     have hH:=hJ
     clear hJ
     try simp only [Act.put,pa,pb,pc]
     generalize hat:atomT ⟨#[]⟩=at0 at HA hH ⊢
     by_cases he:ev=at0
     ·rw [if_pos he] at HA
      subst he
      refine tK 3 51 rfl _ hH (by intro w' h;have q5:=h.at 5 rfl;go_simp;try with_reducible rfl) ?_
      try simp only [Act.put,pa,pb,pc]
      refine wpAnyH_done (by kernel_rfl) ?_ _
      have zlo:Hid (w.heap.size+3≤w.heap.size+3):=Nat.le_refl _
      have q29_:=TC.at 0 rfl
      have q30_:=TC.at 1 rfl
      have q31_:=TC.at 2 rfl
      have q32_:=TC.at 3 rfl
      have q33_:=TC.at 4 rfl
      have q34_:=TC.at 5 rfl
      have q35_:=TC.at 6 rfl
      have q36_:=TC.at 7 rfl
      have q37_:=QC.at 0 rfl
      have q38_:=QC.at 1 rfl
      have q39_:=QC.at 2 rfl
      have q40_:=QC.at 3 rfl
      have q41_:=QC.at 4 rfl
      have q42_:=QC.at 5 rfl
      have q43_:=KC.at 0 rfl
      have q44_:=KC.at 1 rfl
      have q45_:=KC.at 2 rfl
      have q46_:=KC.at 3 rfl
      have q47_:=KC.at 4 rfl
      have q48_:=KC.at 5 rfl
      have q49_:=KC.at 6 rfl
      have q50_:=KC.at 7 rfl
      have q51_:=RC.at 0 rfl
      have q52_:=RC.at 1 rfl
      have q53_:=RC.at 2 rfl
      go_wp2_with fail
      refine (handOn_is c realm now fresh target nonce tk au rs ev x0 x1 x2 x3 x4 x5 pa P pc va V vc wa wb we (w.heap.size+3) _ (C.later BC) K hr ht RP RV lP lV).mono ?_
      rintro en w9 ⟨hG,hb⟩
      replace TC:=TC.later hb TC.lt
      replace QC:=QC.later hb QC.lt
      replace UC:=UC.later hb UC.lt
      replace RC:=RC.later hb RC.lt
      replace KC:=KC.later hb KC.lt
      replace BC:=BC.trans (hb.mono BC.size)
      clear hb RP RV
      clear q29_ q30_ q31_ q32_ q33_ q34_ q35_ q36_ q37_ q38_ q39_ q40_ q41_ q42_ q43_ q44_ q45_ q46_ q47_ q48_ q49_ q50_ q51_ q52_ q53_
      cases hgr:hoG c realm fresh target nonce x0 x2 x3 x4 x5 wa wb we P V with
      | error code =>
       rw [hgr] at hG
       obtain rfl:en=_:=hG
       have HR:Hid (askG c realm now fresh target nonce tk au rs ev=.error code):=by show _=_;rw [HA.out,hgr]
       have FU:=UC.sets [I 0,I 0,I 0,I 0,I 0,I 0,.slice none 0 0,.slice none 0 0,I 0,I 0,I 0,I 0,I 0,I 0,I 0,I 0,I 0,I 0,I 0,I 0,I 0,I 0] rfl
       have FB:=below_sets (m:=w.heap.size) (g:=(w.heap.size+1+1)) (by omega) [I 0,I 0,I 0,I 0,I 0,I 0,.slice none 0 0,.slice none 0 0,I 0,I 0,I 0,I 0,I 0,I 0,I 0,I 0,I 0,I 0,I 0,I 0,I 0,I 0] 0 _ BC
       go_wp2_with (refine wpList_stB 73 _ _ (w.heap.size+1+1) 0 _ [I 0,I 0,I 0,I 0,I 0,I 0,.slice none 0 0,.slice none 0 0,I 0,I 0,I 0,I 0,I 0,I 0,I 0,I 0,I 0,I 0,I 0,I 0,I 0,I 0] ie hie UC (by rw [hsz];rfl) (by simp) rfl rfl rfl rfl rfl ?_;try simp only [Act.put])
       exact bodyPost_ret (res_B2 rfl _ _ (w.heap.size+1+1) _ (refV code) ie hie ag73 FU (by rw [hsz];rfl) rfl rfl) rfl ⟨by rw [HR.out];exact rfl,FB⟩
      | ok gd =>
       rw [hgr] at hG
       obtain ⟨pa9,pc9,va9,vc9,rfl,R1,R2,l1,l2,i9⟩:=hG
       have HR:Hid (askG c realm now fresh target nonce tk au rs ev=.ok gd):=by show _=_;rw [HA.out,hgr]
       have FU:=UC.sets [I gd.cl,I gd.sv,I gd.key,I gd.a,I gd.b,I gd.e,.slice pa9 gd.P.length pc9,.slice va9 gd.V.length vc9,I gd.fk,I gd.bk,I gd.nonce,I gd.kind,I 0,I gd.by',I 0,I 0,I 0,I gd.par,I gd.ev,I 0,I 0,I 0] rfl
       have FB:=below_sets (m:=w.heap.size) (g:=(w.heap.size+1+1)) (by omega) [I gd.cl,I gd.sv,I gd.key,I gd.a,I gd.b,I gd.e,.slice pa9 gd.P.length pc9,.slice va9 gd.V.length vc9,I gd.fk,I gd.bk,I gd.nonce,I gd.kind,I 0,I gd.by',I 0,I 0,I 0,I gd.par,I gd.ev,I 0,I 0,I 0] 0 _ BC
       replace R1:=RF.sets (q:=(w.heap.size+1+1)) (by have:=zlo.out;omega) [I gd.cl,I gd.sv,I gd.key,I gd.a,I gd.b,I gd.e,.slice pa9 gd.P.length pc9,.slice va9 gd.V.length vc9,I gd.fk,I gd.bk,I gd.nonce,I gd.kind,I 0,I gd.by',I 0,I 0,I 0,I gd.par,I gd.ev,I 0,I 0,I 0] 0 _ R1
       replace R2:=RF.sets (q:=(w.heap.size+1+1)) (by have:=zlo.out;omega) [I gd.cl,I gd.sv,I gd.key,I gd.a,I gd.b,I gd.e,.slice pa9 gd.P.length pc9,.slice va9 gd.V.length vc9,I gd.fk,I gd.bk,I gd.nonce,I gd.kind,I 0,I gd.by',I 0,I 0,I 0,I gd.par,I gd.ev,I 0,I 0,I 0] 0 _ R2
       go_wp2_with (refine wpList_stB 73 _ _ (w.heap.size+1+1) 0 _ [I gd.cl,I gd.sv,I gd.key,I gd.a,I gd.b,I gd.e,.slice pa9 gd.P.length pc9,.slice va9 gd.V.length vc9,I gd.fk,I gd.bk,I gd.nonce,I gd.kind,I 0,I gd.by',I 0,I 0,I 0,I gd.par,I gd.ev,I 0,I 0,I 0] ie hie UC (by rw [hsz];rfl) (by simp) rfl rfl rfl rfl rfl ?_;try simp only [Act.put])
       exact bodyPost_ret (res_B2 rfl _ _ (w.heap.size+1+1) _ .nilIface ie hie ag73 FU (by rw [hsz];rfl) rfl rfl) rfl ⟨by rw [HR.out];exact ⟨pa9,pc9,va9,vc9,rfl,R1.mono (by have:=zlo.out;omega),R2.mono (by have:=zlo.out;omega),l1,l2,i9⟩,FB⟩
     ·rw [if_neg he] at HA
      have he2:¬ at0=ev:=fun h=>he h.symm
      refine tK 3 51 rfl (.bool true) hH ?_ ?_
      ·intro w' hSw;go_simp;(intro h_;rw [ByteArray.toList_eq,ByteArray.toList_eq] at h_;exact he (ByteArray.ext (Array.toList_inj.1 h_)))
      try simp only [Act.put,pa,pb,pc]
      refine wpAnyH_done (by kernel_rfl) ?_ _
      have zlo:Hid (w.heap.size+3≤w8.heap.size):=UC.lt
      have q29_:=TC.at 0 rfl
      have q30_:=TC.at 1 rfl
      have q31_:=TC.at 2 rfl
      have q32_:=TC.at 3 rfl
      have q33_:=TC.at 4 rfl
      have q34_:=TC.at 5 rfl
      have q35_:=TC.at 6 rfl
      have q36_:=TC.at 7 rfl
      have q37_:=QC.at 0 rfl
      have q38_:=QC.at 1 rfl
      have q39_:=QC.at 2 rfl
      have q40_:=QC.at 3 rfl
      have q41_:=QC.at 4 rfl
      have q42_:=QC.at 5 rfl
      have q43_:=KC.at 0 rfl
      have q44_:=KC.at 1 rfl
      have q45_:=KC.at 2 rfl
      have q46_:=KC.at 3 rfl
      have q47_:=KC.at 4 rfl
      have q48_:=KC.at 5 rfl
      have q49_:=KC.at 6 rfl
      have q50_:=KC.at 7 rfl
      have q51_:=RC.at 0 rfl
      have q52_:=RC.at 1 rfl
      have q53_:=RC.at 2 rfl
      go_wp2_with fail
      refine (delegate_is c realm now fresh target nonce tk au rs ev x0 x1 x2 x3 x4 x5 pa P.length pc va V.length vc wa wb we _ (C.later BC) K hr ht hx0 hev).mono ?_
      rintro en w9 ⟨hG,hb⟩
      replace TC:=TC.later hb TC.lt
      replace QC:=QC.later hb QC.lt
      replace UC:=UC.later hb UC.lt
      replace RC:=RC.later hb RC.lt
      replace KC:=KC.later hb KC.lt
      replace BC:=BC.trans (hb.mono BC.size)
      clear hb RP RV
      clear q29_ q30_ q31_ q32_ q33_ q34_ q35_ q36_ q37_ q38_ q39_ q40_ q41_ q42_ q43_ q44_ q45_ q46_ q47_ q48_ q49_ q50_ q51_ q52_ q53_
      cases hgr:dgG c realm now fresh target nonce x0 x2 wa wb we ev with
      | error code =>
       rw [hgr] at hG
       obtain rfl:en=_:=hG
       have HR:Hid (askG c realm now fresh target nonce tk au rs ev=.error code):=by show _=_;rw [HA.out,hgr]
       have FU:=UC.sets [I 0,I 0,I 0,I 0,I 0,I 0,.slice none 0 0,.slice none 0 0,I 0,I 0,I 0,I 0,I 0,I 0,I 0,I 0,I 0,I 0,I 0,I 0,I 0,I 0] rfl
       have FB:=below_sets (m:=w.heap.size) (g:=(w.heap.size+1+1)) (by omega) [I 0,I 0,I 0,I 0,I 0,I 0,.slice none 0 0,.slice none 0 0,I 0,I 0,I 0,I 0,I 0,I 0,I 0,I 0,I 0,I 0,I 0,I 0,I 0,I 0] 0 _ BC
       go_wp2_with (refine wpList_stB 73 _ _ (w.heap.size+1+1) 0 _ [I 0,I 0,I 0,I 0,I 0,I 0,.slice none 0 0,.slice none 0 0,I 0,I 0,I 0,I 0,I 0,I 0,I 0,I 0,I 0,I 0,I 0,I 0,I 0,I 0] ie hie UC (by rw [hsz];rfl) (by simp) rfl rfl rfl rfl rfl ?_;try simp only [Act.put])
       exact bodyPost_ret (res_B2 rfl _ _ (w.heap.size+1+1) _ (refV code) ie hie ag73 FU (by rw [hsz];rfl) rfl rfl) rfl ⟨by rw [HR.out];exact rfl,FB⟩
      | ok gd =>
       rw [hgr] at hG
       obtain ⟨pa9,pc9,va9,vc9,rfl,R1,R2,l1,l2,i9⟩:=hG
       have HR:Hid (askG c realm now fresh target nonce tk au rs ev=.ok gd):=by show _=_;rw [HA.out,hgr]
       have FU:=UC.sets [I gd.cl,I gd.sv,I gd.key,I gd.a,I gd.b,I gd.e,.slice pa9 gd.P.length pc9,.slice va9 gd.V.length vc9,I gd.fk,I gd.bk,I gd.nonce,I gd.kind,I 0,I gd.by',I 0,I 0,I 0,I gd.par,I gd.ev,I 0,I 0,I 0] rfl
       have FB:=below_sets (m:=w.heap.size) (g:=(w.heap.size+1+1)) (by omega) [I gd.cl,I gd.sv,I gd.key,I gd.a,I gd.b,I gd.e,.slice pa9 gd.P.length pc9,.slice va9 gd.V.length vc9,I gd.fk,I gd.bk,I gd.nonce,I gd.kind,I 0,I gd.by',I 0,I 0,I 0,I gd.par,I gd.ev,I 0,I 0,I 0] 0 _ BC
       replace R1:=RF.sets (q:=(w.heap.size+1+1)) (by have:=zlo.out;omega) [I gd.cl,I gd.sv,I gd.key,I gd.a,I gd.b,I gd.e,.slice pa9 gd.P.length pc9,.slice va9 gd.V.length vc9,I gd.fk,I gd.bk,I gd.nonce,I gd.kind,I 0,I gd.by',I 0,I 0,I 0,I gd.par,I gd.ev,I 0,I 0,I 0] 0 _ R1
       replace R2:=RF.sets (q:=(w.heap.size+1+1)) (by have:=zlo.out;omega) [I gd.cl,I gd.sv,I gd.key,I gd.a,I gd.b,I gd.e,.slice pa9 gd.P.length pc9,.slice va9 gd.V.length vc9,I gd.fk,I gd.bk,I gd.nonce,I gd.kind,I 0,I gd.by',I 0,I 0,I 0,I gd.par,I gd.ev,I 0,I 0,I 0] 0 _ R2
       go_wp2_with (refine wpList_stB 73 _ _ (w.heap.size+1+1) 0 _ [I gd.cl,I gd.sv,I gd.key,I gd.a,I gd.b,I gd.e,.slice pa9 gd.P.length pc9,.slice va9 gd.V.length vc9,I gd.fk,I gd.bk,I gd.nonce,I gd.kind,I 0,I gd.by',I 0,I 0,I 0,I gd.par,I gd.ev,I 0,I 0,I 0] ie hie UC (by rw [hsz];rfl) (by simp) rfl rfl rfl rfl rfl ?_;try simp only [Act.put])
       exact bodyPost_ret (res_B2 rfl _ _ (w.heap.size+1+1) _ .nilIface ie hie ag73 FU (by rw [hsz];rfl) rfl rfl) rfl ⟨by rw [HR.out];exact ⟨pa9,pc9,va9,vc9,rfl,R1.mono (by have:=zlo.out;omega),R2.mono (by have:=zlo.out;omega),l1,l2,i9⟩,FB⟩
    ·rw [if_neg h1] at HA
     have HR:=HA
     rw [show erC (ckC c.k now x0 x2 x5 P.length au)=refV (ckC c.k now x0 x2 x5 P.length au) from if_neg h1]
     generalize ckC c.k now x0 x2 x5 P.length au=code at HR h1 ⊢
     rw [show refV code=.iface 118 (.agg #[I code]) from rfl]
     have FU:=UC.sets [I 0,I 0,I 0,I 0,I 0,I 0,.slice none 0 0,.slice none 0 0,I 0,I 0,I 0,I 0,I 0,I 0,I 0,I 0,I 0,I 0,I 0,I 0,I 0,I 0] rfl
     have FB:=below_sets (m:=w.heap.size) (g:=(w.heap.size+1+1)) (by omega) [I 0,I 0,I 0,I 0,I 0,I 0,.slice none 0 0,.slice none 0 0,I 0,I 0,I 0,I 0,I 0,I 0,I 0,I 0,I 0,I 0,I 0,I 0,I 0,I 0] 0 _ BC
     go_wp2_with (refine wpList_stB 73 _ _ (w.heap.size+1+1) 0 _ [I 0,I 0,I 0,I 0,I 0,I 0,.slice none 0 0,.slice none 0 0,I 0,I 0,I 0,I 0,I 0,I 0,I 0,I 0,I 0,I 0,I 0,I 0,I 0,I 0] ie hie UC (by rw [hsz];rfl) (by simp) rfl rfl rfl rfl rfl ?_;try simp only [Act.put])
     exact bodyPost_ret (res_B2 rfl _ _ (w.heap.size+1+1) _ (refV code) ie hie ag73 FU (by rw [hsz];rfl) rfl rfl) rfl ⟨by rw [HR.out];exact rfl,FB⟩
 ·have HR:Hid (askG c realm now fresh target nonce tk au rs ev=.error 1):=by show _=_;unfold askG;rw [if_neg];rintro ⟨h,_⟩;exact h0 h
  rw [Bool.not_eq_true] at h0
  rw [h0]
  go_wp2_with fail
  refine (refuse_is 1 _).mono ?_
  rintro en wf ⟨rfl,hb⟩
  replace TC:=TC.later hb TC.lt
  replace QC:=QC.later hb QC.lt
  replace UC:=UC.later hb UC.lt
  replace RC:=RC.later hb RC.lt
  replace KC:=KC.later hb KC.lt
  replace RP:=RP.later hb
  replace RV:=RV.later hb
  replace BC:=BC.trans (hb.mono BC.size)
  clear hb
  have FU:=UC.sets [I 0,I 0,I 0,I 0,I 0,I 0,.slice none 0 0,.slice none 0 0,I 0,I 0,I 0,I 0,I 0,I 0,I 0,I 0,I 0,I 0,I 0,I 0,I 0,I 0] rfl
  have FB:=below_sets (m:=w.heap.size) (g:=(w.heap.size+1+1)) (by omega) [I 0,I 0,I 0,I 0,I 0,I 0,.slice none 0 0,.slice none 0 0,I 0,I 0,I 0,I 0,I 0,I 0,I 0,I 0,I 0,I 0,I 0,I 0,I 0,I 0] 0 _ BC
  go_wp2_with (refine wpList_stB 73 _ _ (w.heap.size+1+1) 0 _ [I 0,I 0,I 0,I 0,I 0,I 0,.slice none 0 0,.slice none 0 0,I 0,I 0,I 0,I 0,I 0,I 0,I 0,I 0,I 0,I 0,I 0,I 0,I 0,I 0] ie hie UC (by rw [hsz];rfl) (by simp) rfl rfl rfl rfl rfl ?_;try simp only [Act.put])
  exact bodyPost_ret (res_B2 rfl _ _ (w.heap.size+1+1) _ (refV 1) ie hie ag73 FU (by rw [hsz];rfl) rfl rfl) rfl ⟨by rw [HR.out];exact rfl,FB⟩
end Go.Proofs.YtcaieniddnhkbaaGreatDoor
