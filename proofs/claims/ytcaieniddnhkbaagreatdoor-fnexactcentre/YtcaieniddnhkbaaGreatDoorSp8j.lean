/- Chapter 8: what is asked of a centre, the model's walk. -/
import Derived.Test.YtcaieniddnhkbaaGreatDoorAb
import Derived.Test.YtcaieniddnhkbaaGreatDoorSp8i
import Derived.Test.YtcaieniddnhkbaaGreatDoorSp8h
import Derived.Test.YtcaieniddnhkbaaGreatDoorHop
set_option linter.unusedVariables false
set_option maxRecDepth 100000
namespace Go.Proofs.YtcaieniddnhkbaaGreatDoor
open Go Go.RowKit Own Var Term
set_option maxHeartbeats 12800000 in
theorem specAsk8_is (c:Cf) (realm now fresh target nonce:Int) (la:Option Addr) (lc:Nat) (tk au rs ev:ByteArray) (w:World) (C:CfAt c w) (K:CfOk c) (hcf:confB c=true) (hn:0≤now∧now≤100000) (hr:0≤realm∧realm≤2) (hrow:RowAt Value.string w la [tk,au,rs,ev]) (htk:tk.size≤1048576) (hau:au.size≤1048576) (hrs:rs.size≤1048576) (hev:ev.size≤1048576) :
  Calls Tryz.prog 37 #[c.val,I realm,I now,I fresh,I target,I nonce,.slice la 4 lc] w fun en w'=>en=.returned (toR realm (askG c realm now fresh target nonce tk au rs ev)).val∧Below w.heap.size w w':=by
 have KO:=K
 obtain ⟨it,hit,htz⟩:=info_tick
 obtain ⟨i3,hi3,hz3⟩:=info_rest
 obtain ⟨i1,hi1,hz1⟩:=info_int
 obtain ⟨ia,hia,haz⟩:=info_auth
 obtain ⟨ir,hir,hrz⟩:=info_reply
 obtain ⟨iv,hiv,hvz⟩:=info_ev
 obtain ⟨b,off,rfl,HS⟩:=S4.of hrow
 clear hrow
 obtain ⟨x0,x1,x2,x3,x4,x5,P,V,PH,f,sb,HSH_,hf,lP,lV,hx0,hPH_,HG_⟩:=ask_gen c realm now fresh target nonce tk au rs ev K hr htk
 have HG:Hid (askG c realm now fresh target nonce tk au rs ev=_):=HG_
 have HSH:Hid (∀ w,CfAt c w→_):=HSH_
 have hPH:Hid (PH=_):=hPH_
 clear HG_ HSH_ hPH_
 have BC:Below w.heap.size w ((w.alloc (.cells #[.slice c.ua c.U.length c.uc,.slice c.sa c.S.length c.sc,.slice c.la c.L.length c.lc,.slice c.xa c.X.length c.xc,I c.k] 27)).alloc (.cells #[I 0,.string ⟨#[]⟩,I 0,I 0,I 0,I 0,I 0,I 0,I 0,I 0,I 0,I 0,I 0] 35)):=((Below.refl _ _).alloc (by simp <;> omega) _).alloc (by simp <;> omega) _
 have TC:Blk w.heap.size [.slice c.ua c.U.length c.uc,.slice c.sa c.S.length c.sc,.slice c.la c.L.length c.lc,.slice c.xa c.X.length c.xc,I c.k] ((w.alloc (.cells #[.slice c.ua c.U.length c.uc,.slice c.sa c.S.length c.sc,.slice c.la c.L.length c.lc,.slice c.xa c.X.length c.xc,I c.k] 27)).alloc (.cells #[I 0,.string ⟨#[]⟩,I 0,I 0,I 0,I 0,I 0,I 0,I 0,I 0,I 0,I 0,I 0] 35)):=by have h_:=((Blk.new w #[.slice c.ua c.U.length c.uc,.slice c.sa c.S.length c.sc,.slice c.la c.L.length c.lc,.slice c.xa c.X.length c.xc,I c.k] 27).alloc (by simp <;> omega) (.cells #[I 0,.string ⟨#[]⟩,I 0,I 0,I 0,I 0,I 0,I 0,I 0,I 0,I 0,I 0,I 0] 35));simpa using h_
 have UC:Blk (w.heap.size+1) [I 0,.string ⟨#[]⟩,I 0,I 0,I 0,I 0,I 0,I 0,I 0,I 0,I 0,I 0,I 0] ((w.alloc (.cells #[.slice c.ua c.U.length c.uc,.slice c.sa c.S.length c.sc,.slice c.la c.L.length c.lc,.slice c.xa c.X.length c.xc,I c.k] 27)).alloc (.cells #[I 0,.string ⟨#[]⟩,I 0,I 0,I 0,I 0,I 0,I 0,I 0,I 0,I 0,I 0,I 0] 35)):=by have h_:=(Blk.new (w.alloc (.cells #[.slice c.ua c.U.length c.uc,.slice c.sa c.S.length c.sc,.slice c.la c.L.length c.lc,.slice c.xa c.X.length c.xc,I c.k] 27)) #[I 0,.string ⟨#[]⟩,I 0,I 0,I 0,I 0,I 0,I 0,I 0,I 0,I 0,I 0,I 0] 35);simpa using h_
 have y2:=(HS.later BC).c2
 go_enter Tryz.func37,Tryz.ntmps37
 go_wp2_with fail
 refine (specRead_is rs _ hrs).mono ?_
 rintro en w2 ⟨rfl,hb⟩
 replace TC:=TC.later hb TC.lt
 replace UC:=UC.later hb UC.lt
 replace BC:=BC.trans (hb.mono BC.size)
 clear hb
 clear y2
 generalize hwa:rdA (numsR rs).1=wa at HG ⊢
 generalize hwb:rdB (numsR rs).1=wb at HG ⊢
 generalize hwe:rdC (numsR rs).1=we at HG ⊢
 generalize hkk:rdK (numsR rs).1=kk at HG ⊢
 clear hwa hwb hwe hkk
 have zR:Hid (w.heap.size+2≤w2.heap.size):=UC.lt
 have XA_:Below w2.heap.size w2 (w2.alloc (.cells #[I wa,I wb,I we] 31)):=(Below.refl _ _).alloc (Nat.le_refl _) _
 have RC:Blk w2.heap.size [I wa,I wb,I we] (w2.alloc (.cells #[I wa,I wb,I we] 31)):=Blk.new _ _ _
 replace TC:=TC.later XA_ TC.lt
 replace UC:=UC.later XA_ UC.lt
 replace BC:=BC.trans (XA_.mono BC.size)
 clear XA_
 obtain ⟨W3,hW3⟩:∃ Wz,(w2.alloc (.cells #[I wa,I wb,I we] 31))=Wz:=⟨_,rfl⟩
 rw [hW3] at TC UC RC BC
 have zR3:Hid (w2.heap.size < W3.heap.size):=RC.lt
 go_wp2_with (first | (rw [hW3]))
 clear hW3
 refine Code.wp_mono (Q:=(fun ex a' w'=>∃ (nb:Nat) (ua:Option Addr) (uc:Nat) (va:Option Addr) (vc:Nat),ex=.normal∧a'=({ tmps:=#[c.val,I realm,I now,I fresh,I target,I nonce,.slice (some ⟨b,off,none⟩) 4 lc,.pointer (some ⟨w.heap.size,0,none⟩),undef,undef,undef,undef,undef,undef,.pointer (some ⟨w.heap.size+1,0,none⟩),.pointer (some ⟨w2.heap.size,0,none⟩),.bool kk,.pointer (some ⟨nb,0,none⟩),I f,.bool sb,undef,undef,undef,undef,undef,undef,undef,undef,undef,undef,undef,.tuple #[rv wa wb we,.bool kk],.slice (some ⟨b,off,none⟩) 4 lc,.pointer (some ⟨b,off+2,none⟩),.string rs,.tuple #[rv wa wb we,.bool kk],rv wa wb we,.bool kk,.tuple #[.agg #[I x0,I x1,I x2,I x3,I x4,I x5,.slice ua P.length uc,.slice va V.length vc],I f,.bool sb],.agg #[.slice c.ua c.U.length c.uc,.slice c.sa c.S.length c.sc,.slice c.la c.L.length c.lc,.slice c.xa c.X.length c.xc,I c.k],I realm,.slice (some ⟨b,off,none⟩) 4 lc,.pointer (some ⟨b,off,none⟩),.string tk,.tuple #[.agg #[I x0,I x1,I x2,I x3,I x4,I x5,.slice ua P.length uc,.slice va V.length vc],I f,.bool sb],.agg #[I x0,I x1,I x2,I x3,I x4,I x5,.slice ua P.length uc,.slice va V.length vc],I f,.bool sb,undef,undef,undef,undef,undef,undef,undef,undef,undef,undef,undef,undef,undef,undef,undef,undef,undef,undef,undef,undef,undef,undef,undef,undef,undef,undef,undef,undef,undef,undef,undef,undef,undef,undef,undef,undef,undef,undef,undef,undef,undef,undef,undef,undef,undef,undef,undef,undef,undef,undef,undef,undef,undef,undef,undef,undef,undef,undef,undef,undef,undef,undef,undef,undef,undef,undef,undef,undef,undef,undef,undef,undef,undef,undef,undef,undef,undef,undef,undef,undef,undef,undef,undef,undef,undef,undef,undef,undef,undef,undef,undef,undef,undef,undef,undef,undef,undef,undef,undef,undef,undef,undef,undef,undef,undef,undef,undef,undef,undef,undef,undef,undef,undef,undef,undef,undef,undef,undef,undef,undef,undef,undef,undef,undef,undef,undef,undef,undef,undef,undef,undef,undef,undef,undef,undef,undef,undef,undef,undef,undef,undef,undef,undef,undef,undef,undef,undef,undef,undef,undef,undef,undef,undef,undef,undef,undef,undef,undef,undef,undef,undef,undef,undef,undef,undef,undef,undef,undef,undef,undef,undef,undef,undef,undef,undef,undef],defers:=[] })∧Below W3.heap.size W3 w'∧Blk nb [I x0,I x1,I x2,I x3,I x4,I x5,.slice ua P.length uc,.slice va V.length vc] w'∧W3.heap.size≤nb∧RowAt (Value.int .i64) w' ua P∧RowAt (Value.int .i64) w' va V)) ?imp2 ?reg2
 case reg2 =>
  have BX:=(Below.refl W3.heap.size W3).drew
  refine wp_region_held_drew (S:=(fun Vw=>Blk w.heap.size [.slice c.ua c.U.length c.uc,.slice c.sa c.S.length c.sc,.slice c.la c.L.length c.lc,.slice c.xa c.X.length c.xc,I c.k] Vw∧S4 b off tk au rs ev Vw)) (by kernel_rfl) ⟨TC.later BX TC.lt,(HS.later BC).later BX⟩ (fun hH=>?_)
  refine tK 0 39 rfl _ hH (by intro w' h;have d0:=h.1.e5;have y0:=h.2.c0;go_simp;try with_reducible rfl) ?_ (hQ:=fun _ _ _ h=>by obtain ⟨_,_,_,_,_,h,_⟩:=h;cases h)
  try simp only [Act.put,pa,pb,pc]
  refine tK 1 40 rfl _ hH (by intro w' h;have d0:=h.1.e5;have y0:=h.2.c0;go_simp;try with_reducible rfl) ?_ (hQ:=fun _ _ _ h=>by obtain ⟨_,_,_,_,_,h,_⟩:=h;cases h)
  try simp only [Act.put,pa,pb,pc]
  refine tK 2 41 rfl _ hH (by intro w' h;have d0:=h.1.e5;have y0:=h.2.c0;go_simp;try with_reducible rfl) ?_ (hQ:=fun _ _ _ h=>by obtain ⟨_,_,_,_,_,h,_⟩:=h;cases h)
  try simp only [Act.put,pa,pb,pc]
  refine tK 3 42 rfl _ hH (by intro w' h;have d0:=h.1.e5;have y0:=h.2.c0;go_simp;try with_reducible rfl) ?_ (hQ:=fun _ _ _ h=>by obtain ⟨_,_,_,_,_,h,_⟩:=h;cases h)
  try simp only [Act.put,pa,pb,pc]
  refine tK 4 43 rfl _ hH (by intro w' h;have d0:=h.1.e5;have y0:=h.2.c0;go_simp;try with_reducible rfl) ?_ (hQ:=fun _ _ _ h=>by obtain ⟨_,_,_,_,_,h,_⟩:=h;cases h)
  try simp only [Act.put,pa,pb,pc]
  refine wpAnyH_ready (rs:=[5,10]) (by kernel_rfl) (by simp) ?_
  refine AllReadyH.cons (i:=5) rfl (fun K hK=>?_) (AllReadyH.cons (i:=10) rfl (fun K hK=>?_) AllReadyH.nil)
  ·go_simp
   refine (HSH.out _ ((C.later BC).later BX)).mono ?_
   rintro en w4 ⟨ua,uc,va,vc,rfl,RP,RV,hb⟩
   replace BX:=BX.trans (hb.mono BX.size)
   have BN:=Below.refl w4.heap.size w4
   clear hb
   go_wp2_with fail
   refine hK.out _ _ ⟨TC.later BX TC.lt,(HS.later BC).later BX⟩ (fun hJ=>?_)
   clear hK K hH
   have hH:=hJ
   clear hJ
   try simp only [Act.put,pa,pb,pc]
   refine tK 6 38 rfl _ hH (by intro w' h;have d0:=h.1.e5;have y0:=h.2.c0;go_simp;try with_reducible rfl) ?_ (hQ:=fun _ _ _ h=>by obtain ⟨_,_,_,_,_,h,_⟩:=h;cases h)
   try simp only [Act.put,pa,pb,pc]
   refine tK 7 45 rfl _ hH (by intro w' h;have d0:=h.1.e5;have y0:=h.2.c0;go_simp;try with_reducible rfl) ?_ (hQ:=fun _ _ _ h=>by obtain ⟨_,_,_,_,_,h,_⟩:=h;cases h)
   try simp only [Act.put,pa,pb,pc]
   refine tK 8 46 rfl _ hH (by intro w' h;have d0:=h.1.e5;have y0:=h.2.c0;go_simp;try with_reducible rfl) ?_ (hQ:=fun _ _ _ h=>by obtain ⟨_,_,_,_,_,h,_⟩:=h;cases h)
   try simp only [Act.put,pa,pb,pc]
   refine tK 9 47 rfl _ hH (by intro w' h;have d0:=h.1.e5;have y0:=h.2.c0;go_simp;try with_reducible rfl) ?_ (hQ:=fun _ _ _ h=>by obtain ⟨_,_,_,_,_,h,_⟩:=h;cases h)
   try simp only [Act.put,pa,pb,pc]
   refine wpAnyH_ready (rs:=[10]) (by kernel_rfl) (by simp) ?_
   refine AllReadyH.cons (i:=10) rfl (fun K hK=>?_) AllReadyH.nil
   obtain ⟨Va,hVa⟩:∃ Wz,(w4).alloc (.cells #[I 0,I 0,I 0,I 0,I 0,I 0,.slice none 0 0,.slice none 0 0] 43)=Wz:=⟨_,rfl⟩
   have XA:Below (w4).heap.size (w4) Va:=by rw [← hVa];exact (Below.refl _ _).alloc (Nat.le_refl _) _
   have zb:W3.heap.size≤(w4).heap.size:=BX.size
   have EC:Blk (w4).heap.size [I 0,I 0,I 0,I 0,I 0,I 0,.slice none 0 0,.slice none 0 0] Va:=by rw [← hVa];exact Blk.new _ _ _
   replace BX:=BX.trans (XA.mono BX.size)
   replace BN:=BN.trans (XA.mono BN.size)
   clear XA
   go_simp
   try rw [hVa]
   refine hK.out _ _ (by (try rw [hVa]);exact ⟨TC.later BX TC.lt,(HS.later BC).later BX⟩) (fun hJ=>?_)
   clear hK K hH
   have hH:=hJ
   clear hJ
   try simp only [Act.put,pa,pb,pc]
   try rw [hVa]
   clear hVa
   replace EC:Blk (w4).heap.size _ _:=EC
   replace zb:W3.heap.size≤(w4).heap.size:=zb
   obtain ⟨nb,hnb⟩:∃ n,(w4).heap.size=n:=⟨_,rfl⟩
   rw [hnb] at EC
   replace zb:W3.heap.size≤nb:=by rw [← hnb];exact zb
   have BX_:=below_sets (g:=nb) zb [I x0,I x1,I x2,I x3,I x4,I x5,.slice ua P.length uc,.slice va V.length vc] 0 _ BX
   have EC_:=EC.sets [I x0,I x1,I x2,I x3,I x4,I x5,.slice ua P.length uc,.slice va V.length vc] rfl
   have BN_:=below_sets (g:=nb) (by rw [← hnb];exact Nat.le_refl _) [I x0,I x1,I x2,I x3,I x4,I x5,.slice ua P.length uc,.slice va V.length vc] 0 _ BN
   have RP_:=RP.row.later BN_
   have RV_:=RV.row.later BN_
   try simp only [hnb]
   refine wpAnyH_ready (rs:=[11]) (by kernel_rfl) (by simp) ?_
   refine AllReadyH.cons (i:=11) rfl (fun K hK=>?_) AllReadyH.nil
   refine stepB2 43 _ _ nb 0 _ [I x0,I x1,I x2,I x3,I x4,I x5,.slice ua P.length uc,.slice va V.length vc] it hit EC (by rw [htz];rfl) (by simp) rfl rfl rfl rfl rfl rfl ?_
   obtain ⟨VE,hVE⟩:∃ Wz,(Va).setCells nb 0 [I x0,I x1,I x2,I x3,I x4,I x5,.slice ua P.length uc,.slice va V.length vc]=Wz:=⟨_,rfl⟩
   rw [hVE] at BX_ EC_ RP_ RV_ ⊢
   clear hVE BX EC RP RV BN
   have BX:=BX_
   have EC:=EC_
   have RP:=RP_
   have RV:=RV_
   clear BX_ EC_ RP_ RV_
   refine hK.out _ _ ⟨TC.later BX TC.lt,(HS.later BC).later BX⟩ (fun hJ=>?_)
   clear hK K hH
   have hH:=hJ
   clear hJ
   try simp only [Act.put,pa,pb,pc]
   refine tK 12 18 rfl _ hH (by intro w' h;have d0:=h.1.e5;have y0:=h.2.c0;go_simp;try with_reducible rfl) ?_ (hQ:=fun _ _ _ h=>by obtain ⟨_,_,_,_,_,h,_⟩:=h;cases h)
   try simp only [Act.put,pa,pb,pc]
   refine tK 13 19 rfl _ hH (by intro w' h;have d0:=h.1.e5;have y0:=h.2.c0;go_simp;try with_reducible rfl) ?_ (hQ:=fun _ _ _ h=>by obtain ⟨_,_,_,_,_,h,_⟩:=h;cases h)
   try simp only [Act.put,pa,pb,pc]
   refine wpAnyH_done (by kernel_rfl) ?_ _
   subst hnb
   exact ⟨_,ua,uc,va,vc,rfl,rfl,BX,EC,zb,RP,RV⟩
  ·obtain ⟨Va,hVa⟩:∃ Wz,(W3.drew).alloc (.cells #[I 0,I 0,I 0,I 0,I 0,I 0,.slice none 0 0,.slice none 0 0] 43)=Wz:=⟨_,rfl⟩
   have XA:Below (W3.drew).heap.size (W3.drew) Va:=by rw [← hVa];exact (Below.refl _ _).alloc (Nat.le_refl _) _
   have zb:W3.heap.size≤(W3.drew).heap.size:=BX.size
   have EC:Blk (W3.drew).heap.size [I 0,I 0,I 0,I 0,I 0,I 0,.slice none 0 0,.slice none 0 0] Va:=by rw [← hVa];exact Blk.new _ _ _
   replace BX:=BX.trans (XA.mono BX.size)
   clear XA
   go_simp
   try rw [hVa]
   refine hK.out _ _ (by (try rw [hVa]);exact ⟨TC.later BX TC.lt,(HS.later BC).later BX⟩) (fun hJ=>?_)
   clear hK K hH
   have hH:=hJ
   clear hJ
   try simp only [Act.put,pa,pb,pc]
   try rw [hVa]
   clear hVa
   have EClt:=EC.lt
   refine wpAnyH_ready (rs:=[5]) (by kernel_rfl) (by simp) ?_
   refine AllReadyH.cons (i:=5) rfl (fun K hK=>?_) AllReadyH.nil
   go_simp
   refine (HSH.out _ ((C.later BC).later BX)).mono ?_
   rintro en w4 ⟨ua,uc,va,vc,rfl,RP,RV,hb⟩
   replace BX:=BX.trans (hb.mono BX.size)
   replace EC:=EC.later hb EC.lt
   have BN:=Below.refl w4.heap.size w4
   clear hb
   go_wp2_with fail
   refine hK.out _ _ ⟨TC.later BX TC.lt,(HS.later BC).later BX⟩ (fun hJ=>?_)
   clear hK K hH
   have hH:=hJ
   clear hJ
   try simp only [Act.put,pa,pb,pc]
   refine tK 6 38 rfl _ hH (by intro w' h;have d0:=h.1.e5;have y0:=h.2.c0;go_simp;try with_reducible rfl) ?_ (hQ:=fun _ _ _ h=>by obtain ⟨_,_,_,_,_,h,_⟩:=h;cases h)
   try simp only [Act.put,pa,pb,pc]
   refine tK 7 45 rfl _ hH (by intro w' h;have d0:=h.1.e5;have y0:=h.2.c0;go_simp;try with_reducible rfl) ?_ (hQ:=fun _ _ _ h=>by obtain ⟨_,_,_,_,_,h,_⟩:=h;cases h)
   try simp only [Act.put,pa,pb,pc]
   refine tK 8 46 rfl _ hH (by intro w' h;have d0:=h.1.e5;have y0:=h.2.c0;go_simp;try with_reducible rfl) ?_ (hQ:=fun _ _ _ h=>by obtain ⟨_,_,_,_,_,h,_⟩:=h;cases h)
   try simp only [Act.put,pa,pb,pc]
   refine tK 9 47 rfl _ hH (by intro w' h;have d0:=h.1.e5;have y0:=h.2.c0;go_simp;try with_reducible rfl) ?_ (hQ:=fun _ _ _ h=>by obtain ⟨_,_,_,_,_,h,_⟩:=h;cases h)
   try simp only [Act.put,pa,pb,pc]
   replace EC:Blk (W3).heap.size _ _:=EC
   replace zb:W3.heap.size≤(W3).heap.size:=zb
   obtain ⟨nb,hnb⟩:∃ n,(W3).heap.size=n:=⟨_,rfl⟩
   rw [hnb] at EC
   replace zb:W3.heap.size≤nb:=by rw [← hnb];exact zb
   have BX_:=below_sets (g:=nb) zb [I x0,I x1,I x2,I x3,I x4,I x5,.slice ua P.length uc,.slice va V.length vc] 0 _ BX
   have EC_:=EC.sets [I x0,I x1,I x2,I x3,I x4,I x5,.slice ua P.length uc,.slice va V.length vc] rfl
   have hlo:nb < Va.heap.size:=by rw [← hnb];exact EClt
   have RP_:=(RF.sets (q:=nb) hlo [I x0,I x1,I x2,I x3,I x4,I x5,.slice ua P.length uc,.slice va V.length vc] 0 _ RP).row
   have RV_:=(RF.sets (q:=nb) hlo [I x0,I x1,I x2,I x3,I x4,I x5,.slice ua P.length uc,.slice va V.length vc] 0 _ RV).row
   try simp only [hnb]
   refine wpAnyH_ready (rs:=[11]) (by kernel_rfl) (by simp) ?_
   refine AllReadyH.cons (i:=11) rfl (fun K hK=>?_) AllReadyH.nil
   refine stepB2 43 _ _ nb 0 _ [I x0,I x1,I x2,I x3,I x4,I x5,.slice ua P.length uc,.slice va V.length vc] it hit EC (by rw [htz];rfl) (by simp) rfl rfl rfl rfl rfl rfl ?_
   obtain ⟨VE,hVE⟩:∃ Wz,(w4).setCells nb 0 [I x0,I x1,I x2,I x3,I x4,I x5,.slice ua P.length uc,.slice va V.length vc]=Wz:=⟨_,rfl⟩
   rw [hVE] at BX_ EC_ RP_ RV_ ⊢
   clear hVE BX EC RP RV BN
   have BX:=BX_
   have EC:=EC_
   have RP:=RP_
   have RV:=RV_
   clear BX_ EC_ RP_ RV_
   refine hK.out _ _ ⟨TC.later BX TC.lt,(HS.later BC).later BX⟩ (fun hJ=>?_)
   clear hK K hH
   have hH:=hJ
   clear hJ
   try simp only [Act.put,pa,pb,pc]
   refine tK 12 18 rfl _ hH (by intro w' h;have d0:=h.1.e5;have y0:=h.2.c0;go_simp;try with_reducible rfl) ?_ (hQ:=fun _ _ _ h=>by obtain ⟨_,_,_,_,_,h,_⟩:=h;cases h)
   try simp only [Act.put,pa,pb,pc]
   refine tK 13 19 rfl _ hH (by intro w' h;have d0:=h.1.e5;have y0:=h.2.c0;go_simp;try with_reducible rfl) ?_ (hQ:=fun _ _ _ h=>by obtain ⟨_,_,_,_,_,h,_⟩:=h;cases h)
   try simp only [Act.put,pa,pb,pc]
   refine wpAnyH_done (by kernel_rfl) ?_ _
   subst hnb
   exact ⟨_,ua,uc,va,vc,rfl,rfl,BX,EC,zb,RP,RV⟩
 case imp2 =>
  rintro ex a' w4 ⟨nb,ua,uc,va,vc,rfl,rfl,BX,KC,zb,RP,RV⟩
  replace TC:=TC.later BX TC.lt
  replace UC:=UC.later BX UC.lt
  replace RC:=RC.later BX RC.lt
  replace BC:=BC.trans (BX.mono BC.size)
  have zK:Hid (w2.heap.size < nb):=Nat.lt_of_lt_of_le zR3.out zb
  clear BX zb zR3 HSH
  by_cases h0:btw target 0 2=true
  ·have ht:=(btw_iff _ _ _).1 h0
   have g1:decide (target < 0)=false:=decide_eq_false (by omega)
   have g2:decide (3≤target)=false:=decide_eq_false (by omega)
   cases kk with
   | false =>
    have HR:Hid ((toR realm (askG c realm now fresh target nonce tk au rs ev)).val=(failR 1).val):=by show _=_;rw [show askG c realm now fresh target nonce tk au rs ev=.error 1 from by rw [HG.out,if_neg (fun h=>by cases h.2.1)]];rfl
    go_wp2_with fail
    refine (spec_fail 1 _).mono ?_
    rintro en wf ⟨rfl,hb⟩
    replace UC:=UC.later hb UC.lt
    replace BC:=BC.trans (hb.mono BC.size)
    clear hb
    have FU:=UC.sets [I 1,.string ⟨#[]⟩,I 0,I 0,I 0,I 0,I 0,I 0,I 0,I 0,I 0,I 0,I 0] rfl
    have FB:=below_sets (m:=w.heap.size) (g:=(w.heap.size+1)) (by omega) [I 1,.string ⟨#[]⟩,I 0,I 0,I 0,I 0,I 0,I 0,I 0,I 0,I 0,I 0,I 0] 0 _ BC
    rw [show (failR 1).val=.agg #[I 1,.string ⟨#[]⟩,I 0,I 0,I 0,I 0,I 0,I 0,I 0,I 0,I 0,I 0,I 0] from rfl]
    go_wp2_with (refine wpList_stB 35 _ _ (w.heap.size+1) 0 [I 0,.string ⟨#[]⟩,I 0,I 0,I 0,I 0,I 0,I 0,I 0,I 0,I 0,I 0,I 0] [I 1,.string ⟨#[]⟩,I 0,I 0,I 0,I 0,I 0,I 0,I 0,I 0,I 0,I 0,I 0] ir hir UC (by rw [hrz];rfl) (by simp) rfl rfl rfl rfl rfl ?_;try simp only [Act.put])
    exact bodyPost_ret (res_B1 rfl _ _ (w.heap.size+1) _ ir hir ag35 FU (by rw [hrz];rfl) rfl) rfl ⟨by rw [HR.out];rfl,FB⟩
   | true =>
    cases sb with
    | false =>
     have HR:Hid ((toR realm (askG c realm now fresh target nonce tk au rs ev)).val=(failR 1).val):=by show _=_;rw [show askG c realm now fresh target nonce tk au rs ev=.error 1 from by rw [HG.out,if_neg (fun h=>by cases h.2.2)]];rfl
     go_wp2_with fail
     refine (spec_fail 1 _).mono ?_
     rintro en wf ⟨rfl,hb⟩
     replace UC:=UC.later hb UC.lt
     replace BC:=BC.trans (hb.mono BC.size)
     clear hb
     have FU:=UC.sets [I 1,.string ⟨#[]⟩,I 0,I 0,I 0,I 0,I 0,I 0,I 0,I 0,I 0,I 0,I 0] rfl
     have FB:=below_sets (m:=w.heap.size) (g:=(w.heap.size+1)) (by omega) [I 1,.string ⟨#[]⟩,I 0,I 0,I 0,I 0,I 0,I 0,I 0,I 0,I 0,I 0,I 0] 0 _ BC
     rw [show (failR 1).val=.agg #[I 1,.string ⟨#[]⟩,I 0,I 0,I 0,I 0,I 0,I 0,I 0,I 0,I 0,I 0,I 0] from rfl]
     go_wp2_with (refine wpList_stB 35 _ _ (w.heap.size+1) 0 [I 0,.string ⟨#[]⟩,I 0,I 0,I 0,I 0,I 0,I 0,I 0,I 0,I 0,I 0,I 0] [I 1,.string ⟨#[]⟩,I 0,I 0,I 0,I 0,I 0,I 0,I 0,I 0,I 0,I 0,I 0] ir hir UC (by rw [hrz];rfl) (by simp) rfl rfl rfl rfl rfl ?_;try simp only [Act.put])
     exact bodyPost_ret (res_B1 rfl _ _ (w.heap.size+1) _ ir hir ag35 FU (by rw [hrz];rfl) rfl) rfl ⟨by rw [HR.out];rfl,FB⟩
    | true =>
     replace HG:=show Hid _ from HG.out.trans (if_pos ⟨h0,rfl,rfl⟩)
     have hx:=hx0 rfl
     clear hx0 h0
     go_wp2_with fail
     clear g1 g2
     refine Code.wp_mono (Q:=(fun ex a' w'=>∃ (nb_:Nat),ex=.normal∧a'=({ tmps:=#[c.val,I realm,I now,I fresh,I target,I nonce,.slice (some ⟨b,off,none⟩) 4 lc,.pointer (some ⟨w.heap.size,0,none⟩),undef,undef,undef,undef,undef,undef,.pointer (some ⟨w.heap.size+1,0,none⟩),.pointer (some ⟨w2.heap.size,0,none⟩),.bool true,.pointer (some ⟨nb,0,none⟩),I f,.bool true,.pointer (some ⟨nb_,0,none⟩),.bool (raK au x2),undef,undef,undef,undef,undef,undef,undef,undef,undef,.tuple #[rv wa wb we,.bool true],.slice (some ⟨b,off,none⟩) 4 lc,.pointer (some ⟨b,off+2,none⟩),.string rs,.tuple #[rv wa wb we,.bool true],rv wa wb we,.bool true,.tuple #[.agg #[I x0,I x1,I x2,I x3,I x4,I x5,.slice ua P.length uc,.slice va V.length vc],I f,.bool true],.agg #[.slice c.ua c.U.length c.uc,.slice c.sa c.S.length c.sc,.slice c.la c.L.length c.lc,.slice c.xa c.X.length c.xc,I c.k],I realm,.slice (some ⟨b,off,none⟩) 4 lc,.pointer (some ⟨b,off,none⟩),.string tk,.tuple #[.agg #[I x0,I x1,I x2,I x3,I x4,I x5,.slice ua P.length uc,.slice va V.length vc],I f,.bool true],.agg #[I x0,I x1,I x2,I x3,I x4,I x5,.slice ua P.length uc,.slice va V.length vc],I f,.bool true,I target,.bool false,.bool false,I target,.bool false,.bool false,.bool false,.bool true,.bool false,.bool false,.bool false,.bool true,.bool false,.bool false,undef,.tuple #[.agg #[I (raV au x2 1),I (raV au x2 2),I (raV au x2 3)],.bool (raK au x2)],.slice (some ⟨b,off,none⟩) 4 lc,.pointer (some ⟨b,off+1,none⟩),.string au,.pointer (some ⟨nb,2,none⟩),I x2,.tuple #[.agg #[I (raV au x2 1),I (raV au x2 2),I (raV au x2 3)],.bool (raK au x2)],.agg #[I (raV au x2 1),I (raV au x2 2),I (raV au x2 3)],.bool (raK au x2),undef,undef,undef,undef,undef,undef,undef,undef,undef,undef,undef,undef,undef,undef,undef,undef,undef,undef,undef,undef,undef,undef,undef,undef,undef,undef,undef,undef,undef,undef,undef,undef,undef,undef,undef,undef,undef,undef,undef,undef,undef,undef,undef,undef,undef,undef,undef,undef,undef,undef,undef,undef,undef,undef,undef,undef,undef,undef,undef,undef,undef,undef,undef,undef,undef,undef,undef,undef,undef,undef,undef,undef,undef,undef,undef,undef,undef,undef,undef,undef,undef,undef,undef,undef,undef,undef,undef,undef,undef,undef,undef,undef,undef,undef,undef,undef,undef,undef,undef,undef,undef,undef,undef,undef,undef,undef,undef,undef,undef,undef,undef,undef,undef,undef,undef,undef,undef,undef,undef,undef,undef,undef,undef,undef,undef,undef,undef,undef,undef,undef,undef,undef,undef,undef,undef,undef,undef,undef,undef,undef,undef,undef,undef,undef,undef,undef,undef,undef,undef,undef,undef,undef],defers:=[] })∧Below w4.heap.size w4 w'∧Blk nb_ [I (raV au x2 1),I (raV au x2 2),I (raV au x2 3)] w'∧w4.heap.size≤nb_)) ?imp5 ?reg5
     case reg5 =>
      have BX:=(Below.refl w4.heap.size w4).drew
      refine wp_region_held_drew (S:=(fun Vw=>Blk nb [I x0,I x1,I x2,I x3,I x4,I x5,.slice ua P.length uc,.slice va V.length vc] Vw∧S4 b off tk au rs ev Vw)) (by kernel_rfl) ⟨KC.later BX KC.lt,(HS.later BC).later BX⟩ (fun hH=>?_)
      refine tK 0 64 rfl _ hH (by intro w' h;have d0:=h.1.e8;have y1:=h.2.c1;go_simp;try with_reducible rfl) ?_ (hQ:=fun _ _ _ h=>by obtain ⟨_,h,_⟩:=h;cases h)
      try simp only [Act.put,pa,pb,pc]
      refine tK 1 65 rfl _ hH (by intro w' h;have d0:=h.1.e8;have y1:=h.2.c1;go_simp;try with_reducible rfl) ?_ (hQ:=fun _ _ _ h=>by obtain ⟨_,h,_⟩:=h;cases h)
      try simp only [Act.put,pa,pb,pc]
      refine tK 2 66 rfl _ hH (by intro w' h;have d0:=h.1.e8;have y1:=h.2.c1;go_simp;try with_reducible rfl) ?_ (hQ:=fun _ _ _ h=>by obtain ⟨_,h,_⟩:=h;cases h)
      try simp only [Act.put,pa,pb,pc]
      refine tK 3 67 rfl _ hH (by intro w' h;have d0:=h.1.e8;have y1:=h.2.c1;go_simp;try with_reducible rfl) ?_ (hQ:=fun _ _ _ h=>by obtain ⟨_,h,_⟩:=h;cases h)
      try simp only [Act.put,pa,pb,pc]
      refine tK 4 68 rfl _ hH (by intro w' h;have d0:=h.1.e8;have y1:=h.2.c1;go_simp;try with_reducible rfl) ?_ (hQ:=fun _ _ _ h=>by obtain ⟨_,h,_⟩:=h;cases h)
      try simp only [Act.put,pa,pb,pc]
      refine wpAnyH_ready (rs:=[5,9]) (by kernel_rfl) (by simp) ?_
      refine AllReadyH.cons (i:=5) rfl (fun K hK=>?_) (AllReadyH.cons (i:=9) rfl (fun K hK=>?_) AllReadyH.nil)
      ·go_simp
       refine (specReadA_is au x2 _ hau).mono ?_
       rintro en w5 ⟨rfl,hb⟩
       replace BX:=BX.trans (hb.mono BX.size)
       clear hb
       go_wp2_with fail
       refine hK.out _ _ ⟨KC.later BX KC.lt,(HS.later BC).later BX⟩ (fun hJ=>?_)
       clear hK K hH
       have hH:=hJ
       clear hJ
       try simp only [Act.put,pa,pb,pc]
       refine tK 6 63 rfl _ hH (by intro w' h;have d0:=h.1.e8;have y1:=h.2.c1;go_simp;try with_reducible rfl) ?_ (hQ:=fun _ _ _ h=>by obtain ⟨_,h,_⟩:=h;cases h)
       try simp only [Act.put,pa,pb,pc]
       refine tK 7 70 rfl _ hH (by intro w' h;have d0:=h.1.e8;have y1:=h.2.c1;go_simp;try with_reducible rfl) ?_ (hQ:=fun _ _ _ h=>by obtain ⟨_,h,_⟩:=h;cases h)
       try simp only [Act.put,pa,pb,pc]
       refine tK 8 71 rfl _ hH (by intro w' h;have d0:=h.1.e8;have y1:=h.2.c1;go_simp;try with_reducible rfl) ?_ (hQ:=fun _ _ _ h=>by obtain ⟨_,h,_⟩:=h;cases h)
       try simp only [Act.put,pa,pb,pc]
       refine wpAnyH_ready (rs:=[9]) (by kernel_rfl) (by simp) ?_
       refine AllReadyH.cons (i:=9) rfl (fun K hK=>?_) AllReadyH.nil
       obtain ⟨Va,hVa⟩:∃ Wz,(w5).alloc (.cells #[I 0,I 0,I 0] 116)=Wz:=⟨_,rfl⟩
       have XA:Below (w5).heap.size (w5) Va:=by rw [← hVa];exact (Below.refl _ _).alloc (Nat.le_refl _) _
       have zb:w4.heap.size≤(w5).heap.size:=BX.size
       have EC:Blk (w5).heap.size [I 0,I 0,I 0] Va:=by rw [← hVa];exact Blk.new _ _ _
       replace BX:=BX.trans (XA.mono BX.size)
       clear XA
       go_simp
       try rw [hVa]
       refine hK.out _ _ (by (try rw [hVa]);exact ⟨KC.later BX KC.lt,(HS.later BC).later BX⟩) (fun hJ=>?_)
       clear hK K hH
       have hH:=hJ
       clear hJ
       try simp only [Act.put,pa,pb,pc]
       try rw [hVa]
       clear hVa
       replace EC:Blk (w5).heap.size _ _:=EC
       replace zb:w4.heap.size≤(w5).heap.size:=zb
       obtain ⟨nb_,hnb⟩:∃ n,(w5).heap.size=n:=⟨_,rfl⟩
       rw [hnb] at EC
       replace zb:w4.heap.size≤nb_:=by rw [← hnb];exact zb
       have BX_:=below_sets (g:=nb_) zb [I (raV au x2 1),I (raV au x2 2),I (raV au x2 3)] 0 _ BX
       have EC_:=EC.sets [I (raV au x2 1),I (raV au x2 2),I (raV au x2 3)] rfl
       try simp only [hnb]
       refine wpAnyH_ready (rs:=[10]) (by kernel_rfl) (by simp) ?_
       refine AllReadyH.cons (i:=10) rfl (fun K hK=>?_) AllReadyH.nil
       refine stepB2 116 _ _ nb_ 0 _ [I (raV au x2 1),I (raV au x2 2),I (raV au x2 3)] ia hia EC (by rw [haz];rfl) (by simp) rfl rfl rfl rfl rfl rfl ?_
       obtain ⟨VE,hVE⟩:∃ Wz,(Va).setCells nb_ 0 [I (raV au x2 1),I (raV au x2 2),I (raV au x2 3)]=Wz:=⟨_,rfl⟩
       rw [hVE] at BX_ EC_  ⊢
       clear hVE BX EC
       have BX:=BX_
       have EC:=EC_
       clear BX_ EC_
       refine hK.out _ _ ⟨KC.later BX KC.lt,(HS.later BC).later BX⟩ (fun hJ=>?_)
       clear hK K hH
       have hH:=hJ
       clear hJ
       try simp only [Act.put,pa,pb,pc]
       refine tK 11 21 rfl _ hH (by intro w' h;have d0:=h.1.e8;have y1:=h.2.c1;go_simp;try with_reducible rfl) ?_ (hQ:=fun _ _ _ h=>by obtain ⟨_,h,_⟩:=h;cases h)
       try simp only [Act.put,pa,pb,pc]
       refine wpAnyH_done (by kernel_rfl) ?_ _
       subst hnb
       exact ⟨_,rfl,rfl,BX,EC,zb⟩
      ·obtain ⟨Va,hVa⟩:∃ Wz,(w4.drew).alloc (.cells #[I 0,I 0,I 0] 116)=Wz:=⟨_,rfl⟩
       have XA:Below (w4.drew).heap.size (w4.drew) Va:=by rw [← hVa];exact (Below.refl _ _).alloc (Nat.le_refl _) _
       have zb:w4.heap.size≤(w4.drew).heap.size:=BX.size
       have EC:Blk (w4.drew).heap.size [I 0,I 0,I 0] Va:=by rw [← hVa];exact Blk.new _ _ _
       replace BX:=BX.trans (XA.mono BX.size)
       clear XA
       go_simp
       try rw [hVa]
       refine hK.out _ _ (by (try rw [hVa]);exact ⟨KC.later BX KC.lt,(HS.later BC).later BX⟩) (fun hJ=>?_)
       clear hK K hH
       have hH:=hJ
       clear hJ
       try simp only [Act.put,pa,pb,pc]
       try rw [hVa]
       clear hVa
       refine wpAnyH_ready (rs:=[5]) (by kernel_rfl) (by simp) ?_
       refine AllReadyH.cons (i:=5) rfl (fun K hK=>?_) AllReadyH.nil
       go_simp
       refine (specReadA_is au x2 _ hau).mono ?_
       rintro en w5 ⟨rfl,hb⟩
       replace BX:=BX.trans (hb.mono BX.size)
       replace EC:=EC.later hb EC.lt
       clear hb
       go_wp2_with fail
       refine hK.out _ _ ⟨KC.later BX KC.lt,(HS.later BC).later BX⟩ (fun hJ=>?_)
       clear hK K hH
       have hH:=hJ
       clear hJ
       try simp only [Act.put,pa,pb,pc]
       refine tK 6 63 rfl _ hH (by intro w' h;have d0:=h.1.e8;have y1:=h.2.c1;go_simp;try with_reducible rfl) ?_ (hQ:=fun _ _ _ h=>by obtain ⟨_,h,_⟩:=h;cases h)
       try simp only [Act.put,pa,pb,pc]
       refine tK 7 70 rfl _ hH (by intro w' h;have d0:=h.1.e8;have y1:=h.2.c1;go_simp;try with_reducible rfl) ?_ (hQ:=fun _ _ _ h=>by obtain ⟨_,h,_⟩:=h;cases h)
       try simp only [Act.put,pa,pb,pc]
       refine tK 8 71 rfl _ hH (by intro w' h;have d0:=h.1.e8;have y1:=h.2.c1;go_simp;try with_reducible rfl) ?_ (hQ:=fun _ _ _ h=>by obtain ⟨_,h,_⟩:=h;cases h)
       try simp only [Act.put,pa,pb,pc]
       replace EC:Blk (w4).heap.size _ _:=EC
       replace zb:w4.heap.size≤(w4).heap.size:=zb
       obtain ⟨nb_,hnb⟩:∃ n,(w4).heap.size=n:=⟨_,rfl⟩
       rw [hnb] at EC
       replace zb:w4.heap.size≤nb_:=by rw [← hnb];exact zb
       have BX_:=below_sets (g:=nb_) zb [I (raV au x2 1),I (raV au x2 2),I (raV au x2 3)] 0 _ BX
       have EC_:=EC.sets [I (raV au x2 1),I (raV au x2 2),I (raV au x2 3)] rfl
       try simp only [hnb]
       refine wpAnyH_ready (rs:=[10]) (by kernel_rfl) (by simp) ?_
       refine AllReadyH.cons (i:=10) rfl (fun K hK=>?_) AllReadyH.nil
       refine stepB2 116 _ _ nb_ 0 _ [I (raV au x2 1),I (raV au x2 2),I (raV au x2 3)] ia hia EC (by rw [haz];rfl) (by simp) rfl rfl rfl rfl rfl rfl ?_
       obtain ⟨VE,hVE⟩:∃ Wz,(w5).setCells nb_ 0 [I (raV au x2 1),I (raV au x2 2),I (raV au x2 3)]=Wz:=⟨_,rfl⟩
       rw [hVE] at BX_ EC_  ⊢
       clear hVE BX EC
       have BX:=BX_
       have EC:=EC_
       clear BX_ EC_
       refine hK.out _ _ ⟨KC.later BX KC.lt,(HS.later BC).later BX⟩ (fun hJ=>?_)
       clear hK K hH
       have hH:=hJ
       clear hJ
       try simp only [Act.put,pa,pb,pc]
       refine tK 11 21 rfl _ hH (by intro w' h;have d0:=h.1.e8;have y1:=h.2.c1;go_simp;try with_reducible rfl) ?_ (hQ:=fun _ _ _ h=>by obtain ⟨_,h,_⟩:=h;cases h)
       try simp only [Act.put,pa,pb,pc]
       refine wpAnyH_done (by kernel_rfl) ?_ _
       subst hnb
       exact ⟨_,rfl,rfl,BX,EC,zb⟩
     case imp5 =>
      rintro ex a' w5 ⟨ab,rfl,rfl,BX,AC,zb⟩
      replace TC:=TC.later BX TC.lt
      replace UC:=UC.later BX UC.lt
      replace RC:=RC.later BX RC.lt
      replace KC:=KC.later BX KC.lt
      replace RP:=RP.later BX
      replace RV:=RV.later BX
      replace BC:=BC.trans (BX.mono BC.size)
      clear BX zb
      have q1_:=AC.at 0 rfl
      have q2_:=KC.at 0 rfl
      cases h1:raK au x2 with
      | false =>
       have HR:Hid ((toR realm (askG c realm now fresh target nonce tk au rs ev)).val=(failR 2).val):=by show _=_;rw [show askG c realm now fresh target nonce tk au rs ev=.error 2 from by rw [HG.out,ck_2 (fun h=>by rw [h1] at h;cases h.1)];exact if_neg (by decide)];rfl
       go_wp2_with fail
       refine (spec_fail 2 _).mono ?_
       rintro en wf ⟨rfl,hb⟩
       replace UC:=UC.later hb UC.lt
       replace BC:=BC.trans (hb.mono BC.size)
       clear hb
       clear q1_ q2_
       have FU:=UC.sets [I 2,.string ⟨#[]⟩,I 0,I 0,I 0,I 0,I 0,I 0,I 0,I 0,I 0,I 0,I 0] rfl
       have FB:=below_sets (m:=w.heap.size) (g:=(w.heap.size+1)) (by omega) [I 2,.string ⟨#[]⟩,I 0,I 0,I 0,I 0,I 0,I 0,I 0,I 0,I 0,I 0,I 0] 0 _ BC
       rw [show (failR 2).val=.agg #[I 2,.string ⟨#[]⟩,I 0,I 0,I 0,I 0,I 0,I 0,I 0,I 0,I 0,I 0,I 0] from rfl]
       go_wp2_with (refine wpList_stB 35 _ _ (w.heap.size+1) 0 [I 0,.string ⟨#[]⟩,I 0,I 0,I 0,I 0,I 0,I 0,I 0,I 0,I 0,I 0,I 0] [I 2,.string ⟨#[]⟩,I 0,I 0,I 0,I 0,I 0,I 0,I 0,I 0,I 0,I 0,I 0] ir hir UC (by rw [hrz];rfl) (by simp) rfl rfl rfl rfl rfl ?_;try simp only [Act.put])
       exact bodyPost_ret (res_B1 rfl _ _ (w.heap.size+1) _ ir hir ag35 FU (by rw [hrz];rfl) rfl) rfl ⟨by rw [HR.out];rfl,FB⟩
      | true =>
       by_cases h2:raV au x2 1=x0
       ·have e2:(raV au x2 1 == x0)=true:=by simpa using h2
        have HA:Hid (raK au x2=true∧raV au x2 1=x0):=⟨h1,h2⟩
        clear h2 h1
        have q3_:=AC.at 1 rfl
        have q4_:=TC.at 4 rfl
        go_wp2_with fail
        refine (spec_apart now (raV au x2 2) c.k _ hn (raV_small au x2 2) (conf_k hcf)).mono ?_
        rintro en w6 ⟨rfl,rfl⟩
        clear q1_ q2_ q3_ q4_
        clear e2
        by_cases h3:c.k < apV now (raV au x2 2)
        ·rw [decide_eq_true h3]
         have HR:Hid ((toR realm (askG c realm now fresh target nonce tk au rs ev)).val=(failR 3).val):=by show _=_;rw [show askG c realm now fresh target nonce tk au rs ev=.error 3 from by rw [HG.out,ck_3 HA.out h3];exact if_neg (by decide)];rfl
         go_wp2_with fail
         refine (spec_fail 3 _).mono ?_
         rintro en wf ⟨rfl,hb⟩
         replace UC:=UC.later hb UC.lt
         replace BC:=BC.trans (hb.mono BC.size)
         clear hb
         have FU:=UC.sets [I 3,.string ⟨#[]⟩,I 0,I 0,I 0,I 0,I 0,I 0,I 0,I 0,I 0,I 0,I 0] rfl
         have FB:=below_sets (m:=w.heap.size) (g:=(w.heap.size+1)) (by omega) [I 3,.string ⟨#[]⟩,I 0,I 0,I 0,I 0,I 0,I 0,I 0,I 0,I 0,I 0,I 0] 0 _ BC
         rw [show (failR 3).val=.agg #[I 3,.string ⟨#[]⟩,I 0,I 0,I 0,I 0,I 0,I 0,I 0,I 0,I 0,I 0,I 0] from rfl]
         go_wp2_with (refine wpList_stB 35 _ _ (w.heap.size+1) 0 [I 0,.string ⟨#[]⟩,I 0,I 0,I 0,I 0,I 0,I 0,I 0,I 0,I 0,I 0,I 0] [I 3,.string ⟨#[]⟩,I 0,I 0,I 0,I 0,I 0,I 0,I 0,I 0,I 0,I 0,I 0] ir hir UC (by rw [hrz];rfl) (by simp) rfl rfl rfl rfl rfl ?_;try simp only [Act.put])
         exact bodyPost_ret (res_B1 rfl _ _ (w.heap.size+1) _ ir hir ag35 FU (by rw [hrz];rfl) rfl) rfl ⟨by rw [HR.out];rfl,FB⟩
        ·rw [decide_eq_false h3]
         have H3:Hid (¬ c.k < apV now (raV au x2 2)):=h3
         clear h3
         have q5_:=KC.at 5 rfl
         by_cases h4:x5 < now
         ·have H4:Hid (x5 < now):=h4
          have e4:decide (x5 < now)=true:=decide_eq_true h4
          clear h4
          have HR:Hid ((toR realm (askG c realm now fresh target nonce tk au rs ev)).val=(failR 4).val):=by show _=_;rw [show askG c realm now fresh target nonce tk au rs ev=.error 4 from by rw [HG.out,ck_4 HA.out (by have h_:=H3.out;omega) (by have h_:=H4.out;omega)];exact if_neg (by decide)];rfl
          go_wp2_with fail
          refine (spec_fail 4 _).mono ?_
          rintro en wf ⟨rfl,hb⟩
          replace UC:=UC.later hb UC.lt
          replace BC:=BC.trans (hb.mono BC.size)
          clear hb
          clear q5_
          have FU:=UC.sets [I 4,.string ⟨#[]⟩,I 0,I 0,I 0,I 0,I 0,I 0,I 0,I 0,I 0,I 0,I 0] rfl
          have FB:=below_sets (m:=w.heap.size) (g:=(w.heap.size+1)) (by omega) [I 4,.string ⟨#[]⟩,I 0,I 0,I 0,I 0,I 0,I 0,I 0,I 0,I 0,I 0,I 0] 0 _ BC
          rw [show (failR 4).val=.agg #[I 4,.string ⟨#[]⟩,I 0,I 0,I 0,I 0,I 0,I 0,I 0,I 0,I 0,I 0,I 0] from rfl]
          go_wp2_with (refine wpList_stB 35 _ _ (w.heap.size+1) 0 [I 0,.string ⟨#[]⟩,I 0,I 0,I 0,I 0,I 0,I 0,I 0,I 0,I 0,I 0,I 0] [I 4,.string ⟨#[]⟩,I 0,I 0,I 0,I 0,I 0,I 0,I 0,I 0,I 0,I 0,I 0] ir hir UC (by rw [hrz];rfl) (by simp) rfl rfl rfl rfl rfl ?_;try simp only [Act.put])
          exact bodyPost_ret (res_B1 rfl _ _ (w.heap.size+1) _ ir hir ag35 FU (by rw [hrz];rfl) rfl) rfl ⟨by rw [HR.out];rfl,FB⟩
         ·have H4:Hid (¬ x5 < now):=h4
          have e4:decide (x5 < now)=false:=decide_eq_false h4
          clear h4
          have q6_:=KC.at 6 rfl
          have lit:(w5.alloc (.cells #[] 3)).ownsRow w5.heap.size 3 1 (.slice (some ⟨w5.heap.size,0,none⟩) 0 0) 0 (intV []):=World.ownsRow_lit _ _ _ (Nat.le_refl _) (by unfold maxLen;omega) rfl
          have RPl:=RP.later ((Below.refl _ _).alloc (Nat.le_refl _) (.cells #[] 3))
          have qk:=(KC.alloc KC.lt (.cells #[] 3)).at 6 rfl
          go_wp2_with (at_builtin;go_loud (refine wpList_app_ints _ rfl _ _ rfl w5.heap.size _ 0 [] rfl lit ua uc P rfl RPl ?a1 ?a2 ?_))
          case a1=>omega
          case a2=>simp
          clear q5_ q6_
          clear qk e4
          intro v7 w7 o7 hg7
          try rw [List.nil_append] at o7
          try rw [Nat.zero_add] at o7
          have B7:Below w5.heap.size w5 w7:=below_grown ((Below.refl _ _).alloc (Nat.le_refl _) (.cells #[] 3)) hg7 (by simp) (fun q e=>by cases e;exact Nat.le_refl _)
          obtain ⟨va7,vc7,rfl,hvc7,R7⟩:=own_row (f:=Value.int .i64) (xs:=P) o7
          have k7:=own_in o7
          clear hg7 lit RPl
          go_step
          go_step
          go_step
          go_step
          go_step
          go_step
          go_step
          refine Code.wp_mono (Q:=(fun ex a' w'=>P13 PH w5 (fun u100 u101 u102 u103 u104 pA pC=>({ tmps:=#[c.val,I realm,I now,I fresh,I target,I nonce,.slice (some ⟨b,off,none⟩) 4 lc,.pointer (some ⟨w.heap.size,0,none⟩),undef,undef,undef,undef,undef,undef,.pointer (some ⟨w.heap.size+1,0,none⟩),.pointer (some ⟨w2.heap.size,0,none⟩),.bool true,.pointer (some ⟨nb,0,none⟩),I f,.bool true,.pointer (some ⟨ab,0,none⟩),.bool true,.slice pA PH.length pC,undef,undef,undef,undef,undef,undef,undef,undef,.tuple #[rv wa wb we,.bool true],.slice (some ⟨b,off,none⟩) 4 lc,.pointer (some ⟨b,off+2,none⟩),.string rs,.tuple #[rv wa wb we,.bool true],rv wa wb we,.bool true,.tuple #[.agg #[I x0,I x1,I x2,I x3,I x4,I x5,.slice ua P.length uc,.slice va V.length vc],I f,.bool true],.agg #[.slice c.ua c.U.length c.uc,.slice c.sa c.S.length c.sc,.slice c.la c.L.length c.lc,.slice c.xa c.X.length c.xc,I c.k],I realm,.slice (some ⟨b,off,none⟩) 4 lc,.pointer (some ⟨b,off,none⟩),.string tk,.tuple #[.agg #[I x0,I x1,I x2,I x3,I x4,I x5,.slice ua P.length uc,.slice va V.length vc],I f,.bool true],.agg #[I x0,I x1,I x2,I x3,I x4,I x5,.slice ua P.length uc,.slice va V.length vc],I f,.bool true,I target,.bool false,.bool false,I target,.bool false,.bool false,.bool false,.bool true,.bool false,.bool false,.bool false,.bool true,.bool false,.bool false,undef,.tuple #[.agg #[I (raV au x2 1),I (raV au x2 2),I (raV au x2 3)],.bool true],.slice (some ⟨b,off,none⟩) 4 lc,.pointer (some ⟨b,off+1,none⟩),.string au,.pointer (some ⟨nb,2,none⟩),I x2,.tuple #[.agg #[I (raV au x2 1),I (raV au x2 2),I (raV au x2 3)],.bool true],.agg #[I (raV au x2 1),I (raV au x2 2),I (raV au x2 3)],.bool true,.bool true,.bool false,.bool false,.pointer (some ⟨ab,0,none⟩),I (raV au x2 1),.pointer (some ⟨nb,0,none⟩),I x0,.bool false,.bool false,undef,I now,.pointer (some ⟨ab,1,none⟩),I (raV au x2 2),.pointer (some ⟨w.heap.size,4,none⟩),I c.k,.bool false,undef,I now,.pointer (some ⟨nb,3,none⟩),.pointer (some ⟨nb,5,none⟩),I x5,.bool false,undef,.slice (some ⟨w5.heap.size,0,none⟩) 0 0,.pointer (some ⟨nb,6,none⟩),.slice ua P.length uc,.slice va7 P.length vc7,I f,u100,u101,u102,u103,u104,undef,undef,undef,undef,undef,undef,undef,undef,undef,undef,undef,undef,undef,undef,undef,undef,undef,undef,undef,undef,undef,undef,undef,undef,undef,undef,undef,undef,undef,undef,undef,undef,undef,undef,undef,undef,undef,undef,undef,undef,undef,undef,undef,undef,undef,undef,undef,undef,undef,undef,undef,undef,undef,undef,undef,undef,undef,undef,undef,undef,undef,undef,undef,undef,undef,undef,undef,undef,undef,undef,undef,undef,undef,undef,undef,undef,undef,undef,undef,undef,undef,undef,undef,undef,undef,undef,undef,undef,undef,undef,undef,undef,undef,undef,undef,undef,undef,undef,undef,undef,undef,undef,undef,undef,undef,undef,undef,undef,undef,undef,undef,undef,undef,undef,undef,undef,undef,undef,undef],defers:=[] })) ex a' w')) ?imp13 ?reg13
          case reg13 =>
           rcases hf with hf1 | hf1
           ·subst hf1
            have ePH:PH=P:=by have h_:=hPH.out;simpa using h_
            subst ePH
            go_wp2
            unfold P13
            exact ⟨_,_,_,_,_,_,_,rfl,rfl,B7,R7⟩
           ·have hg:decide (0≤f)=true:=decide_eq_true hf1.1
            have ePH:Hid (PH=P++[f]):=by have h_:=hPH.out;rw [if_neg (by omega)] at h_;exact h_
            have o7a:=o7.alloc (.cells #[I f] 3)
            have r1:RowAt (Value.int .i64) (w7.alloc (.cells #[I f] 3)) (some ⟨w7.heap.size,0,none⟩) [f]:=row_new (Value.int .i64) w7 [f] 3
            have zB:=B7.size
            go_wp2_with (at_builtin;refine wpList_app_ints _ rfl _ _ rfl w5.heap.size _ P.length P rfl o7a (some ⟨w7.heap.size,0,none⟩) 1 [f] rfl r1 ?b1 ?b2 ?_)
            case b1=>simp;omega
            case b2=>simp;omega
            intro v8 w8 o8 hg8
            have B8:Below w5.heap.size w5 w8:=below_grown (B7.alloc B7.size (.cells #[I f] 3)) hg8 (by simp;omega) (fun q e=>(k7 q e).1)
            rw [← ePH.out] at o8
            obtain ⟨va8,vc8,rfl,hvc8,R8⟩:=own_row (f:=Value.int .i64) (xs:=PH) o8
            clear hg8 o8 o7a r1 zB
            go_wp2
            unfold P13
            exact ⟨_,_,_,_,_,_,_,rfl,rfl,B8,R8⟩
          case imp13 =>
           rintro ex a' T0 hq
           obtain ⟨u100,u101,u102,u103,u104,pA,pC,rfl,rfl,BX,RH⟩:=hq
           clear B7 R7 o7 k7 hvc7
           replace TC:=TC.later BX TC.lt
           replace UC:=UC.later BX UC.lt
           replace RC:=RC.later BX RC.lt
           replace KC:=KC.later BX KC.lt
           have RV0:=RV.later BX
           have BW:=BC.trans (BX.mono BC.size)
           have HS0:=HS.later BW
           have C0:=C.later BW
           clear BX BC RV RP AC hPH hf lP
           have BC:=Below.refl T0.heap.size T0
           have zT:Hid (w.heap.size+2≤T0.heap.size):=UC.lt
           have zKT:Hid (nb < T0.heap.size):=KC.lt
           by_cases h6:6 < PH.length
           ·have e6:decide ((6:Int) < (PH.length:Int))=true:=decide_eq_true (by omega)
            have HR:Hid ((toR realm (askG c realm now fresh target nonce tk au rs ev)).val=(failR 5).val):=by show _=_;rw [show askG c realm now fresh target nonce tk au rs ev=.error 5 from by rw [HG.out,ck_5 HA.out (by have h_:=H3.out;omega) (by have h_:=H4.out;omega) h6];exact if_neg (by decide)];rfl
            go_wp2_with fail
            refine (spec_fail 5 _).mono ?_
            rintro en wf ⟨rfl,hb⟩
            replace BC:=BC.trans (hb.mono BC.size)
            clear hb
            replace UC:=UC.later BC UC.lt
            replace BC:=BW.trans (BC.mono BW.size)
            have FU:=UC.sets [I 5,.string ⟨#[]⟩,I 0,I 0,I 0,I 0,I 0,I 0,I 0,I 0,I 0,I 0,I 0] rfl
            have FB:=below_sets (m:=w.heap.size) (g:=(w.heap.size+1)) (by omega) [I 5,.string ⟨#[]⟩,I 0,I 0,I 0,I 0,I 0,I 0,I 0,I 0,I 0,I 0,I 0] 0 _ BC
            rw [show (failR 5).val=.agg #[I 5,.string ⟨#[]⟩,I 0,I 0,I 0,I 0,I 0,I 0,I 0,I 0,I 0,I 0,I 0] from rfl]
            go_wp2_with (refine wpList_stB 35 _ _ (w.heap.size+1) 0 [I 0,.string ⟨#[]⟩,I 0,I 0,I 0,I 0,I 0,I 0,I 0,I 0,I 0,I 0,I 0] [I 5,.string ⟨#[]⟩,I 0,I 0,I 0,I 0,I 0,I 0,I 0,I 0,I 0,I 0,I 0] ir hir UC (by rw [hrz];rfl) (by simp) rfl rfl rfl rfl rfl ?_;try simp only [Act.put])
            exact bodyPost_ret (res_B1 rfl _ _ (w.heap.size+1) _ ir hir ag35 FU (by rw [hrz];rfl) rfl) rfl ⟨by rw [HR.out];rfl,FB⟩
           ·have e6:decide ((6:Int) < (PH.length:Int))=false:=decide_eq_false (by omega)
            replace HG:=show Hid _ from HG.out.trans (if_pos (ck_0 HA.out (by have h_:=H3.out;omega) (by have h_:=H4.out;omega) h6))
            have l6:Hid (PH.length≤6):=(show PH.length≤6 by omega)
            clear HA H3 H4 h6
            go_wp2_with fail
            clear e6
            refine Code.wp_mono (Q:=(fun ex a' w'=>∃ (nb_:Nat),ex=.normal∧a'=({ tmps:=#[c.val,I realm,I now,I fresh,I target,I nonce,.slice (some ⟨b,off,none⟩) 4 lc,.pointer (some ⟨w.heap.size,0,none⟩),undef,undef,undef,undef,undef,undef,.pointer (some ⟨w.heap.size+1,0,none⟩),.pointer (some ⟨w2.heap.size,0,none⟩),.bool true,.pointer (some ⟨nb,0,none⟩),I f,.bool true,.pointer (some ⟨ab,0,none⟩),.bool true,.slice pA PH.length pC,.pointer (some ⟨nb_,0,none⟩),undef,undef,undef,undef,undef,undef,undef,.tuple #[rv wa wb we,.bool true],.slice (some ⟨b,off,none⟩) 4 lc,.pointer (some ⟨b,off+2,none⟩),.string rs,.tuple #[rv wa wb we,.bool true],rv wa wb we,.bool true,.tuple #[.agg #[I x0,I x1,I x2,I x3,I x4,I x5,.slice ua P.length uc,.slice va V.length vc],I f,.bool true],.agg #[.slice c.ua c.U.length c.uc,.slice c.sa c.S.length c.sc,.slice c.la c.L.length c.lc,.slice c.xa c.X.length c.xc,I c.k],I realm,.slice (some ⟨b,off,none⟩) 4 lc,.pointer (some ⟨b,off,none⟩),.string tk,.tuple #[.agg #[I x0,I x1,I x2,I x3,I x4,I x5,.slice ua P.length uc,.slice va V.length vc],I f,.bool true],.agg #[I x0,I x1,I x2,I x3,I x4,I x5,.slice ua P.length uc,.slice va V.length vc],I f,.bool true,I target,.bool false,.bool false,I target,.bool false,.bool false,.bool false,.bool true,.bool false,.bool false,.bool false,.bool true,.bool false,.bool false,undef,.tuple #[.agg #[I (raV au x2 1),I (raV au x2 2),I (raV au x2 3)],.bool true],.slice (some ⟨b,off,none⟩) 4 lc,.pointer (some ⟨b,off+1,none⟩),.string au,.pointer (some ⟨nb,2,none⟩),I x2,.tuple #[.agg #[I (raV au x2 1),I (raV au x2 2),I (raV au x2 3)],.bool true],.agg #[I (raV au x2 1),I (raV au x2 2),I (raV au x2 3)],.bool true,.bool true,.bool false,.bool false,.pointer (some ⟨ab,0,none⟩),I (raV au x2 1),.pointer (some ⟨nb,0,none⟩),I x0,.bool false,.bool false,undef,I now,.pointer (some ⟨ab,1,none⟩),I (raV au x2 2),.pointer (some ⟨w.heap.size,4,none⟩),I c.k,.bool false,undef,I now,.pointer (some ⟨nb,3,none⟩),.pointer (some ⟨nb,5,none⟩),I x5,.bool false,undef,.slice (some ⟨w5.heap.size,0,none⟩) 0 0,.pointer (some ⟨nb,6,none⟩),.slice ua P.length uc,.slice va7 P.length vc7,I f,u100,u101,u102,u103,u104,.slice pA PH.length pC,I ↑PH.length,.bool false,undef,.pointer (some ⟨nb,0,none⟩),I x0,I target,I fresh,.pointer (some ⟨nb,3,none⟩),.agg #[I x3,I x4,I x5],.agg #[I wa,I wb,I we],rv (mA x3 x4 x5 wa wb we) (mB x3 x4 x5 wa wb we) (mC x3 x4 x5 wa wb we),.slice pA PH.length pC,.pointer (some ⟨nb,7,none⟩),.slice va V.length vc,.agg #[I x0,I target,I fresh,I (mA x3 x4 x5 wa wb we),I (mB x3 x4 x5 wa wb we),I (mC x3 x4 x5 wa wb we),.slice pA PH.length pC,.slice va V.length vc],undef,undef,undef,undef,undef,undef,undef,undef,undef,undef,undef,undef,undef,undef,undef,undef,undef,undef,undef,undef,undef,undef,undef,undef,undef,undef,undef,undef,undef,undef,undef,undef,undef,undef,undef,undef,undef,undef,undef,undef,undef,undef,undef,undef,undef,undef,undef,undef,undef,undef,undef,undef,undef,undef,undef,undef,undef,undef,undef,undef,undef,undef,undef,undef,undef,undef,undef,undef,undef,undef,undef,undef,undef,undef,undef,undef,undef,undef,undef,undef,undef,undef,undef,undef,undef,undef,undef,undef,undef,undef,undef,undef,undef,undef,undef,undef,undef,undef,undef,undef,undef,undef,undef],defers:=[] })∧Below T0.heap.size T0 w'∧Blk nb_ [I x0,I target,I fresh,I (mA x3 x4 x5 wa wb we),I (mB x3 x4 x5 wa wb we),I (mC x3 x4 x5 wa wb we),.slice pA PH.length pC,.slice va V.length vc] w'∧T0.heap.size≤nb_)) ?imp17 ?reg17
            case reg17 =>
             have BX:=(Below.refl T0.heap.size T0).drew
             refine wp_region_held_drew (S:=(fun Vw=>Blk nb [I x0,I x1,I x2,I x3,I x4,I x5,.slice ua P.length uc,.slice va V.length vc] Vw∧Blk w2.heap.size [I wa,I wb,I we] Vw)) (by kernel_rfl) ⟨KC.later BX KC.lt,RC.later BX RC.lt⟩ (fun hH=>?_)
             refine tK 0 109 rfl _ hH (by intro w' h;have d0:=h.1.e8;have e0:=h.2.e3;go_simp;try with_reducible rfl) ?_ (hQ:=fun _ _ _ h=>by obtain ⟨_,h,_⟩:=h;cases h)
             try simp only [Act.put,pa,pb,pc]
             refine tK 1 110 rfl _ hH (by intro w' h;have d0:=h.1.e8;have e0:=h.2.e3;go_simp;try with_reducible rfl) ?_ (hQ:=fun _ _ _ h=>by obtain ⟨_,h,_⟩:=h;cases h)
             try simp only [Act.put,pa,pb,pc]
             refine tK 2 111 rfl _ hH (by intro w' h;have d0:=h.1.e8;have e0:=h.2.e3;go_simp;try with_reducible rfl) ?_ (hQ:=fun _ _ _ h=>by obtain ⟨_,h,_⟩:=h;cases h)
             try simp only [Act.put,pa,pb,pc]
             refine tK 3 112 rfl _ hH (by intro w' h;have d0:=h.1.e8;have e0:=h.2.e3;go_simp;try with_reducible rfl) ?_ (hQ:=fun _ _ _ h=>by obtain ⟨_,h,_⟩:=h;cases h)
             try simp only [Act.put,pa,pb,pc]
             refine tK 4 113 rfl _ hH (by intro w' h;have d0:=h.1.e8;have e0:=h.2.e3;go_simp;try with_reducible rfl) ?_ (hQ:=fun _ _ _ h=>by obtain ⟨_,h,_⟩:=h;cases h)
             try simp only [Act.put,pa,pb,pc]
             refine tK 5 114 rfl _ hH (by intro w' h;have d0:=h.1.e8;have e0:=h.2.e3;go_simp;try with_reducible rfl) ?_ (hQ:=fun _ _ _ h=>by obtain ⟨_,h,_⟩:=h;cases h)
             try simp only [Act.put,pa,pb,pc]
             refine tK 6 115 rfl _ hH (by intro w' h;have d0:=h.1.e8;have e0:=h.2.e3;go_simp;try with_reducible rfl) ?_ (hQ:=fun _ _ _ h=>by obtain ⟨_,h,_⟩:=h;cases h)
             try simp only [Act.put,pa,pb,pc]
             refine tK 8 117 rfl _ hH (by intro w' h;have d0:=h.1.e8;have e0:=h.2.e3;go_simp;try with_reducible rfl) ?_ (hQ:=fun _ _ _ h=>by obtain ⟨_,h,_⟩:=h;cases h)
             try simp only [Act.put,pa,pb,pc]
             refine tK 9 118 rfl _ hH (by intro w' h;have d0:=h.1.e8;have e0:=h.2.e3;go_simp;try with_reducible rfl) ?_ (hQ:=fun _ _ _ h=>by obtain ⟨_,h,_⟩:=h;cases h)
             try simp only [Act.put,pa,pb,pc]
             refine tK 10 119 rfl _ hH (by intro w' h;have d0:=h.1.e8;have e0:=h.2.e3;go_simp;try with_reducible rfl) ?_ (hQ:=fun _ _ _ h=>by obtain ⟨_,h,_⟩:=h;cases h)
             try simp only [Act.put,pa,pb,pc]
             refine wpAnyH_ready (rs:=[7,12]) (by kernel_rfl) (by simp) ?_
             refine AllReadyH.cons (i:=7) rfl (fun K hK=>?_) (AllReadyH.cons (i:=12) rfl (fun K hK=>?_) AllReadyH.nil)
             ·go_simp
              refine (specMeet_is x3 x4 x5 wa wb we _).mono ?_
              rintro en w8 ⟨rfl,hb⟩
              replace BX:=BX.trans (hb.mono BX.size)
              clear hb
              go_wp2_with fail
              refine hK.out _ _ ⟨KC.later BX KC.lt,RC.later BX RC.lt⟩ (fun hJ=>?_)
              clear hK K hH
              have hH:=hJ
              clear hJ
              try simp only [Act.put,pa,pb,pc]
              refine tK 11 120 rfl _ hH (by intro w' h;have d0:=h.1.e8;have e0:=h.2.e3;go_simp;try with_reducible rfl) ?_ (hQ:=fun _ _ _ h=>by obtain ⟨_,h,_⟩:=h;cases h)
              try simp only [Act.put,pa,pb,pc]
              refine wpAnyH_ready (rs:=[12]) (by kernel_rfl) (by simp) ?_
              refine AllReadyH.cons (i:=12) rfl (fun K hK=>?_) AllReadyH.nil
              obtain ⟨Va,hVa⟩:∃ Wz,(w8).alloc (.cells #[I 0,I 0,I 0,I 0,I 0,I 0,.slice none 0 0,.slice none 0 0] 43)=Wz:=⟨_,rfl⟩
              have XA:Below (w8).heap.size (w8) Va:=by rw [← hVa];exact (Below.refl _ _).alloc (Nat.le_refl _) _
              have zb:T0.heap.size≤(w8).heap.size:=BX.size
              have EC:Blk (w8).heap.size [I 0,I 0,I 0,I 0,I 0,I 0,.slice none 0 0,.slice none 0 0] Va:=by rw [← hVa];exact Blk.new _ _ _
              replace BX:=BX.trans (XA.mono BX.size)
              clear XA
              go_simp
              try rw [hVa]
              refine hK.out _ _ (by (try rw [hVa]);exact ⟨KC.later BX KC.lt,RC.later BX RC.lt⟩) (fun hJ=>?_)
              clear hK K hH
              have hH:=hJ
              clear hJ
              try simp only [Act.put,pa,pb,pc]
              try rw [hVa]
              clear hVa
              replace EC:Blk (w8).heap.size _ _:=EC
              replace zb:T0.heap.size≤(w8).heap.size:=zb
              obtain ⟨nb_,hnb⟩:∃ n,(w8).heap.size=n:=⟨_,rfl⟩
              rw [hnb] at EC
              replace zb:T0.heap.size≤nb_:=by rw [← hnb];exact zb
              have BX_:=below_sets (g:=nb_) zb [I x0,I target,I fresh,I (mA x3 x4 x5 wa wb we),I (mB x3 x4 x5 wa wb we),I (mC x3 x4 x5 wa wb we),.slice pA PH.length pC,.slice va V.length vc] 0 _ BX
              have EC_:=EC.sets [I x0,I target,I fresh,I (mA x3 x4 x5 wa wb we),I (mB x3 x4 x5 wa wb we),I (mC x3 x4 x5 wa wb we),.slice pA PH.length pC,.slice va V.length vc] rfl
              try simp only [hnb]
              refine wpAnyH_ready (rs:=[13]) (by kernel_rfl) (by simp) ?_
              refine AllReadyH.cons (i:=13) rfl (fun K hK=>?_) AllReadyH.nil
              refine stepB2 43 _ _ nb_ 0 _ [I x0,I target,I fresh,I (mA x3 x4 x5 wa wb we),I (mB x3 x4 x5 wa wb we),I (mC x3 x4 x5 wa wb we),.slice pA PH.length pC,.slice va V.length vc] it hit EC (by rw [htz];rfl) (by simp) rfl rfl rfl rfl rfl rfl ?_
              obtain ⟨VE,hVE⟩:∃ Wz,(Va).setCells nb_ 0 [I x0,I target,I fresh,I (mA x3 x4 x5 wa wb we),I (mB x3 x4 x5 wa wb we),I (mC x3 x4 x5 wa wb we),.slice pA PH.length pC,.slice va V.length vc]=Wz:=⟨_,rfl⟩
              rw [hVE] at BX_ EC_  ⊢
              clear hVE BX EC
              have BX:=BX_
              have EC:=EC_
              clear BX_ EC_
              refine hK.out _ _ ⟨KC.later BX KC.lt,RC.later BX RC.lt⟩ (fun hJ=>?_)
              clear hK K hH
              have hH:=hJ
              clear hJ
              try simp only [Act.put,pa,pb,pc]
              refine wpAnyH_done (by kernel_rfl) ?_ _
              subst hnb
              exact ⟨_,rfl,rfl,BX,EC,zb⟩
             ·obtain ⟨Va,hVa⟩:∃ Wz,(T0.drew).alloc (.cells #[I 0,I 0,I 0,I 0,I 0,I 0,.slice none 0 0,.slice none 0 0] 43)=Wz:=⟨_,rfl⟩
              have XA:Below (T0.drew).heap.size (T0.drew) Va:=by rw [← hVa];exact (Below.refl _ _).alloc (Nat.le_refl _) _
              have zb:T0.heap.size≤(T0.drew).heap.size:=BX.size
              have EC:Blk (T0.drew).heap.size [I 0,I 0,I 0,I 0,I 0,I 0,.slice none 0 0,.slice none 0 0] Va:=by rw [← hVa];exact Blk.new _ _ _
              replace BX:=BX.trans (XA.mono BX.size)
              clear XA
              go_simp
              try rw [hVa]
              refine hK.out _ _ (by (try rw [hVa]);exact ⟨KC.later BX KC.lt,RC.later BX RC.lt⟩) (fun hJ=>?_)
              clear hK K hH
              have hH:=hJ
              clear hJ
              try simp only [Act.put,pa,pb,pc]
              try rw [hVa]
              clear hVa
              refine wpAnyH_ready (rs:=[7]) (by kernel_rfl) (by simp) ?_
              refine AllReadyH.cons (i:=7) rfl (fun K hK=>?_) AllReadyH.nil
              go_simp
              refine (specMeet_is x3 x4 x5 wa wb we _).mono ?_
              rintro en w8 ⟨rfl,hb⟩
              replace BX:=BX.trans (hb.mono BX.size)
              replace EC:=EC.later hb EC.lt
              clear hb
              go_wp2_with fail
              refine hK.out _ _ ⟨KC.later BX KC.lt,RC.later BX RC.lt⟩ (fun hJ=>?_)
              clear hK K hH
              have hH:=hJ
              clear hJ
              try simp only [Act.put,pa,pb,pc]
              refine tK 11 120 rfl _ hH (by intro w' h;have d0:=h.1.e8;have e0:=h.2.e3;go_simp;try with_reducible rfl) ?_ (hQ:=fun _ _ _ h=>by obtain ⟨_,h,_⟩:=h;cases h)
              try simp only [Act.put,pa,pb,pc]
              replace EC:Blk (T0).heap.size _ _:=EC
              replace zb:T0.heap.size≤(T0).heap.size:=zb
              obtain ⟨nb_,hnb⟩:∃ n,(T0).heap.size=n:=⟨_,rfl⟩
              rw [hnb] at EC
              replace zb:T0.heap.size≤nb_:=by rw [← hnb];exact zb
              have BX_:=below_sets (g:=nb_) zb [I x0,I target,I fresh,I (mA x3 x4 x5 wa wb we),I (mB x3 x4 x5 wa wb we),I (mC x3 x4 x5 wa wb we),.slice pA PH.length pC,.slice va V.length vc] 0 _ BX
              have EC_:=EC.sets [I x0,I target,I fresh,I (mA x3 x4 x5 wa wb we),I (mB x3 x4 x5 wa wb we),I (mC x3 x4 x5 wa wb we),.slice pA PH.length pC,.slice va V.length vc] rfl
              try simp only [hnb]
              refine wpAnyH_ready (rs:=[13]) (by kernel_rfl) (by simp) ?_
              refine AllReadyH.cons (i:=13) rfl (fun K hK=>?_) AllReadyH.nil
              refine stepB2 43 _ _ nb_ 0 _ [I x0,I target,I fresh,I (mA x3 x4 x5 wa wb we),I (mB x3 x4 x5 wa wb we),I (mC x3 x4 x5 wa wb we),.slice pA PH.length pC,.slice va V.length vc] it hit EC (by rw [htz];rfl) (by simp) rfl rfl rfl rfl rfl rfl ?_
              obtain ⟨VE,hVE⟩:∃ Wz,(w8).setCells nb_ 0 [I x0,I target,I fresh,I (mA x3 x4 x5 wa wb we),I (mB x3 x4 x5 wa wb we),I (mC x3 x4 x5 wa wb we),.slice pA PH.length pC,.slice va V.length vc]=Wz:=⟨_,rfl⟩
              rw [hVE] at BX_ EC_  ⊢
              clear hVE BX EC
              have BX:=BX_
              have EC:=EC_
              clear BX_ EC_
              refine hK.out _ _ ⟨KC.later BX KC.lt,RC.later BX RC.lt⟩ (fun hJ=>?_)
              clear hK K hH
              have hH:=hJ
              clear hJ
              try simp only [Act.put,pa,pb,pc]
              refine wpAnyH_done (by kernel_rfl) ?_ _
              subst hnb
              exact ⟨_,rfl,rfl,BX,EC,zb⟩
            case imp17 =>
             clear BC
             rintro ex a' w9 ⟨mb,rfl,rfl,BC,NC,zb⟩
             have zM:Hid (T0.heap.size≤mb):=zb
             clear zb
             have q1_:=(KC.later BC KC.lt).at 0 rfl
             have q2_:=(KC.later BC KC.lt).at 2 rfl
             have zE:Hid (mb < w9.heap.size):=NC.lt
             have XA_:Below w9.heap.size w9 (w9.alloc (.cells #[I 2,I realm,I x0,I x0,I 0,I 0,I x2,I 0,I 0,I 0,I 0] 33)):=(Below.refl _ _).alloc (Nat.le_refl _) _
             have EC:Blk w9.heap.size [I 2,I realm,I x0,I x0,I 0,I 0,I x2,I 0,I 0,I 0,I 0] (w9.alloc (.cells #[I 2,I realm,I x0,I x0,I 0,I 0,I x2,I 0,I 0,I 0,I 0] 33)):=Blk.new _ _ _
             replace NC:=NC.later XA_ NC.lt
             replace BC:=BC.trans (XA_.mono BC.size)
             clear XA_
             obtain ⟨W10,hW10⟩:∃ Wz,(w9.alloc (.cells #[I 2,I realm,I x0,I x0,I 0,I 0,I x2,I 0,I 0,I 0,I 0] 33))=Wz:=⟨_,rfl⟩
             rw [hW10] at NC EC BC
             have HW10:Hid ((w9.alloc (.cells #[I 2,I realm,I x0,I x0,I 0,I 0,I x2,I 0,I 0,I 0,I 0] 33))=W10):=hW10
             clear hW10
             have hw3:IntKind.i64.wrap (3+target)=3+target:=by rw [IntKind.wrap_i64];omega
             go_wp2_with fail
             try rw [HW10.out]
             refine (specPK_is (3+target) _).mono ?_
             rintro en w_ ⟨rfl,rfl⟩
             clear q1_ q2_ HW10
             clear hw3
             rw [Int.add_comm 3 target]
             go_wp2_with fail
             replace NC:=NC.drew
             replace EC:=EC.drew
             replace BC:=BC.drew
             refine wp_region_held_drew (S:=(fun Vw=>S4 b off tk au rs ev Vw)) (by kernel_rfl) (HS0.later BC) (fun hH=>?_)
             refine tK 0 133 rfl _ hH (by intro w' h;have y3:=h.c3;go_simp;try with_reducible rfl) ?_
             try simp only [Act.put,pa,pb,pc]
             refine tK 1 134 rfl _ hH (by intro w' h;have y3:=h.c3;go_simp;try with_reducible rfl) ?_
             try simp only [Act.put,pa,pb,pc]
             refine tK 2 135 rfl _ hH (by intro w' h;have y3:=h.c3;go_simp;try with_reducible rfl) ?_
             try simp only [Act.put,pa,pb,pc]
             refine wpAnyH_ready (rs:=[3]) (by kernel_rfl) (by simp) ?_
             refine AllReadyH.cons (i:=3) rfl (fun K hK=>?_) AllReadyH.nil
             go_simp
             refine (spec_atom ⟨#[]⟩ _ (by show 0≤1048576;omega)).mono ?_
             rintro en w11 ⟨rfl,hb⟩
             replace NC:=NC.later hb NC.lt
             replace EC:=EC.later hb EC.lt
             replace BC:=BC.trans (hb.mono BC.size)
             clear hb
             go_wp2_with fail
             refine hK.out _ _ (HS0.later BC) (fun hJ=>?_)
             clear hK K hH
             have hH:=hJ
             clear hJ
             try simp only [Act.put,pa,pb,pc]
             generalize hat:atomT ⟨#[]⟩=at0 at HG hH ⊢
             clear hat
             by_cases he:ev=at0
             ·rw [if_pos he] at HG
              subst he
              refine tK 4 137 rfl _ hH (by intro w' h;have y3:=h.c3;go_simp;try with_reducible rfl) ?_
              try simp only [Act.put,pa,pb,pc]
              refine tK 5 132 rfl _ hH (by intro w' h;have y3:=h.c3;go_simp;try with_reducible rfl) ?_
              try simp only [Act.put,pa,pb,pc]
              refine wpAnyH_done (by kernel_rfl) ?_ _
              have z9:Hid (w9.heap.size < w11.heap.size):=EC.lt
              obtain ⟨t,ht3,rfl⟩:∃ t:Nat,t < 3∧target=(t:Int):=⟨target.toNat,by omega,by omega⟩
              obtain ⟨zs,gs,HVs⟩:=conf_real hcf t ht3
              have hl3:=(conf_len hcf).2
              have hlt:t < c.S.length:=by omega
              have es:c.S[t]=zs:=by rw [List.getElem?_eq_getElem hlt,Option.some.injEq] at gs;exact gs
              obtain ⟨b1,o1,ea,l1,c1⟩:=(C0.hs.later BC) t hlt
              rw [es] at c1
              have hb1:(t:Int) < (c.S.length:Int):=by omega
              have HSv:Hid (roV c ((t:Int)+3)=zs):=HVs
              clear gs HVs l1
              have dS:=(TC.later BC TC.lt).at 1 rfl
              rw [ea] at dS
              have EA:Hid (c.sa=some ⟨b1,o1,none⟩):=ea
              clear ea
              have ES:Hid (c.S[t]=zs):=es
              clear hl3 es
              by_cases h7:zs=realm
              ·have e7:(zs == realm)=true:=by simpa using h7
               have H7:Hid (zs=realm):=h7
               clear h7
               have ht3_:=ht3
               have zM_:=zM.out
               have zE_:=zE.out
               have zT_:=zT.out
               have zK_:=zKT.out
               have zR_:=zR.out
               have zk_:=zK.out
               have q3_:=NC.at 1 rfl
               obtain ⟨E1,hE1⟩:∃ Wz,(World.setCells w11 w9.heap.size 4 [I (t:Int)])=Wz:=⟨_,rfl⟩
               have EC_:Blk w9.heap.size [I 2,I realm,I x0,I x0,I (t:Int),I 0,I x2,I 0,I 0,I 0,I 0] E1:=by rw [← hE1];exact EC.part 4 [I (t:Int)] _ (by simp) rfl
               have NC_:=hE1 ▸ Blk.farS (q:=w9.heap.size) (by omega) [I (t:Int)] 4 _ NC
               have BC_:Below T0.heap.size T0 E1:=by rw [← hE1];exact below_sets (g:=w9.heap.size) (by omega) [I (t:Int)] 4 _ BC
               have EC0E1:=EC
               clear NC EC BC
               have NC:=NC_
               have EC:=EC_
               have BC:=BC_
               clear NC_ EC_ BC_
               obtain ⟨E2,hE2⟩:∃ Wz,(World.setCells E1 w9.heap.size 5 [I fresh])=Wz:=⟨_,rfl⟩
               have EC_:Blk w9.heap.size [I 2,I realm,I x0,I x0,I (t:Int),I fresh,I x2,I 0,I 0,I 0,I 0] E2:=by rw [← hE2];exact EC.part 5 [I fresh] _ (by simp) rfl
               have NC_:=hE2 ▸ Blk.farS (q:=w9.heap.size) (by omega) [I fresh] 5 _ NC
               have BC_:Below T0.heap.size T0 E2:=by rw [← hE2];exact below_sets (g:=w9.heap.size) (by omega) [I fresh] 5 _ BC
               have EC0E2:=EC
               clear NC EC BC
               have NC:=NC_
               have EC:=EC_
               have BC:=BC_
               clear NC_ EC_ BC_
               have q4_:=NC.at 3 rfl
               have q5_:=NC.at 4 rfl
               have q6_:=NC.at 5 rfl
               obtain ⟨E3,hE3⟩:∃ Wz,(World.setCells E2 w9.heap.size 8 [I (mA x3 x4 x5 wa wb we),I (mB x3 x4 x5 wa wb we),I (mC x3 x4 x5 wa wb we)])=Wz:=⟨_,rfl⟩
               have EC_:Blk w9.heap.size [I 2,I realm,I x0,I x0,I (t:Int),I fresh,I x2,I 0,I (mA x3 x4 x5 wa wb we),I (mB x3 x4 x5 wa wb we),I (mC x3 x4 x5 wa wb we)] E3:=by rw [← hE3];exact EC.part 8 [I (mA x3 x4 x5 wa wb we),I (mB x3 x4 x5 wa wb we),I (mC x3 x4 x5 wa wb we)] _ (by simp) rfl
               have NC_:=hE3 ▸ Blk.farS (q:=w9.heap.size) (by omega) [I (mA x3 x4 x5 wa wb we),I (mB x3 x4 x5 wa wb we),I (mC x3 x4 x5 wa wb we)] 8 _ NC
               have BC_:Below T0.heap.size T0 E3:=by rw [← hE3];exact below_sets (g:=w9.heap.size) (by omega) [I (mA x3 x4 x5 wa wb we),I (mB x3 x4 x5 wa wb we),I (mC x3 x4 x5 wa wb we)] 8 _ BC
               have EC0E3:=EC
               clear NC EC BC
               have NC:=NC_
               have EC:=EC_
               have zE3:Hid (w9.heap.size < E3.heap.size):=EC.lt
               have zN3:Hid (mb < E3.heap.size):=NC_.lt
               have BC:=BC_
               clear NC_ EC_ BC_
               have q7_:=NC.at 1 rfl
               have q8_:=NC.at 3 rfl
               have q9_:=NC.at 4 rfl
               have q10_:=NC.at 5 rfl
               have XA_:Below E3.heap.size E3 (E3.alloc (.cells #[I fresh,I (t:Int),I nonce,I (mA x3 x4 x5 wa wb we),I (mB x3 x4 x5 wa wb we),I (mC x3 x4 x5 wa wb we)] 47)):=(Below.refl _ _).alloc (Nat.le_refl _) _
               have GC:Blk E3.heap.size [I fresh,I (t:Int),I nonce,I (mA x3 x4 x5 wa wb we),I (mB x3 x4 x5 wa wb we),I (mC x3 x4 x5 wa wb we)] (E3.alloc (.cells #[I fresh,I (t:Int),I nonce,I (mA x3 x4 x5 wa wb we),I (mB x3 x4 x5 wa wb we),I (mC x3 x4 x5 wa wb we)] 47)):=Blk.new _ _ _
               replace NC:=NC.later XA_ NC.lt
               replace EC:=EC.later XA_ EC.lt
               replace BC:=BC.trans (XA_.mono BC.size)
               clear XA_
               obtain ⟨E4,hE4⟩:∃ Wz,(E3.alloc (.cells #[I fresh,I (t:Int),I nonce,I (mA x3 x4 x5 wa wb we),I (mB x3 x4 x5 wa wb we),I (mC x3 x4 x5 wa wb we)] 47))=Wz:=⟨_,rfl⟩
               rw [hE4] at NC EC GC BC
               clear zM_ zE_ zT_ zK_ zR_ zk_
               go_wp2_with (first | (refine wpList_st1 3 _ _ w9.heap.size 4 _ (I (t:Int)) i1 hi1 EC0E1 hz1 (by simp) rfl rfl rfl rfl rfl ?_;try simp only [Act.put];rw [hE1]) | (refine wpList_st1 3 _ _ w9.heap.size 5 _ (I fresh) i1 hi1 EC0E2 hz1 (by simp) rfl rfl rfl rfl rfl ?_;try simp only [Act.put];rw [hE2]) | (refine wpList_stB 31 _ _ w9.heap.size 8 _ [I (mA x3 x4 x5 wa wb we),I (mB x3 x4 x5 wa wb we),I (mC x3 x4 x5 wa wb we)] i3 hi3 EC0E3 (by rw [hz3];rfl) (by simp) rfl rfl rfl rfl rfl ?_;try simp only [Act.put];rw [hE3]) | (rw [hE4]))
               clear dS q3_ EC0E1 EC0E2 q4_ q5_ q6_ EC0E3 q7_ q8_ q9_ q10_ hE1 hE2 hE3 hE4
               have HR:Hid (toR realm (askG c realm now fresh (t:Int) nonce tk au rs ev)=replyR nonce (shT x0 (t:Int) fresh (mA x3 x4 x5 wa wb we) (mB x3 x4 x5 wa wb we) (mC x3 x4 x5 wa wb we) PH V (pkV ((t:Int)+3))) (shG fresh (t:Int) nonce (mA x3 x4 x5 wa wb we) (mB x3 x4 x5 wa wb we) (mC x3 x4 x5 wa wb we) x2) ⟨2,realm,x0,x0,(t:Int),fresh,x2,0,(mA x3 x4 x5 wa wb we),(mB x3 x4 x5 wa wb we),(mC x3 x4 x5 wa wb we)⟩):=by show _=_;rw [HG.out,show hoG c realm fresh (t:Int) nonce x0 x2 x3 x4 x5 wa wb we PH V=.ok ⟨x0,(t:Int),fresh,mA x3 x4 x5 wa wb we,mB x3 x4 x5 wa wb we,mC x3 x4 x5 wa wb we,PH,V,pkV ((t:Int)+3),x2,nonce,2,x0,x2,0⟩ from if_pos (HSv.out.trans H7.out)];rfl
               have RHc_:=RH.later BC
               have RVc_:=RV0.later BC
               have RHc:RowAt (Value.int .i64) E4.drew pA PH:=RHc_
               have RVc:RowAt (Value.int .i64) E4.drew va V:=RVc_
               clear RHc_ RVc_
               replace UC:=UC.later BC UC.lt
               replace KC:=KC.later BC KC.lt
               replace BC:=BW.trans (BC.mono BW.size)
               have zM_:=zM.out
               have zE_:=zE.out
               have zT_:=zT.out
               have zK_:=zKT.out
               have zR_:=zR.out
               have zk_:=zK.out
               have zG1:=GC.lt
               have zN1:=NC.lt
               have zE1:=EC.lt
               have zG_:w9.heap.size < E3.heap.size:=zE3.out
               replace UC:=UC.drew
               replace NC:=NC.drew
               replace GC:=GC.drew
               replace EC:=EC.drew
               replace KC:=KC.drew
               replace BC:=BC.drew
               refine wp_region_held_drew (S:=(fun Vw=>Blk mb [I x0,I (t:Int),I fresh,I (mA x3 x4 x5 wa wb we),I (mB x3 x4 x5 wa wb we),I (mC x3 x4 x5 wa wb we),.slice pA PH.length pC,.slice va V.length vc] Vw∧Blk E3.heap.size [I fresh,I (t:Int),I nonce,I (mA x3 x4 x5 wa wb we),I (mB x3 x4 x5 wa wb we),I (mC x3 x4 x5 wa wb we)] Vw∧Blk w9.heap.size [I 2,I realm,I x0,I x0,I (t:Int),I fresh,I x2,I 0,I (mA x3 x4 x5 wa wb we),I (mB x3 x4 x5 wa wb we),I (mC x3 x4 x5 wa wb we)] Vw∧Blk nb [I x0,I x1,I x2,I x3,I x4,I x5,.slice ua P.length uc,.slice va V.length vc] Vw)) (by kernel_rfl) ⟨NC,GC,EC,KC⟩ (fun hH=>?_)
               refine tK 0 214 rfl _ hH (by intro w' h;have a0:=h.1.e8;have b0:=h.2.1.e6;have e0:=h.2.2.1.e11;have k2:=h.2.2.2.at 2 rfl;go_simp;try with_reducible rfl) ?_
               try simp only [Act.put,pa,pb,pc]
               refine tK 1 215 rfl _ hH (by intro w' h;have a0:=h.1.e8;have b0:=h.2.1.e6;have e0:=h.2.2.1.e11;have k2:=h.2.2.2.at 2 rfl;go_simp;try with_reducible rfl) ?_
               try simp only [Act.put,pa,pb,pc]
               refine tK 2 216 rfl _ hH (by intro w' h;have a0:=h.1.e8;have b0:=h.2.1.e6;have e0:=h.2.2.1.e11;have k2:=h.2.2.2.at 2 rfl;go_simp;try with_reducible rfl) ?_
               try simp only [Act.put,pa,pb,pc]
               refine tK 4 218 rfl _ hH (by intro w' h;have a0:=h.1.e8;have b0:=h.2.1.e6;have e0:=h.2.2.1.e11;have k2:=h.2.2.2.at 2 rfl;go_simp;try with_reducible rfl) ?_
               try simp only [Act.put,pa,pb,pc]
               refine tK 5 219 rfl _ hH (by intro w' h;have a0:=h.1.e8;have b0:=h.2.1.e6;have e0:=h.2.2.1.e11;have k2:=h.2.2.2.at 2 rfl;go_simp;try with_reducible rfl) ?_
               try simp only [Act.put,pa,pb,pc]
               refine tK 6 220 rfl _ hH (by intro w' h;have a0:=h.1.e8;have b0:=h.2.1.e6;have e0:=h.2.2.1.e11;have k2:=h.2.2.2.at 2 rfl;go_simp;try with_reducible rfl) ?_
               try simp only [Act.put,pa,pb,pc]
               refine tK 8 222 rfl _ hH (by intro w' h;have a0:=h.1.e8;have b0:=h.2.1.e6;have e0:=h.2.2.1.e11;have k2:=h.2.2.2.at 2 rfl;go_simp;try with_reducible rfl) ?_
               try simp only [Act.put,pa,pb,pc]
               refine wpAnyH_ready (rs:=[3]) (by kernel_rfl) (by simp) ?_
               refine AllReadyH.cons (i:=3) rfl (fun K hK=>?_) AllReadyH.nil
               go_simp
               refine (specShowT_is x0 (t:Int) fresh (mA x3 x4 x5 wa wb we) (mB x3 x4 x5 wa wb we) (mC x3 x4 x5 wa wb we) pA PH pC va V vc (pkV ((t:Int)+3)) _ RHc RVc (by have:=l6.out;omega) (by omega)).mono ?_
               rintro en v1 ⟨rfl,hb⟩
               replace UC:=UC.later hb UC.lt
               replace NC:=NC.later hb NC.lt
               replace GC:=GC.later hb GC.lt
               replace EC:=EC.later hb EC.lt
               replace KC:=KC.later hb KC.lt
               replace BC:=BC.trans (hb.mono BC.size)
               clear hb
               go_wp2_with fail
               refine hK.out _ _ ⟨NC,GC,EC,KC⟩ (fun hJ=>?_)
               clear hK K hH
               have hH:=hJ
               clear hJ
               try simp only [Act.put,pa,pb,pc]
               clear RHc RVc
               refine wpAnyH_ready (rs:=[7]) (by kernel_rfl) (by simp) ?_
               refine AllReadyH.cons (i:=7) rfl (fun K hK=>?_) AllReadyH.nil
               go_simp
               refine (specShowG_is fresh (t:Int) nonce (mA x3 x4 x5 wa wb we) (mB x3 x4 x5 wa wb we) (mC x3 x4 x5 wa wb we) x2 _).mono ?_
               rintro en v2 ⟨rfl,hb⟩
               replace UC:=UC.later hb UC.lt
               replace NC:=NC.later hb NC.lt
               replace GC:=GC.later hb GC.lt
               replace EC:=EC.later hb EC.lt
               replace KC:=KC.later hb KC.lt
               replace BC:=BC.trans (hb.mono BC.size)
               clear hb
               go_wp2_with fail
               refine hK.out _ _ ⟨NC,GC,EC,KC⟩ (fun hJ=>?_)
               clear hK K hH
               have hH:=hJ
               clear hJ
               try simp only [Act.put,pa,pb,pc]
               have hs1:=shT_size x0 (t:Int) fresh (mA x3 x4 x5 wa wb we) (mB x3 x4 x5 wa wb we) (mC x3 x4 x5 wa wb we) PH V (pkV ((t:Int)+3))
               have hs2:=shG_size fresh (t:Int) nonce (mA x3 x4 x5 wa wb we) (mB x3 x4 x5 wa wb we) (mC x3 x4 x5 wa wb we) x2
               refine wpAnyH_ready (rs:=[9]) (by kernel_rfl) (by simp) ?_
               refine AllReadyH.cons (i:=9) rfl (fun K hK=>?_) AllReadyH.nil
               go_simp
               refine (specReply_is nonce (shT x0 (t:Int) fresh (mA x3 x4 x5 wa wb we) (mB x3 x4 x5 wa wb we) (mC x3 x4 x5 wa wb we) PH V (pkV ((t:Int)+3))) (shG fresh (t:Int) nonce (mA x3 x4 x5 wa wb we) (mB x3 x4 x5 wa wb we) (mC x3 x4 x5 wa wb we) x2) ⟨2,realm,x0,x0,(t:Int),fresh,x2,0,(mA x3 x4 x5 wa wb we),(mB x3 x4 x5 wa wb we),(mC x3 x4 x5 wa wb we)⟩ _ (by omega) (by omega)).mono ?_
               rintro en v3 ⟨rfl,hb⟩
               replace UC:=UC.later hb UC.lt
               replace NC:=NC.later hb NC.lt
               replace GC:=GC.later hb GC.lt
               replace EC:=EC.later hb EC.lt
               replace KC:=KC.later hb KC.lt
               replace BC:=BC.trans (hb.mono BC.size)
               clear hb
               go_wp2_with fail
               refine hK.out _ _ ⟨NC,GC,EC,KC⟩ (fun hJ=>?_)
               clear hK K hH
               have hH:=hJ
               clear hJ
               try simp only [Act.put,pa,pb,pc]
               generalize replyR nonce (shT x0 (t:Int) fresh (mA x3 x4 x5 wa wb we) (mB x3 x4 x5 wa wb we) (mC x3 x4 x5 wa wb we) PH V (pkV ((t:Int)+3))) (shG fresh (t:Int) nonce (mA x3 x4 x5 wa wb we) (mB x3 x4 x5 wa wb we) (mC x3 x4 x5 wa wb we) x2) ⟨2,realm,x0,x0,(t:Int),fresh,x2,0,(mA x3 x4 x5 wa wb we),(mB x3 x4 x5 wa wb we),(mC x3 x4 x5 wa wb we)⟩=rp at HR hH ⊢
               obtain ⟨rc,rt,e0,e1,e2,e3,e4,e5,e6,e7,e8,e9,e10⟩:=rp
               have N_:Blk (w.heap.size+1) [I rc,.string rt,I e0,I e1,I e2,I e3,I e4,I e5,I e6,I e7,I e8,I e9,I e10] ((v3).setCells (w.heap.size+1) 0 [I rc,.string rt,I e0,I e1,I e2,I e3,I e4,I e5,I e6,I e7,I e8,I e9,I e10]):=UC.part 0 [I rc,.string rt,I e0,I e1,I e2,I e3,I e4,I e5,I e6,I e7,I e8,I e9,I e10] _ (by simp) rfl
               have NC_:=Blk.farS (q:=(w.heap.size+1)) (by omega) [I rc,.string rt,I e0,I e1,I e2,I e3,I e4,I e5,I e6,I e7,I e8,I e9,I e10] 0 _ NC
               have GC_:=Blk.farS (q:=(w.heap.size+1)) (by omega) [I rc,.string rt,I e0,I e1,I e2,I e3,I e4,I e5,I e6,I e7,I e8,I e9,I e10] 0 _ GC
               have EC_:=Blk.farS (q:=(w.heap.size+1)) (by omega) [I rc,.string rt,I e0,I e1,I e2,I e3,I e4,I e5,I e6,I e7,I e8,I e9,I e10] 0 _ EC
               have KC_:=Blk.farS (q:=(w.heap.size+1)) (by omega) [I rc,.string rt,I e0,I e1,I e2,I e3,I e4,I e5,I e6,I e7,I e8,I e9,I e10] 0 _ KC
               have BC_:=below_sets (m:=w.heap.size) (g:=(w.heap.size+1)) (by omega) [I rc,.string rt,I e0,I e1,I e2,I e3,I e4,I e5,I e6,I e7,I e8,I e9,I e10] 0 _ BC
               refine wpAnyH_ready (rs:=[10]) (by kernel_rfl) (by simp) ?_
               refine AllReadyH.cons (i:=10) rfl (fun K hK=>?_) AllReadyH.nil
               refine stepB 35 _ _ ((w.heap.size+1)) 0 [I 0,.string ⟨#[]⟩,I 0,I 0,I 0,I 0,I 0,I 0,I 0,I 0,I 0,I 0,I 0] [I rc,.string rt,I e0,I e1,I e2,I e3,I e4,I e5,I e6,I e7,I e8,I e9,I e10] ir hir UC (by rw [hrz];rfl) (by simp) rfl rfl rfl rfl rfl ?_
               try simp only [Act.put,pa]
               obtain ⟨VU,hVU⟩:∃ Wz,(v3).setCells ((w.heap.size+1)) 0 [I rc,.string rt,I e0,I e1,I e2,I e3,I e4,I e5,I e6,I e7,I e8,I e9,I e10]=Wz:=⟨_,rfl⟩
               rw [hVU] at N_ BC_ NC_ GC_ EC_ KC_ ⊢
               clear hVU UC BC NC GC EC KC
               have UC:=N_
               have BC:=BC_
               have NC:=NC_
               have GC:=GC_
               have EC:=EC_
               have KC:=KC_
               clear N_ BC_ NC_ GC_ EC_ KC_
               refine hK.out _ _ ⟨NC,GC,EC,KC⟩ (fun hJ=>?_)
               clear hK K hH
               have hH:=hJ
               clear hJ
               try simp only [Act.put,pa,pb,pc]
               refine wpAnyH_done (by kernel_rfl) ?_ _
               go_wp2_with fail
               exact bodyPost_ret (res_B1 rfl _ _ (w.heap.size+1) _ ir hir ag35 UC (by rw [hrz];rfl) rfl) rfl ⟨by rw [HR.out],BC⟩
              ·have e7:(zs == realm)=false:=by simpa using h7
               have H7:Hid (¬ zs=realm):=h7
               clear h7
               go_wp2_with fail
               clear e7 dS c1
               replace NC:=NC.drew
               replace EC:=EC.drew
               replace BC:=BC.drew
               refine wp_region_held_drew (S:=(fun Vw=>Blk w.heap.size [.slice c.ua c.U.length c.uc,.slice c.sa c.S.length c.sc,.slice c.la c.L.length c.lc,.slice c.xa c.X.length c.xc,I c.k] Vw∧RowAt (Value.int .i64) Vw c.sa c.S)) (by kernel_rfl) ⟨TC.later BC TC.lt,(C0.later BC).hs⟩ (fun hH=>?_)
               refine tK 0 181 rfl _ hH (by intro w' h;have d0:=h.1.e5;go_simp;try with_reducible rfl) ?_
               try simp only [Act.put,pa,pb,pc]
               refine tK 1 182 rfl _ hH (by intro w' h;have d0:=h.1.e5;go_simp;try with_reducible rfl) ?_
               try simp only [Act.put,pa,pb,pc]
               refine tK 2 183 rfl _ hH (by intro w' h;have d1:=h.1.at 1 rfl;rw [EA.out] at d1;obtain ⟨b_,o_,e_,_,c1⟩:=h.2 t hlt;rw [EA.out] at e_;cases e_;rw [ES.out] at c1;go_simp;try with_reducible rfl) ?_
               try simp only [Act.put,pa,pb,pc]
               refine tK 3 184 rfl _ hH (by intro w' h;have d1:=h.1.at 1 rfl;rw [EA.out] at d1;obtain ⟨b_,o_,e_,_,c1⟩:=h.2 t hlt;rw [EA.out] at e_;cases e_;rw [ES.out] at c1;go_simp;try with_reducible rfl) ?_
               try simp only [Act.put,pa,pb,pc]
               refine tK 4 185 rfl _ hH (by intro w' h;have d1:=h.1.at 1 rfl;rw [EA.out] at d1;obtain ⟨b_,o_,e_,_,c1⟩:=h.2 t hlt;rw [EA.out] at e_;cases e_;rw [ES.out] at c1;go_simp;try with_reducible rfl) ?_
               try simp only [Act.put,pa,pb,pc]
               refine tK 5 186 rfl _ hH (by intro w' h;have d1:=h.1.at 1 rfl;rw [EA.out] at d1;obtain ⟨b_,o_,e_,_,c1⟩:=h.2 t hlt;rw [EA.out] at e_;cases e_;rw [ES.out] at c1;go_simp;try with_reducible rfl) ?_
               try simp only [Act.put,pa,pb,pc]
               refine tK 6 187 rfl _ hH (by intro w' h;have d1:=h.1.at 1 rfl;rw [EA.out] at d1;obtain ⟨b_,o_,e_,_,c1⟩:=h.2 t hlt;rw [EA.out] at e_;cases e_;rw [ES.out] at c1;go_simp;try with_reducible rfl) ?_
               try simp only [Act.put,pa,pb,pc]
               refine wpAnyH_ready (rs:=[7]) (by kernel_rfl) (by simp) ?_
               refine AllReadyH.cons (i:=7) rfl (fun K hK=>?_) AllReadyH.nil
               go_simp
               refine (specNH_is c realm zs _ (C0.later BC) KO).mono ?_
               rintro en w12 ⟨rfl,hb⟩
               replace NC:=NC.later hb NC.lt
               replace EC:=EC.later hb EC.lt
               replace BC:=BC.trans (hb.mono BC.size)
               clear hb
               go_wp2_with fail
               refine hK.out _ _ ⟨TC.later BC TC.lt,(C0.later BC).hs⟩ (fun hJ=>?_)
               clear hK K hH
               have hH:=hJ
               clear hJ
               try simp only [Act.put,pa,pb,pc]
               refine tK 8 29 rfl _ hH (by intro w' h;have d1:=h.1.at 1 rfl;rw [EA.out] at d1;obtain ⟨b_,o_,e_,_,c1⟩:=h.2 t hlt;rw [EA.out] at e_;cases e_;rw [ES.out] at c1;go_simp;try with_reducible rfl) ?_
               try simp only [Act.put,pa,pb,pc]
               refine wpAnyH_done (by kernel_rfl) ?_ _
               have hq:=nh_range c realm zs
               have HQ:Hid (nhV c realm (roV c ((t:Int)+3))=nhV c realm zs):=by show _=_;rw [HSv.out]
               generalize nhV c realm zs=q at hq HQ hH ⊢
               rcases hq with hq | hq
               ·have HQ1:Hid (q=-1):=hq
                have e8:decide (q < 0)=true:=decide_eq_true (by omega)
                clear hq
                have HR:Hid ((toR realm (askG c realm now fresh (t:Int) nonce tk au rs ev)).val=(failR 5).val):=by show _=_;rw [show askG c realm now fresh (t:Int) nonce tk au rs ev=.error 5 from by rw [HG.out];show hoG _ _ _ _ _ _ _ _ _ _ _ _ _ _ _=_;unfold hoG;rw [HSv.out,if_neg H7.out,if_pos (by have h_:=HQ.out;rw [HSv.out] at h_;exact h_.trans HQ1.out)]];rfl
                go_wp2_with fail
                refine (spec_fail 5 _).mono ?_
                rintro en wf ⟨rfl,hb⟩
                replace BC:=BC.trans (hb.mono BC.size)
                clear hb
                replace UC:=UC.later BC UC.lt
                replace BC:=BW.trans (BC.mono BW.size)
                have FU:=UC.sets [I 5,.string ⟨#[]⟩,I 0,I 0,I 0,I 0,I 0,I 0,I 0,I 0,I 0,I 0,I 0] rfl
                have FB:=below_sets (m:=w.heap.size) (g:=(w.heap.size+1)) (by omega) [I 5,.string ⟨#[]⟩,I 0,I 0,I 0,I 0,I 0,I 0,I 0,I 0,I 0,I 0,I 0] 0 _ BC
                rw [show (failR 5).val=.agg #[I 5,.string ⟨#[]⟩,I 0,I 0,I 0,I 0,I 0,I 0,I 0,I 0,I 0,I 0,I 0] from rfl]
                go_wp2_with (refine wpList_stB 35 _ _ (w.heap.size+1) 0 [I 0,.string ⟨#[]⟩,I 0,I 0,I 0,I 0,I 0,I 0,I 0,I 0,I 0,I 0,I 0] [I 5,.string ⟨#[]⟩,I 0,I 0,I 0,I 0,I 0,I 0,I 0,I 0,I 0,I 0,I 0] ir hir UC (by rw [hrz];rfl) (by simp) rfl rfl rfl rfl rfl ?_;try simp only [Act.put])
                exact bodyPost_ret (res_B1 rfl _ _ (w.heap.size+1) _ ir hir ag35 FU (by rw [hrz];rfl) rfl) rfl ⟨by rw [HR.out];rfl,FB⟩
               ·have e8:decide (q < 0)=false:=decide_eq_false (by omega)
                have hw8:IntKind.i64.wrap (10+q)=10+q:=by rw [IntKind.wrap_i64];omega
                have HQ1:Hid (¬ q=-1):=(show ¬ q=-1 by omega)
                clear hq
                have zM_:=zM.out
                have zE_:=zE.out
                have zT_:=zT.out
                have zK_:=zKT.out
                have zR_:=zR.out
                have zk_:=zK.out
                obtain ⟨N1,hN1⟩:∃ Wz,(World.setCells w12 mb 1 [I (10+q)])=Wz:=⟨_,rfl⟩
                have NC_:Blk mb [I x0,I (10+q),I fresh,I (mA x3 x4 x5 wa wb we),I (mB x3 x4 x5 wa wb we),I (mC x3 x4 x5 wa wb we),.slice pA PH.length pC,.slice va V.length vc] N1:=by rw [← hN1];exact NC.part 1 [I (10+q)] _ (by simp) rfl
                have EC_:=hN1 ▸ Blk.farS (q:=mb) (by omega) [I (10+q)] 1 _ EC
                have BC_:Below T0.heap.size T0 N1:=by rw [← hN1];exact below_sets (g:=mb) (by omega) [I (10+q)] 1 _ BC
                have NC0N1:=NC
                clear NC EC BC
                have NC:=NC_
                have EC:=EC_
                have BC:=BC_
                clear NC_ EC_ BC_
                obtain ⟨N2,hN2⟩:∃ Wz,(World.setCells N1 w9.heap.size 0 [I 3])=Wz:=⟨_,rfl⟩
                have EC_:Blk w9.heap.size [I 3,I realm,I x0,I x0,I 0,I 0,I x2,I 0,I 0,I 0,I 0] N2:=by rw [← hN2];exact EC.part 0 [I 3] _ (by simp) rfl
                have NC_:=hN2 ▸ Blk.farS (q:=w9.heap.size) (by omega) [I 3] 0 _ NC
                have BC_:Below T0.heap.size T0 N2:=by rw [← hN2];exact below_sets (g:=w9.heap.size) (by omega) [I 3] 0 _ BC
                have EC0N2:=EC
                clear NC EC BC
                have NC:=NC_
                have EC:=EC_
                have BC:=BC_
                clear NC_ EC_ BC_
                clear zM_ zE_ zT_ zK_ zR_ zk_
                go_wp2_with (first | (refine wpList_st1 3 _ _ mb 1 _ (I (10+q)) i1 hi1 NC0N1 hz1 (by simp) rfl rfl rfl rfl rfl ?_;try simp only [Act.put];rw [hN1]) | (refine wpList_st1 3 _ _ w9.heap.size 0 _ (I 3) i1 hi1 EC0N2 hz1 (by simp) rfl rfl rfl rfl rfl ?_;try simp only [Act.put];rw [hN2]))
                refine (specLK_is realm q _).mono ?_
                rintro en w_ ⟨rfl,rfl⟩
                clear NC0N1 EC0N2 hN1 hN2
                clear e8 hw8
                have ht3_:=ht3
                have zM_:=zM.out
                have zE_:=zE.out
                have zT_:=zT.out
                have zK_:=zKT.out
                have zR_:=zR.out
                have zk_:=zK.out
                have q3_:=NC.at 1 rfl
                obtain ⟨E1,hE1⟩:∃ Wz,(World.setCells N2 w9.heap.size 4 [I (10+q)])=Wz:=⟨_,rfl⟩
                have EC_:Blk w9.heap.size [I 3,I realm,I x0,I x0,I (10+q),I 0,I x2,I 0,I 0,I 0,I 0] E1:=by rw [← hE1];exact EC.part 4 [I (10+q)] _ (by simp) rfl
                have NC_:=hE1 ▸ Blk.farS (q:=w9.heap.size) (by omega) [I (10+q)] 4 _ NC
                have BC_:Below T0.heap.size T0 E1:=by rw [← hE1];exact below_sets (g:=w9.heap.size) (by omega) [I (10+q)] 4 _ BC
                have EC0E1:=EC
                clear NC EC BC
                have NC:=NC_
                have EC:=EC_
                have BC:=BC_
                clear NC_ EC_ BC_
                obtain ⟨E2,hE2⟩:∃ Wz,(World.setCells E1 w9.heap.size 5 [I fresh])=Wz:=⟨_,rfl⟩
                have EC_:Blk w9.heap.size [I 3,I realm,I x0,I x0,I (10+q),I fresh,I x2,I 0,I 0,I 0,I 0] E2:=by rw [← hE2];exact EC.part 5 [I fresh] _ (by simp) rfl
                have NC_:=hE2 ▸ Blk.farS (q:=w9.heap.size) (by omega) [I fresh] 5 _ NC
                have BC_:Below T0.heap.size T0 E2:=by rw [← hE2];exact below_sets (g:=w9.heap.size) (by omega) [I fresh] 5 _ BC
                have EC0E2:=EC
                clear NC EC BC
                have NC:=NC_
                have EC:=EC_
                have BC:=BC_
                clear NC_ EC_ BC_
                have q4_:=NC.at 3 rfl
                have q5_:=NC.at 4 rfl
                have q6_:=NC.at 5 rfl
                obtain ⟨E3,hE3⟩:∃ Wz,(World.setCells E2 w9.heap.size 8 [I (mA x3 x4 x5 wa wb we),I (mB x3 x4 x5 wa wb we),I (mC x3 x4 x5 wa wb we)])=Wz:=⟨_,rfl⟩
                have EC_:Blk w9.heap.size [I 3,I realm,I x0,I x0,I (10+q),I fresh,I x2,I 0,I (mA x3 x4 x5 wa wb we),I (mB x3 x4 x5 wa wb we),I (mC x3 x4 x5 wa wb we)] E3:=by rw [← hE3];exact EC.part 8 [I (mA x3 x4 x5 wa wb we),I (mB x3 x4 x5 wa wb we),I (mC x3 x4 x5 wa wb we)] _ (by simp) rfl
                have NC_:=hE3 ▸ Blk.farS (q:=w9.heap.size) (by omega) [I (mA x3 x4 x5 wa wb we),I (mB x3 x4 x5 wa wb we),I (mC x3 x4 x5 wa wb we)] 8 _ NC
                have BC_:Below T0.heap.size T0 E3:=by rw [← hE3];exact below_sets (g:=w9.heap.size) (by omega) [I (mA x3 x4 x5 wa wb we),I (mB x3 x4 x5 wa wb we),I (mC x3 x4 x5 wa wb we)] 8 _ BC
                have EC0E3:=EC
                clear NC EC BC
                have NC:=NC_
                have EC:=EC_
                have zE3:Hid (w9.heap.size < E3.heap.size):=EC.lt
                have zN3:Hid (mb < E3.heap.size):=NC_.lt
                have BC:=BC_
                clear NC_ EC_ BC_
                have q7_:=NC.at 1 rfl
                have q8_:=NC.at 3 rfl
                have q9_:=NC.at 4 rfl
                have q10_:=NC.at 5 rfl
                have XA_:Below E3.heap.size E3 (E3.alloc (.cells #[I fresh,I (10+q),I nonce,I (mA x3 x4 x5 wa wb we),I (mB x3 x4 x5 wa wb we),I (mC x3 x4 x5 wa wb we)] 47)):=(Below.refl _ _).alloc (Nat.le_refl _) _
                have GC:Blk E3.heap.size [I fresh,I (10+q),I nonce,I (mA x3 x4 x5 wa wb we),I (mB x3 x4 x5 wa wb we),I (mC x3 x4 x5 wa wb we)] (E3.alloc (.cells #[I fresh,I (10+q),I nonce,I (mA x3 x4 x5 wa wb we),I (mB x3 x4 x5 wa wb we),I (mC x3 x4 x5 wa wb we)] 47)):=Blk.new _ _ _
                replace NC:=NC.later XA_ NC.lt
                replace EC:=EC.later XA_ EC.lt
                replace BC:=BC.trans (XA_.mono BC.size)
                clear XA_
                obtain ⟨E4,hE4⟩:∃ Wz,(E3.alloc (.cells #[I fresh,I (10+q),I nonce,I (mA x3 x4 x5 wa wb we),I (mB x3 x4 x5 wa wb we),I (mC x3 x4 x5 wa wb we)] 47))=Wz:=⟨_,rfl⟩
                rw [hE4] at NC EC GC BC
                clear zM_ zE_ zT_ zK_ zR_ zk_
                go_wp2_with (first | (refine wpList_st1 3 _ _ w9.heap.size 4 _ (I (10+q)) i1 hi1 EC0E1 hz1 (by simp) rfl rfl rfl rfl rfl ?_;try simp only [Act.put];rw [hE1]) | (refine wpList_st1 3 _ _ w9.heap.size 5 _ (I fresh) i1 hi1 EC0E2 hz1 (by simp) rfl rfl rfl rfl rfl ?_;try simp only [Act.put];rw [hE2]) | (refine wpList_stB 31 _ _ w9.heap.size 8 _ [I (mA x3 x4 x5 wa wb we),I (mB x3 x4 x5 wa wb we),I (mC x3 x4 x5 wa wb we)] i3 hi3 EC0E3 (by rw [hz3];rfl) (by simp) rfl rfl rfl rfl rfl ?_;try simp only [Act.put];rw [hE3]) | (rw [hE4]))
                clear q3_ EC0E1 EC0E2 q4_ q5_ q6_ EC0E3 q7_ q8_ q9_ q10_ hE1 hE2 hE3 hE4
                have HR:Hid (toR realm (askG c realm now fresh (t:Int) nonce tk au rs ev)=replyR nonce (shT x0 (10+q) fresh (mA x3 x4 x5 wa wb we) (mB x3 x4 x5 wa wb we) (mC x3 x4 x5 wa wb we) PH V (lkV realm q)) (shG fresh (10+q) nonce (mA x3 x4 x5 wa wb we) (mB x3 x4 x5 wa wb we) (mC x3 x4 x5 wa wb we) x2) ⟨3,realm,x0,x0,(10+q),fresh,x2,0,(mA x3 x4 x5 wa wb we),(mB x3 x4 x5 wa wb we),(mC x3 x4 x5 wa wb we)⟩):=by show _=_;rw [HG.out,show hoG c realm fresh (t:Int) nonce x0 x2 x3 x4 x5 wa wb we PH V=.ok ⟨x0,10+q,fresh,mA x3 x4 x5 wa wb we,mB x3 x4 x5 wa wb we,mC x3 x4 x5 wa wb we,PH,V,lkV realm q,x2,nonce,3,x0,x2,0⟩ from by unfold hoG;rw [HSv.out,if_neg H7.out];have h_:=HQ.out;rw [HSv.out] at h_;rw [h_,if_neg HQ1.out]];rfl
                have RHc_:=RH.later BC
                have RVc_:=RV0.later BC
                have RHc:RowAt (Value.int .i64) E4.drew pA PH:=RHc_
                have RVc:RowAt (Value.int .i64) E4.drew va V:=RVc_
                clear RHc_ RVc_
                replace UC:=UC.later BC UC.lt
                replace KC:=KC.later BC KC.lt
                replace BC:=BW.trans (BC.mono BW.size)
                have zM_:=zM.out
                have zE_:=zE.out
                have zT_:=zT.out
                have zK_:=zKT.out
                have zR_:=zR.out
                have zk_:=zK.out
                have zG1:=GC.lt
                have zN1:=NC.lt
                have zE1:=EC.lt
                have zG_:w9.heap.size < E3.heap.size:=zE3.out
                replace UC:=UC.drew
                replace NC:=NC.drew
                replace GC:=GC.drew
                replace EC:=EC.drew
                replace KC:=KC.drew
                replace BC:=BC.drew
                refine wp_region_held_drew (S:=(fun Vw=>Blk mb [I x0,I (10+q),I fresh,I (mA x3 x4 x5 wa wb we),I (mB x3 x4 x5 wa wb we),I (mC x3 x4 x5 wa wb we),.slice pA PH.length pC,.slice va V.length vc] Vw∧Blk E3.heap.size [I fresh,I (10+q),I nonce,I (mA x3 x4 x5 wa wb we),I (mB x3 x4 x5 wa wb we),I (mC x3 x4 x5 wa wb we)] Vw∧Blk w9.heap.size [I 3,I realm,I x0,I x0,I (10+q),I fresh,I x2,I 0,I (mA x3 x4 x5 wa wb we),I (mB x3 x4 x5 wa wb we),I (mC x3 x4 x5 wa wb we)] Vw∧Blk nb [I x0,I x1,I x2,I x3,I x4,I x5,.slice ua P.length uc,.slice va V.length vc] Vw)) (by kernel_rfl) ⟨NC,GC,EC,KC⟩ (fun hH=>?_)
                refine tK 0 214 rfl _ hH (by intro w' h;have a0:=h.1.e8;have b0:=h.2.1.e6;have e0:=h.2.2.1.e11;have k2:=h.2.2.2.at 2 rfl;go_simp;try with_reducible rfl) ?_
                try simp only [Act.put,pa,pb,pc]
                refine tK 1 215 rfl _ hH (by intro w' h;have a0:=h.1.e8;have b0:=h.2.1.e6;have e0:=h.2.2.1.e11;have k2:=h.2.2.2.at 2 rfl;go_simp;try with_reducible rfl) ?_
                try simp only [Act.put,pa,pb,pc]
                refine tK 2 216 rfl _ hH (by intro w' h;have a0:=h.1.e8;have b0:=h.2.1.e6;have e0:=h.2.2.1.e11;have k2:=h.2.2.2.at 2 rfl;go_simp;try with_reducible rfl) ?_
                try simp only [Act.put,pa,pb,pc]
                refine tK 4 218 rfl _ hH (by intro w' h;have a0:=h.1.e8;have b0:=h.2.1.e6;have e0:=h.2.2.1.e11;have k2:=h.2.2.2.at 2 rfl;go_simp;try with_reducible rfl) ?_
                try simp only [Act.put,pa,pb,pc]
                refine tK 5 219 rfl _ hH (by intro w' h;have a0:=h.1.e8;have b0:=h.2.1.e6;have e0:=h.2.2.1.e11;have k2:=h.2.2.2.at 2 rfl;go_simp;try with_reducible rfl) ?_
                try simp only [Act.put,pa,pb,pc]
                refine tK 6 220 rfl _ hH (by intro w' h;have a0:=h.1.e8;have b0:=h.2.1.e6;have e0:=h.2.2.1.e11;have k2:=h.2.2.2.at 2 rfl;go_simp;try with_reducible rfl) ?_
                try simp only [Act.put,pa,pb,pc]
                refine tK 8 222 rfl _ hH (by intro w' h;have a0:=h.1.e8;have b0:=h.2.1.e6;have e0:=h.2.2.1.e11;have k2:=h.2.2.2.at 2 rfl;go_simp;try with_reducible rfl) ?_
                try simp only [Act.put,pa,pb,pc]
                refine wpAnyH_ready (rs:=[3]) (by kernel_rfl) (by simp) ?_
                refine AllReadyH.cons (i:=3) rfl (fun K hK=>?_) AllReadyH.nil
                go_simp
                refine (specShowT_is x0 (10+q) fresh (mA x3 x4 x5 wa wb we) (mB x3 x4 x5 wa wb we) (mC x3 x4 x5 wa wb we) pA PH pC va V vc (lkV realm q) _ RHc RVc (by have:=l6.out;omega) (by omega)).mono ?_
                rintro en v1 ⟨rfl,hb⟩
                replace UC:=UC.later hb UC.lt
                replace NC:=NC.later hb NC.lt
                replace GC:=GC.later hb GC.lt
                replace EC:=EC.later hb EC.lt
                replace KC:=KC.later hb KC.lt
                replace BC:=BC.trans (hb.mono BC.size)
                clear hb
                go_wp2_with fail
                refine hK.out _ _ ⟨NC,GC,EC,KC⟩ (fun hJ=>?_)
                clear hK K hH
                have hH:=hJ
                clear hJ
                try simp only [Act.put,pa,pb,pc]
                clear RHc RVc
                refine wpAnyH_ready (rs:=[7]) (by kernel_rfl) (by simp) ?_
                refine AllReadyH.cons (i:=7) rfl (fun K hK=>?_) AllReadyH.nil
                go_simp
                refine (specShowG_is fresh (10+q) nonce (mA x3 x4 x5 wa wb we) (mB x3 x4 x5 wa wb we) (mC x3 x4 x5 wa wb we) x2 _).mono ?_
                rintro en v2 ⟨rfl,hb⟩
                replace UC:=UC.later hb UC.lt
                replace NC:=NC.later hb NC.lt
                replace GC:=GC.later hb GC.lt
                replace EC:=EC.later hb EC.lt
                replace KC:=KC.later hb KC.lt
                replace BC:=BC.trans (hb.mono BC.size)
                clear hb
                go_wp2_with fail
                refine hK.out _ _ ⟨NC,GC,EC,KC⟩ (fun hJ=>?_)
                clear hK K hH
                have hH:=hJ
                clear hJ
                try simp only [Act.put,pa,pb,pc]
                have hs1:=shT_size x0 (10+q) fresh (mA x3 x4 x5 wa wb we) (mB x3 x4 x5 wa wb we) (mC x3 x4 x5 wa wb we) PH V (lkV realm q)
                have hs2:=shG_size fresh (10+q) nonce (mA x3 x4 x5 wa wb we) (mB x3 x4 x5 wa wb we) (mC x3 x4 x5 wa wb we) x2
                refine wpAnyH_ready (rs:=[9]) (by kernel_rfl) (by simp) ?_
                refine AllReadyH.cons (i:=9) rfl (fun K hK=>?_) AllReadyH.nil
                go_simp
                refine (specReply_is nonce (shT x0 (10+q) fresh (mA x3 x4 x5 wa wb we) (mB x3 x4 x5 wa wb we) (mC x3 x4 x5 wa wb we) PH V (lkV realm q)) (shG fresh (10+q) nonce (mA x3 x4 x5 wa wb we) (mB x3 x4 x5 wa wb we) (mC x3 x4 x5 wa wb we) x2) ⟨3,realm,x0,x0,(10+q),fresh,x2,0,(mA x3 x4 x5 wa wb we),(mB x3 x4 x5 wa wb we),(mC x3 x4 x5 wa wb we)⟩ _ (by omega) (by omega)).mono ?_
                rintro en v3 ⟨rfl,hb⟩
                replace UC:=UC.later hb UC.lt
                replace NC:=NC.later hb NC.lt
                replace GC:=GC.later hb GC.lt
                replace EC:=EC.later hb EC.lt
                replace KC:=KC.later hb KC.lt
                replace BC:=BC.trans (hb.mono BC.size)
                clear hb
                go_wp2_with fail
                refine hK.out _ _ ⟨NC,GC,EC,KC⟩ (fun hJ=>?_)
                clear hK K hH
                have hH:=hJ
                clear hJ
                try simp only [Act.put,pa,pb,pc]
                generalize replyR nonce (shT x0 (10+q) fresh (mA x3 x4 x5 wa wb we) (mB x3 x4 x5 wa wb we) (mC x3 x4 x5 wa wb we) PH V (lkV realm q)) (shG fresh (10+q) nonce (mA x3 x4 x5 wa wb we) (mB x3 x4 x5 wa wb we) (mC x3 x4 x5 wa wb we) x2) ⟨3,realm,x0,x0,(10+q),fresh,x2,0,(mA x3 x4 x5 wa wb we),(mB x3 x4 x5 wa wb we),(mC x3 x4 x5 wa wb we)⟩=rp at HR hH ⊢
                obtain ⟨rc,rt,e0,e1,e2,e3,e4,e5,e6,e7,e8,e9,e10⟩:=rp
                have N_:Blk (w.heap.size+1) [I rc,.string rt,I e0,I e1,I e2,I e3,I e4,I e5,I e6,I e7,I e8,I e9,I e10] ((v3).setCells (w.heap.size+1) 0 [I rc,.string rt,I e0,I e1,I e2,I e3,I e4,I e5,I e6,I e7,I e8,I e9,I e10]):=UC.part 0 [I rc,.string rt,I e0,I e1,I e2,I e3,I e4,I e5,I e6,I e7,I e8,I e9,I e10] _ (by simp) rfl
                have NC_:=Blk.farS (q:=(w.heap.size+1)) (by omega) [I rc,.string rt,I e0,I e1,I e2,I e3,I e4,I e5,I e6,I e7,I e8,I e9,I e10] 0 _ NC
                have GC_:=Blk.farS (q:=(w.heap.size+1)) (by omega) [I rc,.string rt,I e0,I e1,I e2,I e3,I e4,I e5,I e6,I e7,I e8,I e9,I e10] 0 _ GC
                have EC_:=Blk.farS (q:=(w.heap.size+1)) (by omega) [I rc,.string rt,I e0,I e1,I e2,I e3,I e4,I e5,I e6,I e7,I e8,I e9,I e10] 0 _ EC
                have KC_:=Blk.farS (q:=(w.heap.size+1)) (by omega) [I rc,.string rt,I e0,I e1,I e2,I e3,I e4,I e5,I e6,I e7,I e8,I e9,I e10] 0 _ KC
                have BC_:=below_sets (m:=w.heap.size) (g:=(w.heap.size+1)) (by omega) [I rc,.string rt,I e0,I e1,I e2,I e3,I e4,I e5,I e6,I e7,I e8,I e9,I e10] 0 _ BC
                refine wpAnyH_ready (rs:=[10]) (by kernel_rfl) (by simp) ?_
                refine AllReadyH.cons (i:=10) rfl (fun K hK=>?_) AllReadyH.nil
                refine stepB 35 _ _ ((w.heap.size+1)) 0 [I 0,.string ⟨#[]⟩,I 0,I 0,I 0,I 0,I 0,I 0,I 0,I 0,I 0,I 0,I 0] [I rc,.string rt,I e0,I e1,I e2,I e3,I e4,I e5,I e6,I e7,I e8,I e9,I e10] ir hir UC (by rw [hrz];rfl) (by simp) rfl rfl rfl rfl rfl ?_
                try simp only [Act.put,pa]
                obtain ⟨VU,hVU⟩:∃ Wz,(v3).setCells ((w.heap.size+1)) 0 [I rc,.string rt,I e0,I e1,I e2,I e3,I e4,I e5,I e6,I e7,I e8,I e9,I e10]=Wz:=⟨_,rfl⟩
                rw [hVU] at N_ BC_ NC_ GC_ EC_ KC_ ⊢
                clear hVU UC BC NC GC EC KC
                have UC:=N_
                have BC:=BC_
                have NC:=NC_
                have GC:=GC_
                have EC:=EC_
                have KC:=KC_
                clear N_ BC_ NC_ GC_ EC_ KC_
                refine hK.out _ _ ⟨NC,GC,EC,KC⟩ (fun hJ=>?_)
                clear hK K hH
                have hH:=hJ
                clear hJ
                try simp only [Act.put,pa,pb,pc]
                refine wpAnyH_done (by kernel_rfl) ?_ _
                go_wp2_with fail
                exact bodyPost_ret (res_B1 rfl _ _ (w.heap.size+1) _ ir hir ag35 UC (by rw [hrz];rfl) rfl) rfl ⟨by rw [HR.out],BC⟩
             ·rw [if_neg he] at HG
              refine tK 4 137 rfl (.bool true) hH ?_ ?_
              ·intro w' hSw;go_simp;(intro h_;rw [ByteArray.toList_eq,ByteArray.toList_eq] at h_;exact he (ByteArray.ext (Array.toList_inj.1 h_)))
              try simp only [Act.put,pa,pb,pc]
              refine tK 5 132 rfl _ hH (by intro w' h;have y3:=h.c3;go_simp;try with_reducible rfl) ?_
              try simp only [Act.put,pa,pb,pc]
              refine wpAnyH_done (by kernel_rfl) ?_ _
              clear he
              go_wp2_with fail
              cases hgr:dgG c realm now fresh target nonce x0 x2 wa wb we ev with
              | error code =>
               replace NC:=NC.drew
               replace EC:=EC.drew
               replace BC:=BC.drew
               have zM_:=zM.out
               have zE_:=zE.out
               have zc:=NC.lt
               have zce:=EC.lt
               refine wp_region_held_drew (S:=(fun Vw=>Blk w.heap.size [.slice c.ua c.U.length c.uc,.slice c.sa c.S.length c.sc,.slice c.la c.L.length c.lc,.slice c.xa c.X.length c.xc,I c.k] Vw∧Blk nb [I x0,I x1,I x2,I x3,I x4,I x5,.slice ua P.length uc,.slice va V.length vc] Vw∧Blk w2.heap.size [I wa,I wb,I we] Vw∧S4 b off tk au rs ev Vw)) (by kernel_rfl) ⟨TC.later BC TC.lt,KC.later BC KC.lt,RC.later BC RC.lt,HS0.later BC⟩ (fun hH=>?_)
               refine tK 0 139 rfl _ hH (by intro w' h;have d0:=h.1.e5;have e0:=h.2.1.e8;have f0:=h.2.2.1.e3;have y3:=h.2.2.2.c3;go_simp;try with_reducible rfl) ?_
               try simp only [Act.put,pa,pb,pc]
               refine tK 1 140 rfl _ hH (by intro w' h;have d0:=h.1.e5;have e0:=h.2.1.e8;have f0:=h.2.2.1.e3;have y3:=h.2.2.2.c3;go_simp;try with_reducible rfl) ?_
               try simp only [Act.put,pa,pb,pc]
               refine tK 2 141 rfl _ hH (by intro w' h;have d0:=h.1.e5;have e0:=h.2.1.e8;have f0:=h.2.2.1.e3;have y3:=h.2.2.2.c3;go_simp;try with_reducible rfl) ?_
               try simp only [Act.put,pa,pb,pc]
               refine tK 3 142 rfl _ hH (by intro w' h;have d0:=h.1.e5;have e0:=h.2.1.e8;have f0:=h.2.2.1.e3;have y3:=h.2.2.2.c3;go_simp;try with_reducible rfl) ?_
               try simp only [Act.put,pa,pb,pc]
               refine tK 4 143 rfl _ hH (by intro w' h;have d0:=h.1.e5;have e0:=h.2.1.e8;have f0:=h.2.2.1.e3;have y3:=h.2.2.2.c3;go_simp;try with_reducible rfl) ?_
               try simp only [Act.put,pa,pb,pc]
               refine tK 5 144 rfl _ hH (by intro w' h;have d0:=h.1.e5;have e0:=h.2.1.e8;have f0:=h.2.2.1.e3;have y3:=h.2.2.2.c3;go_simp;try with_reducible rfl) ?_
               try simp only [Act.put,pa,pb,pc]
               refine tK 6 145 rfl _ hH (by intro w' h;have d0:=h.1.e5;have e0:=h.2.1.e8;have f0:=h.2.2.1.e3;have y3:=h.2.2.2.c3;go_simp;try with_reducible rfl) ?_
               try simp only [Act.put,pa,pb,pc]
               refine tK 7 146 rfl _ hH (by intro w' h;have d0:=h.1.e5;have e0:=h.2.1.e8;have f0:=h.2.2.1.e3;have y3:=h.2.2.2.c3;go_simp;try with_reducible rfl) ?_
               try simp only [Act.put,pa,pb,pc]
               refine tK 8 147 rfl _ hH (by intro w' h;have d0:=h.1.e5;have e0:=h.2.1.e8;have f0:=h.2.2.1.e3;have y3:=h.2.2.2.c3;go_simp;try with_reducible rfl) ?_
               try simp only [Act.put,pa,pb,pc]
               have g0:=NC.at 0 rfl
               have g1:=NC.at 1 rfl
               have g2:=NC.at 2 rfl
               have g3:=NC.at 3 rfl
               have g4:=NC.at 4 rfl
               have g5:=NC.at 5 rfl
               have g6:=NC.at 6 rfl
               have g7:=NC.at 7 rfl
               refine wpAnyH_ready (rs:=[9]) (by kernel_rfl) (by simp) ?_
               refine AllReadyH.cons (i:=9) rfl (fun K hK=>?_) AllReadyH.nil
               go_simp
               clear g0 g1 g2 g3 g4 g5 g6 g7
               refine hK.out _ _ ⟨TC.later BC TC.lt,KC.later BC KC.lt,RC.later BC RC.lt,HS0.later BC⟩ (fun hJ=>?_)
               clear hK K hH
               have hH:=hJ
               clear hJ
               try simp only [Act.put,pa,pb,pc]
               refine wpAnyH_ready (rs:=[10]) (by kernel_rfl) (by simp) ?_
               refine AllReadyH.cons (i:=10) rfl (fun K hK=>?_) AllReadyH.nil
               go_simp
               refine (specEvid_all c realm now fresh nonce x2 target ht x0 hx x1 x2 x3 x4 x5 ua P.length uc va V.length vc wa wb we ev x0 target fresh (mA x3 x4 x5 wa wb we) (mB x3 x4 x5 wa wb we) (mC x3 x4 x5 wa wb we) pA PH.length pC va V.length vc _ (C0.later BC) KO hcf hev).mono ?_
               rintro en w12 ⟨hE,hb⟩
               replace NC:=NC.later hb NC.lt
               replace EC:=EC.later hb EC.lt
               replace BC:=BC.trans (hb.mono BC.size)
               clear hb
               rw [hgr] at hE
               obtain ⟨rfl,hcd⟩:=hE
               go_wp2_with fail
               refine hK.out _ _ ⟨TC.later BC TC.lt,KC.later BC KC.lt,RC.later BC RC.lt,HS0.later BC⟩ (fun hJ=>?_)
               clear hK K hH
               have hH:=hJ
               clear hJ
               try simp only [Act.put,pa,pb,pc]
               refine tK 11 138 rfl _ hH (by intro w' h;have d0:=h.1.e5;have e0:=h.2.1.e8;have f0:=h.2.2.1.e3;have y3:=h.2.2.2.c3;go_simp;try with_reducible rfl) ?_
               try simp only [Act.put,pa,pb,pc]
               refine tK 12 150 rfl _ hH (by intro w' h;have d0:=h.1.e5;have e0:=h.2.1.e8;have f0:=h.2.2.1.e3;have y3:=h.2.2.2.c3;go_simp;try with_reducible rfl) ?_
               try simp only [Act.put,pa,pb,pc]
               refine tK 13 151 rfl _ hH (by intro w' h;have d0:=h.1.e5;have e0:=h.2.1.e8;have f0:=h.2.2.1.e3;have y3:=h.2.2.2.c3;go_simp;try with_reducible rfl) ?_
               try simp only [Act.put,pa,pb,pc]
               have N_:Blk mb [I x0,I target,I fresh,I (mA x3 x4 x5 wa wb we),I (mB x3 x4 x5 wa wb we),I (mC x3 x4 x5 wa wb we),.slice pA PH.length pC,.slice va V.length vc] ((w12).setCells mb 0 [I x0,I target,I fresh,I (mA x3 x4 x5 wa wb we),I (mB x3 x4 x5 wa wb we),I (mC x3 x4 x5 wa wb we),.slice pA PH.length pC,.slice va V.length vc]):=NC.part 0 [I x0,I target,I fresh,I (mA x3 x4 x5 wa wb we),I (mB x3 x4 x5 wa wb we),I (mC x3 x4 x5 wa wb we),.slice pA PH.length pC,.slice va V.length vc] _ (by simp) rfl
               have EC_:=Blk.farS (q:=mb) (by omega) [I x0,I target,I fresh,I (mA x3 x4 x5 wa wb we),I (mB x3 x4 x5 wa wb we),I (mC x3 x4 x5 wa wb we),.slice pA PH.length pC,.slice va V.length vc] 0 _ EC
               have BC_:=below_sets (m:=T0.heap.size) (g:=mb) (by omega) [I x0,I target,I fresh,I (mA x3 x4 x5 wa wb we),I (mB x3 x4 x5 wa wb we),I (mC x3 x4 x5 wa wb we),.slice pA PH.length pC,.slice va V.length vc] 0 _ BC
               refine wpAnyH_ready (rs:=[14]) (by kernel_rfl) (by simp) ?_
               refine AllReadyH.cons (i:=14) rfl (fun K hK=>?_) AllReadyH.nil
               refine stepB 43 _ _ (mb) 0 _ [I x0,I target,I fresh,I (mA x3 x4 x5 wa wb we),I (mB x3 x4 x5 wa wb we),I (mC x3 x4 x5 wa wb we),.slice pA PH.length pC,.slice va V.length vc] it hit NC (by rw [htz];rfl) (by simp) rfl rfl rfl rfl rfl ?_
               try simp only [Act.put,pa]
               obtain ⟨V12,hV12⟩:∃ Wz,(w12).setCells (mb) 0 [I x0,I target,I fresh,I (mA x3 x4 x5 wa wb we),I (mB x3 x4 x5 wa wb we),I (mC x3 x4 x5 wa wb we),.slice pA PH.length pC,.slice va V.length vc]=Wz:=⟨_,rfl⟩
               rw [hV12] at N_ BC_ EC_ ⊢
               clear hV12 NC BC EC
               have NC:=N_
               have BC:=BC_
               have EC:=EC_
               clear N_ BC_ EC_
               refine hK.out _ _ ⟨TC.later BC TC.lt,KC.later BC KC.lt,RC.later BC RC.lt,HS0.later BC⟩ (fun hJ=>?_)
               clear hK K hH
               have hH:=hJ
               clear hJ
               try simp only [Act.put,pa,pb,pc]
               refine tK 15 26 rfl _ hH (by intro w' h;have d0:=h.1.e5;have e0:=h.2.1.e8;have f0:=h.2.2.1.e3;have y3:=h.2.2.2.c3;go_simp;try with_reducible rfl) ?_
               try simp only [Act.put]
               refine wpAnyH_done (by kernel_rfl) ?_ _
               clear zM_ zE_
               clear zc zce
               have e9:(code == 0)=false:=by simpa using hcd
               have HR:Hid ((toR realm (askG c realm now fresh target nonce tk au rs ev)).val=(failR code).val):=by show _=_;rw [show askG c realm now fresh target nonce tk au rs ev=.error code from by rw [HG.out,hgr]];rfl
               go_wp2_with fail
               refine (spec_fail code _).mono ?_
               rintro en wf ⟨rfl,hb⟩
               replace BC:=BC.trans (hb.mono BC.size)
               clear hb
               replace UC:=UC.later BC UC.lt
               replace BC:=BW.trans (BC.mono BW.size)
               have FU:=UC.sets [I code,.string ⟨#[]⟩,I 0,I 0,I 0,I 0,I 0,I 0,I 0,I 0,I 0,I 0,I 0] rfl
               have FB:=below_sets (m:=w.heap.size) (g:=(w.heap.size+1)) (by omega) [I code,.string ⟨#[]⟩,I 0,I 0,I 0,I 0,I 0,I 0,I 0,I 0,I 0,I 0,I 0] 0 _ BC
               rw [show (failR code).val=.agg #[I code,.string ⟨#[]⟩,I 0,I 0,I 0,I 0,I 0,I 0,I 0,I 0,I 0,I 0,I 0] from rfl]
               go_wp2_with (refine wpList_stB 35 _ _ (w.heap.size+1) 0 [I 0,.string ⟨#[]⟩,I 0,I 0,I 0,I 0,I 0,I 0,I 0,I 0,I 0,I 0,I 0] [I code,.string ⟨#[]⟩,I 0,I 0,I 0,I 0,I 0,I 0,I 0,I 0,I 0,I 0,I 0] ir hir UC (by rw [hrz];rfl) (by simp) rfl rfl rfl rfl rfl ?_;try simp only [Act.put])
               exact bodyPost_ret (res_B1 rfl _ _ (w.heap.size+1) _ ir hir ag35 FU (by rw [hrz];rfl) rfl) rfl ⟨by rw [HR.out];rfl,FB⟩
              | ok g =>
               replace NC:=NC.drew
               replace EC:=EC.drew
               replace BC:=BC.drew
               have zM_:=zM.out
               have zE_:=zE.out
               have zc:=NC.lt
               have zce:=EC.lt
               refine wp_region_held_drew (S:=(fun Vw=>Blk w.heap.size [.slice c.ua c.U.length c.uc,.slice c.sa c.S.length c.sc,.slice c.la c.L.length c.lc,.slice c.xa c.X.length c.xc,I c.k] Vw∧Blk nb [I x0,I x1,I x2,I x3,I x4,I x5,.slice ua P.length uc,.slice va V.length vc] Vw∧Blk w2.heap.size [I wa,I wb,I we] Vw∧S4 b off tk au rs ev Vw)) (by kernel_rfl) ⟨TC.later BC TC.lt,KC.later BC KC.lt,RC.later BC RC.lt,HS0.later BC⟩ (fun hH=>?_)
               refine tK 0 139 rfl _ hH (by intro w' h;have d0:=h.1.e5;have e0:=h.2.1.e8;have f0:=h.2.2.1.e3;have y3:=h.2.2.2.c3;go_simp;try with_reducible rfl) ?_
               try simp only [Act.put,pa,pb,pc]
               refine tK 1 140 rfl _ hH (by intro w' h;have d0:=h.1.e5;have e0:=h.2.1.e8;have f0:=h.2.2.1.e3;have y3:=h.2.2.2.c3;go_simp;try with_reducible rfl) ?_
               try simp only [Act.put,pa,pb,pc]
               refine tK 2 141 rfl _ hH (by intro w' h;have d0:=h.1.e5;have e0:=h.2.1.e8;have f0:=h.2.2.1.e3;have y3:=h.2.2.2.c3;go_simp;try with_reducible rfl) ?_
               try simp only [Act.put,pa,pb,pc]
               refine tK 3 142 rfl _ hH (by intro w' h;have d0:=h.1.e5;have e0:=h.2.1.e8;have f0:=h.2.2.1.e3;have y3:=h.2.2.2.c3;go_simp;try with_reducible rfl) ?_
               try simp only [Act.put,pa,pb,pc]
               refine tK 4 143 rfl _ hH (by intro w' h;have d0:=h.1.e5;have e0:=h.2.1.e8;have f0:=h.2.2.1.e3;have y3:=h.2.2.2.c3;go_simp;try with_reducible rfl) ?_
               try simp only [Act.put,pa,pb,pc]
               refine tK 5 144 rfl _ hH (by intro w' h;have d0:=h.1.e5;have e0:=h.2.1.e8;have f0:=h.2.2.1.e3;have y3:=h.2.2.2.c3;go_simp;try with_reducible rfl) ?_
               try simp only [Act.put,pa,pb,pc]
               refine tK 6 145 rfl _ hH (by intro w' h;have d0:=h.1.e5;have e0:=h.2.1.e8;have f0:=h.2.2.1.e3;have y3:=h.2.2.2.c3;go_simp;try with_reducible rfl) ?_
               try simp only [Act.put,pa,pb,pc]
               refine tK 7 146 rfl _ hH (by intro w' h;have d0:=h.1.e5;have e0:=h.2.1.e8;have f0:=h.2.2.1.e3;have y3:=h.2.2.2.c3;go_simp;try with_reducible rfl) ?_
               try simp only [Act.put,pa,pb,pc]
               refine tK 8 147 rfl _ hH (by intro w' h;have d0:=h.1.e5;have e0:=h.2.1.e8;have f0:=h.2.2.1.e3;have y3:=h.2.2.2.c3;go_simp;try with_reducible rfl) ?_
               try simp only [Act.put,pa,pb,pc]
               have g0:=NC.at 0 rfl
               have g1:=NC.at 1 rfl
               have g2:=NC.at 2 rfl
               have g3:=NC.at 3 rfl
               have g4:=NC.at 4 rfl
               have g5:=NC.at 5 rfl
               have g6:=NC.at 6 rfl
               have g7:=NC.at 7 rfl
               refine wpAnyH_ready (rs:=[9]) (by kernel_rfl) (by simp) ?_
               refine AllReadyH.cons (i:=9) rfl (fun K hK=>?_) AllReadyH.nil
               go_simp
               clear g0 g1 g2 g3 g4 g5 g6 g7
               refine hK.out _ _ ⟨TC.later BC TC.lt,KC.later BC KC.lt,RC.later BC RC.lt,HS0.later BC⟩ (fun hJ=>?_)
               clear hK K hH
               have hH:=hJ
               clear hJ
               try simp only [Act.put,pa,pb,pc]
               refine wpAnyH_ready (rs:=[10]) (by kernel_rfl) (by simp) ?_
               refine AllReadyH.cons (i:=10) rfl (fun K hK=>?_) AllReadyH.nil
               go_simp
               refine (specEvid_all c realm now fresh nonce x2 target ht x0 hx x1 x2 x3 x4 x5 ua P.length uc va V.length vc wa wb we ev x0 target fresh (mA x3 x4 x5 wa wb we) (mB x3 x4 x5 wa wb we) (mC x3 x4 x5 wa wb we) pA PH.length pC va V.length vc _ (C0.later BC) KO hcf hev).mono ?_
               rintro en w12 ⟨hE,hb⟩
               replace NC:=NC.later hb NC.lt
               replace EC:=EC.later hb EC.lt
               replace BC:=BC.trans (hb.mono BC.size)
               clear hb
               rw [hgr] at hE
               obtain ⟨pa2,pc2,va2,vc2,rfl,RP2,RV2⟩:=hE
               go_wp2_with fail
               refine hK.out _ _ ⟨TC.later BC TC.lt,KC.later BC KC.lt,RC.later BC RC.lt,HS0.later BC⟩ (fun hJ=>?_)
               clear hK K hH
               have hH:=hJ
               clear hJ
               try simp only [Act.put,pa,pb,pc]
               refine tK 11 138 rfl _ hH (by intro w' h;have d0:=h.1.e5;have e0:=h.2.1.e8;have f0:=h.2.2.1.e3;have y3:=h.2.2.2.c3;go_simp;try with_reducible rfl) ?_
               try simp only [Act.put,pa,pb,pc]
               refine tK 12 150 rfl _ hH (by intro w' h;have d0:=h.1.e5;have e0:=h.2.1.e8;have f0:=h.2.2.1.e3;have y3:=h.2.2.2.c3;go_simp;try with_reducible rfl) ?_
               try simp only [Act.put,pa,pb,pc]
               refine tK 13 151 rfl _ hH (by intro w' h;have d0:=h.1.e5;have e0:=h.2.1.e8;have f0:=h.2.2.1.e3;have y3:=h.2.2.2.c3;go_simp;try with_reducible rfl) ?_
               try simp only [Act.put,pa,pb,pc]
               have N_:Blk mb [I g.cl,I target,I fresh,I g.a,I g.b,I g.e,.slice pa2 g.P.length pc2,.slice va2 g.V.length vc2] ((w12).setCells mb 0 [I g.cl,I target,I fresh,I g.a,I g.b,I g.e,.slice pa2 g.P.length pc2,.slice va2 g.V.length vc2]):=NC.part 0 [I g.cl,I target,I fresh,I g.a,I g.b,I g.e,.slice pa2 g.P.length pc2,.slice va2 g.V.length vc2] _ (by simp) rfl
               have EC_:=Blk.farS (q:=mb) (by omega) [I g.cl,I target,I fresh,I g.a,I g.b,I g.e,.slice pa2 g.P.length pc2,.slice va2 g.V.length vc2] 0 _ EC
               have RP2_:=RF.sets (q:=mb) (by omega) [I g.cl,I target,I fresh,I g.a,I g.b,I g.e,.slice pa2 g.P.length pc2,.slice va2 g.V.length vc2] 0 _ RP2
               have RV2_:=RF.sets (q:=mb) (by omega) [I g.cl,I target,I fresh,I g.a,I g.b,I g.e,.slice pa2 g.P.length pc2,.slice va2 g.V.length vc2] 0 _ RV2
               have BC_:=below_sets (m:=T0.heap.size) (g:=mb) (by omega) [I g.cl,I target,I fresh,I g.a,I g.b,I g.e,.slice pa2 g.P.length pc2,.slice va2 g.V.length vc2] 0 _ BC
               refine wpAnyH_ready (rs:=[14]) (by kernel_rfl) (by simp) ?_
               refine AllReadyH.cons (i:=14) rfl (fun K hK=>?_) AllReadyH.nil
               refine stepB 43 _ _ (mb) 0 _ [I g.cl,I target,I fresh,I g.a,I g.b,I g.e,.slice pa2 g.P.length pc2,.slice va2 g.V.length vc2] it hit NC (by rw [htz];rfl) (by simp) rfl rfl rfl rfl rfl ?_
               try simp only [Act.put,pa]
               obtain ⟨V12,hV12⟩:∃ Wz,(w12).setCells (mb) 0 [I g.cl,I target,I fresh,I g.a,I g.b,I g.e,.slice pa2 g.P.length pc2,.slice va2 g.V.length vc2]=Wz:=⟨_,rfl⟩
               rw [hV12] at N_ BC_ EC_ RP2_ RV2_ ⊢
               clear hV12 NC BC EC RP2 RV2
               have NC:=N_
               have BC:=BC_
               have EC:=EC_
               have RP2:=RP2_
               have RV2:=RV2_
               clear N_ BC_ EC_ RP2_ RV2_
               refine hK.out _ _ ⟨TC.later BC TC.lt,KC.later BC KC.lt,RC.later BC RC.lt,HS0.later BC⟩ (fun hJ=>?_)
               clear hK K hH
               have hH:=hJ
               clear hJ
               try simp only [Act.put,pa,pb,pc]
               refine tK 15 26 rfl _ hH (by intro w' h;have d0:=h.1.e5;have e0:=h.2.1.e8;have f0:=h.2.2.1.e3;have y3:=h.2.2.2.c3;go_simp;try with_reducible rfl) ?_
               try simp only [Act.put]
               refine wpAnyH_done (by kernel_rfl) ?_ _
               clear zM_ zE_
               have zc2:Hid (mb < w11.heap.size∧w9.heap.size < w11.heap.size):=⟨zc,zce⟩
               clear zc zce
               replace RP2:RF w11.heap.size V12 pa2 g.P:=RP2
               replace RV2:RF w11.heap.size V12 va2 g.V:=RV2
               obtain ⟨g0,g1,g2,g3,g4,g5,g6,g7,g8,gl1,gl2⟩:=dg_ok hgr
               have HD:Hid (g.sv=target∧g.key=fresh∧g.fk=pkV (target+3)∧g.bk=x2∧g.nonce=nonce∧g.kind=4∧g.by'=x0∧g.par=x2∧g.ev=rtN ev (pkV x0) 2):=⟨g0,g1,g2,g3,g4,g5,g6,g7,g8⟩
               clear g0 g1 g2 g3 g4 g5 g6 g7 g8
               have HGR:Hid (dgG c realm now fresh target nonce x0 x2 wa wb we ev=.ok g):=hgr
               clear hgr
               go_wp2_with fail
               refine Code.wp_mono (Q:=(fun ex a' w'=>∃ (nb_:Nat) (ua2:Option Addr) (uc2:Nat) (va3:Option Addr) (vc3:Nat),ex=.normal∧a'=({ tmps:=#[c.val,I realm,I now,I fresh,I target,I nonce,.slice (some ⟨b,off,none⟩) 4 lc,.pointer (some ⟨w.heap.size,0,none⟩),undef,undef,undef,undef,undef,undef,.pointer (some ⟨w.heap.size+1,0,none⟩),.pointer (some ⟨w2.heap.size,0,none⟩),.bool true,.pointer (some ⟨nb,0,none⟩),I f,.bool true,.pointer (some ⟨ab,0,none⟩),.bool true,.slice pA PH.length pC,.pointer (some ⟨mb,0,none⟩),.pointer (some ⟨w9.heap.size,0,none⟩),I (pkV (target+3)),I 0,.pointer (some ⟨nb_,0,none⟩),.bool (rtK ev (pkV x0)),undef,undef,.tuple #[rv wa wb we,.bool true],.slice (some ⟨b,off,none⟩) 4 lc,.pointer (some ⟨b,off+2,none⟩),.string rs,.tuple #[rv wa wb we,.bool true],rv wa wb we,.bool true,.tuple #[.agg #[I x0,I x1,I x2,I x3,I x4,I x5,.slice ua P.length uc,.slice va V.length vc],I f,.bool true],.agg #[.slice c.ua c.U.length c.uc,.slice c.sa c.S.length c.sc,.slice c.la c.L.length c.lc,.slice c.xa c.X.length c.xc,I c.k],I realm,.slice (some ⟨b,off,none⟩) 4 lc,.pointer (some ⟨b,off,none⟩),.string tk,.tuple #[.agg #[I x0,I x1,I x2,I x3,I x4,I x5,.slice ua P.length uc,.slice va V.length vc],I f,.bool true],.agg #[I x0,I x1,I x2,I x3,I x4,I x5,.slice ua P.length uc,.slice va V.length vc],I f,.bool true,I target,.bool false,.bool false,I target,.bool false,.bool false,.bool false,.bool true,.bool false,.bool false,.bool false,.bool true,.bool false,.bool false,undef,.tuple #[.agg #[I (raV au x2 1),I (raV au x2 2),I (raV au x2 3)],.bool true],.slice (some ⟨b,off,none⟩) 4 lc,.pointer (some ⟨b,off+1,none⟩),.string au,.pointer (some ⟨nb,2,none⟩),I x2,.tuple #[.agg #[I (raV au x2 1),I (raV au x2 2),I (raV au x2 3)],.bool true],.agg #[I (raV au x2 1),I (raV au x2 2),I (raV au x2 3)],.bool true,.bool true,.bool false,.bool false,.pointer (some ⟨ab,0,none⟩),I (raV au x2 1),.pointer (some ⟨nb,0,none⟩),I x0,.bool false,.bool false,undef,I now,.pointer (some ⟨ab,1,none⟩),I (raV au x2 2),.pointer (some ⟨w.heap.size,4,none⟩),I c.k,.bool false,undef,I now,.pointer (some ⟨nb,3,none⟩),.pointer (some ⟨nb,5,none⟩),I x5,.bool false,undef,.slice (some ⟨w5.heap.size,0,none⟩) 0 0,.pointer (some ⟨nb,6,none⟩),.slice ua P.length uc,.slice va7 P.length vc7,I f,u100,u101,u102,u103,u104,.slice pA PH.length pC,I ↑PH.length,.bool false,undef,.pointer (some ⟨nb,0,none⟩),I x0,I target,I fresh,.pointer (some ⟨nb,3,none⟩),.agg #[I x3,I x4,I x5],.agg #[I wa,I wb,I we],rv (mA x3 x4 x5 wa wb we) (mB x3 x4 x5 wa wb we) (mC x3 x4 x5 wa wb we),.slice pA PH.length pC,.pointer (some ⟨nb,7,none⟩),.slice va V.length vc,.agg #[I x0,I target,I fresh,I (mA x3 x4 x5 wa wb we),I (mB x3 x4 x5 wa wb we),I (mC x3 x4 x5 wa wb we),.slice pA PH.length pC,.slice va V.length vc],I realm,.pointer (some ⟨nb,0,none⟩),I x0,.pointer (some ⟨nb,0,none⟩),I x0,.pointer (some ⟨nb,2,none⟩),I x2,.agg #[I 2,I realm,I x0,I x0,I 0,I 0,I x2,I 0,I 0,I 0,I 0],I target,I (target+3),I (pkV (target+3)),.bool true,.slice (some ⟨b,off,none⟩) 4 lc,.pointer (some ⟨b,off+3,none⟩),.string ev,.string at0,.bool true,.tuple #[tkV g.cl target fresh g.a g.b g.e pa2 g.P.length pc2 va2 g.V.length vc2,I 0],.agg #[.slice c.ua c.U.length c.uc,.slice c.sa c.S.length c.sc,.slice c.la c.L.length c.lc,.slice c.xa c.X.length c.xc,I c.k],I realm,I now,.agg #[I x0,I x1,I x2,I x3,I x4,I x5,.slice ua P.length uc,.slice va V.length vc],I target,.agg #[I wa,I wb,I we],.slice (some ⟨b,off,none⟩) 4 lc,.pointer (some ⟨b,off+3,none⟩),.string ev,.agg #[I x0,I target,I fresh,I (mA x3 x4 x5 wa wb we),I (mB x3 x4 x5 wa wb we),I (mC x3 x4 x5 wa wb we),.slice pA PH.length pC,.slice va V.length vc],.tuple #[tkV g.cl target fresh g.a g.b g.e pa2 g.P.length pc2 va2 g.V.length vc2,I 0],tkV g.cl target fresh g.a g.b g.e pa2 g.P.length pc2 va2 g.V.length vc2,I 0,I 0,.bool false,undef,undef,.tuple #[.agg #[I (rtN ev (pkV x0) 0),I (rtN ev (pkV x0) 1),I (rtN ev (pkV x0) 2),I (rtN ev (pkV x0) 3),I (rtN ev (pkV x0) 4),I (rtN ev (pkV x0) 5),.slice ua2 (rtP ev (pkV x0)).length uc2,.slice va3 (rtV ev (pkV x0)).length vc3],.bool (rtK ev (pkV x0))],.slice (some ⟨b,off,none⟩) 4 lc,.pointer (some ⟨b,off+3,none⟩),.string ev,.pointer (some ⟨nb,0,none⟩),I x0,I (pkV x0),.tuple #[.agg #[I (rtN ev (pkV x0) 0),I (rtN ev (pkV x0) 1),I (rtN ev (pkV x0) 2),I (rtN ev (pkV x0) 3),I (rtN ev (pkV x0) 4),I (rtN ev (pkV x0) 5),.slice ua2 (rtP ev (pkV x0)).length uc2,.slice va3 (rtV ev (pkV x0)).length vc3],.bool (rtK ev (pkV x0))],.agg #[I (rtN ev (pkV x0) 0),I (rtN ev (pkV x0) 1),I (rtN ev (pkV x0) 2),I (rtN ev (pkV x0) 3),I (rtN ev (pkV x0) 4),I (rtN ev (pkV x0) 5),.slice ua2 (rtP ev (pkV x0)).length uc2,.slice va3 (rtV ev (pkV x0)).length vc3],.bool (rtK ev (pkV x0)),undef,undef,undef,undef,undef,undef,undef,undef,undef,undef,undef,undef,undef,undef,undef,undef,undef,undef,undef,undef,undef,undef,undef,undef,undef,undef,undef,undef,undef,undef,undef,undef,undef,undef,undef,undef,undef,undef,undef,undef,undef,undef,undef,undef,undef,undef,undef,undef,undef,undef,undef,undef,undef,undef,undef,undef,undef,undef],defers:=[] })∧Below V12.heap.size V12 w'∧Blk nb_ [I (rtN ev (pkV x0) 0),I (rtN ev (pkV x0) 1),I (rtN ev (pkV x0) 2),I (rtN ev (pkV x0) 3),I (rtN ev (pkV x0) 4),I (rtN ev (pkV x0) 5),.slice ua2 (rtP ev (pkV x0)).length uc2,.slice va3 (rtV ev (pkV x0)).length vc3] w'∧V12.heap.size≤nb_)) ?imp25 ?reg25
               case reg25 =>
                have BX:=(Below.refl V12.heap.size V12).drew
                refine wp_region_held_drew (S:=(fun Vw=>Blk nb [I x0,I x1,I x2,I x3,I x4,I x5,.slice ua P.length uc,.slice va V.length vc] Vw∧S4 b off tk au rs ev Vw)) (by kernel_rfl) ⟨KC.later (BC.trans (BX.mono BC.size)) KC.lt,HS0.later (BC.trans (BX.mono BC.size))⟩ (fun hH=>?_)
                refine tK 0 157 rfl _ hH (by intro w' h;have d0:=h.1.e8;have y3:=h.2.c3;go_simp;try with_reducible rfl) ?_ (hQ:=fun _ _ _ h=>by obtain ⟨_,_,_,_,_,h,_⟩:=h;cases h)
                try simp only [Act.put,pa,pb,pc]
                refine tK 1 158 rfl _ hH (by intro w' h;have d0:=h.1.e8;have y3:=h.2.c3;go_simp;try with_reducible rfl) ?_ (hQ:=fun _ _ _ h=>by obtain ⟨_,_,_,_,_,h,_⟩:=h;cases h)
                try simp only [Act.put,pa,pb,pc]
                refine tK 2 159 rfl _ hH (by intro w' h;have d0:=h.1.e8;have y3:=h.2.c3;go_simp;try with_reducible rfl) ?_ (hQ:=fun _ _ _ h=>by obtain ⟨_,_,_,_,_,h,_⟩:=h;cases h)
                try simp only [Act.put,pa,pb,pc]
                refine tK 3 160 rfl _ hH (by intro w' h;have d0:=h.1.e8;have y3:=h.2.c3;go_simp;try with_reducible rfl) ?_ (hQ:=fun _ _ _ h=>by obtain ⟨_,_,_,_,_,h,_⟩:=h;cases h)
                try simp only [Act.put,pa,pb,pc]
                refine tK 4 161 rfl _ hH (by intro w' h;have d0:=h.1.e8;have y3:=h.2.c3;go_simp;try with_reducible rfl) ?_ (hQ:=fun _ _ _ h=>by obtain ⟨_,_,_,_,_,h,_⟩:=h;cases h)
                try simp only [Act.put,pa,pb,pc]
                refine wpAnyH_ready (rs:=[5,10]) (by kernel_rfl) (by simp) ?_
                refine AllReadyH.cons (i:=5) rfl (fun K hK=>?_) (AllReadyH.cons (i:=10) rfl (fun K hK=>?_) AllReadyH.nil)
                ·go_simp
                 refine (specPK_is x0 _).mono ?_
                 rintro en w_ ⟨rfl,rfl⟩
                 go_wp2_with fail
                 refine hK.out _ _ ⟨KC.later (BC.trans (BX.mono BC.size)) KC.lt,HS0.later (BC.trans (BX.mono BC.size))⟩ (fun hJ=>?_)
                 clear hK K hH
                 have hH:=hJ
                 clear hJ
                 try simp only [Act.put,pa,pb,pc]
                 refine wpAnyH_ready (rs:=[6,10]) (by kernel_rfl) (by simp) ?_
                 refine AllReadyH.cons (i:=6) rfl (fun K hK=>?_) (AllReadyH.cons (i:=10) rfl (fun K hK=>?_) AllReadyH.nil)
                 ·go_simp
                  refine (specReadT_is ev (pkV x0) _ hev).mono ?_
                  rintro en w13 ⟨ua2,uc2,va3,vc3,rfl,_,_,_,hb⟩
                  replace BX:=BX.trans (hb.mono BX.size)
                  clear hb
                  go_wp2_with fail
                  refine hK.out _ _ ⟨KC.later (BC.trans (BX.mono BC.size)) KC.lt,HS0.later (BC.trans (BX.mono BC.size))⟩ (fun hJ=>?_)
                  clear hK K hH
                  have hH:=hJ
                  clear hJ
                  try simp only [Act.put,pa,pb,pc]
                  refine tK 7 156 rfl _ hH (by intro w' h;have d0:=h.1.e8;have y3:=h.2.c3;go_simp;try with_reducible rfl) ?_ (hQ:=fun _ _ _ h=>by obtain ⟨_,_,_,_,_,h,_⟩:=h;cases h)
                  try simp only [Act.put,pa,pb,pc]
                  refine tK 8 164 rfl _ hH (by intro w' h;have d0:=h.1.e8;have y3:=h.2.c3;go_simp;try with_reducible rfl) ?_ (hQ:=fun _ _ _ h=>by obtain ⟨_,_,_,_,_,h,_⟩:=h;cases h)
                  try simp only [Act.put,pa,pb,pc]
                  refine tK 9 165 rfl _ hH (by intro w' h;have d0:=h.1.e8;have y3:=h.2.c3;go_simp;try with_reducible rfl) ?_ (hQ:=fun _ _ _ h=>by obtain ⟨_,_,_,_,_,h,_⟩:=h;cases h)
                  try simp only [Act.put,pa,pb,pc]
                  refine wpAnyH_ready (rs:=[10]) (by kernel_rfl) (by simp) ?_
                  refine AllReadyH.cons (i:=10) rfl (fun K hK=>?_) AllReadyH.nil
                  obtain ⟨Va,hVa⟩:∃ Wz,(w13).alloc (.cells #[I 0,I 0,I 0,I 0,I 0,I 0,.slice none 0 0,.slice none 0 0] 43)=Wz:=⟨_,rfl⟩
                  have XA:Below (w13).heap.size (w13) Va:=by rw [← hVa];exact (Below.refl _ _).alloc (Nat.le_refl _) _
                  have zb:V12.heap.size≤(w13).heap.size:=BX.size
                  have EC:Blk (w13).heap.size [I 0,I 0,I 0,I 0,I 0,I 0,.slice none 0 0,.slice none 0 0] Va:=by rw [← hVa];exact Blk.new _ _ _
                  replace BX:=BX.trans (XA.mono BX.size)
                  clear XA
                  go_simp
                  try rw [hVa]
                  refine hK.out _ _ (by (try rw [hVa]);exact ⟨KC.later (BC.trans (BX.mono BC.size)) KC.lt,HS0.later (BC.trans (BX.mono BC.size))⟩) (fun hJ=>?_)
                  clear hK K hH
                  have hH:=hJ
                  clear hJ
                  try simp only [Act.put,pa,pb,pc]
                  try rw [hVa]
                  clear hVa
                  replace EC:Blk (w13).heap.size _ _:=EC
                  replace zb:V12.heap.size≤(w13).heap.size:=zb
                  obtain ⟨nb_,hnb⟩:∃ n,(w13).heap.size=n:=⟨_,rfl⟩
                  rw [hnb] at EC
                  replace zb:V12.heap.size≤nb_:=by rw [← hnb];exact zb
                  have BX_:=below_sets (g:=nb_) zb [I (rtN ev (pkV x0) 0),I (rtN ev (pkV x0) 1),I (rtN ev (pkV x0) 2),I (rtN ev (pkV x0) 3),I (rtN ev (pkV x0) 4),I (rtN ev (pkV x0) 5),.slice ua2 (rtP ev (pkV x0)).length uc2,.slice va3 (rtV ev (pkV x0)).length vc3] 0 _ BX
                  have EC_:=EC.sets [I (rtN ev (pkV x0) 0),I (rtN ev (pkV x0) 1),I (rtN ev (pkV x0) 2),I (rtN ev (pkV x0) 3),I (rtN ev (pkV x0) 4),I (rtN ev (pkV x0) 5),.slice ua2 (rtP ev (pkV x0)).length uc2,.slice va3 (rtV ev (pkV x0)).length vc3] rfl
                  try simp only [hnb]
                  refine wpAnyH_ready (rs:=[11]) (by kernel_rfl) (by simp) ?_
                  refine AllReadyH.cons (i:=11) rfl (fun K hK=>?_) AllReadyH.nil
                  refine stepB2 43 _ _ nb_ 0 _ [I (rtN ev (pkV x0) 0),I (rtN ev (pkV x0) 1),I (rtN ev (pkV x0) 2),I (rtN ev (pkV x0) 3),I (rtN ev (pkV x0) 4),I (rtN ev (pkV x0) 5),.slice ua2 (rtP ev (pkV x0)).length uc2,.slice va3 (rtV ev (pkV x0)).length vc3] it hit EC (by rw [htz];rfl) (by simp) rfl rfl rfl rfl rfl rfl ?_
                  obtain ⟨VE,hVE⟩:∃ Wz,(Va).setCells nb_ 0 [I (rtN ev (pkV x0) 0),I (rtN ev (pkV x0) 1),I (rtN ev (pkV x0) 2),I (rtN ev (pkV x0) 3),I (rtN ev (pkV x0) 4),I (rtN ev (pkV x0) 5),.slice ua2 (rtP ev (pkV x0)).length uc2,.slice va3 (rtV ev (pkV x0)).length vc3]=Wz:=⟨_,rfl⟩
                  rw [hVE] at BX_ EC_  ⊢
                  clear hVE BX EC
                  have BX:=BX_
                  have EC:=EC_
                  clear BX_ EC_
                  refine hK.out _ _ ⟨KC.later (BC.trans (BX.mono BC.size)) KC.lt,HS0.later (BC.trans (BX.mono BC.size))⟩ (fun hJ=>?_)
                  clear hK K hH
                  have hH:=hJ
                  clear hJ
                  try simp only [Act.put,pa,pb,pc]
                  refine tK 12 28 rfl _ hH (by intro w' h;have d0:=h.1.e8;have y3:=h.2.c3;go_simp;try with_reducible rfl) ?_ (hQ:=fun _ _ _ h=>by obtain ⟨_,_,_,_,_,h,_⟩:=h;cases h)
                  try simp only [Act.put,pa,pb,pc]
                  refine wpAnyH_done (by kernel_rfl) ?_ _
                  subst hnb
                  exact ⟨_,ua2,uc2,va3,vc3,rfl,rfl,BX,EC,zb⟩
                 ·obtain ⟨Va,hVa⟩:∃ Wz,(V12.drew).alloc (.cells #[I 0,I 0,I 0,I 0,I 0,I 0,.slice none 0 0,.slice none 0 0] 43)=Wz:=⟨_,rfl⟩
                  have XA:Below (V12.drew).heap.size (V12.drew) Va:=by rw [← hVa];exact (Below.refl _ _).alloc (Nat.le_refl _) _
                  have zb:V12.heap.size≤(V12.drew).heap.size:=BX.size
                  have EC:Blk (V12.drew).heap.size [I 0,I 0,I 0,I 0,I 0,I 0,.slice none 0 0,.slice none 0 0] Va:=by rw [← hVa];exact Blk.new _ _ _
                  replace BX:=BX.trans (XA.mono BX.size)
                  clear XA
                  go_simp
                  try rw [hVa]
                  refine hK.out _ _ (by (try rw [hVa]);exact ⟨KC.later (BC.trans (BX.mono BC.size)) KC.lt,HS0.later (BC.trans (BX.mono BC.size))⟩) (fun hJ=>?_)
                  clear hK K hH
                  have hH:=hJ
                  clear hJ
                  try simp only [Act.put,pa,pb,pc]
                  try rw [hVa]
                  clear hVa
                  refine wpAnyH_ready (rs:=[6]) (by kernel_rfl) (by simp) ?_
                  refine AllReadyH.cons (i:=6) rfl (fun K hK=>?_) AllReadyH.nil
                  go_simp
                  refine (specReadT_is ev (pkV x0) _ hev).mono ?_
                  rintro en w13 ⟨ua2,uc2,va3,vc3,rfl,_,_,_,hb⟩
                  replace BX:=BX.trans (hb.mono BX.size)
                  replace EC:=EC.later hb EC.lt
                  clear hb
                  go_wp2_with fail
                  refine hK.out _ _ ⟨KC.later (BC.trans (BX.mono BC.size)) KC.lt,HS0.later (BC.trans (BX.mono BC.size))⟩ (fun hJ=>?_)
                  clear hK K hH
                  have hH:=hJ
                  clear hJ
                  try simp only [Act.put,pa,pb,pc]
                  refine tK 7 156 rfl _ hH (by intro w' h;have d0:=h.1.e8;have y3:=h.2.c3;go_simp;try with_reducible rfl) ?_ (hQ:=fun _ _ _ h=>by obtain ⟨_,_,_,_,_,h,_⟩:=h;cases h)
                  try simp only [Act.put,pa,pb,pc]
                  refine tK 8 164 rfl _ hH (by intro w' h;have d0:=h.1.e8;have y3:=h.2.c3;go_simp;try with_reducible rfl) ?_ (hQ:=fun _ _ _ h=>by obtain ⟨_,_,_,_,_,h,_⟩:=h;cases h)
                  try simp only [Act.put,pa,pb,pc]
                  refine tK 9 165 rfl _ hH (by intro w' h;have d0:=h.1.e8;have y3:=h.2.c3;go_simp;try with_reducible rfl) ?_ (hQ:=fun _ _ _ h=>by obtain ⟨_,_,_,_,_,h,_⟩:=h;cases h)
                  try simp only [Act.put,pa,pb,pc]
                  replace EC:Blk (V12).heap.size _ _:=EC
                  replace zb:V12.heap.size≤(V12).heap.size:=zb
                  obtain ⟨nb_,hnb⟩:∃ n,(V12).heap.size=n:=⟨_,rfl⟩
                  rw [hnb] at EC
                  replace zb:V12.heap.size≤nb_:=by rw [← hnb];exact zb
                  have BX_:=below_sets (g:=nb_) zb [I (rtN ev (pkV x0) 0),I (rtN ev (pkV x0) 1),I (rtN ev (pkV x0) 2),I (rtN ev (pkV x0) 3),I (rtN ev (pkV x0) 4),I (rtN ev (pkV x0) 5),.slice ua2 (rtP ev (pkV x0)).length uc2,.slice va3 (rtV ev (pkV x0)).length vc3] 0 _ BX
                  have EC_:=EC.sets [I (rtN ev (pkV x0) 0),I (rtN ev (pkV x0) 1),I (rtN ev (pkV x0) 2),I (rtN ev (pkV x0) 3),I (rtN ev (pkV x0) 4),I (rtN ev (pkV x0) 5),.slice ua2 (rtP ev (pkV x0)).length uc2,.slice va3 (rtV ev (pkV x0)).length vc3] rfl
                  try simp only [hnb]
                  refine wpAnyH_ready (rs:=[11]) (by kernel_rfl) (by simp) ?_
                  refine AllReadyH.cons (i:=11) rfl (fun K hK=>?_) AllReadyH.nil
                  refine stepB2 43 _ _ nb_ 0 _ [I (rtN ev (pkV x0) 0),I (rtN ev (pkV x0) 1),I (rtN ev (pkV x0) 2),I (rtN ev (pkV x0) 3),I (rtN ev (pkV x0) 4),I (rtN ev (pkV x0) 5),.slice ua2 (rtP ev (pkV x0)).length uc2,.slice va3 (rtV ev (pkV x0)).length vc3] it hit EC (by rw [htz];rfl) (by simp) rfl rfl rfl rfl rfl rfl ?_
                  obtain ⟨VE,hVE⟩:∃ Wz,(w13).setCells nb_ 0 [I (rtN ev (pkV x0) 0),I (rtN ev (pkV x0) 1),I (rtN ev (pkV x0) 2),I (rtN ev (pkV x0) 3),I (rtN ev (pkV x0) 4),I (rtN ev (pkV x0) 5),.slice ua2 (rtP ev (pkV x0)).length uc2,.slice va3 (rtV ev (pkV x0)).length vc3]=Wz:=⟨_,rfl⟩
                  rw [hVE] at BX_ EC_  ⊢
                  clear hVE BX EC
                  have BX:=BX_
                  have EC:=EC_
                  clear BX_ EC_
                  refine hK.out _ _ ⟨KC.later (BC.trans (BX.mono BC.size)) KC.lt,HS0.later (BC.trans (BX.mono BC.size))⟩ (fun hJ=>?_)
                  clear hK K hH
                  have hH:=hJ
                  clear hJ
                  try simp only [Act.put,pa,pb,pc]
                  refine tK 12 28 rfl _ hH (by intro w' h;have d0:=h.1.e8;have y3:=h.2.c3;go_simp;try with_reducible rfl) ?_ (hQ:=fun _ _ _ h=>by obtain ⟨_,_,_,_,_,h,_⟩:=h;cases h)
                  try simp only [Act.put,pa,pb,pc]
                  refine wpAnyH_done (by kernel_rfl) ?_ _
                  subst hnb
                  exact ⟨_,ua2,uc2,va3,vc3,rfl,rfl,BX,EC,zb⟩
                ·obtain ⟨Va,hVa⟩:∃ Wz,(V12.drew).alloc (.cells #[I 0,I 0,I 0,I 0,I 0,I 0,.slice none 0 0,.slice none 0 0] 43)=Wz:=⟨_,rfl⟩
                 have XA:Below (V12.drew).heap.size (V12.drew) Va:=by rw [← hVa];exact (Below.refl _ _).alloc (Nat.le_refl _) _
                 have zb:V12.heap.size≤(V12.drew).heap.size:=BX.size
                 have EC:Blk (V12.drew).heap.size [I 0,I 0,I 0,I 0,I 0,I 0,.slice none 0 0,.slice none 0 0] Va:=by rw [← hVa];exact Blk.new _ _ _
                 replace BX:=BX.trans (XA.mono BX.size)
                 clear XA
                 go_simp
                 try rw [hVa]
                 refine hK.out _ _ (by (try rw [hVa]);exact ⟨KC.later (BC.trans (BX.mono BC.size)) KC.lt,HS0.later (BC.trans (BX.mono BC.size))⟩) (fun hJ=>?_)
                 clear hK K hH
                 have hH:=hJ
                 clear hJ
                 try simp only [Act.put,pa,pb,pc]
                 try rw [hVa]
                 clear hVa
                 refine wpAnyH_ready (rs:=[5]) (by kernel_rfl) (by simp) ?_
                 refine AllReadyH.cons (i:=5) rfl (fun K hK=>?_) AllReadyH.nil
                 go_simp
                 refine (specPK_is x0 _).mono ?_
                 rintro en w_ ⟨rfl,rfl⟩
                 go_wp2_with fail
                 refine hK.out _ _ ⟨KC.later (BC.trans (BX.mono BC.size)) KC.lt,HS0.later (BC.trans (BX.mono BC.size))⟩ (fun hJ=>?_)
                 clear hK K hH
                 have hH:=hJ
                 clear hJ
                 try simp only [Act.put,pa,pb,pc]
                 refine wpAnyH_ready (rs:=[6]) (by kernel_rfl) (by simp) ?_
                 refine AllReadyH.cons (i:=6) rfl (fun K hK=>?_) AllReadyH.nil
                 go_simp
                 refine (specReadT_is ev (pkV x0) _ hev).mono ?_
                 rintro en w13 ⟨ua2,uc2,va3,vc3,rfl,_,_,_,hb⟩
                 replace BX:=BX.trans (hb.mono BX.size)
                 replace EC:=EC.later hb EC.lt
                 clear hb
                 go_wp2_with fail
                 refine hK.out _ _ ⟨KC.later (BC.trans (BX.mono BC.size)) KC.lt,HS0.later (BC.trans (BX.mono BC.size))⟩ (fun hJ=>?_)
                 clear hK K hH
                 have hH:=hJ
                 clear hJ
                 try simp only [Act.put,pa,pb,pc]
                 refine tK 7 156 rfl _ hH (by intro w' h;have d0:=h.1.e8;have y3:=h.2.c3;go_simp;try with_reducible rfl) ?_ (hQ:=fun _ _ _ h=>by obtain ⟨_,_,_,_,_,h,_⟩:=h;cases h)
                 try simp only [Act.put,pa,pb,pc]
                 refine tK 8 164 rfl _ hH (by intro w' h;have d0:=h.1.e8;have y3:=h.2.c3;go_simp;try with_reducible rfl) ?_ (hQ:=fun _ _ _ h=>by obtain ⟨_,_,_,_,_,h,_⟩:=h;cases h)
                 try simp only [Act.put,pa,pb,pc]
                 refine tK 9 165 rfl _ hH (by intro w' h;have d0:=h.1.e8;have y3:=h.2.c3;go_simp;try with_reducible rfl) ?_ (hQ:=fun _ _ _ h=>by obtain ⟨_,_,_,_,_,h,_⟩:=h;cases h)
                 try simp only [Act.put,pa,pb,pc]
                 replace EC:Blk (V12).heap.size _ _:=EC
                 replace zb:V12.heap.size≤(V12).heap.size:=zb
                 obtain ⟨nb_,hnb⟩:∃ n,(V12).heap.size=n:=⟨_,rfl⟩
                 rw [hnb] at EC
                 replace zb:V12.heap.size≤nb_:=by rw [← hnb];exact zb
                 have BX_:=below_sets (g:=nb_) zb [I (rtN ev (pkV x0) 0),I (rtN ev (pkV x0) 1),I (rtN ev (pkV x0) 2),I (rtN ev (pkV x0) 3),I (rtN ev (pkV x0) 4),I (rtN ev (pkV x0) 5),.slice ua2 (rtP ev (pkV x0)).length uc2,.slice va3 (rtV ev (pkV x0)).length vc3] 0 _ BX
                 have EC_:=EC.sets [I (rtN ev (pkV x0) 0),I (rtN ev (pkV x0) 1),I (rtN ev (pkV x0) 2),I (rtN ev (pkV x0) 3),I (rtN ev (pkV x0) 4),I (rtN ev (pkV x0) 5),.slice ua2 (rtP ev (pkV x0)).length uc2,.slice va3 (rtV ev (pkV x0)).length vc3] rfl
                 try simp only [hnb]
                 refine wpAnyH_ready (rs:=[11]) (by kernel_rfl) (by simp) ?_
                 refine AllReadyH.cons (i:=11) rfl (fun K hK=>?_) AllReadyH.nil
                 refine stepB2 43 _ _ nb_ 0 _ [I (rtN ev (pkV x0) 0),I (rtN ev (pkV x0) 1),I (rtN ev (pkV x0) 2),I (rtN ev (pkV x0) 3),I (rtN ev (pkV x0) 4),I (rtN ev (pkV x0) 5),.slice ua2 (rtP ev (pkV x0)).length uc2,.slice va3 (rtV ev (pkV x0)).length vc3] it hit EC (by rw [htz];rfl) (by simp) rfl rfl rfl rfl rfl rfl ?_
                 obtain ⟨VE,hVE⟩:∃ Wz,(w13).setCells nb_ 0 [I (rtN ev (pkV x0) 0),I (rtN ev (pkV x0) 1),I (rtN ev (pkV x0) 2),I (rtN ev (pkV x0) 3),I (rtN ev (pkV x0) 4),I (rtN ev (pkV x0) 5),.slice ua2 (rtP ev (pkV x0)).length uc2,.slice va3 (rtV ev (pkV x0)).length vc3]=Wz:=⟨_,rfl⟩
                 rw [hVE] at BX_ EC_  ⊢
                 clear hVE BX EC
                 have BX:=BX_
                 have EC:=EC_
                 clear BX_ EC_
                 refine hK.out _ _ ⟨KC.later (BC.trans (BX.mono BC.size)) KC.lt,HS0.later (BC.trans (BX.mono BC.size))⟩ (fun hJ=>?_)
                 clear hK K hH
                 have hH:=hJ
                 clear hJ
                 try simp only [Act.put,pa,pb,pc]
                 refine tK 12 28 rfl _ hH (by intro w' h;have d0:=h.1.e8;have y3:=h.2.c3;go_simp;try with_reducible rfl) ?_ (hQ:=fun _ _ _ h=>by obtain ⟨_,_,_,_,_,h,_⟩:=h;cases h)
                 try simp only [Act.put,pa,pb,pc]
                 refine wpAnyH_done (by kernel_rfl) ?_ _
                 subst hnb
                 exact ⟨_,ua2,uc2,va3,vc3,rfl,rfl,BX,EC,zb⟩
               case imp25 =>
                have zv1:Hid (w9.heap.size < V12.heap.size):=EC.lt
                rintro ex a' w14 ⟨xb,ua2,uc2,va3,vc3,rfl,rfl,BX,XC,zb⟩
                replace NC:=NC.later BX NC.lt
                replace EC:=EC.later BX EC.lt
                replace RP2:=RP2.later BX
                replace RV2:=RV2.later BX
                replace BC:=BC.trans (BX.mono BC.size)
                have zX:Hid (w9.heap.size < xb):=Nat.lt_of_lt_of_le zv1.out zb
                clear BX zb
                have zM_:=zM.out
                have zE_:=zE.out
                have zT_:=zT.out
                have zK_:=zKT.out
                have zR_:=zR.out
                have zk_:=zK.out
                have zX_:=zX.out
                have zc_:=zc2.out
                obtain ⟨X1,hX1⟩:∃ Wz,(World.setCells w14 w9.heap.size 0 [I 4])=Wz:=⟨_,rfl⟩
                have EC_:Blk w9.heap.size [I 4,I realm,I x0,I x0,I 0,I 0,I x2,I 0,I 0,I 0,I 0] X1:=by rw [← hX1];exact EC.part 0 [I 4] _ (by simp) rfl
                have NC_:=hX1 ▸ Blk.farS (q:=w9.heap.size) (by omega) [I 4] 0 _ NC
                have XC_:=hX1 ▸ Blk.farS (q:=w9.heap.size) (by omega) [I 4] 0 _ XC
                have RP2_:RF w11.heap.size X1 pa2 g.P:=by rw [← hX1];exact RF.sets (q:=w9.heap.size) (by omega) [I 4] 0 _ RP2
                have RV2_:RF w11.heap.size X1 va2 g.V:=by rw [← hX1];exact RF.sets (q:=w9.heap.size) (by omega) [I 4] 0 _ RV2
                have BC_:Below T0.heap.size T0 X1:=by rw [← hX1];exact below_sets (g:=w9.heap.size) (by omega) [I 4] 0 _ BC
                have EC0X1:=EC
                clear NC EC XC BC RP2 RV2
                have NC:=NC_
                have EC:=EC_
                have XC:=XC_
                have BC:=BC_
                have RP2:=RP2_
                have RV2:=RV2_
                clear NC_ EC_ XC_ BC_ RP2_ RV2_
                have q3_:=NC.at 0 rfl
                obtain ⟨X2,hX2⟩:∃ Wz,(World.setCells X1 w9.heap.size 3 [I g.cl])=Wz:=⟨_,rfl⟩
                have EC_:Blk w9.heap.size [I 4,I realm,I x0,I g.cl,I 0,I 0,I x2,I 0,I 0,I 0,I 0] X2:=by rw [← hX2];exact EC.part 3 [I g.cl] _ (by simp) rfl
                have NC_:=hX2 ▸ Blk.farS (q:=w9.heap.size) (by omega) [I g.cl] 3 _ NC
                have XC_:=hX2 ▸ Blk.farS (q:=w9.heap.size) (by omega) [I g.cl] 3 _ XC
                have RP2_:RF w11.heap.size X2 pa2 g.P:=by rw [← hX2];exact RF.sets (q:=w9.heap.size) (by omega) [I g.cl] 3 _ RP2
                have RV2_:RF w11.heap.size X2 va2 g.V:=by rw [← hX2];exact RF.sets (q:=w9.heap.size) (by omega) [I g.cl] 3 _ RV2
                have BC_:Below T0.heap.size T0 X2:=by rw [← hX2];exact below_sets (g:=w9.heap.size) (by omega) [I g.cl] 3 _ BC
                have EC0X2:=EC
                clear NC EC XC BC RP2 RV2
                have NC:=NC_
                have EC:=EC_
                have XC:=XC_
                have BC:=BC_
                have RP2:=RP2_
                have RV2:=RV2_
                clear NC_ EC_ XC_ BC_ RP2_ RV2_
                have q4_:=XC.at 2 rfl
                obtain ⟨X3,hX3⟩:∃ Wz,(World.setCells X2 w9.heap.size 7 [I (rtN ev (pkV x0) 2)])=Wz:=⟨_,rfl⟩
                have EC_:Blk w9.heap.size [I 4,I realm,I x0,I g.cl,I 0,I 0,I x2,I (rtN ev (pkV x0) 2),I 0,I 0,I 0] X3:=by rw [← hX3];exact EC.part 7 [I (rtN ev (pkV x0) 2)] _ (by simp) rfl
                have NC_:=hX3 ▸ Blk.farS (q:=w9.heap.size) (by omega) [I (rtN ev (pkV x0) 2)] 7 _ NC
                have XC_:=hX3 ▸ Blk.farS (q:=w9.heap.size) (by omega) [I (rtN ev (pkV x0) 2)] 7 _ XC
                have RP2_:RF w11.heap.size X3 pa2 g.P:=by rw [← hX3];exact RF.sets (q:=w9.heap.size) (by omega) [I (rtN ev (pkV x0) 2)] 7 _ RP2
                have RV2_:RF w11.heap.size X3 va2 g.V:=by rw [← hX3];exact RF.sets (q:=w9.heap.size) (by omega) [I (rtN ev (pkV x0) 2)] 7 _ RV2
                have BC_:Below T0.heap.size T0 X3:=by rw [← hX3];exact below_sets (g:=w9.heap.size) (by omega) [I (rtN ev (pkV x0) 2)] 7 _ BC
                have EC0X3:=EC
                clear NC EC XC BC RP2 RV2
                have NC:=NC_
                have EC:=EC_
                have XC:=XC_
                have BC:=BC_
                have RP2:=RP2_
                have RV2:=RV2_
                clear NC_ EC_ XC_ BC_ RP2_ RV2_
                clear XC
                clear zM_ zE_ zT_ zK_ zR_ zk_
                have zM_:=zM.out
                have zE_:=zE.out
                have zT_:=zT.out
                have zK_:=zKT.out
                have zR_:=zR.out
                have zk_:=zK.out
                have q5_:=NC.at 1 rfl
                obtain ⟨E1,hE1⟩:∃ Wz,(World.setCells X3 w9.heap.size 4 [I target])=Wz:=⟨_,rfl⟩
                have EC_:Blk w9.heap.size [I 4,I realm,I x0,I g.cl,I target,I 0,I x2,I (rtN ev (pkV x0) 2),I 0,I 0,I 0] E1:=by rw [← hE1];exact EC.part 4 [I target] _ (by simp) rfl
                have NC_:=hE1 ▸ Blk.farS (q:=w9.heap.size) (by omega) [I target] 4 _ NC
                have RP2_:RF w11.heap.size E1 pa2 g.P:=by rw [← hE1];exact RF.sets (q:=w9.heap.size) (by omega) [I target] 4 _ RP2
                have RV2_:RF w11.heap.size E1 va2 g.V:=by rw [← hE1];exact RF.sets (q:=w9.heap.size) (by omega) [I target] 4 _ RV2
                have BC_:Below T0.heap.size T0 E1:=by rw [← hE1];exact below_sets (g:=w9.heap.size) (by omega) [I target] 4 _ BC
                have EC0E1:=EC
                clear NC EC BC RP2 RV2
                have NC:=NC_
                have EC:=EC_
                have BC:=BC_
                have RP2:=RP2_
                have RV2:=RV2_
                clear NC_ EC_ BC_ RP2_ RV2_
                obtain ⟨E2,hE2⟩:∃ Wz,(World.setCells E1 w9.heap.size 5 [I fresh])=Wz:=⟨_,rfl⟩
                have EC_:Blk w9.heap.size [I 4,I realm,I x0,I g.cl,I target,I fresh,I x2,I (rtN ev (pkV x0) 2),I 0,I 0,I 0] E2:=by rw [← hE2];exact EC.part 5 [I fresh] _ (by simp) rfl
                have NC_:=hE2 ▸ Blk.farS (q:=w9.heap.size) (by omega) [I fresh] 5 _ NC
                have RP2_:RF w11.heap.size E2 pa2 g.P:=by rw [← hE2];exact RF.sets (q:=w9.heap.size) (by omega) [I fresh] 5 _ RP2
                have RV2_:RF w11.heap.size E2 va2 g.V:=by rw [← hE2];exact RF.sets (q:=w9.heap.size) (by omega) [I fresh] 5 _ RV2
                have BC_:Below T0.heap.size T0 E2:=by rw [← hE2];exact below_sets (g:=w9.heap.size) (by omega) [I fresh] 5 _ BC
                have EC0E2:=EC
                clear NC EC BC RP2 RV2
                have NC:=NC_
                have EC:=EC_
                have BC:=BC_
                have RP2:=RP2_
                have RV2:=RV2_
                clear NC_ EC_ BC_ RP2_ RV2_
                have q6_:=NC.at 3 rfl
                have q7_:=NC.at 4 rfl
                have q8_:=NC.at 5 rfl
                obtain ⟨E3,hE3⟩:∃ Wz,(World.setCells E2 w9.heap.size 8 [I (g.a),I (g.b),I (g.e)])=Wz:=⟨_,rfl⟩
                have EC_:Blk w9.heap.size [I 4,I realm,I x0,I g.cl,I target,I fresh,I x2,I (rtN ev (pkV x0) 2),I (g.a),I (g.b),I (g.e)] E3:=by rw [← hE3];exact EC.part 8 [I (g.a),I (g.b),I (g.e)] _ (by simp) rfl
                have NC_:=hE3 ▸ Blk.farS (q:=w9.heap.size) (by omega) [I (g.a),I (g.b),I (g.e)] 8 _ NC
                have RP2_:RF w11.heap.size E3 pa2 g.P:=by rw [← hE3];exact RF.sets (q:=w9.heap.size) (by omega) [I (g.a),I (g.b),I (g.e)] 8 _ RP2
                have RV2_:RF w11.heap.size E3 va2 g.V:=by rw [← hE3];exact RF.sets (q:=w9.heap.size) (by omega) [I (g.a),I (g.b),I (g.e)] 8 _ RV2
                have BC_:Below T0.heap.size T0 E3:=by rw [← hE3];exact below_sets (g:=w9.heap.size) (by omega) [I (g.a),I (g.b),I (g.e)] 8 _ BC
                have EC0E3:=EC
                clear NC EC BC RP2 RV2
                have NC:=NC_
                have EC:=EC_
                have zE3:Hid (w9.heap.size < E3.heap.size):=EC.lt
                have zN3:Hid (mb < E3.heap.size):=NC_.lt
                have BC:=BC_
                have RP2:=RP2_
                have RV2:=RV2_
                clear NC_ EC_ BC_ RP2_ RV2_
                have q9_:=NC.at 1 rfl
                have q10_:=NC.at 3 rfl
                have q11_:=NC.at 4 rfl
                have q12_:=NC.at 5 rfl
                have XA_:Below E3.heap.size E3 (E3.alloc (.cells #[I fresh,I target,I nonce,I (g.a),I (g.b),I (g.e)] 47)):=(Below.refl _ _).alloc (Nat.le_refl _) _
                have GC:Blk E3.heap.size [I fresh,I target,I nonce,I (g.a),I (g.b),I (g.e)] (E3.alloc (.cells #[I fresh,I target,I nonce,I (g.a),I (g.b),I (g.e)] 47)):=Blk.new _ _ _
                replace NC:=NC.later XA_ NC.lt
                replace EC:=EC.later XA_ EC.lt
                replace RP2:=RP2.later XA_
                replace RV2:=RV2.later XA_
                replace BC:=BC.trans (XA_.mono BC.size)
                clear XA_
                obtain ⟨E4,hE4⟩:∃ Wz,(E3.alloc (.cells #[I fresh,I target,I nonce,I (g.a),I (g.b),I (g.e)] 47))=Wz:=⟨_,rfl⟩
                rw [hE4] at NC EC GC BC RP2 RV2
                clear zM_ zE_ zT_ zK_ zR_ zk_ zX_ zc_
                go_wp2_with (first | (refine wpList_st1 3 _ _ w9.heap.size 0 _ (I 4) i1 hi1 EC0X1 hz1 (by simp) rfl rfl rfl rfl rfl ?_;try simp only [Act.put];rw [hX1]) | (refine wpList_st1 3 _ _ w9.heap.size 3 _ (I g.cl) i1 hi1 EC0X2 hz1 (by simp) rfl rfl rfl rfl rfl ?_;try simp only [Act.put];rw [hX2]) | (refine wpList_st1 3 _ _ w9.heap.size 7 _ (I (rtN ev (pkV x0) 2)) i1 hi1 EC0X3 hz1 (by simp) rfl rfl rfl rfl rfl ?_;try simp only [Act.put];rw [hX3]) | (refine wpList_st1 3 _ _ w9.heap.size 4 _ (I target) i1 hi1 EC0E1 hz1 (by simp) rfl rfl rfl rfl rfl ?_;try simp only [Act.put];rw [hE1]) | (refine wpList_st1 3 _ _ w9.heap.size 5 _ (I fresh) i1 hi1 EC0E2 hz1 (by simp) rfl rfl rfl rfl rfl ?_;try simp only [Act.put];rw [hE2]) | (refine wpList_stB 31 _ _ w9.heap.size 8 _ [I (g.a),I (g.b),I (g.e)] i3 hi3 EC0E3 (by rw [hz3];rfl) (by simp) rfl rfl rfl rfl rfl ?_;try simp only [Act.put];rw [hE3]) | (rw [hE4]))
                clear EC0X1 q3_ EC0X2 q4_ EC0X3 q5_ EC0E1 EC0E2 q6_ q7_ q8_ EC0E3 q9_ q10_ q11_ q12_ hX1 hX2 hX3 hE1 hE2 hE3 hE4
                have HR:Hid (toR realm (askG c realm now fresh target nonce tk au rs ev)=replyR nonce (shT g.cl target fresh (g.a) (g.b) (g.e) g.P g.V (pkV (target+3))) (shG fresh target nonce (g.a) (g.b) (g.e) x2) ⟨4,realm,x0,g.cl,target,fresh,x2,(rtN ev (pkV x0) 2),(g.a),(g.b),(g.e)⟩):=by show _=_;rw [HG.out,HGR.out];obtain ⟨g0,g1,g2,g3,g4,g5,g6,g7,g8⟩:=HD.out;show replyR g.nonce g.tick g.grant (g.event realm)=_;unfold Gd.tick Gd.grant Gd.event;rw [g0,g1,g2,g3,g4,g5,g6,g7,g8]
                have RHc_:=RP2.row
                have RVc_:=RV2.row
                have RHc:RowAt (Value.int .i64) E4.drew pa2 g.P:=RHc_
                have RVc:RowAt (Value.int .i64) E4.drew va2 g.V:=RVc_
                clear RHc_ RVc_
                replace UC:=UC.later BC UC.lt
                replace KC:=KC.later BC KC.lt
                replace BC:=BW.trans (BC.mono BW.size)
                have zM_:=zM.out
                have zE_:=zE.out
                have zT_:=zT.out
                have zK_:=zKT.out
                have zR_:=zR.out
                have zk_:=zK.out
                have zG1:=GC.lt
                have zN1:=NC.lt
                have zE1:=EC.lt
                have zG_:w9.heap.size < E3.heap.size:=zE3.out
                replace UC:=UC.drew
                replace NC:=NC.drew
                replace GC:=GC.drew
                replace EC:=EC.drew
                replace KC:=KC.drew
                replace BC:=BC.drew
                refine wp_region_held_drew (S:=(fun Vw=>Blk mb [I g.cl,I target,I fresh,I g.a,I g.b,I g.e,.slice pa2 g.P.length pc2,.slice va2 g.V.length vc2] Vw∧Blk E3.heap.size [I fresh,I target,I nonce,I (g.a),I (g.b),I (g.e)] Vw∧Blk w9.heap.size [I 4,I realm,I x0,I g.cl,I target,I fresh,I x2,I (rtN ev (pkV x0) 2),I (g.a),I (g.b),I (g.e)] Vw∧Blk nb [I x0,I x1,I x2,I x3,I x4,I x5,.slice ua P.length uc,.slice va V.length vc] Vw)) (by kernel_rfl) ⟨NC,GC,EC,KC⟩ (fun hH=>?_)
                refine tK 0 214 rfl _ hH (by intro w' h;have a0:=h.1.e8;have b0:=h.2.1.e6;have e0:=h.2.2.1.e11;have k2:=h.2.2.2.at 2 rfl;go_simp;try with_reducible rfl) ?_
                try simp only [Act.put,pa,pb,pc]
                refine tK 1 215 rfl _ hH (by intro w' h;have a0:=h.1.e8;have b0:=h.2.1.e6;have e0:=h.2.2.1.e11;have k2:=h.2.2.2.at 2 rfl;go_simp;try with_reducible rfl) ?_
                try simp only [Act.put,pa,pb,pc]
                refine tK 2 216 rfl _ hH (by intro w' h;have a0:=h.1.e8;have b0:=h.2.1.e6;have e0:=h.2.2.1.e11;have k2:=h.2.2.2.at 2 rfl;go_simp;try with_reducible rfl) ?_
                try simp only [Act.put,pa,pb,pc]
                refine tK 4 218 rfl _ hH (by intro w' h;have a0:=h.1.e8;have b0:=h.2.1.e6;have e0:=h.2.2.1.e11;have k2:=h.2.2.2.at 2 rfl;go_simp;try with_reducible rfl) ?_
                try simp only [Act.put,pa,pb,pc]
                refine tK 5 219 rfl _ hH (by intro w' h;have a0:=h.1.e8;have b0:=h.2.1.e6;have e0:=h.2.2.1.e11;have k2:=h.2.2.2.at 2 rfl;go_simp;try with_reducible rfl) ?_
                try simp only [Act.put,pa,pb,pc]
                refine tK 6 220 rfl _ hH (by intro w' h;have a0:=h.1.e8;have b0:=h.2.1.e6;have e0:=h.2.2.1.e11;have k2:=h.2.2.2.at 2 rfl;go_simp;try with_reducible rfl) ?_
                try simp only [Act.put,pa,pb,pc]
                refine tK 8 222 rfl _ hH (by intro w' h;have a0:=h.1.e8;have b0:=h.2.1.e6;have e0:=h.2.2.1.e11;have k2:=h.2.2.2.at 2 rfl;go_simp;try with_reducible rfl) ?_
                try simp only [Act.put,pa,pb,pc]
                refine wpAnyH_ready (rs:=[3]) (by kernel_rfl) (by simp) ?_
                refine AllReadyH.cons (i:=3) rfl (fun K hK=>?_) AllReadyH.nil
                go_simp
                refine (specShowT_is g.cl target fresh (g.a) (g.b) (g.e) pa2 g.P pc2 va2 g.V vc2 (pkV (target+3)) _ RHc RVc (by omega) (by omega)).mono ?_
                rintro en v1 ⟨rfl,hb⟩
                replace UC:=UC.later hb UC.lt
                replace NC:=NC.later hb NC.lt
                replace GC:=GC.later hb GC.lt
                replace EC:=EC.later hb EC.lt
                replace KC:=KC.later hb KC.lt
                replace BC:=BC.trans (hb.mono BC.size)
                clear hb
                go_wp2_with fail
                refine hK.out _ _ ⟨NC,GC,EC,KC⟩ (fun hJ=>?_)
                clear hK K hH
                have hH:=hJ
                clear hJ
                try simp only [Act.put,pa,pb,pc]
                clear RHc RVc
                refine wpAnyH_ready (rs:=[7]) (by kernel_rfl) (by simp) ?_
                refine AllReadyH.cons (i:=7) rfl (fun K hK=>?_) AllReadyH.nil
                go_simp
                refine (specShowG_is fresh target nonce (g.a) (g.b) (g.e) x2 _).mono ?_
                rintro en v2 ⟨rfl,hb⟩
                replace UC:=UC.later hb UC.lt
                replace NC:=NC.later hb NC.lt
                replace GC:=GC.later hb GC.lt
                replace EC:=EC.later hb EC.lt
                replace KC:=KC.later hb KC.lt
                replace BC:=BC.trans (hb.mono BC.size)
                clear hb
                go_wp2_with fail
                refine hK.out _ _ ⟨NC,GC,EC,KC⟩ (fun hJ=>?_)
                clear hK K hH
                have hH:=hJ
                clear hJ
                try simp only [Act.put,pa,pb,pc]
                have hs1:=shT_size g.cl target fresh (g.a) (g.b) (g.e) g.P g.V (pkV (target+3))
                have hs2:=shG_size fresh target nonce (g.a) (g.b) (g.e) x2
                refine wpAnyH_ready (rs:=[9]) (by kernel_rfl) (by simp) ?_
                refine AllReadyH.cons (i:=9) rfl (fun K hK=>?_) AllReadyH.nil
                go_simp
                refine (specReply_is nonce (shT g.cl target fresh (g.a) (g.b) (g.e) g.P g.V (pkV (target+3))) (shG fresh target nonce (g.a) (g.b) (g.e) x2) ⟨4,realm,x0,g.cl,target,fresh,x2,(rtN ev (pkV x0) 2),(g.a),(g.b),(g.e)⟩ _ (by omega) (by omega)).mono ?_
                rintro en v3 ⟨rfl,hb⟩
                replace UC:=UC.later hb UC.lt
                replace NC:=NC.later hb NC.lt
                replace GC:=GC.later hb GC.lt
                replace EC:=EC.later hb EC.lt
                replace KC:=KC.later hb KC.lt
                replace BC:=BC.trans (hb.mono BC.size)
                clear hb
                go_wp2_with fail
                refine hK.out _ _ ⟨NC,GC,EC,KC⟩ (fun hJ=>?_)
                clear hK K hH
                have hH:=hJ
                clear hJ
                try simp only [Act.put,pa,pb,pc]
                generalize replyR nonce (shT g.cl target fresh (g.a) (g.b) (g.e) g.P g.V (pkV (target+3))) (shG fresh target nonce (g.a) (g.b) (g.e) x2) ⟨4,realm,x0,g.cl,target,fresh,x2,(rtN ev (pkV x0) 2),(g.a),(g.b),(g.e)⟩=rp at HR hH ⊢
                obtain ⟨rc,rt,e0,e1,e2,e3,e4,e5,e6,e7,e8,e9,e10⟩:=rp
                have N_:Blk (w.heap.size+1) [I rc,.string rt,I e0,I e1,I e2,I e3,I e4,I e5,I e6,I e7,I e8,I e9,I e10] ((v3).setCells (w.heap.size+1) 0 [I rc,.string rt,I e0,I e1,I e2,I e3,I e4,I e5,I e6,I e7,I e8,I e9,I e10]):=UC.part 0 [I rc,.string rt,I e0,I e1,I e2,I e3,I e4,I e5,I e6,I e7,I e8,I e9,I e10] _ (by simp) rfl
                have NC_:=Blk.farS (q:=(w.heap.size+1)) (by omega) [I rc,.string rt,I e0,I e1,I e2,I e3,I e4,I e5,I e6,I e7,I e8,I e9,I e10] 0 _ NC
                have GC_:=Blk.farS (q:=(w.heap.size+1)) (by omega) [I rc,.string rt,I e0,I e1,I e2,I e3,I e4,I e5,I e6,I e7,I e8,I e9,I e10] 0 _ GC
                have EC_:=Blk.farS (q:=(w.heap.size+1)) (by omega) [I rc,.string rt,I e0,I e1,I e2,I e3,I e4,I e5,I e6,I e7,I e8,I e9,I e10] 0 _ EC
                have KC_:=Blk.farS (q:=(w.heap.size+1)) (by omega) [I rc,.string rt,I e0,I e1,I e2,I e3,I e4,I e5,I e6,I e7,I e8,I e9,I e10] 0 _ KC
                have BC_:=below_sets (m:=w.heap.size) (g:=(w.heap.size+1)) (by omega) [I rc,.string rt,I e0,I e1,I e2,I e3,I e4,I e5,I e6,I e7,I e8,I e9,I e10] 0 _ BC
                refine wpAnyH_ready (rs:=[10]) (by kernel_rfl) (by simp) ?_
                refine AllReadyH.cons (i:=10) rfl (fun K hK=>?_) AllReadyH.nil
                refine stepB 35 _ _ ((w.heap.size+1)) 0 [I 0,.string ⟨#[]⟩,I 0,I 0,I 0,I 0,I 0,I 0,I 0,I 0,I 0,I 0,I 0] [I rc,.string rt,I e0,I e1,I e2,I e3,I e4,I e5,I e6,I e7,I e8,I e9,I e10] ir hir UC (by rw [hrz];rfl) (by simp) rfl rfl rfl rfl rfl ?_
                try simp only [Act.put,pa]
                obtain ⟨VU,hVU⟩:∃ Wz,(v3).setCells ((w.heap.size+1)) 0 [I rc,.string rt,I e0,I e1,I e2,I e3,I e4,I e5,I e6,I e7,I e8,I e9,I e10]=Wz:=⟨_,rfl⟩
                rw [hVU] at N_ BC_ NC_ GC_ EC_ KC_ ⊢
                clear hVU UC BC NC GC EC KC
                have UC:=N_
                have BC:=BC_
                have NC:=NC_
                have GC:=GC_
                have EC:=EC_
                have KC:=KC_
                clear N_ BC_ NC_ GC_ EC_ KC_
                refine hK.out _ _ ⟨NC,GC,EC,KC⟩ (fun hJ=>?_)
                clear hK K hH
                have hH:=hJ
                clear hJ
                try simp only [Act.put,pa,pb,pc]
                refine wpAnyH_done (by kernel_rfl) ?_ _
                go_wp2_with fail
                exact bodyPost_ret (res_B1 rfl _ _ (w.heap.size+1) _ ir hir ag35 UC (by rw [hrz];rfl) rfl) rfl ⟨by rw [HR.out],BC⟩
       ·have e2:(raV au x2 1 == x0)=false:=by simpa using h2
        have HR:Hid ((toR realm (askG c realm now fresh target nonce tk au rs ev)).val=(failR 2).val):=by show _=_;rw [show askG c realm now fresh target nonce tk au rs ev=.error 2 from by rw [HG.out,ck_2 (fun h=>h2 h.2)];exact if_neg (by decide)];rfl
        go_wp2_with fail
        refine (spec_fail 2 _).mono ?_
        rintro en wf ⟨rfl,hb⟩
        replace UC:=UC.later hb UC.lt
        replace BC:=BC.trans (hb.mono BC.size)
        clear hb
        clear q1_ q2_
        have FU:=UC.sets [I 2,.string ⟨#[]⟩,I 0,I 0,I 0,I 0,I 0,I 0,I 0,I 0,I 0,I 0,I 0] rfl
        have FB:=below_sets (m:=w.heap.size) (g:=(w.heap.size+1)) (by omega) [I 2,.string ⟨#[]⟩,I 0,I 0,I 0,I 0,I 0,I 0,I 0,I 0,I 0,I 0,I 0] 0 _ BC
        rw [show (failR 2).val=.agg #[I 2,.string ⟨#[]⟩,I 0,I 0,I 0,I 0,I 0,I 0,I 0,I 0,I 0,I 0,I 0] from rfl]
        go_wp2_with (refine wpList_stB 35 _ _ (w.heap.size+1) 0 [I 0,.string ⟨#[]⟩,I 0,I 0,I 0,I 0,I 0,I 0,I 0,I 0,I 0,I 0,I 0] [I 2,.string ⟨#[]⟩,I 0,I 0,I 0,I 0,I 0,I 0,I 0,I 0,I 0,I 0,I 0] ir hir UC (by rw [hrz];rfl) (by simp) rfl rfl rfl rfl rfl ?_;try simp only [Act.put])
        exact bodyPost_ret (res_B1 rfl _ _ (w.heap.size+1) _ ir hir ag35 FU (by rw [hrz];rfl) rfl) rfl ⟨by rw [HR.out];rfl,FB⟩
  ·have h0_:target < 0 ∨ 3≤target:=by
    rcases Int.lt_or_le target 0 with h | h
    ·exact Or.inl h
    ·right;rcases Int.lt_or_le 2 target with h3 | h3
     ·omega
     ·exact absurd ((btw_iff _ _ _).2 ⟨h,h3⟩) h0
   rcases h0_ with g1 | g1
   ·skip
    have HR:Hid ((toR realm (askG c realm now fresh target nonce tk au rs ev)).val=(failR 1).val):=by show _=_;rw [show askG c realm now fresh target nonce tk au rs ev=.error 1 from by rw [HG.out,if_neg (fun h=>by exact h0 h.1)]];rfl
    go_wp2_with fail
    refine (spec_fail 1 _).mono ?_
    rintro en wf ⟨rfl,hb⟩
    replace UC:=UC.later hb UC.lt
    replace BC:=BC.trans (hb.mono BC.size)
    clear hb
    have FU:=UC.sets [I 1,.string ⟨#[]⟩,I 0,I 0,I 0,I 0,I 0,I 0,I 0,I 0,I 0,I 0,I 0] rfl
    have FB:=below_sets (m:=w.heap.size) (g:=(w.heap.size+1)) (by omega) [I 1,.string ⟨#[]⟩,I 0,I 0,I 0,I 0,I 0,I 0,I 0,I 0,I 0,I 0,I 0] 0 _ BC
    rw [show (failR 1).val=.agg #[I 1,.string ⟨#[]⟩,I 0,I 0,I 0,I 0,I 0,I 0,I 0,I 0,I 0,I 0,I 0] from rfl]
    go_wp2_with (refine wpList_stB 35 _ _ (w.heap.size+1) 0 [I 0,.string ⟨#[]⟩,I 0,I 0,I 0,I 0,I 0,I 0,I 0,I 0,I 0,I 0,I 0] [I 1,.string ⟨#[]⟩,I 0,I 0,I 0,I 0,I 0,I 0,I 0,I 0,I 0,I 0,I 0] ir hir UC (by rw [hrz];rfl) (by simp) rfl rfl rfl rfl rfl ?_;try simp only [Act.put])
    exact bodyPost_ret (res_B1 rfl _ _ (w.heap.size+1) _ ir hir ag35 FU (by rw [hrz];rfl) rfl) rfl ⟨by rw [HR.out];rfl,FB⟩
   ·have g0:¬ target < 0:=by omega
    have HR:Hid ((toR realm (askG c realm now fresh target nonce tk au rs ev)).val=(failR 1).val):=by show _=_;rw [show askG c realm now fresh target nonce tk au rs ev=.error 1 from by rw [HG.out,if_neg (fun h=>by exact h0 h.1)]];rfl
    go_wp2_with fail
    refine (spec_fail 1 _).mono ?_
    rintro en wf ⟨rfl,hb⟩
    replace UC:=UC.later hb UC.lt
    replace BC:=BC.trans (hb.mono BC.size)
    clear hb
    have FU:=UC.sets [I 1,.string ⟨#[]⟩,I 0,I 0,I 0,I 0,I 0,I 0,I 0,I 0,I 0,I 0,I 0] rfl
    have FB:=below_sets (m:=w.heap.size) (g:=(w.heap.size+1)) (by omega) [I 1,.string ⟨#[]⟩,I 0,I 0,I 0,I 0,I 0,I 0,I 0,I 0,I 0,I 0,I 0] 0 _ BC
    rw [show (failR 1).val=.agg #[I 1,.string ⟨#[]⟩,I 0,I 0,I 0,I 0,I 0,I 0,I 0,I 0,I 0,I 0,I 0] from rfl]
    go_wp2_with (refine wpList_stB 35 _ _ (w.heap.size+1) 0 [I 0,.string ⟨#[]⟩,I 0,I 0,I 0,I 0,I 0,I 0,I 0,I 0,I 0,I 0,I 0] [I 1,.string ⟨#[]⟩,I 0,I 0,I 0,I 0,I 0,I 0,I 0,I 0,I 0,I 0,I 0] ir hir UC (by rw [hrz];rfl) (by simp) rfl rfl rfl rfl rfl ?_;try simp only [Act.put])
    exact bodyPost_ret (res_B1 rfl _ _ (w.heap.size+1) _ ir hir ag35 FU (by rw [hrz];rfl) rfl) rfl ⟨by rw [HR.out];rfl,FB⟩
end Go.Proofs.YtcaieniddnhkbaaGreatDoor
