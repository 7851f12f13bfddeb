/- Chapter 8: what is answered with a gift: the reply. -/
import Derived.Test.YtcaieniddnhkbaaGreatDoorAb
import Derived.Test.YtcaieniddnhkbaaGreatDoorIm8d
set_option linter.unusedVariables false
set_option maxRecDepth 100000
namespace Go.Proofs.YtcaieniddnhkbaaGreatDoor
open Go Go.RowKit Own Var Term
set_option maxHeartbeats 6400000 in
theorem reply_ok (c:Cf) (realm now fresh:Int) (cl sv key a b e:Int) (pa:Option Addr) (P:List Int) (pc:Nat) (va:Option Addr) (V:List Int) (vc:Nat) (fk bk nonce kind by' par ev:Int) (w:World) (RP:RowAt (Value.int .i64) w pa P) (RV:RowAt (Value.int .i64) w va V) (hP:P.length≤1048576) (hV:V.length≤1048576) (hsv:i64 sv) :
  Calls Tryz.prog 28 #[cenV c realm now fresh,gfV cl sv key a b e pa P pc va V vc fk bk nonce kind by' par ev,.nilIface] w fun en w'=>en=.returned (replyR nonce (shT cl sv key a b e P V fk) (shG key sv nonce a b e bk) ⟨kind,realm,by',cl,sv,key,par,ev,a,b,e⟩).val∧Below w.heap.size w w':=by
 obtain ⟨ir,hir,hrz⟩:=info_reply
 obtain ⟨ig,hig,hgz⟩:=info_gift
 obtain ⟨W4,hW4⟩:∃ W4,(((w.alloc (.cells #[.slice c.ua c.U.length c.uc,.slice c.sa c.S.length c.sc,.slice c.la c.L.length c.lc,.slice c.xa c.X.length c.xc,I c.k,I realm,I now,I fresh] 70)).alloc (.cells #[I cl,I sv,I key,I a,I b,I e,.slice pa P.length pc,.slice va V.length vc,I fk,I bk,I nonce,I kind,I 0,I by',I 0,I 0,I 0,I par,I ev,I 0,I 0,I 0] 73)).alloc (.cells #[I 0,.string ⟨#[]⟩,I 0,I 0,I 0,I 0,I 0,I 0,I 0,I 0,I 0,I 0,I 0] 35)).alloc (.cells #[I 0] 118)=W4:=⟨_,rfl⟩
 have BC:Below w.heap.size w W4:=by rw [← hW4];exact ((((Below.refl _ _).alloc (Nat.le_refl _) _).alloc (by simp) _).alloc (by simp <;> omega) _).alloc (by simp <;> omega) _
 have TC:Blk w.heap.size [.slice c.ua c.U.length c.uc,.slice c.sa c.S.length c.sc,.slice c.la c.L.length c.lc,.slice c.xa c.X.length c.xc,I c.k,I realm,I now,I fresh] W4:=by rw [← hW4];exact (((Blk.new w #[.slice c.ua c.U.length c.uc,.slice c.sa c.S.length c.sc,.slice c.la c.L.length c.lc,.slice c.xa c.X.length c.xc,I c.k,I realm,I now,I fresh] _).alloc (by simp) _).alloc (by simp <;> omega) _).alloc (by simp <;> omega) _
 have QC:Blk (w.heap.size+1) [I cl,I sv,I key,I a,I b,I e,.slice pa P.length pc,.slice va V.length vc,I fk,I bk,I nonce,I kind,I 0,I by',I 0,I 0,I 0,I par,I ev,I 0,I 0,I 0] W4:=by rw [← hW4];have:=((Blk.new (w.alloc (.cells #[.slice c.ua c.U.length c.uc,.slice c.sa c.S.length c.sc,.slice c.la c.L.length c.lc,.slice c.xa c.X.length c.xc,I c.k,I realm,I now,I fresh] 70)) #[I cl,I sv,I key,I a,I b,I e,.slice pa P.length pc,.slice va V.length vc,I fk,I bk,I nonce,I kind,I 0,I by',I 0,I 0,I 0,I par,I ev,I 0,I 0,I 0] 73).alloc (by simp) (.cells #[I 0,.string ⟨#[]⟩,I 0,I 0,I 0,I 0,I 0,I 0,I 0,I 0,I 0,I 0,I 0] 35)).alloc (by simp <;> omega) (.cells #[I 0] 118);simpa using this
 have UC:Blk (w.heap.size+2) [I 0,.string ⟨#[]⟩,I 0,I 0,I 0,I 0,I 0,I 0,I 0,I 0,I 0,I 0,I 0] W4:=by rw [← hW4];have:=(Blk.new ((w.alloc (.cells #[.slice c.ua c.U.length c.uc,.slice c.sa c.S.length c.sc,.slice c.la c.L.length c.lc,.slice c.xa c.X.length c.xc,I c.k,I realm,I now,I fresh] 70)).alloc (.cells #[I cl,I sv,I key,I a,I b,I e,.slice pa P.length pc,.slice va V.length vc,I fk,I bk,I nonce,I kind,I 0,I by',I 0,I 0,I 0,I par,I ev,I 0,I 0,I 0] 73)) #[I 0,.string ⟨#[]⟩,I 0,I 0,I 0,I 0,I 0,I 0,I 0,I 0,I 0,I 0,I 0] 35).alloc (by simp) (.cells #[I 0] 118);simpa using this
 have NC:Blk (w.heap.size+3) [I 0] W4:=by rw [← hW4];have:=Blk.new (((w.alloc (.cells #[.slice c.ua c.U.length c.uc,.slice c.sa c.S.length c.sc,.slice c.la c.L.length c.lc,.slice c.xa c.X.length c.xc,I c.k,I realm,I now,I fresh] 70)).alloc (.cells #[I cl,I sv,I key,I a,I b,I e,.slice pa P.length pc,.slice va V.length vc,I fk,I bk,I nonce,I kind,I 0,I by',I 0,I 0,I 0,I par,I ev,I 0,I 0,I 0] 73)).alloc (.cells #[I 0,.string ⟨#[]⟩,I 0,I 0,I 0,I 0,I 0,I 0,I 0,I 0,I 0,I 0,I 0] 35)) #[I 0] 118;simpa using this
 have hz4:w.heap.size+4≤W4.heap.size:=by rw [← hW4];simp
 have HT:=gTerm_is cl sv key a b e pa P pc va V vc fk bk nonce kind by' par ev W4 (RP.later BC) (RV.later BC) hP hV hsv
 have HR:Hid (replyR nonce (shT cl sv key a b e P V fk) (shG key sv nonce a b e bk) ⟨kind,realm,by',cl,sv,key,par,ev,a,b,e⟩=if okTerm nonce (shT cl sv key a b e P V fk) (shG key sv nonce a b e bk)=⟨#[]⟩ then failR 1 else ⟨0,okTerm nonce (shT cl sv key a b e P V fk) (shG key sv nonce a b e bk),⟨kind,realm,by',cl,sv,key,par,ev,a,b,e⟩⟩):=(rfl:_=_)
 generalize okTerm nonce (shT cl sv key a b e P V fk) (shG key sv nonce a b e bk)=tm at HT HR
 go_enter Tryz.func28,Tryz.ntmps28
 go_wp2_with fail
 try rw [hW4]
 refine (as_nil _ _).mono ?_
 rintro en w5 ⟨rfl,rfl⟩
 clear hW4 NC
 go_wp2_with (refine wpList_ldB 73 _ (w.heap.size+1) 0 _ [I cl,I sv,I key,I a,I b,I e,.slice pa P.length pc,.slice va V.length vc,I fk,I bk,I nonce,I kind,I 0,I by',I 0,I 0,I 0,I par,I ev,I 0,I 0,I 0] ig hig ag73 QC (by rw [hgz];rfl) rfl rfl rfl rfl ?_;try simp only [Act.put])
 refine HT.mono ?_
 clear HT
 rintro en w6 ⟨rfl,hb⟩
 replace TC:=TC.later hb (by omega)
 replace QC:=QC.later hb (by omega)
 replace UC:=UC.later hb (by omega)
 replace BC:=BC.trans (hb.mono BC.size)
 replace hz4:=Nat.le_trans hz4 hb.size
 clear hb
 by_cases h:tm=⟨#[]⟩
 ·subst h
  rw [if_pos rfl] at HR
  have FU:=UC.sets [I 1,.string ⟨#[]⟩,I 0,I 0,I 0,I 0,I 0,I 0,I 0,I 0,I 0,I 0,I 0] rfl
  have FB:=below_sets (m:=w.heap.size) (g:=w.heap.size+2) (by omega) [I 1,.string ⟨#[]⟩,I 0,I 0,I 0,I 0,I 0,I 0,I 0,I 0,I 0,I 0,I 0] 0 _ BC
  go_wp2_with (refine wpList_stB 35 _ _ (w.heap.size+2) 0 [I 0,.string ⟨#[]⟩,I 0,I 0,I 0,I 0,I 0,I 0,I 0,I 0,I 0,I 0,I 0] [I 1,.string ⟨#[]⟩,I 0,I 0,I 0,I 0,I 0,I 0,I 0,I 0,I 0,I 0,I 0] ir hir UC (by rw [hrz];rfl) (by simp) rfl rfl rfl rfl rfl ?_;try simp only [Act.put])
  exact bodyPost_ret (res_B1 rfl _ _ (w.heap.size+2) _ ir hir ag35 FU (by rw [hrz];rfl) rfl) rfl ⟨by rw [HR.out];rfl,FB⟩
 ·have e1:=not_empty h
  rw [if_neg h] at HR
  go_wp2_with fail
  replace TC:=TC.drew
  replace QC:=QC.drew
  replace UC:=UC.drew
  replace BC:=BC.drew
  refine wp_region_held_drew (S:=(fun Vw=>Blk (w.heap.size+1) [I cl,I sv,I key,I a,I b,I e,.slice pa P.length pc,.slice va V.length vc,I fk,I bk,I nonce,I kind,I 0,I by',I 0,I 0,I 0,I par,I ev,I 0,I 0,I 0] Vw)) (by kernel_rfl) QC (fun hH=>?_)
  replace hz4:w.heap.size+4≤w6.drew.heap.size:=hz4
  refine tk 0 22 rfl _ hH (by intro w' h;have q0:=h.e22;go_simp;try with_reducible rfl) ?_
  try simp only [Act.put,pa,pb,pc]
  refine tk 1 23 rfl _ hH (by intro w' h;have q0:=h.e22;go_simp;try with_reducible rfl) ?_
  try simp only [Act.put,pa,pb,pc]
  refine tk 2 24 rfl _ hH (by intro w' h;have q0:=h.e22;go_simp;try with_reducible rfl) ?_
  try simp only [Act.put,pa,pb,pc]
  refine tk 3 25 rfl _ hH (by intro w' h;have q0:=h.e22;go_simp;try with_reducible rfl) ?_
  try simp only [Act.put,pa,pb,pc]
  refine wpAnyH_ready (rs:=[4,5]) (by kernel_rfl) (by simp) ?_
  refine AllReadyH.cons (i:=4) rfl (fun K hK=>?_) (AllReadyH.cons (i:=5) rfl (fun K hK=>?_) AllReadyH.nil)
  ·obtain ⟨V1,hV1⟩:∃ Wz,(w6.drew).alloc (.cells #[I 0,I 0,I 0,I 0,I 0,I 0,.slice none 0 0,.slice none 0 0] 43)=Wz:=⟨_,rfl⟩
   have XA:Below (w6.drew).heap.size (w6.drew) V1:=by rw [← hV1];exact (Below.refl _ _).alloc (Nat.le_refl _) _
   have zV1:V1.heap.size=(w6.drew).heap.size+1:=by rw [← hV1];simp
   have KT:Blk (w6.drew).heap.size [I 0,I 0,I 0,I 0,I 0,I 0,.slice none 0 0,.slice none 0 0] V1:=by rw [← hV1];exact Blk.new _ _ _
   replace TC:=TC.later XA TC.lt
   replace QC:=QC.later XA QC.lt
   replace UC:=UC.later XA UC.lt
   replace BC:=BC.trans (XA.mono BC.size)
   clear XA
   go_simp
   try rw [hV1]
   refine hK.out _ _ (by (try rw [hV1]);exact QC) (fun hJ=>?_)
   clear hK K hH
   have hH:=hJ
   clear hJ
   try simp only [Act.put,pa,pb,pc]
   try rw [hV1]
   clear hV1
   refine wpAnyH_ready (rs:=[5]) (by kernel_rfl) (by simp) ?_
   refine AllReadyH.cons (i:=5) rfl (fun K hK=>?_) AllReadyH.nil
   obtain ⟨V2,hV2⟩:∃ Wz,(V1).alloc (.cells #[I 0,I 0,I 0,I 0,I 0,I 0,I 0,I 0,I 0,I 0,I 0] 33)=Wz:=⟨_,rfl⟩
   have XA:Below (V1).heap.size (V1) V2:=by rw [← hV2];exact (Below.refl _ _).alloc (Nat.le_refl _) _
   have zV2:V2.heap.size=(V1).heap.size+1:=by rw [← hV2];simp
   have KE:Blk (V1).heap.size [I 0,I 0,I 0,I 0,I 0,I 0,I 0,I 0,I 0,I 0,I 0] V2:=by rw [← hV2];exact Blk.new _ _ _
   replace TC:=TC.later XA TC.lt
   replace QC:=QC.later XA QC.lt
   replace UC:=UC.later XA UC.lt
   replace KT:=KT.later XA KT.lt
   replace BC:=BC.trans (XA.mono BC.size)
   clear XA
   go_simp
   try rw [hV2]
   refine hK.out _ _ (by (try rw [hV2]);exact QC) (fun hJ=>?_)
   clear hK K hH
   have hH:=hJ
   clear hJ
   try simp only [Act.put,pa,pb,pc]
   try rw [hV2]
   clear hV2
   rw [zV1] at KE
   replace KE:Blk (w6.heap.size+1) _ _:=KE
   replace KT:Blk w6.heap.size _ _:=KT
   replace hz4:w.heap.size+4≤w6.heap.size:=hz4
   obtain ⟨ne,hne⟩:∃ n,w6.heap.size+1=n:=⟨_,rfl⟩
   rw [hne] at KE
   try simp only [hne]
   obtain ⟨nt,hnt⟩:∃ n,w6.heap.size=n:=⟨_,rfl⟩
   rw [hnt] at KT
   try simp only [hnt]
   have hd:nt≠ne:=by omega
   have ht4:w.heap.size+4≤nt:=by omega
   have he4:w.heap.size+4≤ne:=by omega
   clear hnt hne zV1 zV2 hz4
   have s0:=KT.at 0 rfl
   have f0:=KT.fz 0 rfl
   have s1:=KT.at 1 rfl
   have f1:=KT.fz 1 rfl
   have s2:=KT.at 2 rfl
   have f2:=KT.fz 2 rfl
   have s3:=KT.at 3 rfl
   have f3:=KT.fz 3 rfl
   have s4:=KT.at 4 rfl
   have f4:=KT.fz 4 rfl
   have s5:=KT.at 5 rfl
   have f5:=KT.fz 5 rfl
   have s6:=KT.at 6 rfl
   have f6:=KT.fz 6 rfl
   have s7:=KT.at 7 rfl
   have f7:=KT.fz 7 rfl
   have N_:Blk nt [I cl,I sv,I key,I a,I b,I e,.slice pa P.length pc,.slice va V.length vc] ((V2).setCells nt 0 [I cl,I sv,I key,I a,I b,I e,.slice pa P.length pc,.slice va V.length vc]):=KT.part 0 [I cl,I sv,I key,I a,I b,I e,.slice pa P.length pc,.slice va V.length vc] _ (by simp) rfl
   have TC_:=Blk.farS (q:=nt) (by omega) [I cl,I sv,I key,I a,I b,I e,.slice pa P.length pc,.slice va V.length vc] 0 _ TC
   have QC_:=Blk.farS (q:=nt) (by omega) [I cl,I sv,I key,I a,I b,I e,.slice pa P.length pc,.slice va V.length vc] 0 _ QC
   have UC_:=Blk.farS (q:=nt) (by omega) [I cl,I sv,I key,I a,I b,I e,.slice pa P.length pc,.slice va V.length vc] 0 _ UC
   have KE_:=Blk.farS (q:=nt) (by omega) [I cl,I sv,I key,I a,I b,I e,.slice pa P.length pc,.slice va V.length vc] 0 _ KE
   have BC_:=below_sets (m:=w.heap.size) (g:=nt) (by omega) [I cl,I sv,I key,I a,I b,I e,.slice pa P.length pc,.slice va V.length vc] 0 _ BC
   refine wpAnyH_ready (rs:=[6]) (by kernel_rfl) (by simp) ?_
   refine AllReadyH.cons (i:=6) rfl (fun K hK=>?_) AllReadyH.nil
   go_simp
   clear s0 f0 s1 f1 s2 f2 s3 f3 s4 f4 s5 f5 s6 f6 s7 f7
   change K _ ((V2).setCells nt 0 [I cl,I sv,I key,I a,I b,I e,.slice pa P.length pc,.slice va V.length vc])
   have hz_:((V2).setCells nt 0 [I cl,I sv,I key,I a,I b,I e,.slice pa P.length pc,.slice va V.length vc]).heap.size=(V2).heap.size:=by simp [World.setCells]
   obtain ⟨V3,hV3⟩:∃ Wz,(V2).setCells nt 0 [I cl,I sv,I key,I a,I b,I e,.slice pa P.length pc,.slice va V.length vc]=Wz:=⟨_,rfl⟩
   rw [hV3] at N_ BC_ hz_ TC_ QC_ UC_ KE_ ⊢
   clear hV3 KT BC TC QC UC KE
   have KT:=N_
   have BC:=BC_
   have TC:=TC_
   have QC:=QC_
   have UC:=UC_
   have KE:=KE_
   clear N_ BC_ TC_ QC_ UC_ KE_
   refine hK.out _ _ QC (fun hJ=>?_)
   clear hK K hH
   have hH:=hJ
   clear hJ
   try simp only [Act.put,pa,pb,pc]
   have s0:=KE.at 0 rfl
   have f0:=KE.fz 0 rfl
   have s1:=KE.at 1 rfl
   have f1:=KE.fz 1 rfl
   have s2:=KE.at 2 rfl
   have f2:=KE.fz 2 rfl
   have s3:=KE.at 3 rfl
   have f3:=KE.fz 3 rfl
   have s4:=KE.at 4 rfl
   have f4:=KE.fz 4 rfl
   have s5:=KE.at 5 rfl
   have f5:=KE.fz 5 rfl
   have s6:=KE.at 6 rfl
   have f6:=KE.fz 6 rfl
   have s7:=KE.at 7 rfl
   have f7:=KE.fz 7 rfl
   have s8:=KE.at 8 rfl
   have f8:=KE.fz 8 rfl
   have s9:=KE.at 9 rfl
   have f9:=KE.fz 9 rfl
   have s10:=KE.at 10 rfl
   have f10:=KE.fz 10 rfl
   have N_:Blk ne [I kind,I 0,I by',I 0,I 0,I 0,I par,I ev,I 0,I 0,I 0] ((V3).setCells ne 0 [I kind,I 0,I by',I 0,I 0,I 0,I par,I ev,I 0,I 0,I 0]):=KE.part 0 [I kind,I 0,I by',I 0,I 0,I 0,I par,I ev,I 0,I 0,I 0] _ (by simp) rfl
   have TC_:=Blk.farS (q:=ne) (by omega) [I kind,I 0,I by',I 0,I 0,I 0,I par,I ev,I 0,I 0,I 0] 0 _ TC
   have QC_:=Blk.farS (q:=ne) (by omega) [I kind,I 0,I by',I 0,I 0,I 0,I par,I ev,I 0,I 0,I 0] 0 _ QC
   have UC_:=Blk.farS (q:=ne) (by omega) [I kind,I 0,I by',I 0,I 0,I 0,I par,I ev,I 0,I 0,I 0] 0 _ UC
   have KT_:=Blk.farS (q:=ne) (by omega) [I kind,I 0,I by',I 0,I 0,I 0,I par,I ev,I 0,I 0,I 0] 0 _ KT
   have BC_:=below_sets (m:=w.heap.size) (g:=ne) (by omega) [I kind,I 0,I by',I 0,I 0,I 0,I par,I ev,I 0,I 0,I 0] 0 _ BC
   refine wpAnyH_ready (rs:=[7]) (by kernel_rfl) (by simp) ?_
   refine AllReadyH.cons (i:=7) rfl (fun K hK=>?_) AllReadyH.nil
   go_simp
   clear s0 f0 s1 f1 s2 f2 s3 f3 s4 f4 s5 f5 s6 f6 s7 f7 s8 f8 s9 f9 s10 f10
   change K _ ((V3).setCells ne 0 [I kind,I 0,I by',I 0,I 0,I 0,I par,I ev,I 0,I 0,I 0])
   have hz_:((V3).setCells ne 0 [I kind,I 0,I by',I 0,I 0,I 0,I par,I ev,I 0,I 0,I 0]).heap.size=(V3).heap.size:=by simp [World.setCells]
   obtain ⟨V4,hV4⟩:∃ Wz,(V3).setCells ne 0 [I kind,I 0,I by',I 0,I 0,I 0,I par,I ev,I 0,I 0,I 0]=Wz:=⟨_,rfl⟩
   rw [hV4] at N_ BC_ hz_ TC_ QC_ UC_ KT_ ⊢
   clear hV4 KE BC TC QC UC KT
   have KE:=N_
   have BC:=BC_
   have TC:=TC_
   have QC:=QC_
   have UC:=UC_
   have KT:=KT_
   clear N_ BC_ TC_ QC_ UC_ KT_
   refine hK.out _ _ QC (fun hJ=>?_)
   clear hK K hH
   have hH:=hJ
   clear hJ
   try simp only [Act.put,pa,pb,pc]
   refine wpAnyH_done (by kernel_rfl) ?_ _
   go_wp2_with fail
   replace TC:=TC.drew
   replace UC:=UC.drew
   replace KT:=KT.drew
   replace KE:=KE.drew
   replace BC:=BC.drew
   refine wp_region_held_drew (S:=(fun Vw=>Blk w.heap.size [.slice c.ua c.U.length c.uc,.slice c.sa c.S.length c.sc,.slice c.la c.L.length c.lc,.slice c.xa c.X.length c.xc,I c.k,I realm,I now,I fresh] Vw∧Blk nt [I cl,I sv,I key,I a,I b,I e,.slice pa P.length pc,.slice va V.length vc] Vw)) (by kernel_rfl) ⟨TC,KT⟩ (fun hH=>?_)
   refine tk 0 26 rfl _ hH (by intro w' h;have d5:=h.1.at 5 rfl;have e0:=h.2.e6;go_simp;try with_reducible rfl) ?_
   try simp only [Act.put,pa,pb,pc]
   refine tk 1 27 rfl _ hH (by intro w' h;have d5:=h.1.at 5 rfl;have e0:=h.2.e6;go_simp;try with_reducible rfl) ?_
   try simp only [Act.put,pa,pb,pc]
   refine tk 2 28 rfl _ hH (by intro w' h;have d5:=h.1.at 5 rfl;have e0:=h.2.e6;go_simp;try with_reducible rfl) ?_
   try simp only [Act.put,pa,pb,pc]
   refine tk 3 29 rfl _ hH (by intro w' h;have d5:=h.1.at 5 rfl;have e0:=h.2.e6;go_simp;try with_reducible rfl) ?_
   try simp only [Act.put,pa,pb,pc]
   refine tk 4 30 rfl _ hH (by intro w' h;have d5:=h.1.at 5 rfl;have e0:=h.2.e6;go_simp;try with_reducible rfl) ?_
   try simp only [Act.put,pa,pb,pc]
   refine tk 5 31 rfl _ hH (by intro w' h;have d5:=h.1.at 5 rfl;have e0:=h.2.e6;go_simp;try with_reducible rfl) ?_
   try simp only [Act.put,pa,pb,pc]
   refine tk 6 32 rfl _ hH (by intro w' h;have d5:=h.1.at 5 rfl;have e0:=h.2.e6;go_simp;try with_reducible rfl) ?_
   try simp only [Act.put,pa,pb,pc]
   refine tk 7 33 rfl _ hH (by intro w' h;have d5:=h.1.at 5 rfl;have e0:=h.2.e6;go_simp;try with_reducible rfl) ?_
   try simp only [Act.put,pa,pb,pc]
   refine tk 8 34 rfl _ hH (by intro w' h;have d5:=h.1.at 5 rfl;have e0:=h.2.e6;go_simp;try with_reducible rfl) ?_
   try simp only [Act.put,pa,pb,pc]
   refine tk 9 35 rfl _ hH (by intro w' h;have d5:=h.1.at 5 rfl;have e0:=h.2.e6;go_simp;try with_reducible rfl) ?_
   try simp only [Act.put,pa,pb,pc]
   refine tk 10 36 rfl _ hH (by intro w' h;have d5:=h.1.at 5 rfl;have e0:=h.2.e6;go_simp;try with_reducible rfl) ?_
   try simp only [Act.put,pa,pb,pc]
   have s0:=KE.at 1 rfl
   have f0:=KE.fz 1 rfl
   have N_:Blk ne [I kind,I realm,I by',I 0,I 0,I 0,I par,I ev,I 0,I 0,I 0] ((V4.drew).setCells ne 1 [I realm]):=KE.part 1 [I realm] _ (by simp) rfl
   have TC_:=Blk.farS (q:=ne) (by omega) [I realm] 1 _ TC
   have UC_:=Blk.farS (q:=ne) (by omega) [I realm] 1 _ UC
   have KT_:=Blk.farS (q:=ne) (by omega) [I realm] 1 _ KT
   have BC_:=below_sets (m:=w.heap.size) (g:=ne) (by omega) [I realm] 1 _ BC
   refine wpAnyH_ready (rs:=[11]) (by kernel_rfl) (by simp) ?_
   refine AllReadyH.cons (i:=11) rfl (fun K hK=>?_) AllReadyH.nil
   go_simp
   clear s0 f0
   change K _ ((V4.drew).setCells ne 1 [I realm])
   have hz_:((V4.drew).setCells ne 1 [I realm]).heap.size=(V4.drew).heap.size:=by simp [World.setCells]
   obtain ⟨V5,hV5⟩:∃ Wz,(V4.drew).setCells ne 1 [I realm]=Wz:=⟨_,rfl⟩
   rw [hV5] at N_ BC_ hz_ TC_ UC_ KT_ ⊢
   clear hV5 KE BC TC UC KT
   have KE:=N_
   have BC:=BC_
   have TC:=TC_
   have UC:=UC_
   have KT:=KT_
   clear N_ BC_ TC_ UC_ KT_
   refine hK.out _ _ ⟨TC,KT⟩ (fun hJ=>?_)
   clear hK K hH
   have hH:=hJ
   clear hJ
   try simp only [Act.put,pa,pb,pc]
   refine tk 12 37 rfl _ hH (by intro w' h;have d5:=h.1.at 5 rfl;have e0:=h.2.e6;go_simp;try with_reducible rfl) ?_
   try simp only [Act.put,pa,pb,pc]
   have s0:=KE.at 3 rfl
   have f0:=KE.fz 3 rfl
   have N_:Blk ne [I kind,I realm,I by',I cl,I 0,I 0,I par,I ev,I 0,I 0,I 0] ((V5).setCells ne 3 [I cl]):=KE.part 3 [I cl] _ (by simp) rfl
   have TC_:=Blk.farS (q:=ne) (by omega) [I cl] 3 _ TC
   have UC_:=Blk.farS (q:=ne) (by omega) [I cl] 3 _ UC
   have KT_:=Blk.farS (q:=ne) (by omega) [I cl] 3 _ KT
   have BC_:=below_sets (m:=w.heap.size) (g:=ne) (by omega) [I cl] 3 _ BC
   refine wpAnyH_ready (rs:=[13]) (by kernel_rfl) (by simp) ?_
   refine AllReadyH.cons (i:=13) rfl (fun K hK=>?_) AllReadyH.nil
   go_simp
   clear s0 f0
   change K _ ((V5).setCells ne 3 [I cl])
   have hz_:((V5).setCells ne 3 [I cl]).heap.size=(V5).heap.size:=by simp [World.setCells]
   obtain ⟨V6,hV6⟩:∃ Wz,(V5).setCells ne 3 [I cl]=Wz:=⟨_,rfl⟩
   rw [hV6] at N_ BC_ hz_ TC_ UC_ KT_ ⊢
   clear hV6 KE BC TC UC KT
   have KE:=N_
   have BC:=BC_
   have TC:=TC_
   have UC:=UC_
   have KT:=KT_
   clear N_ BC_ TC_ UC_ KT_
   refine hK.out _ _ ⟨TC,KT⟩ (fun hJ=>?_)
   clear hK K hH
   have hH:=hJ
   clear hJ
   try simp only [Act.put,pa,pb,pc]
   refine tk 14 38 rfl _ hH (by intro w' h;have d5:=h.1.at 5 rfl;have e0:=h.2.e6;go_simp;try with_reducible rfl) ?_
   try simp only [Act.put,pa,pb,pc]
   have s0:=KE.at 4 rfl
   have f0:=KE.fz 4 rfl
   have N_:Blk ne [I kind,I realm,I by',I cl,I sv,I 0,I par,I ev,I 0,I 0,I 0] ((V6).setCells ne 4 [I sv]):=KE.part 4 [I sv] _ (by simp) rfl
   have TC_:=Blk.farS (q:=ne) (by omega) [I sv] 4 _ TC
   have UC_:=Blk.farS (q:=ne) (by omega) [I sv] 4 _ UC
   have KT_:=Blk.farS (q:=ne) (by omega) [I sv] 4 _ KT
   have BC_:=below_sets (m:=w.heap.size) (g:=ne) (by omega) [I sv] 4 _ BC
   refine wpAnyH_ready (rs:=[15]) (by kernel_rfl) (by simp) ?_
   refine AllReadyH.cons (i:=15) rfl (fun K hK=>?_) AllReadyH.nil
   go_simp
   clear s0 f0
   change K _ ((V6).setCells ne 4 [I sv])
   have hz_:((V6).setCells ne 4 [I sv]).heap.size=(V6).heap.size:=by simp [World.setCells]
   obtain ⟨V7,hV7⟩:∃ Wz,(V6).setCells ne 4 [I sv]=Wz:=⟨_,rfl⟩
   rw [hV7] at N_ BC_ hz_ TC_ UC_ KT_ ⊢
   clear hV7 KE BC TC UC KT
   have KE:=N_
   have BC:=BC_
   have TC:=TC_
   have UC:=UC_
   have KT:=KT_
   clear N_ BC_ TC_ UC_ KT_
   refine hK.out _ _ ⟨TC,KT⟩ (fun hJ=>?_)
   clear hK K hH
   have hH:=hJ
   clear hJ
   try simp only [Act.put,pa,pb,pc]
   refine tk 16 39 rfl _ hH (by intro w' h;have d5:=h.1.at 5 rfl;have e0:=h.2.e6;go_simp;try with_reducible rfl) ?_
   try simp only [Act.put,pa,pb,pc]
   have s0:=KE.at 5 rfl
   have f0:=KE.fz 5 rfl
   have N_:Blk ne [I kind,I realm,I by',I cl,I sv,I key,I par,I ev,I 0,I 0,I 0] ((V7).setCells ne 5 [I key]):=KE.part 5 [I key] _ (by simp) rfl
   have TC_:=Blk.farS (q:=ne) (by omega) [I key] 5 _ TC
   have UC_:=Blk.farS (q:=ne) (by omega) [I key] 5 _ UC
   have KT_:=Blk.farS (q:=ne) (by omega) [I key] 5 _ KT
   have BC_:=below_sets (m:=w.heap.size) (g:=ne) (by omega) [I key] 5 _ BC
   refine wpAnyH_ready (rs:=[17]) (by kernel_rfl) (by simp) ?_
   refine AllReadyH.cons (i:=17) rfl (fun K hK=>?_) AllReadyH.nil
   go_simp
   clear s0 f0
   change K _ ((V7).setCells ne 5 [I key])
   have hz_:((V7).setCells ne 5 [I key]).heap.size=(V7).heap.size:=by simp [World.setCells]
   obtain ⟨V8,hV8⟩:∃ Wz,(V7).setCells ne 5 [I key]=Wz:=⟨_,rfl⟩
   rw [hV8] at N_ BC_ hz_ TC_ UC_ KT_ ⊢
   clear hV8 KE BC TC UC KT
   have KE:=N_
   have BC:=BC_
   have TC:=TC_
   have UC:=UC_
   have KT:=KT_
   clear N_ BC_ TC_ UC_ KT_
   refine hK.out _ _ ⟨TC,KT⟩ (fun hJ=>?_)
   clear hK K hH
   have hH:=hJ
   clear hJ
   try simp only [Act.put,pa,pb,pc]
   refine tk 18 40 rfl _ hH (by intro w' h;have d5:=h.1.at 5 rfl;have e0:=h.2.e6;go_simp;try with_reducible rfl) ?_
   try simp only [Act.put,pa,pb,pc]
   have s0:=KE.at 8 rfl
   have f0:=KE.fz 8 rfl
   have s1:=KE.at 9 rfl
   have f1:=KE.fz 9 rfl
   have s2:=KE.at 10 rfl
   have f2:=KE.fz 10 rfl
   have N_:Blk ne [I kind,I realm,I by',I cl,I sv,I key,I par,I ev,I a,I b,I e] ((V8).setCells ne 8 [I a,I b,I e]):=KE.part 8 [I a,I b,I e] _ (by simp) rfl
   have TC_:=Blk.farS (q:=ne) (by omega) [I a,I b,I e] 8 _ TC
   have UC_:=Blk.farS (q:=ne) (by omega) [I a,I b,I e] 8 _ UC
   have KT_:=Blk.farS (q:=ne) (by omega) [I a,I b,I e] 8 _ KT
   have BC_:=below_sets (m:=w.heap.size) (g:=ne) (by omega) [I a,I b,I e] 8 _ BC
   refine wpAnyH_ready (rs:=[19]) (by kernel_rfl) (by simp) ?_
   refine AllReadyH.cons (i:=19) rfl (fun K hK=>?_) AllReadyH.nil
   go_simp
   clear s0 f0 s1 f1 s2 f2
   change K _ ((V8).setCells ne 8 [I a,I b,I e])
   have hz_:((V8).setCells ne 8 [I a,I b,I e]).heap.size=(V8).heap.size:=by simp [World.setCells]
   obtain ⟨V9,hV9⟩:∃ Wz,(V8).setCells ne 8 [I a,I b,I e]=Wz:=⟨_,rfl⟩
   rw [hV9] at N_ BC_ hz_ TC_ UC_ KT_ ⊢
   clear hV9 KE BC TC UC KT
   have KE:=N_
   have BC:=BC_
   have TC:=TC_
   have UC:=UC_
   have KT:=KT_
   clear N_ BC_ TC_ UC_ KT_
   refine hK.out _ _ ⟨TC,KT⟩ (fun hJ=>?_)
   clear hK K hH
   have hH:=hJ
   clear hJ
   try simp only [Act.put,pa,pb,pc]
   refine wpAnyH_done (by kernel_rfl) ?_ _
   have FU:=UC.sets [I 0,.string tm,I kind,I realm,I by',I cl,I sv,I key,I par,I ev,I a,I b,I e] rfl
   have FB:=below_sets (m:=w.heap.size) (g:=w.heap.size+2) (by omega) [I 0,.string tm,I kind,I realm,I by',I cl,I sv,I key,I par,I ev,I a,I b,I e] 0 _ BC
   have k0:=KE.at 0 rfl
   have k1:=KE.at 1 rfl
   have k2:=KE.at 2 rfl
   have k3:=KE.at 3 rfl
   have k4:=KE.at 4 rfl
   have k5:=KE.at 5 rfl
   have k6:=KE.at 6 rfl
   have k7:=KE.at 7 rfl
   have k8:=KE.at 8 rfl
   have k9:=KE.at 9 rfl
   have k10:=KE.at 10 rfl
   go_wp2_with (refine wpList_stB 35 _ _ (w.heap.size+2) 0 [I 0,.string ⟨#[]⟩,I 0,I 0,I 0,I 0,I 0,I 0,I 0,I 0,I 0,I 0,I 0] [I 0,.string tm,I kind,I realm,I by',I cl,I sv,I key,I par,I ev,I a,I b,I e] ir hir UC (by rw [hrz];rfl) (by simp) rfl rfl rfl rfl rfl ?_;try simp only [Act.put])
   exact bodyPost_ret (res_B1 rfl _ _ (w.heap.size+2) _ ir hir ag35 FU (by rw [hrz];rfl) rfl) rfl ⟨by rw [HR.out],FB⟩
  ·obtain ⟨V1,hV1⟩:∃ Wz,(w6.drew).alloc (.cells #[I 0,I 0,I 0,I 0,I 0,I 0,I 0,I 0,I 0,I 0,I 0] 33)=Wz:=⟨_,rfl⟩
   have XA:Below (w6.drew).heap.size (w6.drew) V1:=by rw [← hV1];exact (Below.refl _ _).alloc (Nat.le_refl _) _
   have zV1:V1.heap.size=(w6.drew).heap.size+1:=by rw [← hV1];simp
   have KE:Blk (w6.drew).heap.size [I 0,I 0,I 0,I 0,I 0,I 0,I 0,I 0,I 0,I 0,I 0] V1:=by rw [← hV1];exact Blk.new _ _ _
   replace TC:=TC.later XA TC.lt
   replace QC:=QC.later XA QC.lt
   replace UC:=UC.later XA UC.lt
   replace BC:=BC.trans (XA.mono BC.size)
   clear XA
   go_simp
   try rw [hV1]
   refine hK.out _ _ (by (try rw [hV1]);exact QC) (fun hJ=>?_)
   clear hK K hH
   have hH:=hJ
   clear hJ
   try simp only [Act.put,pa,pb,pc]
   try rw [hV1]
   clear hV1
   refine wpAnyH_ready (rs:=[4]) (by kernel_rfl) (by simp) ?_
   refine AllReadyH.cons (i:=4) rfl (fun K hK=>?_) AllReadyH.nil
   obtain ⟨V2,hV2⟩:∃ Wz,(V1).alloc (.cells #[I 0,I 0,I 0,I 0,I 0,I 0,.slice none 0 0,.slice none 0 0] 43)=Wz:=⟨_,rfl⟩
   have XA:Below (V1).heap.size (V1) V2:=by rw [← hV2];exact (Below.refl _ _).alloc (Nat.le_refl _) _
   have zV2:V2.heap.size=(V1).heap.size+1:=by rw [← hV2];simp
   have KT:Blk (V1).heap.size [I 0,I 0,I 0,I 0,I 0,I 0,.slice none 0 0,.slice none 0 0] V2:=by rw [← hV2];exact Blk.new _ _ _
   replace TC:=TC.later XA TC.lt
   replace QC:=QC.later XA QC.lt
   replace UC:=UC.later XA UC.lt
   replace KE:=KE.later XA KE.lt
   replace BC:=BC.trans (XA.mono BC.size)
   clear XA
   go_simp
   try rw [hV2]
   refine hK.out _ _ (by (try rw [hV2]);exact QC) (fun hJ=>?_)
   clear hK K hH
   have hH:=hJ
   clear hJ
   try simp only [Act.put,pa,pb,pc]
   try rw [hV2]
   clear hV2
   rw [zV1] at KT
   replace KT:Blk (w6.heap.size+1) _ _:=KT
   replace KE:Blk w6.heap.size _ _:=KE
   replace hz4:w.heap.size+4≤w6.heap.size:=hz4
   obtain ⟨nt,hnt⟩:∃ n,w6.heap.size+1=n:=⟨_,rfl⟩
   rw [hnt] at KT
   try simp only [hnt]
   obtain ⟨ne,hne⟩:∃ n,w6.heap.size=n:=⟨_,rfl⟩
   rw [hne] at KE
   try simp only [hne]
   have hd:nt≠ne:=by omega
   have ht4:w.heap.size+4≤nt:=by omega
   have he4:w.heap.size+4≤ne:=by omega
   clear hnt hne zV1 zV2 hz4
   have s0:=KT.at 0 rfl
   have f0:=KT.fz 0 rfl
   have s1:=KT.at 1 rfl
   have f1:=KT.fz 1 rfl
   have s2:=KT.at 2 rfl
   have f2:=KT.fz 2 rfl
   have s3:=KT.at 3 rfl
   have f3:=KT.fz 3 rfl
   have s4:=KT.at 4 rfl
   have f4:=KT.fz 4 rfl
   have s5:=KT.at 5 rfl
   have f5:=KT.fz 5 rfl
   have s6:=KT.at 6 rfl
   have f6:=KT.fz 6 rfl
   have s7:=KT.at 7 rfl
   have f7:=KT.fz 7 rfl
   have N_:Blk nt [I cl,I sv,I key,I a,I b,I e,.slice pa P.length pc,.slice va V.length vc] ((V2).setCells nt 0 [I cl,I sv,I key,I a,I b,I e,.slice pa P.length pc,.slice va V.length vc]):=KT.part 0 [I cl,I sv,I key,I a,I b,I e,.slice pa P.length pc,.slice va V.length vc] _ (by simp) rfl
   have TC_:=Blk.farS (q:=nt) (by omega) [I cl,I sv,I key,I a,I b,I e,.slice pa P.length pc,.slice va V.length vc] 0 _ TC
   have QC_:=Blk.farS (q:=nt) (by omega) [I cl,I sv,I key,I a,I b,I e,.slice pa P.length pc,.slice va V.length vc] 0 _ QC
   have UC_:=Blk.farS (q:=nt) (by omega) [I cl,I sv,I key,I a,I b,I e,.slice pa P.length pc,.slice va V.length vc] 0 _ UC
   have KE_:=Blk.farS (q:=nt) (by omega) [I cl,I sv,I key,I a,I b,I e,.slice pa P.length pc,.slice va V.length vc] 0 _ KE
   have BC_:=below_sets (m:=w.heap.size) (g:=nt) (by omega) [I cl,I sv,I key,I a,I b,I e,.slice pa P.length pc,.slice va V.length vc] 0 _ BC
   refine wpAnyH_ready (rs:=[6]) (by kernel_rfl) (by simp) ?_
   refine AllReadyH.cons (i:=6) rfl (fun K hK=>?_) AllReadyH.nil
   go_simp
   clear s0 f0 s1 f1 s2 f2 s3 f3 s4 f4 s5 f5 s6 f6 s7 f7
   change K _ ((V2).setCells nt 0 [I cl,I sv,I key,I a,I b,I e,.slice pa P.length pc,.slice va V.length vc])
   have hz_:((V2).setCells nt 0 [I cl,I sv,I key,I a,I b,I e,.slice pa P.length pc,.slice va V.length vc]).heap.size=(V2).heap.size:=by simp [World.setCells]
   obtain ⟨V3,hV3⟩:∃ Wz,(V2).setCells nt 0 [I cl,I sv,I key,I a,I b,I e,.slice pa P.length pc,.slice va V.length vc]=Wz:=⟨_,rfl⟩
   rw [hV3] at N_ BC_ hz_ TC_ QC_ UC_ KE_ ⊢
   clear hV3 KT BC TC QC UC KE
   have KT:=N_
   have BC:=BC_
   have TC:=TC_
   have QC:=QC_
   have UC:=UC_
   have KE:=KE_
   clear N_ BC_ TC_ QC_ UC_ KE_
   refine hK.out _ _ QC (fun hJ=>?_)
   clear hK K hH
   have hH:=hJ
   clear hJ
   try simp only [Act.put,pa,pb,pc]
   have s0:=KE.at 0 rfl
   have f0:=KE.fz 0 rfl
   have s1:=KE.at 1 rfl
   have f1:=KE.fz 1 rfl
   have s2:=KE.at 2 rfl
   have f2:=KE.fz 2 rfl
   have s3:=KE.at 3 rfl
   have f3:=KE.fz 3 rfl
   have s4:=KE.at 4 rfl
   have f4:=KE.fz 4 rfl
   have s5:=KE.at 5 rfl
   have f5:=KE.fz 5 rfl
   have s6:=KE.at 6 rfl
   have f6:=KE.fz 6 rfl
   have s7:=KE.at 7 rfl
   have f7:=KE.fz 7 rfl
   have s8:=KE.at 8 rfl
   have f8:=KE.fz 8 rfl
   have s9:=KE.at 9 rfl
   have f9:=KE.fz 9 rfl
   have s10:=KE.at 10 rfl
   have f10:=KE.fz 10 rfl
   have N_:Blk ne [I kind,I 0,I by',I 0,I 0,I 0,I par,I ev,I 0,I 0,I 0] ((V3).setCells ne 0 [I kind,I 0,I by',I 0,I 0,I 0,I par,I ev,I 0,I 0,I 0]):=KE.part 0 [I kind,I 0,I by',I 0,I 0,I 0,I par,I ev,I 0,I 0,I 0] _ (by simp) rfl
   have TC_:=Blk.farS (q:=ne) (by omega) [I kind,I 0,I by',I 0,I 0,I 0,I par,I ev,I 0,I 0,I 0] 0 _ TC
   have QC_:=Blk.farS (q:=ne) (by omega) [I kind,I 0,I by',I 0,I 0,I 0,I par,I ev,I 0,I 0,I 0] 0 _ QC
   have UC_:=Blk.farS (q:=ne) (by omega) [I kind,I 0,I by',I 0,I 0,I 0,I par,I ev,I 0,I 0,I 0] 0 _ UC
   have KT_:=Blk.farS (q:=ne) (by omega) [I kind,I 0,I by',I 0,I 0,I 0,I par,I ev,I 0,I 0,I 0] 0 _ KT
   have BC_:=below_sets (m:=w.heap.size) (g:=ne) (by omega) [I kind,I 0,I by',I 0,I 0,I 0,I par,I ev,I 0,I 0,I 0] 0 _ BC
   refine wpAnyH_ready (rs:=[7]) (by kernel_rfl) (by simp) ?_
   refine AllReadyH.cons (i:=7) rfl (fun K hK=>?_) AllReadyH.nil
   go_simp
   clear s0 f0 s1 f1 s2 f2 s3 f3 s4 f4 s5 f5 s6 f6 s7 f7 s8 f8 s9 f9 s10 f10
   change K _ ((V3).setCells ne 0 [I kind,I 0,I by',I 0,I 0,I 0,I par,I ev,I 0,I 0,I 0])
   have hz_:((V3).setCells ne 0 [I kind,I 0,I by',I 0,I 0,I 0,I par,I ev,I 0,I 0,I 0]).heap.size=(V3).heap.size:=by simp [World.setCells]
   obtain ⟨V4,hV4⟩:∃ Wz,(V3).setCells ne 0 [I kind,I 0,I by',I 0,I 0,I 0,I par,I ev,I 0,I 0,I 0]=Wz:=⟨_,rfl⟩
   rw [hV4] at N_ BC_ hz_ TC_ QC_ UC_ KT_ ⊢
   clear hV4 KE BC TC QC UC KT
   have KE:=N_
   have BC:=BC_
   have TC:=TC_
   have QC:=QC_
   have UC:=UC_
   have KT:=KT_
   clear N_ BC_ TC_ QC_ UC_ KT_
   refine hK.out _ _ QC (fun hJ=>?_)
   clear hK K hH
   have hH:=hJ
   clear hJ
   try simp only [Act.put,pa,pb,pc]
   refine wpAnyH_done (by kernel_rfl) ?_ _
   go_wp2_with fail
   replace TC:=TC.drew
   replace UC:=UC.drew
   replace KT:=KT.drew
   replace KE:=KE.drew
   replace BC:=BC.drew
   refine wp_region_held_drew (S:=(fun Vw=>Blk w.heap.size [.slice c.ua c.U.length c.uc,.slice c.sa c.S.length c.sc,.slice c.la c.L.length c.lc,.slice c.xa c.X.length c.xc,I c.k,I realm,I now,I fresh] Vw∧Blk nt [I cl,I sv,I key,I a,I b,I e,.slice pa P.length pc,.slice va V.length vc] Vw)) (by kernel_rfl) ⟨TC,KT⟩ (fun hH=>?_)
   refine tk 0 26 rfl _ hH (by intro w' h;have d5:=h.1.at 5 rfl;have e0:=h.2.e6;go_simp;try with_reducible rfl) ?_
   try simp only [Act.put,pa,pb,pc]
   refine tk 1 27 rfl _ hH (by intro w' h;have d5:=h.1.at 5 rfl;have e0:=h.2.e6;go_simp;try with_reducible rfl) ?_
   try simp only [Act.put,pa,pb,pc]
   refine tk 2 28 rfl _ hH (by intro w' h;have d5:=h.1.at 5 rfl;have e0:=h.2.e6;go_simp;try with_reducible rfl) ?_
   try simp only [Act.put,pa,pb,pc]
   refine tk 3 29 rfl _ hH (by intro w' h;have d5:=h.1.at 5 rfl;have e0:=h.2.e6;go_simp;try with_reducible rfl) ?_
   try simp only [Act.put,pa,pb,pc]
   refine tk 4 30 rfl _ hH (by intro w' h;have d5:=h.1.at 5 rfl;have e0:=h.2.e6;go_simp;try with_reducible rfl) ?_
   try simp only [Act.put,pa,pb,pc]
   refine tk 5 31 rfl _ hH (by intro w' h;have d5:=h.1.at 5 rfl;have e0:=h.2.e6;go_simp;try with_reducible rfl) ?_
   try simp only [Act.put,pa,pb,pc]
   refine tk 6 32 rfl _ hH (by intro w' h;have d5:=h.1.at 5 rfl;have e0:=h.2.e6;go_simp;try with_reducible rfl) ?_
   try simp only [Act.put,pa,pb,pc]
   refine tk 7 33 rfl _ hH (by intro w' h;have d5:=h.1.at 5 rfl;have e0:=h.2.e6;go_simp;try with_reducible rfl) ?_
   try simp only [Act.put,pa,pb,pc]
   refine tk 8 34 rfl _ hH (by intro w' h;have d5:=h.1.at 5 rfl;have e0:=h.2.e6;go_simp;try with_reducible rfl) ?_
   try simp only [Act.put,pa,pb,pc]
   refine tk 9 35 rfl _ hH (by intro w' h;have d5:=h.1.at 5 rfl;have e0:=h.2.e6;go_simp;try with_reducible rfl) ?_
   try simp only [Act.put,pa,pb,pc]
   refine tk 10 36 rfl _ hH (by intro w' h;have d5:=h.1.at 5 rfl;have e0:=h.2.e6;go_simp;try with_reducible rfl) ?_
   try simp only [Act.put,pa,pb,pc]
   have s0:=KE.at 1 rfl
   have f0:=KE.fz 1 rfl
   have N_:Blk ne [I kind,I realm,I by',I 0,I 0,I 0,I par,I ev,I 0,I 0,I 0] ((V4.drew).setCells ne 1 [I realm]):=KE.part 1 [I realm] _ (by simp) rfl
   have TC_:=Blk.farS (q:=ne) (by omega) [I realm] 1 _ TC
   have UC_:=Blk.farS (q:=ne) (by omega) [I realm] 1 _ UC
   have KT_:=Blk.farS (q:=ne) (by omega) [I realm] 1 _ KT
   have BC_:=below_sets (m:=w.heap.size) (g:=ne) (by omega) [I realm] 1 _ BC
   refine wpAnyH_ready (rs:=[11]) (by kernel_rfl) (by simp) ?_
   refine AllReadyH.cons (i:=11) rfl (fun K hK=>?_) AllReadyH.nil
   go_simp
   clear s0 f0
   change K _ ((V4.drew).setCells ne 1 [I realm])
   have hz_:((V4.drew).setCells ne 1 [I realm]).heap.size=(V4.drew).heap.size:=by simp [World.setCells]
   obtain ⟨V5,hV5⟩:∃ Wz,(V4.drew).setCells ne 1 [I realm]=Wz:=⟨_,rfl⟩
   rw [hV5] at N_ BC_ hz_ TC_ UC_ KT_ ⊢
   clear hV5 KE BC TC UC KT
   have KE:=N_
   have BC:=BC_
   have TC:=TC_
   have UC:=UC_
   have KT:=KT_
   clear N_ BC_ TC_ UC_ KT_
   refine hK.out _ _ ⟨TC,KT⟩ (fun hJ=>?_)
   clear hK K hH
   have hH:=hJ
   clear hJ
   try simp only [Act.put,pa,pb,pc]
   refine tk 12 37 rfl _ hH (by intro w' h;have d5:=h.1.at 5 rfl;have e0:=h.2.e6;go_simp;try with_reducible rfl) ?_
   try simp only [Act.put,pa,pb,pc]
   have s0:=KE.at 3 rfl
   have f0:=KE.fz 3 rfl
   have N_:Blk ne [I kind,I realm,I by',I cl,I 0,I 0,I par,I ev,I 0,I 0,I 0] ((V5).setCells ne 3 [I cl]):=KE.part 3 [I cl] _ (by simp) rfl
   have TC_:=Blk.farS (q:=ne) (by omega) [I cl] 3 _ TC
   have UC_:=Blk.farS (q:=ne) (by omega) [I cl] 3 _ UC
   have KT_:=Blk.farS (q:=ne) (by omega) [I cl] 3 _ KT
   have BC_:=below_sets (m:=w.heap.size) (g:=ne) (by omega) [I cl] 3 _ BC
   refine wpAnyH_ready (rs:=[13]) (by kernel_rfl) (by simp) ?_
   refine AllReadyH.cons (i:=13) rfl (fun K hK=>?_) AllReadyH.nil
   go_simp
   clear s0 f0
   change K _ ((V5).setCells ne 3 [I cl])
   have hz_:((V5).setCells ne 3 [I cl]).heap.size=(V5).heap.size:=by simp [World.setCells]
   obtain ⟨V6,hV6⟩:∃ Wz,(V5).setCells ne 3 [I cl]=Wz:=⟨_,rfl⟩
   rw [hV6] at N_ BC_ hz_ TC_ UC_ KT_ ⊢
   clear hV6 KE BC TC UC KT
   have KE:=N_
   have BC:=BC_
   have TC:=TC_
   have UC:=UC_
   have KT:=KT_
   clear N_ BC_ TC_ UC_ KT_
   refine hK.out _ _ ⟨TC,KT⟩ (fun hJ=>?_)
   clear hK K hH
   have hH:=hJ
   clear hJ
   try simp only [Act.put,pa,pb,pc]
   refine tk 14 38 rfl _ hH (by intro w' h;have d5:=h.1.at 5 rfl;have e0:=h.2.e6;go_simp;try with_reducible rfl) ?_
   try simp only [Act.put,pa,pb,pc]
   have s0:=KE.at 4 rfl
   have f0:=KE.fz 4 rfl
   have N_:Blk ne [I kind,I realm,I by',I cl,I sv,I 0,I par,I ev,I 0,I 0,I 0] ((V6).setCells ne 4 [I sv]):=KE.part 4 [I sv] _ (by simp) rfl
   have TC_:=Blk.farS (q:=ne) (by omega) [I sv] 4 _ TC
   have UC_:=Blk.farS (q:=ne) (by omega) [I sv] 4 _ UC
   have KT_:=Blk.farS (q:=ne) (by omega) [I sv] 4 _ KT
   have BC_:=below_sets (m:=w.heap.size) (g:=ne) (by omega) [I sv] 4 _ BC
   refine wpAnyH_ready (rs:=[15]) (by kernel_rfl) (by simp) ?_
   refine AllReadyH.cons (i:=15) rfl (fun K hK=>?_) AllReadyH.nil
   go_simp
   clear s0 f0
   change K _ ((V6).setCells ne 4 [I sv])
   have hz_:((V6).setCells ne 4 [I sv]).heap.size=(V6).heap.size:=by simp [World.setCells]
   obtain ⟨V7,hV7⟩:∃ Wz,(V6).setCells ne 4 [I sv]=Wz:=⟨_,rfl⟩
   rw [hV7] at N_ BC_ hz_ TC_ UC_ KT_ ⊢
   clear hV7 KE BC TC UC KT
   have KE:=N_
   have BC:=BC_
   have TC:=TC_
   have UC:=UC_
   have KT:=KT_
   clear N_ BC_ TC_ UC_ KT_
   refine hK.out _ _ ⟨TC,KT⟩ (fun hJ=>?_)
   clear hK K hH
   have hH:=hJ
   clear hJ
   try simp only [Act.put,pa,pb,pc]
   refine tk 16 39 rfl _ hH (by intro w' h;have d5:=h.1.at 5 rfl;have e0:=h.2.e6;go_simp;try with_reducible rfl) ?_
   try simp only [Act.put,pa,pb,pc]
   have s0:=KE.at 5 rfl
   have f0:=KE.fz 5 rfl
   have N_:Blk ne [I kind,I realm,I by',I cl,I sv,I key,I par,I ev,I 0,I 0,I 0] ((V7).setCells ne 5 [I key]):=KE.part 5 [I key] _ (by simp) rfl
   have TC_:=Blk.farS (q:=ne) (by omega) [I key] 5 _ TC
   have UC_:=Blk.farS (q:=ne) (by omega) [I key] 5 _ UC
   have KT_:=Blk.farS (q:=ne) (by omega) [I key] 5 _ KT
   have BC_:=below_sets (m:=w.heap.size) (g:=ne) (by omega) [I key] 5 _ BC
   refine wpAnyH_ready (rs:=[17]) (by kernel_rfl) (by simp) ?_
   refine AllReadyH.cons (i:=17) rfl (fun K hK=>?_) AllReadyH.nil
   go_simp
   clear s0 f0
   change K _ ((V7).setCells ne 5 [I key])
   have hz_:((V7).setCells ne 5 [I key]).heap.size=(V7).heap.size:=by simp [World.setCells]
   obtain ⟨V8,hV8⟩:∃ Wz,(V7).setCells ne 5 [I key]=Wz:=⟨_,rfl⟩
   rw [hV8] at N_ BC_ hz_ TC_ UC_ KT_ ⊢
   clear hV8 KE BC TC UC KT
   have KE:=N_
   have BC:=BC_
   have TC:=TC_
   have UC:=UC_
   have KT:=KT_
   clear N_ BC_ TC_ UC_ KT_
   refine hK.out _ _ ⟨TC,KT⟩ (fun hJ=>?_)
   clear hK K hH
   have hH:=hJ
   clear hJ
   try simp only [Act.put,pa,pb,pc]
   refine tk 18 40 rfl _ hH (by intro w' h;have d5:=h.1.at 5 rfl;have e0:=h.2.e6;go_simp;try with_reducible rfl) ?_
   try simp only [Act.put,pa,pb,pc]
   have s0:=KE.at 8 rfl
   have f0:=KE.fz 8 rfl
   have s1:=KE.at 9 rfl
   have f1:=KE.fz 9 rfl
   have s2:=KE.at 10 rfl
   have f2:=KE.fz 10 rfl
   have N_:Blk ne [I kind,I realm,I by',I cl,I sv,I key,I par,I ev,I a,I b,I e] ((V8).setCells ne 8 [I a,I b,I e]):=KE.part 8 [I a,I b,I e] _ (by simp) rfl
   have TC_:=Blk.farS (q:=ne) (by omega) [I a,I b,I e] 8 _ TC
   have UC_:=Blk.farS (q:=ne) (by omega) [I a,I b,I e] 8 _ UC
   have KT_:=Blk.farS (q:=ne) (by omega) [I a,I b,I e] 8 _ KT
   have BC_:=below_sets (m:=w.heap.size) (g:=ne) (by omega) [I a,I b,I e] 8 _ BC
   refine wpAnyH_ready (rs:=[19]) (by kernel_rfl) (by simp) ?_
   refine AllReadyH.cons (i:=19) rfl (fun K hK=>?_) AllReadyH.nil
   go_simp
   clear s0 f0 s1 f1 s2 f2
   change K _ ((V8).setCells ne 8 [I a,I b,I e])
   have hz_:((V8).setCells ne 8 [I a,I b,I e]).heap.size=(V8).heap.size:=by simp [World.setCells]
   obtain ⟨V9,hV9⟩:∃ Wz,(V8).setCells ne 8 [I a,I b,I e]=Wz:=⟨_,rfl⟩
   rw [hV9] at N_ BC_ hz_ TC_ UC_ KT_ ⊢
   clear hV9 KE BC TC UC KT
   have KE:=N_
   have BC:=BC_
   have TC:=TC_
   have UC:=UC_
   have KT:=KT_
   clear N_ BC_ TC_ UC_ KT_
   refine hK.out _ _ ⟨TC,KT⟩ (fun hJ=>?_)
   clear hK K hH
   have hH:=hJ
   clear hJ
   try simp only [Act.put,pa,pb,pc]
   refine wpAnyH_done (by kernel_rfl) ?_ _
   have FU:=UC.sets [I 0,.string tm,I kind,I realm,I by',I cl,I sv,I key,I par,I ev,I a,I b,I e] rfl
   have FB:=below_sets (m:=w.heap.size) (g:=w.heap.size+2) (by omega) [I 0,.string tm,I kind,I realm,I by',I cl,I sv,I key,I par,I ev,I a,I b,I e] 0 _ BC
   have k0:=KE.at 0 rfl
   have k1:=KE.at 1 rfl
   have k2:=KE.at 2 rfl
   have k3:=KE.at 3 rfl
   have k4:=KE.at 4 rfl
   have k5:=KE.at 5 rfl
   have k6:=KE.at 6 rfl
   have k7:=KE.at 7 rfl
   have k8:=KE.at 8 rfl
   have k9:=KE.at 9 rfl
   have k10:=KE.at 10 rfl
   go_wp2_with (refine wpList_stB 35 _ _ (w.heap.size+2) 0 [I 0,.string ⟨#[]⟩,I 0,I 0,I 0,I 0,I 0,I 0,I 0,I 0,I 0,I 0,I 0] [I 0,.string tm,I kind,I realm,I by',I cl,I sv,I key,I par,I ev,I a,I b,I e] ir hir UC (by rw [hrz];rfl) (by simp) rfl rfl rfl rfl rfl ?_;try simp only [Act.put])
   exact bodyPost_ret (res_B1 rfl _ _ (w.heap.size+2) _ ir hir ag35 FU (by rw [hrz];rfl) rfl) rfl ⟨by rw [HR.out],FB⟩
end Go.Proofs.YtcaieniddnhkbaaGreatDoor
