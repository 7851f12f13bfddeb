/- Chapter 8: a ticket in the name of who showed it. -/
import Derived.Test.YtcaieniddnhkbaaGreatDoorAb
import Derived.Test.YtcaieniddnhkbaaGreatDoorIm8h
import Derived.Maps.AppendAt
set_option linter.unusedVariables false
set_option maxRecDepth 100000
namespace Go.Proofs.YtcaieniddnhkbaaGreatDoor
open Go Go.RowKit Own Var Term
theorem stepB2 {P:Program} {ops:Array Oper} {o:Oper} {a:Act} {w:World} {K:Act→World→Prop} {Q:Exit→Act→World→Prop} {E:Prop} (ty:TypeId) (x y:Operand) (g off:Nat) (us vs:List Value) (ie:TypeInfo) (hie:P.info? ty=some ie) (h:Blk g us w) (hs:vs.length=ie.size) (hl:off+vs.length≤us.length) (h1:vs.all (·.oneCell')=true)
  (hgd:o.guard=none) (ho:o.op=.store ty x y) (hx:a.eval x=.pointer (some ⟨g,off,none⟩)) (hy:a.eval y=.agg vs.toArray) (hd:o.dst=none)
  (hn:K a (w.setCells g off vs)):if Region.wanted o (yielded ops a.tmps)=true then Oper.wp P o a w K Q else E :=
 stepB ty x y g off us vs ie hie h hs hl h1 hgd ho hx hy (by rw [hd];exact hn)
theorem own_lower {w:World} {base base' n:Nat} {e:TypeId} {v:Value} {xs:List Value} (h:w.ownsRow base e 1 v n xs) (hb:base'≤base):w.ownsRow base' e 1 v n xs:=by
 refine ⟨h.1,?_⟩
 rcases h.2 with h0 | ⟨g,cap,cur,e1,e2,e3⟩
 ·exact Or.inl h0
 ·exact Or.inr ⟨g,cap,cur,e1,Nat.le_trans hb e2,e3⟩
theorem own_sets {base n q:Nat} {e:TypeId} {v:Value} {xs:List Value} (hn:∀ k,v.ownBlock=some k→k≠q):∀ (vs:List Value) (i:Nat) (w:World),w.ownsRow base e 1 v n xs→(w.setCells q i vs).ownsRow base e 1 v n xs
 | [],i,w,h=>h
 | u :: us,i,w,h=>own_sets hn us (i+1) _ (own_set h q i u hn)
set_option maxHeartbeats 6400000 in
theorem delegate_is (c:Cf) (realm now fresh target nonce:Int) (tk au rs ev:ByteArray) (x0 x1 x2 x3 x4 x5:Int) (pa:Option Addr) (pl pc:Nat) (va:Option Addr) (vl vc:Nat) (wa wb we:Int) (w:World) (C:CfAt c w) (K:CfOk c) (hr:0≤realm∧realm≤2) (ht:0≤target∧target≤2) (hx:0≤x0∧x0≤5) (hev:ev.size≤1048576) :
  Calls Tryz.prog 119 #[cenV c realm now fresh,.agg #[I target,I nonce,.string tk,.string au,.string rs,.string ev],.agg #[I x0,I x1,I x2,I x3,I x4,I x5,.slice pa pl pc,.slice va vl vc],.agg #[I wa,I wb,I we]] w fun en w'=>GRes w.heap.size (dgG c realm now fresh target nonce x0 x2 wa wb we ev) en w'∧Below w.heap.size w w':=by
 have KO:=K
 obtain ⟨ie,hie,hsz⟩:=info_gift
 obtain ⟨it,hit,htz⟩:=info_tick
 obtain ⟨i3,hi3,hz3⟩:=info_rest
 obtain ⟨i1,hi1,hz1⟩:=info_int
 obtain ⟨is,his,hzs⟩:=info_slice
 obtain ⟨i0,hi,hz0,hz1_,hz2⟩:=info_parts infoInt
 have BC:Below w.heap.size w (((((w.alloc (.cells #[.slice c.ua c.U.length c.uc,.slice c.sa c.S.length c.sc,.slice c.la c.L.length c.lc,.slice c.xa c.X.length c.xc,I c.k,I realm,I now,I fresh] 70)).alloc (.cells #[I target,I nonce,.string tk,.string au,.string rs,.string ev] 129)).alloc (.cells #[I x0,I x1,I x2,I x3,I x4,I x5,.slice pa pl pc,.slice va vl vc] 43)).alloc (.cells #[I wa,I wb,I we] 31)).alloc (.cells #[I 0,I 0,I 0,I 0,I 0,I 0,.slice none 0 0,.slice none 0 0,I 0,I 0,I 0,I 0,I 0,I 0,I 0,I 0,I 0,I 0,I 0,I 0,I 0,I 0] 73)):=(((((Below.refl _ _).alloc (by simp <;> omega) _).alloc (by simp <;> omega) _).alloc (by simp <;> omega) _).alloc (by simp <;> omega) _).alloc (by simp <;> omega) _
 have TC:Blk w.heap.size [.slice c.ua c.U.length c.uc,.slice c.sa c.S.length c.sc,.slice c.la c.L.length c.lc,.slice c.xa c.X.length c.xc,I c.k,I realm,I now,I fresh] (((((w.alloc (.cells #[.slice c.ua c.U.length c.uc,.slice c.sa c.S.length c.sc,.slice c.la c.L.length c.lc,.slice c.xa c.X.length c.xc,I c.k,I realm,I now,I fresh] 70)).alloc (.cells #[I target,I nonce,.string tk,.string au,.string rs,.string ev] 129)).alloc (.cells #[I x0,I x1,I x2,I x3,I x4,I x5,.slice pa pl pc,.slice va vl vc] 43)).alloc (.cells #[I wa,I wb,I we] 31)).alloc (.cells #[I 0,I 0,I 0,I 0,I 0,I 0,.slice none 0 0,.slice none 0 0,I 0,I 0,I 0,I 0,I 0,I 0,I 0,I 0,I 0,I 0,I 0,I 0,I 0,I 0] 73)):=by have h_:=(((((Blk.new w #[.slice c.ua c.U.length c.uc,.slice c.sa c.S.length c.sc,.slice c.la c.L.length c.lc,.slice c.xa c.X.length c.xc,I c.k,I realm,I now,I fresh] 70).alloc (by simp <;> omega) (.cells #[I target,I nonce,.string tk,.string au,.string rs,.string ev] 129)).alloc (by simp <;> omega) (.cells #[I x0,I x1,I x2,I x3,I x4,I x5,.slice pa pl pc,.slice va vl vc] 43)).alloc (by simp <;> omega) (.cells #[I wa,I wb,I we] 31)).alloc (by simp <;> omega) (.cells #[I 0,I 0,I 0,I 0,I 0,I 0,.slice none 0 0,.slice none 0 0,I 0,I 0,I 0,I 0,I 0,I 0,I 0,I 0,I 0,I 0,I 0,I 0,I 0,I 0] 73));simpa using h_
 have QC:Blk (w.heap.size+1) [I target,I nonce,.string tk,.string au,.string rs,.string ev] (((((w.alloc (.cells #[.slice c.ua c.U.length c.uc,.slice c.sa c.S.length c.sc,.slice c.la c.L.length c.lc,.slice c.xa c.X.length c.xc,I c.k,I realm,I now,I fresh] 70)).alloc (.cells #[I target,I nonce,.string tk,.string au,.string rs,.string ev] 129)).alloc (.cells #[I x0,I x1,I x2,I x3,I x4,I x5,.slice pa pl pc,.slice va vl vc] 43)).alloc (.cells #[I wa,I wb,I we] 31)).alloc (.cells #[I 0,I 0,I 0,I 0,I 0,I 0,.slice none 0 0,.slice none 0 0,I 0,I 0,I 0,I 0,I 0,I 0,I 0,I 0,I 0,I 0,I 0,I 0,I 0,I 0] 73)):=by have h_:=((((Blk.new (w.alloc (.cells #[.slice c.ua c.U.length c.uc,.slice c.sa c.S.length c.sc,.slice c.la c.L.length c.lc,.slice c.xa c.X.length c.xc,I c.k,I realm,I now,I fresh] 70)) #[I target,I nonce,.string tk,.string au,.string rs,.string ev] 129).alloc (by simp <;> omega) (.cells #[I x0,I x1,I x2,I x3,I x4,I x5,.slice pa pl pc,.slice va vl vc] 43)).alloc (by simp <;> omega) (.cells #[I wa,I wb,I we] 31)).alloc (by simp <;> omega) (.cells #[I 0,I 0,I 0,I 0,I 0,I 0,.slice none 0 0,.slice none 0 0,I 0,I 0,I 0,I 0,I 0,I 0,I 0,I 0,I 0,I 0,I 0,I 0,I 0,I 0] 73));simpa using h_
 have KC:Blk (w.heap.size+1+1) [I x0,I x1,I x2,I x3,I x4,I x5,.slice pa pl pc,.slice va vl vc] (((((w.alloc (.cells #[.slice c.ua c.U.length c.uc,.slice c.sa c.S.length c.sc,.slice c.la c.L.length c.lc,.slice c.xa c.X.length c.xc,I c.k,I realm,I now,I fresh] 70)).alloc (.cells #[I target,I nonce,.string tk,.string au,.string rs,.string ev] 129)).alloc (.cells #[I x0,I x1,I x2,I x3,I x4,I x5,.slice pa pl pc,.slice va vl vc] 43)).alloc (.cells #[I wa,I wb,I we] 31)).alloc (.cells #[I 0,I 0,I 0,I 0,I 0,I 0,.slice none 0 0,.slice none 0 0,I 0,I 0,I 0,I 0,I 0,I 0,I 0,I 0,I 0,I 0,I 0,I 0,I 0,I 0] 73)):=by have h_:=(((Blk.new ((w.alloc (.cells #[.slice c.ua c.U.length c.uc,.slice c.sa c.S.length c.sc,.slice c.la c.L.length c.lc,.slice c.xa c.X.length c.xc,I c.k,I realm,I now,I fresh] 70)).alloc (.cells #[I target,I nonce,.string tk,.string au,.string rs,.string ev] 129)) #[I x0,I x1,I x2,I x3,I x4,I x5,.slice pa pl pc,.slice va vl vc] 43).alloc (by simp <;> omega) (.cells #[I wa,I wb,I we] 31)).alloc (by simp <;> omega) (.cells #[I 0,I 0,I 0,I 0,I 0,I 0,.slice none 0 0,.slice none 0 0,I 0,I 0,I 0,I 0,I 0,I 0,I 0,I 0,I 0,I 0,I 0,I 0,I 0,I 0] 73));simpa using h_
 have RC:Blk (w.heap.size+1+1+1) [I wa,I wb,I we] (((((w.alloc (.cells #[.slice c.ua c.U.length c.uc,.slice c.sa c.S.length c.sc,.slice c.la c.L.length c.lc,.slice c.xa c.X.length c.xc,I c.k,I realm,I now,I fresh] 70)).alloc (.cells #[I target,I nonce,.string tk,.string au,.string rs,.string ev] 129)).alloc (.cells #[I x0,I x1,I x2,I x3,I x4,I x5,.slice pa pl pc,.slice va vl vc] 43)).alloc (.cells #[I wa,I wb,I we] 31)).alloc (.cells #[I 0,I 0,I 0,I 0,I 0,I 0,.slice none 0 0,.slice none 0 0,I 0,I 0,I 0,I 0,I 0,I 0,I 0,I 0,I 0,I 0,I 0,I 0,I 0,I 0] 73)):=by have h_:=((Blk.new (((w.alloc (.cells #[.slice c.ua c.U.length c.uc,.slice c.sa c.S.length c.sc,.slice c.la c.L.length c.lc,.slice c.xa c.X.length c.xc,I c.k,I realm,I now,I fresh] 70)).alloc (.cells #[I target,I nonce,.string tk,.string au,.string rs,.string ev] 129)).alloc (.cells #[I x0,I x1,I x2,I x3,I x4,I x5,.slice pa pl pc,.slice va vl vc] 43)) #[I wa,I wb,I we] 31).alloc (by simp <;> omega) (.cells #[I 0,I 0,I 0,I 0,I 0,I 0,.slice none 0 0,.slice none 0 0,I 0,I 0,I 0,I 0,I 0,I 0,I 0,I 0,I 0,I 0,I 0,I 0,I 0,I 0] 73));simpa using h_
 have UC:Blk (w.heap.size+1+1+1+1) [I 0,I 0,I 0,I 0,I 0,I 0,.slice none 0 0,.slice none 0 0,I 0,I 0,I 0,I 0,I 0,I 0,I 0,I 0,I 0,I 0,I 0,I 0,I 0,I 0] (((((w.alloc (.cells #[.slice c.ua c.U.length c.uc,.slice c.sa c.S.length c.sc,.slice c.la c.L.length c.lc,.slice c.xa c.X.length c.xc,I c.k,I realm,I now,I fresh] 70)).alloc (.cells #[I target,I nonce,.string tk,.string au,.string rs,.string ev] 129)).alloc (.cells #[I x0,I x1,I x2,I x3,I x4,I x5,.slice pa pl pc,.slice va vl vc] 43)).alloc (.cells #[I wa,I wb,I we] 31)).alloc (.cells #[I 0,I 0,I 0,I 0,I 0,I 0,.slice none 0 0,.slice none 0 0,I 0,I 0,I 0,I 0,I 0,I 0,I 0,I 0,I 0,I 0,I 0,I 0,I 0,I 0] 73)):=by have h_:=(Blk.new ((((w.alloc (.cells #[.slice c.ua c.U.length c.uc,.slice c.sa c.S.length c.sc,.slice c.la c.L.length c.lc,.slice c.xa c.X.length c.xc,I c.k,I realm,I now,I fresh] 70)).alloc (.cells #[I target,I nonce,.string tk,.string au,.string rs,.string ev] 129)).alloc (.cells #[I x0,I x1,I x2,I x3,I x4,I x5,.slice pa pl pc,.slice va vl vc] 43)).alloc (.cells #[I wa,I wb,I we] 31)) #[I 0,I 0,I 0,I 0,I 0,I 0,.slice none 0 0,.slice none 0 0,I 0,I 0,I 0,I 0,I 0,I 0,I 0,I 0,I 0,I 0,I 0,I 0,I 0,I 0] 73);simpa using h_
 go_enter Tryz.func119,Tryz.ntmps119
 go_wp2_with fail
 obtain ⟨W0,hW0⟩:∃ Wz,(((((w.alloc (.cells #[.slice c.ua c.U.length c.uc,.slice c.sa c.S.length c.sc,.slice c.la c.L.length c.lc,.slice c.xa c.X.length c.xc,I c.k,I realm,I now,I fresh] 70)).alloc (.cells #[I target,I nonce,.string tk,.string au,.string rs,.string ev] 129)).alloc (.cells #[I x0,I x1,I x2,I x3,I x4,I x5,.slice pa pl pc,.slice va vl vc] 43)).alloc (.cells #[I wa,I wb,I we] 31)).alloc (.cells #[I 0,I 0,I 0,I 0,I 0,I 0,.slice none 0 0,.slice none 0 0,I 0,I 0,I 0,I 0,I 0,I 0,I 0,I 0,I 0,I 0,I 0,I 0,I 0,I 0] 73))=Wz:=⟨_,rfl⟩
 rw [hW0] at TC QC KC RC UC BC
 try rw [hW0]
 have Z0:Hid (w.heap.size+5≤W0.heap.size):=by show _≤_;rw [← hW0];simp
 clear hW0
 replace TC:=TC.drew
 replace QC:=QC.drew
 replace KC:=KC.drew
 replace RC:=RC.drew
 replace UC:=UC.drew
 replace BC:=BC.drew
 refine wp_region_held_drew (S:=(fun Vw=>Blk (w.heap.size+1+1) [I x0,I x1,I x2,I x3,I x4,I x5,.slice pa pl pc,.slice va vl vc] Vw∧Blk (w.heap.size+1) [I target,I nonce,.string tk,.string au,.string rs,.string ev] Vw)) (by kernel_rfl) ⟨KC,QC⟩ (fun hH=>?_)
 refine tK 0 15 rfl _ hH (by intro w' h;have e0:=h.1.at 0 rfl;have f0:=h.2.at 0 rfl;go_simp;try with_reducible rfl) ?_
 try simp only [Act.put,pa,pb,pc]
 refine tK 1 16 rfl _ hH (by intro w' h;have e0:=h.1.at 0 rfl;have f0:=h.2.at 0 rfl;go_simp;try with_reducible rfl) ?_
 try simp only [Act.put,pa,pb,pc]
 refine tK 2 17 rfl (I (x0 - 3)) hH ?_ ?_
 ·intro w' hSw;go_simp;first | done | (try go_bits) <;> first | rfl | (simp <;> omega)
 try simp only [Act.put,pa,pb,pc]
 refine tK 3 18 rfl _ hH (by intro w' h;have e0:=h.1.at 0 rfl;have f0:=h.2.at 0 rfl;go_simp;try with_reducible rfl) ?_
 try simp only [Act.put,pa,pb,pc]
 refine tK 4 19 rfl _ hH (by intro w' h;have e0:=h.1.at 0 rfl;have f0:=h.2.at 0 rfl;go_simp;try with_reducible rfl) ?_
 try simp only [Act.put,pa,pb,pc]
 refine tK 5 20 rfl (I (target+3)) hH ?_ ?_
 ·intro w' hSw;go_simp;first | done | (try go_bits) <;> first | rfl | (simp <;> omega)
 try simp only [Act.put,pa,pb,pc]
 refine tK 6 10 rfl _ hH (by intro w' h;have e0:=h.1.at 0 rfl;have f0:=h.2.at 0 rfl;go_simp;try with_reducible rfl) ?_
 try simp only [Act.put,pa,pb,pc]
 refine tK 7 11 rfl _ hH (by intro w' h;have e0:=h.1.at 0 rfl;have f0:=h.2.at 0 rfl;go_simp;try with_reducible rfl) ?_
 try simp only [Act.put,pa,pb,pc]
 refine wpAnyH_done (by kernel_rfl) ?_ _
 replace Z0:Hid (w.heap.size+5≤W0.drew.heap.size):=Z0
 go_wp2_with fail
 refine (serv_is (x0 - 3) _).mono ?_
 rintro en w1 ⟨rfl,rfl⟩
 by_cases c0:btw (x0 - 3) 0 2=true
 ·rw [c0]
  have q1_:=TC.at 0 rfl
  have q2_:=TC.at 1 rfl
  have q3_:=TC.at 2 rfl
  have q4_:=TC.at 3 rfl
  have q5_:=TC.at 4 rfl
  have q6_:=TC.at 5 rfl
  have q7_:=TC.at 6 rfl
  have q8_:=TC.at 7 rfl
  have q9_:=KC.at 0 rfl
  go_wp2_with fail
  refine (hasP_is c realm now fresh x0 _ (C.later BC) K).mono ?_
  rintro en w2 ⟨rfl,hb⟩
  have s2:=hb.size
  replace TC:=TC.later hb TC.lt
  replace QC:=QC.later hb QC.lt
  replace KC:=KC.later hb KC.lt
  replace RC:=RC.later hb RC.lt
  replace UC:=UC.later hb UC.lt
  replace BC:=BC.trans (hb.mono BC.size)
  clear hb
  clear q1_ q2_ q3_ q4_ q5_ q6_ q7_ q8_ q9_
  replace Z0:Hid (w.heap.size+5≤w2.heap.size):=Nat.le_trans Z0.out s2
  clear s2
  by_cases c1:roV c x0=realm
  ·rw [decide_eq_true c1]
   have q10_:=TC.at 0 rfl
   have q11_:=TC.at 1 rfl
   have q12_:=TC.at 2 rfl
   have q13_:=TC.at 3 rfl
   have q14_:=TC.at 4 rfl
   have q15_:=TC.at 5 rfl
   have q16_:=TC.at 6 rfl
   have q17_:=TC.at 7 rfl
   go_wp2_with fail
   refine (hasP_is c realm now fresh (target+3) _ (C.later BC) K).mono ?_
   rintro en w3 ⟨rfl,hb⟩
   have s3:=hb.size
   replace TC:=TC.later hb TC.lt
   replace QC:=QC.later hb QC.lt
   replace KC:=KC.later hb KC.lt
   replace RC:=RC.later hb RC.lt
   replace UC:=UC.later hb UC.lt
   replace BC:=BC.trans (hb.mono BC.size)
   clear hb
   clear q10_ q11_ q12_ q13_ q14_ q15_ q16_ q17_
   replace Z0:Hid (w.heap.size+5≤w3.heap.size):=Nat.le_trans Z0.out s3
   clear s3
   by_cases c2:roV c (target+3)=realm
   ·rw [decide_eq_true c2]
    have HC:Hid (dgG c realm now fresh target nonce x0 x2 wa wb we ev=if rtK ev (pkV x0)=true∧rtN ev (pkV x0) 1=x0 - 3 then (if rtN ev (pkV x0) 5 < now then .error 4 else if (x0 - 3,target)∈c.X∧(rtV ev (pkV x0)).length≠4 then .ok ⟨rtN ev (pkV x0) 0,target,fresh,mA (rtN ev (pkV x0) 3) (rtN ev (pkV x0) 4) (rtN ev (pkV x0) 5) wa wb we,mB (rtN ev (pkV x0) 3) (rtN ev (pkV x0) 4) (rtN ev (pkV x0) 5) wa wb we,mC (rtN ev (pkV x0) 3) (rtN ev (pkV x0) 4) (rtN ev (pkV x0) 5) wa wb we,rtP ev (pkV x0),rtV ev (pkV x0)++[x0 - 3],pkV (target+3),x2,nonce,4,x0,x2,rtN ev (pkV x0) 2⟩ else .error 6) else .error 1):=by show _=_;unfold dgG;rw [if_pos ⟨c0,c1,c2⟩]
    go_wp2_with fail
    refine Code.wp_mono (Q:=(fun ex a' w'=>∃ (nb bs:Nat) (ua:Option Addr) (uc:Nat) (vb:Option Addr) (vd:Nat),ex=.normal∧a'=({ tmps:=#[cenV c realm now fresh,.agg #[I target,I nonce,.string tk,.string au,.string rs,.string ev],.agg #[I x0,I x1,I x2,I x3,I x4,I x5,.slice pa pl pc,.slice va vl vc],.agg #[I wa,I wb,I we],.pointer (some ⟨w.heap.size,0,none⟩),.pointer (some ⟨w.heap.size+1,0,none⟩),.pointer (some ⟨w.heap.size+1+1,0,none⟩),.pointer (some ⟨w.heap.size+1+1+1,0,none⟩),.pointer (some ⟨w.heap.size+1+1+1+1,0,none⟩),Value.nilIface,I (x0 - 3),I (target+3),.pointer (some ⟨nb,0,none⟩),.bool (rtK ev (pkV x0)),undef,.pointer (some ⟨w.heap.size+1+1,0,none⟩),I x0,I (x0 - 3),.pointer (some ⟨w.heap.size+1,0,none⟩),I target,I (target+3),I (x0 - 3),.bool true,.bool false,.bool false,.agg #[.slice c.ua c.U.length c.uc,.slice c.sa c.S.length c.sc,.slice c.la c.L.length c.lc,.slice c.xa c.X.length c.xc,I c.k,I realm,I now,I fresh],.pointer (some ⟨w.heap.size+1+1,0,none⟩),I x0,.bool true,.bool false,.bool false,.bool false,.agg #[.slice c.ua c.U.length c.uc,.slice c.sa c.S.length c.sc,.slice c.la c.L.length c.lc,.slice c.xa c.X.length c.xc,I c.k,I realm,I now,I fresh],I (target+3),.bool true,.bool false,.bool false,undef,undef,undef,.tuple #[.agg #[I (rtN ev (pkV x0) 0),I (rtN ev (pkV x0) 1),I (rtN ev (pkV x0) 2),I (rtN ev (pkV x0) 3),I (rtN ev (pkV x0) 4),I (rtN ev (pkV x0) 5),.slice ua (rtP ev (pkV x0)).length uc,.slice vb (rtV ev (pkV x0)).length vd],.bool (rtK ev (pkV x0))],.pointer (some ⟨w.heap.size+1,5,none⟩),.string ev,.pointer (some ⟨w.heap.size+1+1,0,none⟩),I x0,I (pkV x0),.tuple #[.agg #[I (rtN ev (pkV x0) 0),I (rtN ev (pkV x0) 1),I (rtN ev (pkV x0) 2),I (rtN ev (pkV x0) 3),I (rtN ev (pkV x0) 4),I (rtN ev (pkV x0) 5),.slice ua (rtP ev (pkV x0)).length uc,.slice vb (rtV ev (pkV x0)).length vd],.bool (rtK ev (pkV x0))],.agg #[I (rtN ev (pkV x0) 0),I (rtN ev (pkV x0) 1),I (rtN ev (pkV x0) 2),I (rtN ev (pkV x0) 3),I (rtN ev (pkV x0) 4),I (rtN ev (pkV x0) 5),.slice ua (rtP ev (pkV x0)).length uc,.slice vb (rtV ev (pkV x0)).length vd],.bool (rtK ev (pkV x0)),undef,undef,undef,undef,undef,undef,undef,undef,undef,undef,undef,undef,undef,undef,undef,undef,undef,undef,undef,undef,undef,undef,undef,undef,undef,undef,undef,undef,undef,undef,undef,undef,undef,undef,undef,undef,undef,undef,undef,undef,undef,undef,undef,undef,undef,undef,undef,undef,undef,undef,undef,undef,undef,undef,undef,undef,undef,undef,undef,undef,undef,undef,undef,undef,undef,undef,undef,undef,undef,undef,undef,undef,undef,undef,undef,undef,undef,undef],defers:=[] })∧Blk w.heap.size [.slice c.ua c.U.length c.uc,.slice c.sa c.S.length c.sc,.slice c.la c.L.length c.lc,.slice c.xa c.X.length c.xc,I c.k,I realm,I now,I fresh] w'∧Blk (w.heap.size+1) [I target,I nonce,.string tk,.string au,.string rs,.string ev] w'∧Blk (w.heap.size+1+1) [I x0,I x1,I x2,I x3,I x4,I x5,.slice pa pl pc,.slice va vl vc] w'∧Blk (w.heap.size+1+1+1) [I wa,I wb,I we] w'∧Blk (w.heap.size+1+1+1+1) [I 0,I 0,I 0,I 0,I 0,I 0,.slice none 0 0,.slice none 0 0,I 0,I 0,I 0,I 0,I 0,I 0,I 0,I 0,I 0,I 0,I 0,I 0,I 0,I 0] w'∧Blk nb [I (rtN ev (pkV x0) 0),I (rtN ev (pkV x0) 1),I (rtN ev (pkV x0) 2),I (rtN ev (pkV x0) 3),I (rtN ev (pkV x0) 4),I (rtN ev (pkV x0) 5),.slice ua (rtP ev (pkV x0)).length uc,.slice vb (rtV ev (pkV x0)).length vd] w'∧w'.ownsRow bs 3 1 (.slice ua (rtP ev (pkV x0)).length uc) (rtP ev (pkV x0)).length (intV (rtP ev (pkV x0)))∧w'.ownsRow bs 3 1 (.slice vb (rtV ev (pkV x0)).length vd) (rtV ev (pkV x0)).length (intV (rtV ev (pkV x0)))∧Apart (.slice ua (rtP ev (pkV x0)).length uc) (.slice vb (rtV ev (pkV x0)).length vd)∧(∀ k,(Value.slice ua (rtP ev (pkV x0)).length uc).ownBlock=some k→k≠nb)∧(∀ k,(Value.slice vb (rtV ev (pkV x0)).length vd).ownBlock=some k→k≠nb)∧Hid (w.heap.size+5≤bs)∧Hid (w.heap.size+5≤nb)∧Below w.heap.size w w')) ?imp4 ?reg4
    case reg4 =>
     replace TC:=TC.drew
     replace QC:=QC.drew
     replace KC:=KC.drew
     replace RC:=RC.drew
     replace UC:=UC.drew
     replace BC:=BC.drew
     have zz:=Z0.out
     replace zz:w.heap.size+5≤w3.drew.heap.size:=zz
     refine wp_region_held_drew (S:=(fun Vw=>Blk (w.heap.size+1) [I target,I nonce,.string tk,.string au,.string rs,.string ev] Vw∧Blk (w.heap.size+1+1) [I x0,I x1,I x2,I x3,I x4,I x5,.slice pa pl pc,.slice va vl vc] Vw)) (by kernel_rfl) ⟨QC,KC⟩ (fun hH=>?_)
     refine tK 0 41 rfl _ hH (by intro w' h;have f5:=h.1.at 5 rfl;have e0:=h.2.at 0 rfl;go_simp;try with_reducible rfl) ?_ (hQ:=fun _ _ _ h=>by obtain ⟨_,_,_,_,_,_,h,_⟩:=h;cases h)
     try simp only [Act.put,pa,pb,pc]
     refine tK 1 42 rfl _ hH (by intro w' h;have f5:=h.1.at 5 rfl;have e0:=h.2.at 0 rfl;go_simp;try with_reducible rfl) ?_ (hQ:=fun _ _ _ h=>by obtain ⟨_,_,_,_,_,_,h,_⟩:=h;cases h)
     try simp only [Act.put,pa,pb,pc]
     refine tK 2 43 rfl _ hH (by intro w' h;have f5:=h.1.at 5 rfl;have e0:=h.2.at 0 rfl;go_simp;try with_reducible rfl) ?_ (hQ:=fun _ _ _ h=>by obtain ⟨_,_,_,_,_,_,h,_⟩:=h;cases h)
     try simp only [Act.put,pa,pb,pc]
     refine tK 3 44 rfl _ hH (by intro w' h;have f5:=h.1.at 5 rfl;have e0:=h.2.at 0 rfl;go_simp;try with_reducible rfl) ?_ (hQ:=fun _ _ _ h=>by obtain ⟨_,_,_,_,_,_,h,_⟩:=h;cases h)
     try simp only [Act.put,pa,pb,pc]
     refine wpAnyH_ready (rs:=[4,9]) (by kernel_rfl) (by simp) ?_
     refine AllReadyH.cons (i:=4) rfl (fun K hK=>?_) (AllReadyH.cons (i:=9) rfl (fun K hK=>?_) AllReadyH.nil)
     ·go_simp
      refine (implPK_is x0 _).mono ?_
      rintro en w_ ⟨rfl,rfl⟩
      go_wp2_with fail
      refine hK.out _ _ ⟨QC,KC⟩ (fun hJ=>?_)
      clear hK K hH
      have hH:=hJ
      clear hJ
      try simp only [Act.put,pa,pb,pc]
      refine wpAnyH_ready (rs:=[5,9]) (by kernel_rfl) (by simp) ?_
      refine AllReadyH.cons (i:=5) rfl (fun K hK=>?_) (AllReadyH.cons (i:=9) rfl (fun K hK=>?_) AllReadyH.nil)
      ·have zb:=Nat.le_refl (w3.drew).heap.size
       go_simp
       refine (implReadT_is ev (pkV x0) _ hev).mono ?_
       rintro en w7 ⟨ua,uc,vb,vd,rfl,oP,oV,hA,hb⟩
       have s7:=hb.size
       replace TC:=TC.later hb TC.lt
       replace QC:=QC.later hb QC.lt
       replace KC:=KC.later hb KC.lt
       replace RC:=RC.later hb RC.lt
       replace UC:=UC.later hb UC.lt
       replace BC:=BC.trans (hb.mono BC.size)
       clear hb
       go_wp2_with fail
       refine hK.out _ _ ⟨QC,KC⟩ (fun hJ=>?_)
       clear hK K hH
       have hH:=hJ
       clear hJ
       try simp only [Act.put,pa,pb,pc]
       refine tK 6 40 rfl _ hH (by intro w' h;have f5:=h.1.at 5 rfl;have e0:=h.2.at 0 rfl;go_simp;try with_reducible rfl) ?_ (hQ:=fun _ _ _ h=>by obtain ⟨_,_,_,_,_,_,h,_⟩:=h;cases h)
       try simp only [Act.put,pa,pb,pc]
       refine tK 7 47 rfl _ hH (by intro w' h;have f5:=h.1.at 5 rfl;have e0:=h.2.at 0 rfl;go_simp;try with_reducible rfl) ?_ (hQ:=fun _ _ _ h=>by obtain ⟨_,_,_,_,_,_,h,_⟩:=h;cases h)
       try simp only [Act.put,pa,pb,pc]
       refine tK 8 48 rfl _ hH (by intro w' h;have f5:=h.1.at 5 rfl;have e0:=h.2.at 0 rfl;go_simp;try with_reducible rfl) ?_ (hQ:=fun _ _ _ h=>by obtain ⟨_,_,_,_,_,_,h,_⟩:=h;cases h)
       try simp only [Act.put,pa,pb,pc]
       refine wpAnyH_ready (rs:=[9]) (by kernel_rfl) (by simp) ?_
       refine AllReadyH.cons (i:=9) rfl (fun K hK=>?_) AllReadyH.nil
       obtain ⟨Va,hVa⟩:∃ Wz,(w7).alloc (.cells #[I 0,I 0,I 0,I 0,I 0,I 0,.slice none 0 0,.slice none 0 0] 43)=Wz:=⟨_,rfl⟩
       have XA:Below (w7).heap.size (w7) Va:=by rw [← hVa];exact (Below.refl _ _).alloc (Nat.le_refl _) _
       have zVa:Va.heap.size=(w7).heap.size+1:=by rw [← hVa];simp
       have EC:Blk (w7).heap.size [I 0,I 0,I 0,I 0,I 0,I 0,.slice none 0 0,.slice none 0 0] Va:=by rw [← hVa];exact Blk.new _ _ _
       replace TC:=TC.later XA TC.lt
       replace QC:=QC.later XA QC.lt
       replace KC:=KC.later XA KC.lt
       replace RC:=RC.later XA RC.lt
       replace UC:=UC.later XA UC.lt
       replace BC:=BC.trans (XA.mono BC.size)
       have kP:=own_in oP
       have kV:=own_in oV
       replace oP:=own_later oP XA
       replace oV:=own_later oV XA
       clear XA
       go_simp
       try rw [hVa]
       refine hK.out _ _ (by (try rw [hVa]);exact ⟨QC,KC⟩) (fun hJ=>?_)
       clear hK K hH
       have hH:=hJ
       clear hJ
       try simp only [Act.put,pa,pb,pc]
       try rw [hVa]
       clear hVa
       have zbs:Hid (w.heap.size+5≤w3.drew.heap.size):=zz
       obtain ⟨nb,hnb⟩:∃ n,w7.heap.size=n:=⟨_,rfl⟩
       try rw [hnb] at EC
       try simp only [hnb]
       have zn:w.heap.size+5≤nb:=by omega
       have nP:∀ k,(Value.slice ua (rtP ev (pkV x0)).length uc).ownBlock=some k→k≠nb:=fun k h=>by have:=kP k h;omega
       have nV:∀ k,(Value.slice vb (rtV ev (pkV x0)).length vd).ownBlock=some k→k≠nb:=fun k h=>by have:=kV k h;omega
       replace oP:=own_sets nP [I (rtN ev (pkV x0) 0),I (rtN ev (pkV x0) 1),I (rtN ev (pkV x0) 2),I (rtN ev (pkV x0) 3),I (rtN ev (pkV x0) 4),I (rtN ev (pkV x0) 5),.slice ua (rtP ev (pkV x0)).length uc,.slice vb (rtV ev (pkV x0)).length vd] 0 _ oP
       replace oV:=own_sets nV [I (rtN ev (pkV x0) 0),I (rtN ev (pkV x0) 1),I (rtN ev (pkV x0) 2),I (rtN ev (pkV x0) 3),I (rtN ev (pkV x0) 4),I (rtN ev (pkV x0) 5),.slice ua (rtP ev (pkV x0)).length uc,.slice vb (rtV ev (pkV x0)).length vd] 0 _ oV
       have N_:Blk nb [I (rtN ev (pkV x0) 0),I (rtN ev (pkV x0) 1),I (rtN ev (pkV x0) 2),I (rtN ev (pkV x0) 3),I (rtN ev (pkV x0) 4),I (rtN ev (pkV x0) 5),.slice ua (rtP ev (pkV x0)).length uc,.slice vb (rtV ev (pkV x0)).length vd] ((Va).setCells nb 0 [I (rtN ev (pkV x0) 0),I (rtN ev (pkV x0) 1),I (rtN ev (pkV x0) 2),I (rtN ev (pkV x0) 3),I (rtN ev (pkV x0) 4),I (rtN ev (pkV x0) 5),.slice ua (rtP ev (pkV x0)).length uc,.slice vb (rtV ev (pkV x0)).length vd]):=EC.part 0 [I (rtN ev (pkV x0) 0),I (rtN ev (pkV x0) 1),I (rtN ev (pkV x0) 2),I (rtN ev (pkV x0) 3),I (rtN ev (pkV x0) 4),I (rtN ev (pkV x0) 5),.slice ua (rtP ev (pkV x0)).length uc,.slice vb (rtV ev (pkV x0)).length vd] _ (by simp) rfl
       have TC_:=Blk.farS (q:=nb) (by omega) [I (rtN ev (pkV x0) 0),I (rtN ev (pkV x0) 1),I (rtN ev (pkV x0) 2),I (rtN ev (pkV x0) 3),I (rtN ev (pkV x0) 4),I (rtN ev (pkV x0) 5),.slice ua (rtP ev (pkV x0)).length uc,.slice vb (rtV ev (pkV x0)).length vd] 0 _ TC
       have QC_:=Blk.farS (q:=nb) (by omega) [I (rtN ev (pkV x0) 0),I (rtN ev (pkV x0) 1),I (rtN ev (pkV x0) 2),I (rtN ev (pkV x0) 3),I (rtN ev (pkV x0) 4),I (rtN ev (pkV x0) 5),.slice ua (rtP ev (pkV x0)).length uc,.slice vb (rtV ev (pkV x0)).length vd] 0 _ QC
       have KC_:=Blk.farS (q:=nb) (by omega) [I (rtN ev (pkV x0) 0),I (rtN ev (pkV x0) 1),I (rtN ev (pkV x0) 2),I (rtN ev (pkV x0) 3),I (rtN ev (pkV x0) 4),I (rtN ev (pkV x0) 5),.slice ua (rtP ev (pkV x0)).length uc,.slice vb (rtV ev (pkV x0)).length vd] 0 _ KC
       have RC_:=Blk.farS (q:=nb) (by omega) [I (rtN ev (pkV x0) 0),I (rtN ev (pkV x0) 1),I (rtN ev (pkV x0) 2),I (rtN ev (pkV x0) 3),I (rtN ev (pkV x0) 4),I (rtN ev (pkV x0) 5),.slice ua (rtP ev (pkV x0)).length uc,.slice vb (rtV ev (pkV x0)).length vd] 0 _ RC
       have UC_:=Blk.farS (q:=nb) (by omega) [I (rtN ev (pkV x0) 0),I (rtN ev (pkV x0) 1),I (rtN ev (pkV x0) 2),I (rtN ev (pkV x0) 3),I (rtN ev (pkV x0) 4),I (rtN ev (pkV x0) 5),.slice ua (rtP ev (pkV x0)).length uc,.slice vb (rtV ev (pkV x0)).length vd] 0 _ UC
       have BC_:=below_sets (m:=w.heap.size) (g:=nb) (by omega) [I (rtN ev (pkV x0) 0),I (rtN ev (pkV x0) 1),I (rtN ev (pkV x0) 2),I (rtN ev (pkV x0) 3),I (rtN ev (pkV x0) 4),I (rtN ev (pkV x0) 5),.slice ua (rtP ev (pkV x0)).length uc,.slice vb (rtV ev (pkV x0)).length vd] 0 _ BC
       refine wpAnyH_ready (rs:=[10]) (by kernel_rfl) (by simp) ?_
       refine AllReadyH.cons (i:=10) rfl (fun K hK=>?_) AllReadyH.nil
       refine stepB2 43 _ _ (nb) 0 _ [I (rtN ev (pkV x0) 0),I (rtN ev (pkV x0) 1),I (rtN ev (pkV x0) 2),I (rtN ev (pkV x0) 3),I (rtN ev (pkV x0) 4),I (rtN ev (pkV x0) 5),.slice ua (rtP ev (pkV x0)).length uc,.slice vb (rtV ev (pkV x0)).length vd] it hit EC (by rw [htz];rfl) (by simp) rfl rfl rfl rfl rfl rfl ?_
       obtain ⟨VE,hVE⟩:∃ Wz,(Va).setCells (nb) 0 [I (rtN ev (pkV x0) 0),I (rtN ev (pkV x0) 1),I (rtN ev (pkV x0) 2),I (rtN ev (pkV x0) 3),I (rtN ev (pkV x0) 4),I (rtN ev (pkV x0) 5),.slice ua (rtP ev (pkV x0)).length uc,.slice vb (rtV ev (pkV x0)).length vd]=Wz:=⟨_,rfl⟩
       rw [hVE] at oP oV N_ BC_ TC_ QC_ KC_ RC_ UC_ ⊢
       clear hVE EC BC TC QC KC RC UC
       have EC:=N_
       have BC:=BC_
       have TC:=TC_
       have QC:=QC_
       have KC:=KC_
       have RC:=RC_
       have UC:=UC_
       clear N_ BC_ TC_ QC_ KC_ RC_ UC_
       refine hK.out _ _ ⟨QC,KC⟩ (fun hJ=>?_)
       clear hK K hH
       have hH:=hJ
       clear hJ
       try simp only [Act.put,pa,pb,pc]
       refine tK 11 13 rfl _ hH (by intro w' h;have f5:=h.1.at 5 rfl;have e0:=h.2.at 0 rfl;go_simp;try with_reducible rfl) ?_ (hQ:=fun _ _ _ h=>by obtain ⟨_,_,_,_,_,_,h,_⟩:=h;cases h)
       try simp only [Act.put,pa,pb,pc]
       refine wpAnyH_done (by kernel_rfl) ?_ _
       exact ⟨nb,w3.drew.heap.size,ua,uc,vb,vd,rfl,rfl,TC,QC,KC,RC,UC,EC,oP,oV,hA,nP,nV,zbs,zn,BC⟩
      ·obtain ⟨Va,hVa⟩:∃ Wz,(w3.drew).alloc (.cells #[I 0,I 0,I 0,I 0,I 0,I 0,.slice none 0 0,.slice none 0 0] 43)=Wz:=⟨_,rfl⟩
       have XA:Below (w3.drew).heap.size (w3.drew) Va:=by rw [← hVa];exact (Below.refl _ _).alloc (Nat.le_refl _) _
       have zVa:Va.heap.size=(w3.drew).heap.size+1:=by rw [← hVa];simp
       have EC:Blk (w3.drew).heap.size [I 0,I 0,I 0,I 0,I 0,I 0,.slice none 0 0,.slice none 0 0] Va:=by rw [← hVa];exact Blk.new _ _ _
       replace TC:=TC.later XA TC.lt
       replace QC:=QC.later XA QC.lt
       replace KC:=KC.later XA KC.lt
       replace RC:=RC.later XA RC.lt
       replace UC:=UC.later XA UC.lt
       replace BC:=BC.trans (XA.mono BC.size)
       clear XA
       go_simp
       try rw [hVa]
       refine hK.out _ _ (by (try rw [hVa]);exact ⟨QC,KC⟩) (fun hJ=>?_)
       clear hK K hH
       have hH:=hJ
       clear hJ
       try simp only [Act.put,pa,pb,pc]
       try rw [hVa]
       clear hVa
       refine wpAnyH_ready (rs:=[5]) (by kernel_rfl) (by simp) ?_
       refine AllReadyH.cons (i:=5) rfl (fun K hK=>?_) AllReadyH.nil
       have zb:=Nat.le_refl (Va).heap.size
       go_simp
       refine (implReadT_is ev (pkV x0) _ hev).mono ?_
       rintro en w7 ⟨ua,uc,vb,vd,rfl,oP,oV,hA,hb⟩
       have s7:=hb.size
       replace TC:=TC.later hb TC.lt
       replace QC:=QC.later hb QC.lt
       replace KC:=KC.later hb KC.lt
       replace RC:=RC.later hb RC.lt
       replace UC:=UC.later hb UC.lt
       replace EC:=EC.later hb EC.lt
       replace BC:=BC.trans (hb.mono BC.size)
       clear hb
       go_wp2_with fail
       refine hK.out _ _ ⟨QC,KC⟩ (fun hJ=>?_)
       clear hK K hH
       have hH:=hJ
       clear hJ
       try simp only [Act.put,pa,pb,pc]
       have kP:=own_in oP
       have kV:=own_in oV
       refine tK 6 40 rfl _ hH (by intro w' h;have f5:=h.1.at 5 rfl;have e0:=h.2.at 0 rfl;go_simp;try with_reducible rfl) ?_ (hQ:=fun _ _ _ h=>by obtain ⟨_,_,_,_,_,_,h,_⟩:=h;cases h)
       try simp only [Act.put,pa,pb,pc]
       refine tK 7 47 rfl _ hH (by intro w' h;have f5:=h.1.at 5 rfl;have e0:=h.2.at 0 rfl;go_simp;try with_reducible rfl) ?_ (hQ:=fun _ _ _ h=>by obtain ⟨_,_,_,_,_,_,h,_⟩:=h;cases h)
       try simp only [Act.put,pa,pb,pc]
       refine tK 8 48 rfl _ hH (by intro w' h;have f5:=h.1.at 5 rfl;have e0:=h.2.at 0 rfl;go_simp;try with_reducible rfl) ?_ (hQ:=fun _ _ _ h=>by obtain ⟨_,_,_,_,_,_,h,_⟩:=h;cases h)
       try simp only [Act.put,pa,pb,pc]
       have zbs:Hid (w.heap.size+5≤Va.heap.size):=(show w.heap.size+5≤Va.heap.size by omega)
       replace EC:Blk w3.heap.size _ _:=EC
       replace zz:w.heap.size+5≤w3.heap.size:=zz
       replace zVa:Va.heap.size=w3.heap.size+1:=zVa
       obtain ⟨nb,hnb⟩:∃ n,w3.heap.size=n:=⟨_,rfl⟩
       try rw [hnb] at EC
       try simp only [hnb]
       have zn:w.heap.size+5≤nb:=by omega
       have nP:∀ k,(Value.slice ua (rtP ev (pkV x0)).length uc).ownBlock=some k→k≠nb:=fun k h=>by have:=kP k h;omega
       have nV:∀ k,(Value.slice vb (rtV ev (pkV x0)).length vd).ownBlock=some k→k≠nb:=fun k h=>by have:=kV k h;omega
       replace oP:=own_sets nP [I (rtN ev (pkV x0) 0),I (rtN ev (pkV x0) 1),I (rtN ev (pkV x0) 2),I (rtN ev (pkV x0) 3),I (rtN ev (pkV x0) 4),I (rtN ev (pkV x0) 5),.slice ua (rtP ev (pkV x0)).length uc,.slice vb (rtV ev (pkV x0)).length vd] 0 _ oP
       replace oV:=own_sets nV [I (rtN ev (pkV x0) 0),I (rtN ev (pkV x0) 1),I (rtN ev (pkV x0) 2),I (rtN ev (pkV x0) 3),I (rtN ev (pkV x0) 4),I (rtN ev (pkV x0) 5),.slice ua (rtP ev (pkV x0)).length uc,.slice vb (rtV ev (pkV x0)).length vd] 0 _ oV
       have N_:Blk nb [I (rtN ev (pkV x0) 0),I (rtN ev (pkV x0) 1),I (rtN ev (pkV x0) 2),I (rtN ev (pkV x0) 3),I (rtN ev (pkV x0) 4),I (rtN ev (pkV x0) 5),.slice ua (rtP ev (pkV x0)).length uc,.slice vb (rtV ev (pkV x0)).length vd] ((w7).setCells nb 0 [I (rtN ev (pkV x0) 0),I (rtN ev (pkV x0) 1),I (rtN ev (pkV x0) 2),I (rtN ev (pkV x0) 3),I (rtN ev (pkV x0) 4),I (rtN ev (pkV x0) 5),.slice ua (rtP ev (pkV x0)).length uc,.slice vb (rtV ev (pkV x0)).length vd]):=EC.part 0 [I (rtN ev (pkV x0) 0),I (rtN ev (pkV x0) 1),I (rtN ev (pkV x0) 2),I (rtN ev (pkV x0) 3),I (rtN ev (pkV x0) 4),I (rtN ev (pkV x0) 5),.slice ua (rtP ev (pkV x0)).length uc,.slice vb (rtV ev (pkV x0)).length vd] _ (by simp) rfl
       have TC_:=Blk.farS (q:=nb) (by omega) [I (rtN ev (pkV x0) 0),I (rtN ev (pkV x0) 1),I (rtN ev (pkV x0) 2),I (rtN ev (pkV x0) 3),I (rtN ev (pkV x0) 4),I (rtN ev (pkV x0) 5),.slice ua (rtP ev (pkV x0)).length uc,.slice vb (rtV ev (pkV x0)).length vd] 0 _ TC
       have QC_:=Blk.farS (q:=nb) (by omega) [I (rtN ev (pkV x0) 0),I (rtN ev (pkV x0) 1),I (rtN ev (pkV x0) 2),I (rtN ev (pkV x0) 3),I (rtN ev (pkV x0) 4),I (rtN ev (pkV x0) 5),.slice ua (rtP ev (pkV x0)).length uc,.slice vb (rtV ev (pkV x0)).length vd] 0 _ QC
       have KC_:=Blk.farS (q:=nb) (by omega) [I (rtN ev (pkV x0) 0),I (rtN ev (pkV x0) 1),I (rtN ev (pkV x0) 2),I (rtN ev (pkV x0) 3),I (rtN ev (pkV x0) 4),I (rtN ev (pkV x0) 5),.slice ua (rtP ev (pkV x0)).length uc,.slice vb (rtV ev (pkV x0)).length vd] 0 _ KC
       have RC_:=Blk.farS (q:=nb) (by omega) [I (rtN ev (pkV x0) 0),I (rtN ev (pkV x0) 1),I (rtN ev (pkV x0) 2),I (rtN ev (pkV x0) 3),I (rtN ev (pkV x0) 4),I (rtN ev (pkV x0) 5),.slice ua (rtP ev (pkV x0)).length uc,.slice vb (rtV ev (pkV x0)).length vd] 0 _ RC
       have UC_:=Blk.farS (q:=nb) (by omega) [I (rtN ev (pkV x0) 0),I (rtN ev (pkV x0) 1),I (rtN ev (pkV x0) 2),I (rtN ev (pkV x0) 3),I (rtN ev (pkV x0) 4),I (rtN ev (pkV x0) 5),.slice ua (rtP ev (pkV x0)).length uc,.slice vb (rtV ev (pkV x0)).length vd] 0 _ UC
       have BC_:=below_sets (m:=w.heap.size) (g:=nb) (by omega) [I (rtN ev (pkV x0) 0),I (rtN ev (pkV x0) 1),I (rtN ev (pkV x0) 2),I (rtN ev (pkV x0) 3),I (rtN ev (pkV x0) 4),I (rtN ev (pkV x0) 5),.slice ua (rtP ev (pkV x0)).length uc,.slice vb (rtV ev (pkV x0)).length vd] 0 _ BC
       refine wpAnyH_ready (rs:=[10]) (by kernel_rfl) (by simp) ?_
       refine AllReadyH.cons (i:=10) rfl (fun K hK=>?_) AllReadyH.nil
       refine stepB2 43 _ _ (nb) 0 _ [I (rtN ev (pkV x0) 0),I (rtN ev (pkV x0) 1),I (rtN ev (pkV x0) 2),I (rtN ev (pkV x0) 3),I (rtN ev (pkV x0) 4),I (rtN ev (pkV x0) 5),.slice ua (rtP ev (pkV x0)).length uc,.slice vb (rtV ev (pkV x0)).length vd] it hit EC (by rw [htz];rfl) (by simp) rfl rfl rfl rfl rfl rfl ?_
       obtain ⟨VE,hVE⟩:∃ Wz,(w7).setCells (nb) 0 [I (rtN ev (pkV x0) 0),I (rtN ev (pkV x0) 1),I (rtN ev (pkV x0) 2),I (rtN ev (pkV x0) 3),I (rtN ev (pkV x0) 4),I (rtN ev (pkV x0) 5),.slice ua (rtP ev (pkV x0)).length uc,.slice vb (rtV ev (pkV x0)).length vd]=Wz:=⟨_,rfl⟩
       rw [hVE] at oP oV N_ BC_ TC_ QC_ KC_ RC_ UC_ ⊢
       clear hVE EC BC TC QC KC RC UC
       have EC:=N_
       have BC:=BC_
       have TC:=TC_
       have QC:=QC_
       have KC:=KC_
       have RC:=RC_
       have UC:=UC_
       clear N_ BC_ TC_ QC_ KC_ RC_ UC_
       refine hK.out _ _ ⟨QC,KC⟩ (fun hJ=>?_)
       clear hK K hH
       have hH:=hJ
       clear hJ
       try simp only [Act.put,pa,pb,pc]
       refine tK 11 13 rfl _ hH (by intro w' h;have f5:=h.1.at 5 rfl;have e0:=h.2.at 0 rfl;go_simp;try with_reducible rfl) ?_ (hQ:=fun _ _ _ h=>by obtain ⟨_,_,_,_,_,_,h,_⟩:=h;cases h)
       try simp only [Act.put,pa,pb,pc]
       refine wpAnyH_done (by kernel_rfl) ?_ _
       exact ⟨nb,Va.heap.size,ua,uc,vb,vd,rfl,rfl,TC,QC,KC,RC,UC,EC,oP,oV,hA,nP,nV,zbs,zn,BC⟩
     ·obtain ⟨Va,hVa⟩:∃ Wz,(w3.drew).alloc (.cells #[I 0,I 0,I 0,I 0,I 0,I 0,.slice none 0 0,.slice none 0 0] 43)=Wz:=⟨_,rfl⟩
      have XA:Below (w3.drew).heap.size (w3.drew) Va:=by rw [← hVa];exact (Below.refl _ _).alloc (Nat.le_refl _) _
      have zVa:Va.heap.size=(w3.drew).heap.size+1:=by rw [← hVa];simp
      have EC:Blk (w3.drew).heap.size [I 0,I 0,I 0,I 0,I 0,I 0,.slice none 0 0,.slice none 0 0] Va:=by rw [← hVa];exact Blk.new _ _ _
      replace TC:=TC.later XA TC.lt
      replace QC:=QC.later XA QC.lt
      replace KC:=KC.later XA KC.lt
      replace RC:=RC.later XA RC.lt
      replace UC:=UC.later XA UC.lt
      replace BC:=BC.trans (XA.mono BC.size)
      clear XA
      go_simp
      try rw [hVa]
      refine hK.out _ _ (by (try rw [hVa]);exact ⟨QC,KC⟩) (fun hJ=>?_)
      clear hK K hH
      have hH:=hJ
      clear hJ
      try simp only [Act.put,pa,pb,pc]
      try rw [hVa]
      clear hVa
      refine wpAnyH_ready (rs:=[4]) (by kernel_rfl) (by simp) ?_
      refine AllReadyH.cons (i:=4) rfl (fun K hK=>?_) AllReadyH.nil
      go_simp
      refine (implPK_is x0 _).mono ?_
      rintro en w_ ⟨rfl,rfl⟩
      go_wp2_with fail
      refine hK.out _ _ ⟨QC,KC⟩ (fun hJ=>?_)
      clear hK K hH
      have hH:=hJ
      clear hJ
      try simp only [Act.put,pa,pb,pc]
      refine wpAnyH_ready (rs:=[5]) (by kernel_rfl) (by simp) ?_
      refine AllReadyH.cons (i:=5) rfl (fun K hK=>?_) AllReadyH.nil
      have zb:=Nat.le_refl (Va).heap.size
      go_simp
      refine (implReadT_is ev (pkV x0) _ hev).mono ?_
      rintro en w7 ⟨ua,uc,vb,vd,rfl,oP,oV,hA,hb⟩
      have s7:=hb.size
      replace TC:=TC.later hb TC.lt
      replace QC:=QC.later hb QC.lt
      replace KC:=KC.later hb KC.lt
      replace RC:=RC.later hb RC.lt
      replace UC:=UC.later hb UC.lt
      replace EC:=EC.later hb EC.lt
      replace BC:=BC.trans (hb.mono BC.size)
      clear hb
      go_wp2_with fail
      refine hK.out _ _ ⟨QC,KC⟩ (fun hJ=>?_)
      clear hK K hH
      have hH:=hJ
      clear hJ
      try simp only [Act.put,pa,pb,pc]
      have kP:=own_in oP
      have kV:=own_in oV
      refine tK 6 40 rfl _ hH (by intro w' h;have f5:=h.1.at 5 rfl;have e0:=h.2.at 0 rfl;go_simp;try with_reducible rfl) ?_ (hQ:=fun _ _ _ h=>by obtain ⟨_,_,_,_,_,_,h,_⟩:=h;cases h)
      try simp only [Act.put,pa,pb,pc]
      refine tK 7 47 rfl _ hH (by intro w' h;have f5:=h.1.at 5 rfl;have e0:=h.2.at 0 rfl;go_simp;try with_reducible rfl) ?_ (hQ:=fun _ _ _ h=>by obtain ⟨_,_,_,_,_,_,h,_⟩:=h;cases h)
      try simp only [Act.put,pa,pb,pc]
      refine tK 8 48 rfl _ hH (by intro w' h;have f5:=h.1.at 5 rfl;have e0:=h.2.at 0 rfl;go_simp;try with_reducible rfl) ?_ (hQ:=fun _ _ _ h=>by obtain ⟨_,_,_,_,_,_,h,_⟩:=h;cases h)
      try simp only [Act.put,pa,pb,pc]
      have zbs:Hid (w.heap.size+5≤Va.heap.size):=(show w.heap.size+5≤Va.heap.size by omega)
      replace EC:Blk w3.heap.size _ _:=EC
      replace zz:w.heap.size+5≤w3.heap.size:=zz
      replace zVa:Va.heap.size=w3.heap.size+1:=zVa
      obtain ⟨nb,hnb⟩:∃ n,w3.heap.size=n:=⟨_,rfl⟩
      try rw [hnb] at EC
      try simp only [hnb]
      have zn:w.heap.size+5≤nb:=by omega
      have nP:∀ k,(Value.slice ua (rtP ev (pkV x0)).length uc).ownBlock=some k→k≠nb:=fun k h=>by have:=kP k h;omega
      have nV:∀ k,(Value.slice vb (rtV ev (pkV x0)).length vd).ownBlock=some k→k≠nb:=fun k h=>by have:=kV k h;omega
      replace oP:=own_sets nP [I (rtN ev (pkV x0) 0),I (rtN ev (pkV x0) 1),I (rtN ev (pkV x0) 2),I (rtN ev (pkV x0) 3),I (rtN ev (pkV x0) 4),I (rtN ev (pkV x0) 5),.slice ua (rtP ev (pkV x0)).length uc,.slice vb (rtV ev (pkV x0)).length vd] 0 _ oP
      replace oV:=own_sets nV [I (rtN ev (pkV x0) 0),I (rtN ev (pkV x0) 1),I (rtN ev (pkV x0) 2),I (rtN ev (pkV x0) 3),I (rtN ev (pkV x0) 4),I (rtN ev (pkV x0) 5),.slice ua (rtP ev (pkV x0)).length uc,.slice vb (rtV ev (pkV x0)).length vd] 0 _ oV
      have N_:Blk nb [I (rtN ev (pkV x0) 0),I (rtN ev (pkV x0) 1),I (rtN ev (pkV x0) 2),I (rtN ev (pkV x0) 3),I (rtN ev (pkV x0) 4),I (rtN ev (pkV x0) 5),.slice ua (rtP ev (pkV x0)).length uc,.slice vb (rtV ev (pkV x0)).length vd] ((w7).setCells nb 0 [I (rtN ev (pkV x0) 0),I (rtN ev (pkV x0) 1),I (rtN ev (pkV x0) 2),I (rtN ev (pkV x0) 3),I (rtN ev (pkV x0) 4),I (rtN ev (pkV x0) 5),.slice ua (rtP ev (pkV x0)).length uc,.slice vb (rtV ev (pkV x0)).length vd]):=EC.part 0 [I (rtN ev (pkV x0) 0),I (rtN ev (pkV x0) 1),I (rtN ev (pkV x0) 2),I (rtN ev (pkV x0) 3),I (rtN ev (pkV x0) 4),I (rtN ev (pkV x0) 5),.slice ua (rtP ev (pkV x0)).length uc,.slice vb (rtV ev (pkV x0)).length vd] _ (by simp) rfl
      have TC_:=Blk.farS (q:=nb) (by omega) [I (rtN ev (pkV x0) 0),I (rtN ev (pkV x0) 1),I (rtN ev (pkV x0) 2),I (rtN ev (pkV x0) 3),I (rtN ev (pkV x0) 4),I (rtN ev (pkV x0) 5),.slice ua (rtP ev (pkV x0)).length uc,.slice vb (rtV ev (pkV x0)).length vd] 0 _ TC
      have QC_:=Blk.farS (q:=nb) (by omega) [I (rtN ev (pkV x0) 0),I (rtN ev (pkV x0) 1),I (rtN ev (pkV x0) 2),I (rtN ev (pkV x0) 3),I (rtN ev (pkV x0) 4),I (rtN ev (pkV x0) 5),.slice ua (rtP ev (pkV x0)).length uc,.slice vb (rtV ev (pkV x0)).length vd] 0 _ QC
      have KC_:=Blk.farS (q:=nb) (by omega) [I (rtN ev (pkV x0) 0),I (rtN ev (pkV x0) 1),I (rtN ev (pkV x0) 2),I (rtN ev (pkV x0) 3),I (rtN ev (pkV x0) 4),I (rtN ev (pkV x0) 5),.slice ua (rtP ev (pkV x0)).length uc,.slice vb (rtV ev (pkV x0)).length vd] 0 _ KC
      have RC_:=Blk.farS (q:=nb) (by omega) [I (rtN ev (pkV x0) 0),I (rtN ev (pkV x0) 1),I (rtN ev (pkV x0) 2),I (rtN ev (pkV x0) 3),I (rtN ev (pkV x0) 4),I (rtN ev (pkV x0) 5),.slice ua (rtP ev (pkV x0)).length uc,.slice vb (rtV ev (pkV x0)).length vd] 0 _ RC
      have UC_:=Blk.farS (q:=nb) (by omega) [I (rtN ev (pkV x0) 0),I (rtN ev (pkV x0) 1),I (rtN ev (pkV x0) 2),I (rtN ev (pkV x0) 3),I (rtN ev (pkV x0) 4),I (rtN ev (pkV x0) 5),.slice ua (rtP ev (pkV x0)).length uc,.slice vb (rtV ev (pkV x0)).length vd] 0 _ UC
      have BC_:=below_sets (m:=w.heap.size) (g:=nb) (by omega) [I (rtN ev (pkV x0) 0),I (rtN ev (pkV x0) 1),I (rtN ev (pkV x0) 2),I (rtN ev (pkV x0) 3),I (rtN ev (pkV x0) 4),I (rtN ev (pkV x0) 5),.slice ua (rtP ev (pkV x0)).length uc,.slice vb (rtV ev (pkV x0)).length vd] 0 _ BC
      refine wpAnyH_ready (rs:=[10]) (by kernel_rfl) (by simp) ?_
      refine AllReadyH.cons (i:=10) rfl (fun K hK=>?_) AllReadyH.nil
      refine stepB2 43 _ _ (nb) 0 _ [I (rtN ev (pkV x0) 0),I (rtN ev (pkV x0) 1),I (rtN ev (pkV x0) 2),I (rtN ev (pkV x0) 3),I (rtN ev (pkV x0) 4),I (rtN ev (pkV x0) 5),.slice ua (rtP ev (pkV x0)).length uc,.slice vb (rtV ev (pkV x0)).length vd] it hit EC (by rw [htz];rfl) (by simp) rfl rfl rfl rfl rfl rfl ?_
      obtain ⟨VE,hVE⟩:∃ Wz,(w7).setCells (nb) 0 [I (rtN ev (pkV x0) 0),I (rtN ev (pkV x0) 1),I (rtN ev (pkV x0) 2),I (rtN ev (pkV x0) 3),I (rtN ev (pkV x0) 4),I (rtN ev (pkV x0) 5),.slice ua (rtP ev (pkV x0)).length uc,.slice vb (rtV ev (pkV x0)).length vd]=Wz:=⟨_,rfl⟩
      rw [hVE] at oP oV N_ BC_ TC_ QC_ KC_ RC_ UC_ ⊢
      clear hVE EC BC TC QC KC RC UC
      have EC:=N_
      have BC:=BC_
      have TC:=TC_
      have QC:=QC_
      have KC:=KC_
      have RC:=RC_
      have UC:=UC_
      clear N_ BC_ TC_ QC_ KC_ RC_ UC_
      refine hK.out _ _ ⟨QC,KC⟩ (fun hJ=>?_)
      clear hK K hH
      have hH:=hJ
      clear hJ
      try simp only [Act.put,pa,pb,pc]
      refine tK 11 13 rfl _ hH (by intro w' h;have f5:=h.1.at 5 rfl;have e0:=h.2.at 0 rfl;go_simp;try with_reducible rfl) ?_ (hQ:=fun _ _ _ h=>by obtain ⟨_,_,_,_,_,_,h,_⟩:=h;cases h)
      try simp only [Act.put,pa,pb,pc]
      refine wpAnyH_done (by kernel_rfl) ?_ _
      exact ⟨nb,Va.heap.size,ua,uc,vb,vd,rfl,rfl,TC,QC,KC,RC,UC,EC,oP,oV,hA,nP,nV,zbs,zn,BC⟩
    case imp4 =>
     clear TC QC KC RC UC BC Z0
     rintro ex a' w4 ⟨nb,bs,ua,uc,vb,vd,rfl,rfl,TC,QC,KC,RC,UC,EC,oP,oV,hA,nP,nV,zbs,zn,BC⟩
     by_cases hk:rtK ev (pkV x0)=true
     ·rw [hk]
      have q18_:=EC.at 1 rfl
      by_cases h1:rtN ev (pkV x0) 1=x0 - 3
      ·rw [if_pos ⟨hk,h1⟩] at HC
       have q19_:=TC.at 6 rfl
       have q20_:=EC.at 5 rfl
       by_cases h5:rtN ev (pkV x0) 5 < now
       ·rw [if_pos h5] at HC
        have HR:=HC
        go_wp2_with fail
        refine (refuse_is 4 _).mono ?_
        rintro en wf ⟨rfl,hb⟩
        replace TC:=TC.later hb TC.lt
        replace QC:=QC.later hb QC.lt
        replace KC:=KC.later hb KC.lt
        replace RC:=RC.later hb RC.lt
        replace UC:=UC.later hb UC.lt
        replace EC:=EC.later hb EC.lt
        replace BC:=BC.trans (hb.mono BC.size)
        clear hb
        clear q18_ q19_ q20_
        have FU:=UC.sets [I 0,I 0,I 0,I 0,I 0,I 0,.slice none 0 0,.slice none 0 0,I 0,I 0,I 0,I 0,I 0,I 0,I 0,I 0,I 0,I 0,I 0,I 0,I 0,I 0] rfl
        have FB:=below_sets (m:=w.heap.size) (g:=(w.heap.size+1+1+1+1)) (by omega) [I 0,I 0,I 0,I 0,I 0,I 0,.slice none 0 0,.slice none 0 0,I 0,I 0,I 0,I 0,I 0,I 0,I 0,I 0,I 0,I 0,I 0,I 0,I 0,I 0] 0 _ BC
        go_wp2_with (refine wpList_stB 73 _ _ (w.heap.size+1+1+1+1) 0 _ [I 0,I 0,I 0,I 0,I 0,I 0,.slice none 0 0,.slice none 0 0,I 0,I 0,I 0,I 0,I 0,I 0,I 0,I 0,I 0,I 0,I 0,I 0,I 0,I 0] ie hie UC (by rw [hsz];rfl) (by simp) rfl rfl rfl rfl rfl ?_;try simp only [Act.put])
        exact bodyPost_ret (res_B2 rfl _ _ (w.heap.size+1+1+1+1) _ (refV 4) ie hie ag73 FU (by rw [hsz];rfl) rfl rfl) rfl ⟨by rw [HR.out];exact rfl,FB⟩
       ·rw [if_neg h5] at HC
        have q21_:=TC.at 3 rfl
        have q22_:=QC.at 0 rfl
        go_wp2_with fail
        refine (contains_is c.xa c.xc c.X (x0 - 3) target _ (C.later BC).hx K.lx).mono ?_
        rintro en w5 ⟨rfl,hb⟩
        have s5:=hb.size
        replace TC:=TC.later hb TC.lt
        replace QC:=QC.later hb QC.lt
        replace KC:=KC.later hb KC.lt
        replace RC:=RC.later hb RC.lt
        replace UC:=UC.later hb UC.lt
        replace EC:=EC.later hb EC.lt
        replace oP:=own_later oP hb
        replace oV:=own_later oV hb
        replace BC:=BC.trans (hb.mono BC.size)
        clear hb
        clear q18_ q19_ q20_ q21_ q22_
        clear s5 h1
        by_cases hm:(x0 - 3,target)∈c.X
        ·rw [decide_eq_true hm]
         have q23_:=EC.at 7 rfl
         by_cases hl:(rtV ev (pkV x0)).length=4
         ·rw [if_neg (fun h=>h.2 hl)] at HC
          have HR:=HC
          have hl2:((rtV ev (pkV x0)).length:Int)=4:=by omega
          go_wp2_with fail
          refine (refuse_is 6 _).mono ?_
          rintro en wf ⟨rfl,hb⟩
          replace TC:=TC.later hb TC.lt
          replace QC:=QC.later hb QC.lt
          replace KC:=KC.later hb KC.lt
          replace RC:=RC.later hb RC.lt
          replace UC:=UC.later hb UC.lt
          replace EC:=EC.later hb EC.lt
          replace BC:=BC.trans (hb.mono BC.size)
          clear hb
          clear q23_
          have FU:=UC.sets [I 0,I 0,I 0,I 0,I 0,I 0,.slice none 0 0,.slice none 0 0,I 0,I 0,I 0,I 0,I 0,I 0,I 0,I 0,I 0,I 0,I 0,I 0,I 0,I 0] rfl
          have FB:=below_sets (m:=w.heap.size) (g:=(w.heap.size+1+1+1+1)) (by omega) [I 0,I 0,I 0,I 0,I 0,I 0,.slice none 0 0,.slice none 0 0,I 0,I 0,I 0,I 0,I 0,I 0,I 0,I 0,I 0,I 0,I 0,I 0,I 0,I 0] 0 _ BC
          go_wp2_with (refine wpList_stB 73 _ _ (w.heap.size+1+1+1+1) 0 _ [I 0,I 0,I 0,I 0,I 0,I 0,.slice none 0 0,.slice none 0 0,I 0,I 0,I 0,I 0,I 0,I 0,I 0,I 0,I 0,I 0,I 0,I 0,I 0,I 0] ie hie UC (by rw [hsz];rfl) (by simp) rfl rfl rfl rfl rfl ?_;try simp only [Act.put])
          exact bodyPost_ret (res_B2 rfl _ _ (w.heap.size+1+1+1+1) _ (refV 6) ie hie ag73 FU (by rw [hsz];rfl) rfl rfl) rfl ⟨by rw [HR.out];exact rfl,FB⟩
         ·rw [if_pos ⟨hm,hl⟩] at HC
          have HR:=HC
          clear HC
          have hl2:¬ ((rtV ev (pkV x0)).length:Int)=4:=by omega
          go_wp2_with fail
          clear q23_
          clear hl2
          refine Code.wp_mono (Q:=(fun ex a' w'=>∃ (gb:Nat),ex=.normal∧a'=({ tmps:=#[cenV c realm now fresh,.agg #[I target,I nonce,.string tk,.string au,.string rs,.string ev],.agg #[I x0,I x1,I x2,I x3,I x4,I x5,.slice pa pl pc,.slice va vl vc],.agg #[I wa,I wb,I we],.pointer (some ⟨w.heap.size,0,none⟩),.pointer (some ⟨w.heap.size+1,0,none⟩),.pointer (some ⟨w.heap.size+1+1,0,none⟩),.pointer (some ⟨w.heap.size+1+1+1,0,none⟩),.pointer (some ⟨w.heap.size+1+1+1+1,0,none⟩),Value.nilIface,I (x0 - 3),I (target+3),.pointer (some ⟨nb,0,none⟩),.bool true,.pointer (some ⟨gb,0,none⟩),.pointer (some ⟨w.heap.size+1+1,0,none⟩),I x0,I (x0 - 3),.pointer (some ⟨w.heap.size+1,0,none⟩),I target,I (target+3),I (x0 - 3),.bool true,.bool false,.bool false,.agg #[.slice c.ua c.U.length c.uc,.slice c.sa c.S.length c.sc,.slice c.la c.L.length c.lc,.slice c.xa c.X.length c.xc,I c.k,I realm,I now,I fresh],.pointer (some ⟨w.heap.size+1+1,0,none⟩),I x0,.bool true,.bool false,.bool false,.bool false,.agg #[.slice c.ua c.U.length c.uc,.slice c.sa c.S.length c.sc,.slice c.la c.L.length c.lc,.slice c.xa c.X.length c.xc,I c.k,I realm,I now,I fresh],I (target+3),.bool true,.bool false,.bool false,undef,undef,undef,.tuple #[.agg #[I (rtN ev (pkV x0) 0),I (x0 - 3),I (rtN ev (pkV x0) 2),I (rtN ev (pkV x0) 3),I (rtN ev (pkV x0) 4),I (rtN ev (pkV x0) 5),.slice ua (rtP ev (pkV x0)).length uc,.slice vb (rtV ev (pkV x0)).length vd],.bool true],.pointer (some ⟨w.heap.size+1,5,none⟩),.string ev,.pointer (some ⟨w.heap.size+1+1,0,none⟩),I x0,I (pkV x0),.tuple #[.agg #[I (rtN ev (pkV x0) 0),I (x0 - 3),I (rtN ev (pkV x0) 2),I (rtN ev (pkV x0) 3),I (rtN ev (pkV x0) 4),I (rtN ev (pkV x0) 5),.slice ua (rtP ev (pkV x0)).length uc,.slice vb (rtV ev (pkV x0)).length vd],.bool true],.agg #[I (rtN ev (pkV x0) 0),I (x0 - 3),I (rtN ev (pkV x0) 2),I (rtN ev (pkV x0) 3),I (rtN ev (pkV x0) 4),I (rtN ev (pkV x0) 5),.slice ua (rtP ev (pkV x0)).length uc,.slice vb (rtV ev (pkV x0)).length vd],.bool true,.bool false,.bool true,.bool false,.bool false,.pointer (some ⟨nb,1,none⟩),I (x0 - 3),I (x0 - 3),.bool false,.bool false,undef,undef,undef,.bool false,.pointer (some ⟨w.heap.size,6,none⟩),I now,.pointer (some ⟨nb,3,none⟩),.pointer (some ⟨nb,5,none⟩),I (rtN ev (pkV x0) 5),.bool false,undef,undef,undef,.bool false,.pointer (some ⟨w.heap.size,0,none⟩),.pointer (some ⟨w.heap.size,3,none⟩),.slice c.xa c.X.length c.xc,I (x0 - 3),.pointer (some ⟨w.heap.size+1,0,none⟩),I target,.agg #[I (x0 - 3),I target],.bool true,.bool false,.bool false,.pointer (some ⟨nb,7,none⟩),.slice vb (rtV ev (pkV x0)).length vd,I ↑(rtV ev (pkV x0)).length,.bool false,.bool false,undef,undef,undef,.agg #[I (rtN ev (pkV x0) 0),I (rtN ev (pkV x0) 1),I (rtN ev (pkV x0) 2),I (rtN ev (pkV x0) 3),I (rtN ev (pkV x0) 4),I (rtN ev (pkV x0) 5),.slice ua (rtP ev (pkV x0)).length uc,.slice vb (rtV ev (pkV x0)).length vd],I (target+3),I (pkV (target+3)),.pointer (some ⟨w.heap.size+1+1,2,none⟩),I x2,.pointer (some ⟨w.heap.size+1,1,none⟩),I nonce,.pointer (some ⟨w.heap.size+1+1,0,none⟩),I x0,.pointer (some ⟨w.heap.size+1+1,2,none⟩),I x2,.pointer (some ⟨nb,2,none⟩),I (rtN ev (pkV x0) 2),.agg #[I 4,I 0,I x0,I 0,I 0,I 0,I x2,I (rtN ev (pkV x0) 2),I 0,I 0,I 0],.agg #[I (rtN ev (pkV x0) 0),I (rtN ev (pkV x0) 1),I (rtN ev (pkV x0) 2),I (rtN ev (pkV x0) 3),I (rtN ev (pkV x0) 4),I (rtN ev (pkV x0) 5),.slice ua (rtP ev (pkV x0)).length uc,.slice vb (rtV ev (pkV x0)).length vd,I (pkV (target+3)),I x2,I nonce,I 4,I 0,I x0,I 0,I 0,I 0,I x2,I (rtN ev (pkV x0) 2),I 0,I 0,I 0],undef,undef,undef,undef,undef,undef,undef,undef,undef,undef,undef,undef,undef,undef,undef,undef,undef,undef,undef,undef,undef,undef],defers:=[] })∧Blk w.heap.size [.slice c.ua c.U.length c.uc,.slice c.sa c.S.length c.sc,.slice c.la c.L.length c.lc,.slice c.xa c.X.length c.xc,I c.k,I realm,I now,I fresh] w'∧Blk (w.heap.size+1) [I target,I nonce,.string tk,.string au,.string rs,.string ev] w'∧Blk (w.heap.size+1+1+1) [I wa,I wb,I we] w'∧Blk (w.heap.size+1+1+1+1) [I 0,I 0,I 0,I 0,I 0,I 0,.slice none 0 0,.slice none 0 0,I 0,I 0,I 0,I 0,I 0,I 0,I 0,I 0,I 0,I 0,I 0,I 0,I 0,I 0] w'∧Blk nb [I (rtN ev (pkV x0) 0),I (rtN ev (pkV x0) 1),I (rtN ev (pkV x0) 2),I (rtN ev (pkV x0) 3),I (rtN ev (pkV x0) 4),I (rtN ev (pkV x0) 5),.slice ua (rtP ev (pkV x0)).length uc,.slice vb (rtV ev (pkV x0)).length vd] w'∧Blk gb [I (rtN ev (pkV x0) 0),I (rtN ev (pkV x0) 1),I (rtN ev (pkV x0) 2),I (rtN ev (pkV x0) 3),I (rtN ev (pkV x0) 4),I (rtN ev (pkV x0) 5),.slice ua (rtP ev (pkV x0)).length uc,.slice vb (rtV ev (pkV x0)).length vd,I (pkV (target+3)),I x2,I nonce,I 4,I 0,I x0,I 0,I 0,I 0,I x2,I (rtN ev (pkV x0) 2),I 0,I 0,I 0] w'∧w'.ownsRow bs 3 1 (.slice ua (rtP ev (pkV x0)).length uc) (rtP ev (pkV x0)).length (intV (rtP ev (pkV x0)))∧w'.ownsRow bs 3 1 (.slice vb (rtV ev (pkV x0)).length vd) (rtV ev (pkV x0)).length (intV (rtV ev (pkV x0)))∧(∀ k,(Value.slice ua (rtP ev (pkV x0)).length uc).ownBlock=some k→k≠gb)∧(∀ k,(Value.slice vb (rtV ev (pkV x0)).length vd).ownBlock=some k→k≠gb)∧Hid (w.heap.size+5≤gb)∧Hid (nb≠gb)∧Below w.heap.size w w')) ?imp11 ?reg11
          case reg11 =>
           replace TC:=TC.drew
           replace QC:=QC.drew
           replace KC:=KC.drew
           replace RC:=RC.drew
           replace UC:=UC.drew
           replace EC:=EC.drew
           replace BC:=BC.drew
           replace oP:=(show World.ownsRow (World.drew w5) bs 3 1 _ _ _ from oP)
           replace oV:=(show World.ownsRow (World.drew w5) bs 3 1 _ _ _ from oV)
           refine wp_region_held_drew (S:=(fun Vw=>Blk nb [I (rtN ev (pkV x0) 0),I (rtN ev (pkV x0) 1),I (rtN ev (pkV x0) 2),I (rtN ev (pkV x0) 3),I (rtN ev (pkV x0) 4),I (rtN ev (pkV x0) 5),.slice ua (rtP ev (pkV x0)).length uc,.slice vb (rtV ev (pkV x0)).length vd] Vw∧Blk (w.heap.size+1+1) [I x0,I x1,I x2,I x3,I x4,I x5,.slice pa pl pc,.slice va vl vc] Vw∧Blk (w.heap.size+1) [I target,I nonce,.string tk,.string au,.string rs,.string ev] Vw)) (by kernel_rfl) ⟨EC,KC,QC⟩ (fun hH=>?_)
           refine tK 0 90 rfl _ hH (by intro w' h;have a0:=h.1.e8;have b0:=h.2.1.at 0 rfl;have b2:=h.2.1.at 2 rfl;have c1:=h.2.2.at 1 rfl;go_simp;try with_reducible rfl) ?_ (hQ:=fun _ _ _ h=>by obtain ⟨_,h,_⟩:=h;cases h)
           try simp only [Act.put,pa,pb,pc]
           refine tK 1 91 rfl _ hH (by intro w' h;have a0:=h.1.e8;have b0:=h.2.1.at 0 rfl;have b2:=h.2.1.at 2 rfl;have c1:=h.2.2.at 1 rfl;go_simp;try with_reducible rfl) ?_ (hQ:=fun _ _ _ h=>by obtain ⟨_,h,_⟩:=h;cases h)
           try simp only [Act.put,pa,pb,pc]
           refine tK 3 93 rfl _ hH (by intro w' h;have a0:=h.1.e8;have b0:=h.2.1.at 0 rfl;have b2:=h.2.1.at 2 rfl;have c1:=h.2.2.at 1 rfl;go_simp;try with_reducible rfl) ?_ (hQ:=fun _ _ _ h=>by obtain ⟨_,h,_⟩:=h;cases h)
           try simp only [Act.put,pa,pb,pc]
           refine tK 4 94 rfl _ hH (by intro w' h;have a0:=h.1.e8;have b0:=h.2.1.at 0 rfl;have b2:=h.2.1.at 2 rfl;have c1:=h.2.2.at 1 rfl;go_simp;try with_reducible rfl) ?_ (hQ:=fun _ _ _ h=>by obtain ⟨_,h,_⟩:=h;cases h)
           try simp only [Act.put,pa,pb,pc]
           refine tK 5 95 rfl _ hH (by intro w' h;have a0:=h.1.e8;have b0:=h.2.1.at 0 rfl;have b2:=h.2.1.at 2 rfl;have c1:=h.2.2.at 1 rfl;go_simp;try with_reducible rfl) ?_ (hQ:=fun _ _ _ h=>by obtain ⟨_,h,_⟩:=h;cases h)
           try simp only [Act.put,pa,pb,pc]
           refine tK 6 96 rfl _ hH (by intro w' h;have a0:=h.1.e8;have b0:=h.2.1.at 0 rfl;have b2:=h.2.1.at 2 rfl;have c1:=h.2.2.at 1 rfl;go_simp;try with_reducible rfl) ?_ (hQ:=fun _ _ _ h=>by obtain ⟨_,h,_⟩:=h;cases h)
           try simp only [Act.put,pa,pb,pc]
           refine tK 7 97 rfl _ hH (by intro w' h;have a0:=h.1.e8;have b0:=h.2.1.at 0 rfl;have b2:=h.2.1.at 2 rfl;have c1:=h.2.2.at 1 rfl;go_simp;try with_reducible rfl) ?_ (hQ:=fun _ _ _ h=>by obtain ⟨_,h,_⟩:=h;cases h)
           try simp only [Act.put,pa,pb,pc]
           refine tK 8 98 rfl _ hH (by intro w' h;have a0:=h.1.e8;have b0:=h.2.1.at 0 rfl;have b2:=h.2.1.at 2 rfl;have c1:=h.2.2.at 1 rfl;go_simp;try with_reducible rfl) ?_ (hQ:=fun _ _ _ h=>by obtain ⟨_,h,_⟩:=h;cases h)
           try simp only [Act.put,pa,pb,pc]
           refine tK 9 99 rfl _ hH (by intro w' h;have a0:=h.1.e8;have b0:=h.2.1.at 0 rfl;have b2:=h.2.1.at 2 rfl;have c1:=h.2.2.at 1 rfl;go_simp;try with_reducible rfl) ?_ (hQ:=fun _ _ _ h=>by obtain ⟨_,h,_⟩:=h;cases h)
           try simp only [Act.put,pa,pb,pc]
           refine tK 10 100 rfl _ hH (by intro w' h;have a0:=h.1.e8;have b0:=h.2.1.at 0 rfl;have b2:=h.2.1.at 2 rfl;have c1:=h.2.2.at 1 rfl;go_simp;try with_reducible rfl) ?_ (hQ:=fun _ _ _ h=>by obtain ⟨_,h,_⟩:=h;cases h)
           try simp only [Act.put,pa,pb,pc]
           refine tK 11 101 rfl _ hH (by intro w' h;have a0:=h.1.e8;have b0:=h.2.1.at 0 rfl;have b2:=h.2.1.at 2 rfl;have c1:=h.2.2.at 1 rfl;go_simp;try with_reducible rfl) ?_ (hQ:=fun _ _ _ h=>by obtain ⟨_,h,_⟩:=h;cases h)
           try simp only [Act.put,pa,pb,pc]
           refine tK 12 102 rfl _ hH (by intro w' h;have a0:=h.1.e8;have b0:=h.2.1.at 0 rfl;have b2:=h.2.1.at 2 rfl;have c1:=h.2.2.at 1 rfl;go_simp;try with_reducible rfl) ?_ (hQ:=fun _ _ _ h=>by obtain ⟨_,h,_⟩:=h;cases h)
           try simp only [Act.put,pa,pb,pc]
           refine tK 13 103 rfl _ hH (by intro w' h;have a0:=h.1.e8;have b0:=h.2.1.at 0 rfl;have b2:=h.2.1.at 2 rfl;have c1:=h.2.2.at 1 rfl;go_simp;try with_reducible rfl) ?_ (hQ:=fun _ _ _ h=>by obtain ⟨_,h,_⟩:=h;cases h)
           try simp only [Act.put,pa,pb,pc]
           refine wpAnyH_ready (rs:=[2,15]) (by kernel_rfl) (by simp) ?_
           refine AllReadyH.cons (i:=2) rfl (fun K hK=>?_) (AllReadyH.cons (i:=15) rfl (fun K hK=>?_) AllReadyH.nil)
           ·go_simp
            refine (implPK_is (target+3) _).mono ?_
            rintro en w_ ⟨rfl,rfl⟩
            go_wp2_with fail
            refine hK.out _ _ ⟨EC,KC,QC⟩ (fun hJ=>?_)
            clear hK K hH
            have hH:=hJ
            clear hJ
            try simp only [Act.put,pa,pb,pc]
            refine tK 14 104 rfl _ hH (by intro w' h;have a0:=h.1.e8;have b0:=h.2.1.at 0 rfl;have b2:=h.2.1.at 2 rfl;have c1:=h.2.2.at 1 rfl;go_simp;try with_reducible rfl) ?_ (hQ:=fun _ _ _ h=>by obtain ⟨_,h,_⟩:=h;cases h)
            try simp only [Act.put,pa,pb,pc]
            refine wpAnyH_ready (rs:=[15]) (by kernel_rfl) (by simp) ?_
            refine AllReadyH.cons (i:=15) rfl (fun K hK=>?_) AllReadyH.nil
            have kP:=own_in oP
            have kV:=own_in oV
            obtain ⟨Va,hVa⟩:∃ Wz,(w5.drew).alloc (.cells #[I 0,I 0,I 0,I 0,I 0,I 0,.slice none 0 0,.slice none 0 0,I 0,I 0,I 0,I 0,I 0,I 0,I 0,I 0,I 0,I 0,I 0,I 0,I 0,I 0] 73)=Wz:=⟨_,rfl⟩
            have XA:Below (w5.drew).heap.size (w5.drew) Va:=by rw [← hVa];exact (Below.refl _ _).alloc (Nat.le_refl _) _
            have GC:Blk (w5.drew).heap.size [I 0,I 0,I 0,I 0,I 0,I 0,.slice none 0 0,.slice none 0 0,I 0,I 0,I 0,I 0,I 0,I 0,I 0,I 0,I 0,I 0,I 0,I 0,I 0,I 0] Va:=by rw [← hVa];exact Blk.new _ _ _
            have zEC:=EC.lt
            have zUC:=UC.lt
            replace TC:=TC.later XA TC.lt
            replace QC:=QC.later XA QC.lt
            replace KC:=KC.later XA KC.lt
            replace RC:=RC.later XA RC.lt
            replace UC:=UC.later XA UC.lt
            replace EC:=EC.later XA EC.lt
            replace oP:=own_later oP XA
            replace oV:=own_later oV XA
            replace BC:=BC.trans (XA.mono BC.size)
            clear XA
            go_simp
            try rw [hVa]
            refine hK.out _ _ (by (try rw [hVa]);exact ⟨EC,KC,QC⟩) (fun hJ=>?_)
            clear hK K hH
            have hH:=hJ
            clear hJ
            try simp only [Act.put,pa,pb,pc]
            try rw [hVa]
            clear hVa
            replace GC:Blk w5.heap.size _ _:=GC
            replace zEC:nb < w5.heap.size:=zEC
            replace zUC:(w.heap.size+1+1+1+1) < w5.heap.size:=zUC
            obtain ⟨gb,hgb⟩:∃ n,w5.heap.size=n:=⟨_,rfl⟩
            rw [hgb] at GC zEC zUC
            try simp only [hgb]
            have nPg:∀ k,(Value.slice ua (rtP ev (pkV x0)).length uc).ownBlock=some k→k≠gb:=fun k h=>by have:=(kP k h).2;have e_:k < w5.heap.size:=this;omega
            have nVg:∀ k,(Value.slice vb (rtV ev (pkV x0)).length vd).ownBlock=some k→k≠gb:=fun k h=>by have:=(kV k h).2;have e_:k < w5.heap.size:=this;omega
            have zg:w.heap.size+5≤gb:=by omega
            clear kP kV hgb zUC
            have N_:Blk gb [I (rtN ev (pkV x0) 0),I (rtN ev (pkV x0) 1),I (rtN ev (pkV x0) 2),I (rtN ev (pkV x0) 3),I (rtN ev (pkV x0) 4),I (rtN ev (pkV x0) 5),.slice ua (rtP ev (pkV x0)).length uc,.slice vb (rtV ev (pkV x0)).length vd,I (pkV (target+3)),I x2,I nonce,I 4,I 0,I x0,I 0,I 0,I 0,I x2,I (rtN ev (pkV x0) 2),I 0,I 0,I 0] ((Va).setCells gb 0 [I (rtN ev (pkV x0) 0),I (rtN ev (pkV x0) 1),I (rtN ev (pkV x0) 2),I (rtN ev (pkV x0) 3),I (rtN ev (pkV x0) 4),I (rtN ev (pkV x0) 5),.slice ua (rtP ev (pkV x0)).length uc,.slice vb (rtV ev (pkV x0)).length vd,I (pkV (target+3)),I x2,I nonce,I 4,I 0,I x0,I 0,I 0,I 0,I x2,I (rtN ev (pkV x0) 2),I 0,I 0,I 0]):=GC.part 0 [I (rtN ev (pkV x0) 0),I (rtN ev (pkV x0) 1),I (rtN ev (pkV x0) 2),I (rtN ev (pkV x0) 3),I (rtN ev (pkV x0) 4),I (rtN ev (pkV x0) 5),.slice ua (rtP ev (pkV x0)).length uc,.slice vb (rtV ev (pkV x0)).length vd,I (pkV (target+3)),I x2,I nonce,I 4,I 0,I x0,I 0,I 0,I 0,I x2,I (rtN ev (pkV x0) 2),I 0,I 0,I 0] _ (by simp) rfl
            have TC_:=Blk.farS (q:=gb) (by omega) [I (rtN ev (pkV x0) 0),I (rtN ev (pkV x0) 1),I (rtN ev (pkV x0) 2),I (rtN ev (pkV x0) 3),I (rtN ev (pkV x0) 4),I (rtN ev (pkV x0) 5),.slice ua (rtP ev (pkV x0)).length uc,.slice vb (rtV ev (pkV x0)).length vd,I (pkV (target+3)),I x2,I nonce,I 4,I 0,I x0,I 0,I 0,I 0,I x2,I (rtN ev (pkV x0) 2),I 0,I 0,I 0] 0 _ TC
            have QC_:=Blk.farS (q:=gb) (by omega) [I (rtN ev (pkV x0) 0),I (rtN ev (pkV x0) 1),I (rtN ev (pkV x0) 2),I (rtN ev (pkV x0) 3),I (rtN ev (pkV x0) 4),I (rtN ev (pkV x0) 5),.slice ua (rtP ev (pkV x0)).length uc,.slice vb (rtV ev (pkV x0)).length vd,I (pkV (target+3)),I x2,I nonce,I 4,I 0,I x0,I 0,I 0,I 0,I x2,I (rtN ev (pkV x0) 2),I 0,I 0,I 0] 0 _ QC
            have KC_:=Blk.farS (q:=gb) (by omega) [I (rtN ev (pkV x0) 0),I (rtN ev (pkV x0) 1),I (rtN ev (pkV x0) 2),I (rtN ev (pkV x0) 3),I (rtN ev (pkV x0) 4),I (rtN ev (pkV x0) 5),.slice ua (rtP ev (pkV x0)).length uc,.slice vb (rtV ev (pkV x0)).length vd,I (pkV (target+3)),I x2,I nonce,I 4,I 0,I x0,I 0,I 0,I 0,I x2,I (rtN ev (pkV x0) 2),I 0,I 0,I 0] 0 _ KC
            have RC_:=Blk.farS (q:=gb) (by omega) [I (rtN ev (pkV x0) 0),I (rtN ev (pkV x0) 1),I (rtN ev (pkV x0) 2),I (rtN ev (pkV x0) 3),I (rtN ev (pkV x0) 4),I (rtN ev (pkV x0) 5),.slice ua (rtP ev (pkV x0)).length uc,.slice vb (rtV ev (pkV x0)).length vd,I (pkV (target+3)),I x2,I nonce,I 4,I 0,I x0,I 0,I 0,I 0,I x2,I (rtN ev (pkV x0) 2),I 0,I 0,I 0] 0 _ RC
            have UC_:=Blk.farS (q:=gb) (by omega) [I (rtN ev (pkV x0) 0),I (rtN ev (pkV x0) 1),I (rtN ev (pkV x0) 2),I (rtN ev (pkV x0) 3),I (rtN ev (pkV x0) 4),I (rtN ev (pkV x0) 5),.slice ua (rtP ev (pkV x0)).length uc,.slice vb (rtV ev (pkV x0)).length vd,I (pkV (target+3)),I x2,I nonce,I 4,I 0,I x0,I 0,I 0,I 0,I x2,I (rtN ev (pkV x0) 2),I 0,I 0,I 0] 0 _ UC
            have EC_:=Blk.farS (q:=gb) (by omega) [I (rtN ev (pkV x0) 0),I (rtN ev (pkV x0) 1),I (rtN ev (pkV x0) 2),I (rtN ev (pkV x0) 3),I (rtN ev (pkV x0) 4),I (rtN ev (pkV x0) 5),.slice ua (rtP ev (pkV x0)).length uc,.slice vb (rtV ev (pkV x0)).length vd,I (pkV (target+3)),I x2,I nonce,I 4,I 0,I x0,I 0,I 0,I 0,I x2,I (rtN ev (pkV x0) 2),I 0,I 0,I 0] 0 _ EC
            have BC_:=below_sets (m:=w.heap.size) (g:=gb) (by omega) [I (rtN ev (pkV x0) 0),I (rtN ev (pkV x0) 1),I (rtN ev (pkV x0) 2),I (rtN ev (pkV x0) 3),I (rtN ev (pkV x0) 4),I (rtN ev (pkV x0) 5),.slice ua (rtP ev (pkV x0)).length uc,.slice vb (rtV ev (pkV x0)).length vd,I (pkV (target+3)),I x2,I nonce,I 4,I 0,I x0,I 0,I 0,I 0,I x2,I (rtN ev (pkV x0) 2),I 0,I 0,I 0] 0 _ BC
            replace oP:=own_sets nPg [I (rtN ev (pkV x0) 0),I (rtN ev (pkV x0) 1),I (rtN ev (pkV x0) 2),I (rtN ev (pkV x0) 3),I (rtN ev (pkV x0) 4),I (rtN ev (pkV x0) 5),.slice ua (rtP ev (pkV x0)).length uc,.slice vb (rtV ev (pkV x0)).length vd,I (pkV (target+3)),I x2,I nonce,I 4,I 0,I x0,I 0,I 0,I 0,I x2,I (rtN ev (pkV x0) 2),I 0,I 0,I 0] 0 _ oP
            replace oV:=own_sets nVg [I (rtN ev (pkV x0) 0),I (rtN ev (pkV x0) 1),I (rtN ev (pkV x0) 2),I (rtN ev (pkV x0) 3),I (rtN ev (pkV x0) 4),I (rtN ev (pkV x0) 5),.slice ua (rtP ev (pkV x0)).length uc,.slice vb (rtV ev (pkV x0)).length vd,I (pkV (target+3)),I x2,I nonce,I 4,I 0,I x0,I 0,I 0,I 0,I x2,I (rtN ev (pkV x0) 2),I 0,I 0,I 0] 0 _ oV
            refine wpAnyH_ready (rs:=[16]) (by kernel_rfl) (by simp) ?_
            refine AllReadyH.cons (i:=16) rfl (fun K hK=>?_) AllReadyH.nil
            refine stepB2 73 _ _ (gb) 0 _ [I (rtN ev (pkV x0) 0),I (rtN ev (pkV x0) 1),I (rtN ev (pkV x0) 2),I (rtN ev (pkV x0) 3),I (rtN ev (pkV x0) 4),I (rtN ev (pkV x0) 5),.slice ua (rtP ev (pkV x0)).length uc,.slice vb (rtV ev (pkV x0)).length vd,I (pkV (target+3)),I x2,I nonce,I 4,I 0,I x0,I 0,I 0,I 0,I x2,I (rtN ev (pkV x0) 2),I 0,I 0,I 0] ie hie GC (by rw [hsz];rfl) (by simp) rfl rfl rfl rfl rfl rfl ?_
            obtain ⟨VG,hVG⟩:∃ Wz,(Va).setCells (gb) 0 [I (rtN ev (pkV x0) 0),I (rtN ev (pkV x0) 1),I (rtN ev (pkV x0) 2),I (rtN ev (pkV x0) 3),I (rtN ev (pkV x0) 4),I (rtN ev (pkV x0) 5),.slice ua (rtP ev (pkV x0)).length uc,.slice vb (rtV ev (pkV x0)).length vd,I (pkV (target+3)),I x2,I nonce,I 4,I 0,I x0,I 0,I 0,I 0,I x2,I (rtN ev (pkV x0) 2),I 0,I 0,I 0]=Wz:=⟨_,rfl⟩
            rw [hVG] at N_ BC_ TC_ QC_ KC_ RC_ UC_ EC_ oP oV ⊢
            clear hVG GC BC TC QC KC RC UC EC
            have GC:=N_
            have BC:=BC_
            have TC:=TC_
            have QC:=QC_
            have KC:=KC_
            have RC:=RC_
            have UC:=UC_
            have EC:=EC_
            clear N_ BC_ TC_ QC_ KC_ RC_ UC_ EC_
            refine hK.out _ _ ⟨EC,KC,QC⟩ (fun hJ=>?_)
            clear hK K hH
            have hH:=hJ
            clear hJ
            try simp only [Act.put,pa,pb,pc]
            refine wpAnyH_done (by kernel_rfl) ?_ _
            exact ⟨gb,rfl,rfl,TC,QC,RC,UC,EC,GC,oP,oV,nPg,nVg,zg,Nat.ne_of_lt zEC,BC⟩
           ·have kP:=own_in oP
            have kV:=own_in oV
            obtain ⟨Va,hVa⟩:∃ Wz,(w5.drew).alloc (.cells #[I 0,I 0,I 0,I 0,I 0,I 0,.slice none 0 0,.slice none 0 0,I 0,I 0,I 0,I 0,I 0,I 0,I 0,I 0,I 0,I 0,I 0,I 0,I 0,I 0] 73)=Wz:=⟨_,rfl⟩
            have XA:Below (w5.drew).heap.size (w5.drew) Va:=by rw [← hVa];exact (Below.refl _ _).alloc (Nat.le_refl _) _
            have GC:Blk (w5.drew).heap.size [I 0,I 0,I 0,I 0,I 0,I 0,.slice none 0 0,.slice none 0 0,I 0,I 0,I 0,I 0,I 0,I 0,I 0,I 0,I 0,I 0,I 0,I 0,I 0,I 0] Va:=by rw [← hVa];exact Blk.new _ _ _
            have zEC:=EC.lt
            have zUC:=UC.lt
            replace TC:=TC.later XA TC.lt
            replace QC:=QC.later XA QC.lt
            replace KC:=KC.later XA KC.lt
            replace RC:=RC.later XA RC.lt
            replace UC:=UC.later XA UC.lt
            replace EC:=EC.later XA EC.lt
            replace oP:=own_later oP XA
            replace oV:=own_later oV XA
            replace BC:=BC.trans (XA.mono BC.size)
            clear XA
            go_simp
            try rw [hVa]
            refine hK.out _ _ (by (try rw [hVa]);exact ⟨EC,KC,QC⟩) (fun hJ=>?_)
            clear hK K hH
            have hH:=hJ
            clear hJ
            try simp only [Act.put,pa,pb,pc]
            try rw [hVa]
            clear hVa
            replace GC:Blk w5.heap.size _ _:=GC
            replace zEC:nb < w5.heap.size:=zEC
            replace zUC:(w.heap.size+1+1+1+1) < w5.heap.size:=zUC
            obtain ⟨gb,hgb⟩:∃ n,w5.heap.size=n:=⟨_,rfl⟩
            rw [hgb] at GC zEC zUC
            try simp only [hgb]
            have nPg:∀ k,(Value.slice ua (rtP ev (pkV x0)).length uc).ownBlock=some k→k≠gb:=fun k h=>by have:=(kP k h).2;have e_:k < w5.heap.size:=this;omega
            have nVg:∀ k,(Value.slice vb (rtV ev (pkV x0)).length vd).ownBlock=some k→k≠gb:=fun k h=>by have:=(kV k h).2;have e_:k < w5.heap.size:=this;omega
            have zg:w.heap.size+5≤gb:=by omega
            clear kP kV hgb zUC
            refine wpAnyH_ready (rs:=[2]) (by kernel_rfl) (by simp) ?_
            refine AllReadyH.cons (i:=2) rfl (fun K hK=>?_) AllReadyH.nil
            go_simp
            refine (implPK_is (target+3) _).mono ?_
            rintro en w_ ⟨rfl,rfl⟩
            go_wp2_with fail
            refine hK.out _ _ ⟨EC,KC,QC⟩ (fun hJ=>?_)
            clear hK K hH
            have hH:=hJ
            clear hJ
            try simp only [Act.put,pa,pb,pc]
            refine tK 14 104 rfl _ hH (by intro w' h;have a0:=h.1.e8;have b0:=h.2.1.at 0 rfl;have b2:=h.2.1.at 2 rfl;have c1:=h.2.2.at 1 rfl;go_simp;try with_reducible rfl) ?_ (hQ:=fun _ _ _ h=>by obtain ⟨_,h,_⟩:=h;cases h)
            try simp only [Act.put,pa,pb,pc]
            have N_:Blk gb [I (rtN ev (pkV x0) 0),I (rtN ev (pkV x0) 1),I (rtN ev (pkV x0) 2),I (rtN ev (pkV x0) 3),I (rtN ev (pkV x0) 4),I (rtN ev (pkV x0) 5),.slice ua (rtP ev (pkV x0)).length uc,.slice vb (rtV ev (pkV x0)).length vd,I (pkV (target+3)),I x2,I nonce,I 4,I 0,I x0,I 0,I 0,I 0,I x2,I (rtN ev (pkV x0) 2),I 0,I 0,I 0] ((Va).setCells gb 0 [I (rtN ev (pkV x0) 0),I (rtN ev (pkV x0) 1),I (rtN ev (pkV x0) 2),I (rtN ev (pkV x0) 3),I (rtN ev (pkV x0) 4),I (rtN ev (pkV x0) 5),.slice ua (rtP ev (pkV x0)).length uc,.slice vb (rtV ev (pkV x0)).length vd,I (pkV (target+3)),I x2,I nonce,I 4,I 0,I x0,I 0,I 0,I 0,I x2,I (rtN ev (pkV x0) 2),I 0,I 0,I 0]):=GC.part 0 [I (rtN ev (pkV x0) 0),I (rtN ev (pkV x0) 1),I (rtN ev (pkV x0) 2),I (rtN ev (pkV x0) 3),I (rtN ev (pkV x0) 4),I (rtN ev (pkV x0) 5),.slice ua (rtP ev (pkV x0)).length uc,.slice vb (rtV ev (pkV x0)).length vd,I (pkV (target+3)),I x2,I nonce,I 4,I 0,I x0,I 0,I 0,I 0,I x2,I (rtN ev (pkV x0) 2),I 0,I 0,I 0] _ (by simp) rfl
            have TC_:=Blk.farS (q:=gb) (by omega) [I (rtN ev (pkV x0) 0),I (rtN ev (pkV x0) 1),I (rtN ev (pkV x0) 2),I (rtN ev (pkV x0) 3),I (rtN ev (pkV x0) 4),I (rtN ev (pkV x0) 5),.slice ua (rtP ev (pkV x0)).length uc,.slice vb (rtV ev (pkV x0)).length vd,I (pkV (target+3)),I x2,I nonce,I 4,I 0,I x0,I 0,I 0,I 0,I x2,I (rtN ev (pkV x0) 2),I 0,I 0,I 0] 0 _ TC
            have QC_:=Blk.farS (q:=gb) (by omega) [I (rtN ev (pkV x0) 0),I (rtN ev (pkV x0) 1),I (rtN ev (pkV x0) 2),I (rtN ev (pkV x0) 3),I (rtN ev (pkV x0) 4),I (rtN ev (pkV x0) 5),.slice ua (rtP ev (pkV x0)).length uc,.slice vb (rtV ev (pkV x0)).length vd,I (pkV (target+3)),I x2,I nonce,I 4,I 0,I x0,I 0,I 0,I 0,I x2,I (rtN ev (pkV x0) 2),I 0,I 0,I 0] 0 _ QC
            have KC_:=Blk.farS (q:=gb) (by omega) [I (rtN ev (pkV x0) 0),I (rtN ev (pkV x0) 1),I (rtN ev (pkV x0) 2),I (rtN ev (pkV x0) 3),I (rtN ev (pkV x0) 4),I (rtN ev (pkV x0) 5),.slice ua (rtP ev (pkV x0)).length uc,.slice vb (rtV ev (pkV x0)).length vd,I (pkV (target+3)),I x2,I nonce,I 4,I 0,I x0,I 0,I 0,I 0,I x2,I (rtN ev (pkV x0) 2),I 0,I 0,I 0] 0 _ KC
            have RC_:=Blk.farS (q:=gb) (by omega) [I (rtN ev (pkV x0) 0),I (rtN ev (pkV x0) 1),I (rtN ev (pkV x0) 2),I (rtN ev (pkV x0) 3),I (rtN ev (pkV x0) 4),I (rtN ev (pkV x0) 5),.slice ua (rtP ev (pkV x0)).length uc,.slice vb (rtV ev (pkV x0)).length vd,I (pkV (target+3)),I x2,I nonce,I 4,I 0,I x0,I 0,I 0,I 0,I x2,I (rtN ev (pkV x0) 2),I 0,I 0,I 0] 0 _ RC
            have UC_:=Blk.farS (q:=gb) (by omega) [I (rtN ev (pkV x0) 0),I (rtN ev (pkV x0) 1),I (rtN ev (pkV x0) 2),I (rtN ev (pkV x0) 3),I (rtN ev (pkV x0) 4),I (rtN ev (pkV x0) 5),.slice ua (rtP ev (pkV x0)).length uc,.slice vb (rtV ev (pkV x0)).length vd,I (pkV (target+3)),I x2,I nonce,I 4,I 0,I x0,I 0,I 0,I 0,I x2,I (rtN ev (pkV x0) 2),I 0,I 0,I 0] 0 _ UC
            have EC_:=Blk.farS (q:=gb) (by omega) [I (rtN ev (pkV x0) 0),I (rtN ev (pkV x0) 1),I (rtN ev (pkV x0) 2),I (rtN ev (pkV x0) 3),I (rtN ev (pkV x0) 4),I (rtN ev (pkV x0) 5),.slice ua (rtP ev (pkV x0)).length uc,.slice vb (rtV ev (pkV x0)).length vd,I (pkV (target+3)),I x2,I nonce,I 4,I 0,I x0,I 0,I 0,I 0,I x2,I (rtN ev (pkV x0) 2),I 0,I 0,I 0] 0 _ EC
            have BC_:=below_sets (m:=w.heap.size) (g:=gb) (by omega) [I (rtN ev (pkV x0) 0),I (rtN ev (pkV x0) 1),I (rtN ev (pkV x0) 2),I (rtN ev (pkV x0) 3),I (rtN ev (pkV x0) 4),I (rtN ev (pkV x0) 5),.slice ua (rtP ev (pkV x0)).length uc,.slice vb (rtV ev (pkV x0)).length vd,I (pkV (target+3)),I x2,I nonce,I 4,I 0,I x0,I 0,I 0,I 0,I x2,I (rtN ev (pkV x0) 2),I 0,I 0,I 0] 0 _ BC
            replace oP:=own_sets nPg [I (rtN ev (pkV x0) 0),I (rtN ev (pkV x0) 1),I (rtN ev (pkV x0) 2),I (rtN ev (pkV x0) 3),I (rtN ev (pkV x0) 4),I (rtN ev (pkV x0) 5),.slice ua (rtP ev (pkV x0)).length uc,.slice vb (rtV ev (pkV x0)).length vd,I (pkV (target+3)),I x2,I nonce,I 4,I 0,I x0,I 0,I 0,I 0,I x2,I (rtN ev (pkV x0) 2),I 0,I 0,I 0] 0 _ oP
            replace oV:=own_sets nVg [I (rtN ev (pkV x0) 0),I (rtN ev (pkV x0) 1),I (rtN ev (pkV x0) 2),I (rtN ev (pkV x0) 3),I (rtN ev (pkV x0) 4),I (rtN ev (pkV x0) 5),.slice ua (rtP ev (pkV x0)).length uc,.slice vb (rtV ev (pkV x0)).length vd,I (pkV (target+3)),I x2,I nonce,I 4,I 0,I x0,I 0,I 0,I 0,I x2,I (rtN ev (pkV x0) 2),I 0,I 0,I 0] 0 _ oV
            refine wpAnyH_ready (rs:=[16]) (by kernel_rfl) (by simp) ?_
            refine AllReadyH.cons (i:=16) rfl (fun K hK=>?_) AllReadyH.nil
            refine stepB2 73 _ _ (gb) 0 _ [I (rtN ev (pkV x0) 0),I (rtN ev (pkV x0) 1),I (rtN ev (pkV x0) 2),I (rtN ev (pkV x0) 3),I (rtN ev (pkV x0) 4),I (rtN ev (pkV x0) 5),.slice ua (rtP ev (pkV x0)).length uc,.slice vb (rtV ev (pkV x0)).length vd,I (pkV (target+3)),I x2,I nonce,I 4,I 0,I x0,I 0,I 0,I 0,I x2,I (rtN ev (pkV x0) 2),I 0,I 0,I 0] ie hie GC (by rw [hsz];rfl) (by simp) rfl rfl rfl rfl rfl rfl ?_
            obtain ⟨VG,hVG⟩:∃ Wz,(Va).setCells (gb) 0 [I (rtN ev (pkV x0) 0),I (rtN ev (pkV x0) 1),I (rtN ev (pkV x0) 2),I (rtN ev (pkV x0) 3),I (rtN ev (pkV x0) 4),I (rtN ev (pkV x0) 5),.slice ua (rtP ev (pkV x0)).length uc,.slice vb (rtV ev (pkV x0)).length vd,I (pkV (target+3)),I x2,I nonce,I 4,I 0,I x0,I 0,I 0,I 0,I x2,I (rtN ev (pkV x0) 2),I 0,I 0,I 0]=Wz:=⟨_,rfl⟩
            rw [hVG] at N_ BC_ TC_ QC_ KC_ RC_ UC_ EC_ oP oV ⊢
            clear hVG GC BC TC QC KC RC UC EC
            have GC:=N_
            have BC:=BC_
            have TC:=TC_
            have QC:=QC_
            have KC:=KC_
            have RC:=RC_
            have UC:=UC_
            have EC:=EC_
            clear N_ BC_ TC_ QC_ KC_ RC_ UC_ EC_
            refine hK.out _ _ ⟨EC,KC,QC⟩ (fun hJ=>?_)
            clear hK K hH
            have hH:=hJ
            clear hJ
            try simp only [Act.put,pa,pb,pc]
            refine wpAnyH_done (by kernel_rfl) ?_ _
            exact ⟨gb,rfl,rfl,TC,QC,RC,UC,EC,GC,oP,oV,nPg,nVg,zg,Nat.ne_of_lt zEC,BC⟩
          case imp11 =>
           clear TC QC KC RC UC EC BC oP oV
           rintro ex a' w6 ⟨gb,rfl,rfl,TC,QC,RC,UC,EC,GC,oP,oV,nPg,nVg,zg,zng,BC⟩
           go_wp2_with fail
           have zg_:=zg.out
           have zng_:=zng.out
           replace TC:=TC.drew
           replace QC:=QC.drew
           replace RC:=RC.drew
           replace UC:=UC.drew
           replace EC:=EC.drew
           replace GC:=GC.drew
           replace BC:=BC.drew
           replace oP:=(show World.ownsRow (World.drew w6) bs 3 1 _ _ _ from oP)
           replace oV:=(show World.ownsRow (World.drew w6) bs 3 1 _ _ _ from oV)
           refine wp_region_held_drew (S:=(fun Vw=>Blk (w.heap.size+1) [I target,I nonce,.string tk,.string au,.string rs,.string ev] Vw∧Blk w.heap.size [.slice c.ua c.U.length c.uc,.slice c.sa c.S.length c.sc,.slice c.la c.L.length c.lc,.slice c.xa c.X.length c.xc,I c.k,I realm,I now,I fresh] Vw)) (by kernel_rfl) ⟨QC,TC⟩ (fun hH=>?_)
           refine tK 0 105 rfl _ hH (by intro w' h;have b0:=h.1.at 0 rfl;have d7:=h.2.at 7 rfl;go_simp;try with_reducible rfl) ?_
           try simp only [Act.put,pa,pb,pc]
           refine tK 1 106 rfl _ hH (by intro w' h;have b0:=h.1.at 0 rfl;have d7:=h.2.at 7 rfl;go_simp;try with_reducible rfl) ?_
           try simp only [Act.put,pa,pb,pc]
           refine tK 2 107 rfl _ hH (by intro w' h;have b0:=h.1.at 0 rfl;have d7:=h.2.at 7 rfl;go_simp;try with_reducible rfl) ?_
           try simp only [Act.put,pa,pb,pc]
           refine tK 3 108 rfl _ hH (by intro w' h;have b0:=h.1.at 0 rfl;have d7:=h.2.at 7 rfl;go_simp;try with_reducible rfl) ?_
           try simp only [Act.put,pa,pb,pc]
           refine tK 4 109 rfl _ hH (by intro w' h;have b0:=h.1.at 0 rfl;have d7:=h.2.at 7 rfl;go_simp;try with_reducible rfl) ?_
           try simp only [Act.put,pa,pb,pc]
           refine tK 5 110 rfl _ hH (by intro w' h;have b0:=h.1.at 0 rfl;have d7:=h.2.at 7 rfl;go_simp;try with_reducible rfl) ?_
           try simp only [Act.put,pa,pb,pc]
           have N_:Blk gb [I (rtN ev (pkV x0) 0),I target,I (rtN ev (pkV x0) 2),I (rtN ev (pkV x0) 3),I (rtN ev (pkV x0) 4),I (rtN ev (pkV x0) 5),.slice ua (rtP ev (pkV x0)).length uc,.slice vb (rtV ev (pkV x0)).length vd,I (pkV (target+3)),I x2,I nonce,I 4,I 0,I x0,I 0,I 0,I 0,I x2,I (rtN ev (pkV x0) 2),I 0,I 0,I 0] ((w6.drew).setCells gb 1 [I target]):=GC.part 1 [I target] _ (by simp) rfl
           have TC_:=Blk.farS (q:=gb) (by omega) [I target] 1 _ TC
           have QC_:=Blk.farS (q:=gb) (by omega) [I target] 1 _ QC
           have RC_:=Blk.farS (q:=gb) (by omega) [I target] 1 _ RC
           have UC_:=Blk.farS (q:=gb) (by omega) [I target] 1 _ UC
           have EC_:=Blk.farS (q:=gb) (by omega) [I target] 1 _ EC
           have BC_:=below_sets (m:=w.heap.size) (g:=gb) (by omega) [I target] 1 _ BC
           replace oP:=own_sets nPg [I target] 1 _ oP
           replace oV:=own_sets nVg [I target] 1 _ oV
           have s0:=GC.at 1 rfl
           have f0:=GC.fz 1 rfl
           refine wpAnyH_ready (rs:=[6]) (by kernel_rfl) (by simp) ?_
           refine AllReadyH.cons (i:=6) rfl (fun K hK=>?_) AllReadyH.nil
           go_simp
           clear s0 f0
           change K _ ((w6.drew).setCells gb 1 [I target])
           obtain ⟨V1,hV1⟩:∃ Wz,(w6.drew).setCells (gb) 1 [I target]=Wz:=⟨_,rfl⟩
           rw [hV1] at N_ BC_ TC_ QC_ RC_ UC_ EC_ oP oV ⊢
           clear hV1 GC BC TC QC RC UC EC
           have GC:=N_
           have BC:=BC_
           have TC:=TC_
           have QC:=QC_
           have RC:=RC_
           have UC:=UC_
           have EC:=EC_
           clear N_ BC_ TC_ QC_ RC_ UC_ EC_
           refine hK.out _ _ ⟨QC,TC⟩ (fun hJ=>?_)
           clear hK K hH
           have hH:=hJ
           clear hJ
           try simp only [Act.put,pa,pb,pc]
           refine tK 7 111 rfl _ hH (by intro w' h;have b0:=h.1.at 0 rfl;have d7:=h.2.at 7 rfl;go_simp;try with_reducible rfl) ?_
           try simp only [Act.put,pa,pb,pc]
           refine tK 8 112 rfl _ hH (by intro w' h;have b0:=h.1.at 0 rfl;have d7:=h.2.at 7 rfl;go_simp;try with_reducible rfl) ?_
           try simp only [Act.put,pa,pb,pc]
           have N_:Blk gb [I (rtN ev (pkV x0) 0),I target,I fresh,I (rtN ev (pkV x0) 3),I (rtN ev (pkV x0) 4),I (rtN ev (pkV x0) 5),.slice ua (rtP ev (pkV x0)).length uc,.slice vb (rtV ev (pkV x0)).length vd,I (pkV (target+3)),I x2,I nonce,I 4,I 0,I x0,I 0,I 0,I 0,I x2,I (rtN ev (pkV x0) 2),I 0,I 0,I 0] ((V1).setCells gb 2 [I fresh]):=GC.part 2 [I fresh] _ (by simp) rfl
           have TC_:=Blk.farS (q:=gb) (by omega) [I fresh] 2 _ TC
           have QC_:=Blk.farS (q:=gb) (by omega) [I fresh] 2 _ QC
           have RC_:=Blk.farS (q:=gb) (by omega) [I fresh] 2 _ RC
           have UC_:=Blk.farS (q:=gb) (by omega) [I fresh] 2 _ UC
           have EC_:=Blk.farS (q:=gb) (by omega) [I fresh] 2 _ EC
           have BC_:=below_sets (m:=w.heap.size) (g:=gb) (by omega) [I fresh] 2 _ BC
           replace oP:=own_sets nPg [I fresh] 2 _ oP
           replace oV:=own_sets nVg [I fresh] 2 _ oV
           have s0:=GC.at 2 rfl
           have f0:=GC.fz 2 rfl
           refine wpAnyH_ready (rs:=[9]) (by kernel_rfl) (by simp) ?_
           refine AllReadyH.cons (i:=9) rfl (fun K hK=>?_) AllReadyH.nil
           go_simp
           clear s0 f0
           change K _ ((V1).setCells gb 2 [I fresh])
           obtain ⟨V2,hV2⟩:∃ Wz,(V1).setCells (gb) 2 [I fresh]=Wz:=⟨_,rfl⟩
           rw [hV2] at N_ BC_ TC_ QC_ RC_ UC_ EC_ oP oV ⊢
           clear hV2 GC BC TC QC RC UC EC
           have GC:=N_
           have BC:=BC_
           have TC:=TC_
           have QC:=QC_
           have RC:=RC_
           have UC:=UC_
           have EC:=EC_
           clear N_ BC_ TC_ QC_ RC_ UC_ EC_
           refine hK.out _ _ ⟨QC,TC⟩ (fun hJ=>?_)
           clear hK K hH
           have hH:=hJ
           clear hJ
           try simp only [Act.put,pa,pb,pc]
           refine wpAnyH_done (by kernel_rfl) ?_ _
           have q24_:=EC.at 3 rfl
           have q25_:=EC.at 4 rfl
           have q26_:=EC.at 5 rfl
           have q27_:=RC.at 0 rfl
           have q28_:=RC.at 1 rfl
           have q29_:=RC.at 2 rfl
           go_wp2_with fail
           refine (implMeet_is (rtN ev (pkV x0) 3) (rtN ev (pkV x0) 4) (rtN ev (pkV x0) 5) wa wb we _).mono ?_
           rintro en w7 ⟨rfl,hb⟩
           have s7:=hb.size
           replace TC:=TC.later hb TC.lt
           replace QC:=QC.later hb QC.lt
           replace RC:=RC.later hb RC.lt
           replace UC:=UC.later hb UC.lt
           replace EC:=EC.later hb EC.lt
           replace GC:=GC.later hb GC.lt
           replace oP:=own_later oP hb
           replace oV:=own_later oV hb
           replace BC:=BC.trans (hb.mono BC.size)
           clear hb
           clear q24_ q25_ q26_ q27_ q28_ q29_
           clear s7
           replace oP:=own_sets nPg [I (mA (rtN ev (pkV x0) 3) (rtN ev (pkV x0) 4) (rtN ev (pkV x0) 5) wa wb we),I (mB (rtN ev (pkV x0) 3) (rtN ev (pkV x0) 4) (rtN ev (pkV x0) 5) wa wb we),I (mC (rtN ev (pkV x0) 3) (rtN ev (pkV x0) 4) (rtN ev (pkV x0) 5) wa wb we)] 3 _ oP
           replace oV:=own_sets nVg [I (mA (rtN ev (pkV x0) 3) (rtN ev (pkV x0) 4) (rtN ev (pkV x0) 5) wa wb we),I (mB (rtN ev (pkV x0) 3) (rtN ev (pkV x0) 4) (rtN ev (pkV x0) 5) wa wb we),I (mC (rtN ev (pkV x0) 3) (rtN ev (pkV x0) 4) (rtN ev (pkV x0) 5) wa wb we)] 3 _ oV
           obtain ⟨A1,hA1⟩:∃ Wz,(World.setCells w7 gb 3 [I (mA (rtN ev (pkV x0) 3) (rtN ev (pkV x0) 4) (rtN ev (pkV x0) 5) wa wb we),I (mB (rtN ev (pkV x0) 3) (rtN ev (pkV x0) 4) (rtN ev (pkV x0) 5) wa wb we),I (mC (rtN ev (pkV x0) 3) (rtN ev (pkV x0) 4) (rtN ev (pkV x0) 5) wa wb we)])=Wz:=⟨_,rfl⟩
           have GC_:Blk gb [I (rtN ev (pkV x0) 0),I target,I fresh,I (mA (rtN ev (pkV x0) 3) (rtN ev (pkV x0) 4) (rtN ev (pkV x0) 5) wa wb we),I (mB (rtN ev (pkV x0) 3) (rtN ev (pkV x0) 4) (rtN ev (pkV x0) 5) wa wb we),I (mC (rtN ev (pkV x0) 3) (rtN ev (pkV x0) 4) (rtN ev (pkV x0) 5) wa wb we),.slice ua (rtP ev (pkV x0)).length uc,.slice vb (rtV ev (pkV x0)).length vd,I (pkV (target+3)),I x2,I nonce,I 4,I 0,I x0,I 0,I 0,I 0,I x2,I (rtN ev (pkV x0) 2),I 0,I 0,I 0] A1:=by rw [← hA1];exact GC.part 3 [I (mA (rtN ev (pkV x0) 3) (rtN ev (pkV x0) 4) (rtN ev (pkV x0) 5) wa wb we),I (mB (rtN ev (pkV x0) 3) (rtN ev (pkV x0) 4) (rtN ev (pkV x0) 5) wa wb we),I (mC (rtN ev (pkV x0) 3) (rtN ev (pkV x0) 4) (rtN ev (pkV x0) 5) wa wb we)] _ (by simp) rfl
           have TC_:=hA1 ▸ Blk.farS (q:=gb) (by omega) [I (mA (rtN ev (pkV x0) 3) (rtN ev (pkV x0) 4) (rtN ev (pkV x0) 5) wa wb we),I (mB (rtN ev (pkV x0) 3) (rtN ev (pkV x0) 4) (rtN ev (pkV x0) 5) wa wb we),I (mC (rtN ev (pkV x0) 3) (rtN ev (pkV x0) 4) (rtN ev (pkV x0) 5) wa wb we)] 3 _ TC
           have QC_:=hA1 ▸ Blk.farS (q:=gb) (by omega) [I (mA (rtN ev (pkV x0) 3) (rtN ev (pkV x0) 4) (rtN ev (pkV x0) 5) wa wb we),I (mB (rtN ev (pkV x0) 3) (rtN ev (pkV x0) 4) (rtN ev (pkV x0) 5) wa wb we),I (mC (rtN ev (pkV x0) 3) (rtN ev (pkV x0) 4) (rtN ev (pkV x0) 5) wa wb we)] 3 _ QC
           have RC_:=hA1 ▸ Blk.farS (q:=gb) (by omega) [I (mA (rtN ev (pkV x0) 3) (rtN ev (pkV x0) 4) (rtN ev (pkV x0) 5) wa wb we),I (mB (rtN ev (pkV x0) 3) (rtN ev (pkV x0) 4) (rtN ev (pkV x0) 5) wa wb we),I (mC (rtN ev (pkV x0) 3) (rtN ev (pkV x0) 4) (rtN ev (pkV x0) 5) wa wb we)] 3 _ RC
           have UC_:=hA1 ▸ Blk.farS (q:=gb) (by omega) [I (mA (rtN ev (pkV x0) 3) (rtN ev (pkV x0) 4) (rtN ev (pkV x0) 5) wa wb we),I (mB (rtN ev (pkV x0) 3) (rtN ev (pkV x0) 4) (rtN ev (pkV x0) 5) wa wb we),I (mC (rtN ev (pkV x0) 3) (rtN ev (pkV x0) 4) (rtN ev (pkV x0) 5) wa wb we)] 3 _ UC
           have EC_:=hA1 ▸ Blk.farS (q:=gb) (by omega) [I (mA (rtN ev (pkV x0) 3) (rtN ev (pkV x0) 4) (rtN ev (pkV x0) 5) wa wb we),I (mB (rtN ev (pkV x0) 3) (rtN ev (pkV x0) 4) (rtN ev (pkV x0) 5) wa wb we),I (mC (rtN ev (pkV x0) 3) (rtN ev (pkV x0) 4) (rtN ev (pkV x0) 5) wa wb we)] 3 _ EC
           have BC_:Below w.heap.size w A1:=by rw [← hA1];exact below_sets (g:=gb) (by omega) [I (mA (rtN ev (pkV x0) 3) (rtN ev (pkV x0) 4) (rtN ev (pkV x0) 5) wa wb we),I (mB (rtN ev (pkV x0) 3) (rtN ev (pkV x0) 4) (rtN ev (pkV x0) 5) wa wb we),I (mC (rtN ev (pkV x0) 3) (rtN ev (pkV x0) 4) (rtN ev (pkV x0) 5) wa wb we)] 3 _ BC
           have GC0A1:=GC
           clear TC QC RC UC EC GC BC
           have TC:=TC_
           have QC:=QC_
           have RC:=RC_
           have UC:=UC_
           have EC:=EC_
           have GC:=GC_
           have BC:=BC_
           clear TC_ QC_ RC_ UC_ EC_ GC_ BC_
           rw [hA1] at oP oV
           have own_bs:w.heap.size+5≤A1.heap.size:=UC.lt
           have oVl:=own_lower oV zbs.out
           have q30_:=EC.at 7 rfl
           go_wp2_with (first | (refine wpList_stB 31 _ _ gb 3 _ [I (mA (rtN ev (pkV x0) 3) (rtN ev (pkV x0) 4) (rtN ev (pkV x0) 5) wa wb we),I (mB (rtN ev (pkV x0) 3) (rtN ev (pkV x0) 4) (rtN ev (pkV x0) 5) wa wb we),I (mC (rtN ev (pkV x0) 3) (rtN ev (pkV x0) 4) (rtN ev (pkV x0) 5) wa wb we)] i3 hi3 GC0A1 (by rw [hz3];rfl) (by simp) rfl rfl rfl rfl rfl ?_;try simp only [Act.put];rw [hA1]) | (at_builtin;go_loud (refine wpList_append_own_at _ rfl _ _ 24 rfl (w.heap.size+5) 3 i0 (I 0) 1 8 Tryz.underlying24 hi hz0 hz1_ hz2 rfl (by decide) _ _ _ rfl (oVl.alloc _) ⟨A1.heap.size,0,none⟩ 1 1 [I (x0 - 3)] rfl rfl (cell_one_new _ _ _) ?c2 ?c3 ?c4 ?c5 ?_)))
           case c2=>intro u hu;simp at hu;subst hu;rfl
           case c3=>have:=rtV_len ev (pkV x0);unfold maxLen;omega
           case c4=>have:=rtV_len ev (pkV x0);omega
           case c5=>have h_:=own_bs;simp;omega
           clear GC0A1 q30_ hA1
           intro v9 w9 o9 hg9 _ hw9
           have zb_:=zbs.out
           rw [show intV (rtV ev (pkV x0))++[I (x0 - 3)]=intV (rtV ev (pkV x0)++[x0 - 3]) by unfold intV;rw [List.map_append];rfl] at o9
           have hrow:=own_in oV
           replace TC:=(TC.alloc TC.lt (.cells #[I (x0 - 3)] 3)).grown hg9 (by have:=TC.lt;simp;omega) (fun e=>by have:=hrow _ e.symm;omega)
           replace QC:=(QC.alloc QC.lt (.cells #[I (x0 - 3)] 3)).grown hg9 (by have:=QC.lt;simp;omega) (fun e=>by have:=hrow _ e.symm;omega)
           replace RC:=(RC.alloc RC.lt (.cells #[I (x0 - 3)] 3)).grown hg9 (by have:=RC.lt;simp;omega) (fun e=>by have:=hrow _ e.symm;omega)
           replace UC:=(UC.alloc UC.lt (.cells #[I (x0 - 3)] 3)).grown hg9 (by have:=UC.lt;simp;omega) (fun e=>by have:=hrow _ e.symm;omega)
           have zGC:=GC.lt
           replace GC:=(GC.alloc GC.lt (.cells #[I (x0 - 3)] 3)).grown hg9 (by have:=GC.lt;simp;omega) (fun e=>(nVg _ e.symm) rfl)
           have zz2:=BC.size
           replace BC:=below_grown (BC.alloc BC.size (.cells #[I (x0 - 3)] 3)) hg9 (by simp;omega) (fun k e=>by have:=hrow k e;omega)
           have o9P:=(oP.alloc (.cells #[I (x0 - 3)] 3)).kept hg9 (by cases hv:(Value.slice ua (rtP ev (pkV x0)).length uc).ownBlock with | none=>exact Or.inl rfl | some k=>right;intro e;exact hA k hv e.symm)
           obtain ⟨ra,rc,hv9,hrc,RV⟩:=own_row (f:=Value.int .i64) (xs:=rtV ev (pkV x0)++[x0 - 3]) o9
           have e_:(rtV ev (pkV x0)++[x0 - 3]).length=(rtV ev (pkV x0)).length+1:=by simp
           rw [e_] at hv9 hrc
           subst hv9
           have E_:Hid ((rtV ev (pkV x0)++[x0 - 3]).length=(rtV ev (pkV x0)).length+1):=e_
           clear e_
           have RP:=own_rowAt o9P
           have fV:∀ p:Addr,ra=some p→w.heap.size+5≤p.block∧p.block≠gb:=fun p e=>by
            subst e
            have hb_:=(own_in o9 p.block rfl).1
            rcases hw9 with h | h
            ·have:=hrow p.block h.symm;exact ⟨by omega,nVg _ h.symm⟩
            ·have h2:some p.block=some (A1.heap.size+1):=by first | exact h | simpa using h
             rw [Option.some.injEq] at h2
             omega
           have fP:∀ p:Addr,ua=some p→w.heap.size+5≤p.block∧p.block≠gb:=fun p e=>by
            subst e
            have h_:=(own_in oP p.block rfl).1
            exact ⟨by omega,nPg p.block rfl⟩
           clear o9 o9P hg9 hw9 oP oV oVl hA nP nV EC hrow
           have zg_:=zg.out
           replace RP:=RowAt.sets8 (q:=gb) (fun p e=>(fP p e).2) [.slice ra ((rtV ev (pkV x0)).length+1) rc] 7 _ RP
           replace RV:=RowAt.sets8 (q:=gb) (fun p e=>(fV p e).2) [.slice ra ((rtV ev (pkV x0)).length+1) rc] 7 _ RV
           obtain ⟨A2,hA2⟩:∃ Wz,(World.setCells w9 gb 7 [.slice ra ((rtV ev (pkV x0)).length+1) rc])=Wz:=⟨_,rfl⟩
           have GC_:Blk gb [I (rtN ev (pkV x0) 0),I target,I fresh,I (mA (rtN ev (pkV x0) 3) (rtN ev (pkV x0) 4) (rtN ev (pkV x0) 5) wa wb we),I (mB (rtN ev (pkV x0) 3) (rtN ev (pkV x0) 4) (rtN ev (pkV x0) 5) wa wb we),I (mC (rtN ev (pkV x0) 3) (rtN ev (pkV x0) 4) (rtN ev (pkV x0) 5) wa wb we),.slice ua (rtP ev (pkV x0)).length uc,.slice ra ((rtV ev (pkV x0)).length+1) rc,I (pkV (target+3)),I x2,I nonce,I 4,I 0,I x0,I 0,I 0,I 0,I x2,I (rtN ev (pkV x0) 2),I 0,I 0,I 0] A2:=by rw [← hA2];exact GC.part 7 [.slice ra ((rtV ev (pkV x0)).length+1) rc] _ (by simp) rfl
           have TC_:=hA2 ▸ Blk.farS (q:=gb) (by omega) [.slice ra ((rtV ev (pkV x0)).length+1) rc] 7 _ TC
           have QC_:=hA2 ▸ Blk.farS (q:=gb) (by omega) [.slice ra ((rtV ev (pkV x0)).length+1) rc] 7 _ QC
           have RC_:=hA2 ▸ Blk.farS (q:=gb) (by omega) [.slice ra ((rtV ev (pkV x0)).length+1) rc] 7 _ RC
           have UC_:=hA2 ▸ Blk.farS (q:=gb) (by omega) [.slice ra ((rtV ev (pkV x0)).length+1) rc] 7 _ UC
           have BC_:Below w.heap.size w A2:=by rw [← hA2];exact below_sets (g:=gb) (by omega) [.slice ra ((rtV ev (pkV x0)).length+1) rc] 7 _ BC
           have GC0A2:=GC
           clear TC QC RC UC GC BC
           have TC:=TC_
           have QC:=QC_
           have RC:=RC_
           have UC:=UC_
           have GC:=GC_
           have BC:=BC_
           clear TC_ QC_ RC_ UC_ GC_ BC_
           rw [hA2] at RP RV
           replace RP:=RowAt.sets8 (q:=(w.heap.size+1+1+1+1)) (fun p e=>by have:=(fP p e).1;omega) [I (rtN ev (pkV x0) 0),I target,I fresh,I (mA (rtN ev (pkV x0) 3) (rtN ev (pkV x0) 4) (rtN ev (pkV x0) 5) wa wb we),I (mB (rtN ev (pkV x0) 3) (rtN ev (pkV x0) 4) (rtN ev (pkV x0) 5) wa wb we),I (mC (rtN ev (pkV x0) 3) (rtN ev (pkV x0) 4) (rtN ev (pkV x0) 5) wa wb we),.slice ua (rtP ev (pkV x0)).length uc,.slice ra ((rtV ev (pkV x0)).length+1) rc,I (pkV (target+3)),I x2,I nonce,I 4,I 0,I x0,I 0,I 0,I 0,I x2,I (rtN ev (pkV x0) 2),I 0,I 0,I 0] 0 _ RP
           replace RV:=RowAt.sets8 (q:=(w.heap.size+1+1+1+1)) (fun p e=>by have:=(fV p e).1;omega) [I (rtN ev (pkV x0) 0),I target,I fresh,I (mA (rtN ev (pkV x0) 3) (rtN ev (pkV x0) 4) (rtN ev (pkV x0) 5) wa wb we),I (mB (rtN ev (pkV x0) 3) (rtN ev (pkV x0) 4) (rtN ev (pkV x0) 5) wa wb we),I (mC (rtN ev (pkV x0) 3) (rtN ev (pkV x0) 4) (rtN ev (pkV x0) 5) wa wb we),.slice ua (rtP ev (pkV x0)).length uc,.slice ra ((rtV ev (pkV x0)).length+1) rc,I (pkV (target+3)),I x2,I nonce,I 4,I 0,I x0,I 0,I 0,I 0,I x2,I (rtN ev (pkV x0) 2),I 0,I 0,I 0] 0 _ RV
           have FU:=UC.sets [I (rtN ev (pkV x0) 0),I target,I fresh,I (mA (rtN ev (pkV x0) 3) (rtN ev (pkV x0) 4) (rtN ev (pkV x0) 5) wa wb we),I (mB (rtN ev (pkV x0) 3) (rtN ev (pkV x0) 4) (rtN ev (pkV x0) 5) wa wb we),I (mC (rtN ev (pkV x0) 3) (rtN ev (pkV x0) 4) (rtN ev (pkV x0) 5) wa wb we),.slice ua (rtP ev (pkV x0)).length uc,.slice ra ((rtV ev (pkV x0)).length+1) rc,I (pkV (target+3)),I x2,I nonce,I 4,I 0,I x0,I 0,I 0,I 0,I x2,I (rtN ev (pkV x0) 2),I 0,I 0,I 0] rfl
           have FB:=below_sets (m:=w.heap.size) (g:=(w.heap.size+1+1+1+1)) (by omega) [I (rtN ev (pkV x0) 0),I target,I fresh,I (mA (rtN ev (pkV x0) 3) (rtN ev (pkV x0) 4) (rtN ev (pkV x0) 5) wa wb we),I (mB (rtN ev (pkV x0) 3) (rtN ev (pkV x0) 4) (rtN ev (pkV x0) 5) wa wb we),I (mC (rtN ev (pkV x0) 3) (rtN ev (pkV x0) 4) (rtN ev (pkV x0) 5) wa wb we),.slice ua (rtP ev (pkV x0)).length uc,.slice ra ((rtV ev (pkV x0)).length+1) rc,I (pkV (target+3)),I x2,I nonce,I 4,I 0,I x0,I 0,I 0,I 0,I x2,I (rtN ev (pkV x0) 2),I 0,I 0,I 0] 0 _ BC
           go_wp2_with (first | (refine wpList_st1 24 _ _ gb 7 _ (.slice ra ((rtV ev (pkV x0)).length+1) rc) is his GC0A2 hzs (by simp) rfl rfl rfl rfl rfl ?_;try simp only [Act.put];rw [hA2]) | (refine wpList_ldB 73 _ gb 0 _ [I (rtN ev (pkV x0) 0),I target,I fresh,I (mA (rtN ev (pkV x0) 3) (rtN ev (pkV x0) 4) (rtN ev (pkV x0) 5) wa wb we),I (mB (rtN ev (pkV x0) 3) (rtN ev (pkV x0) 4) (rtN ev (pkV x0) 5) wa wb we),I (mC (rtN ev (pkV x0) 3) (rtN ev (pkV x0) 4) (rtN ev (pkV x0) 5) wa wb we),.slice ua (rtP ev (pkV x0)).length uc,.slice ra ((rtV ev (pkV x0)).length+1) rc,I (pkV (target+3)),I x2,I nonce,I 4,I 0,I x0,I 0,I 0,I 0,I x2,I (rtN ev (pkV x0) 2),I 0,I 0,I 0] ie hie ag73 GC (by rw [hsz];rfl) rfl rfl rfl rfl ?_;try simp only [Act.put]) | (refine wpList_stB 73 _ _ (w.heap.size+1+1+1+1) 0 _ [I (rtN ev (pkV x0) 0),I target,I fresh,I (mA (rtN ev (pkV x0) 3) (rtN ev (pkV x0) 4) (rtN ev (pkV x0) 5) wa wb we),I (mB (rtN ev (pkV x0) 3) (rtN ev (pkV x0) 4) (rtN ev (pkV x0) 5) wa wb we),I (mC (rtN ev (pkV x0) 3) (rtN ev (pkV x0) 4) (rtN ev (pkV x0) 5) wa wb we),.slice ua (rtP ev (pkV x0)).length uc,.slice ra ((rtV ev (pkV x0)).length+1) rc,I (pkV (target+3)),I x2,I nonce,I 4,I 0,I x0,I 0,I 0,I 0,I x2,I (rtN ev (pkV x0) 2),I 0,I 0,I 0] ie hie UC (by rw [hsz];rfl) (by simp) rfl rfl rfl rfl rfl ?_;try simp only [Act.put]))
           refine bodyPost_ret (res_B2 rfl _ _ (w.heap.size+1+1+1+1) _ .nilIface ie hie ag73 FU (by rw [hsz];rfl) rfl rfl) rfl ⟨?_,FB⟩
           rw [HR.out]
           refine ⟨ua,uc,ra,rc,?_,⟨RP,fun p e=>by have:=(fP p e).1;omega⟩,⟨RV,fun p e=>by have:=(fV p e).1;omega⟩,by have:=rtP_len ev (pkV x0);dsimp only;omega,by have:=rtV_len ev (pkV x0);have:=E_.out;dsimp only;omega,by unfold i64;dsimp only;omega⟩
           dsimp only [gfV]
           rw [E_.out]
        ·rw [decide_eq_false hm]
         rw [if_neg (fun h=>hm h.1)] at HC
         have HR:=HC
         go_wp2_with fail
         refine (refuse_is 6 _).mono ?_
         rintro en wf ⟨rfl,hb⟩
         replace TC:=TC.later hb TC.lt
         replace QC:=QC.later hb QC.lt
         replace KC:=KC.later hb KC.lt
         replace RC:=RC.later hb RC.lt
         replace UC:=UC.later hb UC.lt
         replace EC:=EC.later hb EC.lt
         replace BC:=BC.trans (hb.mono BC.size)
         clear hb
         have FU:=UC.sets [I 0,I 0,I 0,I 0,I 0,I 0,.slice none 0 0,.slice none 0 0,I 0,I 0,I 0,I 0,I 0,I 0,I 0,I 0,I 0,I 0,I 0,I 0,I 0,I 0] rfl
         have FB:=below_sets (m:=w.heap.size) (g:=(w.heap.size+1+1+1+1)) (by omega) [I 0,I 0,I 0,I 0,I 0,I 0,.slice none 0 0,.slice none 0 0,I 0,I 0,I 0,I 0,I 0,I 0,I 0,I 0,I 0,I 0,I 0,I 0,I 0,I 0] 0 _ BC
         go_wp2_with (refine wpList_stB 73 _ _ (w.heap.size+1+1+1+1) 0 _ [I 0,I 0,I 0,I 0,I 0,I 0,.slice none 0 0,.slice none 0 0,I 0,I 0,I 0,I 0,I 0,I 0,I 0,I 0,I 0,I 0,I 0,I 0,I 0,I 0] ie hie UC (by rw [hsz];rfl) (by simp) rfl rfl rfl rfl rfl ?_;try simp only [Act.put])
         exact bodyPost_ret (res_B2 rfl _ _ (w.heap.size+1+1+1+1) _ (refV 6) ie hie ag73 FU (by rw [hsz];rfl) rfl rfl) rfl ⟨by rw [HR.out];exact rfl,FB⟩
      ·rw [if_neg (fun h=>h1 h.2)] at HC
       have HR:=HC
       go_wp2_with fail
       refine (refuse_is 1 _).mono ?_
       rintro en wf ⟨rfl,hb⟩
       replace TC:=TC.later hb TC.lt
       replace QC:=QC.later hb QC.lt
       replace KC:=KC.later hb KC.lt
       replace RC:=RC.later hb RC.lt
       replace UC:=UC.later hb UC.lt
       replace EC:=EC.later hb EC.lt
       replace BC:=BC.trans (hb.mono BC.size)
       clear hb
       clear q18_
       have FU:=UC.sets [I 0,I 0,I 0,I 0,I 0,I 0,.slice none 0 0,.slice none 0 0,I 0,I 0,I 0,I 0,I 0,I 0,I 0,I 0,I 0,I 0,I 0,I 0,I 0,I 0] rfl
       have FB:=below_sets (m:=w.heap.size) (g:=(w.heap.size+1+1+1+1)) (by omega) [I 0,I 0,I 0,I 0,I 0,I 0,.slice none 0 0,.slice none 0 0,I 0,I 0,I 0,I 0,I 0,I 0,I 0,I 0,I 0,I 0,I 0,I 0,I 0,I 0] 0 _ BC
       go_wp2_with (refine wpList_stB 73 _ _ (w.heap.size+1+1+1+1) 0 _ [I 0,I 0,I 0,I 0,I 0,I 0,.slice none 0 0,.slice none 0 0,I 0,I 0,I 0,I 0,I 0,I 0,I 0,I 0,I 0,I 0,I 0,I 0,I 0,I 0] ie hie UC (by rw [hsz];rfl) (by simp) rfl rfl rfl rfl rfl ?_;try simp only [Act.put])
       exact bodyPost_ret (res_B2 rfl _ _ (w.heap.size+1+1+1+1) _ (refV 1) ie hie ag73 FU (by rw [hsz];rfl) rfl rfl) rfl ⟨by rw [HR.out];exact rfl,FB⟩
     ·rw [if_neg (fun h=>hk h.1)] at HC
      have HR:=HC
      rw [Bool.not_eq_true] at hk
      rw [hk]
      go_wp2_with fail
      refine (refuse_is 1 _).mono ?_
      rintro en wf ⟨rfl,hb⟩
      replace TC:=TC.later hb TC.lt
      replace QC:=QC.later hb QC.lt
      replace KC:=KC.later hb KC.lt
      replace RC:=RC.later hb RC.lt
      replace UC:=UC.later hb UC.lt
      replace EC:=EC.later hb EC.lt
      replace BC:=BC.trans (hb.mono BC.size)
      clear hb
      have FU:=UC.sets [I 0,I 0,I 0,I 0,I 0,I 0,.slice none 0 0,.slice none 0 0,I 0,I 0,I 0,I 0,I 0,I 0,I 0,I 0,I 0,I 0,I 0,I 0,I 0,I 0] rfl
      have FB:=below_sets (m:=w.heap.size) (g:=(w.heap.size+1+1+1+1)) (by omega) [I 0,I 0,I 0,I 0,I 0,I 0,.slice none 0 0,.slice none 0 0,I 0,I 0,I 0,I 0,I 0,I 0,I 0,I 0,I 0,I 0,I 0,I 0,I 0,I 0] 0 _ BC
      go_wp2_with (refine wpList_stB 73 _ _ (w.heap.size+1+1+1+1) 0 _ [I 0,I 0,I 0,I 0,I 0,I 0,.slice none 0 0,.slice none 0 0,I 0,I 0,I 0,I 0,I 0,I 0,I 0,I 0,I 0,I 0,I 0,I 0,I 0,I 0] ie hie UC (by rw [hsz];rfl) (by simp) rfl rfl rfl rfl rfl ?_;try simp only [Act.put])
      exact bodyPost_ret (res_B2 rfl _ _ (w.heap.size+1+1+1+1) _ (refV 1) ie hie ag73 FU (by rw [hsz];rfl) rfl rfl) rfl ⟨by rw [HR.out];exact rfl,FB⟩
   ·have HR:Hid (dgG c realm now fresh target nonce x0 x2 wa wb we ev=.error 6):=by show _=_;unfold dgG;rw [if_neg (fun h=>c2 h.2.2)]
    rw [decide_eq_false c2]
    go_wp2_with fail
    refine (refuse_is 6 _).mono ?_
    rintro en wf ⟨rfl,hb⟩
    replace TC:=TC.later hb TC.lt
    replace QC:=QC.later hb QC.lt
    replace KC:=KC.later hb KC.lt
    replace RC:=RC.later hb RC.lt
    replace UC:=UC.later hb UC.lt
    replace BC:=BC.trans (hb.mono BC.size)
    clear hb
    have FU:=UC.sets [I 0,I 0,I 0,I 0,I 0,I 0,.slice none 0 0,.slice none 0 0,I 0,I 0,I 0,I 0,I 0,I 0,I 0,I 0,I 0,I 0,I 0,I 0,I 0,I 0] rfl
    have FB:=below_sets (m:=w.heap.size) (g:=(w.heap.size+1+1+1+1)) (by omega) [I 0,I 0,I 0,I 0,I 0,I 0,.slice none 0 0,.slice none 0 0,I 0,I 0,I 0,I 0,I 0,I 0,I 0,I 0,I 0,I 0,I 0,I 0,I 0,I 0] 0 _ BC
    go_wp2_with (refine wpList_stB 73 _ _ (w.heap.size+1+1+1+1) 0 _ [I 0,I 0,I 0,I 0,I 0,I 0,.slice none 0 0,.slice none 0 0,I 0,I 0,I 0,I 0,I 0,I 0,I 0,I 0,I 0,I 0,I 0,I 0,I 0,I 0] ie hie UC (by rw [hsz];rfl) (by simp) rfl rfl rfl rfl rfl ?_;try simp only [Act.put])
    exact bodyPost_ret (res_B2 rfl _ _ (w.heap.size+1+1+1+1) _ (refV 6) ie hie ag73 FU (by rw [hsz];rfl) rfl rfl) rfl ⟨by rw [HR.out];exact rfl,FB⟩
  ·have HR:Hid (dgG c realm now fresh target nonce x0 x2 wa wb we ev=.error 6):=by show _=_;unfold dgG;rw [if_neg (fun h=>c1 h.2.1)]
   rw [decide_eq_false c1]
   go_wp2_with fail
   refine (refuse_is 6 _).mono ?_
   rintro en wf ⟨rfl,hb⟩
   replace TC:=TC.later hb TC.lt
   replace QC:=QC.later hb QC.lt
   replace KC:=KC.later hb KC.lt
   replace RC:=RC.later hb RC.lt
   replace UC:=UC.later hb UC.lt
   replace BC:=BC.trans (hb.mono BC.size)
   clear hb
   have FU:=UC.sets [I 0,I 0,I 0,I 0,I 0,I 0,.slice none 0 0,.slice none 0 0,I 0,I 0,I 0,I 0,I 0,I 0,I 0,I 0,I 0,I 0,I 0,I 0,I 0,I 0] rfl
   have FB:=below_sets (m:=w.heap.size) (g:=(w.heap.size+1+1+1+1)) (by omega) [I 0,I 0,I 0,I 0,I 0,I 0,.slice none 0 0,.slice none 0 0,I 0,I 0,I 0,I 0,I 0,I 0,I 0,I 0,I 0,I 0,I 0,I 0,I 0,I 0] 0 _ BC
   go_wp2_with (refine wpList_stB 73 _ _ (w.heap.size+1+1+1+1) 0 _ [I 0,I 0,I 0,I 0,I 0,I 0,.slice none 0 0,.slice none 0 0,I 0,I 0,I 0,I 0,I 0,I 0,I 0,I 0,I 0,I 0,I 0,I 0,I 0,I 0] ie hie UC (by rw [hsz];rfl) (by simp) rfl rfl rfl rfl rfl ?_;try simp only [Act.put])
   exact bodyPost_ret (res_B2 rfl _ _ (w.heap.size+1+1+1+1) _ (refV 6) ie hie ag73 FU (by rw [hsz];rfl) rfl rfl) rfl ⟨by rw [HR.out];exact rfl,FB⟩
 ·have HR:Hid (dgG c realm now fresh target nonce x0 x2 wa wb we ev=.error 6):=by show _=_;unfold dgG;rw [if_neg (fun h=>c0 h.1)]
  rw [Bool.not_eq_true] at c0
  rw [c0]
  go_wp2_with fail
  refine (refuse_is 6 _).mono ?_
  rintro en wf ⟨rfl,hb⟩
  replace TC:=TC.later hb TC.lt
  replace QC:=QC.later hb QC.lt
  replace KC:=KC.later hb KC.lt
  replace RC:=RC.later hb RC.lt
  replace UC:=UC.later hb UC.lt
  replace BC:=BC.trans (hb.mono BC.size)
  clear hb
  have FU:=UC.sets [I 0,I 0,I 0,I 0,I 0,I 0,.slice none 0 0,.slice none 0 0,I 0,I 0,I 0,I 0,I 0,I 0,I 0,I 0,I 0,I 0,I 0,I 0,I 0,I 0] rfl
  have FB:=below_sets (m:=w.heap.size) (g:=(w.heap.size+1+1+1+1)) (by omega) [I 0,I 0,I 0,I 0,I 0,I 0,.slice none 0 0,.slice none 0 0,I 0,I 0,I 0,I 0,I 0,I 0,I 0,I 0,I 0,I 0,I 0,I 0,I 0,I 0] 0 _ BC
  go_wp2_with (refine wpList_stB 73 _ _ (w.heap.size+1+1+1+1) 0 _ [I 0,I 0,I 0,I 0,I 0,I 0,.slice none 0 0,.slice none 0 0,I 0,I 0,I 0,I 0,I 0,I 0,I 0,I 0,I 0,I 0,I 0,I 0,I 0,I 0] ie hie UC (by rw [hsz];rfl) (by simp) rfl rfl rfl rfl rfl ?_;try simp only [Act.put])
  exact bodyPost_ret (res_B2 rfl _ _ (w.heap.size+1+1+1+1) _ (refV 6) ie hie ag73 FU (by rw [hsz];rfl) rfl rfl) rfl ⟨by rw [HR.out];exact rfl,FB⟩
end Go.Proofs.YtcaieniddnhkbaaGreatDoor
