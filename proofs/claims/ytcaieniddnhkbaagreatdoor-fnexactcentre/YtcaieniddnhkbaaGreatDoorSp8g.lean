/- Chapter 8: a ticket on another one's, the model's. -/
import Derived.Test.YtcaieniddnhkbaaGreatDoorAb
import Derived.Test.YtcaieniddnhkbaaGreatDoorApp8
set_option linter.unusedVariables false
set_option maxRecDepth 100000
namespace Go.Proofs.YtcaieniddnhkbaaGreatDoor
open Go Go.RowKit Own Var Term
def EvRes (r:Gr) (n0 n1 n2 n3 n4 n5:Int) (na:Option Addr) (nl nc:Nat) (ma:Option Addr) (ml mc:Nat) (w:World) (en:Ending) (w':World):Prop:=match r with
 | .error code=>en=.returned (.tuple #[tkV n0 n1 n2 n3 n4 n5 na nl nc ma ml mc,I code])∧code≠0
 | .ok g=>∃ (pa:Option Addr) (pc:Nat) (va:Option Addr) (vc:Nat),en=.returned (.tuple #[tkV g.cl n1 n2 g.a g.b g.e pa g.P.length pc va g.V.length vc,I 0])∧RF w.heap.size w' pa g.P∧RF w.heap.size w' va g.V
theorem conf_real {c:Cf} (h:confB c=true) (i:Nat) (hi:i < 3):∃ z,c.S[i]?=some z∧roV c ((i:Int)+3)=z:=by
 have hl:=(conf_len h).2
 refine ⟨c.S[i],List.getElem?_eq_getElem (by omega),?_⟩
 unfold roV
 rw [h,(btw_iff ((i:Int)+3) 0 5).2 ⟨by omega,by omega⟩,Bool.and_self,if_pos rfl,if_neg (by omega),show ((i:Int)+3 - 3).toNat=i by omega]
 simp [List.getD,show i < c.S.length by omega]
theorem rtV_four (s:ByteArray) (k:Int):(rtV s k).length≤4:=by
 unfold rtV
 split
 ·rename_i h
  unfold rtK at h
  simp only [Bool.and_eq_true] at h
  have h1:=h.2.2.2.2.2.2.2
  unfold tOk at h1
  simp only [Bool.and_eq_true] at h1
  have h2:=h1.2.2.2.2.2
  unfold allB at h2
  simp only [Bool.and_eq_true,decide_eq_true_eq] at h2
  exact h2.1
 ·simp
theorem row_grown {w w':World} {row:Option Nat} {a:Option Addr} {xs:List Int} (h:RowAt (Value.int .i64) w a xs) (hg:w.grownBy w' row) (hne:∀ p:Addr,a=some p→row=some p.block→False):RowAt (Value.int .i64) w' a xs:=by
 intro q hq
 obtain ⟨b,off,e,hlt,hc⟩:=h q hq
 exact ⟨b,off,e,Nat.lt_of_lt_of_le hlt hg.size,hg.cell hc (fun e2=>hne _ e e2.symm)⟩
set_option maxHeartbeats 6400000 in
theorem specEvid_is (c:Cf) (realm now fresh nonce key:Int) (j t:Nat) (hj:j < 3) (ht:t < 3) (x1 x2 x3 x4 x5:Int) (pa:Option Addr) (pl pc:Nat) (va:Option Addr) (vl vc:Nat) (wa wb we:Int) (ev:ByteArray) (n0 n1 n2 n3 n4 n5:Int) (na:Option Addr) (nl nc:Nat) (ma:Option Addr) (ml mc:Nat) (w:World) (C:CfAt c w) (K:CfOk c) (hcf:confB c=true) (hev:ev.size≤1048576) :
  Calls Tryz.prog 80 #[c.val,I realm,I now,.agg #[I ((j:Int)+3),I x1,I x2,I x3,I x4,I x5,.slice pa pl pc,.slice va vl vc],I (t:Int),.agg #[I wa,I wb,I we],.string ev,.agg #[I n0,I n1,I n2,I n3,I n4,I n5,.slice na nl nc,.slice ma ml mc]] w fun en w'=>EvRes (dgG c realm now fresh (t:Int) nonce ((j:Int)+3) key wa wb we ev) n0 n1 n2 n3 n4 n5 na nl nc ma ml mc w en w'∧Below w.heap.size w w':=by
 obtain ⟨it,hit,htz⟩:=info_tick
 obtain ⟨i3,hi3,hz3⟩:=info_rest
 obtain ⟨i1,hi1,hz1⟩:=info_int
 obtain ⟨is,his,hzs⟩:=info_slice
 have hl3:=(conf_len hcf).2
 obtain ⟨zs,gs,HVs_⟩:=conf_real hcf j hj
 obtain ⟨zt,gt,HVt_⟩:=conf_real hcf t ht
 have hjj:(j:Int)+3 - 3=(j:Int):=by omega
 have HC:Hid (dgG c realm now fresh (t:Int) nonce ((j:Int)+3) key wa wb we ev=if realm=zs∧realm=zt then (if rtK ev (pkV ((j:Int)+3))=true∧rtN ev (pkV ((j:Int)+3)) 1=(j:Int) then (if rtN ev (pkV ((j:Int)+3)) 5 < now then .error 4 else if ((j:Int),(t:Int))∈c.X∧(rtV ev (pkV ((j:Int)+3))).length≠4 then .ok ⟨rtN ev (pkV ((j:Int)+3)) 0,(t:Int),fresh,mA (rtN ev (pkV ((j:Int)+3)) 3) (rtN ev (pkV ((j:Int)+3)) 4) (rtN ev (pkV ((j:Int)+3)) 5) wa wb we,mB (rtN ev (pkV ((j:Int)+3)) 3) (rtN ev (pkV ((j:Int)+3)) 4) (rtN ev (pkV ((j:Int)+3)) 5) wa wb we,mC (rtN ev (pkV ((j:Int)+3)) 3) (rtN ev (pkV ((j:Int)+3)) 4) (rtN ev (pkV ((j:Int)+3)) 5) wa wb we,rtP ev (pkV ((j:Int)+3)),rtV ev (pkV ((j:Int)+3))++[(j:Int)],pkV ((t:Int)+3),key,nonce,4,((j:Int)+3),key,rtN ev (pkV ((j:Int)+3)) 2⟩ else .error 6) else .error 1) else .error 6):=by
  show _=_
  unfold dgG
  rw [hjj,HVs_,HVt_,(btw_iff (j:Int) 0 2).2 ⟨by omega,by omega⟩]
  simp only [true_and,eq_comm (a:=zs),eq_comm (a:=zt)]
 clear HVs_ HVt_
 have BC:Below w.heap.size w (((((w.alloc (.cells #[.slice c.ua c.U.length c.uc,.slice c.sa c.S.length c.sc,.slice c.la c.L.length c.lc,.slice c.xa c.X.length c.xc,I c.k] 27)).alloc (.cells #[I ((j:Int)+3),I x1,I x2,I x3,I x4,I x5,.slice pa pl pc,.slice va vl vc] 43)).alloc (.cells #[I wa,I wb,I we] 31)).alloc (.cells #[I n0,I n1,I n2,I n3,I n4,I n5,.slice na nl nc,.slice ma ml mc] 43)).alloc (.cells #[I 0,I 0,I 0,I 0,I 0,I 0,.slice none 0 0,.slice none 0 0] 43)):=(((((Below.refl _ _).alloc (by simp <;> omega) _).alloc (by simp <;> omega) _).alloc (by simp <;> omega) _).alloc (by simp <;> omega) _).alloc (by simp <;> omega) _
 have TC:Blk w.heap.size [.slice c.ua c.U.length c.uc,.slice c.sa c.S.length c.sc,.slice c.la c.L.length c.lc,.slice c.xa c.X.length c.xc,I c.k] (((((w.alloc (.cells #[.slice c.ua c.U.length c.uc,.slice c.sa c.S.length c.sc,.slice c.la c.L.length c.lc,.slice c.xa c.X.length c.xc,I c.k] 27)).alloc (.cells #[I ((j:Int)+3),I x1,I x2,I x3,I x4,I x5,.slice pa pl pc,.slice va vl vc] 43)).alloc (.cells #[I wa,I wb,I we] 31)).alloc (.cells #[I n0,I n1,I n2,I n3,I n4,I n5,.slice na nl nc,.slice ma ml mc] 43)).alloc (.cells #[I 0,I 0,I 0,I 0,I 0,I 0,.slice none 0 0,.slice none 0 0] 43)):=by have h_:=(((((Blk.new w #[.slice c.ua c.U.length c.uc,.slice c.sa c.S.length c.sc,.slice c.la c.L.length c.lc,.slice c.xa c.X.length c.xc,I c.k] 27).alloc (by simp <;> omega) (.cells #[I ((j:Int)+3),I x1,I x2,I x3,I x4,I x5,.slice pa pl pc,.slice va vl vc] 43)).alloc (by simp <;> omega) (.cells #[I wa,I wb,I we] 31)).alloc (by simp <;> omega) (.cells #[I n0,I n1,I n2,I n3,I n4,I n5,.slice na nl nc,.slice ma ml mc] 43)).alloc (by simp <;> omega) (.cells #[I 0,I 0,I 0,I 0,I 0,I 0,.slice none 0 0,.slice none 0 0] 43));simpa using h_
 have KC:Blk (w.heap.size+1) [I ((j:Int)+3),I x1,I x2,I x3,I x4,I x5,.slice pa pl pc,.slice va vl vc] (((((w.alloc (.cells #[.slice c.ua c.U.length c.uc,.slice c.sa c.S.length c.sc,.slice c.la c.L.length c.lc,.slice c.xa c.X.length c.xc,I c.k] 27)).alloc (.cells #[I ((j:Int)+3),I x1,I x2,I x3,I x4,I x5,.slice pa pl pc,.slice va vl vc] 43)).alloc (.cells #[I wa,I wb,I we] 31)).alloc (.cells #[I n0,I n1,I n2,I n3,I n4,I n5,.slice na nl nc,.slice ma ml mc] 43)).alloc (.cells #[I 0,I 0,I 0,I 0,I 0,I 0,.slice none 0 0,.slice none 0 0] 43)):=by have h_:=((((Blk.new (w.alloc (.cells #[.slice c.ua c.U.length c.uc,.slice c.sa c.S.length c.sc,.slice c.la c.L.length c.lc,.slice c.xa c.X.length c.xc,I c.k] 27)) #[I ((j:Int)+3),I x1,I x2,I x3,I x4,I x5,.slice pa pl pc,.slice va vl vc] 43).alloc (by simp <;> omega) (.cells #[I wa,I wb,I we] 31)).alloc (by simp <;> omega) (.cells #[I n0,I n1,I n2,I n3,I n4,I n5,.slice na nl nc,.slice ma ml mc] 43)).alloc (by simp <;> omega) (.cells #[I 0,I 0,I 0,I 0,I 0,I 0,.slice none 0 0,.slice none 0 0] 43));simpa using h_
 have RC:Blk (w.heap.size+1+1) [I wa,I wb,I we] (((((w.alloc (.cells #[.slice c.ua c.U.length c.uc,.slice c.sa c.S.length c.sc,.slice c.la c.L.length c.lc,.slice c.xa c.X.length c.xc,I c.k] 27)).alloc (.cells #[I ((j:Int)+3),I x1,I x2,I x3,I x4,I x5,.slice pa pl pc,.slice va vl vc] 43)).alloc (.cells #[I wa,I wb,I we] 31)).alloc (.cells #[I n0,I n1,I n2,I n3,I n4,I n5,.slice na nl nc,.slice ma ml mc] 43)).alloc (.cells #[I 0,I 0,I 0,I 0,I 0,I 0,.slice none 0 0,.slice none 0 0] 43)):=by have h_:=(((Blk.new ((w.alloc (.cells #[.slice c.ua c.U.length c.uc,.slice c.sa c.S.length c.sc,.slice c.la c.L.length c.lc,.slice c.xa c.X.length c.xc,I c.k] 27)).alloc (.cells #[I ((j:Int)+3),I x1,I x2,I x3,I x4,I x5,.slice pa pl pc,.slice va vl vc] 43)) #[I wa,I wb,I we] 31).alloc (by simp <;> omega) (.cells #[I n0,I n1,I n2,I n3,I n4,I n5,.slice na nl nc,.slice ma ml mc] 43)).alloc (by simp <;> omega) (.cells #[I 0,I 0,I 0,I 0,I 0,I 0,.slice none 0 0,.slice none 0 0] 43));simpa using h_
 have NC:Blk (w.heap.size+1+1+1) [I n0,I n1,I n2,I n3,I n4,I n5,.slice na nl nc,.slice ma ml mc] (((((w.alloc (.cells #[.slice c.ua c.U.length c.uc,.slice c.sa c.S.length c.sc,.slice c.la c.L.length c.lc,.slice c.xa c.X.length c.xc,I c.k] 27)).alloc (.cells #[I ((j:Int)+3),I x1,I x2,I x3,I x4,I x5,.slice pa pl pc,.slice va vl vc] 43)).alloc (.cells #[I wa,I wb,I we] 31)).alloc (.cells #[I n0,I n1,I n2,I n3,I n4,I n5,.slice na nl nc,.slice ma ml mc] 43)).alloc (.cells #[I 0,I 0,I 0,I 0,I 0,I 0,.slice none 0 0,.slice none 0 0] 43)):=by have h_:=((Blk.new (((w.alloc (.cells #[.slice c.ua c.U.length c.uc,.slice c.sa c.S.length c.sc,.slice c.la c.L.length c.lc,.slice c.xa c.X.length c.xc,I c.k] 27)).alloc (.cells #[I ((j:Int)+3),I x1,I x2,I x3,I x4,I x5,.slice pa pl pc,.slice va vl vc] 43)).alloc (.cells #[I wa,I wb,I we] 31)) #[I n0,I n1,I n2,I n3,I n4,I n5,.slice na nl nc,.slice ma ml mc] 43).alloc (by simp <;> omega) (.cells #[I 0,I 0,I 0,I 0,I 0,I 0,.slice none 0 0,.slice none 0 0] 43));simpa using h_
 have UC:Blk (w.heap.size+1+1+1+1) [I 0,I 0,I 0,I 0,I 0,I 0,.slice none 0 0,.slice none 0 0] (((((w.alloc (.cells #[.slice c.ua c.U.length c.uc,.slice c.sa c.S.length c.sc,.slice c.la c.L.length c.lc,.slice c.xa c.X.length c.xc,I c.k] 27)).alloc (.cells #[I ((j:Int)+3),I x1,I x2,I x3,I x4,I x5,.slice pa pl pc,.slice va vl vc] 43)).alloc (.cells #[I wa,I wb,I we] 31)).alloc (.cells #[I n0,I n1,I n2,I n3,I n4,I n5,.slice na nl nc,.slice ma ml mc] 43)).alloc (.cells #[I 0,I 0,I 0,I 0,I 0,I 0,.slice none 0 0,.slice none 0 0] 43)):=by have h_:=(Blk.new ((((w.alloc (.cells #[.slice c.ua c.U.length c.uc,.slice c.sa c.S.length c.sc,.slice c.la c.L.length c.lc,.slice c.xa c.X.length c.xc,I c.k] 27)).alloc (.cells #[I ((j:Int)+3),I x1,I x2,I x3,I x4,I x5,.slice pa pl pc,.slice va vl vc] 43)).alloc (.cells #[I wa,I wb,I we] 31)).alloc (.cells #[I n0,I n1,I n2,I n3,I n4,I n5,.slice na nl nc,.slice ma ml mc] 43)) #[I 0,I 0,I 0,I 0,I 0,I 0,.slice none 0 0,.slice none 0 0] 43);simpa using h_
 have hj3:IntKind.i64.wrap ((j:Int)+3 - 3)=(j:Int):=by rw [hjj];exact wrap_i64_small j (by omega)
 obtain ⟨W0,hW0⟩:∃ Wz,(((((w.alloc (.cells #[.slice c.ua c.U.length c.uc,.slice c.sa c.S.length c.sc,.slice c.la c.L.length c.lc,.slice c.xa c.X.length c.xc,I c.k] 27)).alloc (.cells #[I ((j:Int)+3),I x1,I x2,I x3,I x4,I x5,.slice pa pl pc,.slice va vl vc] 43)).alloc (.cells #[I wa,I wb,I we] 31)).alloc (.cells #[I n0,I n1,I n2,I n3,I n4,I n5,.slice na nl nc,.slice ma ml mc] 43)).alloc (.cells #[I 0,I 0,I 0,I 0,I 0,I 0,.slice none 0 0,.slice none 0 0] 43))=Wz:=⟨_,rfl⟩
 rw [hW0] at TC KC RC NC UC BC
 obtain ⟨b1,o1,ea,l1,c1⟩:=(C.hs.later BC) j (by omega)
 obtain ⟨b2,o2,ea2,l2,c2⟩:=(C.hs.later BC) t (by omega)
 have es:c.S[j]=zs:=by rw [List.getElem?_eq_getElem (by omega),Option.some.injEq] at gs;exact gs
 have et:c.S[t]=zt:=by rw [List.getElem?_eq_getElem (by omega),Option.some.injEq] at gt;exact gt
 rw [es] at c1
 rw [et] at c2
 rw [ea] at ea2
 obtain ⟨rfl,rfl⟩:b1=b2∧o1=o2:=by cases ea2;exact ⟨rfl,rfl⟩
 clear gs gt es et ea2 l2 l1
 have hb1:(j:Int) < (c.S.length:Int):=by omega
 have hb2:(t:Int) < (c.S.length:Int):=by omega
 have hj0:decide ((j:Int) < 0)=false:=decide_eq_false (by omega)
 have q1_:=KC.at 0 rfl
 have dS:=TC.at 1 rfl
 rw [ea] at dS
 clear ea hl3
 have zW0:Hid (w.heap.size+5≤W0.heap.size):=UC.lt
 go_enter Tryz.func80,Tryz.ntmps80
 by_cases h0:realm=zs
 ·by_cases h1:realm=zt
  ·rw [if_pos ⟨h0,h1⟩] at HC
   subst h0
   subst h1
   go_wp2_with (first | (rw [hW0]))
   refine (specPK_is ((j:Int)+3) _).mono ?_
   rintro en w2 ⟨rfl,rfl⟩
   clear q1_ dS hW0
   go_wp2_with fail
   refine (specReadT_is ev (pkV ((j:Int)+3)) _ hev).mono ?_
   rintro en w3 ⟨ua,uc,vb,vd,rfl,oP,oV,hA,hb⟩
   have z3:=hb.size
   replace TC:=TC.later hb TC.lt
   replace KC:=KC.later hb KC.lt
   replace RC:=RC.later hb RC.lt
   replace NC:=NC.later hb NC.lt
   replace UC:=UC.later hb UC.lt
   replace BC:=BC.trans (hb.mono BC.size)
   clear hb
   clear c1 c2 hb1 hb2
   have zW:Hid (w.heap.size+5≤w3.heap.size):=UC.lt
   have kP:=own_in oP
   have kV:=own_in oV
   have RP:=own_rowAt oP
   have RV:=own_rowAt oV
   have kP2:∀ q:Nat,(Value.slice ua (rtP ev (pkV ((j:Int)+3))).length uc).ownBlock=some q→w.heap.size+5≤q∧q < w3.heap.size:=fun q h=>⟨by have h_:=(kP q h).1;have:=zW0.out;omega,(kP q h).2⟩
   have kV2:∀ q:Nat,(Value.slice vb (rtV ev (pkV ((j:Int)+3))).length vd).ownBlock=some q→w.heap.size+5≤q∧q < w3.heap.size:=fun q h=>⟨by have h_:=(kV q h).1;have:=zW0.out;omega,(kV q h).2⟩
   clear kP kV oP oV hA
   have XA_:Below w3.heap.size w3 (w3.alloc (.cells #[I (rtN ev (pkV ((j:Int)+3)) 0),I (rtN ev (pkV ((j:Int)+3)) 1),I (rtN ev (pkV ((j:Int)+3)) 2),I (rtN ev (pkV ((j:Int)+3)) 3),I (rtN ev (pkV ((j:Int)+3)) 4),I (rtN ev (pkV ((j:Int)+3)) 5),.slice ua (rtP ev (pkV ((j:Int)+3))).length uc,.slice vb (rtV ev (pkV ((j:Int)+3))).length vd] 43)):=(Below.refl _ _).alloc (Nat.le_refl _) _
   have EC:Blk w3.heap.size [I (rtN ev (pkV ((j:Int)+3)) 0),I (rtN ev (pkV ((j:Int)+3)) 1),I (rtN ev (pkV ((j:Int)+3)) 2),I (rtN ev (pkV ((j:Int)+3)) 3),I (rtN ev (pkV ((j:Int)+3)) 4),I (rtN ev (pkV ((j:Int)+3)) 5),.slice ua (rtP ev (pkV ((j:Int)+3))).length uc,.slice vb (rtV ev (pkV ((j:Int)+3))).length vd] (w3.alloc (.cells #[I (rtN ev (pkV ((j:Int)+3)) 0),I (rtN ev (pkV ((j:Int)+3)) 1),I (rtN ev (pkV ((j:Int)+3)) 2),I (rtN ev (pkV ((j:Int)+3)) 3),I (rtN ev (pkV ((j:Int)+3)) 4),I (rtN ev (pkV ((j:Int)+3)) 5),.slice ua (rtP ev (pkV ((j:Int)+3))).length uc,.slice vb (rtV ev (pkV ((j:Int)+3))).length vd] 43)):=Blk.new _ _ _
   replace TC:=TC.later XA_ TC.lt
   replace KC:=KC.later XA_ KC.lt
   replace RC:=RC.later XA_ RC.lt
   replace NC:=NC.later XA_ NC.lt
   replace UC:=UC.later XA_ UC.lt
   replace BC:=BC.trans (XA_.mono BC.size)
   clear XA_
   have X4:Below w3.heap.size w3 (w3.alloc (.cells #[I (rtN ev (pkV ((j:Int)+3)) 0),I (rtN ev (pkV ((j:Int)+3)) 1),I (rtN ev (pkV ((j:Int)+3)) 2),I (rtN ev (pkV ((j:Int)+3)) 3),I (rtN ev (pkV ((j:Int)+3)) 4),I (rtN ev (pkV ((j:Int)+3)) 5),.slice ua (rtP ev (pkV ((j:Int)+3))).length uc,.slice vb (rtV ev (pkV ((j:Int)+3))).length vd] 43)):=(Below.refl _ _).alloc (Nat.le_refl _) _
   replace RP:=RP.later X4
   replace RV:=RV.later X4
   clear X4
   obtain ⟨W4,hW4⟩:∃ Wz,(w3.alloc (.cells #[I (rtN ev (pkV ((j:Int)+3)) 0),I (rtN ev (pkV ((j:Int)+3)) 1),I (rtN ev (pkV ((j:Int)+3)) 2),I (rtN ev (pkV ((j:Int)+3)) 3),I (rtN ev (pkV ((j:Int)+3)) 4),I (rtN ev (pkV ((j:Int)+3)) 5),.slice ua (rtP ev (pkV ((j:Int)+3))).length uc,.slice vb (rtV ev (pkV ((j:Int)+3))).length vd] 43))=Wz:=⟨_,rfl⟩
   rw [hW4] at TC KC RC NC UC EC BC
   rw [hW4] at RP RV
   cases h2:rtK ev (pkV ((j:Int)+3)) with
   | false =>
    have q2_:=EC.at 1 rfl
    have HR:Hid (dgG c realm now fresh (t:Int) nonce ((j:Int)+3) key wa wb we ev=.error 1):=by show _=_;rw [HC.out,if_neg (fun h=>by rw [h2] at h;cases h.1)]
    have FU:=UC.sets [I n0,I n1,I n2,I n3,I n4,I n5,.slice na nl nc,.slice ma ml mc] rfl
    have FB:=below_sets (m:=w.heap.size) (g:=(w.heap.size+1+1+1+1)) (by omega) [I n0,I n1,I n2,I n3,I n4,I n5,.slice na nl nc,.slice ma ml mc] 0 _ BC
    go_wp2_with (first | (rw [hW4]) | (refine wpList_ldB 43 _ (w.heap.size+1+1+1) 0 _ [I n0,I n1,I n2,I n3,I n4,I n5,.slice na nl nc,.slice ma ml mc] it hit ag43 NC (by rw [htz];rfl) rfl rfl rfl rfl ?_;try simp only [Act.put]) | (refine wpList_stB 43 _ _ (w.heap.size+1+1+1+1) 0 _ [I n0,I n1,I n2,I n3,I n4,I n5,.slice na nl nc,.slice ma ml mc] it hit UC (by rw [htz];rfl) (by simp) rfl rfl rfl rfl rfl ?_;try simp only [Act.put]))
    exact bodyPost_ret (res_B2 rfl _ _ (w.heap.size+1+1+1+1) _ (I 1) it hit ag43 FU (by rw [htz];rfl) rfl rfl) rfl ⟨by rw [HR.out];exact ⟨rfl,by omega⟩,FB⟩
   | true =>
    by_cases h3:rtN ev (pkV ((j:Int)+3)) 1=(j:Int)
    ·rw [if_pos ⟨h2,h3⟩] at HC
     rw [h3] at EC hW4
     try rw [h3]
     clear h3
     have q1e:=EC.at 1 rfl
     have q2_:=EC.at 5 rfl
     by_cases h5:rtN ev (pkV ((j:Int)+3)) 5 < now
     ·rw [if_pos h5] at HC
      have HR:=HC
      have FU:=UC.sets [I n0,I n1,I n2,I n3,I n4,I n5,.slice na nl nc,.slice ma ml mc] rfl
      have FB:=below_sets (m:=w.heap.size) (g:=(w.heap.size+1+1+1+1)) (by omega) [I n0,I n1,I n2,I n3,I n4,I n5,.slice na nl nc,.slice ma ml mc] 0 _ BC
      go_wp2_with (first | (rw [hW4]) | (refine wpList_ldB 43 _ (w.heap.size+1+1+1) 0 _ [I n0,I n1,I n2,I n3,I n4,I n5,.slice na nl nc,.slice ma ml mc] it hit ag43 NC (by rw [htz];rfl) rfl rfl rfl rfl ?_;try simp only [Act.put]) | (refine wpList_stB 43 _ _ (w.heap.size+1+1+1+1) 0 _ [I n0,I n1,I n2,I n3,I n4,I n5,.slice na nl nc,.slice ma ml mc] it hit UC (by rw [htz];rfl) (by simp) rfl rfl rfl rfl rfl ?_;try simp only [Act.put]))
      exact bodyPost_ret (res_B2 rfl _ _ (w.heap.size+1+1+1+1) _ (I 4) it hit ag43 FU (by rw [htz];rfl) rfl rfl) rfl ⟨by rw [HR.out];exact ⟨rfl,by omega⟩,FB⟩
     ·rw [if_neg h5] at HC
      have q3_:=TC.at 3 rfl
      go_wp2_with (first | (rw [hW4]))
      refine (has_is c.xa c.xc c.X (j:Int) (t:Int) _ (C.later BC).hx K.lx).mono ?_
      rintro en w5 ⟨rfl,hb⟩
      replace TC:=TC.later hb TC.lt
      replace KC:=KC.later hb KC.lt
      replace RC:=RC.later hb RC.lt
      replace NC:=NC.later hb NC.lt
      replace UC:=UC.later hb UC.lt
      replace EC:=EC.later hb EC.lt
      replace RP:=RP.later hb
      replace RV:=RV.later hb
      replace BC:=BC.trans (hb.mono BC.size)
      have z5:=hb.size
      clear hb q1e
      clear q2_ q3_ hW4
      by_cases hm:((j:Int),(t:Int))∈c.X
      ·rw [decide_eq_true hm]
       have q4_:=EC.at 7 rfl
       have hv4:=rtV_four ev (pkV ((j:Int)+3))
       by_cases hl:(rtV ev (pkV ((j:Int)+3))).length=4
       ·rw [if_neg (fun h=>h.2 hl)] at HC
        have HR:=HC
        have hl2:¬ ((rtV ev (pkV ((j:Int)+3))).length:Int) < 4:=by omega
        clear hv4
        have FU:=UC.sets [I n0,I n1,I n2,I n3,I n4,I n5,.slice na nl nc,.slice ma ml mc] rfl
        have FB:=below_sets (m:=w.heap.size) (g:=(w.heap.size+1+1+1+1)) (by omega) [I n0,I n1,I n2,I n3,I n4,I n5,.slice na nl nc,.slice ma ml mc] 0 _ BC
        go_wp2_with (first | (refine wpList_ldB 43 _ (w.heap.size+1+1+1) 0 _ [I n0,I n1,I n2,I n3,I n4,I n5,.slice na nl nc,.slice ma ml mc] it hit ag43 NC (by rw [htz];rfl) rfl rfl rfl rfl ?_;try simp only [Act.put]) | (refine wpList_stB 43 _ _ (w.heap.size+1+1+1+1) 0 _ [I n0,I n1,I n2,I n3,I n4,I n5,.slice na nl nc,.slice ma ml mc] it hit UC (by rw [htz];rfl) (by simp) rfl rfl rfl rfl rfl ?_;try simp only [Act.put]))
        exact bodyPost_ret (res_B2 rfl _ _ (w.heap.size+1+1+1+1) _ (I 6) it hit ag43 FU (by rw [htz];rfl) rfl rfl) rfl ⟨by rw [HR.out];exact ⟨rfl,by omega⟩,FB⟩
       ·rw [if_pos ⟨hm,hl⟩] at HC
        have HR:=HC
        clear HC
        have hl2:((rtV ev (pkV ((j:Int)+3))).length:Int) < 4:=by omega
        clear hv4
        have zW_:=zW.out
        have q5_:=EC.at 0 rfl
        replace RP:=RowAt.sets8 (q:=(w.heap.size+1+1+1)) (fun p e=>by subst e;have:=(kP2 p.block rfl).1;omega) [I (rtN ev (pkV ((j:Int)+3)) 0)] 0 _ RP
        replace RV:=RowAt.sets8 (q:=(w.heap.size+1+1+1)) (fun p e=>by subst e;have:=(kV2 p.block rfl).1;omega) [I (rtN ev (pkV ((j:Int)+3)) 0)] 0 _ RV
        obtain ⟨A1,hA1⟩:∃ Wz,(World.setCells w5 (w.heap.size+1+1+1) 0 [I (rtN ev (pkV ((j:Int)+3)) 0)])=Wz:=⟨_,rfl⟩
        have NC_:Blk (w.heap.size+1+1+1) [I (rtN ev (pkV ((j:Int)+3)) 0),I n1,I n2,I n3,I n4,I n5,.slice na nl nc,.slice ma ml mc] A1:=by rw [← hA1];exact NC.part 0 [I (rtN ev (pkV ((j:Int)+3)) 0)] _ (by simp) rfl
        have TC_:=hA1 ▸ Blk.farS (q:=(w.heap.size+1+1+1)) (by omega) [I (rtN ev (pkV ((j:Int)+3)) 0)] 0 _ TC
        have KC_:=hA1 ▸ Blk.farS (q:=(w.heap.size+1+1+1)) (by omega) [I (rtN ev (pkV ((j:Int)+3)) 0)] 0 _ KC
        have RC_:=hA1 ▸ Blk.farS (q:=(w.heap.size+1+1+1)) (by omega) [I (rtN ev (pkV ((j:Int)+3)) 0)] 0 _ RC
        have UC_:=hA1 ▸ Blk.farS (q:=(w.heap.size+1+1+1)) (by omega) [I (rtN ev (pkV ((j:Int)+3)) 0)] 0 _ UC
        have EC_:=hA1 ▸ Blk.farS (q:=(w.heap.size+1+1+1)) (by omega) [I (rtN ev (pkV ((j:Int)+3)) 0)] 0 _ EC
        have BC_:Below w.heap.size w A1:=by rw [← hA1];exact below_sets (g:=(w.heap.size+1+1+1)) (by omega) [I (rtN ev (pkV ((j:Int)+3)) 0)] 0 _ BC
        have NC0A1:=NC
        clear TC KC RC NC UC EC BC
        have TC:=TC_
        have KC:=KC_
        have RC:=RC_
        have NC:=NC_
        have UC:=UC_
        have EC:=EC_
        have BC:=BC_
        clear TC_ KC_ RC_ NC_ UC_ EC_ BC_
        rw [hA1] at RP RV
        have q6_:=EC.at 3 rfl
        have q7_:=EC.at 4 rfl
        have q8_:=EC.at 5 rfl
        have q9_:=RC.at 0 rfl
        have q10_:=RC.at 1 rfl
        have q11_:=RC.at 2 rfl
        go_wp2_with (first | (refine wpList_st1 3 _ _ (w.heap.size+1+1+1) 0 _ (I (rtN ev (pkV ((j:Int)+3)) 0)) i1 hi1 NC0A1 hz1 (by simp) rfl rfl rfl rfl rfl ?_;try simp only [Act.put];rw [hA1]))
        refine (specMeet_is (rtN ev (pkV ((j:Int)+3)) 3) (rtN ev (pkV ((j:Int)+3)) 4) (rtN ev (pkV ((j:Int)+3)) 5) wa wb we _).mono ?_
        rintro en w6 ⟨rfl,hb⟩
        replace TC:=TC.later hb TC.lt
        replace KC:=KC.later hb KC.lt
        replace RC:=RC.later hb RC.lt
        replace NC:=NC.later hb NC.lt
        replace UC:=UC.later hb UC.lt
        replace EC:=EC.later hb EC.lt
        replace RP:=RP.later hb
        replace RV:=RV.later hb
        replace BC:=BC.trans (hb.mono BC.size)
        have z6:=hb.size
        clear hb
        clear q4_ q5_ NC0A1 q6_ q7_ q8_ q9_ q10_ q11_ hA1
        replace RP:=RowAt.sets8 (q:=(w.heap.size+1+1+1)) (fun p e=>by subst e;have:=(kP2 p.block rfl).1;omega) [I (mA (rtN ev (pkV ((j:Int)+3)) 3) (rtN ev (pkV ((j:Int)+3)) 4) (rtN ev (pkV ((j:Int)+3)) 5) wa wb we),I (mB (rtN ev (pkV ((j:Int)+3)) 3) (rtN ev (pkV ((j:Int)+3)) 4) (rtN ev (pkV ((j:Int)+3)) 5) wa wb we),I (mC (rtN ev (pkV ((j:Int)+3)) 3) (rtN ev (pkV ((j:Int)+3)) 4) (rtN ev (pkV ((j:Int)+3)) 5) wa wb we)] 3 _ RP
        replace RV:=RowAt.sets8 (q:=(w.heap.size+1+1+1)) (fun p e=>by subst e;have:=(kV2 p.block rfl).1;omega) [I (mA (rtN ev (pkV ((j:Int)+3)) 3) (rtN ev (pkV ((j:Int)+3)) 4) (rtN ev (pkV ((j:Int)+3)) 5) wa wb we),I (mB (rtN ev (pkV ((j:Int)+3)) 3) (rtN ev (pkV ((j:Int)+3)) 4) (rtN ev (pkV ((j:Int)+3)) 5) wa wb we),I (mC (rtN ev (pkV ((j:Int)+3)) 3) (rtN ev (pkV ((j:Int)+3)) 4) (rtN ev (pkV ((j:Int)+3)) 5) wa wb we)] 3 _ RV
        obtain ⟨A2,hA2⟩:∃ Wz,(World.setCells w6 (w.heap.size+1+1+1) 3 [I (mA (rtN ev (pkV ((j:Int)+3)) 3) (rtN ev (pkV ((j:Int)+3)) 4) (rtN ev (pkV ((j:Int)+3)) 5) wa wb we),I (mB (rtN ev (pkV ((j:Int)+3)) 3) (rtN ev (pkV ((j:Int)+3)) 4) (rtN ev (pkV ((j:Int)+3)) 5) wa wb we),I (mC (rtN ev (pkV ((j:Int)+3)) 3) (rtN ev (pkV ((j:Int)+3)) 4) (rtN ev (pkV ((j:Int)+3)) 5) wa wb we)])=Wz:=⟨_,rfl⟩
        have NC_:Blk (w.heap.size+1+1+1) [I (rtN ev (pkV ((j:Int)+3)) 0),I n1,I n2,I (mA (rtN ev (pkV ((j:Int)+3)) 3) (rtN ev (pkV ((j:Int)+3)) 4) (rtN ev (pkV ((j:Int)+3)) 5) wa wb we),I (mB (rtN ev (pkV ((j:Int)+3)) 3) (rtN ev (pkV ((j:Int)+3)) 4) (rtN ev (pkV ((j:Int)+3)) 5) wa wb we),I (mC (rtN ev (pkV ((j:Int)+3)) 3) (rtN ev (pkV ((j:Int)+3)) 4) (rtN ev (pkV ((j:Int)+3)) 5) wa wb we),.slice na nl nc,.slice ma ml mc] A2:=by rw [← hA2];exact NC.part 3 [I (mA (rtN ev (pkV ((j:Int)+3)) 3) (rtN ev (pkV ((j:Int)+3)) 4) (rtN ev (pkV ((j:Int)+3)) 5) wa wb we),I (mB (rtN ev (pkV ((j:Int)+3)) 3) (rtN ev (pkV ((j:Int)+3)) 4) (rtN ev (pkV ((j:Int)+3)) 5) wa wb we),I (mC (rtN ev (pkV ((j:Int)+3)) 3) (rtN ev (pkV ((j:Int)+3)) 4) (rtN ev (pkV ((j:Int)+3)) 5) wa wb we)] _ (by simp) rfl
        have TC_:=hA2 ▸ Blk.farS (q:=(w.heap.size+1+1+1)) (by omega) [I (mA (rtN ev (pkV ((j:Int)+3)) 3) (rtN ev (pkV ((j:Int)+3)) 4) (rtN ev (pkV ((j:Int)+3)) 5) wa wb we),I (mB (rtN ev (pkV ((j:Int)+3)) 3) (rtN ev (pkV ((j:Int)+3)) 4) (rtN ev (pkV ((j:Int)+3)) 5) wa wb we),I (mC (rtN ev (pkV ((j:Int)+3)) 3) (rtN ev (pkV ((j:Int)+3)) 4) (rtN ev (pkV ((j:Int)+3)) 5) wa wb we)] 3 _ TC
        have KC_:=hA2 ▸ Blk.farS (q:=(w.heap.size+1+1+1)) (by omega) [I (mA (rtN ev (pkV ((j:Int)+3)) 3) (rtN ev (pkV ((j:Int)+3)) 4) (rtN ev (pkV ((j:Int)+3)) 5) wa wb we),I (mB (rtN ev (pkV ((j:Int)+3)) 3) (rtN ev (pkV ((j:Int)+3)) 4) (rtN ev (pkV ((j:Int)+3)) 5) wa wb we),I (mC (rtN ev (pkV ((j:Int)+3)) 3) (rtN ev (pkV ((j:Int)+3)) 4) (rtN ev (pkV ((j:Int)+3)) 5) wa wb we)] 3 _ KC
        have RC_:=hA2 ▸ Blk.farS (q:=(w.heap.size+1+1+1)) (by omega) [I (mA (rtN ev (pkV ((j:Int)+3)) 3) (rtN ev (pkV ((j:Int)+3)) 4) (rtN ev (pkV ((j:Int)+3)) 5) wa wb we),I (mB (rtN ev (pkV ((j:Int)+3)) 3) (rtN ev (pkV ((j:Int)+3)) 4) (rtN ev (pkV ((j:Int)+3)) 5) wa wb we),I (mC (rtN ev (pkV ((j:Int)+3)) 3) (rtN ev (pkV ((j:Int)+3)) 4) (rtN ev (pkV ((j:Int)+3)) 5) wa wb we)] 3 _ RC
        have UC_:=hA2 ▸ Blk.farS (q:=(w.heap.size+1+1+1)) (by omega) [I (mA (rtN ev (pkV ((j:Int)+3)) 3) (rtN ev (pkV ((j:Int)+3)) 4) (rtN ev (pkV ((j:Int)+3)) 5) wa wb we),I (mB (rtN ev (pkV ((j:Int)+3)) 3) (rtN ev (pkV ((j:Int)+3)) 4) (rtN ev (pkV ((j:Int)+3)) 5) wa wb we),I (mC (rtN ev (pkV ((j:Int)+3)) 3) (rtN ev (pkV ((j:Int)+3)) 4) (rtN ev (pkV ((j:Int)+3)) 5) wa wb we)] 3 _ UC
        have EC_:=hA2 ▸ Blk.farS (q:=(w.heap.size+1+1+1)) (by omega) [I (mA (rtN ev (pkV ((j:Int)+3)) 3) (rtN ev (pkV ((j:Int)+3)) 4) (rtN ev (pkV ((j:Int)+3)) 5) wa wb we),I (mB (rtN ev (pkV ((j:Int)+3)) 3) (rtN ev (pkV ((j:Int)+3)) 4) (rtN ev (pkV ((j:Int)+3)) 5) wa wb we),I (mC (rtN ev (pkV ((j:Int)+3)) 3) (rtN ev (pkV ((j:Int)+3)) 4) (rtN ev (pkV ((j:Int)+3)) 5) wa wb we)] 3 _ EC
        have BC_:Below w.heap.size w A2:=by rw [← hA2];exact below_sets (g:=(w.heap.size+1+1+1)) (by omega) [I (mA (rtN ev (pkV ((j:Int)+3)) 3) (rtN ev (pkV ((j:Int)+3)) 4) (rtN ev (pkV ((j:Int)+3)) 5) wa wb we),I (mB (rtN ev (pkV ((j:Int)+3)) 3) (rtN ev (pkV ((j:Int)+3)) 4) (rtN ev (pkV ((j:Int)+3)) 5) wa wb we),I (mC (rtN ev (pkV ((j:Int)+3)) 3) (rtN ev (pkV ((j:Int)+3)) 4) (rtN ev (pkV ((j:Int)+3)) 5) wa wb we)] 3 _ BC
        have NC0A2:=NC
        clear TC KC RC NC UC EC BC
        have TC:=TC_
        have KC:=KC_
        have RC:=RC_
        have NC:=NC_
        have UC:=UC_
        have EC:=EC_
        have BC:=BC_
        clear TC_ KC_ RC_ NC_ UC_ EC_ BC_
        rw [hA2] at RP RV
        have q12_:=EC.at 6 rfl
        replace RP:=RowAt.sets8 (q:=(w.heap.size+1+1+1)) (fun p e=>by subst e;have:=(kP2 p.block rfl).1;omega) [.slice ua (rtP ev (pkV ((j:Int)+3))).length uc] 6 _ RP
        replace RV:=RowAt.sets8 (q:=(w.heap.size+1+1+1)) (fun p e=>by subst e;have:=(kV2 p.block rfl).1;omega) [.slice ua (rtP ev (pkV ((j:Int)+3))).length uc] 6 _ RV
        obtain ⟨A3,hA3⟩:∃ Wz,(World.setCells A2 (w.heap.size+1+1+1) 6 [.slice ua (rtP ev (pkV ((j:Int)+3))).length uc])=Wz:=⟨_,rfl⟩
        have NC_:Blk (w.heap.size+1+1+1) [I (rtN ev (pkV ((j:Int)+3)) 0),I n1,I n2,I (mA (rtN ev (pkV ((j:Int)+3)) 3) (rtN ev (pkV ((j:Int)+3)) 4) (rtN ev (pkV ((j:Int)+3)) 5) wa wb we),I (mB (rtN ev (pkV ((j:Int)+3)) 3) (rtN ev (pkV ((j:Int)+3)) 4) (rtN ev (pkV ((j:Int)+3)) 5) wa wb we),I (mC (rtN ev (pkV ((j:Int)+3)) 3) (rtN ev (pkV ((j:Int)+3)) 4) (rtN ev (pkV ((j:Int)+3)) 5) wa wb we),.slice ua (rtP ev (pkV ((j:Int)+3))).length uc,.slice ma ml mc] A3:=by rw [← hA3];exact NC.part 6 [.slice ua (rtP ev (pkV ((j:Int)+3))).length uc] _ (by simp) rfl
        have TC_:=hA3 ▸ Blk.farS (q:=(w.heap.size+1+1+1)) (by omega) [.slice ua (rtP ev (pkV ((j:Int)+3))).length uc] 6 _ TC
        have KC_:=hA3 ▸ Blk.farS (q:=(w.heap.size+1+1+1)) (by omega) [.slice ua (rtP ev (pkV ((j:Int)+3))).length uc] 6 _ KC
        have RC_:=hA3 ▸ Blk.farS (q:=(w.heap.size+1+1+1)) (by omega) [.slice ua (rtP ev (pkV ((j:Int)+3))).length uc] 6 _ RC
        have UC_:=hA3 ▸ Blk.farS (q:=(w.heap.size+1+1+1)) (by omega) [.slice ua (rtP ev (pkV ((j:Int)+3))).length uc] 6 _ UC
        have EC_:=hA3 ▸ Blk.farS (q:=(w.heap.size+1+1+1)) (by omega) [.slice ua (rtP ev (pkV ((j:Int)+3))).length uc] 6 _ EC
        have BC_:Below w.heap.size w A3:=by rw [← hA3];exact below_sets (g:=(w.heap.size+1+1+1)) (by omega) [.slice ua (rtP ev (pkV ((j:Int)+3))).length uc] 6 _ BC
        have NC0A3:=NC
        clear TC KC RC NC UC EC BC
        have TC:=TC_
        have KC:=KC_
        have RC:=RC_
        have NC:=NC_
        have UC:=UC_
        have EC:=EC_
        have BC:=BC_
        clear TC_ KC_ RC_ NC_ UC_ EC_ BC_
        rw [hA3] at RP RV
        have q13_:=EC.at 7 rfl
        have zA:Hid (w3.heap.size < A3.heap.size):=EC.lt
        have lit:(A3.alloc (.cells #[] 3)).ownsRow A3.heap.size 3 1 (.slice (some ⟨A3.heap.size,0,none⟩) 0 0) 0 (intV []):=World.ownsRow_lit _ _ _ (Nat.le_refl _) (by unfold maxLen;omega) rfl
        have RVl:=RV.later ((Below.refl _ _).alloc (Nat.le_refl _) (.cells #[] 3))
        have qe7:=(EC.alloc EC.lt (.cells #[] 3)).at 7 rfl
        go_wp2_with (first | (refine wpList_stB 31 _ _ (w.heap.size+1+1+1) 3 _ [I (mA (rtN ev (pkV ((j:Int)+3)) 3) (rtN ev (pkV ((j:Int)+3)) 4) (rtN ev (pkV ((j:Int)+3)) 5) wa wb we),I (mB (rtN ev (pkV ((j:Int)+3)) 3) (rtN ev (pkV ((j:Int)+3)) 4) (rtN ev (pkV ((j:Int)+3)) 5) wa wb we),I (mC (rtN ev (pkV ((j:Int)+3)) 3) (rtN ev (pkV ((j:Int)+3)) 4) (rtN ev (pkV ((j:Int)+3)) 5) wa wb we)] i3 hi3 NC0A2 (by rw [hz3];rfl) (by simp) rfl rfl rfl rfl rfl ?_;try simp only [Act.put];rw [hA2]) | (refine wpList_st1 24 _ _ (w.heap.size+1+1+1) 6 _ (.slice ua (rtP ev (pkV ((j:Int)+3))).length uc) is his NC0A3 hzs (by simp) rfl rfl rfl rfl rfl ?_;try simp only [Act.put];rw [hA3]) | (at_builtin;go_loud (refine wpList_app_ints _ rfl _ _ rfl A3.heap.size _ 0 [] rfl lit vb vd (rtV ev (pkV ((j:Int)+3))) rfl RVl ?a1 ?a2 ?_)))
        case a1=>have:=rtV_len ev (pkV ((j:Int)+3));omega
        case a2=>simp
        clear NC0A2 q12_ NC0A3 q13_ qe7 hA2 hA3
        intro v7 w7 o7 hg7
        try rw [List.nil_append] at o7
        try rw [Nat.zero_add] at o7
        have zz:=BC.size
        replace BC:=below_grown (BC.alloc BC.size (.cells #[] 3)) hg7 (by simp;omega) (fun q e=>by cases e;exact zz)
        replace TC:=(TC.alloc TC.lt (.cells #[] 3)).grown hg7 (by have:=TC.lt;simp;omega) (fun e=>by have h_:=TC.lt;have e_:=Option.some.inj (show some _=some A3.heap.size from e);omega)
        replace KC:=(KC.alloc KC.lt (.cells #[] 3)).grown hg7 (by have:=KC.lt;simp;omega) (fun e=>by have h_:=KC.lt;have e_:=Option.some.inj (show some _=some A3.heap.size from e);omega)
        replace RC:=(RC.alloc RC.lt (.cells #[] 3)).grown hg7 (by have:=RC.lt;simp;omega) (fun e=>by have h_:=RC.lt;have e_:=Option.some.inj (show some _=some A3.heap.size from e);omega)
        replace NC:=(NC.alloc NC.lt (.cells #[] 3)).grown hg7 (by have:=NC.lt;simp;omega) (fun e=>by have h_:=NC.lt;have e_:=Option.some.inj (show some _=some A3.heap.size from e);omega)
        replace UC:=(UC.alloc UC.lt (.cells #[] 3)).grown hg7 (by have:=UC.lt;simp;omega) (fun e=>by have h_:=UC.lt;have e_:=Option.some.inj (show some _=some A3.heap.size from e);omega)
        replace EC:=(EC.alloc EC.lt (.cells #[] 3)).grown hg7 (by have:=EC.lt;simp;omega) (fun e=>by have h_:=EC.lt;have e_:=Option.some.inj (show some _=some A3.heap.size from e);omega)
        replace RP:RowAt (Value.int .i64) w7 ua _:=row_grown (RP.later ((Below.refl _ _).alloc (Nat.le_refl _) (.cells #[] 3))) hg7 (fun p e h=>by subst e;have e_:=Option.some.inj (show some A3.heap.size=some p.block from h);have:=(kP2 p.block rfl).2;have:=zA.out;omega)
        obtain ⟨va7,vc7,rfl,hvc7,RV7⟩:=own_row (f:=Value.int .i64) (xs:=rtV ev (pkV ((j:Int)+3))) o7
        have k7:=own_in o7
        have zA3:A3.heap.size≤w7.heap.size:=by have h_:=hg7.size;simp at h_;omega
        clear hg7 lit RVl RV
        have o7a:=o7.alloc (.cells #[I (j:Int)] 3)
        have r1:RowAt (Value.int .i64) (w7.alloc (.cells #[I (j:Int)] 3)) (some ⟨w7.heap.size,0,none⟩) [(j:Int)]:=row_new (Value.int .i64) w7 [(j:Int)] 3
        go_wp2_with (at_builtin;refine wpList_app_ints _ rfl _ _ rfl A3.heap.size _ (rtV ev (pkV ((j:Int)+3))).length (rtV ev (pkV ((j:Int)+3))) rfl o7a (some ⟨w7.heap.size,0,none⟩) 1 [(j:Int)] rfl r1 ?b1 ?b2 ?_)
        case b1=>have:=rtV_len ev (pkV ((j:Int)+3));simp;omega
        case b2=>simp;omega
        intro v8 w8 o8 hg8
        have zz8:=BC.size
        replace BC:=below_grown (BC.alloc BC.size (.cells #[I (j:Int)] 3)) hg8 (by simp;omega) (fun q e=>by have:=(k7 q e).1;have:=zA.out;omega)
        replace TC:=(TC.alloc TC.lt (.cells #[I (j:Int)] 3)).grown hg8 (by have:=TC.lt;simp;omega) (fun e=>by have:=(k7 _ e.symm).1;have:=zA.out;have:=zW.out;omega)
        replace KC:=(KC.alloc KC.lt (.cells #[I (j:Int)] 3)).grown hg8 (by have:=KC.lt;simp;omega) (fun e=>by have:=(k7 _ e.symm).1;have:=zA.out;have:=zW.out;omega)
        replace RC:=(RC.alloc RC.lt (.cells #[I (j:Int)] 3)).grown hg8 (by have:=RC.lt;simp;omega) (fun e=>by have:=(k7 _ e.symm).1;have:=zA.out;have:=zW.out;omega)
        replace NC:=(NC.alloc NC.lt (.cells #[I (j:Int)] 3)).grown hg8 (by have:=NC.lt;simp;omega) (fun e=>by have:=(k7 _ e.symm).1;have:=zA.out;have:=zW.out;omega)
        replace UC:=(UC.alloc UC.lt (.cells #[I (j:Int)] 3)).grown hg8 (by have:=UC.lt;simp;omega) (fun e=>by have:=(k7 _ e.symm).1;have:=zA.out;have:=zW.out;omega)
        replace EC:=(EC.alloc EC.lt (.cells #[I (j:Int)] 3)).grown hg8 (by have:=EC.lt;simp;omega) (fun e=>by have:=(k7 _ e.symm).1;have:=zA.out;omega)
        replace RP:RowAt (Value.int .i64) w8 ua _:=row_grown (RP.later ((Below.refl _ _).alloc (Nat.le_refl _) (.cells #[I (j:Int)] 3))) hg8 (fun p e h=>by subst e;have:=(kP2 p.block rfl).2;have:=(k7 _ h).1;have:=zA.out;omega)
        obtain ⟨va8,vc8,hv8,hvc8,RV8⟩:=own_row (f:=Value.int .i64) (xs:=rtV ev (pkV ((j:Int)+3))++[(j:Int)]) o8
        have e_:(rtV ev (pkV ((j:Int)+3))++[(j:Int)]).length=(rtV ev (pkV ((j:Int)+3))).length+1:=by simp
        rw [e_] at hv8 hvc8
        subst hv8
        have E_:Hid ((rtV ev (pkV ((j:Int)+3))++[(j:Int)]).length=(rtV ev (pkV ((j:Int)+3))).length+1):=e_
        clear e_
        have k8:=own_in o8
        have f8:∀ p:Addr,va8=some p→w.heap.size+5≤p.block:=fun p e=>by subst e;have:=(k8 p.block rfl).1;have:=zA.out;have:=zW.out;omega
        clear o8 o7 o7a r1 hg8 k8 k7 RV7
        replace RV8:=RowAt.sets8 (q:=(w.heap.size+1+1+1)) (fun p e=>by have:=f8 p e;omega) [.slice va8 ((rtV ev (pkV ((j:Int)+3))).length+1) vc8] 7 _ RV8
        replace RP:=RowAt.sets8 (q:=(w.heap.size+1+1+1)) (fun p e=>by subst e;have:=(kP2 p.block rfl).1;omega) [.slice va8 ((rtV ev (pkV ((j:Int)+3))).length+1) vc8] 7 _ RP
        obtain ⟨A5,hA5⟩:∃ Wz,(World.setCells w8 (w.heap.size+1+1+1) 7 [.slice va8 ((rtV ev (pkV ((j:Int)+3))).length+1) vc8])=Wz:=⟨_,rfl⟩
        have NC_:Blk (w.heap.size+1+1+1) [I (rtN ev (pkV ((j:Int)+3)) 0),I n1,I n2,I (mA (rtN ev (pkV ((j:Int)+3)) 3) (rtN ev (pkV ((j:Int)+3)) 4) (rtN ev (pkV ((j:Int)+3)) 5) wa wb we),I (mB (rtN ev (pkV ((j:Int)+3)) 3) (rtN ev (pkV ((j:Int)+3)) 4) (rtN ev (pkV ((j:Int)+3)) 5) wa wb we),I (mC (rtN ev (pkV ((j:Int)+3)) 3) (rtN ev (pkV ((j:Int)+3)) 4) (rtN ev (pkV ((j:Int)+3)) 5) wa wb we),.slice ua (rtP ev (pkV ((j:Int)+3))).length uc,.slice va8 ((rtV ev (pkV ((j:Int)+3))).length+1) vc8] A5:=by rw [← hA5];exact NC.part 7 [.slice va8 ((rtV ev (pkV ((j:Int)+3))).length+1) vc8] _ (by simp) rfl
        have TC_:=hA5 ▸ Blk.farS (q:=(w.heap.size+1+1+1)) (by omega) [.slice va8 ((rtV ev (pkV ((j:Int)+3))).length+1) vc8] 7 _ TC
        have KC_:=hA5 ▸ Blk.farS (q:=(w.heap.size+1+1+1)) (by omega) [.slice va8 ((rtV ev (pkV ((j:Int)+3))).length+1) vc8] 7 _ KC
        have RC_:=hA5 ▸ Blk.farS (q:=(w.heap.size+1+1+1)) (by omega) [.slice va8 ((rtV ev (pkV ((j:Int)+3))).length+1) vc8] 7 _ RC
        have UC_:=hA5 ▸ Blk.farS (q:=(w.heap.size+1+1+1)) (by omega) [.slice va8 ((rtV ev (pkV ((j:Int)+3))).length+1) vc8] 7 _ UC
        have EC_:=hA5 ▸ Blk.farS (q:=(w.heap.size+1+1+1)) (by omega) [.slice va8 ((rtV ev (pkV ((j:Int)+3))).length+1) vc8] 7 _ EC
        have BC_:Below w.heap.size w A5:=by rw [← hA5];exact below_sets (g:=(w.heap.size+1+1+1)) (by omega) [.slice va8 ((rtV ev (pkV ((j:Int)+3))).length+1) vc8] 7 _ BC
        have NC0A5:=NC
        clear TC KC RC NC UC EC BC
        have TC:=TC_
        have KC:=KC_
        have RC:=RC_
        have NC:=NC_
        have UC:=UC_
        have EC:=EC_
        have BC:=BC_
        clear TC_ KC_ RC_ NC_ UC_ EC_ BC_
        rw [hA5] at RP
        rw [hA5] at RV8
        replace RP:=RowAt.sets8 (q:=(w.heap.size+1+1+1+1)) (fun p e=>by subst e;have:=(kP2 p.block rfl).1;omega) [I (rtN ev (pkV ((j:Int)+3)) 0),I n1,I n2,I (mA (rtN ev (pkV ((j:Int)+3)) 3) (rtN ev (pkV ((j:Int)+3)) 4) (rtN ev (pkV ((j:Int)+3)) 5) wa wb we),I (mB (rtN ev (pkV ((j:Int)+3)) 3) (rtN ev (pkV ((j:Int)+3)) 4) (rtN ev (pkV ((j:Int)+3)) 5) wa wb we),I (mC (rtN ev (pkV ((j:Int)+3)) 3) (rtN ev (pkV ((j:Int)+3)) 4) (rtN ev (pkV ((j:Int)+3)) 5) wa wb we),.slice ua (rtP ev (pkV ((j:Int)+3))).length uc,.slice va8 ((rtV ev (pkV ((j:Int)+3))).length+1) vc8] 0 _ RP
        replace RV8:=RowAt.sets8 (q:=(w.heap.size+1+1+1+1)) (fun p e=>by have:=f8 p e;omega) [I (rtN ev (pkV ((j:Int)+3)) 0),I n1,I n2,I (mA (rtN ev (pkV ((j:Int)+3)) 3) (rtN ev (pkV ((j:Int)+3)) 4) (rtN ev (pkV ((j:Int)+3)) 5) wa wb we),I (mB (rtN ev (pkV ((j:Int)+3)) 3) (rtN ev (pkV ((j:Int)+3)) 4) (rtN ev (pkV ((j:Int)+3)) 5) wa wb we),I (mC (rtN ev (pkV ((j:Int)+3)) 3) (rtN ev (pkV ((j:Int)+3)) 4) (rtN ev (pkV ((j:Int)+3)) 5) wa wb we),.slice ua (rtP ev (pkV ((j:Int)+3))).length uc,.slice va8 ((rtV ev (pkV ((j:Int)+3))).length+1) vc8] 0 _ RV8
        have FU:=UC.sets [I (rtN ev (pkV ((j:Int)+3)) 0),I n1,I n2,I (mA (rtN ev (pkV ((j:Int)+3)) 3) (rtN ev (pkV ((j:Int)+3)) 4) (rtN ev (pkV ((j:Int)+3)) 5) wa wb we),I (mB (rtN ev (pkV ((j:Int)+3)) 3) (rtN ev (pkV ((j:Int)+3)) 4) (rtN ev (pkV ((j:Int)+3)) 5) wa wb we),I (mC (rtN ev (pkV ((j:Int)+3)) 3) (rtN ev (pkV ((j:Int)+3)) 4) (rtN ev (pkV ((j:Int)+3)) 5) wa wb we),.slice ua (rtP ev (pkV ((j:Int)+3))).length uc,.slice va8 ((rtV ev (pkV ((j:Int)+3))).length+1) vc8] rfl
        have FB:=below_sets (m:=w.heap.size) (g:=(w.heap.size+1+1+1+1)) (by omega) [I (rtN ev (pkV ((j:Int)+3)) 0),I n1,I n2,I (mA (rtN ev (pkV ((j:Int)+3)) 3) (rtN ev (pkV ((j:Int)+3)) 4) (rtN ev (pkV ((j:Int)+3)) 5) wa wb we),I (mB (rtN ev (pkV ((j:Int)+3)) 3) (rtN ev (pkV ((j:Int)+3)) 4) (rtN ev (pkV ((j:Int)+3)) 5) wa wb we),I (mC (rtN ev (pkV ((j:Int)+3)) 3) (rtN ev (pkV ((j:Int)+3)) 4) (rtN ev (pkV ((j:Int)+3)) 5) wa wb we),.slice ua (rtP ev (pkV ((j:Int)+3))).length uc,.slice va8 ((rtV ev (pkV ((j:Int)+3))).length+1) vc8] 0 _ BC
        go_wp2_with (first | (refine wpList_st1 24 _ _ (w.heap.size+1+1+1) 7 _ (.slice va8 ((rtV ev (pkV ((j:Int)+3))).length+1) vc8) is his NC0A5 hzs (by simp) rfl rfl rfl rfl rfl ?_;try simp only [Act.put];rw [hA5]) | (refine wpList_ldB 43 _ (w.heap.size+1+1+1) 0 _ [I (rtN ev (pkV ((j:Int)+3)) 0),I n1,I n2,I (mA (rtN ev (pkV ((j:Int)+3)) 3) (rtN ev (pkV ((j:Int)+3)) 4) (rtN ev (pkV ((j:Int)+3)) 5) wa wb we),I (mB (rtN ev (pkV ((j:Int)+3)) 3) (rtN ev (pkV ((j:Int)+3)) 4) (rtN ev (pkV ((j:Int)+3)) 5) wa wb we),I (mC (rtN ev (pkV ((j:Int)+3)) 3) (rtN ev (pkV ((j:Int)+3)) 4) (rtN ev (pkV ((j:Int)+3)) 5) wa wb we),.slice ua (rtP ev (pkV ((j:Int)+3))).length uc,.slice va8 ((rtV ev (pkV ((j:Int)+3))).length+1) vc8] it hit ag43 NC (by rw [htz];rfl) rfl rfl rfl rfl ?_;try simp only [Act.put]) | (refine wpList_stB 43 _ _ (w.heap.size+1+1+1+1) 0 _ [I (rtN ev (pkV ((j:Int)+3)) 0),I n1,I n2,I (mA (rtN ev (pkV ((j:Int)+3)) 3) (rtN ev (pkV ((j:Int)+3)) 4) (rtN ev (pkV ((j:Int)+3)) 5) wa wb we),I (mB (rtN ev (pkV ((j:Int)+3)) 3) (rtN ev (pkV ((j:Int)+3)) 4) (rtN ev (pkV ((j:Int)+3)) 5) wa wb we),I (mC (rtN ev (pkV ((j:Int)+3)) 3) (rtN ev (pkV ((j:Int)+3)) 4) (rtN ev (pkV ((j:Int)+3)) 5) wa wb we),.slice ua (rtP ev (pkV ((j:Int)+3))).length uc,.slice va8 ((rtV ev (pkV ((j:Int)+3))).length+1) vc8] it hit UC (by rw [htz];rfl) (by simp) rfl rfl rfl rfl rfl ?_;try simp only [Act.put]))
        refine bodyPost_ret (res_B2 rfl _ _ (w.heap.size+1+1+1+1) _ (I 0) it hit ag43 FU (by rw [htz];rfl) rfl rfl) rfl ⟨?_,FB⟩
        rw [HR.out]
        refine ⟨ua,uc,va8,vc8,?_,⟨RP,fun p e=>by subst e;have:=(kP2 p.block rfl).1;omega⟩,⟨RV8,fun p e=>by have:=f8 p e;omega⟩⟩
        dsimp only
        rw [E_.out]
      ·rw [decide_eq_false hm]
       rw [if_neg (fun h=>hm h.1)] at HC
       have HR:=HC
       have q4_:=EC.at 7 rfl
       have FU:=UC.sets [I n0,I n1,I n2,I n3,I n4,I n5,.slice na nl nc,.slice ma ml mc] rfl
       have FB:=below_sets (m:=w.heap.size) (g:=(w.heap.size+1+1+1+1)) (by omega) [I n0,I n1,I n2,I n3,I n4,I n5,.slice na nl nc,.slice ma ml mc] 0 _ BC
       go_wp2_with (first | (refine wpList_ldB 43 _ (w.heap.size+1+1+1) 0 _ [I n0,I n1,I n2,I n3,I n4,I n5,.slice na nl nc,.slice ma ml mc] it hit ag43 NC (by rw [htz];rfl) rfl rfl rfl rfl ?_;try simp only [Act.put]) | (refine wpList_stB 43 _ _ (w.heap.size+1+1+1+1) 0 _ [I n0,I n1,I n2,I n3,I n4,I n5,.slice na nl nc,.slice ma ml mc] it hit UC (by rw [htz];rfl) (by simp) rfl rfl rfl rfl rfl ?_;try simp only [Act.put]))
       exact bodyPost_ret (res_B2 rfl _ _ (w.heap.size+1+1+1+1) _ (I 6) it hit ag43 FU (by rw [htz];rfl) rfl rfl) rfl ⟨by rw [HR.out];exact ⟨rfl,by omega⟩,FB⟩
    ·rw [if_neg (fun h=>h3 h.2)] at HC
     have HR:=HC
     have q2_:=EC.at 1 rfl
     have FU:=UC.sets [I n0,I n1,I n2,I n3,I n4,I n5,.slice na nl nc,.slice ma ml mc] rfl
     have FB:=below_sets (m:=w.heap.size) (g:=(w.heap.size+1+1+1+1)) (by omega) [I n0,I n1,I n2,I n3,I n4,I n5,.slice na nl nc,.slice ma ml mc] 0 _ BC
     go_wp2_with (first | (rw [hW4]) | (refine wpList_ldB 43 _ (w.heap.size+1+1+1) 0 _ [I n0,I n1,I n2,I n3,I n4,I n5,.slice na nl nc,.slice ma ml mc] it hit ag43 NC (by rw [htz];rfl) rfl rfl rfl rfl ?_;try simp only [Act.put]) | (refine wpList_stB 43 _ _ (w.heap.size+1+1+1+1) 0 _ [I n0,I n1,I n2,I n3,I n4,I n5,.slice na nl nc,.slice ma ml mc] it hit UC (by rw [htz];rfl) (by simp) rfl rfl rfl rfl rfl ?_;try simp only [Act.put]))
     exact bodyPost_ret (res_B2 rfl _ _ (w.heap.size+1+1+1+1) _ (I 1) it hit ag43 FU (by rw [htz];rfl) rfl rfl) rfl ⟨by rw [HR.out];exact ⟨rfl,by omega⟩,FB⟩
  ·rw [if_neg (fun h=>h1 h.2)] at HC
   have h1_:¬ zt=realm:=fun h=>h1 h.symm
   subst h0
   have HR:Hid (dgG c realm now fresh (t:Int) nonce ((j:Int)+3) key wa wb we ev=.error 6):=by show _=_;rw [HC.out]
   have FU:=UC.sets [I n0,I n1,I n2,I n3,I n4,I n5,.slice na nl nc,.slice ma ml mc] rfl
   have FB:=below_sets (m:=w.heap.size) (g:=(w.heap.size+1+1+1+1)) (by omega) [I n0,I n1,I n2,I n3,I n4,I n5,.slice na nl nc,.slice ma ml mc] 0 _ BC
   go_wp2_with (first | (rw [hW0]) | (refine wpList_ldB 43 _ (w.heap.size+1+1+1) 0 _ [I n0,I n1,I n2,I n3,I n4,I n5,.slice na nl nc,.slice ma ml mc] it hit ag43 NC (by rw [htz];rfl) rfl rfl rfl rfl ?_;try simp only [Act.put]) | (refine wpList_stB 43 _ _ (w.heap.size+1+1+1+1) 0 _ [I n0,I n1,I n2,I n3,I n4,I n5,.slice na nl nc,.slice ma ml mc] it hit UC (by rw [htz];rfl) (by simp) rfl rfl rfl rfl rfl ?_;try simp only [Act.put]))
   exact bodyPost_ret (res_B2 rfl _ _ (w.heap.size+1+1+1+1) _ (I 6) it hit ag43 FU (by rw [htz];rfl) rfl rfl) rfl ⟨by rw [HR.out];exact ⟨rfl,by omega⟩,FB⟩
 ·rw [if_neg (fun h=>h0 h.1)] at HC
  have h0_:¬ zs=realm:=fun h=>h0 h.symm
  have HR:Hid (dgG c realm now fresh (t:Int) nonce ((j:Int)+3) key wa wb we ev=.error 6):=by show _=_;rw [HC.out]
  have FU:=UC.sets [I n0,I n1,I n2,I n3,I n4,I n5,.slice na nl nc,.slice ma ml mc] rfl
  have FB:=below_sets (m:=w.heap.size) (g:=(w.heap.size+1+1+1+1)) (by omega) [I n0,I n1,I n2,I n3,I n4,I n5,.slice na nl nc,.slice ma ml mc] 0 _ BC
  go_wp2_with (first | (rw [hW0]) | (refine wpList_ldB 43 _ (w.heap.size+1+1+1) 0 _ [I n0,I n1,I n2,I n3,I n4,I n5,.slice na nl nc,.slice ma ml mc] it hit ag43 NC (by rw [htz];rfl) rfl rfl rfl rfl ?_;try simp only [Act.put]) | (refine wpList_stB 43 _ _ (w.heap.size+1+1+1+1) 0 _ [I n0,I n1,I n2,I n3,I n4,I n5,.slice na nl nc,.slice ma ml mc] it hit UC (by rw [htz];rfl) (by simp) rfl rfl rfl rfl rfl ?_;try simp only [Act.put]))
  exact bodyPost_ret (res_B2 rfl _ _ (w.heap.size+1+1+1+1) _ (I 6) it hit ag43 FU (by rw [htz];rfl) rfl rfl) rfl ⟨by rw [HR.out];exact ⟨rfl,by omega⟩,FB⟩
end Go.Proofs.YtcaieniddnhkbaaGreatDoor
