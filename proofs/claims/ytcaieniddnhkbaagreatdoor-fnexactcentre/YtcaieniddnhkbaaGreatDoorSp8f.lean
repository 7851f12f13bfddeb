/- Chapter 8: the ticket that a centre is shown, the model's. -/
import Derived.Test.YtcaieniddnhkbaaGreatDoorAb
import Derived.Test.YtcaieniddnhkbaaGreatDoorIm8h
import Derived.Test.YtcaieniddnhkbaaGreatDoorRdT2
set_option linter.unusedVariables false
set_option maxRecDepth 100000
namespace Go.Proofs.YtcaieniddnhkbaaGreatDoor
open Go Go.RowKit Own Var Term
theorem res_B3 {P:Program} {fn:Func} {p x y:Tmp} {ty:TypeId} (hres:fn.results=#[.cell p ty,.tmp x,.tmp y]) (tmps:Array Value) (w:World) (g:Nat) (vs:List Value) (u0 u1:Value) (ie:TypeInfo) (hie:P.info? ty=some ie) (hagg:∀ w,(isAgg ty).run P w=.ok true w) (h:Blk g vs w) (hs:vs.length=ie.size) (hx:tmps.getD x undef=u0) (hy:tmps.getD y undef=u1) (hp:tmps.getD p undef=.pointer (some ⟨g,0,none⟩)) :
  (results fn tmps).run P w=.ok (.tuple #[.agg vs.toArray,u0,u1]) w:=by
 have hp':tmps[p]?.getD undef=.pointer (some ⟨g,0,none⟩):=by simpa using hp
 have hx':tmps[x]?.getD undef=u0:=by simpa using hx
 have hy':tmps[y]?.getD undef=u1:=by simpa using hy
 have hl:=ldB (P:=P) ty ie hie hagg (o:=0) vs h hs (by simp)
 simp [results,hres,hp',hx',hy',asAddr,hl]
def ShSp (c:Cf) (realm:Int) (s:ByteArray) (w:World) (en:Ending) (w':World):Prop :=
 ∃ (ua:Option Addr) (uc:Nat) (va:Option Addr) (vc:Nat),en=.returned (.tuple #[tkV (rtN s (shK c realm s) 0) (rtN s (shK c realm s) 1) (rtN s (shK c realm s) 2) (rtN s (shK c realm s) 3) (rtN s (shK c realm s) 4) (rtN s (shK c realm s) 5) ua (rtP s (shK c realm s)).length uc va (rtV s (shK c realm s)).length vc,I (shF c realm s),.bool (shB c realm s)]) ∧
  RF w.heap.size w' ua (rtP s (shK c realm s))∧RF w.heap.size w' va (rtV s (shK c realm s))∧Below w.heap.size w w'
set_option maxHeartbeats 6400000 in
theorem specShown_is (c:Cf) (realm:Int) (s:ByteArray) (w:World) (C:CfAt c w) (K:CfOk c) (hr:0≤realm∧realm≤2) (hs:s.size≤1048576) :
  Calls Tryz.prog 76 #[c.val,I realm,.string s] w (ShSp c realm s w):=by
 have zW:((w.alloc (.cells #[.slice c.ua c.U.length c.uc,.slice c.sa c.S.length c.sc,.slice c.la c.L.length c.lc,.slice c.xa c.X.length c.xc,I c.k] 27)).alloc (.cells #[I 0,I 0,I 0,I 0,I 0,I 0,.slice none 0 0,.slice none 0 0] 43)).heap.size=w.heap.size+2:=by simp
 obtain ⟨it,hit,htz⟩:=info_tick
 have BC:Below w.heap.size w ((w.alloc (.cells #[.slice c.ua c.U.length c.uc,.slice c.sa c.S.length c.sc,.slice c.la c.L.length c.lc,.slice c.xa c.X.length c.xc,I c.k] 27)).alloc (.cells #[I 0,I 0,I 0,I 0,I 0,I 0,.slice none 0 0,.slice none 0 0] 43)):=((Below.refl _ _).alloc (by simp <;> omega) _).alloc (by simp <;> omega) _
 have TC:Blk w.heap.size [.slice c.ua c.U.length c.uc,.slice c.sa c.S.length c.sc,.slice c.la c.L.length c.lc,.slice c.xa c.X.length c.xc,I c.k] ((w.alloc (.cells #[.slice c.ua c.U.length c.uc,.slice c.sa c.S.length c.sc,.slice c.la c.L.length c.lc,.slice c.xa c.X.length c.xc,I c.k] 27)).alloc (.cells #[I 0,I 0,I 0,I 0,I 0,I 0,.slice none 0 0,.slice none 0 0] 43)):=by have h_:=((Blk.new w #[.slice c.ua c.U.length c.uc,.slice c.sa c.S.length c.sc,.slice c.la c.L.length c.lc,.slice c.xa c.X.length c.xc,I c.k] 27).alloc (by simp <;> omega) (.cells #[I 0,I 0,I 0,I 0,I 0,I 0,.slice none 0 0,.slice none 0 0] 43));simpa using h_
 have UC:Blk (w.heap.size+1) [I 0,I 0,I 0,I 0,I 0,I 0,.slice none 0 0,.slice none 0 0] ((w.alloc (.cells #[.slice c.ua c.U.length c.uc,.slice c.sa c.S.length c.sc,.slice c.la c.L.length c.lc,.slice c.xa c.X.length c.xc,I c.k] 27)).alloc (.cells #[I 0,I 0,I 0,I 0,I 0,I 0,.slice none 0 0,.slice none 0 0] 43)):=by have h_:=(Blk.new (w.alloc (.cells #[.slice c.ua c.U.length c.uc,.slice c.sa c.S.length c.sc,.slice c.la c.L.length c.lc,.slice c.xa c.X.length c.xc,I c.k] 27)) #[I 0,I 0,I 0,I 0,I 0,I 0,.slice none 0 0,.slice none 0 0] 43);simpa using h_
 go_enter Tryz.func76,Tryz.ntmps76
 go_wp2_with fail
 refine (specCK_is realm _).mono ?_
 rintro en w2 ⟨rfl,rfl⟩
 go_wp2_with fail
 refine (specReadT_is s (ckV realm) _ hs).mono ?_
 rintro en w3 ⟨ua,uc,va,vc,rfl,oP,oV,hA,hb⟩
 have z3:=hb.size
 replace TC:=TC.later hb TC.lt
 replace UC:=UC.later hb UC.lt
 replace BC:=BC.trans (hb.mono BC.size)
 clear hb
 have kP:=own_in oP
 have kV:=own_in oV
 rw [zW] at z3 kP kV
 have RP:=own_rowAt oP
 have RV:=own_rowAt oV
 have XA_:Below w3.heap.size w3 (w3.alloc (.cells #[I (rtN s (ckV realm) 0),I (rtN s (ckV realm) 1),I (rtN s (ckV realm) 2),I (rtN s (ckV realm) 3),I (rtN s (ckV realm) 4),I (rtN s (ckV realm) 5),.slice ua (rtP s (ckV realm)).length uc,.slice va (rtV s (ckV realm)).length vc] 43)):=(Below.refl _ _).alloc (Nat.le_refl _) _
 have TT:Blk w3.heap.size [I (rtN s (ckV realm) 0),I (rtN s (ckV realm) 1),I (rtN s (ckV realm) 2),I (rtN s (ckV realm) 3),I (rtN s (ckV realm) 4),I (rtN s (ckV realm) 5),.slice ua (rtP s (ckV realm)).length uc,.slice va (rtV s (ckV realm)).length vc] (w3.alloc (.cells #[I (rtN s (ckV realm) 0),I (rtN s (ckV realm) 1),I (rtN s (ckV realm) 2),I (rtN s (ckV realm) 3),I (rtN s (ckV realm) 4),I (rtN s (ckV realm) 5),.slice ua (rtP s (ckV realm)).length uc,.slice va (rtV s (ckV realm)).length vc] 43)):=Blk.new _ _ _
 replace TC:=TC.later XA_ TC.lt
 replace UC:=UC.later XA_ UC.lt
 replace BC:=BC.trans (XA_.mono BC.size)
 clear XA_
 have X4:Below w3.heap.size w3 (w3.alloc (.cells #[I (rtN s (ckV realm) 0),I (rtN s (ckV realm) 1),I (rtN s (ckV realm) 2),I (rtN s (ckV realm) 3),I (rtN s (ckV realm) 4),I (rtN s (ckV realm) 5),.slice ua (rtP s (ckV realm)).length uc,.slice va (rtV s (ckV realm)).length vc] 43)):=(Below.refl _ _).alloc (Nat.le_refl _) _
 replace RP:=RP.later X4
 replace RV:=RV.later X4
 clear X4
 obtain ⟨W4,hW4⟩:∃ Wz,(w3.alloc (.cells #[I (rtN s (ckV realm) 0),I (rtN s (ckV realm) 1),I (rtN s (ckV realm) 2),I (rtN s (ckV realm) 3),I (rtN s (ckV realm) 4),I (rtN s (ckV realm) 5),.slice ua (rtP s (ckV realm)).length uc,.slice va (rtV s (ckV realm)).length vc] 43))=Wz:=⟨_,rfl⟩
 rw [hW4] at TC UC TT BC
 rw [hW4] at RP RV
 cases h1:rtK s (ckV realm) with
 | true =>
  by_cases h2:rtN s (ckV realm) 1=10+realm
  ·have hk:shOk realm s (ckV realm)=true:=by unfold shOk;rw [h1,decide_eq_true h2];rfl
   have HE:=show Hid _ from sh_own (c:=c) hk
   clear hk
   have HN:Hid (rtN s (ckV realm) 1=10+realm):=h2
   rw [h2] at TT hW4
   try rw [h2]
   clear h2
   have q1_:=TT.at 1 rfl
   have FU:=UC.sets [I (rtN s (ckV realm) 0),I (10+realm),I (rtN s (ckV realm) 2),I (rtN s (ckV realm) 3),I (rtN s (ckV realm) 4),I (rtN s (ckV realm) 5),.slice ua (rtP s (ckV realm)).length uc,.slice va (rtV s (ckV realm)).length vc] rfl
   have FB:=below_sets (m:=w.heap.size) (g:=(w.heap.size+1)) (by omega) [I (rtN s (ckV realm) 0),I (10+realm),I (rtN s (ckV realm) 2),I (rtN s (ckV realm) 3),I (rtN s (ckV realm) 4),I (rtN s (ckV realm) 5),.slice ua (rtP s (ckV realm)).length uc,.slice va (rtV s (ckV realm)).length vc] 0 _ BC
   replace RP:=RowAt.sets8 (q:=(w.heap.size+1)) (fun p e=>by subst e;have:=(kP p.block rfl).1;omega) [I (rtN s (ckV realm) 0),I (10+realm),I (rtN s (ckV realm) 2),I (rtN s (ckV realm) 3),I (rtN s (ckV realm) 4),I (rtN s (ckV realm) 5),.slice ua (rtP s (ckV realm)).length uc,.slice va (rtV s (ckV realm)).length vc] 0 _ RP
   replace RV:=RowAt.sets8 (q:=(w.heap.size+1)) (fun p e=>by subst e;have:=(kV p.block rfl).1;omega) [I (rtN s (ckV realm) 0),I (10+realm),I (rtN s (ckV realm) 2),I (rtN s (ckV realm) 3),I (rtN s (ckV realm) 4),I (rtN s (ckV realm) 5),.slice ua (rtP s (ckV realm)).length uc,.slice va (rtV s (ckV realm)).length vc] 0 _ RV
   go_wp2_with (first | (rw [hW4]) | (refine wpList_ldB 43 _ (w3.heap.size) 0 _ [I (rtN s (ckV realm) 0),I (10+realm),I (rtN s (ckV realm) 2),I (rtN s (ckV realm) 3),I (rtN s (ckV realm) 4),I (rtN s (ckV realm) 5),.slice ua (rtP s (ckV realm)).length uc,.slice va (rtV s (ckV realm)).length vc] it hit ag43 TT (by rw [htz];rfl) rfl rfl rfl rfl ?_;try simp only [Act.put]) | (refine wpList_stB 43 _ _ (w.heap.size+1) 0 _ [I (rtN s (ckV realm) 0),I (10+realm),I (rtN s (ckV realm) 2),I (rtN s (ckV realm) 3),I (rtN s (ckV realm) 4),I (rtN s (ckV realm) 5),.slice ua (rtP s (ckV realm)).length uc,.slice va (rtV s (ckV realm)).length vc] it hit UC (by rw [htz];rfl) (by simp) rfl rfl rfl rfl rfl ?_;try simp only [Act.put]))
   refine bodyPost_ret (res_B3 rfl _ _ (w.heap.size+1) _ _ _ it hit ag43 FU (by rw [htz];rfl) rfl rfl rfl) rfl ?_
   obtain ⟨e1,e2,e3⟩:=HE.out
   unfold ShSp
   rw [e1,e2,e3,HN.out]
   exact ⟨ua,uc,va,vc,rfl,⟨RP,fun p e=>by subst e;have:=(kP p.block rfl).1;omega⟩,⟨RV,fun p e=>by subst e;have:=(kV p.block rfl).1;omega⟩,FB⟩
  ·have hk:shOk realm s (ckV realm)=false:=by unfold shOk;rw [h1,decide_eq_false h2];rfl
   have HK:Hid (shOk realm s (ckV realm)=false):=hk
   clear hk
   have z4:Hid (w.heap.size+2≤W4.heap.size):=UC.lt
   have q1_:=TT.at 1 rfl
   go_wp2_with (first | (rw [hW4]))
   try simp only [show (rtN s (ckV realm) 1 == 10+realm)=false from by simpa using h2]
   clear RP RV kP kV TT h1 h2
   go_loopw [11] (fun i wr=>∃ k:Nat,k≤3∧i=I k∧Hid (∀ q:Nat,q < k→lkOk c realm s (q:Int)=false)∧Below w.heap.size w wr∧Blk w.heap.size [.slice c.ua c.U.length c.uc,.slice c.sa c.S.length c.sc,.slice c.la c.L.length c.lc,.slice c.xa c.X.length c.xc,I c.k] wr∧Blk (w.heap.size+1) [I 0,I 0,I 0,I 0,I 0,I 0,.slice none 0 0,.slice none 0 0] wr) (fun i _=>3 - (intOf i).toNat)
   case atStart=>exact ⟨0,by omega,rfl,(show ∀ q:Nat,q < 0→_ from fun q h=>absurd h (Nat.not_lt_zero q)),BC,TC,UC⟩
   case round =>
    clear BC TC UC
    obtain ⟨k,hkl,rfl,hno,BC,TC,UC⟩:=hrel
    have Zr:Hid (w.heap.size+2≤wr.heap.size):=UC.lt
    by_cases hlt:k < 3
    ·have hlt2:(k:Int) < 3:=by omega
     have q2_:=TC.at 2 rfl
     go_wp2_with fail
     refine (has_is c.la c.lc c.L (k:Int) realm _ (C.later BC).hl K.ll).mono ?_
     rintro en w5 ⟨rfl,hb⟩
     have s5:=hb.size
     replace TC:=TC.later hb TC.lt
     replace UC:=UC.later hb UC.lt
     replace BC:=BC.trans (hb.mono BC.size)
     clear hb
     clear q2_
     by_cases hm:((k:Int),realm)∈c.L
     ·rw [decide_eq_true hm]
      go_wp2_with fail
      refine (specLK_is (k:Int) realm _).mono ?_
      rintro en w6 ⟨rfl,rfl⟩
      go_wp2_with fail
      refine (specReadT_is s (lkV (k:Int) realm) _ hs).mono ?_
      rintro en w7 ⟨ua,uc,va,vc,rfl,oP,oV,hA,hb⟩
      have s7:=hb.size
      replace TC:=TC.later hb TC.lt
      replace UC:=UC.later hb UC.lt
      replace BC:=BC.trans (hb.mono BC.size)
      clear hb
      have kP:=own_in oP
      have kV:=own_in oV
      have zr_:=Zr.out
      replace kP:∀ k_,(Value.slice ua (rtP s (lkV (k:Int) realm)).length uc).ownBlock=some k_→w.heap.size+2≤k_∧k_ < w7.heap.size:=fun k_ h=>⟨by have:=(kP k_ h).1;omega,(kP k_ h).2⟩
      replace kV:∀ k_,(Value.slice va (rtV s (lkV (k:Int) realm)).length vc).ownBlock=some k_→w.heap.size+2≤k_∧k_ < w7.heap.size:=fun k_ h=>⟨by have:=(kV k_ h).1;omega,(kV k_ h).2⟩
      have RP:=own_rowAt oP
      have RV:=own_rowAt oV
      have XA_:Below w7.heap.size w7 (w7.alloc (.cells #[I (rtN s (lkV (k:Int) realm) 0),I (rtN s (lkV (k:Int) realm) 1),I (rtN s (lkV (k:Int) realm) 2),I (rtN s (lkV (k:Int) realm) 3),I (rtN s (lkV (k:Int) realm) 4),I (rtN s (lkV (k:Int) realm) 5),.slice ua (rtP s (lkV (k:Int) realm)).length uc,.slice va (rtV s (lkV (k:Int) realm)).length vc] 43)):=(Below.refl _ _).alloc (Nat.le_refl _) _
      have TT:Blk w7.heap.size [I (rtN s (lkV (k:Int) realm) 0),I (rtN s (lkV (k:Int) realm) 1),I (rtN s (lkV (k:Int) realm) 2),I (rtN s (lkV (k:Int) realm) 3),I (rtN s (lkV (k:Int) realm) 4),I (rtN s (lkV (k:Int) realm) 5),.slice ua (rtP s (lkV (k:Int) realm)).length uc,.slice va (rtV s (lkV (k:Int) realm)).length vc] (w7.alloc (.cells #[I (rtN s (lkV (k:Int) realm) 0),I (rtN s (lkV (k:Int) realm) 1),I (rtN s (lkV (k:Int) realm) 2),I (rtN s (lkV (k:Int) realm) 3),I (rtN s (lkV (k:Int) realm) 4),I (rtN s (lkV (k:Int) realm) 5),.slice ua (rtP s (lkV (k:Int) realm)).length uc,.slice va (rtV s (lkV (k:Int) realm)).length vc] 43)):=Blk.new _ _ _
      replace TC:=TC.later XA_ TC.lt
      replace UC:=UC.later XA_ UC.lt
      replace BC:=BC.trans (XA_.mono BC.size)
      clear XA_
      have X4:Below w7.heap.size w7 (w7.alloc (.cells #[I (rtN s (lkV (k:Int) realm) 0),I (rtN s (lkV (k:Int) realm) 1),I (rtN s (lkV (k:Int) realm) 2),I (rtN s (lkV (k:Int) realm) 3),I (rtN s (lkV (k:Int) realm) 4),I (rtN s (lkV (k:Int) realm) 5),.slice ua (rtP s (lkV (k:Int) realm)).length uc,.slice va (rtV s (lkV (k:Int) realm)).length vc] 43)):=(Below.refl _ _).alloc (Nat.le_refl _) _
      replace RP:=RP.later X4
      replace RV:=RV.later X4
      clear X4
      obtain ⟨W8,hW8⟩:∃ Wz,(w7.alloc (.cells #[I (rtN s (lkV (k:Int) realm) 0),I (rtN s (lkV (k:Int) realm) 1),I (rtN s (lkV (k:Int) realm) 2),I (rtN s (lkV (k:Int) realm) 3),I (rtN s (lkV (k:Int) realm) 4),I (rtN s (lkV (k:Int) realm) 5),.slice ua (rtP s (lkV (k:Int) realm)).length uc,.slice va (rtV s (lkV (k:Int) realm)).length vc] 43))=Wz:=⟨_,rfl⟩
      rw [hW8] at TC UC TT BC
      rw [hW8] at RP RV
      cases h1:rtK s (lkV (k:Int) realm) with
      | true =>
       by_cases h2:rtN s (lkV (k:Int) realm) 1=10+realm
       ·have hk:shOk realm s (lkV (k:Int) realm)=true:=by unfold shOk;rw [h1,decide_eq_true h2];rfl
        have HE:=show Hid _ from sh_link hr ⟨by omega,by omega⟩ hm hk
        clear hk
        have HN:Hid (rtN s (lkV (k:Int) realm) 1=10+realm):=h2
        rw [h2] at TT hW8
        try rw [h2]
        clear h2
        have q3_:=TT.at 1 rfl
        have FU:=UC.sets [I (rtN s (lkV (k:Int) realm) 0),I (10+realm),I (rtN s (lkV (k:Int) realm) 2),I (rtN s (lkV (k:Int) realm) 3),I (rtN s (lkV (k:Int) realm) 4),I (rtN s (lkV (k:Int) realm) 5),.slice ua (rtP s (lkV (k:Int) realm)).length uc,.slice va (rtV s (lkV (k:Int) realm)).length vc] rfl
        have FB:=below_sets (m:=w.heap.size) (g:=(w.heap.size+1)) (by omega) [I (rtN s (lkV (k:Int) realm) 0),I (10+realm),I (rtN s (lkV (k:Int) realm) 2),I (rtN s (lkV (k:Int) realm) 3),I (rtN s (lkV (k:Int) realm) 4),I (rtN s (lkV (k:Int) realm) 5),.slice ua (rtP s (lkV (k:Int) realm)).length uc,.slice va (rtV s (lkV (k:Int) realm)).length vc] 0 _ BC
        replace RP:=RowAt.sets8 (q:=(w.heap.size+1)) (fun p e=>by subst e;have:=(kP p.block rfl).1;omega) [I (rtN s (lkV (k:Int) realm) 0),I (10+realm),I (rtN s (lkV (k:Int) realm) 2),I (rtN s (lkV (k:Int) realm) 3),I (rtN s (lkV (k:Int) realm) 4),I (rtN s (lkV (k:Int) realm) 5),.slice ua (rtP s (lkV (k:Int) realm)).length uc,.slice va (rtV s (lkV (k:Int) realm)).length vc] 0 _ RP
        replace RV:=RowAt.sets8 (q:=(w.heap.size+1)) (fun p e=>by subst e;have:=(kV p.block rfl).1;omega) [I (rtN s (lkV (k:Int) realm) 0),I (10+realm),I (rtN s (lkV (k:Int) realm) 2),I (rtN s (lkV (k:Int) realm) 3),I (rtN s (lkV (k:Int) realm) 4),I (rtN s (lkV (k:Int) realm) 5),.slice ua (rtP s (lkV (k:Int) realm)).length uc,.slice va (rtV s (lkV (k:Int) realm)).length vc] 0 _ RV
        go_wp2_with (first | (rw [hW8]) | (refine wpList_ldB 43 _ (w7.heap.size) 0 _ [I (rtN s (lkV (k:Int) realm) 0),I (10+realm),I (rtN s (lkV (k:Int) realm) 2),I (rtN s (lkV (k:Int) realm) 3),I (rtN s (lkV (k:Int) realm) 4),I (rtN s (lkV (k:Int) realm) 5),.slice ua (rtP s (lkV (k:Int) realm)).length uc,.slice va (rtV s (lkV (k:Int) realm)).length vc] it hit ag43 TT (by rw [htz];rfl) rfl rfl rfl rfl ?_;try simp only [Act.put]) | (refine wpList_stB 43 _ _ (w.heap.size+1) 0 _ [I (rtN s (lkV (k:Int) realm) 0),I (10+realm),I (rtN s (lkV (k:Int) realm) 2),I (rtN s (lkV (k:Int) realm) 3),I (rtN s (lkV (k:Int) realm) 4),I (rtN s (lkV (k:Int) realm) 5),.slice ua (rtP s (lkV (k:Int) realm)).length uc,.slice va (rtV s (lkV (k:Int) realm)).length vc] it hit UC (by rw [htz];rfl) (by simp) rfl rfl rfl rfl rfl ?_;try simp only [Act.put]))
        refine bodyPost_ret (res_B3 rfl _ _ (w.heap.size+1) _ _ _ it hit ag43 FU (by rw [htz];rfl) rfl rfl rfl) rfl ?_
        obtain ⟨e1,e2,e3⟩:=HE.out
        unfold ShSp
        rw [e1,e2,e3,HN.out]
        exact ⟨ua,uc,va,vc,rfl,⟨RP,fun p e=>by subst e;have:=(kP p.block rfl).1;omega⟩,⟨RV,fun p e=>by subst e;have:=(kV p.block rfl).1;omega⟩,FB⟩
       ·have hk:shOk realm s (lkV (k:Int) realm)=false:=by unfold shOk;rw [h1,decide_eq_false h2];rfl
        have q3_:=TT.at 1 rfl
        have HS2:Hid (∀ q:Nat,q < k+1→lkOk c realm s (q:Int)=false):=fun q hq=>by
         by_cases e:q=k
         ·rw [e];unfold lkOk;rw [hk];simp
         ·exact hno.out q (by omega)
        go_wp2_with (first | (rw [hW8]))
        go_roundw
        case rel =>
         have R:∃ k2:Nat,k2≤3∧Value.int .i64 ((k:Int)+1)=I (k2:Int)∧Hid (∀ q:Nat,q < k2→lkOk c realm s (q:Int)=false)∧Below w.heap.size w W8∧Blk w.heap.size [.slice c.ua c.U.length c.uc,.slice c.sa c.S.length c.sc,.slice c.la c.L.length c.lc,.slice c.xa c.X.length c.xc,I c.k] W8∧Blk (w.heap.size+1) [I 0,I 0,I 0,I 0,I 0,I 0,.slice none 0 0,.slice none 0 0] W8:=⟨k+1,by omega,by go_num,HS2,BC,TC,UC⟩
         first | exact R | ((repeat apply Exists.intro);exact ⟨R,rfl⟩)
        case measure=>simp [intOf];omega
      | false =>
       have hk:shOk realm s (lkV (k:Int) realm)=false:=by unfold shOk;rw [h1];rfl
       have HS2:Hid (∀ q:Nat,q < k+1→lkOk c realm s (q:Int)=false):=fun q hq=>by
        by_cases e:q=k
        ·rw [e];unfold lkOk;rw [hk];simp
        ·exact hno.out q (by omega)
       go_wp2_with (first | (rw [hW8]))
       go_roundw
       case rel =>
        have R:∃ k2:Nat,k2≤3∧Value.int .i64 ((k:Int)+1)=I (k2:Int)∧Hid (∀ q:Nat,q < k2→lkOk c realm s (q:Int)=false)∧Below w.heap.size w W8∧Blk w.heap.size [.slice c.ua c.U.length c.uc,.slice c.sa c.S.length c.sc,.slice c.la c.L.length c.lc,.slice c.xa c.X.length c.xc,I c.k] W8∧Blk (w.heap.size+1) [I 0,I 0,I 0,I 0,I 0,I 0,.slice none 0 0,.slice none 0 0] W8:=⟨k+1,by omega,by go_num,HS2,BC,TC,UC⟩
        first | exact R | ((repeat apply Exists.intro);exact ⟨R,rfl⟩)
       case measure=>simp [intOf];omega
     ·rw [decide_eq_false hm]
      have HS2:Hid (∀ q:Nat,q < k+1→lkOk c realm s (q:Int)=false):=fun q hq=>by
       by_cases e:q=k
       ·rw [e];unfold lkOk;rw [decide_eq_false hm];rfl
       ·exact hno.out q (by omega)
      go_wp2_with fail
      go_roundw
      case rel =>
       have R:∃ k2:Nat,k2≤3∧Value.int .i64 ((k:Int)+1)=I (k2:Int)∧Hid (∀ q:Nat,q < k2→lkOk c realm s (q:Int)=false)∧Below w.heap.size w w5∧Blk w.heap.size [.slice c.ua c.U.length c.uc,.slice c.sa c.S.length c.sc,.slice c.la c.L.length c.lc,.slice c.xa c.X.length c.xc,I c.k] w5∧Blk (w.heap.size+1) [I 0,I 0,I 0,I 0,I 0,I 0,.slice none 0 0,.slice none 0 0] w5:=⟨k+1,by omega,by go_num,HS2,BC,TC,UC⟩
       first | exact R | ((repeat apply Exists.intro);exact ⟨R,rfl⟩)
      case measure=>simp [intOf];omega
    ·obtain rfl:k=3:=by omega
     obtain ⟨e1,e2,e3⟩:=sh_none HK.out (hno.out 0 (by omega)) (hno.out 1 (by omega)) (hno.out 2 (by omega))
     have HE:Hid (shK c realm s=-1∧shF c realm s=-1∧shB c realm s=false):=⟨e1,e2,e3⟩
     clear e1 e2 e3
     have FU:=UC.sets [I 0,I 0,I 0,I 0,I 0,I 0,.slice none 0 0,.slice none 0 0] rfl
     have FB:=below_sets (m:=w.heap.size) (g:=(w.heap.size+1)) (by omega) [I 0,I 0,I 0,I 0,I 0,I 0,.slice none 0 0,.slice none 0 0] 0 _ BC
     go_wp2_with (refine wpList_stB 43 _ _ (w.heap.size+1) 0 _ [I 0,I 0,I 0,I 0,I 0,I 0,.slice none 0 0,.slice none 0 0] it hit UC (by rw [htz];rfl) (by simp) rfl rfl rfl rfl rfl ?_;try simp only [Act.put])
     refine bodyPost_ret (res_B3 rfl _ _ (w.heap.size+1) _ _ _ it hit ag43 FU (by rw [htz];rfl) rfl rfl rfl) rfl ?_
     obtain ⟨e1,e2,e3⟩:=HE.out
     unfold ShSp
     rw [e1,e2,e3]
     have n_:=rt_neg s
     simp only [rtN_no n_,rtP_no n_,rtV_no n_]
     exact ⟨none,0,none,0,rfl,RF.none _ _,RF.none _ _,FB⟩
 | false =>
  have hk:shOk realm s (ckV realm)=false:=by unfold shOk;rw [h1];rfl
  have HK:Hid (shOk realm s (ckV realm)=false):=hk
  clear hk
  have z4:Hid (w.heap.size+2≤W4.heap.size):=UC.lt
  go_wp2_with (first | (rw [hW4]))
  clear RP RV kP kV TT h1
  go_loopw [11] (fun i wr=>∃ k:Nat,k≤3∧i=I k∧Hid (∀ q:Nat,q < k→lkOk c realm s (q:Int)=false)∧Below w.heap.size w wr∧Blk w.heap.size [.slice c.ua c.U.length c.uc,.slice c.sa c.S.length c.sc,.slice c.la c.L.length c.lc,.slice c.xa c.X.length c.xc,I c.k] wr∧Blk (w.heap.size+1) [I 0,I 0,I 0,I 0,I 0,I 0,.slice none 0 0,.slice none 0 0] wr) (fun i _=>3 - (intOf i).toNat)
  case atStart=>exact ⟨0,by omega,rfl,(show ∀ q:Nat,q < 0→_ from fun q h=>absurd h (Nat.not_lt_zero q)),BC,TC,UC⟩
  case round =>
   clear BC TC UC
   obtain ⟨k,hkl,rfl,hno,BC,TC,UC⟩:=hrel
   have Zr:Hid (w.heap.size+2≤wr.heap.size):=UC.lt
   by_cases hlt:k < 3
   ·have hlt2:(k:Int) < 3:=by omega
    have q1_:=TC.at 2 rfl
    go_wp2_with fail
    refine (has_is c.la c.lc c.L (k:Int) realm _ (C.later BC).hl K.ll).mono ?_
    rintro en w5 ⟨rfl,hb⟩
    have s5:=hb.size
    replace TC:=TC.later hb TC.lt
    replace UC:=UC.later hb UC.lt
    replace BC:=BC.trans (hb.mono BC.size)
    clear hb
    clear q1_
    by_cases hm:((k:Int),realm)∈c.L
    ·rw [decide_eq_true hm]
     go_wp2_with fail
     refine (specLK_is (k:Int) realm _).mono ?_
     rintro en w6 ⟨rfl,rfl⟩
     go_wp2_with fail
     refine (specReadT_is s (lkV (k:Int) realm) _ hs).mono ?_
     rintro en w7 ⟨ua,uc,va,vc,rfl,oP,oV,hA,hb⟩
     have s7:=hb.size
     replace TC:=TC.later hb TC.lt
     replace UC:=UC.later hb UC.lt
     replace BC:=BC.trans (hb.mono BC.size)
     clear hb
     have kP:=own_in oP
     have kV:=own_in oV
     have zr_:=Zr.out
     replace kP:∀ k_,(Value.slice ua (rtP s (lkV (k:Int) realm)).length uc).ownBlock=some k_→w.heap.size+2≤k_∧k_ < w7.heap.size:=fun k_ h=>⟨by have:=(kP k_ h).1;omega,(kP k_ h).2⟩
     replace kV:∀ k_,(Value.slice va (rtV s (lkV (k:Int) realm)).length vc).ownBlock=some k_→w.heap.size+2≤k_∧k_ < w7.heap.size:=fun k_ h=>⟨by have:=(kV k_ h).1;omega,(kV k_ h).2⟩
     have RP:=own_rowAt oP
     have RV:=own_rowAt oV
     have XA_:Below w7.heap.size w7 (w7.alloc (.cells #[I (rtN s (lkV (k:Int) realm) 0),I (rtN s (lkV (k:Int) realm) 1),I (rtN s (lkV (k:Int) realm) 2),I (rtN s (lkV (k:Int) realm) 3),I (rtN s (lkV (k:Int) realm) 4),I (rtN s (lkV (k:Int) realm) 5),.slice ua (rtP s (lkV (k:Int) realm)).length uc,.slice va (rtV s (lkV (k:Int) realm)).length vc] 43)):=(Below.refl _ _).alloc (Nat.le_refl _) _
     have TT:Blk w7.heap.size [I (rtN s (lkV (k:Int) realm) 0),I (rtN s (lkV (k:Int) realm) 1),I (rtN s (lkV (k:Int) realm) 2),I (rtN s (lkV (k:Int) realm) 3),I (rtN s (lkV (k:Int) realm) 4),I (rtN s (lkV (k:Int) realm) 5),.slice ua (rtP s (lkV (k:Int) realm)).length uc,.slice va (rtV s (lkV (k:Int) realm)).length vc] (w7.alloc (.cells #[I (rtN s (lkV (k:Int) realm) 0),I (rtN s (lkV (k:Int) realm) 1),I (rtN s (lkV (k:Int) realm) 2),I (rtN s (lkV (k:Int) realm) 3),I (rtN s (lkV (k:Int) realm) 4),I (rtN s (lkV (k:Int) realm) 5),.slice ua (rtP s (lkV (k:Int) realm)).length uc,.slice va (rtV s (lkV (k:Int) realm)).length vc] 43)):=Blk.new _ _ _
     replace TC:=TC.later XA_ TC.lt
     replace UC:=UC.later XA_ UC.lt
     replace BC:=BC.trans (XA_.mono BC.size)
     clear XA_
     have X4:Below w7.heap.size w7 (w7.alloc (.cells #[I (rtN s (lkV (k:Int) realm) 0),I (rtN s (lkV (k:Int) realm) 1),I (rtN s (lkV (k:Int) realm) 2),I (rtN s (lkV (k:Int) realm) 3),I (rtN s (lkV (k:Int) realm) 4),I (rtN s (lkV (k:Int) realm) 5),.slice ua (rtP s (lkV (k:Int) realm)).length uc,.slice va (rtV s (lkV (k:Int) realm)).length vc] 43)):=(Below.refl _ _).alloc (Nat.le_refl _) _
     replace RP:=RP.later X4
     replace RV:=RV.later X4
     clear X4
     obtain ⟨W8,hW8⟩:∃ Wz,(w7.alloc (.cells #[I (rtN s (lkV (k:Int) realm) 0),I (rtN s (lkV (k:Int) realm) 1),I (rtN s (lkV (k:Int) realm) 2),I (rtN s (lkV (k:Int) realm) 3),I (rtN s (lkV (k:Int) realm) 4),I (rtN s (lkV (k:Int) realm) 5),.slice ua (rtP s (lkV (k:Int) realm)).length uc,.slice va (rtV s (lkV (k:Int) realm)).length vc] 43))=Wz:=⟨_,rfl⟩
     rw [hW8] at TC UC TT BC
     rw [hW8] at RP RV
     cases h1:rtK s (lkV (k:Int) realm) with
     | true =>
      by_cases h2:rtN s (lkV (k:Int) realm) 1=10+realm
      ·have hk:shOk realm s (lkV (k:Int) realm)=true:=by unfold shOk;rw [h1,decide_eq_true h2];rfl
       have HE:=show Hid _ from sh_link hr ⟨by omega,by omega⟩ hm hk
       clear hk
       have HN:Hid (rtN s (lkV (k:Int) realm) 1=10+realm):=h2
       rw [h2] at TT hW8
       try rw [h2]
       clear h2
       have q2_:=TT.at 1 rfl
       have FU:=UC.sets [I (rtN s (lkV (k:Int) realm) 0),I (10+realm),I (rtN s (lkV (k:Int) realm) 2),I (rtN s (lkV (k:Int) realm) 3),I (rtN s (lkV (k:Int) realm) 4),I (rtN s (lkV (k:Int) realm) 5),.slice ua (rtP s (lkV (k:Int) realm)).length uc,.slice va (rtV s (lkV (k:Int) realm)).length vc] rfl
       have FB:=below_sets (m:=w.heap.size) (g:=(w.heap.size+1)) (by omega) [I (rtN s (lkV (k:Int) realm) 0),I (10+realm),I (rtN s (lkV (k:Int) realm) 2),I (rtN s (lkV (k:Int) realm) 3),I (rtN s (lkV (k:Int) realm) 4),I (rtN s (lkV (k:Int) realm) 5),.slice ua (rtP s (lkV (k:Int) realm)).length uc,.slice va (rtV s (lkV (k:Int) realm)).length vc] 0 _ BC
       replace RP:=RowAt.sets8 (q:=(w.heap.size+1)) (fun p e=>by subst e;have:=(kP p.block rfl).1;omega) [I (rtN s (lkV (k:Int) realm) 0),I (10+realm),I (rtN s (lkV (k:Int) realm) 2),I (rtN s (lkV (k:Int) realm) 3),I (rtN s (lkV (k:Int) realm) 4),I (rtN s (lkV (k:Int) realm) 5),.slice ua (rtP s (lkV (k:Int) realm)).length uc,.slice va (rtV s (lkV (k:Int) realm)).length vc] 0 _ RP
       replace RV:=RowAt.sets8 (q:=(w.heap.size+1)) (fun p e=>by subst e;have:=(kV p.block rfl).1;omega) [I (rtN s (lkV (k:Int) realm) 0),I (10+realm),I (rtN s (lkV (k:Int) realm) 2),I (rtN s (lkV (k:Int) realm) 3),I (rtN s (lkV (k:Int) realm) 4),I (rtN s (lkV (k:Int) realm) 5),.slice ua (rtP s (lkV (k:Int) realm)).length uc,.slice va (rtV s (lkV (k:Int) realm)).length vc] 0 _ RV
       go_wp2_with (first | (rw [hW8]) | (refine wpList_ldB 43 _ (w7.heap.size) 0 _ [I (rtN s (lkV (k:Int) realm) 0),I (10+realm),I (rtN s (lkV (k:Int) realm) 2),I (rtN s (lkV (k:Int) realm) 3),I (rtN s (lkV (k:Int) realm) 4),I (rtN s (lkV (k:Int) realm) 5),.slice ua (rtP s (lkV (k:Int) realm)).length uc,.slice va (rtV s (lkV (k:Int) realm)).length vc] it hit ag43 TT (by rw [htz];rfl) rfl rfl rfl rfl ?_;try simp only [Act.put]) | (refine wpList_stB 43 _ _ (w.heap.size+1) 0 _ [I (rtN s (lkV (k:Int) realm) 0),I (10+realm),I (rtN s (lkV (k:Int) realm) 2),I (rtN s (lkV (k:Int) realm) 3),I (rtN s (lkV (k:Int) realm) 4),I (rtN s (lkV (k:Int) realm) 5),.slice ua (rtP s (lkV (k:Int) realm)).length uc,.slice va (rtV s (lkV (k:Int) realm)).length vc] it hit UC (by rw [htz];rfl) (by simp) rfl rfl rfl rfl rfl ?_;try simp only [Act.put]))
       refine bodyPost_ret (res_B3 rfl _ _ (w.heap.size+1) _ _ _ it hit ag43 FU (by rw [htz];rfl) rfl rfl rfl) rfl ?_
       obtain ⟨e1,e2,e3⟩:=HE.out
       unfold ShSp
       rw [e1,e2,e3,HN.out]
       exact ⟨ua,uc,va,vc,rfl,⟨RP,fun p e=>by subst e;have:=(kP p.block rfl).1;omega⟩,⟨RV,fun p e=>by subst e;have:=(kV p.block rfl).1;omega⟩,FB⟩
      ·have hk:shOk realm s (lkV (k:Int) realm)=false:=by unfold shOk;rw [h1,decide_eq_false h2];rfl
       have q2_:=TT.at 1 rfl
       have HS2:Hid (∀ q:Nat,q < k+1→lkOk c realm s (q:Int)=false):=fun q hq=>by
        by_cases e:q=k
        ·rw [e];unfold lkOk;rw [hk];simp
        ·exact hno.out q (by omega)
       go_wp2_with (first | (rw [hW8]))
       go_roundw
       case rel =>
        have R:∃ k2:Nat,k2≤3∧Value.int .i64 ((k:Int)+1)=I (k2:Int)∧Hid (∀ q:Nat,q < k2→lkOk c realm s (q:Int)=false)∧Below w.heap.size w W8∧Blk w.heap.size [.slice c.ua c.U.length c.uc,.slice c.sa c.S.length c.sc,.slice c.la c.L.length c.lc,.slice c.xa c.X.length c.xc,I c.k] W8∧Blk (w.heap.size+1) [I 0,I 0,I 0,I 0,I 0,I 0,.slice none 0 0,.slice none 0 0] W8:=⟨k+1,by omega,by go_num,HS2,BC,TC,UC⟩
        first | exact R | ((repeat apply Exists.intro);exact ⟨R,rfl⟩)
       case measure=>simp [intOf];omega
     | false =>
      have hk:shOk realm s (lkV (k:Int) realm)=false:=by unfold shOk;rw [h1];rfl
      have HS2:Hid (∀ q:Nat,q < k+1→lkOk c realm s (q:Int)=false):=fun q hq=>by
       by_cases e:q=k
       ·rw [e];unfold lkOk;rw [hk];simp
       ·exact hno.out q (by omega)
      go_wp2_with (first | (rw [hW8]))
      go_roundw
      case rel =>
       have R:∃ k2:Nat,k2≤3∧Value.int .i64 ((k:Int)+1)=I (k2:Int)∧Hid (∀ q:Nat,q < k2→lkOk c realm s (q:Int)=false)∧Below w.heap.size w W8∧Blk w.heap.size [.slice c.ua c.U.length c.uc,.slice c.sa c.S.length c.sc,.slice c.la c.L.length c.lc,.slice c.xa c.X.length c.xc,I c.k] W8∧Blk (w.heap.size+1) [I 0,I 0,I 0,I 0,I 0,I 0,.slice none 0 0,.slice none 0 0] W8:=⟨k+1,by omega,by go_num,HS2,BC,TC,UC⟩
       first | exact R | ((repeat apply Exists.intro);exact ⟨R,rfl⟩)
      case measure=>simp [intOf];omega
    ·rw [decide_eq_false hm]
     have HS2:Hid (∀ q:Nat,q < k+1→lkOk c realm s (q:Int)=false):=fun q hq=>by
      by_cases e:q=k
      ·rw [e];unfold lkOk;rw [decide_eq_false hm];rfl
      ·exact hno.out q (by omega)
     go_wp2_with fail
     go_roundw
     case rel =>
      have R:∃ k2:Nat,k2≤3∧Value.int .i64 ((k:Int)+1)=I (k2:Int)∧Hid (∀ q:Nat,q < k2→lkOk c realm s (q:Int)=false)∧Below w.heap.size w w5∧Blk w.heap.size [.slice c.ua c.U.length c.uc,.slice c.sa c.S.length c.sc,.slice c.la c.L.length c.lc,.slice c.xa c.X.length c.xc,I c.k] w5∧Blk (w.heap.size+1) [I 0,I 0,I 0,I 0,I 0,I 0,.slice none 0 0,.slice none 0 0] w5:=⟨k+1,by omega,by go_num,HS2,BC,TC,UC⟩
      first | exact R | ((repeat apply Exists.intro);exact ⟨R,rfl⟩)
     case measure=>simp [intOf];omega
   ·obtain rfl:k=3:=by omega
    obtain ⟨e1,e2,e3⟩:=sh_none HK.out (hno.out 0 (by omega)) (hno.out 1 (by omega)) (hno.out 2 (by omega))
    have HE:Hid (shK c realm s=-1∧shF c realm s=-1∧shB c realm s=false):=⟨e1,e2,e3⟩
    clear e1 e2 e3
    have FU:=UC.sets [I 0,I 0,I 0,I 0,I 0,I 0,.slice none 0 0,.slice none 0 0] rfl
    have FB:=below_sets (m:=w.heap.size) (g:=(w.heap.size+1)) (by omega) [I 0,I 0,I 0,I 0,I 0,I 0,.slice none 0 0,.slice none 0 0] 0 _ BC
    go_wp2_with (refine wpList_stB 43 _ _ (w.heap.size+1) 0 _ [I 0,I 0,I 0,I 0,I 0,I 0,.slice none 0 0,.slice none 0 0] it hit UC (by rw [htz];rfl) (by simp) rfl rfl rfl rfl rfl ?_;try simp only [Act.put])
    refine bodyPost_ret (res_B3 rfl _ _ (w.heap.size+1) _ _ _ it hit ag43 FU (by rw [htz];rfl) rfl rfl rfl) rfl ?_
    obtain ⟨e1,e2,e3⟩:=HE.out
    unfold ShSp
    rw [e1,e2,e3]
    have n_:=rt_neg s
    simp only [rtN_no n_,rtP_no n_,rtV_no n_]
    exact ⟨none,0,none,0,rfl,RF.none _ _,RF.none _ _,FB⟩
end Go.Proofs.YtcaieniddnhkbaaGreatDoor
