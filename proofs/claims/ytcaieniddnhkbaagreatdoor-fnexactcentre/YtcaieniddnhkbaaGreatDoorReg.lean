/- Regions that draw their order; rows that are drawn besides. -/
import Derived.Test.YtcaieniddnhkbaaGreatDoorAb
import Derived.Test.YtcaieniddnhkbaaGreatDoorVarWalks
import Derived.Test.YtcaieniddnhkbaaGreatDoorFaces2
import Derived.Test.YtcaieniddnhkbaaGreatDoorWalks
import Derived.Test.YtcaieniddnhkbaaGreatDoorTickMath
import Derived.Test.YtcaieniddnhkbaaGreatDoorNums
import Derived.Test.YtcaieniddnhkbaaGreatDoorReadNums
import Derived.WalkKit
import Derived.WalkSpells
import Derived.WalkLawsBesides
import Derived.Deep.QuietTactic
import Derived.Deep.RegionHeld3
import Derived.Maps.AppendAt
import Derived.BigQuiet
import Derived.WalkSmall
import Derived.Below
import Derived.Lib.SmallJoins
import Derived.Test.YtcaieniddnhkbaaGreatDoorKeys
import Derived.Test.YtcaieniddnhkbaaGreatDoorShG
set_option linter.unusedVariables false
namespace Go.Proofs.YtcaieniddnhkbaaGreatDoor
open Go Go.RowKit Go.Joins Own Var Term Draw
theorem Blk.only {g p:Nat} {vs:List Value} {w w':World} (h:Blk g vs w) (ho:Only p w w') (hg:g < w.heap.size) (hp:g≠p):Blk g vs w' :=
 ⟨fun i v e=>⟨(ho.cell (q:=⟨g,i,none⟩) hg hp).trans (h.out i v e).1,(ho.frozen (q:=⟨g,i,none⟩) hg hp).trans (h.out i v e).2⟩⟩
theorem Blk.lt {g:Nat} {v:Value} {vs:List Value} {w:World} (h:Blk g (v :: vs) w):g < w.heap.size:=World.block_lt_of_cell? w _ (h.at 0 rfl)
theorem Draw.Cu.set {p q:Nat} {a:Option Addr} {len cap:Nat} {zs:List Int} {W w:World} (h:Cu p a len cap zs W w) (hq:W.heap.size≤q) (hp:p < q) (o:Nat) (v:Value):Cu p a len cap zs W (w.setCell ⟨q,o,none⟩ v):=by
 obtain ⟨⟨s,h⟩,k⟩:=h
 have hg:w.grownBy (w.setCell ⟨q,o,none⟩ v) (some q):=⟨rfl,rfl,rfl,by simp,fun j _ hn=>Below.heap_setCell w ⟨q,o,none⟩ v j (fun e=>hn (by rw [e]))⟩
 refine ⟨⟨s,h.grown hg (fun j hj=>by simp at hj;omega)⟩,k.os,k.tape,k.output,by have:=k.size;simpa using this,fun j hj hn=>(Below.heap_setCell w ⟨q,o,none⟩ v j (fun e=>?_)).trans (k.block j hj hn)⟩
 have e2:j=q:=e
 omega
theorem take_any {P:Program} {ops:Array Oper} {Q:Exit→Act→World→Prop} {md:Region.Mode} (i d:Nat) {oi:Oper} {v:Value} {fuel:Nat} {listed:Array Bool} {a:Act} {w:World} (hi:ops[i]?=some oi) (hd:oi.dst=some d)
  (hs:Region.noSelect ops=true) (hf:Region.free md ops listed i=true) (hr:(Region.ready md ops listed).contains i=true) (hQ:∀ c a w,Q (.panic c) (a.put (some d) v) w→Q (.panic c) a w)
  (hy:Yields P ops oi v a) (h:wpAny P md ops Q fuel (listed.setIfInBounds i true) (a.put (some d) v) w):wpAny P md ops Q (fuel + 1) listed a w :=
 wpAny_take hi hs hf hr (by rw [hd];exact hQ) hy (by rw [hd];exact h)
end Go.Proofs.YtcaieniddnhkbaaGreatDoor
set_option maxRecDepth 100000
namespace Go.Proofs.YtcaieniddnhkbaaGreatDoor
open Go Go.RowKit Own Var Term
theorem not_empty {x:ByteArray} (h:x≠⟨#[]⟩):x.toList.isEmpty=false:=by
 cases hx:x.toList.isEmpty with
 | false=>rfl
 | true =>
  rw [ByteArray.toList_eq,List.isEmpty_iff] at hx
  exact (h (ByteArray.ext (Array.toList_inj.1 hx))).elim
set_option maxHeartbeats 6400000 in
theorem specReply_is (nonce:Int) (t gr:ByteArray) (e:Ev) (w:World) (ht:t.size≤1048576) (hg:gr.size≤1048576):Calls Tryz.prog 74 #[I nonce,.string t,.string gr,e.val] w fun en w'=>en=.returned (replyR nonce t gr e).val∧Below w.heap.size w w':=by
 obtain ⟨W2,hW2⟩:∃ W2,(w.alloc (.cells #[I e.kind,I e.realm,I e.by',I e.cl,I e.sv,I e.key,I e.par,I e.ev,I e.r0,I e.r1,I e.r2] 33)).alloc (.cells #[I 0,.string ⟨#[]⟩,I 0,I 0,I 0,I 0,I 0,I 0,I 0,I 0,I 0,I 0,I 0] 35)=W2:=⟨_,rfl⟩
 have B2:Below w.heap.size w W2:=by rw [← hW2];exact ((Below.refl _ _).alloc (Nat.le_refl _) _).alloc (by simp) _
 have T2:Blk w.heap.size [I e.kind,I e.realm,I e.by',I e.cl,I e.sv,I e.key,I e.par,I e.ev,I e.r0,I e.r1,I e.r2] W2:=by rw [← hW2];exact (Blk.new w #[I e.kind,I e.realm,I e.by',I e.cl,I e.sv,I e.key,I e.par,I e.ev,I e.r0,I e.r1,I e.r2] _).alloc (by simp) _
 have U2:Blk (w.heap.size + 1) [I 0,.string ⟨#[]⟩,I 0,I 0,I 0,I 0,I 0,I 0,I 0,I 0,I 0,I 0,I 0] W2:=by rw [← hW2];have:=Blk.new (w.alloc (.cells #[I e.kind,I e.realm,I e.by',I e.cl,I e.sv,I e.key,I e.par,I e.ev,I e.r0,I e.r1,I e.r2] 33)) #[I 0,.string ⟨#[]⟩,I 0,I 0,I 0,I 0,I 0,I 0,I 0,I 0,I 0,I 0,I 0] 35;simpa using this
 obtain ⟨W3,hW3⟩:∃ W3,W2.alloc (.cells #[I 3,I nonce] 3)=W3:=⟨_,rfl⟩
 have X3:Below W2.heap.size W2 W3:=by rw [← hW3];exact (Below.refl _ _).alloc (Nat.le_refl _) _
 have R3:RowAt (Value.int .i64) W3 (some ⟨W2.heap.size,0,none⟩) [3,nonce]:=by rw [← hW3];exact row_new (Value.int .i64) W2 [3,nonce] 3
 have T3:=T2.later X3 T2.lt
 have U3:=U2.later X3 U2.lt
 have B3:=B2.trans (X3.mono B2.size)
 have hs2:W2.heap.size=w.heap.size + 2:=by rw [← hW2];simp
 have HN:=spec_nums (some ⟨W2.heap.size,0,none⟩) 2 [3,nonce] _ R3 (by simp)
 rw [hs2] at HN
 clear X3 R3 T2 U2 B2
 go_enter Tryz.func74,Tryz.ntmps74
 go_wp2_with fail
 try rw [hW2]
 try rw [hW3]
 refine HN.mono ?_
 clear HN hW2 hW3 hs2
 rintro en w4 ⟨rfl,hb4⟩
 have T4:=T3.later hb4 T3.lt
 have U4:=U3.later hb4 U3.lt
 have B4:=B3.trans (hb4.mono B3.size)
 clear T3 U3 B3 hb4
 obtain ⟨W5,hW5⟩:∃ W5,w4.alloc (.cells #[.string (numsT [3,nonce]),.string t,.string gr] 9)=W5:=⟨_,rfl⟩
 have X5:Below w4.heap.size w4 W5:=by rw [← hW5];exact (Below.refl _ _).alloc (Nat.le_refl _) _
 have R5:RowAt Value.string W5 (some ⟨w4.heap.size,0,none⟩) [numsT [3,nonce],t,gr]:=by rw [← hW5];exact row_new Value.string w4 [numsT [3,nonce],t,gr] 9
 have T5:=T4.later X5 T4.lt
 have U5:=U4.later X5 U4.lt
 have B5:=B4.trans (X5.mono B4.size)
 have HL:=spec_list (some ⟨w4.heap.size,0,none⟩) 3 [numsT [3,nonce],t,gr] _ R5 (by simp) (by intro x hx;simp only [List.mem_cons,List.not_mem_nil,or_false] at hx;rcases hx with rfl | rfl | rfl;exact Nat.le_trans (listT_size _) (by omega);exact ht;exact hg)
 clear X5 R5 T4 U4 B4
 go_wp2_with fail
 try rw [hW5]
 refine HL.mono ?_
 clear HL hW5
 rintro en w6 ⟨rfl,hb6⟩
 have T6:=T5.later hb6 T5.lt
 have U6:=U5.later hb6 U5.lt
 have B6:=B5.trans (hb6.mono B5.size)
 clear T5 U5 B5 hb6
 rw [show listT [numsT [3,nonce],t,gr]=okTerm nonce t gr from rfl]
 by_cases h:okTerm nonce t gr=⟨#[]⟩
 ·have HR:Hid (replyR nonce t gr e=failR 1):=by show _=_;unfold replyR;rw [if_pos h]
  rw [h]
  go_wp2_with fail
  refine (spec_fail 1 _).mono ?_
  rintro en w7 ⟨rfl,hb7⟩
  have U7:=U6.later hb7 U6.lt
  have B7:=B6.trans (hb7.mono B6.size)
  clear T6 U6 B6 hb7
  have FG:=show Hid _ from U7.fill13 B7 (by omega) (I 1) (.string ⟨#[]⟩) (I 0) (I 0) (I 0) (I 0) (I 0) (I 0) (I 0) (I 0) (I 0) (I 0) (I 0)
  have r0:=U7.at 0 rfl
  have g0:=U7.fz 0 rfl
  have r1:=U7.at 1 rfl
  have g1:=U7.fz 1 rfl
  have r2:=U7.at 2 rfl
  have g2:=U7.fz 2 rfl
  have r3:=U7.at 3 rfl
  have g3:=U7.fz 3 rfl
  have r4:=U7.at 4 rfl
  have g4:=U7.fz 4 rfl
  have r5:=U7.at 5 rfl
  have g5:=U7.fz 5 rfl
  have r6:=U7.at 6 rfl
  have g6:=U7.fz 6 rfl
  have r7:=U7.at 7 rfl
  have g7:=U7.fz 7 rfl
  have r8:=U7.at 8 rfl
  have g8:=U7.fz 8 rfl
  have r9:=U7.at 9 rfl
  have g9:=U7.fz 9 rfl
  have r10:=U7.at 10 rfl
  have g10:=U7.fz 10 rfl
  have r11:=U7.at 11 rfl
  have g11:=U7.fz 11 rfl
  have r12:=U7.at 12 rfl
  have g12:=U7.fz 12 rfl
  clear U7 B7
  rw [show (failR 1).val=.agg #[I 1,.string ⟨#[]⟩,I 0,I 0,I 0,I 0,I 0,I 0,I 0,I 0,I 0,I 0,I 0] from rfl]
  go_wp2
  have G:=FG.out
  obtain ⟨WW,hWW⟩:∃ WW,(World.setCell (World.setCell (World.setCell (World.setCell (World.setCell (World.setCell (World.setCell (World.setCell (World.setCell (World.setCell (World.setCell (World.setCell (World.setCell w7 ⟨w.heap.size + 1,0,none⟩ (I 1)) ⟨w.heap.size + 1,1,none⟩ (.string ⟨#[]⟩)) ⟨w.heap.size + 1,2,none⟩ (I 0)) ⟨w.heap.size + 1,3,none⟩ (I 0)) ⟨w.heap.size + 1,4,none⟩ (I 0)) ⟨w.heap.size + 1,5,none⟩ (I 0)) ⟨w.heap.size + 1,6,none⟩ (I 0)) ⟨w.heap.size + 1,7,none⟩ (I 0)) ⟨w.heap.size + 1,8,none⟩ (I 0)) ⟨w.heap.size + 1,9,none⟩ (I 0)) ⟨w.heap.size + 1,10,none⟩ (I 0)) ⟨w.heap.size + 1,11,none⟩ (I 0)) ⟨w.heap.size + 1,12,none⟩ (I 0))=WW:=⟨_,rfl⟩
  rw [hWW] at G ⊢
  clear hWW FG
  refine bodyPost_ret (res_r rfl _ WW (w.heap.size + 1) (I 1) (.string ⟨#[]⟩) (I 0) (I 0) (I 0) (I 0) (I 0) (I 0) (I 0) (I 0) (I 0) (I 0) (I 0) rfl (G.1.at 0 rfl) (G.1.at 1 rfl) (G.1.at 2 rfl) (G.1.at 3 rfl) (G.1.at 4 rfl) (G.1.at 5 rfl) (G.1.at 6 rfl) (G.1.at 7 rfl) (G.1.at 8 rfl) (G.1.at 9 rfl) (G.1.at 10 rfl) (G.1.at 11 rfl) (G.1.at 12 rfl)) rfl ⟨by rw [HR.out];rfl,G.2⟩
 ·have HR:Hid (replyR nonce t gr e=⟨0,okTerm nonce t gr,e⟩):=by show _=_;unfold replyR;rw [if_neg h]
  have FG:=show Hid _ from U6.fill13 B6 (by omega) (I 0) (.string (okTerm nonce t gr)) (I e.kind) (I e.realm) (I e.by') (I e.cl) (I e.sv) (I e.key) (I e.par) (I e.ev) (I e.r0) (I e.r1) (I e.r2)
  generalize okTerm nonce t gr=x at h HR FG ⊢
  have e1:=not_empty h
  have d0:=T6.at 0 rfl
  have d1:=T6.at 1 rfl
  have d2:=T6.at 2 rfl
  have d3:=T6.at 3 rfl
  have d4:=T6.at 4 rfl
  have d5:=T6.at 5 rfl
  have d6:=T6.at 6 rfl
  have d7:=T6.at 7 rfl
  have d8:=T6.at 8 rfl
  have d9:=T6.at 9 rfl
  have d10:=T6.at 10 rfl
  have r0:=U6.at 0 rfl
  have g0:=U6.fz 0 rfl
  have r1:=U6.at 1 rfl
  have g1:=U6.fz 1 rfl
  have r2:=U6.at 2 rfl
  have g2:=U6.fz 2 rfl
  have r3:=U6.at 3 rfl
  have g3:=U6.fz 3 rfl
  have r4:=U6.at 4 rfl
  have g4:=U6.fz 4 rfl
  have r5:=U6.at 5 rfl
  have g5:=U6.fz 5 rfl
  have r6:=U6.at 6 rfl
  have g6:=U6.fz 6 rfl
  have r7:=U6.at 7 rfl
  have g7:=U6.fz 7 rfl
  have r8:=U6.at 8 rfl
  have g8:=U6.fz 8 rfl
  have r9:=U6.at 9 rfl
  have g9:=U6.fz 9 rfl
  have r10:=U6.at 10 rfl
  have g10:=U6.fz 10 rfl
  have r11:=U6.at 11 rfl
  have g11:=U6.fz 11 rfl
  have r12:=U6.at 12 rfl
  have g12:=U6.fz 12 rfl
  clear T6 U6 B6
  go_wp2
  have G:=FG.out
  obtain ⟨WW,hWW⟩:∃ WW,(World.setCell (World.setCell (World.setCell (World.setCell (World.setCell (World.setCell (World.setCell (World.setCell (World.setCell (World.setCell (World.setCell (World.setCell (World.setCell w6 ⟨w.heap.size + 1,0,none⟩ (I 0)) ⟨w.heap.size + 1,1,none⟩ (.string x)) ⟨w.heap.size + 1,2,none⟩ (I e.kind)) ⟨w.heap.size + 1,3,none⟩ (I e.realm)) ⟨w.heap.size + 1,4,none⟩ (I e.by')) ⟨w.heap.size + 1,5,none⟩ (I e.cl)) ⟨w.heap.size + 1,6,none⟩ (I e.sv)) ⟨w.heap.size + 1,7,none⟩ (I e.key)) ⟨w.heap.size + 1,8,none⟩ (I e.par)) ⟨w.heap.size + 1,9,none⟩ (I e.ev)) ⟨w.heap.size + 1,10,none⟩ (I e.r0)) ⟨w.heap.size + 1,11,none⟩ (I e.r1)) ⟨w.heap.size + 1,12,none⟩ (I e.r2))=WW:=⟨_,rfl⟩
  rw [hWW] at G ⊢
  clear hWW FG
  refine bodyPost_ret (res_r rfl _ WW (w.heap.size + 1) (I 0) (.string x) (I e.kind) (I e.realm) (I e.by') (I e.cl) (I e.sv) (I e.key) (I e.par) (I e.ev) (I e.r0) (I e.r1) (I e.r2) rfl (G.1.at 0 rfl) (G.1.at 1 rfl) (G.1.at 2 rfl) (G.1.at 3 rfl) (G.1.at 4 rfl) (G.1.at 5 rfl) (G.1.at 6 rfl) (G.1.at 7 rfl) (G.1.at 8 rfl) (G.1.at 9 rfl) (G.1.at 10 rfl) (G.1.at 11 rfl) (G.1.at 12 rfl)) rfl ⟨by rw [HR.out],G.2⟩
end Go.Proofs.YtcaieniddnhkbaaGreatDoor
set_option maxRecDepth 100000
namespace Go.Proofs.YtcaieniddnhkbaaGreatDoor
open Go Go.RowKit Own Var Term
end Go.Proofs.YtcaieniddnhkbaaGreatDoor
namespace Go.Proofs.YtcaieniddnhkbaaGreatDoor
open Go Go.RowKit Own Var Term
set_option maxRecDepth 100000 in
set_option maxHeartbeats 1600000 in
theorem ticketOk_is (c s k a b e:Int) (pa:Option Addr) (P:List Int) (pc:Nat) (va:Option Addr) (V:List Int) (vc:Nat) (w:World) (hs:i64 s) (hp:RowAt (Value.int .i64) w pa P) (hv:RowAt (Value.int .i64) w va V) (hpl:P.length≤1048576) (hvl:V.length≤1048576):Calls Tryz.prog 167 #[.agg #[I c,I s,I k,I a,I b,I e,.slice pa P.length pc,.slice va V.length vc]] w fun en w'=>en=.returned (.bool (tOk c s k a b e P V))∧Below w.heap.size w w':=by
 obtain ⟨W1,hW1⟩:∃ W1,w.alloc (.cells #[I c,I s,I k,I a,I b,I e,.slice pa P.length pc,.slice va V.length vc] 43)=W1:=⟨_,rfl⟩
 have B0:Below w.heap.size w W1:=by rw [← hW1];exact (Below.refl _ _).alloc (Nat.le_refl _) _
 have T0:Blk w.heap.size [I c,I s,I k,I a,I b,I e,.slice pa P.length pc,.slice va V.length vc] W1:=by rw [← hW1];exact Blk.new _ _ _
 have Z0:Hid (w.heap.size < W1.heap.size):=by show _ < _;rw [← hW1];simp
 have d0:=T0.at 0 rfl
 have d1:=T0.at 1 rfl
 have d2:=T0.at 2 rfl
 have d3:=T0.at 3 rfl
 have d4:=T0.at 4 rfl
 have d5:=T0.at 5 rfl
 have d6:=T0.at 6 rfl
 have d7:=T0.at 7 rfl
 go_enter Tryz.func167,Tryz.ntmps167
 go_wp2_with fail
 try rw [hW1]
 refine (prin_is c _).mono ?_
 clear hW1
 rintro e wx ⟨rfl,rfl⟩
 by_cases h0:btw c 0 5=true
 ·rw [h0]
  go_wp2_with fail
  refine (recv_is s _ hs).mono ?_
  rintro e wx ⟨rfl,rfl⟩
  by_cases h1:svOk s=true
  ·rw [h1]
   go_wp2_with fail
   refine (keyOk_is k _).mono ?_
   rintro e wx ⟨rfl,rfl⟩
   rw [show (decide (1≤k) && decide (k≤1000000))=btw k 1 1000000 from rfl]
   by_cases h2:btw k 1 1000000=true
   ·rw [h2]
    go_wp2_with fail
    refine (right_is a b e _).mono ?_
    rintro e w5 ⟨rfl,hb5⟩
    have B5:=B0.trans (hb5.mono B0.size)
    clear d0 d1 d2 d3 d4 d5 d6 d7
    have T5:=T0.later hb5 Z0.out
    have Z5:Hid (w.heap.size < w5.heap.size):=Nat.lt_of_lt_of_le Z0.out hb5.size
    clear T0 Z0 hb5
    have d0:=T5.at 0 rfl
    have d1:=T5.at 1 rfl
    have d2:=T5.at 2 rfl
    have d3:=T5.at 3 rfl
    have d4:=T5.at 4 rfl
    have d5:=T5.at 5 rfl
    have d6:=T5.at 6 rfl
    have d7:=T5.at 7 rfl
    by_cases h3:rOk a b e=true
    ·rw [h3]
     go_wp2_with fail
     refine (listOk_is 103 enters95 realm_is pa pc P 6 _ (hp.later B5) hpl (by omega)).mono ?_
     rintro e w6 ⟨rfl,hb6⟩
     have B6:=B5.trans (hb6.mono B5.size)
     clear d0 d1 d2 d3 d4 d5 d6 d7
     have T6:=T5.later hb6 Z5.out
     have Z6:Hid (w.heap.size < w6.heap.size):=Nat.lt_of_lt_of_le Z5.out hb6.size
     clear T5 Z5 hb6
     have d0:=T6.at 0 rfl
     have d1:=T6.at 1 rfl
     have d2:=T6.at 2 rfl
     have d3:=T6.at 3 rfl
     have d4:=T6.at 4 rfl
     have d5:=T6.at 5 rfl
     have d6:=T6.at 6 rfl
     have d7:=T6.at 7 rfl
     by_cases h4:allB P 6=true
     ·rw [h4]
      go_wp2_with fail
      refine (listOk_is 116 enters96 serv_is va vc V 4 _ (hv.later B6) hvl (by omega)).mono ?_
      rintro e w7 ⟨rfl,hb7⟩
      have B7:=B6.trans (hb7.mono B6.size)
      clear d0 d1 d2 d3 d4 d5 d6 d7
      have T7:=T6.later hb7 Z6.out
      have Z7:Hid (w.heap.size < w7.heap.size):=Nat.lt_of_lt_of_le Z6.out hb7.size
      clear T6 Z6 hb7
      have d0:=T7.at 0 rfl
      have d1:=T7.at 1 rfl
      have d2:=T7.at 2 rfl
      have d3:=T7.at 3 rfl
      have d4:=T7.at 4 rfl
      have d5:=T7.at 5 rfl
      have d6:=T7.at 6 rfl
      have d7:=T7.at 7 rfl
      clear d0 d1 d2 d3 d4 d5 d6 d7
      generalize hval:allB V 4=bb
      go_wp2
      go_ret
      exact ⟨by unfold tOk;rw [h0,h1,h2,h3,h4,hval];rfl,B7⟩
     ·rw [Bool.not_eq_true] at h4
      rw [h4]
      clear d0 d1 d2 d3 d4 d5 d6 d7
      go_wp2
      go_ret
      exact ⟨by unfold tOk;rw [h0,h1,h2,h3,h4];rfl,B6⟩
    ·rw [Bool.not_eq_true] at h3
     rw [h3]
     clear d0 d1 d2 d3 d4 d5 d6 d7
     go_wp2
     go_ret
     exact ⟨by unfold tOk;rw [h0,h1,h2,h3];rfl,B5⟩
   ·rw [Bool.not_eq_true] at h2
    rw [h2]
    clear d0 d1 d2 d3 d4 d5 d6 d7
    go_wp2
    go_ret
    exact ⟨by unfold tOk;rw [h0,h1,h2];rfl,B0⟩
  ·rw [Bool.not_eq_true] at h1
   rw [h1]
   clear d0 d1 d2 d3 d4 d5 d6 d7
   go_wp2
   go_ret
   exact ⟨by unfold tOk;rw [h0,h1];rfl,B0⟩
 ·rw [Bool.not_eq_true] at h0
  rw [h0]
  clear d0 d1 d2 d3 d4 d5 d6 d7
  go_wp2
  go_ret
  exact ⟨by unfold tOk;rw [h0];rfl,B0⟩
set_option maxRecDepth 100000 in
set_option maxHeartbeats 1600000 in
theorem spec_ticketOk (c s k a b e:Int) (pa:Option Addr) (P:List Int) (pc:Nat) (va:Option Addr) (V:List Int) (vc:Nat) (w:World) (hp:RowAt (Value.int .i64) w pa P) (hv:RowAt (Value.int .i64) w va V) (hpl:P.length≤1048576) (hvl:V.length≤1048576):Calls Tryz.prog 44 #[.agg #[I c,I s,I k,I a,I b,I e,.slice pa P.length pc,.slice va V.length vc]] w fun en w'=>en=.returned (.bool (tOk c s k a b e P V))∧Below w.heap.size w w':=by
 obtain ⟨W1,hW1⟩:∃ W1,w.alloc (.cells #[I c,I s,I k,I a,I b,I e,.slice pa P.length pc,.slice va V.length vc] 43)=W1:=⟨_,rfl⟩
 have B0:Below w.heap.size w W1:=by rw [← hW1];exact (Below.refl _ _).alloc (Nat.le_refl _) _
 have T0:Blk w.heap.size [I c,I s,I k,I a,I b,I e,.slice pa P.length pc,.slice va V.length vc] W1:=by rw [← hW1];exact Blk.new _ _ _
 have Z0:Hid (w.heap.size < W1.heap.size):=by show _ < _;rw [← hW1];simp
 have d0:=T0.at 0 rfl
 have d1:=T0.at 1 rfl
 have d2:=T0.at 2 rfl
 have d3:=T0.at 3 rfl
 have d4:=T0.at 4 rfl
 have d5:=T0.at 5 rfl
 have d6:=T0.at 6 rfl
 have d7:=T0.at 7 rfl
 go_enter Tryz.func44,Tryz.ntmps44
 go_wp2_with fail
 try rw [hW1]
 refine (spec_prin c _).mono ?_
 clear hW1
 rintro e wx ⟨rfl,rfl⟩
 by_cases h0:btw c 0 5=true
 ·rw [h0]
  go_wp2_with fail
  refine (spec_serv s _).mono ?_
  rintro e wx ⟨rfl,rfl⟩
  by_cases h1:svOk s=true
  ·rw [h1]
   go_wp2_with fail
   refine (in_is k 1 1000000 _).mono ?_
   rintro e wx ⟨rfl,rfl⟩
   rw [show (decide (1≤k) && decide (k≤1000000))=btw k 1 1000000 from rfl]
   by_cases h2:btw k 1 1000000=true
   ·rw [h2]
    go_wp2_with fail
    refine (specOk_is a b e _).mono ?_
    rintro e w5 ⟨rfl,hb5⟩
    have B5:=B0.trans (hb5.mono B0.size)
    clear d0 d1 d2 d3 d4 d5 d6 d7
    have T5:=T0.later hb5 Z0.out
    have Z5:Hid (w.heap.size < w5.heap.size):=Nat.lt_of_lt_of_le Z0.out hb5.size
    clear T0 Z0 hb5
    have d0:=T5.at 0 rfl
    have d1:=T5.at 1 rfl
    have d2:=T5.at 2 rfl
    have d3:=T5.at 3 rfl
    have d4:=T5.at 4 rfl
    have d5:=T5.at 5 rfl
    have d6:=T5.at 6 rfl
    have d7:=T5.at 7 rfl
    by_cases h3:rOk a b e=true
    ·rw [h3]
     go_wp2_with fail
     refine (spec_all pa pc P 6 _ (hp.later B5) hpl (by omega)).mono ?_
     rintro e w6 ⟨rfl,hb6⟩
     have B6:=B5.trans (hb6.mono B5.size)
     clear d0 d1 d2 d3 d4 d5 d6 d7
     have T6:=T5.later hb6 Z5.out
     have Z6:Hid (w.heap.size < w6.heap.size):=Nat.lt_of_lt_of_le Z5.out hb6.size
     clear T5 Z5 hb6
     have d0:=T6.at 0 rfl
     have d1:=T6.at 1 rfl
     have d2:=T6.at 2 rfl
     have d3:=T6.at 3 rfl
     have d4:=T6.at 4 rfl
     have d5:=T6.at 5 rfl
     have d6:=T6.at 6 rfl
     have d7:=T6.at 7 rfl
     by_cases h4:allB P 6=true
     ·rw [h4]
      go_wp2_with fail
      refine (spec_all va vc V 4 _ (hv.later B6) hvl (by omega)).mono ?_
      rintro e w7 ⟨rfl,hb7⟩
      have B7:=B6.trans (hb7.mono B6.size)
      clear d0 d1 d2 d3 d4 d5 d6 d7
      have T7:=T6.later hb7 Z6.out
      have Z7:Hid (w.heap.size < w7.heap.size):=Nat.lt_of_lt_of_le Z6.out hb7.size
      clear T6 Z6 hb7
      have d0:=T7.at 0 rfl
      have d1:=T7.at 1 rfl
      have d2:=T7.at 2 rfl
      have d3:=T7.at 3 rfl
      have d4:=T7.at 4 rfl
      have d5:=T7.at 5 rfl
      have d6:=T7.at 6 rfl
      have d7:=T7.at 7 rfl
      clear d0 d1 d2 d3 d4 d5 d6 d7
      generalize hval:allB V 4=bb
      go_wp2
      go_ret
      exact ⟨by unfold tOk;rw [h0,h1,h2,h3,h4,hval];rfl,B7⟩
     ·rw [Bool.not_eq_true] at h4
      rw [h4]
      clear d0 d1 d2 d3 d4 d5 d6 d7
      go_wp2
      go_ret
      exact ⟨by unfold tOk;rw [h0,h1,h2,h3,h4];rfl,B6⟩
    ·rw [Bool.not_eq_true] at h3
     rw [h3]
     clear d0 d1 d2 d3 d4 d5 d6 d7
     go_wp2
     go_ret
     exact ⟨by unfold tOk;rw [h0,h1,h2,h3];rfl,B5⟩
   ·rw [Bool.not_eq_true] at h2
    rw [h2]
    clear d0 d1 d2 d3 d4 d5 d6 d7
    go_wp2
    go_ret
    exact ⟨by unfold tOk;rw [h0,h1,h2];rfl,B0⟩
  ·rw [Bool.not_eq_true] at h1
   rw [h1]
   clear d0 d1 d2 d3 d4 d5 d6 d7
   go_wp2
   go_ret
   exact ⟨by unfold tOk;rw [h0,h1];rfl,B0⟩
 ·rw [Bool.not_eq_true] at h0
  rw [h0]
  clear d0 d1 d2 d3 d4 d5 d6 d7
  go_wp2
  go_ret
  exact ⟨by unfold tOk;rw [h0];rfl,B0⟩
end Go.Proofs.YtcaieniddnhkbaaGreatDoor
namespace Go.Proofs.YtcaieniddnhkbaaGreatDoor
open Go Go.RowKit Own Var Term
set_option maxRecDepth 100000 in
set_option maxHeartbeats 12800000 in
theorem specShowT_is (c s k a b e:Int) (pa:Option Addr) (P:List Int) (pc:Nat) (va:Option Addr) (V:List Int) (vc:Nat) (key:Int) (w:World) (hp:RowAt (Value.int .i64) w pa P) (hv:RowAt (Value.int .i64) w va V) (hpl:P.length≤1048576) (hvl:V.length≤1048576):Calls Tryz.prog 59 #[.agg #[I c,I s,I k,I a,I b,I e,.slice pa P.length pc,.slice va V.length vc],I key] w fun en w'=>en=.returned (.string (shT c s k a b e P V key))∧Below w.heap.size w w':=by
 obtain ⟨W2,hW2⟩:∃ W2,w.alloc (.cells #[I c,I s,I k,I a,I b,I e,.slice pa P.length pc,.slice va V.length vc] 43)=W2:=⟨_,rfl⟩
 have B2:Below w.heap.size w W2:=by rw [← hW2];exact (Below.refl _ _).alloc (Nat.le_refl _) _
 have T2:Blk w.heap.size [I c,I s,I k,I a,I b,I e,.slice pa P.length pc,.slice va V.length vc] W2:=by rw [← hW2];exact Blk.new w #[I c,I s,I k,I a,I b,I e,.slice pa P.length pc,.slice va V.length vc] _
 have Z2:Hid (w.heap.size + 1≤W2.heap.size):=by show _≤_;rw [← hW2];simp
 have e0:=T2.at 0 rfl
 have e1:=T2.at 1 rfl
 have e2:=T2.at 2 rfl
 have e3:=T2.at 3 rfl
 have e4:=T2.at 4 rfl
 have e5:=T2.at 5 rfl
 have e6:=T2.at 6 rfl
 have e7:=T2.at 7 rfl
 have HP2:=RowAt.later hp B2
 have HV2:=RowAt.later hv B2
 go_enter Tryz.func59,Tryz.ntmps59
 go_wp2_with fail
 try rw [hW2]
 refine (spec_ticketOk c s k a b e pa P pc va V vc _ HP2 HV2 hpl hvl).mono ?_
 clear hW2
 rintro en w3 ⟨rfl,hb3⟩
 have TC:=T2.later hb3 (by have:=Z2.out;omega)
 have ZC:Hid (w.heap.size + 1≤w3.heap.size):=Nat.le_trans Z2.out hb3.size
 have BC:=B2.trans (hb3.mono B2.size)
 have HP:=RowAt.later HP2 hb3
 have HV:=RowAt.later HV2 hb3
 clear T2 Z2 B2 hb3 e0 e1 e2 e3 e4 e5 e6 e7 HP2 HV2
 by_cases h0:tOk c s k a b e P V=true
 ·rw [h0]
  go_wp2_with fail
  have TCD:=TC.drew
  have BCD:=BC.drew
  have ZCD:Hid (w.heap.size + 1≤w3.drew.heap.size):=ZC
  have HPD:RowAt (Value.int .i64) w3.drew _ _:=HP
  have HVD:RowAt (Value.int .i64) w3.drew _ _:=HV
  clear TC BC ZC HP HV
  have TC:=TCD
  have BC:=BCD
  have ZC:=ZCD
  have HP:=HPD
  have HV:=HVD
  clear TCD BCD ZCD HPD HVD
  refine wp_region_held_drew (S:=(fun Vw=>Blk w.heap.size [I c,I s,I k,I a,I b,I e,.slice pa P.length pc,.slice va V.length vc] Vw)) (by kernel_rfl) TC (fun hH=>?_)
  refine tk 0 8 rfl _ hH (by intro w' h;have d0:=h.e8;go_simp;try with_reducible rfl) ?_
  try simp only [Act.put,pa,pb,pc]
  refine tk 1 9 rfl _ hH (by intro w' h;have d0:=h.e8;go_simp;try with_reducible rfl) ?_
  try simp only [Act.put,pa,pb,pc]
  refine tk 2 10 rfl _ hH (by intro w' h;have d0:=h.e8;go_simp;try with_reducible rfl) ?_
  try simp only [Act.put,pa,pb,pc]
  refine tk 3 11 rfl _ hH (by intro w' h;have d0:=h.e8;go_simp;try with_reducible rfl) ?_
  try simp only [Act.put,pa,pb,pc]
  refine tk 4 12 rfl _ hH (by intro w' h;have d0:=h.e8;go_simp;try with_reducible rfl) ?_
  try simp only [Act.put,pa,pb,pc]
  refine tk 7 15 rfl _ hH (by intro w' h;have d0:=h.e8;go_simp;try with_reducible rfl) ?_
  try simp only [Act.put,pa,pb,pc]
  refine tk 8 16 rfl _ hH (by intro w' h;have d0:=h.e8;go_simp;try with_reducible rfl) ?_
  try simp only [Act.put,pa,pb,pc]
  refine tk 10 18 rfl _ hH (by intro w' h;have d0:=h.e8;go_simp;try with_reducible rfl) ?_
  try simp only [Act.put,pa,pb,pc]
  refine tk 11 19 rfl _ hH (by intro w' h;have d0:=h.e8;go_simp;try with_reducible rfl) ?_
  try simp only [Act.put,pa,pb,pc]
  refine tk 13 21 rfl _ hH (by intro w' h;have d0:=h.e8;go_simp;try with_reducible rfl) ?_
  try simp only [Act.put,pa,pb,pc]
  refine tk 14 22 rfl _ hH (by intro w' h;have d0:=h.e8;go_simp;try with_reducible rfl) ?_
  try simp only [Act.put,pa,pb,pc]
  refine tk 16 24 rfl _ hH (by intro w' h;have d0:=h.e8;go_simp;try with_reducible rfl) ?_
  try simp only [Act.put,pa,pb,pc]
  refine tk 17 25 rfl _ hH (by intro w' h;have d0:=h.e8;go_simp;try with_reducible rfl) ?_
  try simp only [Act.put,pa,pb,pc]
  obtain ⟨v1,hv1⟩:∃ v,(w3.drew).alloc (.cells #[I c,I s] 3)=v:=⟨_,rfl⟩
  have XA:Below (w3.drew).heap.size (w3.drew) v1:=by rw [← hv1];exact (Below.refl _ _).alloc (Nat.le_refl _) _
  have TN:=TC.later XA (by have:=ZC.out;omega)
  have ZN:Hid (w.heap.size + 1≤v1.heap.size):=Nat.le_trans ZC.out XA.size
  have BN:=BC.trans (XA.mono BC.size)
  have HPN:=RowAt.later HP XA
  have HVN:=RowAt.later HV XA
  have RAN:RowAt (Value.int .i64) v1 (some ⟨(w3.drew).heap.size,0,none⟩) [c,s]:=by rw [← hv1];exact row_new (Value.int .i64) (w3.drew) [c,s] 3
  refine wpAnyH_ready (rs:=[5]) (by kernel_rfl) (by simp) ?_
  refine AllReadyH.cons (i:=5) rfl (fun K hK=>?_) AllReadyH.nil
  go_simp
  refine hK.out _ _ (by (try rw [hv1]);exact TN) (fun hJ=>?_)
  clear hK K hH
  have hH:=hJ
  clear hJ
  try simp only [Act.put,pa,pb,pc]
  clear TC ZC BC HP HV
  have TC:=TN
  have ZC:=ZN
  have BC:=BN
  have HP:=HPN
  have HV:=HVN
  clear TN ZN BN HPN HVN
  have RA:=RAN
  clear RAN XA
  try rw [hv1]
  clear hv1
  refine wpAnyH_ready (rs:=[6]) (by kernel_rfl) (by simp) ?_
  refine AllReadyH.cons (i:=6) rfl (fun K hK=>?_) AllReadyH.nil
  go_simp
  refine (spec_nums _ 2 [c,s] _ RA (by simp)).mono ?_
  rintro en v2 ⟨rfl,hv2⟩
  have TN:=TC.later hv2 (by have:=ZC.out;omega)
  have ZN:Hid (w.heap.size + 1≤v2.heap.size):=Nat.le_trans ZC.out hv2.size
  have BN:=BC.trans (hv2.mono BC.size)
  have HPN:=RowAt.later HP hv2
  have HVN:=RowAt.later HV hv2
  have RAN:=RowAt.later RA hv2
  clear TC ZC BC HP HV RA
  have TC:=TN
  have ZC:=ZN
  have BC:=BN
  have HP:=HPN
  have HV:=HVN
  have RA:=RAN
  clear TN ZN BN HPN HVN RAN
  clear hv2
  go_wp2_with fail
  refine hK.out _ _ TC (fun hJ=>?_)
  clear hK K hH
  have hH:=hJ
  clear hJ
  try simp only [Act.put,pa,pb,pc]
  clear RA
  refine wpAnyH_ready (rs:=[9]) (by kernel_rfl) (by simp) ?_
  refine AllReadyH.cons (i:=9) rfl (fun K hK=>?_) AllReadyH.nil
  go_simp
  refine (spec_key k _).mono ?_
  rintro en v3 ⟨rfl,hv3⟩
  have TN:=TC.later hv3 (by have:=ZC.out;omega)
  have ZN:Hid (w.heap.size + 1≤v3.heap.size):=Nat.le_trans ZC.out hv3.size
  have BN:=BC.trans (hv3.mono BC.size)
  have HPN:=RowAt.later HP hv3
  have HVN:=RowAt.later HV hv3
  clear TC ZC BC HP HV
  have TC:=TN
  have ZC:=ZN
  have BC:=BN
  have HP:=HPN
  have HV:=HVN
  clear TN ZN BN HPN HVN
  clear hv3
  go_wp2_with fail
  refine hK.out _ _ TC (fun hJ=>?_)
  clear hK K hH
  have hH:=hJ
  clear hJ
  try simp only [Act.put,pa,pb,pc]
  refine wpAnyH_ready (rs:=[12]) (by kernel_rfl) (by simp) ?_
  refine AllReadyH.cons (i:=12) rfl (fun K hK=>?_) AllReadyH.nil
  go_simp
  refine (specShow_is a b e _).mono ?_
  rintro en v4 ⟨rfl,hv4⟩
  have TN:=TC.later hv4 (by have:=ZC.out;omega)
  have ZN:Hid (w.heap.size + 1≤v4.heap.size):=Nat.le_trans ZC.out hv4.size
  have BN:=BC.trans (hv4.mono BC.size)
  have HPN:=RowAt.later HP hv4
  have HVN:=RowAt.later HV hv4
  clear TC ZC BC HP HV
  have TC:=TN
  have ZC:=ZN
  have BC:=BN
  have HP:=HPN
  have HV:=HVN
  clear TN ZN BN HPN HVN
  clear hv4
  go_wp2_with fail
  refine hK.out _ _ TC (fun hJ=>?_)
  clear hK K hH
  have hH:=hJ
  clear hJ
  try simp only [Act.put,pa,pb,pc]
  refine wpAnyH_ready (rs:=[15]) (by kernel_rfl) (by simp) ?_
  refine AllReadyH.cons (i:=15) rfl (fun K hK=>?_) AllReadyH.nil
  go_simp
  refine (spec_nums pa pc P _ HP hpl).mono ?_
  rintro en v5 ⟨rfl,hv5⟩
  have TN:=TC.later hv5 (by have:=ZC.out;omega)
  have ZN:Hid (w.heap.size + 1≤v5.heap.size):=Nat.le_trans ZC.out hv5.size
  have BN:=BC.trans (hv5.mono BC.size)
  have HPN:=RowAt.later HP hv5
  have HVN:=RowAt.later HV hv5
  clear TC ZC BC HP HV
  have TC:=TN
  have ZC:=ZN
  have BC:=BN
  have HP:=HPN
  have HV:=HVN
  clear TN ZN BN HPN HVN
  clear hv5
  go_wp2_with fail
  refine hK.out _ _ TC (fun hJ=>?_)
  clear hK K hH
  have hH:=hJ
  clear hJ
  try simp only [Act.put,pa,pb,pc]
  refine wpAnyH_ready (rs:=[18]) (by kernel_rfl) (by simp) ?_
  refine AllReadyH.cons (i:=18) rfl (fun K hK=>?_) AllReadyH.nil
  go_simp
  refine (spec_nums va vc V _ HV hvl).mono ?_
  rintro en v6 ⟨rfl,hv6⟩
  have TN:=TC.later hv6 (by have:=ZC.out;omega)
  have ZN:Hid (w.heap.size + 1≤v6.heap.size):=Nat.le_trans ZC.out hv6.size
  have BN:=BC.trans (hv6.mono BC.size)
  have HPN:=RowAt.later HP hv6
  have HVN:=RowAt.later HV hv6
  clear TC ZC BC HP HV
  have TC:=TN
  have ZC:=ZN
  have BC:=BN
  have HP:=HPN
  have HV:=HVN
  clear TN ZN BN HPN HVN
  clear hv6
  go_wp2_with fail
  refine hK.out _ _ TC (fun hJ=>?_)
  clear hK K hH
  have hH:=hJ
  clear hJ
  try simp only [Act.put,pa,pb,pc]
  obtain ⟨v7,hv7⟩:∃ v,(v6).alloc (.cells #[.string (numsT [c,s]),.string (keyT k),.string (shR a b e),.string (numsT P),.string (numsT V)] 9)=v:=⟨_,rfl⟩
  have XA:Below (v6).heap.size (v6) v7:=by rw [← hv7];exact (Below.refl _ _).alloc (Nat.le_refl _) _
  have TN:=TC.later XA (by have:=ZC.out;omega)
  have ZN:Hid (w.heap.size + 1≤v7.heap.size):=Nat.le_trans ZC.out XA.size
  have BN:=BC.trans (XA.mono BC.size)
  have HPN:=RowAt.later HP XA
  have HVN:=RowAt.later HV XA
  have RLN:RowAt Value.string v7 (some ⟨(v6).heap.size,0,none⟩) [numsT [c,s],keyT k,shR a b e,numsT P,numsT V]:=by rw [← hv7];exact row_new Value.string (v6) [numsT [c,s],keyT k,shR a b e,numsT P,numsT V] 9
  refine wpAnyH_ready (rs:=[19]) (by kernel_rfl) (by simp) ?_
  refine AllReadyH.cons (i:=19) rfl (fun K hK=>?_) AllReadyH.nil
  go_simp
  refine hK.out _ _ (by (try rw [hv7]);exact TN) (fun hJ=>?_)
  clear hK K hH
  have hH:=hJ
  clear hJ
  try simp only [Act.put,pa,pb,pc]
  clear TC ZC BC HP HV
  have TC:=TN
  have ZC:=ZN
  have BC:=BN
  have HP:=HPN
  have HV:=HVN
  clear TN ZN BN HPN HVN
  have RL:=RLN
  clear RLN XA
  try rw [hv7]
  clear hv7
  refine wpAnyH_ready (rs:=[20]) (by kernel_rfl) (by simp) ?_
  refine AllReadyH.cons (i:=20) rfl (fun K hK=>?_) AllReadyH.nil
  go_simp
  refine (spec_list _ 5 [numsT [c,s],keyT k,shR a b e,numsT P,numsT V] _ RL (by simp) (by intro x hx;simp only [List.mem_cons,List.not_mem_nil,or_false] at hx;rcases hx with rfl | rfl | rfl | rfl | rfl <;> first | exact Nat.le_trans (listT_size _) (by omega) | exact Nat.le_trans (keyT_size k) (by omega) | exact Nat.le_trans (shR_size a b e) (by omega))).mono ?_
  rintro en v8 ⟨rfl,hv8⟩
  have TN:=TC.later hv8 (by have:=ZC.out;omega)
  have ZN:Hid (w.heap.size + 1≤v8.heap.size):=Nat.le_trans ZC.out hv8.size
  have BN:=BC.trans (hv8.mono BC.size)
  have HPN:=RowAt.later HP hv8
  have HVN:=RowAt.later HV hv8
  have RLN:=RowAt.later RL hv8
  clear TC ZC BC HP HV RL
  have TC:=TN
  have ZC:=ZN
  have BC:=BN
  have HP:=HPN
  have HV:=HVN
  have RL:=RLN
  clear TN ZN BN HPN HVN RLN
  clear hv8
  go_wp2_with fail
  refine hK.out _ _ TC (fun hJ=>?_)
  clear hK K hH
  have hH:=hJ
  clear hJ
  try simp only [Act.put,pa,pb,pc]
  clear RL
  refine wpAnyH_ready (rs:=[21]) (by kernel_rfl) (by simp) ?_
  refine AllReadyH.cons (i:=21) rfl (fun K hK=>?_) AllReadyH.nil
  go_simp
  refine (spec_seal key (inT c s k a b e P V) _ (Nat.le_trans (listT_size _) (by omega))).mono ?_
  rintro en v9 ⟨rfl,hv9⟩
  have TN:=TC.later hv9 (by have:=ZC.out;omega)
  have ZN:Hid (w.heap.size + 1≤v9.heap.size):=Nat.le_trans ZC.out hv9.size
  have BN:=BC.trans (hv9.mono BC.size)
  have HPN:=RowAt.later HP hv9
  have HVN:=RowAt.later HV hv9
  clear TC ZC BC HP HV
  have TC:=TN
  have ZC:=ZN
  have BC:=BN
  have HP:=HPN
  have HV:=HVN
  clear TN ZN BN HPN HVN
  clear hv9
  go_wp2_with fail
  refine hK.out _ _ TC (fun hJ=>?_)
  clear hK K hH
  have hH:=hJ
  clear hJ
  try simp only [Act.put,pa,pb,pc]
  refine tk 22 4 rfl _ hH (by intro w' h;have d0:=h.e8;go_simp;try with_reducible rfl) ?_
  try simp only [Act.put,pa,pb,pc]
  refine wpAnyH_done (by kernel_rfl) ?_ _
  go_wp2
  go_ret
  exact ⟨by unfold shT;rw [h0];rfl,BC⟩
 ·rw [Bool.not_eq_true] at h0
  rw [h0]
  go_wp2
  go_ret
  exact ⟨by unfold shT;rw [h0];rfl,BC⟩
end Go.Proofs.YtcaieniddnhkbaaGreatDoor
