/- Ways: how far each realm is, as the model reckons it. -/
import Derived.Test.YtcaieniddnhkbaaGreatDoorAb
import Derived.Test.YtcaieniddnhkbaaGreatDoorHopMath
import Derived.Test.YtcaieniddnhkbaaGreatDoorPair2
import Derived.Test.YtcaieniddnhkbaaGreatDoorConf2
import Derived.Test.YtcaieniddnhkbaaGreatDoorTickMath
import Derived.Test.YtcaieniddnhkbaaGreatDoorKeys
import Derived.Test.YtcaieniddnhkbaaGreatDoorTrip2
import Derived.Test.YtcaieniddnhkbaaGreatDoorRealm
set_option linter.unusedVariables false
set_option maxRecDepth 100000
namespace Go.Proofs.YtcaieniddnhkbaaGreatDoor
open Go Go.RowKit Var Term Draw Own
def natP (L:List (Int × Int)):List (Nat × Nat):=L.map fun p=>(p.1.toNat,p.2.toNat)
def passK (L:List (Int × Int)) (t:Nat):Nat→List Int
 | 0=>zed t
 | k + 1=>pass (natP L) (passK L t k)
def InR (L:List (Int × Int)):Prop:=∀ p∈L,(0≤p.1∧p.1≤2)∧(0≤p.2∧p.2≤2)
theorem passK_far {L:List (Int × Int)} (hL:InR L) {t:Nat} (ht:t < 3):∀ r,r < 3→gt (passK L t 3) r=far (lkH L) t r:=by
 refine three_pass (Ps:=natP L) (fun p hp=>?_) (fun a b ha hb hab=>?_) ht
 ·unfold natP at hp
  obtain ⟨q,hq,rfl⟩:=List.mem_map.1 hp
  obtain ⟨h1,h2⟩:=hL q hq
  refine ⟨by dsimp only;omega,by dsimp only;omega,?_⟩
  unfold lkH
  refine decide_eq_true ?_
  rw [show ((q.1.toNat:Nat):Int)=q.1 by omega,show ((q.2.toNat:Nat):Int)=q.2 by omega]
  exact hq
 ·unfold lkH at hab
  have:=of_decide_eq_true hab
  exact List.mem_map.2 ⟨_,this,by simp⟩
theorem natP_take (L:List (Int × Int)) (i:Nat) (hi:i < L.length) {a b:Nat} (ha:L[i].1=(a:Int)) (hb:L[i].2=(b:Int)) (zs:List Int) :
  pass (natP (L.take (i + 1))) zs=rel (pass (natP (L.take i)) zs) a b:=by
 rw [List.take_succ_eq_append_getElem hi]
 unfold natP
 rw [List.map_append]
 show pass (_++[(L[i].1.toNat,L[i].2.toNat)]) zs=_
 rw [pass_snoc,ha,hb,Int.toNat_natCast,Int.toNat_natCast]
structure Fr (g:Nat) (c:Cf) (zs:List Int) (w W:World):Prop where
 z:zs.length=3
 sm:SmallW zs
 bl:Blk g (intV zs) W
 bx:Blk w.heap.size c.cells W
 be:Below w.heap.size w W
theorem Fr.drew {g:Nat} {c:Cf} {zs:List Int} {w W:World} (h:Fr g c zs w W):Fr g c zs w W.drew:=⟨h.z,h.sm,h.bl.drew,h.bx.drew,h.be.drew⟩
theorem Fr.set {g:Nat} {c:Cf} {zs:List Int} {w W:World} (h:Fr g c zs w W) {a b:Nat} (ha:a < 3) (hg:w.heap.size < g) (hlt:gt zs b + 1 < gt zs a):Fr g c (rel zs a b) w (W.setCell ⟨g,a,none⟩ (I (gt zs b + 1))):=by
 refine ⟨by rw [rel_len];exact h.z,h.sm.rel a b (by rw [h.z];exact ha),?_,h.bx.far (by omega) _ _,h.be.setCell (by dsimp only;omega) _⟩
 have:=h.bl.set a (I (gt zs b + 1))
 rw [intV_set,← rel_set zs a b hlt] at this
 exact this
def threes:Nat→List Value
 | 0=>[]
 | k + 1=>threes k++[I 3]
theorem own3 {w:World} {base:Nat} {v:Value} (h:w.ownsRow base 3 1 v 3 (threes 3)):∃ b cap,v=.slice (some ⟨b,0,none⟩) 3 cap∧base≤b∧Blk b (intV [3,3,3]) w:=by
 rcases h.2 with ⟨rfl,h0⟩ | ⟨g,cap,cur,rfl,e2,e3,e4,e5⟩
 ·cases h0
 ·refine ⟨g,cap,rfl,(h.lt g rfl).1,⟨fun i u hu=>?_⟩⟩
  have hi:i < 3:=by have:=(List.getElem?_eq_some_iff.1 hu).1;simpa [intV] using this
  refine ⟨?_,h.frozenAt i⟩
  rw [h.cellAt i (by omega)]
  rw [← hu]
  rfl
set_option maxRecDepth 100000 in
set_option maxHeartbeats 12800000 in
theorem far_is (c:Cf) (t:Nat) (ht:t < 3) (w:World) (C:CfAt c w) (K:CfOk c) (hin:InR c.L) :
  Calls Tryz.prog 125 #[c.val,I (t:Int)] w fun e w'=>∃ g cap zs,e=.returned (.slice (some ⟨g,0,none⟩) 3 cap)∧zs.length=3∧(∀ r,r < 3→gt zs r=far (lkH c.L) t r)∧Blk g (intV zs) w'∧w.heap.size < g∧Below w.heap.size w w':=by
 obtain ⟨i0,hi,hz0,hz1,hz2⟩:=info_parts infoInt
 obtain ⟨W1,hW1⟩:∃ W1,w.alloc (.cells #[.slice c.ua c.U.length c.uc,.slice c.sa c.S.length c.sc,.slice c.la c.L.length c.lc,.slice c.xa c.X.length c.xc,I c.k] 27)=W1:=⟨_,rfl⟩
 have B1:Below w.heap.size w W1:=by rw [← hW1];exact (Below.refl _ _).alloc (Nat.le_refl _) _
 have T1:Blk w.heap.size c.cells W1:=by rw [← hW1];exact Blk.new _ _ _
 have Z1:w.heap.size + 1=W1.heap.size:=by rw [← hW1];simp
 have hown0:(W1.alloc (.cells #[] 3)).ownsRow (w.heap.size + 1) 3 1 (.slice (some ⟨W1.heap.size,0,none⟩) 0 0) 0 (threes 0):=World.ownsRow_lit W1 #[] 0 (by omega) (by decide) rfl
 have hbel0:Below (w.heap.size + 1) W1 (W1.alloc (.cells #[] 3)):=(Below.refl _ _).alloc (by omega) _
 have X1:Hid (w.heap.size + 1≤W1.heap.size):=by show _≤_;omega
 replace Z1:Hid (w.heap.size + 1=W1.heap.size):=Z1
 have ht2:(t:Int) < 3:=by omega
 have hll:=K.ll
 go_enter Tryz.func125,Tryz.ntmps125
 go_wp2
 try rw [hW1]
 go_loopw [5,6] (fun v i wr=>∃ k:Nat,k≤3∧i=I k∧wr.ownsRow (w.heap.size + 1) 3 1 v k (threes k)∧Below (w.heap.size + 1) W1 wr) (fun _ i _=>3 - (intOf i).toNat)
 case atStart=>exact ⟨0,by omega,by first | rfl | (rw [hW1]),by first | exact hown0 | (rw [hW1];exact hown0),by first | exact hbel0 | (rw [hW1];exact hbel0)⟩
 case round =>
  clear hown0 hbel0 hW1
  obtain ⟨k,hk,rfl,hown,hbel⟩:=hrel
  by_cases hlt:k < 3
  ·have HB:Hid (Below (w.heap.size + 1) W1 wr):=hbel
   have HQ:Hid (threes k++[I 3]=threes (k + 1)):=(rfl:threes k++[I 3]=_)
   go_wp2_with (first | (at_builtin;refine wpList_append_own _ rfl _ _ 24 rfl (w.heap.size + 1) 3 i0 (I 0) 1 8 Tryz.underlying24 hi hz0 hz1 hz2 rfl (by decide) _ _ _ rfl (hown.alloc _) ⟨wr.heap.size,0,none⟩ 1 1 [I 3] rfl rfl (cell_one_new _ _ _) ?c2 ?c3 ?c4 ?c5 ?_) | go_in)
   case c2=>intro u hu;simp at hu;subst hu;rfl
   case c3=>unfold maxLen;omega
   case c4=>omega
   case c5=>have:=HB.out.size;have:=X1.out;simp;omega
   intro v' w2 hown1 hgrow _
   have hbel1:Below (w.heap.size + 1) W1 w2:=below_app HB.out X1.out hown hgrow
   rw [HQ.out] at hown1
   clear hgrow hown hbel HB HQ
   go_wp2
   go_roundw
   case rel =>
    have R:∃ k':Nat,k'≤3∧Value.int .i64 ((k:Int) + 1)=I k'∧w2.ownsRow (w.heap.size + 1) 3 1 v' k' (threes k')∧Below (w.heap.size + 1) W1 w2:=⟨k + 1,by omega,by go_num,hown1,hbel1⟩
    first | exact R | ((repeat apply Exists.intro);exact ⟨R,rfl⟩)
   case measure=>simp [intOf];omega
  ·obtain rfl:k=3:=by omega
   obtain ⟨g,cap,hv,hg,S2⟩:=own3 hown
   subst hv
   have BX:Below w.heap.size w wr:=B1.trans (hbel.mono (by omega))
   have TX:Blk w.heap.size c.cells wr:=T1.lower hbel (by omega)
   have ct:=S2.at t (cell3 rfl ht)
   have ft:=S2.fz t (cell3 rfl ht)
   have Y0:Fr g c (zed t) w (wr.setCell ⟨g,t,none⟩ (I 0)):=by
    refine ⟨zed_len t,SmallW.zed t ht,?_,TX.far (by omega) _ _,BX.setCell (by dsimp only;omega) _⟩
    have:=S2.set t (I 0)
    rw [intV_set] at this
    exact this
   have hgw:w.heap.size < g:=by omega
   replace hgw:Hid (w.heap.size < g):=hgw
   obtain ⟨W3,hW3⟩:∃ W3,wr.setCell ⟨g,t,none⟩ (I 0)=W3:=⟨_,rfl⟩
   rw [hW3] at Y0
   clear B1 T1 Z1 X1 BX TX S2 hown hbel hg
   go_wp2
   try rw [hW3]
   go_loopw [7,8] (fun i v8 wr=>∃ k:Nat,k≤3∧i=I k∧Fr g c (passK c.L t k) w wr) (fun i _ _=>3 - (intOf i).toNat)
   case atStart=>exact ⟨0,by omega,rfl,by first | exact Y0 | (rw [hW3];exact Y0)⟩
   case round =>
    clear Y0 hW3 ct ft
    obtain ⟨k,hk,rfl,Y⟩:=hrel
    by_cases hlt:k < 3
    ·have k2:(k:Int) < 3:=by omega
     go_wp2
     go_loopw [8] (fun i wr=>∃ j:Nat,j≤c.L.length∧i=I j∧Fr g c (pass (natP (c.L.take j)) (passK c.L t k)) w wr) (fun i _=>c.L.length - (intOf i).toNat)
     case atStart=>exact ⟨0,by omega,rfl,Y⟩
     case round =>
      clear Y
      obtain ⟨j,hj,rfl,Y⟩:=hrel
      have d2:=Y.bx.at 2 rfl
      by_cases hlt2:j < c.L.length
      ·have j2:(j:Int) < (c.L.length:Int):=by omega
       obtain ⟨⟨p0,p1⟩,q0,q1⟩:=hin c.L[j] (List.getElem_mem hlt2)
       obtain ⟨a,ha⟩:∃ a:Nat,c.L[j].1=(a:Int):=⟨c.L[j].1.toNat,by omega⟩
       obtain ⟨b,hb⟩:∃ b:Nat,c.L[j].2=(b:Int):=⟨c.L[j].2.toNat,by omega⟩
       have a3:a < 3:=by omega
       have b3:b < 3:=by omega
       have HN:Hid (pass (natP (c.L.take (j + 1))) (passK c.L t k)=rel (pass (natP (c.L.take j)) (passK c.L t k)) a b):=natP_take c.L j hlt2 ha hb _
       obtain ⟨bl,off,ea,lbl,l0,l1⟩:=(C.hl.later Y.be) j hlt2
       rw [ha] at l0
       rw [hb] at l1
       rw [ea] at d2
       generalize pass (natP (c.L.take j)) (passK c.L t k)=zs at Y HN
       have ca:=Y.bl.at a (cell3 Y.z a3)
       have cb:=Y.bl.at b (cell3 Y.z b3)
       have fa:=Y.bl.fz a (cell3 Y.z a3)
       have sa:=Y.sm a
       have sb:=Y.sm b
       have hw:=wrap_small (gt zs b + 1) (by omega) (by omega)
       have a2:(a:Int) < 3:=by omega
       have b2:(b:Int) < 3:=by omega
       by_cases hc:gt zs b + 1 < gt zs a
       ·have HY:Hid (Fr g c (pass (natP (c.L.take (j + 1))) (passK c.L t k)) w (wr.drew.drew.setCell ⟨g,a,none⟩ (I (gt zs b + 1)))):=by
         show Fr _ _ _ _ _
         rw [HN.out]
         exact Y.drew.drew.set a3 hgw.out hc
        have hc2:decide (gt zs b + 1 < gt zs a)=true:=decide_eq_true hc
        clear HN Y hc ha hb p0 p1 q0 q1 a3 b3
        generalize gt zs a=x at ca sa HY hc2
        generalize gt zs b=y at cb sb hw HY hc2
        go_wp2
        go_region
        all_goals
         go_wp2
         go_region
         all_goals
          go_wp2
          go_roundw
          case rel =>
           have R:∃ j':Nat,j'≤c.L.length∧Value.int .i64 ((j:Int) + 1)=I j'∧Fr g c (pass (natP (c.L.take j')) (passK c.L t k)) w (wr.drew.drew.setCell ⟨g,a,none⟩ (I (y + 1))):=⟨j + 1,by omega,by go_num,HY.out⟩
           first | exact R | ((repeat apply Exists.intro);exact ⟨R,rfl⟩)
          case measure=>simp [intOf];omega
       ·have HY:Hid (Fr g c (pass (natP (c.L.take (j + 1))) (passK c.L t k)) w wr.drew):=by
         show Fr _ _ _ _ _
         rw [HN.out,rel_keep zs a b (by rw [Y.z];exact a3) hc]
         exact Y.drew
        have hc2:decide (gt zs b + 1 < gt zs a)=false:=decide_eq_false hc
        clear HN Y ha hb p0 p1 q0 q1 a3 b3
        generalize gt zs a=x at ca sa hc2 hc
        generalize gt zs b=y at cb sb hw hc2 hc
        go_wp2
        go_region
        all_goals
         go_wp2
         go_roundw
         case rel =>
          have R:∃ j':Nat,j'≤c.L.length∧Value.int .i64 ((j:Int) + 1)=I j'∧Fr g c (pass (natP (c.L.take j')) (passK c.L t k)) w wr.drew:=⟨j + 1,by omega,by go_num,HY.out⟩
          first | exact R | ((repeat apply Exists.intro);exact ⟨R,rfl⟩)
         case measure=>simp [intOf];omega
      ·obtain rfl:j=c.L.length:=by omega
       rw [List.take_length] at Y
       go_wp2
       go_roundw
       case rel =>
        have R:∃ k':Nat,k'≤3∧Value.int .i64 ((k:Int) + 1)=I k'∧Fr g c (passK c.L t k') w wr:=⟨k + 1,by omega,by go_num,Y⟩
        first | exact R | ((repeat apply Exists.intro);exact ⟨R,rfl⟩)
       case measure=>simp [intOf];omega
    ·obtain rfl:k=3:=by omega
     have HF:Hid (∀ r,r < 3→gt (passK c.L t 3) r=far (lkH c.L) t r):=passK_far hin ht
     generalize passK c.L t 3=zs at Y HF
     go_wp2
     go_ret
     exact ⟨g,cap,zs,rfl,Y.z,HF.out,Y.bl,hgw.out,Y.be⟩
end Go.Proofs.YtcaieniddnhkbaaGreatDoor
set_option maxRecDepth 100000
namespace Go.Proofs.YtcaieniddnhkbaaGreatDoor
open Go Go.RowKit Var Term Draw Own
def nhV (c:Cf) (p q:Int):Int:=if confB c && (btw p 0 2 && btw q 0 2) then hopN (lkH c.L) p.toNat q.toNat else -1
theorem nhV_same {c d:Cf} (E:Same c d) (p q:Int):nhV d p q=nhV c p q:=by unfold nhV;rw [E.conf,E.L]
theorem conf_links {c:Cf} (h:confB c=true):InR c.L∧c.L.length≤6∧(∀ a,a < 3→lkH c.L a a=false):=by
 unfold confB pairsB at h
 simp only [Bool.and_eq_true,decide_eq_true_eq,List.all_eq_true] at h
 obtain ⟨_,_,⟨h6,hall,_⟩,_⟩:=h
 refine ⟨fun p hp=>?_,h6,fun a ha=>?_⟩
 ·have:=hall p hp
  unfold ulB at this
  rw [Bool.and_eq_true,Bool.and_eq_true] at this
  exact ⟨(btw_iff _ _ _).1 this.1,(btw_iff _ _ _).1 this.2.1⟩
 ·unfold lkH
  refine decide_eq_false (fun hm=>?_)
  have:=hall _ hm
  unfold ulB at this
  simp at this
def hit (h:Nat→Nat→Bool) (f t r:Nat):Bool:=h f r && decide (far h t r < far h t f)
theorem hop_hit (h:Nat→Nat→Bool) (f t:Nat):∀ k,k < 3→(∀ r,r < k→hit h f t r=false)→hit h f t k=true→hopN h f t=(k:Int):=by
 intro k hk ha hh
 have e:hopN h f t=if hit h f t 0 then 0 else if hit h f t 1 then 1 else if hit h f t 2 then 2 else -1:=rfl
 have h3:k=0 ∨ k=1 ∨ k=2:=by omega
 rcases h3 with rfl | rfl | rfl
 ·rw [e,hh];rfl
 ·rw [e,ha 0 (by omega),hh];rfl
 ·rw [e,ha 0 (by omega),ha 1 (by omega),hh];rfl
theorem hop_none (h:Nat→Nat→Bool) (f t:Nat) (ha:∀ r,r < 3→hit h f t r=false):hopN h f t=-1:=by
 have e:hopN h f t=if hit h f t 0 then 0 else if hit h f t 1 then 1 else if hit h f t 2 then 2 else -1:=rfl
 rw [e,ha 0 (by omega),ha 1 (by omega),ha 2 (by omega)];rfl
theorem nhV_in (c:Cf) (f t:Nat) (hc:confB c=true) (hf:f < 3) (ht:t < 3):nhV c (f:Int) (t:Int)=hopN (lkH c.L) f t:=by
 unfold nhV
 rw [hc,(btw_iff _ _ _).2 (by omega),(btw_iff _ _ _).2 (by omega)]
 rfl
set_option maxRecDepth 100000 in
set_option maxHeartbeats 12800000 in
theorem implNH_is (c:Cf) (p q:Int) (w:World) (C:CfAt c w) (K:CfOk c):Calls Tryz.prog 160 #[c.val,I p,I q] w fun en w'=>en=.returned (I (nhV c p q))∧Below w.heap.size w w':=by
 obtain ⟨W1,hW1⟩:∃ W1,w.alloc (.cells #[.slice c.ua c.U.length c.uc,.slice c.sa c.S.length c.sc,.slice c.la c.L.length c.lc,.slice c.xa c.X.length c.xc,I c.k] 27)=W1:=⟨_,rfl⟩
 have B0:Below w.heap.size w W1:=by rw [← hW1];exact (Below.refl _ _).alloc (Nat.le_refl _) _
 have T0:Blk w.heap.size c.cells W1:=by rw [← hW1];exact Blk.new _ _ _
 have Z0:Hid (w.heap.size < W1.heap.size):=by show _ < _;rw [← hW1];simp
 have d0:=T0.at 0 rfl
 have d1:=T0.at 1 rfl
 have d2:=T0.at 2 rfl
 have d3:=T0.at 3 rfl
 have d4:=T0.at 4 rfl
 go_enter Tryz.func160,Tryz.ntmps160
 go_wp2_with fail
 try rw [hW1]
 refine (cfRight_is c W1 (C.later B0) K).mono ?_
 clear hW1 d0 d1 d2 d3 d4
 rintro en w2 ⟨rfl,hb⟩
 have T2:=T0.later hb Z0.out
 have B2:=B0.trans (hb.mono B0.size)
 have Z2:Hid (w.heap.size < w2.heap.size):=Nat.lt_of_lt_of_le Z0.out hb.size
 clear T0 Z0 B0 hb
 by_cases hc:confB c=true
 ·rw [hc]
  go_wp2_with fail
  refine (realm_is p _).mono ?_
  rintro e w3 ⟨rfl,rfl⟩
  by_cases hp:btw p 0 2=true
  ·rw [hp]
   go_wp2_with fail
   refine (realm_is q _).mono ?_
   rintro e w3 ⟨rfl,rfl⟩
   by_cases hq:btw q 0 2=true
   ·rw [hq]
    obtain ⟨hin,h6,hdiag⟩:=conf_links hc
    obtain ⟨f,rfl⟩:∃ f:Nat,p=(f:Int):=⟨p.toNat,by have:=(btw_iff _ _ _).1 hp;omega⟩
    obtain ⟨t,rfl⟩:∃ t:Nat,q=(t:Int):=⟨q.toNat,by have:=(btw_iff _ _ _).1 hq;omega⟩
    have hf:f < 3:=by have:=(btw_iff _ _ _).1 hp;omega
    have ht:t < 3:=by have:=(btw_iff _ _ _).1 hq;omega
    have HV:Hid (nhV c (f:Int) (t:Int)=hopN (lkH c.L) f t):=nhV_in c f t hc hf ht
    have HL:=linksOf_is c.la c.lc c.L w2 (C.hl.later B2) h6 (fun p hp=>⟨i64_of _ (hin p hp).1.1 (hin p hp).1.2,i64_of _ (hin p hp).2.1 (hin p hp).2.2⟩)
    clear hc hp hq hdiag
    have d2:=T2.at 2 rfl
    go_wp2_with fail
    refine HL.mono ?_
    clear HL d2
    rintro e w4 ⟨m,rfl,hM,_,hb4⟩
    have B4:=B2.trans (hb4.mono B2.size)
    clear hb4 B2 T2 Z2 hin
    have HW:=waysTo_is hM t ht
    go_wp2_with fail
    refine HW.mono ?_
    clear HW
    rintro e w5 ⟨rfl,hb5⟩
    have B5:=B4.trans (hb5.mono B4.size)
    have M5:=hM.kept hb5
    clear hb5 B4 hM
    obtain ⟨zs,hz3,hzr,hz0,hz1,hz2⟩:∃ zs:List Int,zs.length=3∧(∀ r,r < 3→gt zs r=far (lkH c.L) t r)∧far (lkH c.L) t 0=gt zs 0∧far (lkH c.L) t 1=gt zs 1∧far (lkH c.L) t 2=gt zs 2:=by
     refine ⟨[far (lkH c.L) t 0,far (lkH c.L) t 1,far (lkH c.L) t 2],rfl,fun r hr=>?_,rfl,rfl,rfl⟩
     have h3:r=0 ∨ r=1 ∨ r=2:=by omega
     rcases h3 with rfl | rfl | rfl <;> rfl
    rw [hz0,hz1,hz2]
    obtain ⟨g,hg⟩:∃ g,g=w5.heap.size:=⟨_,rfl⟩
    obtain ⟨W6,hW6⟩:∃ W6,w5.alloc (.cells #[I (gt zs 0),I (gt zs 1),I (gt zs 2)] 234)=W6:=⟨_,rfl⟩
    have B6:Below w.heap.size w W6:=by rw [← hW6];exact B5.alloc B5.size _
    have Y6:Blk g (intV zs) W6:=by rw [intV3 hz3,← hW6,hg];exact Blk.new _ _ _
    have M6:LinkM m 6 c.L W6:=by rw [← hW6];exact M5.kept ((Below.refl _ _).alloc (Nat.le_refl _) _)
    have H0:Hid (∀ r,r < 3→gt zs r=far (lkH c.L) t r):=hzr
    clear B5 M5 hz0 hz1 hz2 hzr
    go_wp2
    try rw [hW6]
    try rw [← hg]
    go_loopw [9,29] (fun v9 i wr=>∃ k:Nat,k≤3∧i=I k∧(∀ r,r < k→hit (lkH c.L) f t r=false)∧Blk g (intV zs) wr∧LinkM m 6 c.L wr∧Below w.heap.size w wr) (fun _ i _=>3 - (intOf i).toNat)
    case atStart=>exact ⟨0,by omega,rfl,fun r hr=>absurd hr (by omega),by first | exact Y6 | (rw [hW6];exact Y6),by first | exact M6 | (rw [hW6];exact M6),by first | exact B6 | (rw [hW6];exact B6)⟩
    case round =>
     clear Y6 M6 B6 hW6 hg
     obtain ⟨k,hk,rfl,hno,Y1,M1,B1⟩:=hrel
     replace hno:Hid (∀ r,r < k→hit (lkH c.L) f t r=false):=hno
     by_cases hlt:k < 3
     ·have k2:(k:Int) < 3:=by omega
      have f2:(f:Int) < 3:=by omega
      have LI:=linked_is (M1.kept (Below.refl _ _).drew) (a:=(f:Int)) (b:=(k:Int)) (i64_of _ (by omega) (by omega)) (i64_of _ (by omega) (by omega))
      have BD:=B1.drew
      have MD:=M1.kept (Below.refl _ _).drew
      by_cases hl:lkH c.L f k=true
      ·rw [show decide (((f:Int),(k:Int))∈c.L)=true from hl] at LI
       by_cases hh:gt zs k < gt zs f
       ·have HH:Hid (hopN (lkH c.L) f t=(k:Int)):=hop_hit _ f t k hlt hno.out (by unfold hit;rw [hl,← H0.out k hlt,← H0.out f hf,decide_eq_true hh];rfl)
        have hh2:decide (gt zs k < gt zs f)=true:=decide_eq_true hh
        clear hl hh H0 hno
        go_wp2_with fail
        refine wp_region_held_drew (S:=(fun W:World=>Blk g (intV zs) W)) (by kernel_rfl) Y1.drew (fun hH=>?_)
        refine tk 0 32 rfl _ hH (by intro w' h;have c0:=h.at k (cell3 hz3 hlt);have c1:=h.at f (cell3 hz3 hf);go_simp;try with_reducible rfl) ?_
        try simp only [Act.put,pa,pb,pc]
        refine tk 1 33 rfl _ hH (by intro w' h;have c0:=h.at k (cell3 hz3 hlt);have c1:=h.at f (cell3 hz3 hf);go_simp;try with_reducible rfl) ?_
        try simp only [Act.put,pa,pb,pc]
        refine tk 2 34 rfl _ hH (by intro w' h;have c0:=h.at k (cell3 hz3 hlt);have c1:=h.at f (cell3 hz3 hf);go_simp;try with_reducible rfl) ?_
        try simp only [Act.put,pa,pb,pc]
        refine wpAnyH_ready (rs:=[3]) (by kernel_rfl) (by simp) ?_
        refine AllReadyH.cons (i:=3) rfl (fun K hK=>?_) AllReadyH.nil
        go_simp
        refine (LI).mono ?_
        rintro e w9 ⟨rfl,rfl⟩
        go_wp2_with fail
        refine hK.out _ _ Y1.drew (fun hJ=>?_)
        clear hK K hH
        have hH:=hJ
        clear hJ
        try simp only [Act.put,pa,pb,pc]
        refine tk 4 36 rfl _ hH (by intro w' h;have c0:=h.at k (cell3 hz3 hlt);have c1:=h.at f (cell3 hz3 hf);go_simp;try with_reducible rfl) ?_
        try simp only [Act.put,pa,pb,pc]
        refine tk 5 37 rfl _ hH (by intro w' h;have c0:=h.at k (cell3 hz3 hlt);have c1:=h.at f (cell3 hz3 hf);go_simp;try with_reducible rfl) ?_
        try simp only [Act.put,pa,pb,pc]
        refine tk 6 38 rfl _ hH (by intro w' h;have c0:=h.at k (cell3 hz3 hlt);have c1:=h.at f (cell3 hz3 hf);go_simp;try with_reducible rfl) ?_
        try simp only [Act.put,pa,pb,pc]
        refine tk 7 39 rfl _ hH (by intro w' h;have c0:=h.at k (cell3 hz3 hlt);have c1:=h.at f (cell3 hz3 hf);go_simp;try with_reducible rfl) ?_
        try simp only [Act.put,pa,pb,pc]
        refine tk 8 40 rfl _ hH (by intro w' h;have c0:=h.at k (cell3 hz3 hlt);have c1:=h.at f (cell3 hz3 hf);go_simp;try with_reducible rfl) ?_
        try simp only [Act.put,pa,pb,pc]
        refine tk 9 41 rfl _ hH (by intro w' h;have c0:=h.at k (cell3 hz3 hlt);have c1:=h.at f (cell3 hz3 hf);go_simp;try with_reducible rfl) ?_
        try simp only [Act.put,pa,pb,pc]
        refine tk 10 42 rfl _ hH (by intro w' h;have c0:=h.at k (cell3 hz3 hlt);have c1:=h.at f (cell3 hz3 hf);go_simp;try with_reducible rfl) ?_
        try simp only [Act.put,pa,pb,pc]
        refine tk 11 43 rfl _ hH (by intro w' h;have c0:=h.at k (cell3 hz3 hlt);have c1:=h.at f (cell3 hz3 hf);go_simp;try with_reducible rfl) ?_
        try simp only [Act.put,pa,pb,pc]
        refine tk 12 44 rfl _ hH (by intro w' h;have c0:=h.at k (cell3 hz3 hlt);have c1:=h.at f (cell3 hz3 hf);go_simp;try with_reducible rfl) ?_
        try simp only [Act.put,pa,pb,pc]
        refine wpAnyH_done (by kernel_rfl) ?_ _
        clear hH
        go_wp2
        go_ret
        exact ⟨by rw [HV.out,HH.out];rfl,BD⟩
       ·have HH:Hid (∀ r,r < k + 1→hit (lkH c.L) f t r=false):=(fun r hr=>(if e:r=k then by subst e;unfold hit;rw [hl,← H0.out r hlt,← H0.out f hf,decide_eq_false hh];rfl else hno.out r (by omega):hit (lkH c.L) f t r=false))
        have hh2:decide (gt zs k < gt zs f)=false:=decide_eq_false hh
        clear hl hh hno
        go_wp2_with fail
        refine wp_region_held_drew (S:=(fun W:World=>Blk g (intV zs) W)) (by kernel_rfl) Y1.drew (fun hH=>?_)
        refine tk 0 32 rfl _ hH (by intro w' h;have c0:=h.at k (cell3 hz3 hlt);have c1:=h.at f (cell3 hz3 hf);go_simp;try with_reducible rfl) ?_
        try simp only [Act.put,pa,pb,pc]
        refine tk 1 33 rfl _ hH (by intro w' h;have c0:=h.at k (cell3 hz3 hlt);have c1:=h.at f (cell3 hz3 hf);go_simp;try with_reducible rfl) ?_
        try simp only [Act.put,pa,pb,pc]
        refine tk 2 34 rfl _ hH (by intro w' h;have c0:=h.at k (cell3 hz3 hlt);have c1:=h.at f (cell3 hz3 hf);go_simp;try with_reducible rfl) ?_
        try simp only [Act.put,pa,pb,pc]
        refine wpAnyH_ready (rs:=[3]) (by kernel_rfl) (by simp) ?_
        refine AllReadyH.cons (i:=3) rfl (fun K hK=>?_) AllReadyH.nil
        go_simp
        refine (LI).mono ?_
        rintro e w9 ⟨rfl,rfl⟩
        go_wp2_with fail
        refine hK.out _ _ Y1.drew (fun hJ=>?_)
        clear hK K hH
        have hH:=hJ
        clear hJ
        try simp only [Act.put,pa,pb,pc]
        refine tk 4 36 rfl _ hH (by intro w' h;have c0:=h.at k (cell3 hz3 hlt);have c1:=h.at f (cell3 hz3 hf);go_simp;try with_reducible rfl) ?_
        try simp only [Act.put,pa,pb,pc]
        refine tk 5 37 rfl _ hH (by intro w' h;have c0:=h.at k (cell3 hz3 hlt);have c1:=h.at f (cell3 hz3 hf);go_simp;try with_reducible rfl) ?_
        try simp only [Act.put,pa,pb,pc]
        refine tk 6 38 rfl _ hH (by intro w' h;have c0:=h.at k (cell3 hz3 hlt);have c1:=h.at f (cell3 hz3 hf);go_simp;try with_reducible rfl) ?_
        try simp only [Act.put,pa,pb,pc]
        refine tk 7 39 rfl _ hH (by intro w' h;have c0:=h.at k (cell3 hz3 hlt);have c1:=h.at f (cell3 hz3 hf);go_simp;try with_reducible rfl) ?_
        try simp only [Act.put,pa,pb,pc]
        refine tk 8 40 rfl _ hH (by intro w' h;have c0:=h.at k (cell3 hz3 hlt);have c1:=h.at f (cell3 hz3 hf);go_simp;try with_reducible rfl) ?_
        try simp only [Act.put,pa,pb,pc]
        refine tk 9 41 rfl _ hH (by intro w' h;have c0:=h.at k (cell3 hz3 hlt);have c1:=h.at f (cell3 hz3 hf);go_simp;try with_reducible rfl) ?_
        try simp only [Act.put,pa,pb,pc]
        refine tk 10 42 rfl _ hH (by intro w' h;have c0:=h.at k (cell3 hz3 hlt);have c1:=h.at f (cell3 hz3 hf);go_simp;try with_reducible rfl) ?_
        try simp only [Act.put,pa,pb,pc]
        refine tk 11 43 rfl _ hH (by intro w' h;have c0:=h.at k (cell3 hz3 hlt);have c1:=h.at f (cell3 hz3 hf);go_simp;try with_reducible rfl) ?_
        try simp only [Act.put,pa,pb,pc]
        refine tk 12 44 rfl _ hH (by intro w' h;have c0:=h.at k (cell3 hz3 hlt);have c1:=h.at f (cell3 hz3 hf);go_simp;try with_reducible rfl) ?_
        try simp only [Act.put,pa,pb,pc]
        refine wpAnyH_done (by kernel_rfl) ?_ _
        clear hH
        go_wp2
        go_roundw
        case rel =>
         have R:∃ k':Nat,k'≤3∧Value.int .i64 ((k:Int) + 1)=I k'∧(∀ r,r < k'→hit (lkH c.L) f t r=false)∧Blk g (intV zs) wr.drew∧LinkM m 6 c.L wr.drew∧Below w.heap.size w wr.drew:=⟨k + 1,by omega,by go_num,HH.out,Y1.drew,MD,BD⟩
         first | exact R | ((repeat apply Exists.intro);exact ⟨R,rfl⟩)
        case measure=>simp [intOf];omega
      ·rw [Bool.not_eq_true] at hl
       rw [show decide (((f:Int),(k:Int))∈c.L)=false from hl] at LI
       have HH:Hid (∀ r,r < k + 1→hit (lkH c.L) f t r=false):=(fun r hr=>(if e:r=k then by subst e;unfold hit;rw [hl];rfl else hno.out r (by omega):hit (lkH c.L) f t r=false))
       clear hl hno
       go_wp2_with fail
       refine wp_region_held_drew (S:=(fun W:World=>Blk g (intV zs) W)) (by kernel_rfl) Y1.drew (fun hH=>?_)
       refine tk 0 32 rfl _ hH (by intro w' h;have c0:=h.at k (cell3 hz3 hlt);have c1:=h.at f (cell3 hz3 hf);go_simp;try with_reducible rfl) ?_
       try simp only [Act.put,pa,pb,pc]
       refine tk 1 33 rfl _ hH (by intro w' h;have c0:=h.at k (cell3 hz3 hlt);have c1:=h.at f (cell3 hz3 hf);go_simp;try with_reducible rfl) ?_
       try simp only [Act.put,pa,pb,pc]
       refine tk 2 34 rfl _ hH (by intro w' h;have c0:=h.at k (cell3 hz3 hlt);have c1:=h.at f (cell3 hz3 hf);go_simp;try with_reducible rfl) ?_
       try simp only [Act.put,pa,pb,pc]
       refine wpAnyH_ready (rs:=[3]) (by kernel_rfl) (by simp) ?_
       refine AllReadyH.cons (i:=3) rfl (fun K hK=>?_) AllReadyH.nil
       go_simp
       refine (LI).mono ?_
       rintro e w9 ⟨rfl,rfl⟩
       go_wp2_with fail
       refine hK.out _ _ Y1.drew (fun hJ=>?_)
       clear hK K hH
       have hH:=hJ
       clear hJ
       try simp only [Act.put,pa,pb,pc]
       refine tk 4 36 rfl _ hH (by intro w' h;have c0:=h.at k (cell3 hz3 hlt);have c1:=h.at f (cell3 hz3 hf);go_simp;try with_reducible rfl) ?_
       try simp only [Act.put,pa,pb,pc]
       refine sk 5 37 rfl hH (unwanted (c:=false) rfl rfl (by simp) rfl) ?_
       try simp only [Act.put,pa,pb,pc]
       refine sk 6 38 rfl hH (unwanted (c:=false) rfl rfl (by simp) rfl) ?_
       try simp only [Act.put,pa,pb,pc]
       refine sk 7 39 rfl hH (unwanted (c:=false) rfl rfl (by simp) rfl) ?_
       try simp only [Act.put,pa,pb,pc]
       refine sk 8 40 rfl hH (unwanted (c:=false) rfl rfl (by simp) rfl) ?_
       try simp only [Act.put,pa,pb,pc]
       refine sk 9 41 rfl hH (unwanted (c:=false) rfl rfl (by simp) rfl) ?_
       try simp only [Act.put,pa,pb,pc]
       refine sk 10 42 rfl hH (unwanted (c:=false) rfl rfl (by simp) rfl) ?_
       try simp only [Act.put,pa,pb,pc]
       refine sk 11 43 rfl hH (unwanted (c:=false) rfl rfl (by simp) rfl) ?_
       try simp only [Act.put,pa,pb,pc]
       refine tk 12 44 rfl _ hH (by intro w' h;have c0:=h.at k (cell3 hz3 hlt);have c1:=h.at f (cell3 hz3 hf);go_simp;try with_reducible rfl) ?_
       try simp only [Act.put,pa,pb,pc]
       refine wpAnyH_done (by kernel_rfl) ?_ _
       clear hH
       go_wp2
       go_roundw
       case rel =>
        have R:∃ k':Nat,k'≤3∧Value.int .i64 ((k:Int) + 1)=I k'∧(∀ r,r < k'→hit (lkH c.L) f t r=false)∧Blk g (intV zs) wr.drew∧LinkM m 6 c.L wr.drew∧Below w.heap.size w wr.drew:=⟨k + 1,by omega,by go_num,HH.out,Y1.drew,MD,BD⟩
        first | exact R | ((repeat apply Exists.intro);exact ⟨R,rfl⟩)
       case measure=>simp [intOf];omega
     ·obtain rfl:k=3:=by omega
      have HH:Hid (hopN (lkH c.L) f t=-1):=hop_none _ f t hno.out
      go_wp2
      go_ret
      exact ⟨by rw [HV.out,HH.out];rfl,B1⟩
   ·rw [Bool.not_eq_true] at hq
    have HV:Hid (nhV c p q=-1):=by show nhV c p q=-1;unfold nhV;rw [hc,hp,hq];rfl
    rw [hq]
    go_wp2
    go_ret
    exact ⟨by rw [HV.out];rfl,B2⟩
  ·rw [Bool.not_eq_true] at hp
   have HV:Hid (nhV c p q=-1):=by show nhV c p q=-1;unfold nhV;rw [hc,hp];rfl
   rw [hp]
   go_wp2
   go_ret
   exact ⟨by rw [HV.out];rfl,B2⟩
 ·rw [Bool.not_eq_true] at hc
  have HV:Hid (nhV c p q=-1):=by show nhV c p q=-1;unfold nhV;rw [hc];rfl
  rw [hc]
  go_wp2
  go_ret
  exact ⟨by rw [HV.out];rfl,B2⟩
end Go.Proofs.YtcaieniddnhkbaaGreatDoor
namespace Go.Proofs.YtcaieniddnhkbaaGreatDoor
open Go Go.RowKit Own Var Term
theorem just_size (y:ByteArray) (n:Nat):∀ x∈just (⟨#[]⟩:ByteArray) (partsR y).1 n,x.size≤900:=by
 intro x hx
 unfold just at hx
 split at hx
 ·exact parts_size y x hx
 ·rw [(List.mem_replicate.1 hx).2]
  show 0≤900
  omega
theorem numR_i64 (x:ByteArray):i64 (numR x).1:=by
 unfold numR i64
 have:=rvN_le (atomR x).1
 split
 ·show _≤((rvN (atomR x).1:Nat):Int)∧_≤_
  omega
 ·show _≤(0:Int)∧(0:Int)≤_
  omega
theorem numsR_i64 (x:ByteArray):∀ z∈(numsR x).1,i64 z:=by
 intro z hz
 unfold numsR numsP at hz
 split at hz
 ·simp only [List.mem_map] at hz
  obtain ⟨y,_,rfl⟩:=hz
  exact numR_i64 y
 ·simp at hz
theorem just_i64 (x:ByteArray) (n:Nat):∀ z∈just (0:Int) (numsR x).1 n,i64 z:=by
 intro z hz
 unfold just at hz
 split at hz
 ·exact numsR_i64 x z hz
 ·rw [(List.mem_replicate.1 hz).2]
  unfold i64
  omega
end Go.Proofs.YtcaieniddnhkbaaGreatDoor
