/- Configs that are right: the model; what the laws do with Configs. -/
import Derived.Test.YtcaieniddnhkbaaGreatDoorAb
import Derived.Test.YtcaieniddnhkbaaGreatDoorPair2
import Derived.Test.YtcaieniddnhkbaaGreatDoorPair4
import Derived.Test.YtcaieniddnhkbaaGreatDoorPair5
set_option linter.unusedVariables false
set_option maxRecDepth 100000
namespace Go.Proofs.YtcaieniddnhkbaaGreatDoor
open Go Go.RowKit Var Term Draw
set_option maxRecDepth 100000 in
set_option maxHeartbeats 6400000 in
theorem cfSpecOk_is (c:Cf) (w:World) (C:CfAt c w) (K:CfOk c):Calls Tryz.prog 30 #[c.val] w fun en w'=>en=.returned (.bool (confB c))∧Below w.heap.size w w':=by
 obtain ⟨W1,hW1⟩:∃ W1,w.alloc (.cells #[.slice c.ua c.U.length c.uc,.slice c.sa c.S.length c.sc,.slice c.la c.L.length c.lc,.slice c.xa c.X.length c.xc,I c.k] 27)=W1:=⟨_,rfl⟩
 have B0:Below w.heap.size w W1:=by rw [← hW1];exact (Below.refl _ _).alloc (Nat.le_refl _) _
 have T0:Blk w.heap.size c.cells W1:=by rw [← hW1];exact Blk.new _ _ _
 have Z0:Hid (w.heap.size < W1.heap.size):=by show _ < _;rw [← hW1];simp
 have d0:=T0.at 0 rfl
 have d1:=T0.at 1 rfl
 have d2:=T0.at 2 rfl
 have d3:=T0.at 3 rfl
 have d4:=T0.at 4 rfl
 by_cases hu:c.U.length=3
 ·have u1:((c.U.length:Int) == 3)=true:=beq_iff_eq.2 (by omega)
  have u2:decide ((c.U.length:Int)=3)=true:=decide_eq_true (by omega)
  have u3:realmB c.U=allB c.U 3:=by unfold realmB;rw [decide_eq_true hu];rfl
  by_cases hs:c.S.length=3
  ·have s1:((c.S.length:Int) == 3)=true:=beq_iff_eq.2 (by omega)
   have s2:decide ((c.S.length:Int)=3)=true:=decide_eq_true (by omega)
   have s3:realmB c.S=allB c.S 3:=by unfold realmB;rw [decide_eq_true hs];rfl
   have HC:Hid (confB c=(allB c.U 3 && (allB c.S 3 && (pairsB ulB c.L && (pairsB svB c.X && btw c.k 0 20))))):=by show confB c=_;unfold confB;rw [u3,s3]
   clear hu hs u3 s3
   go_enter Tryz.func30,Tryz.ntmps30
   go_wp2_with fail
   try rw [hW1]
   refine (spec_all c.ua c.uc c.U 3 _ (C.hu.later B0) K.lu (by omega)).mono ?_
   clear hW1
   rintro e w2 ⟨rfl,hb2⟩
   have B2:=B0.trans (hb2.mono B0.size)
   clear d0 d1 d2 d3 d4
   have T2:=T0.later hb2 Z0.out
   have Z2:Hid (w.heap.size < w2.heap.size):=Nat.lt_of_lt_of_le Z0.out hb2.size
   clear T0 Z0 hb2
   have d0:=T2.at 0 rfl
   have d1:=T2.at 1 rfl
   have d2:=T2.at 2 rfl
   have d3:=T2.at 3 rfl
   have d4:=T2.at 4 rfl
   by_cases h0:allB c.U 3=true
   ·rw [h0]
    go_wp2_with fail
    refine (spec_all c.sa c.sc c.S 3 _ (C.hs.later B2) K.ls (by omega)).mono ?_
    rintro e w3 ⟨rfl,hb3⟩
    have B3:=B2.trans (hb3.mono B2.size)
    clear d0 d1 d2 d3 d4
    have T3:=T2.later hb3 Z2.out
    have Z3:Hid (w.heap.size < w3.heap.size):=Nat.lt_of_lt_of_le Z2.out hb3.size
    clear T2 Z2 hb3
    have d0:=T3.at 0 rfl
    have d1:=T3.at 1 rfl
    have d2:=T3.at 2 rfl
    have d3:=T3.at 3 rfl
    have d4:=T3.at 4 rfl
    by_cases h1:allB c.S 3=true
    ·rw [h1]
     go_wp2_with fail
     refine (specPairsU_is c.la c.lc c.L _ (C.hl.later B3) K.ll K.cl).mono ?_
     rintro e w4 ⟨rfl,hb4⟩
     have B4:=B3.trans (hb4.mono B3.size)
     clear d0 d1 d2 d3 d4
     have T4:=T3.later hb4 Z3.out
     have Z4:Hid (w.heap.size < w4.heap.size):=Nat.lt_of_lt_of_le Z3.out hb4.size
     clear T3 Z3 hb4
     have d0:=T4.at 0 rfl
     have d1:=T4.at 1 rfl
     have d2:=T4.at 2 rfl
     have d3:=T4.at 3 rfl
     have d4:=T4.at 4 rfl
     by_cases h2:pairsB ulB c.L=true
     ·rw [h2]
      go_wp2_with fail
      refine (specPairsS_is c.xa c.xc c.X _ (C.hx.later B4) K.lx K.cx).mono ?_
      rintro e w5 ⟨rfl,hb5⟩
      have B5:=B4.trans (hb5.mono B4.size)
      clear d0 d1 d2 d3 d4
      have T5:=T4.later hb5 Z4.out
      have Z5:Hid (w.heap.size < w5.heap.size):=Nat.lt_of_lt_of_le Z4.out hb5.size
      clear T4 Z4 hb5
      have d0:=T5.at 0 rfl
      have d1:=T5.at 1 rfl
      have d2:=T5.at 2 rfl
      have d3:=T5.at 3 rfl
      have d4:=T5.at 4 rfl
      by_cases h3:pairsB svB c.X=true
      ·rw [h3]
       go_wp2_with fail
       refine (in_is c.k 0 20 _).mono ?_
       rintro e wx ⟨rfl,rfl⟩
       rw [show (decide (0≤c.k) && decide (c.k≤20))=btw c.k 0 20 from rfl]
       clear d0 d1 d2 d3 d4
       generalize hval:btw c.k 0 20=bb
       go_wp2
       go_ret
       exact ⟨by rw [HC.out,h0,h1,h2,h3,hval];rfl,B5⟩
      ·rw [Bool.not_eq_true] at h3
       rw [h3]
       clear d0 d1 d2 d3 d4
       go_wp2
       go_ret
       exact ⟨by rw [HC.out,h0,h1,h2,h3];rfl,B5⟩
     ·rw [Bool.not_eq_true] at h2
      rw [h2]
      clear d0 d1 d2 d3 d4
      go_wp2
      go_ret
      exact ⟨by rw [HC.out,h0,h1,h2];rfl,B4⟩
    ·rw [Bool.not_eq_true] at h1
     rw [h1]
     clear d0 d1 d2 d3 d4
     go_wp2
     go_ret
     exact ⟨by rw [HC.out,h0,h1];rfl,B3⟩
   ·rw [Bool.not_eq_true] at h0
    rw [h0]
    clear d0 d1 d2 d3 d4
    go_wp2
    go_ret
    exact ⟨by rw [HC.out,h0];rfl,B2⟩
  ·have s1:((c.S.length:Int) == 3)=false:=beq_eq_false_iff_ne.2 (by omega)
   have s2:decide ((c.S.length:Int)=3)=false:=decide_eq_false (by omega)
   have s3:realmB c.S=false:=by unfold realmB;rw [decide_eq_false hs];rfl
   have HC:Hid (confB c=false):=by show confB c=_;unfold confB;rw [s3];simp
   clear hu hs u3 s3
   go_enter Tryz.func30,Tryz.ntmps30
   go_wp2_with fail
   try rw [hW1]
   refine (spec_all c.ua c.uc c.U 3 _ (C.hu.later B0) K.lu (by omega)).mono ?_
   clear hW1
   rintro e w2 ⟨rfl,hb2⟩
   have B2:=B0.trans (hb2.mono B0.size)
   clear d0 d1 d2 d3 d4
   have T2:=T0.later hb2 Z0.out
   have Z2:Hid (w.heap.size < w2.heap.size):=Nat.lt_of_lt_of_le Z0.out hb2.size
   clear T0 Z0 hb2
   have d0:=T2.at 0 rfl
   have d1:=T2.at 1 rfl
   have d2:=T2.at 2 rfl
   have d3:=T2.at 3 rfl
   have d4:=T2.at 4 rfl
   by_cases h0:allB c.U 3=true
   ·rw [h0]
    skip
    go_wp2
    go_ret
    exact ⟨by rw [HC.out];rfl,B2⟩
   ·rw [Bool.not_eq_true] at h0
    rw [h0]
    clear d0 d1 d2 d3 d4
    go_wp2
    go_ret
    exact ⟨by rw [HC.out];rfl,B2⟩
 ·have u1:((c.U.length:Int) == 3)=false:=beq_eq_false_iff_ne.2 (by omega)
  have u2:decide ((c.U.length:Int)=3)=false:=decide_eq_false (by omega)
  have u3:realmB c.U=false:=by unfold realmB;rw [decide_eq_false hu];rfl
  have HC:Hid (confB c=false):=by show confB c=_;unfold confB;rw [u3];simp
  clear hu u3
  go_enter Tryz.func30,Tryz.ntmps30
  go_wp2
  try rw [hW1]
  go_ret
  exact ⟨by rw [HC.out];rfl,by first | exact B0 | (rw [hW1];exact B0)⟩
end Go.Proofs.YtcaieniddnhkbaaGreatDoor
set_option maxRecDepth 100000
namespace Go.Proofs.YtcaieniddnhkbaaGreatDoor
open Go Go.RowKit Var Term Draw
structure Same (c d:Cf):Prop where
 U:d.U=c.U
 S:d.S=c.S
 L:d.L=c.L
 X:d.X=c.X
 k:d.k=c.k
theorem Same.conf {c d:Cf} (h:Same c d):confB d=confB c:=by unfold confB;rw [h.U,h.S,h.L,h.X,h.k]
theorem Same.symm {c d:Cf} (h:Same c d):Same d c:=⟨h.U.symm,h.S.symm,h.L.symm,h.X.symm,h.k.symm⟩
theorem Same.trans {c d e:Cf} (h:Same c d) (g:Same d e):Same c e:=⟨g.U.trans h.U,g.S.trans h.S,g.L.trans h.L,g.X.trans h.X,g.k.trans h.k⟩
theorem PRow.set {w:World} {a:Option Addr} {xs:List (Int × Int)} (h:PRow w a xs) (q i:Nat) (u:Value) (hn:∀ p:Addr,a=some p→p.block≠q):PRow (w.setCell ⟨q,i,none⟩ u) a xs:=by
 intro j hj
 obtain ⟨b,off,e,hlt,h0,h1⟩:=h j hj
 have:=hn _ e
 refine ⟨b,off,e,by simpa using hlt,?_,?_⟩
 ·rw [World.cell?_setCell_other _ _ _ _ (by intro he;simp only [Addr.mk.injEq] at he;exact this he.1.symm)];exact h0
 ·rw [World.cell?_setCell_other _ _ _ _ (by intro he;simp only [Addr.mk.injEq] at he;exact this he.1.symm)];exact h1
theorem Blk.fill5 {m g:Nat} {w W:World} {u0 u1 u2 u3 u4:Value} (h:Blk g [u0,u1,u2,u3,u4] W) (hb:Below m w W) (hg:m≤g) (v0 v1 v2 v3 v4:Value) :
  Blk g [v0,v1,v2,v3,v4] (((((W.setCell ⟨g,0,none⟩ v0).setCell ⟨g,1,none⟩ v1).setCell ⟨g,2,none⟩ v2).setCell ⟨g,3,none⟩ v3).setCell ⟨g,4,none⟩ v4)∧Below m w (((((W.setCell ⟨g,0,none⟩ v0).setCell ⟨g,1,none⟩ v1).setCell ⟨g,2,none⟩ v2).setCell ⟨g,3,none⟩ v3).setCell ⟨g,4,none⟩ v4) :=
 ⟨((((h.set 0 v0).set 1 v1).set 2 v2).set 3 v3).set 4 v4,((((hb.setCell (by dsimp only;omega) _).setCell (by dsimp only;omega) _).setCell (by dsimp only;omega) _).setCell (by dsimp only;omega) _).setCell (by dsimp only;omega) _⟩
theorem fill5_row {α:Type} {f:α→Value} {W:World} {a:Option Addr} {xs:List α} {q:Nat} (h:RowAt f W a xs) (hn:∀ p:Addr,a=some p→p.block≠q) (v0 v1 v2 v3 v4:Value):RowAt f (((((W.setCell ⟨q,0,none⟩ v0).setCell ⟨q,1,none⟩ v1).setCell ⟨q,2,none⟩ v2).setCell ⟨q,3,none⟩ v3).setCell ⟨q,4,none⟩ v4) a xs :=
 ((((h.set q 0 v0 hn).set q 1 v1 hn).set q 2 v2 hn).set q 3 v3 hn).set q 4 v4 hn
theorem fill5_pairs {W:World} {a:Option Addr} {xs:List (Int × Int)} {q:Nat} (h:PRow W a xs) (hn:∀ p:Addr,a=some p→p.block≠q) (v0 v1 v2 v3 v4:Value):PRow (((((W.setCell ⟨q,0,none⟩ v0).setCell ⟨q,1,none⟩ v1).setCell ⟨q,2,none⟩ v2).setCell ⟨q,3,none⟩ v3).setCell ⟨q,4,none⟩ v4) a xs :=
 ((((h.set q 0 v0 hn).set q 1 v1 hn).set q 2 v2 hn).set q 3 v3 hn).set q 4 v4 hn
theorem res_c {fn:Func} {p:Tmp} (hres:fn.results=#[.cell p 27]) (tmps:Array Value) (w:World) (g:Nat) (v0 v1 v2 v3 v4:Value) (hp:tmps.getD p undef=.pointer (some ⟨g,0,none⟩)) (h0:w.cell? ⟨g,0,none⟩=some v0) (h1:w.cell? ⟨g,1,none⟩=some v1) (h2:w.cell? ⟨g,2,none⟩=some v2) (h3:w.cell? ⟨g,3,none⟩=some v3) (h4:w.cell? ⟨g,4,none⟩=some v4) :
  (results fn tmps).run Tryz.prog w=.ok (.agg #[v0,v1,v2,v3,v4]) w:=by
 have hp':tmps[p]?.getD undef=.pointer (some ⟨g,0,none⟩):=by simpa using hp
 simp [results,hres,hp',asAddr,go_sem,h0,h1,h2,h3,h4,loadVar,Tryz.isAgg27,Tryz.sizeOf27]
def szT (c:Cf):Nat:=c.U.length + c.S.length + c.L.length + c.X.length
def szV (c:Cf):Int:=if szT c≤1048576 then ((1048576 - szT c:Nat):Int) else -1
set_option maxRecDepth 100000 in
set_option maxHeartbeats 3200000 in
theorem szConfig_is (c:Cf) (w:World) (lu:c.U.length≤maxLen) (ls:c.S.length≤maxLen) (ll:c.L.length≤maxLen) (lx:c.X.length≤maxLen) :
  Calls Tryz.prog 17 #[c.val,I 1048576] w fun en w'=>en=.returned (I (szV c))∧Below w.heap.size w w':=by
 obtain ⟨W1,hW1⟩:∃ W1,w.alloc (.cells #[.slice c.ua c.U.length c.uc,.slice c.sa c.S.length c.sc,.slice c.la c.L.length c.lc,.slice c.xa c.X.length c.xc,I c.k] 55)=W1:=⟨_,rfl⟩
 have B1:Below w.heap.size w W1:=by rw [← hW1];exact (Below.refl _ _).alloc (Nat.le_refl _) _
 have T1:Blk w.heap.size c.cells W1:=by rw [← hW1];exact Blk.new _ _ _
 have d0:=T1.at 0 rfl
 have d1:=T1.at 1 rfl
 have d2:=T1.at 2 rfl
 have d3:=T1.at 3 rfl
 have HZ:Hid (szT c=c.U.length + c.S.length + c.L.length + c.X.length):=(rfl:szT c=_)
 clear T1
 go_enter Tryz.func17,Tryz.ntmps17
 go_wp2_with fail
 try rw [hW1]
 refine (szI_is c.ua c.U.length c.uc 1048576 _ (by omega) lu).mono ?_
 clear hW1
 rintro en wx ⟨rfl,rfl⟩
 by_cases h0:c.U.length≤1048576
 ·rw [if_pos h0]
  have n0:¬ (((1048576 - c.U.length:Nat):Int) < 0):=by omega
  obtain ⟨q0,hq0⟩:∃ q:Nat,1048576 - c.U.length=q:=⟨_,rfl⟩
  rw [hq0] at n0 ⊢
  replace hq0:Hid (1048576 - c.U.length=q0):=hq0
  have g0:q0≤1048576:=by have:=hq0.out;omega
  go_wp2_with fail
  refine (szI_is c.sa c.S.length c.sc q0 _ (by omega) ls).mono ?_
  rintro en wx ⟨rfl,rfl⟩
  by_cases h1:c.S.length≤q0
  ·rw [if_pos h1]
   have n1:¬ (((q0 - c.S.length:Nat):Int) < 0):=by omega
   obtain ⟨q1,hq1⟩:∃ q:Nat,q0 - c.S.length=q:=⟨_,rfl⟩
   rw [hq1] at n1 ⊢
   replace hq1:Hid (q0 - c.S.length=q1):=hq1
   have g1:q1≤1048576:=by have:=hq1.out;omega
   go_wp2_with fail
   refine (szP_is c.la c.L.length c.lc q1 _ (by omega) ll).mono ?_
   rintro en wx ⟨rfl,rfl⟩
   by_cases h2:c.L.length≤q1
   ·rw [if_pos h2]
    have n2:¬ (((q1 - c.L.length:Nat):Int) < 0):=by omega
    obtain ⟨q2,hq2⟩:∃ q:Nat,q1 - c.L.length=q:=⟨_,rfl⟩
    rw [hq2] at n2 ⊢
    replace hq2:Hid (q1 - c.L.length=q2):=hq2
    have g2:q2≤1048576:=by have:=hq2.out;omega
    go_wp2_with fail
    refine (szP_is c.xa c.X.length c.xc q2 _ (by omega) lx).mono ?_
    rintro en wx ⟨rfl,rfl⟩
    by_cases h3:c.X.length≤q2
    ·rw [if_pos h3]
     have n3:¬ (((q2 - c.X.length:Nat):Int) < 0):=by omega
     obtain ⟨q3,hq3⟩:∃ q:Nat,q2 - c.X.length=q:=⟨_,rfl⟩
     rw [hq3] at n3 ⊢
     have HE:Hid (szV c=(q3:Int)):=by show szV c=(q3:Int);unfold szV;have:=HZ.out;have:=hq0.out;have:=hq1.out;have:=hq2.out;rw [if_pos (by omega)];omega
     replace hq3:Hid (q2 - c.X.length=q3):=hq3
     go_wp2
     go_ret
     exact ⟨by rw [HE.out];rfl,B1⟩
    ·rw [if_neg h3]
     have HE:Hid (szV c=-1):=by show szV c=-1;unfold szV;have:=HZ.out;have:=hq0.out;have:=hq1.out;have:=hq2.out;rw [if_neg (by omega)]
     go_wp2
     go_ret
     exact ⟨by rw [HE.out];rfl,B1⟩
   ·rw [if_neg h2]
    have HE:Hid (szV c=-1):=by show szV c=-1;unfold szV;have:=HZ.out;have:=hq0.out;have:=hq1.out;rw [if_neg (by omega)]
    go_wp2
    go_ret
    exact ⟨by rw [HE.out];rfl,B1⟩
  ·rw [if_neg h1]
   have HE:Hid (szV c=-1):=by show szV c=-1;unfold szV;have:=HZ.out;have:=hq0.out;rw [if_neg (by omega)]
   go_wp2
   go_ret
   exact ⟨by rw [HE.out];rfl,B1⟩
 ·rw [if_neg h0]
  have HE:Hid (szV c=-1):=by show szV c=-1;unfold szV;have:=HZ.out; rw [if_neg (by omega)]
  go_wp2
  go_ret
  exact ⟨by rw [HE.out];rfl,B1⟩
set_option maxRecDepth 100000 in
set_option maxHeartbeats 6400000 in
theorem toConfig_is (c:Cf) (w:World) (C:CfAt c w) (lu:c.U.length≤1048576) (ls:c.S.length≤1048576) (ll:c.L.length≤1048576) (lx:c.X.length≤1048576) :
  Calls Tryz.prog 18 #[c.val] w fun en w'=>∃ d:Cf,en=.returned d.val∧Same c d∧CfAt d w'∧CfOk d∧Below w.heap.size w w':=by
 obtain ⟨W0,hW0⟩:∃ W0,((w.alloc (.cells #[.slice c.ua c.U.length c.uc,.slice c.sa c.S.length c.sc,.slice c.la c.L.length c.lc,.slice c.xa c.X.length c.xc,I c.k] 55)).alloc (.cells #[.slice none 0 0,.slice none 0 0,.slice none 0 0,.slice none 0 0,I 0] 27)).alloc (.cells #[.slice none 0 0,.slice none 0 0,.slice none 0 0,.slice none 0 0,I 0] 27)=W0:=⟨_,rfl⟩
 have B0:Below w.heap.size w W0:=by rw [← hW0];exact (((Below.refl _ _).alloc (Nat.le_refl _) _).alloc (by simp) _).alloc (by simp;omega) _
 have T0:Blk w.heap.size c.cells W0:=by rw [← hW0];exact ((Blk.new w #[.slice c.ua c.U.length c.uc,.slice c.sa c.S.length c.sc,.slice c.la c.L.length c.lc,.slice c.xa c.X.length c.xc,I c.k] 55).alloc (by simp) _).alloc (by simp;omega) _
 have R0:Blk (w.heap.size + 1) [.slice none 0 0,.slice none 0 0,.slice none 0 0,.slice none 0 0,I 0] W0:=by rw [← hW0];have:=(Blk.new (w.alloc (.cells #[.slice c.ua c.U.length c.uc,.slice c.sa c.S.length c.sc,.slice c.la c.L.length c.lc,.slice c.xa c.X.length c.xc,I c.k] 55)) #[.slice none 0 0,.slice none 0 0,.slice none 0 0,.slice none 0 0,I 0] 27).alloc (by simp) (.cells #[.slice none 0 0,.slice none 0 0,.slice none 0 0,.slice none 0 0,I 0] 27);simpa using this
 have O0:Blk (w.heap.size + 1 + 1) [.slice none 0 0,.slice none 0 0,.slice none 0 0,.slice none 0 0,I 0] W0:=by rw [← hW0];have:=Blk.new ((w.alloc (.cells #[.slice c.ua c.U.length c.uc,.slice c.sa c.S.length c.sc,.slice c.la c.L.length c.lc,.slice c.xa c.X.length c.xc,I c.k] 55)).alloc (.cells #[.slice none 0 0,.slice none 0 0,.slice none 0 0,.slice none 0 0,I 0] 27)) #[.slice none 0 0,.slice none 0 0,.slice none 0 0,.slice none 0 0,I 0] 27;simpa using this
 have Z0:Hid (w.heap.size + 3≤W0.heap.size):=by show _≤_;rw [← hW0];simp
 go_enter Tryz.func18,Tryz.ntmps18
 have d0:=T0.at 0 rfl
 have HR:=C.hu.later B0
 go_wp2_with fail
 try rw [hW0]
 refine (toI_is c.ua c.uc c.U W0 HR lu).mono ?_
 clear hW0 d0 HR
 rintro en v ⟨rfl,ho,hb⟩
 have N0:=RowAt.own ho
 have L0:W0.heap.size < v.heap.size:=(ho.lt _ rfl).2
 have TP0:=T0.later hb (by have:=Z0.out;omega)
 have RP0:=R0.later hb (by have:=Z0.out;omega)
 have OP0:=O0.later hb (by have:=Z0.out;omega)
 have B:=B0.trans (hb.mono B0.size)
 have ZP:w.heap.size + 3≤v.heap.size:=Nat.le_trans Z0.out hb.size
 have G0:w.heap.size + 3≤W0.heap.size:=Z0.out
 clear T0 R0 O0 B0 Z0 hb ho
 generalize W0.heap.size=gu at *
 obtain ⟨W1,hW1⟩:∃ V,v.setCell ⟨w.heap.size + 1 + 1,0,none⟩ (.slice (some ⟨gu,0,none⟩) c.U.length c.U.length)=V:=⟨_,rfl⟩
 have O1:Blk (w.heap.size + 1 + 1) [.slice (some ⟨gu,0,none⟩) c.U.length c.U.length,.slice none 0 0,.slice none 0 0,.slice none 0 0,I 0] W1:=by rw [← hW1];exact OP0.set 0 _
 have T1:Blk w.heap.size c.cells W1:=by rw [← hW1];exact TP0.far (by omega) 0 _
 have R1:Blk (w.heap.size + 1) [.slice none 0 0,.slice none 0 0,.slice none 0 0,.slice none 0 0,I 0] W1:=by rw [← hW1];exact RP0.far (by omega) 0 _
 have Q0:=N0.set (w.heap.size + 1 + 1) 0 (.slice (some ⟨gu,0,none⟩) c.U.length c.U.length) (by intro p e;simp only [Option.some.injEq] at e;subst e;show gu≠_;have:=G0;omega)
 rw [hW1] at Q0
 have B1:Below w.heap.size w W1:=by rw [← hW1];exact B.setCell (by dsimp only;omega) _
 have Z1:Hid (w.heap.size + 3≤W1.heap.size):=by show _≤_;rw [← hW1];simpa using ZP
 have L0n:Hid (gu < W1.heap.size):=by show _ < _;rw [← hW1];simpa using L0
 clear RP0 B ZP N0 L0
 have N0:=Q0
 have L0:=L0n
 clear Q0 L0n
 replace G0:Hid (w.heap.size + 3≤gu):=G0
 have d1:=T1.at 1 rfl
 have c1:=TP0.at 1 rfl
 have o1:=OP0.at 0 rfl
 have f1:=OP0.fz 0 rfl
 have HR:=C.hs.later B1
 go_wp2_with fail
 try rw [hW1]
 refine (toI_is c.sa c.sc c.S W1 HR ls).mono ?_
 clear hW1 d1 HR c1 o1 f1 TP0 OP0
 rintro en v ⟨rfl,ho,hb⟩
 have N1:=RowAt.own ho
 have L1:W1.heap.size < v.heap.size:=(ho.lt _ rfl).2
 have TP1:=T1.later hb (by have:=Z1.out;omega)
 have RP1:=R1.later hb (by have:=Z1.out;omega)
 have OP1:=O1.later hb (by have:=Z1.out;omega)
 have M0:=N0.later hb
 have B:=B1.trans (hb.mono B1.size)
 have ZP:w.heap.size + 3≤v.heap.size:=Nat.le_trans Z1.out hb.size
 have G1:w.heap.size + 3≤W1.heap.size:=Z1.out
 have K0:gu < v.heap.size:=Nat.lt_of_lt_of_le L0.out hb.size
 clear T1 R1 O1 B1 Z1 hb ho N0 L0
 generalize W1.heap.size=gs at *
 obtain ⟨W2,hW2⟩:∃ V,v.setCell ⟨w.heap.size + 1 + 1,1,none⟩ (.slice (some ⟨gs,0,none⟩) c.S.length c.S.length)=V:=⟨_,rfl⟩
 have O2:Blk (w.heap.size + 1 + 1) [.slice (some ⟨gu,0,none⟩) c.U.length c.U.length,.slice (some ⟨gs,0,none⟩) c.S.length c.S.length,.slice none 0 0,.slice none 0 0,I 0] W2:=by rw [← hW2];exact OP1.set 1 _
 have T2:Blk w.heap.size c.cells W2:=by rw [← hW2];exact TP1.far (by omega) 1 _
 have R2:Blk (w.heap.size + 1) [.slice none 0 0,.slice none 0 0,.slice none 0 0,.slice none 0 0,I 0] W2:=by rw [← hW2];exact RP1.far (by omega) 1 _
 have Q0:=M0.set (w.heap.size + 1 + 1) 1 (.slice (some ⟨gs,0,none⟩) c.S.length c.S.length) (by intro p e;simp only [Option.some.injEq] at e;subst e;show gu≠_;have:=G0.out;omega)
 rw [hW2] at Q0
 have Q1:=N1.set (w.heap.size + 1 + 1) 1 (.slice (some ⟨gs,0,none⟩) c.S.length c.S.length) (by intro p e;simp only [Option.some.injEq] at e;subst e;show gs≠_;have:=G1;omega)
 rw [hW2] at Q1
 have B2:Below w.heap.size w W2:=by rw [← hW2];exact B.setCell (by dsimp only;omega) _
 have Z2:Hid (w.heap.size + 3≤W2.heap.size):=by show _≤_;rw [← hW2];simpa using ZP
 have L0n:Hid (gu < W2.heap.size):=by show _ < _;rw [← hW2];simpa using K0
 have L1n:Hid (gs < W2.heap.size):=by show _ < _;rw [← hW2];simpa using L1
 clear RP1 B ZP N1 L1 M0 K0
 have N0:=Q0
 have L0:=L0n
 have N1:=Q1
 have L1:=L1n
 clear Q0 L0n Q1 L1n
 replace G1:Hid (w.heap.size + 3≤gs):=G1
 have d2:=T2.at 2 rfl
 have c2:=TP1.at 2 rfl
 have o2:=OP1.at 1 rfl
 have f2:=OP1.fz 1 rfl
 have HR:=C.hl.later B2
 go_wp2_with fail
 try rw [hW2]
 refine (toP_is c.la c.lc c.L W2 HR ll).mono ?_
 clear hW2 d2 HR c2 o2 f2 TP1 OP1
 rintro en v ⟨rfl,ho,hz,hb⟩
 have N2:=ho
 have L2:W2.heap.size < v.heap.size:=hz
 have TP2:=T2.later hb (by have:=Z2.out;omega)
 have RP2:=R2.later hb (by have:=Z2.out;omega)
 have OP2:=O2.later hb (by have:=Z2.out;omega)
 have M0:=N0.later hb
 have M1:=N1.later hb
 have B:=B2.trans (hb.mono B2.size)
 have ZP:w.heap.size + 3≤v.heap.size:=Nat.le_trans Z2.out hb.size
 have G2:w.heap.size + 3≤W2.heap.size:=Z2.out
 have K0:gu < v.heap.size:=Nat.lt_of_lt_of_le L0.out hb.size
 have K1:gs < v.heap.size:=Nat.lt_of_lt_of_le L1.out hb.size
 clear T2 R2 O2 B2 Z2 hb ho hz N0 L0 N1 L1
 generalize W2.heap.size=gl at *
 obtain ⟨W3,hW3⟩:∃ V,v.setCell ⟨w.heap.size + 1 + 1,2,none⟩ (.slice (some ⟨gl,0,none⟩) c.L.length c.L.length)=V:=⟨_,rfl⟩
 have O3:Blk (w.heap.size + 1 + 1) [.slice (some ⟨gu,0,none⟩) c.U.length c.U.length,.slice (some ⟨gs,0,none⟩) c.S.length c.S.length,.slice (some ⟨gl,0,none⟩) c.L.length c.L.length,.slice none 0 0,I 0] W3:=by rw [← hW3];exact OP2.set 2 _
 have T3:Blk w.heap.size c.cells W3:=by rw [← hW3];exact TP2.far (by omega) 2 _
 have R3:Blk (w.heap.size + 1) [.slice none 0 0,.slice none 0 0,.slice none 0 0,.slice none 0 0,I 0] W3:=by rw [← hW3];exact RP2.far (by omega) 2 _
 have Q0:=M0.set (w.heap.size + 1 + 1) 2 (.slice (some ⟨gl,0,none⟩) c.L.length c.L.length) (by intro p e;simp only [Option.some.injEq] at e;subst e;show gu≠_;have:=G0.out;omega)
 rw [hW3] at Q0
 have Q1:=M1.set (w.heap.size + 1 + 1) 2 (.slice (some ⟨gl,0,none⟩) c.L.length c.L.length) (by intro p e;simp only [Option.some.injEq] at e;subst e;show gs≠_;have:=G1.out;omega)
 rw [hW3] at Q1
 have Q2:=N2.set (w.heap.size + 1 + 1) 2 (.slice (some ⟨gl,0,none⟩) c.L.length c.L.length) (by intro p e;simp only [Option.some.injEq] at e;subst e;show gl≠_;have:=G2;omega)
 rw [hW3] at Q2
 have B3:Below w.heap.size w W3:=by rw [← hW3];exact B.setCell (by dsimp only;omega) _
 have Z3:Hid (w.heap.size + 3≤W3.heap.size):=by show _≤_;rw [← hW3];simpa using ZP
 have L0n:Hid (gu < W3.heap.size):=by show _ < _;rw [← hW3];simpa using K0
 have L1n:Hid (gs < W3.heap.size):=by show _ < _;rw [← hW3];simpa using K1
 have L2n:Hid (gl < W3.heap.size):=by show _ < _;rw [← hW3];simpa using L2
 clear RP2 B ZP N2 L2 M0 K0 M1 K1
 have N0:=Q0
 have L0:=L0n
 have N1:=Q1
 have L1:=L1n
 have N2:=Q2
 have L2:=L2n
 clear Q0 L0n Q1 L1n Q2 L2n
 replace G2:Hid (w.heap.size + 3≤gl):=G2
 have d3:=T3.at 3 rfl
 have c3:=TP2.at 3 rfl
 have o3:=OP2.at 2 rfl
 have f3:=OP2.fz 2 rfl
 have HR:=C.hx.later B3
 go_wp2_with fail
 try rw [hW3]
 refine (toP_is c.xa c.xc c.X W3 HR lx).mono ?_
 clear hW3 d3 HR c3 o3 f3 TP2 OP2
 rintro en v ⟨rfl,ho,hz,hb⟩
 have N3:=ho
 have L3:W3.heap.size < v.heap.size:=hz
 have TP3:=T3.later hb (by have:=Z3.out;omega)
 have RP3:=R3.later hb (by have:=Z3.out;omega)
 have OP3:=O3.later hb (by have:=Z3.out;omega)
 have M0:=N0.later hb
 have M1:=N1.later hb
 have M2:=N2.later hb
 have B:=B3.trans (hb.mono B3.size)
 have ZP:w.heap.size + 3≤v.heap.size:=Nat.le_trans Z3.out hb.size
 have G3:w.heap.size + 3≤W3.heap.size:=Z3.out
 have K0:gu < v.heap.size:=Nat.lt_of_lt_of_le L0.out hb.size
 have K1:gs < v.heap.size:=Nat.lt_of_lt_of_le L1.out hb.size
 have K2:gl < v.heap.size:=Nat.lt_of_lt_of_le L2.out hb.size
 clear T3 R3 O3 B3 Z3 hb ho hz N0 L0 N1 L1 N2 L2
 generalize W3.heap.size=gx at *
 obtain ⟨W4,hW4⟩:∃ V,v.setCell ⟨w.heap.size + 1 + 1,3,none⟩ (.slice (some ⟨gx,0,none⟩) c.X.length c.X.length)=V:=⟨_,rfl⟩
 have O4:Blk (w.heap.size + 1 + 1) [.slice (some ⟨gu,0,none⟩) c.U.length c.U.length,.slice (some ⟨gs,0,none⟩) c.S.length c.S.length,.slice (some ⟨gl,0,none⟩) c.L.length c.L.length,.slice (some ⟨gx,0,none⟩) c.X.length c.X.length,I 0] W4:=by rw [← hW4];exact OP3.set 3 _
 have T4:Blk w.heap.size c.cells W4:=by rw [← hW4];exact TP3.far (by omega) 3 _
 have R4:Blk (w.heap.size + 1) [.slice none 0 0,.slice none 0 0,.slice none 0 0,.slice none 0 0,I 0] W4:=by rw [← hW4];exact RP3.far (by omega) 3 _
 have Q0:=M0.set (w.heap.size + 1 + 1) 3 (.slice (some ⟨gx,0,none⟩) c.X.length c.X.length) (by intro p e;simp only [Option.some.injEq] at e;subst e;show gu≠_;have:=G0.out;omega)
 rw [hW4] at Q0
 have Q1:=M1.set (w.heap.size + 1 + 1) 3 (.slice (some ⟨gx,0,none⟩) c.X.length c.X.length) (by intro p e;simp only [Option.some.injEq] at e;subst e;show gs≠_;have:=G1.out;omega)
 rw [hW4] at Q1
 have Q2:=M2.set (w.heap.size + 1 + 1) 3 (.slice (some ⟨gx,0,none⟩) c.X.length c.X.length) (by intro p e;simp only [Option.some.injEq] at e;subst e;show gl≠_;have:=G2.out;omega)
 rw [hW4] at Q2
 have Q3:=N3.set (w.heap.size + 1 + 1) 3 (.slice (some ⟨gx,0,none⟩) c.X.length c.X.length) (by intro p e;simp only [Option.some.injEq] at e;subst e;show gx≠_;have:=G3;omega)
 rw [hW4] at Q3
 have B4:Below w.heap.size w W4:=by rw [← hW4];exact B.setCell (by dsimp only;omega) _
 have Z4:Hid (w.heap.size + 3≤W4.heap.size):=by show _≤_;rw [← hW4];simpa using ZP
 have L0n:Hid (gu < W4.heap.size):=by show _ < _;rw [← hW4];simpa using K0
 have L1n:Hid (gs < W4.heap.size):=by show _ < _;rw [← hW4];simpa using K1
 have L2n:Hid (gl < W4.heap.size):=by show _ < _;rw [← hW4];simpa using K2
 have L3n:Hid (gx < W4.heap.size):=by show _ < _;rw [← hW4];simpa using L3
 clear RP3 B ZP N3 L3 M0 K0 M1 K1 M2 K2
 have N0:=Q0
 have L0:=L0n
 have N1:=Q1
 have L1:=L1n
 have N2:=Q2
 have L2:=L2n
 have N3:=Q3
 have L3:=L3n
 clear Q0 L0n Q1 L1n Q2 L2n Q3 L3n
 replace G3:Hid (w.heap.size + 3≤gx):=G3
 have d4:=T4.at 4 rfl
 have c4:=TP3.at 4 rfl
 have o4:=OP3.at 3 rfl
 have f4:=OP3.fz 3 rfl
 have p4:=O4.at 4 rfl
 have q4:=O4.fz 4 rfl
 obtain ⟨W5,hW5⟩:∃ V,W4.setCell ⟨w.heap.size + 1 + 1,4,none⟩ (I c.k)=V:=⟨_,rfl⟩
 have O5:Blk (w.heap.size + 1 + 1) [.slice (some ⟨gu,0,none⟩) c.U.length c.U.length,.slice (some ⟨gs,0,none⟩) c.S.length c.S.length,.slice (some ⟨gl,0,none⟩) c.L.length c.L.length,.slice (some ⟨gx,0,none⟩) c.X.length c.X.length,I c.k] W5:=by rw [← hW5];exact O4.set 4 _
 have R5:Blk (w.heap.size + 1) [.slice none 0 0,.slice none 0 0,.slice none 0 0,.slice none 0 0,I 0] W5:=by rw [← hW5];exact R4.far (by omega) 4 _
 have Q0:=N0.set (w.heap.size + 1 + 1) 4 (I c.k) (by intro p e;simp only [Option.some.injEq] at e;subst e;show gu≠_;have:=G0.out;omega)
 rw [hW5] at Q0
 have Q1:=N1.set (w.heap.size + 1 + 1) 4 (I c.k) (by intro p e;simp only [Option.some.injEq] at e;subst e;show gs≠_;have:=G1.out;omega)
 rw [hW5] at Q1
 have Q2:=N2.set (w.heap.size + 1 + 1) 4 (I c.k) (by intro p e;simp only [Option.some.injEq] at e;subst e;show gl≠_;have:=G2.out;omega)
 rw [hW5] at Q2
 have Q3:=N3.set (w.heap.size + 1 + 1) 4 (I c.k) (by intro p e;simp only [Option.some.injEq] at e;subst e;show gx≠_;have:=G3.out;omega)
 rw [hW5] at Q3
 have B5:Below w.heap.size w W5:=by rw [← hW5];exact B4.setCell (by dsimp only;omega) _
 have F1:Hid (_∧_):=R5.fill5 B5 (by omega) (.slice (some ⟨gu,0,none⟩) c.U.length c.U.length) (.slice (some ⟨gs,0,none⟩) c.S.length c.S.length) (.slice (some ⟨gl,0,none⟩) c.L.length c.L.length) (.slice (some ⟨gx,0,none⟩) c.X.length c.X.length) (I c.k)
 have E0:=fill5_row Q0 (q:=w.heap.size + 1) (by intro p e;simp only [Option.some.injEq] at e;subst e;show gu≠_;have:=G0.out;omega) (.slice (some ⟨gu,0,none⟩) c.U.length c.U.length) (.slice (some ⟨gs,0,none⟩) c.S.length c.S.length) (.slice (some ⟨gl,0,none⟩) c.L.length c.L.length) (.slice (some ⟨gx,0,none⟩) c.X.length c.X.length) (I c.k)
 replace E0:Hid _:=E0
 have E1:=fill5_row Q1 (q:=w.heap.size + 1) (by intro p e;simp only [Option.some.injEq] at e;subst e;show gs≠_;have:=G1.out;omega) (.slice (some ⟨gu,0,none⟩) c.U.length c.U.length) (.slice (some ⟨gs,0,none⟩) c.S.length c.S.length) (.slice (some ⟨gl,0,none⟩) c.L.length c.L.length) (.slice (some ⟨gx,0,none⟩) c.X.length c.X.length) (I c.k)
 replace E1:Hid _:=E1
 have E2:=fill5_pairs Q2 (q:=w.heap.size + 1) (by intro p e;simp only [Option.some.injEq] at e;subst e;show gl≠_;have:=G2.out;omega) (.slice (some ⟨gu,0,none⟩) c.U.length c.U.length) (.slice (some ⟨gs,0,none⟩) c.S.length c.S.length) (.slice (some ⟨gl,0,none⟩) c.L.length c.L.length) (.slice (some ⟨gx,0,none⟩) c.X.length c.X.length) (I c.k)
 replace E2:Hid _:=E2
 have E3:=fill5_pairs Q3 (q:=w.heap.size + 1) (by intro p e;simp only [Option.some.injEq] at e;subst e;show gx≠_;have:=G3.out;omega) (.slice (some ⟨gu,0,none⟩) c.U.length c.U.length) (.slice (some ⟨gs,0,none⟩) c.S.length c.S.length) (.slice (some ⟨gl,0,none⟩) c.L.length c.L.length) (.slice (some ⟨gx,0,none⟩) c.X.length c.X.length) (I c.k)
 replace E3:Hid _:=E3
 have s0:=O5.at 0 rfl
 have s1:=O5.at 1 rfl
 have s2:=O5.at 2 rfl
 have s3:=O5.at 3 rfl
 have s4:=O5.at 4 rfl
 have r0:=R5.at 0 rfl
 have t0:=R5.fz 0 rfl
 have r1:=R5.at 1 rfl
 have t1:=R5.fz 1 rfl
 have r2:=R5.at 2 rfl
 have t2:=R5.fz 2 rfl
 have r3:=R5.at 3 rfl
 have t3:=R5.fz 3 rfl
 have r4:=R5.at 4 rfl
 have t4:=R5.fz 4 rfl
 clear O4 R4 T4 B4 Z4 R5 O5 B5 TP3 OP3 N0 Q0 L0 G0 N1 Q1 L1 G1 N2 Q2 L2 G2 N3 Q3 L3 G3
 go_wp2
 have G:=F1.out
 refine bodyPost_ret (res_c rfl _ _ (w.heap.size + 1) _ _ _ _ _ rfl (G.1.at 0 rfl) (G.1.at 1 rfl) (G.1.at 2 rfl) (G.1.at 3 rfl) (G.1.at 4 rfl)) rfl ⟨⟨some ⟨gu,0,none⟩,c.U.length,c.U,some ⟨gs,0,none⟩,c.S.length,c.S,some ⟨gl,0,none⟩,c.L.length,c.L,some ⟨gx,0,none⟩,c.X.length,c.X,c.k⟩,rfl,⟨rfl,rfl,rfl,rfl,rfl⟩,⟨E0.out,E1.out,E2.out,E3.out⟩,⟨lu,ls,ll,lx,Nat.le_refl _,Nat.le_refl _⟩,G.2⟩
set_option maxRecDepth 100000 in
set_option maxHeartbeats 6400000 in
theorem eqConfig_is (c d:Cf) (w:World) (E:Same c d) (C:CfAt c w) (D:CfAt d w) (K:CfOk c):Calls Tryz.prog 20 #[c.val,d.val] w fun en w'=>en=.returned (.bool true)∧Below w.heap.size w w':=by
 obtain ⟨ua,uc,U,sa,sc,S,la,lc,L,xa,xc,X,k⟩:=c
 obtain ⟨ua2,uc2,U2,sa2,sc2,S2,la2,lc2,L2,xa2,xc2,X2,k2⟩:=d
 obtain ⟨e1,e2,e3,e4,e5⟩:=E
 dsimp only at e1 e2 e3 e4 e5
 subst e1 e2 e3 e4 e5
 obtain ⟨W0,hW0⟩:∃ W0,(w.alloc (.cells #[.slice ua U2.length uc,.slice sa S2.length sc,.slice la L2.length lc,.slice xa X2.length xc,I k2] 27)).alloc (.cells #[.slice ua2 U2.length uc2,.slice sa2 S2.length sc2,.slice la2 L2.length lc2,.slice xa2 X2.length xc2,I k2] 27)=W0:=⟨_,rfl⟩
 have B0:Below w.heap.size w W0:=by rw [← hW0];exact ((Below.refl _ _).alloc (Nat.le_refl _) _).alloc (by simp) _
 have T0:Blk w.heap.size [.slice ua U2.length uc,.slice sa S2.length sc,.slice la L2.length lc,.slice xa X2.length xc,I k2] W0:=by rw [← hW0];exact (Blk.new w #[.slice ua U2.length uc,.slice sa S2.length sc,.slice la L2.length lc,.slice xa X2.length xc,I k2] 27).alloc (by simp) _
 have O0:Blk (w.heap.size + 1) [.slice ua2 U2.length uc2,.slice sa2 S2.length sc2,.slice la2 L2.length lc2,.slice xa2 X2.length xc2,I k2] W0:=by rw [← hW0];have:=Blk.new (w.alloc (.cells #[.slice ua U2.length uc,.slice sa S2.length sc,.slice la L2.length lc,.slice xa X2.length xc,I k2] 27)) #[.slice ua2 U2.length uc2,.slice sa2 S2.length sc2,.slice la2 L2.length lc2,.slice xa2 X2.length xc2,I k2] 27;simpa using this
 have Z0:Hid (w.heap.size + 2≤W0.heap.size):=by show _≤_;rw [← hW0];simp
 go_enter Tryz.func20,Tryz.ntmps20
 have d0:=T0.at 0 rfl
 have d1:=O0.at 0 rfl
 go_wp2_with fail
 try rw [hW0]
 refine (eqI_is ua ua2 uc uc2 U2 _ (C.hu.later B0) (D.hu.later B0) K.lu).mono ?_
 clear hW0
 clear d0 d1
 rintro en v ⟨rfl,hb⟩
 have T1:=T0.later hb (by have:=Z0.out;omega)
 have O1:=O0.later hb (by have:=Z0.out;omega)
 have B1:=B0.trans (hb.mono B0.size)
 have Z1:Hid (w.heap.size + 2≤v.heap.size):=Nat.le_trans Z0.out hb.size
 clear T0 O0 B0 Z0 hb
 have d0:=T1.at 1 rfl
 have d1:=O1.at 1 rfl
 go_wp2_with fail
 refine (eqI_is sa sa2 sc sc2 S2 _ (C.hs.later B1) (D.hs.later B1) K.ls).mono ?_
 clear d0 d1
 rintro en v ⟨rfl,hb⟩
 have T2:=T1.later hb (by have:=Z1.out;omega)
 have O2:=O1.later hb (by have:=Z1.out;omega)
 have B2:=B1.trans (hb.mono B1.size)
 have Z2:Hid (w.heap.size + 2≤v.heap.size):=Nat.le_trans Z1.out hb.size
 clear T1 O1 B1 Z1 hb
 have d0:=T2.at 2 rfl
 have d1:=O2.at 2 rfl
 go_wp2_with fail
 refine (eqP_is la la2 lc lc2 L2 _ (C.hl.later B2) (D.hl.later B2) K.ll).mono ?_
 clear d0 d1
 rintro en v ⟨rfl,hb⟩
 have T3:=T2.later hb (by have:=Z2.out;omega)
 have O3:=O2.later hb (by have:=Z2.out;omega)
 have B3:=B2.trans (hb.mono B2.size)
 have Z3:Hid (w.heap.size + 2≤v.heap.size):=Nat.le_trans Z2.out hb.size
 clear T2 O2 B2 Z2 hb
 have d0:=T3.at 3 rfl
 have d1:=O3.at 3 rfl
 go_wp2_with fail
 refine (eqP_is xa xa2 xc xc2 X2 _ (C.hx.later B3) (D.hx.later B3) K.lx).mono ?_
 clear d0 d1
 rintro en v ⟨rfl,hb⟩
 have T4:=T3.later hb (by have:=Z3.out;omega)
 have O4:=O3.later hb (by have:=Z3.out;omega)
 have B4:=B3.trans (hb.mono B3.size)
 have Z4:Hid (w.heap.size + 2≤v.heap.size):=Nat.le_trans Z3.out hb.size
 clear T3 O3 B3 Z3 hb
 have d0:=T4.at 4 rfl
 have d1:=O4.at 4 rfl
 go_wp2
 go_ret
 exact ⟨rfl,B4⟩
end Go.Proofs.YtcaieniddnhkbaaGreatDoor
