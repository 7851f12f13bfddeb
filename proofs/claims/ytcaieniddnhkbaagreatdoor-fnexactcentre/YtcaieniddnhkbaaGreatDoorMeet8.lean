/- What both say: program and model. -/
import Derived.Test.YtcaieniddnhkbaaGreatDoorAb
import Derived.Test.YtcaieniddnhkbaaGreatDoorFaces2
namespace Go.Proofs.YtcaieniddnhkbaaGreatDoor
open Go Go.RowKit
set_option maxRecDepth 100000 in
set_option maxHeartbeats 800000 in
theorem meet_is (a b c x y z:Int) (w:World):Calls Tryz.prog 187 #[rv a b c,rv x y z] w fun e w'=>e=.returned (rv (andI a x) (andI b y) (min c z))∧Below w.heap.size w w':=by
 have hb0:∀ t:Int,Below w.heap.size w (((w.alloc (.cells #[.int .i64 a,.int .i64 b,.int .i64 c] 31)).alloc (.cells #[.int .i64 x,.int .i64 y,.int .i64 z] 31)).alloc (.cells #[.int .i64 (bits .and .i64 a x),.int .i64 (bits .and .i64 b y),.int .i64 t] 31)) :=
  fun _=>(((Below.refl _ _).alloc (Nat.le_refl _) _).alloc (by simp) _).alloc (by simp;omega) _
 by_cases h:c≤z
 ·go_enter Tryz.func187,Tryz.ntmps187
  go_wp2
  exact bodyPost_ret (res_three rfl _ _ (w.heap.size + 1 + 1) (.int .i64 (bits .and .i64 a x)) (.int .i64 (bits .and .i64 b y)) (.int .i64 (min c z)) rfl (by simp [go_sem]) (by simp [go_sem]) (by simp [go_sem])) rfl ⟨rfl,hb0 _⟩
 ·have h':z < c:=by omega
  go_enter Tryz.func187,Tryz.ntmps187
  go_wp2
  exact bodyPost_ret (res_three rfl _ _ (w.heap.size + 1 + 1) (.int .i64 (bits .and .i64 a x)) (.int .i64 (bits .and .i64 b y)) (.int .i64 (min c z)) rfl (by simp [go_sem]) (by simp [go_sem]) (by simp [go_sem])) rfl ⟨rfl,hb0 _⟩
set_option maxRecDepth 100000 in
set_option maxHeartbeats 1600000 in
theorem implMeet_is (a b c x y z:Int) (w:World):Calls Tryz.prog 159 #[rv a b c,rv x y z] w fun e w'=>e=.returned (rv (mA a b c x y z) (mB a b c x y z) (mC a b c x y z))∧Below w.heap.size w w':=by
 obtain ⟨W3,hW3⟩:∃ W3,((w.alloc (.cells #[.int .i64 a,.int .i64 b,.int .i64 c] 31)).alloc (.cells #[.int .i64 x,.int .i64 y,.int .i64 z] 31)).alloc (.cells #[.int .i64 0,.int .i64 0,.int .i64 0] 31)=W3:=⟨_,rfl⟩
 have hb0:Below w.heap.size w W3:=by rw [← hW3];exact (((Below.refl _ _).alloc (Nat.le_refl _) _).alloc (by simp) _).alloc (by simp;omega) _
 have hz:Hid (W3.heap.size=w.heap.size + 3):=by show W3.heap.size=w.heap.size + 3;rw [← hW3];simp
 have T0:Two w.heap.size a b c x y z W3:=by rw [← hW3];constructor <;> simp [go_sem]
 have O0:Out3 (w.heap.size + 1 + 1) W3:=by rw [← hW3];constructor <;> simp [go_sem]
 have fin:∀ {wl:World} (p q r:Value),Below W3.heap.size W3 wl→Below w.heap.size w (set3 wl (w.heap.size + 1 + 1) p q r)∧(set3 wl (w.heap.size + 1 + 1) p q r).cell? ⟨w.heap.size + 1 + 1,0,none⟩=some p∧(set3 wl (w.heap.size + 1 + 1) p q r).cell? ⟨w.heap.size + 1 + 1,1,none⟩=some q∧(set3 wl (w.heap.size + 1 + 1) p q r).cell? ⟨w.heap.size + 1 + 1,2,none⟩=some r:=by
  intro wl p q r hb
  obtain ⟨⟨v0,h0⟩,⟨v1,h1⟩,⟨v2,h2⟩,_,_,_⟩:=O0.later hb (by have:=hz.out;omega)
  exact ⟨set3_below (hb0.trans (hb.mono hb0.size)) (by omega) _ _ _,set3_0 _ _ _ h0,set3_1 _ _ _ h1,set3_2 _ _ _ h2⟩
 have FIN:Hid (∀ {wl:World} (p q r:Value),Below W3.heap.size W3 wl→Below w.heap.size w (set3 wl (w.heap.size + 1 + 1) p q r)∧(set3 wl (w.heap.size + 1 + 1) p q r).cell? ⟨w.heap.size + 1 + 1,0,none⟩=some p∧(set3 wl (w.heap.size + 1 + 1) p q r).cell? ⟨w.heap.size + 1 + 1,1,none⟩=some q∧(set3 wl (w.heap.size + 1 + 1) p q r).cell? ⟨w.heap.size + 1 + 1,2,none⟩=some r):=fin
 clear fin
 obtain ⟨d0,d1,d2,d3,d4,d5⟩:=T0
 go_enter Tryz.func159,Tryz.ntmps159
 go_wp2_with fail
 try rw [hW3]
 refine (right_is a b c _).mono ?_
 rintro e w1 ⟨rfl,hb1⟩
 clear hW3
 have T0:Two w.heap.size a b c x y z W3:=⟨d0,d1,d2,d3,d4,d5⟩
 by_cases h0:rOk a b c=true
 ·rw [h0]
  obtain ⟨e0,e1,e2,e3,e4,e5⟩:=T0.later hb1 (by have:=hz.out;omega)
  go_wp2_with fail
  refine (right_is x y z _).mono ?_
  rintro e w2 ⟨rfl,hb2⟩
  have B2:=hb1.trans (hb2.mono hb1.size)
  clear e0 e1 e2 e3 e4 e5 hb1 hb2
  by_cases h1:rOk x y z=true
  ·rw [h1]
   obtain ⟨e0,e1,e2,e3,e4,e5⟩:=T0.later B2 (by have:=hz.out;omega)
   go_wp2_with fail
   refine (meet_is a b c x y z _).mono ?_
   rintro e w3 ⟨rfl,hb3⟩
   have B3:=B2.trans (hb3.mono B2.size)
   clear e0 e1 e2 e3 e4 e5 B2 hb3 d0 d1 d2 d3 d4 d5 T0
   obtain ⟨⟨v0,o0⟩,⟨v1,o1⟩,⟨v2,o2⟩,f0,f1,f2⟩:=O0.later B3 (by have:=hz.out;omega)
   have F:=FIN.out (.int .i64 (andI a x)) (.int .i64 (andI b y)) (.int .i64 (min c z)) B3
   clear FIN
   generalize hv0:(min c z)=mz
   rw [hv0] at F
   go_wp2
   exact bodyPost_ret (res_three rfl _ _ (w.heap.size + 1 + 1) _ _ _ rfl F.2.1 F.2.2.1 F.2.2.2) rfl ⟨by simp [mA,mB,mC,h0,h1,hv0],F.1⟩
  ·rw [Bool.not_eq_true] at h1
   rw [h1]
   clear d0 d1 d2 d3 d4 d5 T0
   obtain ⟨⟨v0,o0⟩,⟨v1,o1⟩,⟨v2,o2⟩,f0,f1,f2⟩:=O0.later B2 (by have:=hz.out;omega)
   have F:=FIN.out (.int .i64 0) (.int .i64 0) (.int .i64 0) B2
   clear FIN
   go_wp2
   exact bodyPost_ret (res_three rfl _ _ (w.heap.size + 1 + 1) _ _ _ rfl F.2.1 F.2.2.1 F.2.2.2) rfl ⟨by simp [mA,mB,mC,h0,h1],F.1⟩
 ·rw [Bool.not_eq_true] at h0
  rw [h0]
  clear d0 d1 d2 d3 d4 d5 T0
  obtain ⟨⟨v0,o0⟩,⟨v1,o1⟩,⟨v2,o2⟩,f0,f1,f2⟩:=O0.later hb1 (by have:=hz.out;omega)
  have F:=FIN.out (.int .i64 0) (.int .i64 0) (.int .i64 0) hb1
  clear FIN
  go_wp2
  exact bodyPost_ret (res_three rfl _ _ (w.heap.size + 1 + 1) _ _ _ rfl F.2.1 F.2.2.1 F.2.2.2) rfl ⟨by simp [mA,mB,mC,h0],F.1⟩
set_option maxRecDepth 100000 in
set_option maxHeartbeats 1600000 in
theorem specMeet_is (a b c x y z:Int) (w:World):Calls Tryz.prog 78 #[rv a b c,rv x y z] w fun e w'=>e=.returned (rv (mA a b c x y z) (mB a b c x y z) (mC a b c x y z))∧Below w.heap.size w w':=by
 obtain ⟨W3,hW3⟩:∃ W3,((w.alloc (.cells #[.int .i64 a,.int .i64 b,.int .i64 c] 31)).alloc (.cells #[.int .i64 x,.int .i64 y,.int .i64 z] 31)).alloc (.cells #[.int .i64 0,.int .i64 0,.int .i64 0] 31)=W3:=⟨_,rfl⟩
 have hb0:Below w.heap.size w W3:=by rw [← hW3];exact (((Below.refl _ _).alloc (Nat.le_refl _) _).alloc (by simp) _).alloc (by simp;omega) _
 have hz:Hid (W3.heap.size=w.heap.size + 3):=by show W3.heap.size=w.heap.size + 3;rw [← hW3];simp
 have T0:Two w.heap.size a b c x y z W3:=by rw [← hW3];constructor <;> simp [go_sem]
 have O0:Out3 (w.heap.size + 1 + 1) W3:=by rw [← hW3];constructor <;> simp [go_sem]
 have fin:∀ {wl:World} (p q r:Value),Below W3.heap.size W3 wl→Below w.heap.size w (set3 wl (w.heap.size + 1 + 1) p q r)∧(set3 wl (w.heap.size + 1 + 1) p q r).cell? ⟨w.heap.size + 1 + 1,0,none⟩=some p∧(set3 wl (w.heap.size + 1 + 1) p q r).cell? ⟨w.heap.size + 1 + 1,1,none⟩=some q∧(set3 wl (w.heap.size + 1 + 1) p q r).cell? ⟨w.heap.size + 1 + 1,2,none⟩=some r:=by
  intro wl p q r hb
  obtain ⟨⟨v0,h0⟩,⟨v1,h1⟩,⟨v2,h2⟩,_,_,_⟩:=O0.later hb (by have:=hz.out;omega)
  exact ⟨set3_below (hb0.trans (hb.mono hb0.size)) (by omega) _ _ _,set3_0 _ _ _ h0,set3_1 _ _ _ h1,set3_2 _ _ _ h2⟩
 have FIN:Hid (∀ {wl:World} (p q r:Value),Below W3.heap.size W3 wl→Below w.heap.size w (set3 wl (w.heap.size + 1 + 1) p q r)∧(set3 wl (w.heap.size + 1 + 1) p q r).cell? ⟨w.heap.size + 1 + 1,0,none⟩=some p∧(set3 wl (w.heap.size + 1 + 1) p q r).cell? ⟨w.heap.size + 1 + 1,1,none⟩=some q∧(set3 wl (w.heap.size + 1 + 1) p q r).cell? ⟨w.heap.size + 1 + 1,2,none⟩=some r):=fin
 clear fin
 obtain ⟨d0,d1,d2,d3,d4,d5⟩:=T0
 go_enter Tryz.func78,Tryz.ntmps78
 go_wp2_with fail
 try rw [hW3]
 refine (specOk_is a b c _).mono ?_
 rintro e w1 ⟨rfl,hb1⟩
 clear hW3
 have T0:Two w.heap.size a b c x y z W3:=⟨d0,d1,d2,d3,d4,d5⟩
 by_cases h0:rOk a b c=true
 ·rw [h0]
  obtain ⟨e0,e1,e2,e3,e4,e5⟩:=T0.later hb1 (by have:=hz.out;omega)
  go_wp2_with fail
  refine (specOk_is x y z _).mono ?_
  rintro e w2 ⟨rfl,hb2⟩
  have B2:=hb1.trans (hb2.mono hb1.size)
  clear e0 e1 e2 e3 e4 e5 hb1 hb2
  by_cases h1:rOk x y z=true
  ·rw [h1]
   obtain ⟨W5,hW5⟩:∃ W5,w2.alloc (.cells #[.int .i64 (bits .and .i64 a x),.int .i64 (bits .and .i64 b y),.int .i64 (min c z)] 31)=W5:=⟨_,rfl⟩
   have B5:Below W3.heap.size W3 W5:=by rw [← hW5];exact B2.alloc B2.size _
   obtain ⟨e0,e1,e2,e3,e4,e5⟩:=T0.later B2 (by have:=hz.out;omega)
   have LL:w.heap.size + 1 + 1 < w2.heap.size:=by have:=hz.out;have:=B2.size;omega
   have L1:w.heap.size + 1 < w2.heap.size:=by omega
   have L0:w.heap.size < w2.heap.size:=by omega
   have N2:¬ w.heap.size + 1 + 1=w2.heap.size:=by omega
   have N1:¬ w.heap.size + 1=w2.heap.size:=by omega
   have N0:¬ w.heap.size=w2.heap.size:=by omega
   have y5:=(((Below.refl w2.heap.size w2).alloc (Nat.le_refl _) (.cells #[.int .i64 (bits .and .i64 a x),.int .i64 (bits .and .i64 b y),.int .i64 c] 31)).cell (p:=⟨w.heap.size + 1,2,none⟩) L1).trans (T0.later B2 (by have:=hz.out;omega)).z
   obtain ⟨⟨v0,o0⟩,⟨v1,o1⟩,⟨v2,o2⟩,f0,f1,f2⟩:=O0.later B2 (by have:=hz.out;omega)
   have F:=FIN.out (.int .i64 (bits .and .i64 a x)) (.int .i64 (bits .and .i64 b y)) (.int .i64 (min c z)) B2
   have G:=set3_more F (show w.heap.size + 1 + 1 < w2.heap.size from LL) (by omega) (.cells #[.int .i64 (bits .and .i64 a x),.int .i64 (bits .and .i64 b y),.int .i64 (min c z)] 31)
   clear FIN d0 d1 d2 d3 d4 d5 T0 F hW5 B5
   by_cases hlt:z < c
   ·have hm:min c z=z:=Int.min_eq_right (by omega)
    rw [hm] at G
    have GH:=show Hid _ from G
    clear G
    go_wp2
    have G:=GH.out
    exact bodyPost_ret (res_three rfl _ _ (w.heap.size + 1 + 1) _ _ _ rfl G.2.1 G.2.2.1 G.2.2.2) rfl ⟨by simp [mA,mB,mC,h0,h1,hm,andI],G.1⟩
   ·have hm:min c z=c:=Int.min_eq_left (by omega)
    rw [hm] at G
    have GH:=show Hid _ from G
    clear G
    go_wp2
    have G:=GH.out
    exact bodyPost_ret (res_three rfl _ _ (w.heap.size + 1 + 1) _ _ _ rfl G.2.1 G.2.2.1 G.2.2.2) rfl ⟨by simp [mA,mB,mC,h0,h1,hm,andI],G.1⟩
  ·rw [Bool.not_eq_true] at h1
   rw [h1]
   clear d0 d1 d2 d3 d4 d5 T0
   obtain ⟨⟨v0,o0⟩,⟨v1,o1⟩,⟨v2,o2⟩,f0,f1,f2⟩:=O0.later B2 (by have:=hz.out;omega)
   have F:=FIN.out (.int .i64 0) (.int .i64 0) (.int .i64 0) B2
   clear FIN
   go_wp2
   exact bodyPost_ret (res_three rfl _ _ (w.heap.size + 1 + 1) _ _ _ rfl F.2.1 F.2.2.1 F.2.2.2) rfl ⟨by simp [mA,mB,mC,h0,h1],F.1⟩
 ·rw [Bool.not_eq_true] at h0
  rw [h0]
  clear d0 d1 d2 d3 d4 d5 T0
  obtain ⟨⟨v0,o0⟩,⟨v1,o1⟩,⟨v2,o2⟩,f0,f1,f2⟩:=O0.later hb1 (by have:=hz.out;omega)
  have F:=FIN.out (.int .i64 0) (.int .i64 0) (.int .i64 0) hb1
  clear FIN
  go_wp2
  exact bodyPost_ret (res_three rfl _ _ (w.heap.size + 1 + 1) _ _ _ rfl F.2.1 F.2.2.1 F.2.2.2) rfl ⟨by simp [mA,mB,mC,h0],F.1⟩
end Go.Proofs.YtcaieniddnhkbaaGreatDoor
