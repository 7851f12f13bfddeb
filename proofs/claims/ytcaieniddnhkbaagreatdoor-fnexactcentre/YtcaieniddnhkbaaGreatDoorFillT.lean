/- Tickets: what a text is filled in as. -/
import Derived.Test.YtcaieniddnhkbaaGreatDoorAb
import Derived.Lib.SmallJoins
import Derived.Test.YtcaieniddnhkbaaGreatDoorFar
import Derived.Test.YtcaieniddnhkbaaGreatDoorReg
import Derived.Test.YtcaieniddnhkbaaGreatDoorShG
set_option linter.unusedVariables false
namespace Go.Proofs.YtcaieniddnhkbaaGreatDoor
open Go Go.RowKit Go.Joins Own Var Term
theorem own_set {w:World} {base n:Nat} {e:TypeId} {v:Value} {xs:List Value} (h:w.ownsRow base e 1 v n xs) (q i:Nat) (u:Value) (hn:∀ k,v.ownBlock=some k→k≠q):(w.setCell ⟨q,i,none⟩ u).ownsRow base e 1 v n xs:=by
 refine ⟨h.1,?_⟩
 rcases h.2 with h0 | ⟨g,cap,cur,e1,e2,e3,e4⟩
 ·exact Or.inl h0
 ·refine Or.inr ⟨g,cap,cur,e1,e2,?_,e4⟩
  have:g≠q:=hn g (by rw [e1];rfl)
  rw [Below.heap_setCell _ _ _ _ (by first | exact this | exact fun h=>this h.symm | omega)]
  exact e3
theorem own_in {w:World} {base n:Nat} {e:TypeId} {v:Value} {xs:List Value} (h:w.ownsRow base e 1 v n xs):∀ k,v.ownBlock=some k→base≤k∧k < w.heap.size:=by
 intro k hk
 rcases h.2 with ⟨h0,_⟩ | ⟨g,cap,cur,e1,e2,e3,e4⟩
 ·rw [h0] at hk;cases hk
 ·subst e1
  simp only [Value.ownBlock,Option.some.injEq] at hk
  subst hk
  exact ⟨e2,(h.lt g rfl).2⟩
def Apart (u v:Value):Prop:=∀ k,u.ownBlock=some k→v.ownBlock≠some k
theorem apart_of {u v:Value} {m:Nat} (hu:∀ k,u.ownBlock=some k→k < m) (hv:∀ k,v.ownBlock=some k→m≤k):Apart u v:=by
 intro k h1 h2
 have:=hu k h1
 have:=hv k h2
 omega
theorem apart_nil (v:Value):Apart (.slice none 0 0) v:=by intro k h;cases h
set_option maxRecDepth 100000 in
set_option maxHeartbeats 12800000 in
theorem fillT_is (p:Nat) (c0 s0 k0 a0 b0 e0 key:Int) (s:ByteArray) (w:World) (hT:Blk p [I c0,I s0,I k0,I a0,I b0,I e0,.slice none 0 0,.slice none 0 0,I key] w) (hp:p < w.heap.size) (hs:s.size≤1048576)
  (x0 x1 x2 x3 x4:ByteArray) (hx:just (⟨#[]⟩:ByteArray) (partsR (openR s key).1).1 5=[x0,x1,x2,x3,x4]) (c sv:Int) (hw:just 0 (numsR x0).1 2=[c,sv]) :
  Calls Tryz.prog 181 #[.pointer (some ⟨p,0,none⟩),.string s] w fun en w'=>∃ (ua:Option Addr) (uc:Nat) (va:Option Addr) (vc:Nat),en=.returned (.tuple #[]) ∧
   Blk p [I c,I sv,I (keyR x1).1,I (rdA (numsR x2).1),I (rdB (numsR x2).1),I (rdC (numsR x2).1),.slice ua (numsR x3).1.length uc,.slice va (numsR x4).1.length vc,I key] w' ∧
   w'.ownsRow w.heap.size 3 1 (.slice ua (numsR x3).1.length uc) (numsR x3).1.length (intV (numsR x3).1)∧w'.ownsRow w.heap.size 3 1 (.slice va (numsR x4).1.length vc) (numsR x4).1.length (intV (numsR x4).1) ∧
   Apart (.slice ua (numsR x3).1.length uc) (.slice va (numsR x4).1.length vc)∧Below p w w':=by
 have hz:=just_size (openR s key).1 5
 rw [hx] at hz
 have z0:x0.size≤1048576:=Nat.le_trans (hz x0 (by simp)) (by omega)
 have z1:x1.size≤1048576:=Nat.le_trans (hz x1 (by simp)) (by omega)
 have z2:x2.size≤1048576:=Nat.le_trans (hz x2 (by simp)) (by omega)
 have z3:x3.size≤1048576:=Nat.le_trans (hz x3 (by simp)) (by omega)
 have z4:x4.size≤1048576:=Nat.le_trans (hz x4 (by simp)) (by omega)
 clear hz
 have d0:=hT.at 0 rfl
 have d1:=hT.at 1 rfl
 have d2:=hT.at 2 rfl
 have d3:=hT.at 3 rfl
 have d4:=hT.at 4 rfl
 have d5:=hT.at 5 rfl
 have d6:=hT.at 6 rfl
 have d7:=hT.at 7 rfl
 have d8:=hT.at 8 rfl
 have HP:Hid (p < w.heap.size):=hp
 clear hp
 have HK:=fun w=>impl_readKey x1 w z1
 have HR:=fun w=>implRead_is x2 w z2
 have H3:=fun w=>impl_readNums x3 w z3
 have H4:=fun w=>impl_readNums x4 w z4
 generalize (keyR x1).1=kv at HK ⊢
 generalize (keyR x1).2=kb at HK
 generalize rdA (numsR x2).1=ra at HR ⊢
 generalize rdB (numsR x2).1=rb at HR ⊢
 generalize rdC (numsR x2).1=rc at HR ⊢
 generalize rdK (numsR x2).1=rk at HR
 generalize (numsR x3).1=PL at H3 ⊢
 generalize (numsR x3).2=pb at H3
 generalize (numsR x4).1=VL at H4 ⊢
 generalize (numsR x4).2=vb at H4
 clear z1 z2 z3 z4
 go_enter Tryz.func181,Tryz.ntmps181
 go_wp2_with fail
 refine (openT_is c0 s0 k0 a0 b0 e0 none 0 0 none 0 0 key s _ hs).mono ?_
 rintro en w1 ⟨rfl,hb1⟩
 have T1:=hT.later hb1 HP.out
 have P1:Hid (p < w1.heap.size):=Nat.lt_of_lt_of_le HP.out hb1.size
 have B1:Below p w w1:=hb1.mono (Nat.le_of_lt HP.out)
 have M1:w.heap.size≤w1.heap.size:=hb1.size
 clear hT hb1 d0 d1 d2 d3 d4 d5 d6 d7 d8
 have HN:=partsOf_is (openR s key).1 5 w1 (Nat.le_trans (openR_size s key) (by omega)) (by omega)
 rw [hx] at HN
 go_wp2_with fail
 refine HN.mono ?_
 rintro en w2 ⟨u,rfl,ho,hb2⟩
 clear HN
 obtain ⟨gp,capp,rfl,hcap,hg,hlt,X2⟩:=own_blk (f:=Value.string) (xs:=[x0,x1,x2,x3,x4]) ho (by omega)
 have T2:=T1.later hb2 P1.out
 have P2:Hid (p < w2.heap.size):=Nat.lt_of_lt_of_le P1.out hb2.size
 have B2:Below p w w2:=B1.trans (hb2.mono (Nat.le_of_lt P1.out))
 have M2:w.heap.size≤w2.heap.size:=Nat.le_trans M1 hb2.size
 have hgp:p≠gp:=by have:=P1.out;omega
 have hc5:(5:Int)≤(capp:Int):=by omega
 have X2':Blk gp [.string x0,.string x1,.string x2,.string x3,.string x4] w2:=X2
 clear T1 B1 hb2 ho P1 hg X2 hcap M1
 have q0:=X2'.at 0 rfl
 have HN:=numbersOf_is x0 2 w2 z0 (by omega)
 rw [hw] at HN
 go_wp2_with fail
 refine HN.mono ?_
 rintro en w3 ⟨u,rfl,ho,hb3⟩
 clear HN q0 z0
 obtain ⟨g5,cap5,rfl,hcap,hg,hlt5,Q3⟩:=own_blk (f:=Value.int .i64) (xs:=[c,sv]) ho (by omega)
 have T5:=T2.later hb3 P2.out
 have X5:=X2'.later hb3 hlt
 have hp5:p < w3.heap.size:=Nat.lt_of_lt_of_le P2.out hb3.size
 have B5:Below p w w3:=B2.trans (hb3.mono (Nat.le_of_lt P2.out))
 have M5:w.heap.size≤w3.heap.size:=Nat.le_trans M2 hb3.size
 have hlt5':gp < w3.heap.size:=Nat.lt_of_lt_of_le hlt hb3.size
 have hg5:p≠g5:=by have:=P2.out;omega
 have hc2:(2:Int)≤(cap5:Int):=by omega
 have Q5:Blk g5 [I c,I sv] w3:=Q3
 clear T2 B2 hb3 ho P2 hg X2' Q3 hcap hlt M2 hlt5
 go_wp2_with fail
 obtain ⟨V6,hV6⟩:∃ V,w3.drew.setCell ⟨p,0,none⟩ (I c)=V:=⟨_,rfl⟩
 have T6:Blk p [I c,I s0,I k0,I a0,I b0,I e0,.slice none 0 0,.slice none 0 0,I key] V6:=by rw [← hV6];exact T5.drew.set 0 _
 have Q6:Blk g5 [I c,I sv] V6:=by rw [← hV6];exact Q5.drew.far hg5 0 _
 have X6:Blk gp [.string x0,.string x1,.string x2,.string x3,.string x4] V6:=by rw [← hV6];exact X5.drew.far hgp 0 _
 have B6:Below p w V6:=by rw [← hV6];exact B5.drew.setCell (by dsimp only;omega) _
 have hp6:p < V6.heap.size:=by rw [← hV6];simpa using hp5
 have hlt6:gp < V6.heap.size:=by rw [← hV6];simpa using hlt5'
 have M6:w.heap.size≤V6.heap.size:=by rw [← hV6];simpa using M5
 obtain ⟨V7,hV7⟩:∃ V,V6.setCell ⟨p,1,none⟩ (I sv)=V:=⟨_,rfl⟩
 have T7:Blk p [I c,I sv,I k0,I a0,I b0,I e0,.slice none 0 0,.slice none 0 0,I key] V7:=by rw [← hV7];exact T6.set 1 _
 have Q7:Blk g5 [I c,I sv] V7:=by rw [← hV7];exact Q6.far hg5 1 _
 have X7:Blk gp [.string x0,.string x1,.string x2,.string x3,.string x4] V7:=by rw [← hV7];exact X6.far hgp 1 _
 have B7:Below p w V7:=by rw [← hV7];exact B6.setCell (by dsimp only;omega) _
 have hp7:p < V7.heap.size:=by rw [← hV7];simpa using hp6
 have hlt7:gp < V7.heap.size:=by rw [← hV7];simpa using hlt6
 have M7:w.heap.size≤V7.heap.size:=by rw [← hV7];simpa using M6
 have k0:=T5.at 0 rfl
 have f0:=T5.fz 0 rfl
 have k1:=T6.at 1 rfl
 have f1:=T6.fz 1 rfl
 refine wp_region_held_drew (S:=(fun Vw=>Blk g5 [I c,I sv] Vw)) (by kernel_rfl) Q5.drew (fun hH=>?_)
 refine tk 0 17 rfl _ hH (by intro w' h;have d0:=h.e2;go_simp;try with_reducible rfl) ?_
 try simp only [Act.put,pa,pb,pc]
 refine tk 1 18 rfl _ hH (by intro w' h;have d0:=h.e2;go_simp;try with_reducible rfl) ?_
 try simp only [Act.put,pa,pb,pc]
 refine tk 2 19 rfl _ hH (by intro w' h;have d0:=h.e2;go_simp;try with_reducible rfl) ?_
 try simp only [Act.put,pa,pb,pc]
 refine tk 3 20 rfl _ hH (by intro w' h;have d0:=h.e2;go_simp;try with_reducible rfl) ?_
 try simp only [Act.put,pa,pb,pc]
 refine tk 4 21 rfl _ hH (by intro w' h;have d0:=h.e2;go_simp;try with_reducible rfl) ?_
 try simp only [Act.put,pa,pb,pc]
 refine tk 5 22 rfl _ hH (by intro w' h;have d0:=h.e2;go_simp;try with_reducible rfl) ?_
 try simp only [Act.put,pa,pb,pc]
 refine tk 6 23 rfl _ hH (by intro w' h;have d0:=h.e2;go_simp;try with_reducible rfl) ?_
 try simp only [Act.put,pa,pb,pc]
 refine tk 7 24 rfl _ hH (by intro w' h;have d0:=h.e2;go_simp;try with_reducible rfl) ?_
 try simp only [Act.put,pa,pb,pc]
 refine tk 8 25 rfl _ hH (by intro w' h;have d0:=h.e2;go_simp;try with_reducible rfl) ?_
 try simp only [Act.put,pa,pb,pc]
 refine tk 9 26 rfl _ hH (by intro w' h;have d0:=h.e2;go_simp;try with_reducible rfl) ?_
 try simp only [Act.put,pa,pb,pc]
 refine tk 10 27 rfl _ hH (by intro w' h;have d0:=h.e2;go_simp;try with_reducible rfl) ?_
 try simp only [Act.put,pa,pb,pc]
 refine tk 11 28 rfl _ hH (by intro w' h;have d0:=h.e2;go_simp;try with_reducible rfl) ?_
 try simp only [Act.put,pa,pb,pc]
 refine wpAnyH_ready (rs:=[12]) (by kernel_rfl) (by simp) ?_
 refine AllReadyH.cons (i:=12) rfl (fun K hK=>?_) AllReadyH.nil
 go_simp
 refine hK.out _ _ Q6 (fun hJ=>?_)
 clear hK K hH
 have hH:=hJ
 clear hJ
 try simp only [Act.put,pa,pb,pc]
 refine tk 13 29 rfl _ hH (by intro w' h;have d0:=h.e2;go_simp;try with_reducible rfl) ?_
 try simp only [Act.put,pa,pb,pc]
 refine tk 14 30 rfl _ hH (by intro w' h;have d0:=h.e2;go_simp;try with_reducible rfl) ?_
 try simp only [Act.put,pa,pb,pc]
 refine tk 15 31 rfl _ hH (by intro w' h;have d0:=h.e2;go_simp;try with_reducible rfl) ?_
 try simp only [Act.put,pa,pb,pc]
 refine tk 16 32 rfl _ hH (by intro w' h;have d0:=h.e2;go_simp;try with_reducible rfl) ?_
 try simp only [Act.put,pa,pb,pc]
 refine wpAnyH_ready (rs:=[17]) (by kernel_rfl) (by simp) ?_
 refine AllReadyH.cons (i:=17) rfl (fun K hK=>?_) AllReadyH.nil
 go_simp
 refine hK.out _ _ Q7 (fun hJ=>?_)
 clear hK K hH
 have hH:=hJ
 clear hJ
 try simp only [Act.put,pa,pb,pc]
 refine wpAnyH_done (by kernel_rfl) ?_ _
 try rw [hV6]
 try rw [hV7]
 clear hH k0 f0 k1 f1 hV6 hV7 T5 T6 Q5 Q6 Q7 X5 X6 B5 B6 hp5 hp6 hlt5' hlt6 M5 M6
 have q0:=X7.at 1 rfl
 go_wp2_with fail
 refine (HK _).mono ?_
 rintro en w8 ⟨rfl,hb8⟩
 have T8:=T7.later hb8 hp7
 have X8:=X7.later hb8 hlt7
 have B8:Below p w w8:=B7.trans (hb8.mono (Nat.le_of_lt hp7))
 have hp8:p < w8.heap.size:=Nat.lt_of_lt_of_le hp7 hb8.size
 have hlt8:gp < w8.heap.size:=Nat.lt_of_lt_of_le hlt7 hb8.size
 have M8:w.heap.size≤w8.heap.size:=Nat.le_trans M7 hb8.size
 clear T7 X7 B7 hb8 hp7 hlt7 M7 q0 HK
 obtain ⟨V9,hV9⟩:∃ V,w8.setCell ⟨p,2,none⟩ (I kv)=V:=⟨_,rfl⟩
 have T9:Blk p [I c,I sv,I kv,I a0,I b0,I e0,.slice none 0 0,.slice none 0 0,I key] V9:=by rw [← hV9];exact T8.set 2 _
 have X9:Blk gp [.string x0,.string x1,.string x2,.string x3,.string x4] V9:=by rw [← hV9];exact X8.far hgp 2 _
 have B9:Below p w V9:=by rw [← hV9];exact B8.setCell (by dsimp only;omega) _
 have hp9:p < V9.heap.size:=by rw [← hV9];simpa using hp8
 have hlt9:gp < V9.heap.size:=by rw [← hV9];simpa using hlt8
 have M9:w.heap.size≤V9.heap.size:=by rw [← hV9];simpa using M8
 have k2:=T8.at 2 rfl
 have f2:=T8.fz 2 rfl
 have q0:=X9.at 2 rfl
 go_wp2_with fail
 try rw [hV9]
 refine (HR _).mono ?_
 clear k2 f2 q0 hV9 T8 X8 B8 hp8 hlt8 M8
 rintro en w10 ⟨rfl,hb10⟩
 have T10:=T9.later hb10 hp9
 have X10:=X9.later hb10 hlt9
 have B10:Below p w w10:=B9.trans (hb10.mono (Nat.le_of_lt hp9))
 have hp10:p < w10.heap.size:=Nat.lt_of_lt_of_le hp9 hb10.size
 have hlt10:gp < w10.heap.size:=Nat.lt_of_lt_of_le hlt9 hb10.size
 have M10:w.heap.size≤w10.heap.size:=Nat.le_trans M9 hb10.size
 clear T9 X9 B9 hb10 hp9 hlt9 M9 HR
 obtain ⟨V11,hV11⟩:∃ V,(((w10).setCell ⟨p,3,none⟩ (I ra)).setCell ⟨p,4,none⟩ (I rb)).setCell ⟨p,5,none⟩ (I rc)=V:=⟨_,rfl⟩
 have T11:Blk p [I c,I sv,I kv,I ra,I rb,I rc,.slice none 0 0,.slice none 0 0,I key] V11:=by rw [← hV11];exact ((T10.set 3 _).set 4 _).set 5 _
 have X11:Blk gp [.string x0,.string x1,.string x2,.string x3,.string x4] V11:=by rw [← hV11];exact ((X10.far hgp 3 _).far hgp 4 _).far hgp 5 _
 have B11:Below p w V11:=by rw [← hV11];exact (((B10.setCell (by dsimp only;omega) _).setCell (by dsimp only;omega) _).setCell (by dsimp only;omega) _)
 have hp11:p < V11.heap.size:=by rw [← hV11];simpa using hp10
 have hlt11:gp < V11.heap.size:=by rw [← hV11];simpa using hlt10
 have M11:w.heap.size≤V11.heap.size:=by rw [← hV11];simpa using M10
 have k3:=T10.at 3 rfl
 have f3:=T10.fz 3 rfl
 have k4:=T10.at 4 rfl
 have f4:=T10.fz 4 rfl
 have k5:=T10.at 5 rfl
 have f5:=T10.fz 5 rfl
 have q0:=X11.at 3 rfl
 go_wp2_with fail
 try rw [hV11]
 refine (H3 _).mono ?_
 clear k3 f3 k4 f4 k5 f5 q0 hV11 T10 X10 B10 hp10 hlt10 M10
 rintro en w12 ⟨u,rfl,ou,hb12⟩
 obtain ⟨ua,uc,rfl,_,_⟩:=own_row (f:=Value.int .i64) ou
 have iu:=own_in ou
 have T12:=T11.later hb12 hp11
 have X12:=X11.later hb12 hlt11
 have B12:Below p w w12:=B11.trans (hb12.mono (Nat.le_of_lt hp11))
 have hp12:p < w12.heap.size:=Nat.lt_of_lt_of_le hp11 hb12.size
 have hlt12:gp < w12.heap.size:=Nat.lt_of_lt_of_le hlt11 hb12.size
 have M12:w.heap.size≤w12.heap.size:=Nat.le_trans M11 hb12.size
 have ou':=ownsRow_le ou M11
 have nu:∀ k,(.slice ua PL.length uc:Value).ownBlock=some k→k≠p:=fun k h=>by have:=(iu k h).1;omega
 have lu:∀ k,(.slice ua PL.length uc:Value).ownBlock=some k→k < w12.heap.size:=fun k h=>(iu k h).2
 clear T11 X11 B11 hb12 hp11 hlt11 M11 H3 ou iu
 obtain ⟨V13,hV13⟩:∃ V,w12.setCell ⟨p,6,none⟩ (.slice ua PL.length uc)=V:=⟨_,rfl⟩
 have T13:Blk p [I c,I sv,I kv,I ra,I rb,I rc,.slice ua PL.length uc,.slice none 0 0,I key] V13:=by rw [← hV13];exact T12.set 6 _
 have X13:Blk gp [.string x0,.string x1,.string x2,.string x3,.string x4] V13:=by rw [← hV13];exact X12.far hgp 6 _
 have B13:Below p w V13:=by rw [← hV13];exact B12.setCell (by dsimp only;omega) _
 have hp13:p < V13.heap.size:=by rw [← hV13];simpa using hp12
 have M13:w.heap.size≤V13.heap.size:=by rw [← hV13];simpa using M12
 have O13:V13.ownsRow w.heap.size 3 1 (.slice ua PL.length uc) PL.length (intV PL):=by rw [← hV13];exact own_set ou' p 6 _ nu
 have l13:∀ k,(.slice ua PL.length uc:Value).ownBlock=some k→k < V13.heap.size:=by rw [← hV13];simpa using lu
 have k6:=T12.at 6 rfl
 have f6:=T12.fz 6 rfl
 have q0:=X13.at 4 rfl
 clear lu M12
 go_wp2_with fail
 try rw [hV13]
 refine (H4 _).mono ?_
 clear k6 f6 q0 hV13 T12 X12 B12 hp12 hlt12 ou'
 rintro en w14 ⟨u,rfl,ov,hb14⟩
 obtain ⟨va,vc,rfl,_,_⟩:=own_row (f:=Value.int .i64) ov
 have iv:=own_in ov
 have T14:=T13.later hb14 hp13
 have O14:=own_later O13 hb14
 have B14:Below p w w14:=B13.trans (hb14.mono (Nat.le_of_lt hp13))
 have ov':=ownsRow_le ov M13
 have nv:∀ k,(.slice va VL.length vc:Value).ownBlock=some k→k≠p:=fun k h=>by have:=(iv k h).1;omega
 have AP:Apart (.slice ua PL.length uc) (.slice va VL.length vc):=apart_of l13 (fun k h=>(iv k h).1)
 have F:=show Hid _ from (show Blk p [I c,I sv,I kv,I ra,I rb,I rc,.slice ua PL.length uc,.slice va VL.length vc,I key] (w14.setCell ⟨p,7,none⟩ (.slice va VL.length vc))∧(w14.setCell ⟨p,7,none⟩ (.slice va VL.length vc)).ownsRow w.heap.size 3 1 (.slice ua PL.length uc) PL.length (intV PL)∧(w14.setCell ⟨p,7,none⟩ (.slice va VL.length vc)).ownsRow w.heap.size 3 1 (.slice va VL.length vc) VL.length (intV VL)∧Apart (.slice ua PL.length uc) (.slice va VL.length vc)∧Below p w (w14.setCell ⟨p,7,none⟩ (.slice va VL.length vc)) from
  ⟨T14.set 7 _,own_set O14 p 7 _ nu,own_set ov' p 7 _ nv,AP,B14.setCell (by dsimp only;omega) _⟩)
 have k7:=T14.at 7 rfl
 have f7:=T14.fz 7 rfl
 clear T13 X13 B13 hp13 M13 O13 l13 hb14 T14 O14 B14 ov' nv AP iv ov nu H4
 go_wp2
 first | exact ⟨_,results_none rfl _ _ _,ua,uc,va,vc,rfl,F.out⟩ | exact ⟨rfl,_,results_none rfl _ _ _,ua,uc,va,vc,rfl,F.out⟩
end Go.Proofs.YtcaieniddnhkbaaGreatDoor
namespace Go.Proofs.YtcaieniddnhkbaaGreatDoor
open Go Go.RowKit Own Var Term
set_option maxRecDepth 100000 in
set_option maxHeartbeats 12800000 in
theorem showT_is (c s k a b e:Int) (pa:Option Addr) (P:List Int) (pc:Nat) (va:Option Addr) (V:List Int) (vc:Nat) (key:Int) (w:World) (hs:i64 s) (hp:RowAt (Value.int .i64) w pa P) (hv:RowAt (Value.int .i64) w va V) (hpl:P.length≤1048576) (hvl:V.length≤1048576):Calls Tryz.prog 135 #[.agg #[I c,I s,I k,I a,I b,I e,.slice pa P.length pc,.slice va V.length vc,I key]] w fun en w'=>en=.returned (.string (shT c s k a b e P V key))∧Below w.heap.size w w':=by
 obtain ⟨W2,hW2⟩:∃ W2,(w.alloc (.cells #[I c,I s,I k,I a,I b,I e,.slice pa P.length pc,.slice va V.length vc,I key] 196)).alloc (.cells #[I c,I s,I k,I a,I b,I e,.slice pa P.length pc,.slice va V.length vc] 43)=W2:=⟨_,rfl⟩
 have B2:Below w.heap.size w W2:=by rw [← hW2];exact ((Below.refl _ _).alloc (Nat.le_refl _) _).alloc (by simp) _
 have T2:Blk w.heap.size [I c,I s,I k,I a,I b,I e,.slice pa P.length pc,.slice va V.length vc,I key] W2:=by rw [← hW2];exact (Blk.new w #[I c,I s,I k,I a,I b,I e,.slice pa P.length pc,.slice va V.length vc,I key] _).alloc (by simp) _
 have U2:Blk (w.heap.size + 1) [I c,I s,I k,I a,I b,I e,.slice pa P.length pc,.slice va V.length vc] W2:=by rw [← hW2];have:=Blk.new (w.alloc (.cells #[I c,I s,I k,I a,I b,I e,.slice pa P.length pc,.slice va V.length vc,I key] 196)) #[I c,I s,I k,I a,I b,I e,.slice pa P.length pc,.slice va V.length vc] 43;simpa using this
 have Z2:Hid (w.heap.size + 2≤W2.heap.size):=by show _≤_;rw [← hW2];simp
 have e0:=U2.at 0 rfl
 have e1:=U2.at 1 rfl
 have e2:=U2.at 2 rfl
 have e3:=U2.at 3 rfl
 have e4:=U2.at 4 rfl
 have e5:=U2.at 5 rfl
 have e6:=U2.at 6 rfl
 have e7:=U2.at 7 rfl
 have HP2:=RowAt.later hp B2
 have HV2:=RowAt.later hv B2
 go_enter Tryz.func135,Tryz.ntmps135
 go_wp2_with fail
 try rw [hW2]
 refine (ticketOk_is c s k a b e pa P pc va V vc _ hs HP2 HV2 hpl hvl).mono ?_
 clear hW2
 rintro en w3 ⟨rfl,hb3⟩
 have TC:=T2.later hb3 (by have:=Z2.out;omega)
 have UC:=U2.later hb3 (by have:=Z2.out;omega)
 have ZC:Hid (w.heap.size + 2≤w3.heap.size):=Nat.le_trans Z2.out hb3.size
 have BC:=B2.trans (hb3.mono B2.size)
 have HP:=RowAt.later HP2 hb3
 have HV:=RowAt.later HV2 hb3
 clear T2 U2 Z2 B2 hb3 e0 e1 e2 e3 e4 e5 e6 e7 HP2 HV2
 by_cases h0:tOk c s k a b e P V=true
 ·rw [h0]
  go_wp2_with fail
  have TCD:=TC.drew
  have UCD:=UC.drew
  have BCD:=BC.drew
  have ZCD:Hid (w.heap.size + 2≤w3.drew.heap.size):=ZC
  have HPD:RowAt (Value.int .i64) w3.drew _ _:=HP
  have HVD:RowAt (Value.int .i64) w3.drew _ _:=HV
  clear TC UC BC ZC HP HV
  have TC:=TCD
  have UC:=UCD
  have BC:=BCD
  have ZC:=ZCD
  have HP:=HPD
  have HV:=HVD
  clear TCD UCD BCD ZCD HPD HVD
  refine wp_region_held_drew (S:=(fun Vw=>Blk w.heap.size [I c,I s,I k,I a,I b,I e,.slice pa P.length pc,.slice va V.length vc,I key] Vw∧Blk (w.heap.size + 1) [I c,I s,I k,I a,I b,I e,.slice pa P.length pc,.slice va V.length vc] Vw)) (by kernel_rfl) ⟨TC,UC⟩ (fun hH=>?_)
  refine tk 0 10 rfl _ hH (by intro w' h;have d0:=h.1.e9;have e0:=h.2.e8;go_simp;try with_reducible rfl) ?_
  try simp only [Act.put,pa,pb,pc]
  refine tk 1 11 rfl _ hH (by intro w' h;have d0:=h.1.e9;have e0:=h.2.e8;go_simp;try with_reducible rfl) ?_
  try simp only [Act.put,pa,pb,pc]
  refine tk 2 12 rfl _ hH (by intro w' h;have d0:=h.1.e9;have e0:=h.2.e8;go_simp;try with_reducible rfl) ?_
  try simp only [Act.put,pa,pb,pc]
  refine tk 3 13 rfl _ hH (by intro w' h;have d0:=h.1.e9;have e0:=h.2.e8;go_simp;try with_reducible rfl) ?_
  try simp only [Act.put,pa,pb,pc]
  refine tk 4 14 rfl _ hH (by intro w' h;have d0:=h.1.e9;have e0:=h.2.e8;go_simp;try with_reducible rfl) ?_
  try simp only [Act.put,pa,pb,pc]
  refine tk 5 15 rfl _ hH (by intro w' h;have d0:=h.1.e9;have e0:=h.2.e8;go_simp;try with_reducible rfl) ?_
  try simp only [Act.put,pa,pb,pc]
  refine tk 8 18 rfl _ hH (by intro w' h;have d0:=h.1.e9;have e0:=h.2.e8;go_simp;try with_reducible rfl) ?_
  try simp only [Act.put,pa,pb,pc]
  refine tk 9 19 rfl _ hH (by intro w' h;have d0:=h.1.e9;have e0:=h.2.e8;go_simp;try with_reducible rfl) ?_
  try simp only [Act.put,pa,pb,pc]
  refine tk 11 21 rfl _ hH (by intro w' h;have d0:=h.1.e9;have e0:=h.2.e8;go_simp;try with_reducible rfl) ?_
  try simp only [Act.put,pa,pb,pc]
  refine tk 12 22 rfl _ hH (by intro w' h;have d0:=h.1.e9;have e0:=h.2.e8;go_simp;try with_reducible rfl) ?_
  try simp only [Act.put,pa,pb,pc]
  refine tk 14 24 rfl _ hH (by intro w' h;have d0:=h.1.e9;have e0:=h.2.e8;go_simp;try with_reducible rfl) ?_
  try simp only [Act.put,pa,pb,pc]
  refine tk 15 25 rfl _ hH (by intro w' h;have d0:=h.1.e9;have e0:=h.2.e8;go_simp;try with_reducible rfl) ?_
  try simp only [Act.put,pa,pb,pc]
  refine tk 17 27 rfl _ hH (by intro w' h;have d0:=h.1.e9;have e0:=h.2.e8;go_simp;try with_reducible rfl) ?_
  try simp only [Act.put,pa,pb,pc]
  refine tk 18 28 rfl _ hH (by intro w' h;have d0:=h.1.e9;have e0:=h.2.e8;go_simp;try with_reducible rfl) ?_
  try simp only [Act.put,pa,pb,pc]
  obtain ⟨v1,hv1⟩:∃ v,(w3.drew).alloc (.cells #[I c,I s] 3)=v:=⟨_,rfl⟩
  have XA:Below (w3.drew).heap.size (w3.drew) v1:=by rw [← hv1];exact (Below.refl _ _).alloc (Nat.le_refl _) _
  have TN:=TC.later XA (by have:=ZC.out;omega)
  have UN:=UC.later XA (by have:=ZC.out;omega)
  have ZN:Hid (w.heap.size + 2≤v1.heap.size):=Nat.le_trans ZC.out XA.size
  have BN:=BC.trans (XA.mono BC.size)
  have HPN:=RowAt.later HP XA
  have HVN:=RowAt.later HV XA
  have RAN:RowAt (Value.int .i64) v1 (some ⟨(w3.drew).heap.size,0,none⟩) [c,s]:=by rw [← hv1];exact row_new (Value.int .i64) (w3.drew) [c,s] 3
  refine wpAnyH_ready (rs:=[6]) (by kernel_rfl) (by simp) ?_
  refine AllReadyH.cons (i:=6) rfl (fun K hK=>?_) AllReadyH.nil
  go_simp
  refine hK.out _ _ (by (try rw [hv1]);exact ⟨TN,UN⟩) (fun hJ=>?_)
  clear hK K hH
  have hH:=hJ
  clear hJ
  try simp only [Act.put,pa,pb,pc]
  clear TC UC ZC BC HP HV
  have TC:=TN
  have UC:=UN
  have ZC:=ZN
  have BC:=BN
  have HP:=HPN
  have HV:=HVN
  clear TN UN ZN BN HPN HVN
  have RA:=RAN
  clear RAN XA
  try rw [hv1]
  clear hv1
  refine wpAnyH_ready (rs:=[7]) (by kernel_rfl) (by simp) ?_
  refine AllReadyH.cons (i:=7) rfl (fun K hK=>?_) AllReadyH.nil
  go_simp
  refine (impl_nums _ 2 [c,s] _ RA (by simp)).mono ?_
  rintro en v2 ⟨rfl,hv2⟩
  have TN:=TC.later hv2 (by have:=ZC.out;omega)
  have UN:=UC.later hv2 (by have:=ZC.out;omega)
  have ZN:Hid (w.heap.size + 2≤v2.heap.size):=Nat.le_trans ZC.out hv2.size
  have BN:=BC.trans (hv2.mono BC.size)
  have HPN:=RowAt.later HP hv2
  have HVN:=RowAt.later HV hv2
  have RAN:=RowAt.later RA hv2
  clear TC UC ZC BC HP HV RA
  have TC:=TN
  have UC:=UN
  have ZC:=ZN
  have BC:=BN
  have HP:=HPN
  have HV:=HVN
  have RA:=RAN
  clear TN UN ZN BN HPN HVN RAN
  clear hv2
  go_wp2_with fail
  refine hK.out _ _ ⟨TC,UC⟩ (fun hJ=>?_)
  clear hK K hH
  have hH:=hJ
  clear hJ
  try simp only [Act.put,pa,pb,pc]
  clear RA
  refine wpAnyH_ready (rs:=[10]) (by kernel_rfl) (by simp) ?_
  refine AllReadyH.cons (i:=10) rfl (fun K hK=>?_) AllReadyH.nil
  go_simp
  refine (impl_key k _).mono ?_
  rintro en v3 ⟨rfl,hv3⟩
  have TN:=TC.later hv3 (by have:=ZC.out;omega)
  have UN:=UC.later hv3 (by have:=ZC.out;omega)
  have ZN:Hid (w.heap.size + 2≤v3.heap.size):=Nat.le_trans ZC.out hv3.size
  have BN:=BC.trans (hv3.mono BC.size)
  have HPN:=RowAt.later HP hv3
  have HVN:=RowAt.later HV hv3
  clear TC UC ZC BC HP HV
  have TC:=TN
  have UC:=UN
  have ZC:=ZN
  have BC:=BN
  have HP:=HPN
  have HV:=HVN
  clear TN UN ZN BN HPN HVN
  clear hv3
  go_wp2_with fail
  refine hK.out _ _ ⟨TC,UC⟩ (fun hJ=>?_)
  clear hK K hH
  have hH:=hJ
  clear hJ
  try simp only [Act.put,pa,pb,pc]
  refine wpAnyH_ready (rs:=[13]) (by kernel_rfl) (by simp) ?_
  refine AllReadyH.cons (i:=13) rfl (fun K hK=>?_) AllReadyH.nil
  go_simp
  refine (implShow_is a b e _).mono ?_
  rintro en v4 ⟨rfl,hv4⟩
  have TN:=TC.later hv4 (by have:=ZC.out;omega)
  have UN:=UC.later hv4 (by have:=ZC.out;omega)
  have ZN:Hid (w.heap.size + 2≤v4.heap.size):=Nat.le_trans ZC.out hv4.size
  have BN:=BC.trans (hv4.mono BC.size)
  have HPN:=RowAt.later HP hv4
  have HVN:=RowAt.later HV hv4
  clear TC UC ZC BC HP HV
  have TC:=TN
  have UC:=UN
  have ZC:=ZN
  have BC:=BN
  have HP:=HPN
  have HV:=HVN
  clear TN UN ZN BN HPN HVN
  clear hv4
  go_wp2_with fail
  refine hK.out _ _ ⟨TC,UC⟩ (fun hJ=>?_)
  clear hK K hH
  have hH:=hJ
  clear hJ
  try simp only [Act.put,pa,pb,pc]
  refine wpAnyH_ready (rs:=[16]) (by kernel_rfl) (by simp) ?_
  refine AllReadyH.cons (i:=16) rfl (fun K hK=>?_) AllReadyH.nil
  go_simp
  refine (impl_nums pa pc P _ HP hpl).mono ?_
  rintro en v5 ⟨rfl,hv5⟩
  have TN:=TC.later hv5 (by have:=ZC.out;omega)
  have UN:=UC.later hv5 (by have:=ZC.out;omega)
  have ZN:Hid (w.heap.size + 2≤v5.heap.size):=Nat.le_trans ZC.out hv5.size
  have BN:=BC.trans (hv5.mono BC.size)
  have HPN:=RowAt.later HP hv5
  have HVN:=RowAt.later HV hv5
  clear TC UC ZC BC HP HV
  have TC:=TN
  have UC:=UN
  have ZC:=ZN
  have BC:=BN
  have HP:=HPN
  have HV:=HVN
  clear TN UN ZN BN HPN HVN
  clear hv5
  go_wp2_with fail
  refine hK.out _ _ ⟨TC,UC⟩ (fun hJ=>?_)
  clear hK K hH
  have hH:=hJ
  clear hJ
  try simp only [Act.put,pa,pb,pc]
  refine wpAnyH_ready (rs:=[19]) (by kernel_rfl) (by simp) ?_
  refine AllReadyH.cons (i:=19) rfl (fun K hK=>?_) AllReadyH.nil
  go_simp
  refine (impl_nums va vc V _ HV hvl).mono ?_
  rintro en v6 ⟨rfl,hv6⟩
  have TN:=TC.later hv6 (by have:=ZC.out;omega)
  have UN:=UC.later hv6 (by have:=ZC.out;omega)
  have ZN:Hid (w.heap.size + 2≤v6.heap.size):=Nat.le_trans ZC.out hv6.size
  have BN:=BC.trans (hv6.mono BC.size)
  have HPN:=RowAt.later HP hv6
  have HVN:=RowAt.later HV hv6
  clear TC UC ZC BC HP HV
  have TC:=TN
  have UC:=UN
  have ZC:=ZN
  have BC:=BN
  have HP:=HPN
  have HV:=HVN
  clear TN UN ZN BN HPN HVN
  clear hv6
  go_wp2_with fail
  refine hK.out _ _ ⟨TC,UC⟩ (fun hJ=>?_)
  clear hK K hH
  have hH:=hJ
  clear hJ
  try simp only [Act.put,pa,pb,pc]
  obtain ⟨v7,hv7⟩:∃ v,(v6).alloc (.cells #[.string (numsT [c,s]),.string (keyT k),.string (shR a b e),.string (numsT P),.string (numsT V)] 9)=v:=⟨_,rfl⟩
  have XA:Below (v6).heap.size (v6) v7:=by rw [← hv7];exact (Below.refl _ _).alloc (Nat.le_refl _) _
  have TN:=TC.later XA (by have:=ZC.out;omega)
  have UN:=UC.later XA (by have:=ZC.out;omega)
  have ZN:Hid (w.heap.size + 2≤v7.heap.size):=Nat.le_trans ZC.out XA.size
  have BN:=BC.trans (XA.mono BC.size)
  have HPN:=RowAt.later HP XA
  have HVN:=RowAt.later HV XA
  have RLN:RowAt Value.string v7 (some ⟨(v6).heap.size,0,none⟩) [numsT [c,s],keyT k,shR a b e,numsT P,numsT V]:=by rw [← hv7];exact row_new Value.string (v6) [numsT [c,s],keyT k,shR a b e,numsT P,numsT V] 9
  refine wpAnyH_ready (rs:=[20]) (by kernel_rfl) (by simp) ?_
  refine AllReadyH.cons (i:=20) rfl (fun K hK=>?_) AllReadyH.nil
  go_simp
  refine hK.out _ _ (by (try rw [hv7]);exact ⟨TN,UN⟩) (fun hJ=>?_)
  clear hK K hH
  have hH:=hJ
  clear hJ
  try simp only [Act.put,pa,pb,pc]
  clear TC UC ZC BC HP HV
  have TC:=TN
  have UC:=UN
  have ZC:=ZN
  have BC:=BN
  have HP:=HPN
  have HV:=HVN
  clear TN UN ZN BN HPN HVN
  have RL:=RLN
  clear RLN XA
  try rw [hv7]
  clear hv7
  refine wpAnyH_ready (rs:=[21]) (by kernel_rfl) (by simp) ?_
  refine AllReadyH.cons (i:=21) rfl (fun K hK=>?_) AllReadyH.nil
  go_simp
  refine (impl_list _ 5 [numsT [c,s],keyT k,shR a b e,numsT P,numsT V] _ RL (by simp) (by simp) (by intro x hx;simp only [List.mem_cons,List.not_mem_nil,or_false] at hx;rcases hx with rfl | rfl | rfl | rfl | rfl <;> first | exact Nat.le_trans (listT_size _) (by omega) | exact Nat.le_trans (keyT_size k) (by omega) | exact Nat.le_trans (shR_size a b e) (by omega))).mono ?_
  rintro en v8 ⟨rfl,hv8⟩
  have TN:=TC.later hv8 (by have:=ZC.out;omega)
  have UN:=UC.later hv8 (by have:=ZC.out;omega)
  have ZN:Hid (w.heap.size + 2≤v8.heap.size):=Nat.le_trans ZC.out hv8.size
  have BN:=BC.trans (hv8.mono BC.size)
  have HPN:=RowAt.later HP hv8
  have HVN:=RowAt.later HV hv8
  have RLN:=RowAt.later RL hv8
  clear TC UC ZC BC HP HV RL
  have TC:=TN
  have UC:=UN
  have ZC:=ZN
  have BC:=BN
  have HP:=HPN
  have HV:=HVN
  have RL:=RLN
  clear TN UN ZN BN HPN HVN RLN
  clear hv8
  go_wp2_with fail
  refine hK.out _ _ ⟨TC,UC⟩ (fun hJ=>?_)
  clear hK K hH
  have hH:=hJ
  clear hJ
  try simp only [Act.put,pa,pb,pc]
  clear RL
  refine wpAnyH_ready (rs:=[22]) (by kernel_rfl) (by simp) ?_
  refine AllReadyH.cons (i:=22) rfl (fun K hK=>?_) AllReadyH.nil
  go_simp
  refine (sealT_is c s k a b e pa P.length pc va V.length vc key (inT c s k a b e P V) _ (Nat.le_trans (listT_size _) (by omega))).mono ?_
  rintro en v9 ⟨rfl,hv9⟩
  have TN:=TC.later hv9 (by have:=ZC.out;omega)
  have UN:=UC.later hv9 (by have:=ZC.out;omega)
  have ZN:Hid (w.heap.size + 2≤v9.heap.size):=Nat.le_trans ZC.out hv9.size
  have BN:=BC.trans (hv9.mono BC.size)
  have HPN:=RowAt.later HP hv9
  have HVN:=RowAt.later HV hv9
  clear TC UC ZC BC HP HV
  have TC:=TN
  have UC:=UN
  have ZC:=ZN
  have BC:=BN
  have HP:=HPN
  have HV:=HVN
  clear TN UN ZN BN HPN HVN
  clear hv9
  go_wp2_with fail
  refine hK.out _ _ ⟨TC,UC⟩ (fun hJ=>?_)
  clear hK K hH
  have hH:=hJ
  clear hJ
  try simp only [Act.put,pa,pb,pc]
  refine tk 23 2 rfl _ hH (by intro w' h;have d0:=h.1.e9;have e0:=h.2.e8;go_simp;try with_reducible rfl) ?_
  try simp only [Act.put,pa,pb,pc]
  refine wpAnyH_done (by kernel_rfl) ?_ _
  go_wp2
  go_ret
  exact ⟨by unfold shT;rw [h0];rfl,BC⟩
 ·rw [Bool.not_eq_true] at h0
  rw [h0]
  go_wp2
  go_ret
  exact ⟨by unfold shT;rw [h0];rfl,BC⟩
end Go.Proofs.YtcaieniddnhkbaaGreatDoor
