/- Chapter 8: what the model answers to a login. -/
import Derived.Test.YtcaieniddnhkbaaGreatDoorAb
import Derived.Test.YtcaieniddnhkbaaGreatDoorReg
import Derived.Test.YtcaieniddnhkbaaGreatDoorRealm
set_option linter.unusedVariables false
set_option maxRecDepth 100000
namespace Go.Proofs.YtcaieniddnhkbaaGreatDoor
open Go Go.RowKit Own Var Term
theorem numR_small (x:ByteArray):0≤(numR x).1∧(numR x).1≤562949953421311:=by
 unfold numR
 have:=rvN_le (atomR x).1
 split
 ·show _≤((rvN (atomR x).1:Nat):Int)∧_≤_
  omega
 ·show _≤(0:Int)∧(0:Int)≤_
  omega
theorem numsR_small (x:ByteArray):∀ z∈(numsR x).1,0≤z∧z≤562949953421311:=by
 intro z hz
 unfold numsR numsP at hz
 split at hz
 ·simp only [List.mem_map] at hz
  obtain ⟨y,_,rfl⟩:=hz
  exact numR_small y
 ·simp at hz
theorem shT_size (c s k a b e:Int) (P V:List Int) (key:Int):(shT c s k a b e P V key).size≤900:=by
 unfold shT
 split
 ·exact sealT_size _ _
 ·show 0≤900;omega
theorem shG_size (k s n a b e key:Int):(shG k s n a b e key).size≤900:=by
 unfold shG
 split
 ·exact sealT_size _ _
 ·show 0≤900;omega
theorem Blk.far13 {g q:Nat} {vs:List Value} {W:World} (h:Blk g vs W) (hn:q≠g) (v0 v1 v2 v3 v4 v5 v6 v7 v8 v9 v10 v11 v12:Value):Blk g vs (World.setCell (World.setCell (World.setCell (World.setCell (World.setCell (World.setCell (World.setCell (World.setCell (World.setCell (World.setCell (World.setCell (World.setCell (World.setCell W ⟨q,0,none⟩ (v0)) ⟨q,1,none⟩ (v1)) ⟨q,2,none⟩ (v2)) ⟨q,3,none⟩ (v3)) ⟨q,4,none⟩ (v4)) ⟨q,5,none⟩ (v5)) ⟨q,6,none⟩ (v6)) ⟨q,7,none⟩ (v7)) ⟨q,8,none⟩ (v8)) ⟨q,9,none⟩ (v9)) ⟨q,10,none⟩ (v10)) ⟨q,11,none⟩ (v11)) ⟨q,12,none⟩ (v12)) :=
 (((((((((((((h.far hn 0 v0).far hn 1 v1).far hn 2 v2).far hn 3 v3).far hn 4 v4).far hn 5 v5).far hn 6 v6).far hn 7 v7).far hn 8 v8).far hn 9 v9).far hn 10 v10).far hn 11 v11).far hn 12 v12)
def apV (a b:Int):Int:=if a≤b then b - a else a - b
theorem spec_apart (n y k:Int) (w:World) (hn:0≤n∧n≤100000) (hy:0≤y∧y≤562949953421311) (hk:0≤k∧k≤20):Calls Tryz.prog 73 #[I n,I y,I k] w fun e w'=>e=.returned (.bool (decide (k < apV n y)))∧w=w':=by
 by_cases h:k < n - y
 ·have e:decide (k < apV n y)=true:=decide_eq_true (by unfold apV;split <;> omega)
  rw [e]
  go_enter Tryz.func73,Tryz.ntmps73
  go_wp2
  go_ret
  exact ⟨rfl,rfl⟩
 ·have e:decide (k < apV n y)=decide (k < y - n):=by rw [decide_eq_decide];unfold apV;split <;> omega
  rw [e]
  clear e
  go_enter Tryz.func73,Tryz.ntmps73
  go_wp2
  go_ret
  exact ⟨rfl,rfl⟩
theorem row_none {α:Type} (f:α→Value) (w:World):RowAt f w none []:=fun j h=>absurd h (Nat.not_lt_zero j)
def lgIn (p:Int) (pre:ByteArray):List Int:=(numsR (openR pre (pkV p)).1).1
def lgOk (realm now fresh p nonce:Int):Rp:=replyR nonce (shT p (10 + realm) fresh 7 255 (now + 50) [] [] (ckV realm)) (shG fresh (10 + realm) nonce 7 255 (now + 50) (pkV p)) ⟨1,realm,p,p,10 + realm,fresh,0,0,7,255,now + 50⟩
def lgR (c:Cf) (realm now fresh p nonce:Int) (pre:ByteArray):Rp :=
 if roV c p=realm then
  (if (lgIn p pre).length=2∧(lgIn p pre).getD 0 0=8 then
   (if c.k < apV now ((lgIn p pre).getD 1 0) then failR 3 else if 100000 < now + 50 then failR 4 else lgOk realm now fresh p nonce)
   else failR 2)
 else failR 1
set_option maxHeartbeats 6400000 in
theorem specLog_is (c:Cf) (realm now fresh p nonce:Int) (pre:ByteArray) (w:World) (C:CfAt c w) (K:CfOk c) (hn:0≤now∧now≤100000) (hr:0≤realm∧realm≤2) (hk:0≤c.k∧c.k≤20) (hp:pre.size≤1048576) :
  Calls Tryz.prog 36 #[c.val,I realm,I now,I fresh,I p,I nonce,.string pre] w fun en w'=>en=.returned (lgR c realm now fresh p nonce pre).val∧Below w.heap.size w w':=by
 obtain ⟨W2,hW2⟩:∃ W2,(w.alloc (.cells #[.slice c.ua c.U.length c.uc,.slice c.sa c.S.length c.sc,.slice c.la c.L.length c.lc,.slice c.xa c.X.length c.xc,I c.k] 27)).alloc (.cells #[I 0,.string ⟨#[]⟩,I 0,I 0,I 0,I 0,I 0,I 0,I 0,I 0,I 0,I 0,I 0] 35)=W2:=⟨_,rfl⟩
 have BC:Below w.heap.size w W2:=by rw [← hW2];exact ((Below.refl _ _).alloc (Nat.le_refl _) _).alloc (by simp) _
 have TC:Blk w.heap.size [.slice c.ua c.U.length c.uc,.slice c.sa c.S.length c.sc,.slice c.la c.L.length c.lc,.slice c.xa c.X.length c.xc,I c.k] W2:=by rw [← hW2];exact (Blk.new w #[.slice c.ua c.U.length c.uc,.slice c.sa c.S.length c.sc,.slice c.la c.L.length c.lc,.slice c.xa c.X.length c.xc,I c.k] _).alloc (by simp) _
 have UC:Blk (w.heap.size + 1) [I 0,.string ⟨#[]⟩,I 0,I 0,I 0,I 0,I 0,I 0,I 0,I 0,I 0,I 0,I 0] W2:=by rw [← hW2];have:=Blk.new (w.alloc (.cells #[.slice c.ua c.U.length c.uc,.slice c.sa c.S.length c.sc,.slice c.la c.L.length c.lc,.slice c.xa c.X.length c.xc,I c.k] 27)) #[I 0,.string ⟨#[]⟩,I 0,I 0,I 0,I 0,I 0,I 0,I 0,I 0,I 0,I 0,I 0] 35;simpa using this
 have HRO:=specRO_is c p W2 (C.later BC) K
 have RN:=fun w'=>spec_readNums (openR pre (pkV p)).1 w' (Nat.le_trans (openR_size pre (pkV p)) (by omega))
 have HSM:=numsR_small (openR pre (pkV p)).1
 obtain ⟨L,b,hN⟩:∃ L b,numsR (openR pre (pkV p)).1=(L,b):=⟨_,_,rfl⟩
 have hL:lgIn p pre=L:=by unfold lgIn;rw [hN]
 have HN:b=false→L=[]:=fun h=>by have:=nums_len (openR pre (pkV p)).1 (by rw [hN];exact h);rw [hN] at this;exact this
 rw [hN] at RN HSM
 simp only at RN HSM
 have d0:=TC.at 0 rfl
 have d1:=TC.at 1 rfl
 have d2:=TC.at 2 rfl
 have d3:=TC.at 3 rfl
 have d4:=TC.at 4 rfl
 obtain ⟨ro,hro⟩:∃ ro,roV c p=ro:=⟨_,rfl⟩
 rw [hro] at HRO
 go_enter Tryz.func36,Tryz.ntmps36
 go_wp2_with fail
 try rw [hW2]
 refine HRO.mono ?_
 clear hW2 HRO d0 d1 d2 d3 d4
 rintro en w3 ⟨rfl,hb3⟩
 replace TC:=TC.later hb3 TC.lt
 replace UC:=UC.later hb3 UC.lt
 replace BC:=BC.trans (hb3.mono BC.size)
 clear hb3
 by_cases h0:ro=realm
 ·subst h0
  have e0:(ro == ro)=true:=by simp
  go_wp2_with fail
  refine (specPK_is p _).mono ?_
  rintro en wx ⟨rfl,rfl⟩
  go_wp2_with fail
  refine (spec_open pre (pkV p) _ hp).mono ?_
  rintro en w4 ⟨rfl,hb4⟩
  replace TC:=TC.later hb4 TC.lt
  replace UC:=UC.later hb4 UC.lt
  replace BC:=BC.trans (hb4.mono BC.size)
  clear hb4
  generalize (openR pre (pkV p)).2=ob
  go_wp2_with fail
  refine (RN _).mono ?_
  rintro en w5 ⟨v,rfl,ho,hb5⟩
  replace TC:=TC.later hb5 TC.lt
  replace UC:=UC.later hb5 UC.lt
  replace BC:=BC.trans (hb5.mono BC.size)
  clear hb5 RN
  by_cases h2:L.length=2
  ·have hb:b=true:=by
    cases b with
    | true=>rfl
    | false=>rw [HN rfl] at h2;cases h2
   subst hb
   obtain ⟨m,y,rfl⟩:∃ m y,L=[m,y]:=by
    match L,h2 with
    | [m,y],_=>exact ⟨m,y,rfl⟩
   have hy:=HSM y (by simp)
   clear HN h2 HSM
   obtain ⟨g,cap,rfl,hcap,hg,hlt,QC⟩:=own_blk (f:=Value.int .i64) (xs:=[m,y]) ho (by simp)
   simp only [List.length_cons,List.length_nil,Nat.zero_add,Nat.reduceAdd] at hcap
   have hc2:(2:Int)≤(cap:Int):=by omega
   clear ho hg
   by_cases h8:m=8
   ·subst h8
    have q0:=QC.at 0 rfl
    replace QC:Blk g [I 8,I y] w5:=QC
    go_wp2_with fail
    clear q0
    replace TC:=TC.drew
    replace UC:=UC.drew
    replace QC:=QC.drew
    replace BC:=BC.drew
    refine wp_region_held_drew (S:=(fun Vw=>Blk w.heap.size [.slice c.ua c.U.length c.uc,.slice c.sa c.S.length c.sc,.slice c.la c.L.length c.lc,.slice c.xa c.X.length c.xc,I c.k] Vw∧Blk g [I 8,I y] Vw)) (by kernel_rfl) ⟨TC,QC⟩ (fun hH=>?_)
    refine tk 0 55 rfl _ hH (by intro w' h;have d0:=h.1.e5;have q0:=h.2.e2;go_simp;try with_reducible rfl) ?_
    try simp only [Act.put,pa,pb,pc]
    refine tk 1 56 rfl _ hH (by intro w' h;have d0:=h.1.e5;have q0:=h.2.e2;go_simp;try with_reducible rfl) ?_
    try simp only [Act.put,pa,pb,pc]
    refine tk 2 57 rfl _ hH (by intro w' h;have d0:=h.1.e5;have q0:=h.2.e2;go_simp;try with_reducible rfl) ?_
    try simp only [Act.put,pa,pb,pc]
    refine tk 3 58 rfl _ hH (by intro w' h;have d0:=h.1.e5;have q0:=h.2.e2;go_simp;try with_reducible rfl) ?_
    try simp only [Act.put,pa,pb,pc]
    refine tk 4 59 rfl _ hH (by intro w' h;have d0:=h.1.e5;have q0:=h.2.e2;go_simp;try with_reducible rfl) ?_
    try simp only [Act.put,pa,pb,pc]
    refine tk 5 60 rfl _ hH (by intro w' h;have d0:=h.1.e5;have q0:=h.2.e2;go_simp;try with_reducible rfl) ?_
    try simp only [Act.put,pa,pb,pc]
    refine wpAnyH_ready (rs:=[6]) (by kernel_rfl) (by simp) ?_
    refine AllReadyH.cons (i:=6) rfl (fun K hK=>?_) AllReadyH.nil
    go_simp
    refine (spec_apart now y c.k _ hn hy hk).mono ?_
    rintro en wq ⟨rfl,rfl⟩
    go_wp2_with fail
    refine hK.out _ _ ⟨TC,QC⟩ (fun hJ=>?_)
    clear hK K hH
    have hH:=hJ
    clear hJ
    try simp only [Act.put,pa,pb,pc]
    refine wpAnyH_done (by kernel_rfl) ?_ _
    clear hH QC
    by_cases h3:c.k < apV now y
    ·have HR:Hid (lgR c ro now fresh p nonce pre=failR 3):=by show _=_;unfold lgR;rw [if_pos hro,hL,if_pos ⟨rfl,rfl⟩];exact if_pos h3
     rw [decide_eq_true h3]
     go_wp2_with fail
     refine (spec_fail 3 _).mono ?_
     rintro en wf ⟨rfl,hbf⟩
     replace UC:=UC.later hbf UC.lt
     replace BC:=BC.trans (hbf.mono BC.size)
     clear hbf
     have FG:=show Hid _ from UC.fill13 BC (by omega) (I 3) (.string ⟨#[]⟩) (I 0) (I 0) (I 0) (I 0) (I 0) (I 0) (I 0) (I 0) (I 0) (I 0) (I 0)
     have r0:=UC.at 0 rfl
     have g0:=UC.fz 0 rfl
     have r1:=UC.at 1 rfl
     have g1:=UC.fz 1 rfl
     have r2:=UC.at 2 rfl
     have g2:=UC.fz 2 rfl
     have r3:=UC.at 3 rfl
     have g3:=UC.fz 3 rfl
     have r4:=UC.at 4 rfl
     have g4:=UC.fz 4 rfl
     have r5:=UC.at 5 rfl
     have g5:=UC.fz 5 rfl
     have r6:=UC.at 6 rfl
     have g6:=UC.fz 6 rfl
     have r7:=UC.at 7 rfl
     have g7:=UC.fz 7 rfl
     have r8:=UC.at 8 rfl
     have g8:=UC.fz 8 rfl
     have r9:=UC.at 9 rfl
     have g9:=UC.fz 9 rfl
     have r10:=UC.at 10 rfl
     have g10:=UC.fz 10 rfl
     have r11:=UC.at 11 rfl
     have g11:=UC.fz 11 rfl
     have r12:=UC.at 12 rfl
     have g12:=UC.fz 12 rfl
     clear UC BC
     rw [show (failR 3).val=.agg #[I 3,.string ⟨#[]⟩,I 0,I 0,I 0,I 0,I 0,I 0,I 0,I 0,I 0,I 0,I 0] from rfl]
     go_wp2
     have G:=FG.out
     obtain ⟨WW,hWW⟩:∃ WW,(World.setCell (World.setCell (World.setCell (World.setCell (World.setCell (World.setCell (World.setCell (World.setCell (World.setCell (World.setCell (World.setCell (World.setCell (World.setCell wf ⟨w.heap.size + 1,0,none⟩ (I 3)) ⟨w.heap.size + 1,1,none⟩ (.string ⟨#[]⟩)) ⟨w.heap.size + 1,2,none⟩ (I 0)) ⟨w.heap.size + 1,3,none⟩ (I 0)) ⟨w.heap.size + 1,4,none⟩ (I 0)) ⟨w.heap.size + 1,5,none⟩ (I 0)) ⟨w.heap.size + 1,6,none⟩ (I 0)) ⟨w.heap.size + 1,7,none⟩ (I 0)) ⟨w.heap.size + 1,8,none⟩ (I 0)) ⟨w.heap.size + 1,9,none⟩ (I 0)) ⟨w.heap.size + 1,10,none⟩ (I 0)) ⟨w.heap.size + 1,11,none⟩ (I 0)) ⟨w.heap.size + 1,12,none⟩ (I 0))=WW:=⟨_,rfl⟩
     rw [hWW] at G ⊢
     clear hWW FG
     refine bodyPost_ret (res_r rfl _ WW (w.heap.size + 1) (I 3) (.string ⟨#[]⟩) (I 0) (I 0) (I 0) (I 0) (I 0) (I 0) (I 0) (I 0) (I 0) (I 0) (I 0) rfl (G.1.at 0 rfl) (G.1.at 1 rfl) (G.1.at 2 rfl) (G.1.at 3 rfl) (G.1.at 4 rfl) (G.1.at 5 rfl) (G.1.at 6 rfl) (G.1.at 7 rfl) (G.1.at 8 rfl) (G.1.at 9 rfl) (G.1.at 10 rfl) (G.1.at 11 rfl) (G.1.at 12 rfl)) rfl ⟨by rw [HR.out];rfl,G.2⟩
    ·rw [decide_eq_false h3]
     by_cases h4:100000 < now + 50
     ·have HR:Hid (lgR c ro now fresh p nonce pre=failR 4):=by show _=_;unfold lgR;rw [if_pos hro,hL,if_pos ⟨rfl,rfl⟩];exact (if_neg h3).trans (if_pos h4)
      have e4:decide (100000 < now + 50)=true:=decide_eq_true h4
      go_wp2_with fail
      refine (spec_fail 4 _).mono ?_
      rintro en wf ⟨rfl,hbf⟩
      replace UC:=UC.later hbf UC.lt
      replace BC:=BC.trans (hbf.mono BC.size)
      clear hbf
      have FG:=show Hid _ from UC.fill13 BC (by omega) (I 4) (.string ⟨#[]⟩) (I 0) (I 0) (I 0) (I 0) (I 0) (I 0) (I 0) (I 0) (I 0) (I 0) (I 0)
      have r0:=UC.at 0 rfl
      have g0:=UC.fz 0 rfl
      have r1:=UC.at 1 rfl
      have g1:=UC.fz 1 rfl
      have r2:=UC.at 2 rfl
      have g2:=UC.fz 2 rfl
      have r3:=UC.at 3 rfl
      have g3:=UC.fz 3 rfl
      have r4:=UC.at 4 rfl
      have g4:=UC.fz 4 rfl
      have r5:=UC.at 5 rfl
      have g5:=UC.fz 5 rfl
      have r6:=UC.at 6 rfl
      have g6:=UC.fz 6 rfl
      have r7:=UC.at 7 rfl
      have g7:=UC.fz 7 rfl
      have r8:=UC.at 8 rfl
      have g8:=UC.fz 8 rfl
      have r9:=UC.at 9 rfl
      have g9:=UC.fz 9 rfl
      have r10:=UC.at 10 rfl
      have g10:=UC.fz 10 rfl
      have r11:=UC.at 11 rfl
      have g11:=UC.fz 11 rfl
      have r12:=UC.at 12 rfl
      have g12:=UC.fz 12 rfl
      clear UC BC
      rw [show (failR 4).val=.agg #[I 4,.string ⟨#[]⟩,I 0,I 0,I 0,I 0,I 0,I 0,I 0,I 0,I 0,I 0,I 0] from rfl]
      go_wp2
      have G:=FG.out
      obtain ⟨WW,hWW⟩:∃ WW,(World.setCell (World.setCell (World.setCell (World.setCell (World.setCell (World.setCell (World.setCell (World.setCell (World.setCell (World.setCell (World.setCell (World.setCell (World.setCell wf ⟨w.heap.size + 1,0,none⟩ (I 4)) ⟨w.heap.size + 1,1,none⟩ (.string ⟨#[]⟩)) ⟨w.heap.size + 1,2,none⟩ (I 0)) ⟨w.heap.size + 1,3,none⟩ (I 0)) ⟨w.heap.size + 1,4,none⟩ (I 0)) ⟨w.heap.size + 1,5,none⟩ (I 0)) ⟨w.heap.size + 1,6,none⟩ (I 0)) ⟨w.heap.size + 1,7,none⟩ (I 0)) ⟨w.heap.size + 1,8,none⟩ (I 0)) ⟨w.heap.size + 1,9,none⟩ (I 0)) ⟨w.heap.size + 1,10,none⟩ (I 0)) ⟨w.heap.size + 1,11,none⟩ (I 0)) ⟨w.heap.size + 1,12,none⟩ (I 0))=WW:=⟨_,rfl⟩
      rw [hWW] at G ⊢
      clear hWW FG
      refine bodyPost_ret (res_r rfl _ WW (w.heap.size + 1) (I 4) (.string ⟨#[]⟩) (I 0) (I 0) (I 0) (I 0) (I 0) (I 0) (I 0) (I 0) (I 0) (I 0) (I 0) rfl (G.1.at 0 rfl) (G.1.at 1 rfl) (G.1.at 2 rfl) (G.1.at 3 rfl) (G.1.at 4 rfl) (G.1.at 5 rfl) (G.1.at 6 rfl) (G.1.at 7 rfl) (G.1.at 8 rfl) (G.1.at 9 rfl) (G.1.at 10 rfl) (G.1.at 11 rfl) (G.1.at 12 rfl)) rfl ⟨by rw [HR.out];rfl,G.2⟩
     ·have HR:Hid (lgR c ro now fresh p nonce pre=lgOk ro now fresh p nonce):=by show _=_;unfold lgR;rw [if_pos hro,hL,if_pos ⟨rfl,rfl⟩];exact (if_neg h3).trans (if_neg h4)
      have e4:decide (100000 < now + 50)=false:=decide_eq_false h4
      obtain ⟨W9,hW9⟩:∃ W9,(((((w5).alloc (.cells #[I 7,I 255,I (now + 50)] 31)).alloc (.cells #[I p,I (10 + ro),I fresh,I 7,I 255,I (now + 50),.slice none 0 0,.slice none 0 0] 43)).alloc (.cells #[I fresh,I (10 + ro),I nonce,I 7,I 255,I (now + 50)] 47)).alloc (.cells #[I 1,I ro,I p,I p,I (10 + ro),I fresh,I 0,I 0,I 7,I 255,I (now + 50)] 33)).drew=W9:=⟨_,rfl⟩
      have h9:((((w5.drew).alloc (.cells #[I 7,I 255,I (now + 50)] 31)).alloc (.cells #[I p,I (10 + ro),I fresh,I 7,I 255,I (now + 50),.slice none 0 0,.slice none 0 0] 43)).alloc (.cells #[I fresh,I (10 + ro),I nonce,I 7,I 255,I (now + 50)] 47)).alloc (.cells #[I 1,I ro,I p,I p,I (10 + ro),I fresh,I 0,I 0,I 7,I 255,I (now + 50)] 33)=(((((w5).alloc (.cells #[I 7,I 255,I (now + 50)] 31)).alloc (.cells #[I p,I (10 + ro),I fresh,I 7,I 255,I (now + 50),.slice none 0 0,.slice none 0 0] 43)).alloc (.cells #[I fresh,I (10 + ro),I nonce,I 7,I 255,I (now + 50)] 47)).alloc (.cells #[I 1,I ro,I p,I p,I (10 + ro),I fresh,I 0,I 0,I 7,I 255,I (now + 50)] 33)).drew:=rfl
      have X9:Below w5.drew.heap.size w5.drew W9:=by rw [← hW9,← h9];exact ((((Below.refl _ _).alloc (Nat.le_refl _) _).alloc (by simp) _).alloc (by simp <;> omega) _).alloc (by simp <;> omega) _
      have TT:Blk (w5.heap.size + 1) [I p,I (10 + ro),I fresh,I 7,I 255,I (now + 50),.slice none 0 0,.slice none 0 0] W9:=by
       rw [← hW9,← h9]
       have h:=Blk.new (w5.drew.alloc (.cells #[I 7,I 255,I (now + 50)] 31)) #[I p,I (10 + ro),I fresh,I 7,I 255,I (now + 50),.slice none 0 0,.slice none 0 0] 43
       rw [World.size_alloc] at h
       exact (h.alloc h.lt _).alloc (h.alloc h.lt _).lt _
      have TG:Blk (w5.heap.size + 2) [I fresh,I (10 + ro),I nonce,I 7,I 255,I (now + 50)] W9:=by
       rw [← hW9,← h9]
       have h:=Blk.new ((w5.drew.alloc (.cells #[I 7,I 255,I (now + 50)] 31)).alloc (.cells #[I p,I (10 + ro),I fresh,I 7,I 255,I (now + 50),.slice none 0 0,.slice none 0 0] 43)) #[I fresh,I (10 + ro),I nonce,I 7,I 255,I (now + 50)] 47
       rw [World.size_alloc,World.size_alloc] at h
       exact h.alloc h.lt _
      have TE:Blk (w5.heap.size + 3) [I 1,I ro,I p,I p,I (10 + ro),I fresh,I 0,I 0,I 7,I 255,I (now + 50)] W9:=by
       rw [← hW9,← h9]
       have h:=Blk.new (((w5.drew.alloc (.cells #[I 7,I 255,I (now + 50)] 31)).alloc (.cells #[I p,I (10 + ro),I fresh,I 7,I 255,I (now + 50),.slice none 0 0,.slice none 0 0] 43)).alloc (.cells #[I fresh,I (10 + ro),I nonce,I 7,I 255,I (now + 50)] 47)) #[I 1,I ro,I p,I p,I (10 + ro),I fresh,I 0,I 0,I 7,I 255,I (now + 50)] 33
       rw [World.size_alloc,World.size_alloc,World.size_alloc] at h
       exact h
      have hlt5:=UC.lt
      replace UC:=UC.later X9 UC.lt
      replace BC:=BC.trans (X9.mono BC.size)
      clear X9 h9
      go_wp2_with fail
      try rw [hW9]
      clear hW9
      replace hlt5:w.heap.size + 1 < w5.heap.size:=hlt5
      replace HR:Hid (lgR c ro now fresh p nonce pre=replyR nonce (shT p (10 + ro) fresh 7 255 (now + 50) [] [] (ckV ro)) (shG fresh (10 + ro) nonce 7 255 (now + 50) (pkV p)) ⟨1,ro,p,p,10 + ro,fresh,0,0,7,255,now + 50⟩):=HR
      replace UC:=UC.drew
      replace TT:=TT.drew
      replace TG:=TG.drew
      replace TE:=TE.drew
      replace BC:=BC.drew
      refine wp_region_held_drew (S:=(fun Vw=>Blk (w5.heap.size + 1) [I p,I (10 + ro),I fresh,I 7,I 255,I (now + 50),.slice none 0 0,.slice none 0 0] Vw∧Blk (w5.heap.size + 2) [I fresh,I (10 + ro),I nonce,I 7,I 255,I (now + 50)] Vw∧Blk (w5.heap.size + 3) [I 1,I ro,I p,I p,I (10 + ro),I fresh,I 0,I 0,I 7,I 255,I (now + 50)] Vw)) (by kernel_rfl) ⟨TT,TG,TE⟩ (fun hH=>?_)
      refine tk 0 90 rfl _ hH (by intro w' h;have a0:=h.1.e8;have b0:=h.2.1.e6;have e0:=h.2.2.e11;go_simp;try with_reducible rfl) ?_
      try simp only [Act.put,pa,pb,pc]
      refine tk 1 91 rfl _ hH (by intro w' h;have a0:=h.1.e8;have b0:=h.2.1.e6;have e0:=h.2.2.e11;go_simp;try with_reducible rfl) ?_
      try simp only [Act.put,pa,pb,pc]
      refine tk 2 92 rfl _ hH (by intro w' h;have a0:=h.1.e8;have b0:=h.2.1.e6;have e0:=h.2.2.e11;go_simp;try with_reducible rfl) ?_
      try simp only [Act.put,pa,pb,pc]
      refine tk 5 95 rfl _ hH (by intro w' h;have a0:=h.1.e8;have b0:=h.2.1.e6;have e0:=h.2.2.e11;go_simp;try with_reducible rfl) ?_
      try simp only [Act.put,pa,pb,pc]
      refine tk 6 96 rfl _ hH (by intro w' h;have a0:=h.1.e8;have b0:=h.2.1.e6;have e0:=h.2.2.e11;go_simp;try with_reducible rfl) ?_
      try simp only [Act.put,pa,pb,pc]
      refine tk 9 99 rfl _ hH (by intro w' h;have a0:=h.1.e8;have b0:=h.2.1.e6;have e0:=h.2.2.e11;go_simp;try with_reducible rfl) ?_
      try simp only [Act.put,pa,pb,pc]
      refine wpAnyH_ready (rs:=[3]) (by kernel_rfl) (by simp) ?_
      refine AllReadyH.cons (i:=3) rfl (fun K hK=>?_) AllReadyH.nil
      go_simp
      refine (specCK_is ro _).mono ?_
      rintro en wa ⟨rfl,rfl⟩
      go_wp2_with fail
      refine hK.out _ _ ⟨TT,TG,TE⟩ (fun hJ=>?_)
      clear hK K hH
      have hH:=hJ
      clear hJ
      try simp only [Act.put,pa,pb,pc]
      refine wpAnyH_ready (rs:=[4]) (by kernel_rfl) (by simp) ?_
      refine AllReadyH.cons (i:=4) rfl (fun K hK=>?_) AllReadyH.nil
      go_simp
      refine (specShowT_is p (10 + ro) fresh 7 255 (now + 50) none [] 0 none [] 0 (ckV ro) _ (row_none _ _) (row_none _ _) (by simp) (by simp)).mono ?_
      rintro en v1 ⟨rfl,hb⟩
      replace UC:=UC.later hb UC.lt
      replace TT:=TT.later hb TT.lt
      replace TG:=TG.later hb TG.lt
      replace TE:=TE.later hb TE.lt
      replace BC:=BC.trans (hb.mono BC.size)
      clear hb
      go_wp2_with fail
      refine hK.out _ _ ⟨TT,TG,TE⟩ (fun hJ=>?_)
      clear hK K hH
      have hH:=hJ
      clear hJ
      try simp only [Act.put,pa,pb,pc]
      refine wpAnyH_ready (rs:=[7]) (by kernel_rfl) (by simp) ?_
      refine AllReadyH.cons (i:=7) rfl (fun K hK=>?_) AllReadyH.nil
      go_simp
      refine (specPK_is p _).mono ?_
      rintro en wb ⟨rfl,rfl⟩
      go_wp2_with fail
      refine hK.out _ _ ⟨TT,TG,TE⟩ (fun hJ=>?_)
      clear hK K hH
      have hH:=hJ
      clear hJ
      try simp only [Act.put,pa,pb,pc]
      refine wpAnyH_ready (rs:=[8]) (by kernel_rfl) (by simp) ?_
      refine AllReadyH.cons (i:=8) rfl (fun K hK=>?_) AllReadyH.nil
      go_simp
      refine (specShowG_is fresh (10 + ro) nonce 7 255 (now + 50) (pkV p) _).mono ?_
      rintro en v2 ⟨rfl,hb⟩
      replace UC:=UC.later hb UC.lt
      replace TT:=TT.later hb TT.lt
      replace TG:=TG.later hb TG.lt
      replace TE:=TE.later hb TE.lt
      replace BC:=BC.trans (hb.mono BC.size)
      clear hb
      go_wp2_with fail
      refine hK.out _ _ ⟨TT,TG,TE⟩ (fun hJ=>?_)
      clear hK K hH
      have hH:=hJ
      clear hJ
      try simp only [Act.put,pa,pb,pc]
      have hz1:=shT_size p (10 + ro) fresh 7 255 (now + 50) [] [] (ckV ro)
      have hz2:=shG_size fresh (10 + ro) nonce 7 255 (now + 50) (pkV p)
      refine wpAnyH_ready (rs:=[10]) (by kernel_rfl) (by simp) ?_
      refine AllReadyH.cons (i:=10) rfl (fun K hK=>?_) AllReadyH.nil
      go_simp
      refine (specReply_is nonce (shT p (10 + ro) fresh 7 255 (now + 50) [] [] (ckV ro)) (shG fresh (10 + ro) nonce 7 255 (now + 50) (pkV p)) ⟨1,ro,p,p,10 + ro,fresh,0,0,7,255,now + 50⟩ _ (by omega) (by omega)).mono ?_
      rintro en v3 ⟨rfl,hb⟩
      replace UC:=UC.later hb UC.lt
      replace TT:=TT.later hb TT.lt
      replace TG:=TG.later hb TG.lt
      replace TE:=TE.later hb TE.lt
      replace BC:=BC.trans (hb.mono BC.size)
      clear hb
      go_wp2_with fail
      refine hK.out _ _ ⟨TT,TG,TE⟩ (fun hJ=>?_)
      clear hK K hH
      have hH:=hJ
      clear hJ
      try simp only [Act.put,pa,pb,pc]
      generalize replyR nonce (shT p (10 + ro) fresh 7 255 (now + 50) [] [] (ckV ro)) (shG fresh (10 + ro) nonce 7 255 (now + 50) (pkV p)) ⟨1,ro,p,p,10 + ro,fresh,0,0,7,255,now + 50⟩=rp at HR hH ⊢
      obtain ⟨rc,rt,e0,e1,e2,e3,e4,e5,e6,e7,e8,e9,e10⟩:=rp
      have FG:=show Hid _ from UC.fill13 BC (by omega) (I rc) (.string rt) (I e0) (I e1) (I e2) (I e3) (I e4) (I e5) (I e6) (I e7) (I e8) (I e9) (I e10)
      have r0:=UC.at 0 rfl
      have g0:=UC.fz 0 rfl
      have r1:=UC.at 1 rfl
      have g1:=UC.fz 1 rfl
      have r2:=UC.at 2 rfl
      have g2:=UC.fz 2 rfl
      have r3:=UC.at 3 rfl
      have g3:=UC.fz 3 rfl
      have r4:=UC.at 4 rfl
      have g4:=UC.fz 4 rfl
      have r5:=UC.at 5 rfl
      have g5:=UC.fz 5 rfl
      have r6:=UC.at 6 rfl
      have g6:=UC.fz 6 rfl
      have r7:=UC.at 7 rfl
      have g7:=UC.fz 7 rfl
      have r8:=UC.at 8 rfl
      have g8:=UC.fz 8 rfl
      have r9:=UC.at 9 rfl
      have g9:=UC.fz 9 rfl
      have r10:=UC.at 10 rfl
      have g10:=UC.fz 10 rfl
      have r11:=UC.at 11 rfl
      have g11:=UC.fz 11 rfl
      have r12:=UC.at 12 rfl
      have g12:=UC.fz 12 rfl
      have KT:=TT.far13 (q:=w.heap.size + 1) (by omega) (I rc) (.string rt) (I e0) (I e1) (I e2) (I e3) (I e4) (I e5) (I e6) (I e7) (I e8) (I e9) (I e10)
      have KG:=TG.far13 (q:=w.heap.size + 1) (by omega) (I rc) (.string rt) (I e0) (I e1) (I e2) (I e3) (I e4) (I e5) (I e6) (I e7) (I e8) (I e9) (I e10)
      have KE:=TE.far13 (q:=w.heap.size + 1) (by omega) (I rc) (.string rt) (I e0) (I e1) (I e2) (I e3) (I e4) (I e5) (I e6) (I e7) (I e8) (I e9) (I e10)
      clear UC BC TT TG TE
      refine wpAnyH_ready (rs:=[11]) (by kernel_rfl) (by simp) ?_
      refine AllReadyH.cons (i:=11) rfl (fun K hK=>?_) AllReadyH.nil
      dsimp only [Rp.val]
      go_simp
      refine hK.out _ _ ⟨KT,KG,KE⟩ (fun hJ=>?_)
      clear hK K hH
      have hH:=hJ
      clear hJ
      try simp only [Act.put,pa,pb,pc]
      clear r0 g0 r1 g1 r2 g2 r3 g3 r4 g4 r5 g5 r6 g6 r7 g7 r8 g8 r9 g9 r10 g10 r11 g11 r12 g12 KT KG KE
      have G:=FG.out
      obtain ⟨WW,hWW⟩:∃ WW,(World.setCell (World.setCell (World.setCell (World.setCell (World.setCell (World.setCell (World.setCell (World.setCell (World.setCell (World.setCell (World.setCell (World.setCell (World.setCell v3 ⟨w.heap.size + 1,0,none⟩ (I rc)) ⟨w.heap.size + 1,1,none⟩ (.string rt)) ⟨w.heap.size + 1,2,none⟩ (I e0)) ⟨w.heap.size + 1,3,none⟩ (I e1)) ⟨w.heap.size + 1,4,none⟩ (I e2)) ⟨w.heap.size + 1,5,none⟩ (I e3)) ⟨w.heap.size + 1,6,none⟩ (I e4)) ⟨w.heap.size + 1,7,none⟩ (I e5)) ⟨w.heap.size + 1,8,none⟩ (I e6)) ⟨w.heap.size + 1,9,none⟩ (I e7)) ⟨w.heap.size + 1,10,none⟩ (I e8)) ⟨w.heap.size + 1,11,none⟩ (I e9)) ⟨w.heap.size + 1,12,none⟩ (I e10))=WW:=⟨_,rfl⟩
      rw [hWW] at G hH ⊢
      clear hWW FG
      refine wpAnyH_done (by kernel_rfl) ?_ _
      clear hH
      go_wp2
      refine bodyPost_ret (res_r rfl _ WW (w.heap.size + 1) (I rc) (.string rt) (I e0) (I e1) (I e2) (I e3) (I e4) (I e5) (I e6) (I e7) (I e8) (I e9) (I e10) rfl (G.1.at 0 rfl) (G.1.at 1 rfl) (G.1.at 2 rfl) (G.1.at 3 rfl) (G.1.at 4 rfl) (G.1.at 5 rfl) (G.1.at 6 rfl) (G.1.at 7 rfl) (G.1.at 8 rfl) (G.1.at 9 rfl) (G.1.at 10 rfl) (G.1.at 11 rfl) (G.1.at 12 rfl)) rfl ⟨by rw [HR.out],G.2⟩
   ·have HR:Hid (lgR c ro now fresh p nonce pre=failR 2):=by show _=_;unfold lgR;rw [if_pos hro,hL];exact if_neg (fun h=>h8 h.2)
    have e8:(m == 8)=false:=by simpa using h8
    have q0:=QC.at 0 rfl
    go_wp2_with fail
    refine (spec_fail 2 _).mono ?_
    rintro en wf ⟨rfl,hbf⟩
    replace UC:=UC.later hbf UC.lt
    replace BC:=BC.trans (hbf.mono BC.size)
    clear hbf
    have FG:=show Hid _ from UC.fill13 BC (by omega) (I 2) (.string ⟨#[]⟩) (I 0) (I 0) (I 0) (I 0) (I 0) (I 0) (I 0) (I 0) (I 0) (I 0) (I 0)
    have r0:=UC.at 0 rfl
    have g0:=UC.fz 0 rfl
    have r1:=UC.at 1 rfl
    have g1:=UC.fz 1 rfl
    have r2:=UC.at 2 rfl
    have g2:=UC.fz 2 rfl
    have r3:=UC.at 3 rfl
    have g3:=UC.fz 3 rfl
    have r4:=UC.at 4 rfl
    have g4:=UC.fz 4 rfl
    have r5:=UC.at 5 rfl
    have g5:=UC.fz 5 rfl
    have r6:=UC.at 6 rfl
    have g6:=UC.fz 6 rfl
    have r7:=UC.at 7 rfl
    have g7:=UC.fz 7 rfl
    have r8:=UC.at 8 rfl
    have g8:=UC.fz 8 rfl
    have r9:=UC.at 9 rfl
    have g9:=UC.fz 9 rfl
    have r10:=UC.at 10 rfl
    have g10:=UC.fz 10 rfl
    have r11:=UC.at 11 rfl
    have g11:=UC.fz 11 rfl
    have r12:=UC.at 12 rfl
    have g12:=UC.fz 12 rfl
    clear UC BC
    rw [show (failR 2).val=.agg #[I 2,.string ⟨#[]⟩,I 0,I 0,I 0,I 0,I 0,I 0,I 0,I 0,I 0,I 0,I 0] from rfl]
    go_wp2
    have G:=FG.out
    obtain ⟨WW,hWW⟩:∃ WW,(World.setCell (World.setCell (World.setCell (World.setCell (World.setCell (World.setCell (World.setCell (World.setCell (World.setCell (World.setCell (World.setCell (World.setCell (World.setCell wf ⟨w.heap.size + 1,0,none⟩ (I 2)) ⟨w.heap.size + 1,1,none⟩ (.string ⟨#[]⟩)) ⟨w.heap.size + 1,2,none⟩ (I 0)) ⟨w.heap.size + 1,3,none⟩ (I 0)) ⟨w.heap.size + 1,4,none⟩ (I 0)) ⟨w.heap.size + 1,5,none⟩ (I 0)) ⟨w.heap.size + 1,6,none⟩ (I 0)) ⟨w.heap.size + 1,7,none⟩ (I 0)) ⟨w.heap.size + 1,8,none⟩ (I 0)) ⟨w.heap.size + 1,9,none⟩ (I 0)) ⟨w.heap.size + 1,10,none⟩ (I 0)) ⟨w.heap.size + 1,11,none⟩ (I 0)) ⟨w.heap.size + 1,12,none⟩ (I 0))=WW:=⟨_,rfl⟩
    rw [hWW] at G ⊢
    clear hWW FG
    refine bodyPost_ret (res_r rfl _ WW (w.heap.size + 1) (I 2) (.string ⟨#[]⟩) (I 0) (I 0) (I 0) (I 0) (I 0) (I 0) (I 0) (I 0) (I 0) (I 0) (I 0) rfl (G.1.at 0 rfl) (G.1.at 1 rfl) (G.1.at 2 rfl) (G.1.at 3 rfl) (G.1.at 4 rfl) (G.1.at 5 rfl) (G.1.at 6 rfl) (G.1.at 7 rfl) (G.1.at 8 rfl) (G.1.at 9 rfl) (G.1.at 10 rfl) (G.1.at 11 rfl) (G.1.at 12 rfl)) rfl ⟨by rw [HR.out];rfl,G.2⟩
  ·have HR:Hid (lgR c ro now fresh p nonce pre=failR 2):=by show _=_;unfold lgR;rw [if_pos hro,hL];exact if_neg (fun h=>h2 h.1)
   obtain ⟨a,cap,rfl,_,_⟩:=own_row (f:=Value.int .i64) ho
   have e2:((L.length:Int) == 2)=false:=by simp;omega
   clear ho HN
   cases b with
   | false =>
    go_wp2_with fail
    refine (spec_fail 2 _).mono ?_
    rintro en wf ⟨rfl,hbf⟩
    replace UC:=UC.later hbf UC.lt
    replace BC:=BC.trans (hbf.mono BC.size)
    clear hbf
    have FG:=show Hid _ from UC.fill13 BC (by omega) (I 2) (.string ⟨#[]⟩) (I 0) (I 0) (I 0) (I 0) (I 0) (I 0) (I 0) (I 0) (I 0) (I 0) (I 0)
    have r0:=UC.at 0 rfl
    have g0:=UC.fz 0 rfl
    have r1:=UC.at 1 rfl
    have g1:=UC.fz 1 rfl
    have r2:=UC.at 2 rfl
    have g2:=UC.fz 2 rfl
    have r3:=UC.at 3 rfl
    have g3:=UC.fz 3 rfl
    have r4:=UC.at 4 rfl
    have g4:=UC.fz 4 rfl
    have r5:=UC.at 5 rfl
    have g5:=UC.fz 5 rfl
    have r6:=UC.at 6 rfl
    have g6:=UC.fz 6 rfl
    have r7:=UC.at 7 rfl
    have g7:=UC.fz 7 rfl
    have r8:=UC.at 8 rfl
    have g8:=UC.fz 8 rfl
    have r9:=UC.at 9 rfl
    have g9:=UC.fz 9 rfl
    have r10:=UC.at 10 rfl
    have g10:=UC.fz 10 rfl
    have r11:=UC.at 11 rfl
    have g11:=UC.fz 11 rfl
    have r12:=UC.at 12 rfl
    have g12:=UC.fz 12 rfl
    clear UC BC
    rw [show (failR 2).val=.agg #[I 2,.string ⟨#[]⟩,I 0,I 0,I 0,I 0,I 0,I 0,I 0,I 0,I 0,I 0,I 0] from rfl]
    go_wp2
    have G:=FG.out
    obtain ⟨WW,hWW⟩:∃ WW,(World.setCell (World.setCell (World.setCell (World.setCell (World.setCell (World.setCell (World.setCell (World.setCell (World.setCell (World.setCell (World.setCell (World.setCell (World.setCell wf ⟨w.heap.size + 1,0,none⟩ (I 2)) ⟨w.heap.size + 1,1,none⟩ (.string ⟨#[]⟩)) ⟨w.heap.size + 1,2,none⟩ (I 0)) ⟨w.heap.size + 1,3,none⟩ (I 0)) ⟨w.heap.size + 1,4,none⟩ (I 0)) ⟨w.heap.size + 1,5,none⟩ (I 0)) ⟨w.heap.size + 1,6,none⟩ (I 0)) ⟨w.heap.size + 1,7,none⟩ (I 0)) ⟨w.heap.size + 1,8,none⟩ (I 0)) ⟨w.heap.size + 1,9,none⟩ (I 0)) ⟨w.heap.size + 1,10,none⟩ (I 0)) ⟨w.heap.size + 1,11,none⟩ (I 0)) ⟨w.heap.size + 1,12,none⟩ (I 0))=WW:=⟨_,rfl⟩
    rw [hWW] at G ⊢
    clear hWW FG
    refine bodyPost_ret (res_r rfl _ WW (w.heap.size + 1) (I 2) (.string ⟨#[]⟩) (I 0) (I 0) (I 0) (I 0) (I 0) (I 0) (I 0) (I 0) (I 0) (I 0) (I 0) rfl (G.1.at 0 rfl) (G.1.at 1 rfl) (G.1.at 2 rfl) (G.1.at 3 rfl) (G.1.at 4 rfl) (G.1.at 5 rfl) (G.1.at 6 rfl) (G.1.at 7 rfl) (G.1.at 8 rfl) (G.1.at 9 rfl) (G.1.at 10 rfl) (G.1.at 11 rfl) (G.1.at 12 rfl)) rfl ⟨by rw [HR.out];rfl,G.2⟩
   | true =>
    go_wp2_with fail
    refine (spec_fail 2 _).mono ?_
    rintro en wf ⟨rfl,hbf⟩
    replace UC:=UC.later hbf UC.lt
    replace BC:=BC.trans (hbf.mono BC.size)
    clear hbf
    have FG:=show Hid _ from UC.fill13 BC (by omega) (I 2) (.string ⟨#[]⟩) (I 0) (I 0) (I 0) (I 0) (I 0) (I 0) (I 0) (I 0) (I 0) (I 0) (I 0)
    have r0:=UC.at 0 rfl
    have g0:=UC.fz 0 rfl
    have r1:=UC.at 1 rfl
    have g1:=UC.fz 1 rfl
    have r2:=UC.at 2 rfl
    have g2:=UC.fz 2 rfl
    have r3:=UC.at 3 rfl
    have g3:=UC.fz 3 rfl
    have r4:=UC.at 4 rfl
    have g4:=UC.fz 4 rfl
    have r5:=UC.at 5 rfl
    have g5:=UC.fz 5 rfl
    have r6:=UC.at 6 rfl
    have g6:=UC.fz 6 rfl
    have r7:=UC.at 7 rfl
    have g7:=UC.fz 7 rfl
    have r8:=UC.at 8 rfl
    have g8:=UC.fz 8 rfl
    have r9:=UC.at 9 rfl
    have g9:=UC.fz 9 rfl
    have r10:=UC.at 10 rfl
    have g10:=UC.fz 10 rfl
    have r11:=UC.at 11 rfl
    have g11:=UC.fz 11 rfl
    have r12:=UC.at 12 rfl
    have g12:=UC.fz 12 rfl
    clear UC BC
    rw [show (failR 2).val=.agg #[I 2,.string ⟨#[]⟩,I 0,I 0,I 0,I 0,I 0,I 0,I 0,I 0,I 0,I 0,I 0] from rfl]
    go_wp2
    have G:=FG.out
    obtain ⟨WW,hWW⟩:∃ WW,(World.setCell (World.setCell (World.setCell (World.setCell (World.setCell (World.setCell (World.setCell (World.setCell (World.setCell (World.setCell (World.setCell (World.setCell (World.setCell wf ⟨w.heap.size + 1,0,none⟩ (I 2)) ⟨w.heap.size + 1,1,none⟩ (.string ⟨#[]⟩)) ⟨w.heap.size + 1,2,none⟩ (I 0)) ⟨w.heap.size + 1,3,none⟩ (I 0)) ⟨w.heap.size + 1,4,none⟩ (I 0)) ⟨w.heap.size + 1,5,none⟩ (I 0)) ⟨w.heap.size + 1,6,none⟩ (I 0)) ⟨w.heap.size + 1,7,none⟩ (I 0)) ⟨w.heap.size + 1,8,none⟩ (I 0)) ⟨w.heap.size + 1,9,none⟩ (I 0)) ⟨w.heap.size + 1,10,none⟩ (I 0)) ⟨w.heap.size + 1,11,none⟩ (I 0)) ⟨w.heap.size + 1,12,none⟩ (I 0))=WW:=⟨_,rfl⟩
    rw [hWW] at G ⊢
    clear hWW FG
    refine bodyPost_ret (res_r rfl _ WW (w.heap.size + 1) (I 2) (.string ⟨#[]⟩) (I 0) (I 0) (I 0) (I 0) (I 0) (I 0) (I 0) (I 0) (I 0) (I 0) (I 0) rfl (G.1.at 0 rfl) (G.1.at 1 rfl) (G.1.at 2 rfl) (G.1.at 3 rfl) (G.1.at 4 rfl) (G.1.at 5 rfl) (G.1.at 6 rfl) (G.1.at 7 rfl) (G.1.at 8 rfl) (G.1.at 9 rfl) (G.1.at 10 rfl) (G.1.at 11 rfl) (G.1.at 12 rfl)) rfl ⟨by rw [HR.out];rfl,G.2⟩
 ·have HR:Hid (lgR c realm now fresh p nonce pre=failR 1):=by show _=_;unfold lgR;rw [hro];exact if_neg h0
  have e0:(ro == realm)=false:=by simpa using h0
  go_wp2_with fail
  refine (spec_fail 1 _).mono ?_
  rintro en wf ⟨rfl,hbf⟩
  replace UC:=UC.later hbf UC.lt
  replace BC:=BC.trans (hbf.mono BC.size)
  clear hbf
  have FG:=show Hid _ from UC.fill13 BC (by omega) (I 1) (.string ⟨#[]⟩) (I 0) (I 0) (I 0) (I 0) (I 0) (I 0) (I 0) (I 0) (I 0) (I 0) (I 0)
  have r0:=UC.at 0 rfl
  have g0:=UC.fz 0 rfl
  have r1:=UC.at 1 rfl
  have g1:=UC.fz 1 rfl
  have r2:=UC.at 2 rfl
  have g2:=UC.fz 2 rfl
  have r3:=UC.at 3 rfl
  have g3:=UC.fz 3 rfl
  have r4:=UC.at 4 rfl
  have g4:=UC.fz 4 rfl
  have r5:=UC.at 5 rfl
  have g5:=UC.fz 5 rfl
  have r6:=UC.at 6 rfl
  have g6:=UC.fz 6 rfl
  have r7:=UC.at 7 rfl
  have g7:=UC.fz 7 rfl
  have r8:=UC.at 8 rfl
  have g8:=UC.fz 8 rfl
  have r9:=UC.at 9 rfl
  have g9:=UC.fz 9 rfl
  have r10:=UC.at 10 rfl
  have g10:=UC.fz 10 rfl
  have r11:=UC.at 11 rfl
  have g11:=UC.fz 11 rfl
  have r12:=UC.at 12 rfl
  have g12:=UC.fz 12 rfl
  clear UC BC
  rw [show (failR 1).val=.agg #[I 1,.string ⟨#[]⟩,I 0,I 0,I 0,I 0,I 0,I 0,I 0,I 0,I 0,I 0,I 0] from rfl]
  go_wp2
  have G:=FG.out
  obtain ⟨WW,hWW⟩:∃ WW,(World.setCell (World.setCell (World.setCell (World.setCell (World.setCell (World.setCell (World.setCell (World.setCell (World.setCell (World.setCell (World.setCell (World.setCell (World.setCell wf ⟨w.heap.size + 1,0,none⟩ (I 1)) ⟨w.heap.size + 1,1,none⟩ (.string ⟨#[]⟩)) ⟨w.heap.size + 1,2,none⟩ (I 0)) ⟨w.heap.size + 1,3,none⟩ (I 0)) ⟨w.heap.size + 1,4,none⟩ (I 0)) ⟨w.heap.size + 1,5,none⟩ (I 0)) ⟨w.heap.size + 1,6,none⟩ (I 0)) ⟨w.heap.size + 1,7,none⟩ (I 0)) ⟨w.heap.size + 1,8,none⟩ (I 0)) ⟨w.heap.size + 1,9,none⟩ (I 0)) ⟨w.heap.size + 1,10,none⟩ (I 0)) ⟨w.heap.size + 1,11,none⟩ (I 0)) ⟨w.heap.size + 1,12,none⟩ (I 0))=WW:=⟨_,rfl⟩
  rw [hWW] at G ⊢
  clear hWW FG
  refine bodyPost_ret (res_r rfl _ WW (w.heap.size + 1) (I 1) (.string ⟨#[]⟩) (I 0) (I 0) (I 0) (I 0) (I 0) (I 0) (I 0) (I 0) (I 0) (I 0) (I 0) rfl (G.1.at 0 rfl) (G.1.at 1 rfl) (G.1.at 2 rfl) (G.1.at 3 rfl) (G.1.at 4 rfl) (G.1.at 5 rfl) (G.1.at 6 rfl) (G.1.at 7 rfl) (G.1.at 8 rfl) (G.1.at 9 rfl) (G.1.at 10 rfl) (G.1.at 11 rfl) (G.1.at 12 rfl)) rfl ⟨by rw [HR.out];rfl,G.2⟩
end Go.Proofs.YtcaieniddnhkbaaGreatDoor
