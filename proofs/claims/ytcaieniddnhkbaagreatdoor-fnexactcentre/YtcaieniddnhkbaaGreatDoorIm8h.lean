/- Chapter 8: the ticket that a centre is shown, the program's. -/
import Derived.Test.YtcaieniddnhkbaaGreatDoorAb
import Derived.Test.YtcaieniddnhkbaaGreatDoorIm8g
import Derived.Test.YtcaieniddnhkbaaGreatDoorReg
import Derived.Maps.AppendAt
set_option linter.unusedVariables false
set_option maxRecDepth 100000
namespace Go.Proofs.YtcaieniddnhkbaaGreatDoor
open Go Go.RowKit Own Var Term
theorem Blk.grown {q:Nat} {vs:List Value} {w w':World} {row:Option Nat} (h:Blk q vs w) (hg:w.grownBy w' row) (hq:q < w.heap.size) (hne:some q≠row):Blk q vs w' :=
 ⟨fun i v e=>⟨(World.cell?_of_block (a:=⟨q,i,none⟩) (hg.block q hq hne)).trans (h.out i v e).1,(World.frozen?_of_block (a:=⟨q,i,none⟩) (hg.block q hq hne)).trans (h.out i v e).2⟩⟩
theorem below_grown {m:Nat} {W w w':World} {row:Option Nat} (h:Below m W w) (hg:w.grownBy w' row) (hm:m≤w.heap.size) (hne:∀ k,row=some k→m≤k):Below m W w' :=
 h.trans ⟨hg.os,hg.tape,hg.output,hg.size,fun k hk=>hg.block k (by omega) (fun e=>by have:=hne k e.symm;omega)⟩
theorem RowAt.sets8 {α:Type} {f:α→Value} {q:Nat} {a:Option Addr} {xs:List α} (hn:∀ p:Addr,a=some p→p.block≠q):∀ (vs:List Value) (i:Nat) (w:World),RowAt f w a xs→RowAt f (w.setCells q i vs) a xs
 | [],i,w,h=>h
 | v :: vs,i,w,h=>RowAt.sets8 hn vs (i+1) _ (h.set q i v hn)
theorem info_slice:∃ ie,Tryz.prog.info? 24=some ie∧ie.size=1:=by
 cases h:Tryz.prog.info? 24 with
 | none=>exact absurd h (by have:(Tryz.prog.info? 24).isSome=true:=(by kernel_rfl);rw [Option.isSome_iff_ne_none] at this;exact this)
 | some ie =>
  refine ⟨ie,rfl,?_⟩
  have:(Tryz.prog.info? 24).map (·.size)=some 1:=by kernel_rfl
  rw [h] at this
  exact Option.some.inj this
theorem rtP_len (s:ByteArray) (k:Int):(rtP s k).length≤12:=by
 unfold rtP
 split
 ·exact numsR_len _
 ·simp
theorem rtV_len (s:ByteArray) (k:Int):(rtV s k).length≤12:=by
 unfold rtV
 split
 ·exact numsR_len _
 ·simp
theorem sh_ck {c:Cf} {realm:Int} {s:ByteArray} (hr:0≤realm∧realm≤2) (h:rtK s (ckV realm)=true):shB c realm s=decide (rtN s (ckV realm) 1=10+realm)∧(shB c realm s=true→shK c realm s=ckV realm∧shP c realm s=rtP s (ckV realm)):=by
 by_cases e:rtN s (ckV realm) 1=10+realm
 ·have ho:shOk realm s (ckV realm)=true:=by unfold shOk;rw [h,decide_eq_true e];rfl
  obtain ⟨h1,h2,h3⟩:=sh_own (c:=c) ho
  refine ⟨by rw [h3,decide_eq_true e],fun _=>⟨h1,?_⟩⟩
  unfold shP
  rw [h1,h2,if_pos rfl,List.append_nil]
 ·have ho:shOk realm s (ckV realm)=false:=by unfold shOk;rw [h,decide_eq_false e];rfl
  have hl:∀ q,lkOk c realm s q=false:=fun q=>by unfold lkOk shOk;rw [lk_ck (c:=c) hr h];simp
  obtain ⟨_,_,h3⟩:=sh_none ho (hl 0) (hl 1) (hl 2)
  exact ⟨by rw [h3,decide_eq_false e],fun e2=>by rw [h3] at e2;cases e2⟩
theorem sh_lk {c:Cf} {realm q:Int} {s:ByteArray} (hr:0≤realm∧realm≤2) (hq:0≤q∧q≤2) (hk:rtK s (ckV realm)=false) (hm:(q,realm)∈c.L) (h:rtK s (lkV q realm)=true):shB c realm s=decide (rtN s (lkV q realm) 1=10+realm)∧(shB c realm s=true→shK c realm s=lkV q realm∧shP c realm s=rtP s (lkV q realm)++[q]):=by
 by_cases e:rtN s (lkV q realm) 1=10+realm
 ·have ho:shOk realm s (lkV q realm)=true:=by unfold shOk;rw [h,decide_eq_true e];rfl
  obtain ⟨h1,h2,h3⟩:=sh_link hr hq hm ho
  refine ⟨by rw [h3,decide_eq_true e],fun _=>⟨h1,?_⟩⟩
  unfold shP
  rw [h1,h2,if_neg (by omega)]
 ·have ho:shOk realm s (ckV realm)=false:=by unfold shOk;rw [hk];rfl
  have hl:∀ p,0≤p∧p≤2→lkOk c realm s p=false:=by
   intro p hp
   unfold lkOk shOk
   cases h1:rtK s (lkV p realm) with
   | false=>simp
   | true =>
    have:=lk_one hr hp hq h1 h
    subst this
    rw [decide_eq_false e]
    simp
  obtain ⟨_,_,h3⟩:=sh_none ho (hl 0 (by omega)) (hl 1 (by omega)) (hl 2 (by omega))
  exact ⟨by rw [h3,decide_eq_false e],fun e2=>by rw [h3] at e2;cases e2⟩
theorem sh_no {c:Cf} {realm:Int} {s:ByteArray} (hk:rtK s (ckV realm)=false) (h:∀ p∈c.L,¬ (rtK s (lkV p.1 p.2)=true∧p.2=realm)):shB c realm s=false:=by
 have ho:shOk realm s (ckV realm)=false:=by unfold shOk;rw [hk];rfl
 have hl:∀ p,lkOk c realm s p=false:=by
  intro p
  unfold lkOk shOk
  by_cases hm:(p,realm)∈c.L
  ·cases h1:rtK s (lkV p realm) with
   | false=>simp
   | true=>exact absurd ⟨h1,rfl⟩ (h _ hm)
  ·rw [decide_eq_false hm];rfl
 exact (sh_none ho (hl 0) (hl 1) (hl 2)).2.2
def ShRes (c:Cf) (realm:Int) (s:ByteArray) (w:World) (en:Ending) (w':World):Prop :=
 ∃ (x0 x1 x2 x3 x4 x5:Int) (pa:Option Addr) (P:List Int) (pc:Nat) (va:Option Addr) (V:List Int) (vc:Nat),en=.returned (.tuple #[tkV x0 x1 x2 x3 x4 x5 pa P.length pc va V.length vc,.bool (shB c realm s)]) ∧
  (shB c realm s=true→x0=rtN s (shK c realm s) 0∧x2=rtN s (shK c realm s) 2∧x3=rtN s (shK c realm s) 3∧x4=rtN s (shK c realm s) 4∧x5=rtN s (shK c realm s) 5∧P=shP c realm s∧V=rtV s (shK c realm s)) ∧
  P.length≤100∧V.length≤100∧RF w.heap.size w' pa P∧RF w.heap.size w' va V∧Below w.heap.size w w'
theorem conf_ul {c:Cf} (h:confB c=true) (p:Int × Int) (hp:p∈c.L):0≤p.1∧p.1≤2:=by
 obtain ⟨h1,_,_⟩:=conf_links h
 have:=h1 p hp
 omega
set_option maxHeartbeats 6400000 in
theorem shown_is (c:Cf) (realm now fresh:Int) (s:ByteArray) (w:World) (C:CfAt c w) (K:CfOk c) (hcf:confB c=true) (hr:0≤realm∧realm≤2) (hs:s.size≤1048576) :
  Calls Tryz.prog 115 #[cenV c realm now fresh,.string s] w (ShRes c realm s w):=by
 have zW:((w.alloc (.cells #[.slice c.ua c.U.length c.uc,.slice c.sa c.S.length c.sc,.slice c.la c.L.length c.lc,.slice c.xa c.X.length c.xc,I c.k,I realm,I now,I fresh] 70)).alloc (.cells #[I 0,I 0,I 0,I 0,I 0,I 0,.slice none 0 0,.slice none 0 0] 43)).heap.size=w.heap.size+2:=by simp
 obtain ⟨it,hit,htz⟩:=info_tick
 obtain ⟨is,his,hzs⟩:=info_slice
 obtain ⟨i0,hi,hz0,hz1,hz2⟩:=info_parts infoInt
 have BC:Below w.heap.size w ((w.alloc (.cells #[.slice c.ua c.U.length c.uc,.slice c.sa c.S.length c.sc,.slice c.la c.L.length c.lc,.slice c.xa c.X.length c.xc,I c.k,I realm,I now,I fresh] 70)).alloc (.cells #[I 0,I 0,I 0,I 0,I 0,I 0,.slice none 0 0,.slice none 0 0] 43)):=((Below.refl _ _).alloc (by simp <;> omega) _).alloc (by simp <;> omega) _
 have TC:Blk w.heap.size [.slice c.ua c.U.length c.uc,.slice c.sa c.S.length c.sc,.slice c.la c.L.length c.lc,.slice c.xa c.X.length c.xc,I c.k,I realm,I now,I fresh] ((w.alloc (.cells #[.slice c.ua c.U.length c.uc,.slice c.sa c.S.length c.sc,.slice c.la c.L.length c.lc,.slice c.xa c.X.length c.xc,I c.k,I realm,I now,I fresh] 70)).alloc (.cells #[I 0,I 0,I 0,I 0,I 0,I 0,.slice none 0 0,.slice none 0 0] 43)):=by have h_:=((Blk.new w #[.slice c.ua c.U.length c.uc,.slice c.sa c.S.length c.sc,.slice c.la c.L.length c.lc,.slice c.xa c.X.length c.xc,I c.k,I realm,I now,I fresh] 70).alloc (by simp <;> omega) (.cells #[I 0,I 0,I 0,I 0,I 0,I 0,.slice none 0 0,.slice none 0 0] 43));simpa using h_
 have UC:Blk (w.heap.size+1) [I 0,I 0,I 0,I 0,I 0,I 0,.slice none 0 0,.slice none 0 0] ((w.alloc (.cells #[.slice c.ua c.U.length c.uc,.slice c.sa c.S.length c.sc,.slice c.la c.L.length c.lc,.slice c.xa c.X.length c.xc,I c.k,I realm,I now,I fresh] 70)).alloc (.cells #[I 0,I 0,I 0,I 0,I 0,I 0,.slice none 0 0,.slice none 0 0] 43)):=by have h_:=(Blk.new (w.alloc (.cells #[.slice c.ua c.U.length c.uc,.slice c.sa c.S.length c.sc,.slice c.la c.L.length c.lc,.slice c.xa c.X.length c.xc,I c.k,I realm,I now,I fresh] 70)) #[I 0,I 0,I 0,I 0,I 0,I 0,.slice none 0 0,.slice none 0 0] 43);simpa using h_
 have q1_:=TC.at 5 rfl
 go_enter Tryz.func115,Tryz.ntmps115
 go_wp2_with fail
 refine (implCK_is realm _).mono ?_
 rintro en w2 ⟨rfl,rfl⟩
 clear q1_
 go_wp2_with fail
 refine (implReadT_is s (ckV realm) _ hs).mono ?_
 rintro en w3 ⟨ua,uc,va,vc,rfl,oP,oV,hA,hb⟩
 have z3:=hb.size
 replace TC:=TC.later hb TC.lt
 replace UC:=UC.later hb UC.lt
 replace BC:=BC.trans (hb.mono BC.size)
 clear hb
 have kP:=own_in oP
 have kV:=own_in oV
 rw [zW] at z3 kP kV
 have XA_:Below w3.heap.size w3 (w3.alloc (.cells #[I (rtN s (ckV realm) 0),I (rtN s (ckV realm) 1),I (rtN s (ckV realm) 2),I (rtN s (ckV realm) 3),I (rtN s (ckV realm) 4),I (rtN s (ckV realm) 5),.slice ua (rtP s (ckV realm)).length uc,.slice va (rtV s (ckV realm)).length vc] 43)):=(Below.refl _ _).alloc (Nat.le_refl _) _
 have TT:Blk w3.heap.size [I (rtN s (ckV realm) 0),I (rtN s (ckV realm) 1),I (rtN s (ckV realm) 2),I (rtN s (ckV realm) 3),I (rtN s (ckV realm) 4),I (rtN s (ckV realm) 5),.slice ua (rtP s (ckV realm)).length uc,.slice va (rtV s (ckV realm)).length vc] (w3.alloc (.cells #[I (rtN s (ckV realm) 0),I (rtN s (ckV realm) 1),I (rtN s (ckV realm) 2),I (rtN s (ckV realm) 3),I (rtN s (ckV realm) 4),I (rtN s (ckV realm) 5),.slice ua (rtP s (ckV realm)).length uc,.slice va (rtV s (ckV realm)).length vc] 43)):=Blk.new _ _ _
 replace TC:=TC.later XA_ TC.lt
 replace UC:=UC.later XA_ UC.lt
 replace BC:=BC.trans (XA_.mono BC.size)
 clear XA_
 have oP3:=oP.alloc (.cells #[I (rtN s (ckV realm) 0),I (rtN s (ckV realm) 1),I (rtN s (ckV realm) 2),I (rtN s (ckV realm) 3),I (rtN s (ckV realm) 4),I (rtN s (ckV realm) 5),.slice ua (rtP s (ckV realm)).length uc,.slice va (rtV s (ckV realm)).length vc] 43)
 have oV3:=oV.alloc (.cells #[I (rtN s (ckV realm) 0),I (rtN s (ckV realm) 1),I (rtN s (ckV realm) 2),I (rtN s (ckV realm) 3),I (rtN s (ckV realm) 4),I (rtN s (ckV realm) 5),.slice ua (rtP s (ckV realm)).length uc,.slice va (rtV s (ckV realm)).length vc] 43)
 obtain ⟨W4,hW4⟩:∃ Wz,(w3.alloc (.cells #[I (rtN s (ckV realm) 0),I (rtN s (ckV realm) 1),I (rtN s (ckV realm) 2),I (rtN s (ckV realm) 3),I (rtN s (ckV realm) 4),I (rtN s (ckV realm) 5),.slice ua (rtP s (ckV realm)).length uc,.slice va (rtV s (ckV realm)).length vc] 43))=Wz:=⟨_,rfl⟩
 rw [hW4] at TC UC TT BC
 rw [hW4] at oP3 oV3
 by_cases hk:rtK s (ckV realm)=true
 ·rw [hk]
  obtain ⟨hB,hY⟩:=sh_ck (c:=c) hr hk
  have HB:Hid (shB c realm s=decide (rtN s (ckV realm) 1=10+realm)):=hB
  have HY:Hid (shB c realm s=true→shK c realm s=ckV realm∧shP c realm s=rtP s (ckV realm)):=hY
  clear hB hY
  go_wp2_with fail
  try rw [hW4]
  clear hW4
  have RP:=own_rowAt oP3
  have RV:=own_rowAt oV3
  have X4:Below W4.heap.size W4 W4.drew:=(Below.refl _ _).drew
  replace TC:=TC.drew
  replace UC:=UC.drew
  replace TT:=TT.drew
  replace BC:=BC.drew
  refine wp_region_held_drew (S:=(fun Vw=>Blk w3.heap.size [I (rtN s (ckV realm) 0),I (rtN s (ckV realm) 1),I (rtN s (ckV realm) 2),I (rtN s (ckV realm) 3),I (rtN s (ckV realm) 4),I (rtN s (ckV realm) 5),.slice ua (rtP s (ckV realm)).length uc,.slice va (rtV s (ckV realm)).length vc] Vw∧Blk w.heap.size [.slice c.ua c.U.length c.uc,.slice c.sa c.S.length c.sc,.slice c.la c.L.length c.lc,.slice c.xa c.X.length c.xc,I c.k,I realm,I now,I fresh] Vw)) (by kernel_rfl) ⟨TT,TC⟩ (fun hH=>?_)
  refine tk 0 21 rfl _ hH (by intro w' h;have e0:=h.1.e8;have d0:=h.2.e8;go_simp;try with_reducible rfl) ?_
  try simp only [Act.put,pa,pb,pc]
  refine tk 1 22 rfl _ hH (by intro w' h;have e0:=h.1.e8;have d0:=h.2.e8;go_simp;try with_reducible rfl) ?_
  try simp only [Act.put,pa,pb,pc]
  refine tk 2 23 rfl _ hH (by intro w' h;have e0:=h.1.e8;have d0:=h.2.e8;go_simp;try with_reducible rfl) ?_
  try simp only [Act.put,pa,pb,pc]
  refine tk 3 24 rfl _ hH (by intro w' h;have e0:=h.1.e8;have d0:=h.2.e8;go_simp;try with_reducible rfl) ?_
  try simp only [Act.put,pa,pb,pc]
  refine wpAnyH_ready (rs:=[4]) (by kernel_rfl) (by simp) ?_
  refine AllReadyH.cons (i:=4) rfl (fun K hK=>?_) AllReadyH.nil
  go_simp
  refine (number_is c realm now fresh _ hr).mono ?_
  rintro en w5 ⟨rfl,hb⟩
  replace RP:=RowAt.later (w:=W4.drew) RP hb
  replace RV:=RowAt.later (w:=W4.drew) RV hb
  replace TC:=TC.later hb TC.lt
  replace UC:=UC.later hb UC.lt
  replace TT:=TT.later hb TT.lt
  replace BC:=BC.trans (hb.mono BC.size)
  clear hb
  go_wp2_with fail
  refine hK.out _ _ ⟨TT,TC⟩ (fun hJ=>?_)
  clear hK K hH
  have hH:=hJ
  clear hJ
  try simp only [Act.put,pa,pb,pc]
  refine tk 5 26 rfl _ hH (by intro w' h;have e0:=h.1.e8;have d0:=h.2.e8;go_simp;try with_reducible rfl) ?_
  try simp only [Act.put,pa,pb,pc]
  have N_:Blk (w.heap.size+1) [I (rtN s (ckV realm) 0),I (rtN s (ckV realm) 1),I (rtN s (ckV realm) 2),I (rtN s (ckV realm) 3),I (rtN s (ckV realm) 4),I (rtN s (ckV realm) 5),.slice ua (rtP s (ckV realm)).length uc,.slice va (rtV s (ckV realm)).length vc] ((w5).setCells (w.heap.size+1) 0 [I (rtN s (ckV realm) 0),I (rtN s (ckV realm) 1),I (rtN s (ckV realm) 2),I (rtN s (ckV realm) 3),I (rtN s (ckV realm) 4),I (rtN s (ckV realm) 5),.slice ua (rtP s (ckV realm)).length uc,.slice va (rtV s (ckV realm)).length vc]):=UC.part 0 [I (rtN s (ckV realm) 0),I (rtN s (ckV realm) 1),I (rtN s (ckV realm) 2),I (rtN s (ckV realm) 3),I (rtN s (ckV realm) 4),I (rtN s (ckV realm) 5),.slice ua (rtP s (ckV realm)).length uc,.slice va (rtV s (ckV realm)).length vc] _ (by simp) rfl
  have TC_:=Blk.farS (q:=(w.heap.size+1)) (by omega) [I (rtN s (ckV realm) 0),I (rtN s (ckV realm) 1),I (rtN s (ckV realm) 2),I (rtN s (ckV realm) 3),I (rtN s (ckV realm) 4),I (rtN s (ckV realm) 5),.slice ua (rtP s (ckV realm)).length uc,.slice va (rtV s (ckV realm)).length vc] 0 _ TC
  have TT_:=Blk.farS (q:=(w.heap.size+1)) (by omega) [I (rtN s (ckV realm) 0),I (rtN s (ckV realm) 1),I (rtN s (ckV realm) 2),I (rtN s (ckV realm) 3),I (rtN s (ckV realm) 4),I (rtN s (ckV realm) 5),.slice ua (rtP s (ckV realm)).length uc,.slice va (rtV s (ckV realm)).length vc] 0 _ TT
  have BC_:=below_sets (m:=w.heap.size) (g:=(w.heap.size+1)) (by omega) [I (rtN s (ckV realm) 0),I (rtN s (ckV realm) 1),I (rtN s (ckV realm) 2),I (rtN s (ckV realm) 3),I (rtN s (ckV realm) 4),I (rtN s (ckV realm) 5),.slice ua (rtP s (ckV realm)).length uc,.slice va (rtV s (ckV realm)).length vc] 0 _ BC
  refine wpAnyH_ready (rs:=[6]) (by kernel_rfl) (by simp) ?_
  refine AllReadyH.cons (i:=6) rfl (fun K hK=>?_) AllReadyH.nil
  refine stepB 43 _ _ ((w.heap.size+1)) 0 [I 0,I 0,I 0,I 0,I 0,I 0,.slice none 0 0,.slice none 0 0] [I (rtN s (ckV realm) 0),I (rtN s (ckV realm) 1),I (rtN s (ckV realm) 2),I (rtN s (ckV realm) 3),I (rtN s (ckV realm) 4),I (rtN s (ckV realm) 5),.slice ua (rtP s (ckV realm)).length uc,.slice va (rtV s (ckV realm)).length vc] it hit UC (by rw [htz];rfl) (by simp) rfl rfl rfl rfl rfl ?_
  try simp only [Act.put,pa]
  replace RP:=RowAt.sets8 (q:=(w.heap.size+1)) (fun p e=>by subst e;have:=kP p.block rfl;omega) [I (rtN s (ckV realm) 0),I (rtN s (ckV realm) 1),I (rtN s (ckV realm) 2),I (rtN s (ckV realm) 3),I (rtN s (ckV realm) 4),I (rtN s (ckV realm) 5),.slice ua (rtP s (ckV realm)).length uc,.slice va (rtV s (ckV realm)).length vc] 0 _ RP
  replace RV:=RowAt.sets8 (q:=(w.heap.size+1)) (fun p e=>by subst e;have:=kV p.block rfl;omega) [I (rtN s (ckV realm) 0),I (rtN s (ckV realm) 1),I (rtN s (ckV realm) 2),I (rtN s (ckV realm) 3),I (rtN s (ckV realm) 4),I (rtN s (ckV realm) 5),.slice ua (rtP s (ckV realm)).length uc,.slice va (rtV s (ckV realm)).length vc] 0 _ RV
  obtain ⟨VF,hVF⟩:∃ Wz,(w5).setCells ((w.heap.size+1)) 0 [I (rtN s (ckV realm) 0),I (rtN s (ckV realm) 1),I (rtN s (ckV realm) 2),I (rtN s (ckV realm) 3),I (rtN s (ckV realm) 4),I (rtN s (ckV realm) 5),.slice ua (rtP s (ckV realm)).length uc,.slice va (rtV s (ckV realm)).length vc]=Wz:=⟨_,rfl⟩
  rw [hVF] at RP RV N_ BC_ TC_ TT_ ⊢
  clear hVF UC BC TC TT
  have UC:=N_
  have BC:=BC_
  have TC:=TC_
  have TT:=TT_
  clear N_ BC_ TC_ TT_
  refine hK.out _ _ ⟨TT,TC⟩ (fun hJ=>?_)
  clear hK K hH
  have hH:=hJ
  clear hJ
  try simp only [Act.put,pa,pb,pc]
  refine tk 7 5 rfl _ hH (by intro w' h;have e0:=h.1.e8;have d0:=h.2.e8;go_simp;try with_reducible rfl) ?_
  try simp only [Act.put]
  refine wpAnyH_done (by kernel_rfl) ?_ _
  go_wp2
  refine bodyPost_ret (res_B2 rfl _ _ (w.heap.size+1) _ _ it hit ag43 UC (by rw [htz];rfl) rfl rfl) rfl ?_
  refine ⟨_,_,_,_,_,_,ua,rtP s (ckV realm),uc,va,rtV s (ckV realm),vc,by rw [HB.out];rfl,?_,Nat.le_trans (rtP_len _ _) (by omega),Nat.le_trans (rtV_len _ _) (by omega),⟨RP,fun p e=>by subst e;have:=kP p.block rfl;omega⟩,⟨RV,fun p e=>by subst e;have:=kV p.block rfl;omega⟩,BC⟩
  intro e
  obtain ⟨e1,e2⟩:=HY.out e
  rw [e1,e2]
  exact ⟨rfl,rfl,rfl,rfl,rfl,rfl,rfl⟩
 ·rw [Bool.not_eq_true] at hk
  rw [hk]
  clear TT oP oV oP3 oV3 kP kV hA
  have q2_:=TC.at 2 rfl
  have hcl:c.L.length≤1048576:=K.ll
  go_wp2_with fail
  try rw [hW4]
  clear hW4
  clear q2_
  go_loopw [31] (fun i wr=>∃ k:Nat,k≤c.L.length∧i=I k∧Hid (∀ p∈c.L.take k,¬ (rtK s (lkV p.1 p.2)=true∧p.2=realm))∧Below w.heap.size w wr∧Blk w.heap.size [.slice c.ua c.U.length c.uc,.slice c.sa c.S.length c.sc,.slice c.la c.L.length c.lc,.slice c.xa c.X.length c.xc,I c.k,I realm,I now,I fresh] wr∧Blk (w.heap.size+1) [I 0,I 0,I 0,I 0,I 0,I 0,.slice none 0 0,.slice none 0 0] wr) (fun i _=>c.L.length - (intOf i).toNat)
  case atStart=>exact ⟨0,by omega,rfl,(show ∀ p∈c.L.take 0,_ by simp),BC,TC,UC⟩
  case round =>
   clear BC TC UC
   obtain ⟨k,hkl,rfl,hno,BC,TC,UC⟩:=hrel
   have Zr:Hid (w.heap.size+2≤wr.heap.size):=UC.lt
   by_cases hlt:k < c.L.length
   ·obtain ⟨b1,o1,hla,l1,h0,h1⟩:=C.hl k hlt
    rw [← BC.cell (p:=⟨b1,o1+k * 2,none⟩) l1] at h0
    rw [← BC.cell (p:=⟨b1,o1+k * 2+1,none⟩) l1] at h1
    have hlt2:(k:Int) < (c.L.length:Int):=by omega
    have hm:(c.L[k].1,c.L[k].2)∈c.L:=List.getElem_mem hlt
    have hu:=conf_ul hcf _ hm
    have HM:Hid ((c.L[k].1,c.L[k].2)∈c.L):=hm
    have HS:Hid (¬ (rtK s (lkV c.L[k].1 c.L[k].2)=true∧c.L[k].2=realm)→∀ p∈c.L.take (k+1),¬ (rtK s (lkV p.1 p.2)=true∧p.2=realm)):=fun hn p hp=>by
     rcases (mem_take_succ hlt _).1 hp with h | h
     ·exact hno.out p h
     ·rw [h];exact hn
    clear hm hno
    generalize c.L[k].1=qa at h0 hu HM HS
    generalize c.L[k].2=qb at h1 hu HM HS
    have XA_:Below wr.heap.size wr (wr.alloc (.cells #[I qa,I qb] 107)):=(Below.refl _ _).alloc (Nat.le_refl _) _
    have LC:Blk wr.heap.size [I qa,I qb] (wr.alloc (.cells #[I qa,I qb] 107)):=Blk.new _ _ _
    replace TC:=TC.later XA_ TC.lt
    replace UC:=UC.later XA_ UC.lt
    replace BC:=BC.trans (XA_.mono BC.size)
    clear XA_
    obtain ⟨W5,hW5⟩:∃ Wz,(wr.alloc (.cells #[I qa,I qb] 107))=Wz:=⟨_,rfl⟩
    rw [hW5] at TC UC LC BC
    have Z5:Hid (W5.heap.size=wr.heap.size+1):=by show _=_;rw [← hW5];simp
    have q3_:=LC.at 0 rfl
    have q4_:=LC.at 1 rfl
    go_wp2_with fail
    try rw [hW5]
    refine (implLK_is qa qb _).mono ?_
    rintro en w6 ⟨rfl,rfl⟩
    go_wp2_with fail
    try rw [hW5]
    refine (implReadT_is s (lkV qa qb) _ hs).mono ?_
    rintro en w7 ⟨ua,uc,va,vc,rfl,oP,oV,hA,hb⟩
    have z7:=hb.size
    replace TC:=TC.later hb TC.lt
    replace UC:=UC.later hb UC.lt
    replace LC:=LC.later hb LC.lt
    replace BC:=BC.trans (hb.mono BC.size)
    clear hb
    clear q3_ q4_ hW5
    have HLA:Hid (c.la=some ⟨b1,o1,none⟩):=hla
    clear h0 h1 hla l1
    have kP:=own_in oP
    have kV:=own_in oV
    have XA_:Below w7.heap.size w7 (w7.alloc (.cells #[I (rtN s (lkV qa qb) 0),I (rtN s (lkV qa qb) 1),I (rtN s (lkV qa qb) 2),I (rtN s (lkV qa qb) 3),I (rtN s (lkV qa qb) 4),I (rtN s (lkV qa qb) 5),.slice ua (rtP s (lkV qa qb)).length uc,.slice va (rtV s (lkV qa qb)).length vc] 43)):=(Below.refl _ _).alloc (Nat.le_refl _) _
    have TT:Blk w7.heap.size [I (rtN s (lkV qa qb) 0),I (rtN s (lkV qa qb) 1),I (rtN s (lkV qa qb) 2),I (rtN s (lkV qa qb) 3),I (rtN s (lkV qa qb) 4),I (rtN s (lkV qa qb) 5),.slice ua (rtP s (lkV qa qb)).length uc,.slice va (rtV s (lkV qa qb)).length vc] (w7.alloc (.cells #[I (rtN s (lkV qa qb) 0),I (rtN s (lkV qa qb) 1),I (rtN s (lkV qa qb) 2),I (rtN s (lkV qa qb) 3),I (rtN s (lkV qa qb) 4),I (rtN s (lkV qa qb) 5),.slice ua (rtP s (lkV qa qb)).length uc,.slice va (rtV s (lkV qa qb)).length vc] 43)):=Blk.new _ _ _
    replace TC:=TC.later XA_ TC.lt
    replace UC:=UC.later XA_ UC.lt
    replace LC:=LC.later XA_ LC.lt
    replace BC:=BC.trans (XA_.mono BC.size)
    clear XA_
    have oP3:=oP.alloc (.cells #[I (rtN s (lkV qa qb) 0),I (rtN s (lkV qa qb) 1),I (rtN s (lkV qa qb) 2),I (rtN s (lkV qa qb) 3),I (rtN s (lkV qa qb) 4),I (rtN s (lkV qa qb) 5),.slice ua (rtP s (lkV qa qb)).length uc,.slice va (rtV s (lkV qa qb)).length vc] 43)
    have oV3:=oV.alloc (.cells #[I (rtN s (lkV qa qb) 0),I (rtN s (lkV qa qb) 1),I (rtN s (lkV qa qb) 2),I (rtN s (lkV qa qb) 3),I (rtN s (lkV qa qb) 4),I (rtN s (lkV qa qb) 5),.slice ua (rtP s (lkV qa qb)).length uc,.slice va (rtV s (lkV qa qb)).length vc] 43)
    obtain ⟨W8,hW8⟩:∃ Wz,(w7.alloc (.cells #[I (rtN s (lkV qa qb) 0),I (rtN s (lkV qa qb) 1),I (rtN s (lkV qa qb) 2),I (rtN s (lkV qa qb) 3),I (rtN s (lkV qa qb) 4),I (rtN s (lkV qa qb) 5),.slice ua (rtP s (lkV qa qb)).length uc,.slice va (rtV s (lkV qa qb)).length vc] 43))=Wz:=⟨_,rfl⟩
    rw [hW8] at TC UC LC TT BC
    rw [hW8] at oP3 oV3
    have z8:Hid (W8.heap.size=w7.heap.size+1):=by show _=_;rw [← hW8];simp
    skip
    clear oP oV
    have q5_:=LC.at 1 rfl
    have q6_:=TC.at 5 rfl
    by_cases hk2:rtK s (lkV qa qb)=true
    ·rw [hk2]
     by_cases hb2:qb=realm
     ·subst hb2
      obtain ⟨hB,hY⟩:=sh_lk hr hu hk HM.out hk2
      have HB:Hid (shB c qb s=decide (rtN s (lkV qa qb) 1=10+qb)):=hB
      have HY:Hid (shB c qb s=true→shK c qb s=lkV qa qb∧shP c qb s=rtP s (lkV qa qb)++[qa]):=hY
      clear hB hY HS HM
      have q7_:=TT.at 6 rfl
      have q8_:=LC.at 0 rfl
      go_wp2_with (first | (at_builtin;go_loud (refine wpList_append_own_at _ rfl _ _ 24 rfl W5.heap.size 3 i0 (I 0) 1 8 Tryz.underlying24 hi hz0 hz1 hz2 rfl (by decide) _ _ _ rfl (oP3.alloc _) ⟨W8.heap.size,0,none⟩ 1 1 [I qa] rfl rfl (cell_one_new _ _ _) ?c2 ?c3 ?c4 ?c5 ?_)) | (rw [hW8]))
      case c2=>intro u hu;simp at hu;subst hu;rfl
      case c3=>have:=rtP_len s (lkV qa qb);unfold maxLen;omega
      case c4=>have:=rtP_len s (lkV qa qb);omega
      case c5=>have:=z8.out;simp;omega
      intro v9 w9 o9 hg9 _ hw9
      have hgz:=hg9.size
      rw [World.size_alloc] at hgz
      have z8_:=z8.out
      have z5_:wr.heap.size+1≤W5.heap.size:=by have:=Z5.out;omega
      have zr_:=Zr.out
      rw [show intV (rtP s (lkV qa qb))++[I qa]=intV (rtP s (lkV qa qb)++[qa]) by unfold intV;rw [List.map_append];rfl] at o9
      have hrow:∀ k,(Value.slice ua (rtP s (lkV qa qb)).length uc).ownBlock=some k→W5.heap.size≤k∧k < w7.heap.size:=kP
      replace TC:=(TC.alloc TC.lt (.cells #[I qa] 3)).grown hg9 (by have:=TC.lt;simp;omega) (fun e=>by have:=hrow _ e.symm;have:=UC.lt;omega)
      replace UC:=(UC.alloc UC.lt (.cells #[I qa] 3)).grown hg9 (by have:=UC.lt;simp;omega) (fun e=>by have:=hrow _ e.symm;have:=UC.lt;omega)
      replace TT:=(TT.alloc TT.lt (.cells #[I qa] 3)).grown hg9 (by have:=TT.lt;simp;omega) (fun e=>by have:=hrow _ e.symm;have:=UC.lt;omega)
      replace LC:=(LC.alloc LC.lt (.cells #[I qa] 3)).grown hg9 (by have:=LC.lt;simp;omega) (fun e=>by have:=hrow _ e.symm;have:=UC.lt;omega)
      have zz:=BC.size
      replace BC:=below_grown (BC.alloc BC.size (.cells #[I qa] 3)) hg9 (by simp;omega) (fun k e=>by have:=hrow k e;omega)
      have o9V:=(oV3.alloc (.cells #[I qa] 3)).kept hg9 (by cases hv:(Value.slice va (rtV s (lkV qa qb)).length vc).ownBlock with | none=>exact Or.inl rfl | some k=>right;intro e;exact hA k e.symm hv)
      obtain ⟨pa,pc,hv9,hpc,RP⟩:=own_row (f:=Value.int .i64) (xs:=rtP s (lkV qa qb)++[qa]) o9
      have e_:(rtP s (lkV qa qb)++[qa]).length=(rtP s (lkV qa qb)).length+1:=by simp
      rw [e_] at hv9 hpc
      subst hv9
      have E_:Hid ((rtP s (lkV qa qb)++[qa]).length=(rtP s (lkV qa qb)).length+1):=e_
      clear e_
      have RV:=own_rowAt o9V
      have nP:∀ p:Addr,pa=some p→w.heap.size+2≤p.block∧p.block≠w7.heap.size:=fun p e=>by
       subst e
       have hb_:=(own_in o9 p.block rfl).1
       rcases hw9 with h | h
       ·have:=hrow p.block h.symm;omega
       ·have h2:some p.block=some (W8.heap.size+1):=h
        rw [Option.some.injEq] at h2
        omega
      have nV:∀ p:Addr,va=some p→w.heap.size+2≤p.block∧p.block≠w7.heap.size:=fun p e=>by
       subst e
       have:=kV p.block rfl
       omega
      clear o9 o9V hg9 hw9 oP3 oV3 hA hrow kP kV
      replace RP:=RowAt.sets8 (q:=w7.heap.size) (fun p e=>(nP p e).2) [.slice pa ((rtP s (lkV qa qb)).length+1) pc] 6 _ RP
      replace RV:=RowAt.sets8 (q:=w7.heap.size) (fun p e=>(nV p e).2) [.slice pa ((rtP s (lkV qa qb)).length+1) pc] 6 _ RV
      obtain ⟨WA,hWA⟩:∃ Wz,(World.setCells w9 w7.heap.size 6 [.slice pa ((rtP s (lkV qa qb)).length+1) pc])=Wz:=⟨_,rfl⟩
      have TT_:Blk w7.heap.size [I (rtN s (lkV qa qb) 0),I (rtN s (lkV qa qb) 1),I (rtN s (lkV qa qb) 2),I (rtN s (lkV qa qb) 3),I (rtN s (lkV qa qb) 4),I (rtN s (lkV qa qb) 5),.slice pa ((rtP s (lkV qa qb)).length+1) pc,.slice va (rtV s (lkV qa qb)).length vc] WA:=by rw [← hWA];exact TT.part 6 [.slice pa ((rtP s (lkV qa qb)).length+1) pc] _ (by simp) rfl
      have TC_:=hWA ▸ Blk.farS (q:=w7.heap.size) (by omega) [.slice pa ((rtP s (lkV qa qb)).length+1) pc] 6 _ TC
      have UC_:=hWA ▸ Blk.farS (q:=w7.heap.size) (by omega) [.slice pa ((rtP s (lkV qa qb)).length+1) pc] 6 _ UC
      have LC_:=hWA ▸ Blk.farS (q:=w7.heap.size) (by omega) [.slice pa ((rtP s (lkV qa qb)).length+1) pc] 6 _ LC
      have BC_:Below w.heap.size w WA:=by rw [← hWA];exact below_sets (g:=w7.heap.size) (by omega) [.slice pa ((rtP s (lkV qa qb)).length+1) pc] 6 _ BC
      have TT0WA:=TT
      clear TC UC LC TT BC
      have TC:=TC_
      have UC:=UC_
      have LC:=LC_
      have TT:=TT_
      have BC:=BC_
      clear TC_ UC_ LC_ TT_ BC_
      rw [hWA] at RP RV
      go_wp2_with (first | (refine wpList_st1 24 _ _ w7.heap.size 6 _ (.slice pa ((rtP s (lkV qa qb)).length+1) pc) is his TT0WA hzs (by simp) rfl rfl rfl rfl rfl ?_;try simp only [Act.put];rw [hWA]))
      clear TT0WA hWA
      replace TC:=TC.drew
      replace UC:=UC.drew
      replace TT:=TT.drew
      replace BC:=BC.drew
      refine wp_region_held_drew (S:=(fun Vw=>Blk w7.heap.size [I (rtN s (lkV qa qb) 0),I (rtN s (lkV qa qb) 1),I (rtN s (lkV qa qb) 2),I (rtN s (lkV qa qb) 3),I (rtN s (lkV qa qb) 4),I (rtN s (lkV qa qb) 5),.slice pa ((rtP s (lkV qa qb)).length+1) pc,.slice va (rtV s (lkV qa qb)).length vc] Vw∧Blk w.heap.size [.slice c.ua c.U.length c.uc,.slice c.sa c.S.length c.sc,.slice c.la c.L.length c.lc,.slice c.xa c.X.length c.xc,I c.k,I qb,I now,I fresh] Vw)) (by kernel_rfl) ⟨TT,TC⟩ (fun hH=>?_)
      refine tk 0 60 rfl _ hH (by intro w' h;have e0:=h.1.e8;have d0:=h.2.e8;go_simp;try with_reducible rfl) ?_
      try simp only [Act.put,pa,pb,pc]
      refine tk 1 61 rfl _ hH (by intro w' h;have e0:=h.1.e8;have d0:=h.2.e8;go_simp;try with_reducible rfl) ?_
      try simp only [Act.put,pa,pb,pc]
      refine tk 2 62 rfl _ hH (by intro w' h;have e0:=h.1.e8;have d0:=h.2.e8;go_simp;try with_reducible rfl) ?_
      try simp only [Act.put,pa,pb,pc]
      refine tk 3 63 rfl _ hH (by intro w' h;have e0:=h.1.e8;have d0:=h.2.e8;go_simp;try with_reducible rfl) ?_
      try simp only [Act.put,pa,pb,pc]
      refine wpAnyH_ready (rs:=[4]) (by kernel_rfl) (by simp) ?_
      refine AllReadyH.cons (i:=4) rfl (fun K hK=>?_) AllReadyH.nil
      go_simp
      refine (number_is c qb now fresh _ hr).mono ?_
      rintro en wb ⟨rfl,hb⟩
      replace RP:=RowAt.later (w:=WA.drew) RP hb
      replace RV:=RowAt.later (w:=WA.drew) RV hb
      replace TC:=TC.later hb TC.lt
      replace UC:=UC.later hb UC.lt
      replace TT:=TT.later hb TT.lt
      replace BC:=BC.trans (hb.mono BC.size)
      clear hb
      go_wp2_with fail
      refine hK.out _ _ ⟨TT,TC⟩ (fun hJ=>?_)
      clear hK K hH
      have hH:=hJ
      clear hJ
      try simp only [Act.put,pa,pb,pc]
      refine tk 5 65 rfl _ hH (by intro w' h;have e0:=h.1.e8;have d0:=h.2.e8;go_simp;try with_reducible rfl) ?_
      try simp only [Act.put,pa,pb,pc]
      have N_:Blk (w.heap.size+1) [I (rtN s (lkV qa qb) 0),I (rtN s (lkV qa qb) 1),I (rtN s (lkV qa qb) 2),I (rtN s (lkV qa qb) 3),I (rtN s (lkV qa qb) 4),I (rtN s (lkV qa qb) 5),.slice pa ((rtP s (lkV qa qb)).length+1) pc,.slice va (rtV s (lkV qa qb)).length vc] ((wb).setCells (w.heap.size+1) 0 [I (rtN s (lkV qa qb) 0),I (rtN s (lkV qa qb) 1),I (rtN s (lkV qa qb) 2),I (rtN s (lkV qa qb) 3),I (rtN s (lkV qa qb) 4),I (rtN s (lkV qa qb) 5),.slice pa ((rtP s (lkV qa qb)).length+1) pc,.slice va (rtV s (lkV qa qb)).length vc]):=UC.part 0 [I (rtN s (lkV qa qb) 0),I (rtN s (lkV qa qb) 1),I (rtN s (lkV qa qb) 2),I (rtN s (lkV qa qb) 3),I (rtN s (lkV qa qb) 4),I (rtN s (lkV qa qb) 5),.slice pa ((rtP s (lkV qa qb)).length+1) pc,.slice va (rtV s (lkV qa qb)).length vc] _ (by simp) rfl
      have TC_:=Blk.farS (q:=(w.heap.size+1)) (by omega) [I (rtN s (lkV qa qb) 0),I (rtN s (lkV qa qb) 1),I (rtN s (lkV qa qb) 2),I (rtN s (lkV qa qb) 3),I (rtN s (lkV qa qb) 4),I (rtN s (lkV qa qb) 5),.slice pa ((rtP s (lkV qa qb)).length+1) pc,.slice va (rtV s (lkV qa qb)).length vc] 0 _ TC
      have TT_:=Blk.farS (q:=(w.heap.size+1)) (by omega) [I (rtN s (lkV qa qb) 0),I (rtN s (lkV qa qb) 1),I (rtN s (lkV qa qb) 2),I (rtN s (lkV qa qb) 3),I (rtN s (lkV qa qb) 4),I (rtN s (lkV qa qb) 5),.slice pa ((rtP s (lkV qa qb)).length+1) pc,.slice va (rtV s (lkV qa qb)).length vc] 0 _ TT
      have BC_:=below_sets (m:=w.heap.size) (g:=(w.heap.size+1)) (by omega) [I (rtN s (lkV qa qb) 0),I (rtN s (lkV qa qb) 1),I (rtN s (lkV qa qb) 2),I (rtN s (lkV qa qb) 3),I (rtN s (lkV qa qb) 4),I (rtN s (lkV qa qb) 5),.slice pa ((rtP s (lkV qa qb)).length+1) pc,.slice va (rtV s (lkV qa qb)).length vc] 0 _ BC
      refine wpAnyH_ready (rs:=[6]) (by kernel_rfl) (by simp) ?_
      refine AllReadyH.cons (i:=6) rfl (fun K hK=>?_) AllReadyH.nil
      refine stepB 43 _ _ ((w.heap.size+1)) 0 [I 0,I 0,I 0,I 0,I 0,I 0,.slice none 0 0,.slice none 0 0] [I (rtN s (lkV qa qb) 0),I (rtN s (lkV qa qb) 1),I (rtN s (lkV qa qb) 2),I (rtN s (lkV qa qb) 3),I (rtN s (lkV qa qb) 4),I (rtN s (lkV qa qb) 5),.slice pa ((rtP s (lkV qa qb)).length+1) pc,.slice va (rtV s (lkV qa qb)).length vc] it hit UC (by rw [htz];rfl) (by simp) rfl rfl rfl rfl rfl ?_
      try simp only [Act.put,pa,pb,pc]
      replace RP:=RowAt.sets8 (q:=(w.heap.size+1)) (fun p e=>by have:=(nP p e).1;omega) [I (rtN s (lkV qa qb) 0),I (rtN s (lkV qa qb) 1),I (rtN s (lkV qa qb) 2),I (rtN s (lkV qa qb) 3),I (rtN s (lkV qa qb) 4),I (rtN s (lkV qa qb) 5),.slice pa ((rtP s (lkV qa qb)).length+1) pc,.slice va (rtV s (lkV qa qb)).length vc] 0 _ RP
      replace RV:=RowAt.sets8 (q:=(w.heap.size+1)) (fun p e=>by have:=(nV p e).1;omega) [I (rtN s (lkV qa qb) 0),I (rtN s (lkV qa qb) 1),I (rtN s (lkV qa qb) 2),I (rtN s (lkV qa qb) 3),I (rtN s (lkV qa qb) 4),I (rtN s (lkV qa qb) 5),.slice pa ((rtP s (lkV qa qb)).length+1) pc,.slice va (rtV s (lkV qa qb)).length vc] 0 _ RV
      obtain ⟨VF,hVF⟩:∃ Wz,(wb).setCells ((w.heap.size+1)) 0 [I (rtN s (lkV qa qb) 0),I (rtN s (lkV qa qb) 1),I (rtN s (lkV qa qb) 2),I (rtN s (lkV qa qb) 3),I (rtN s (lkV qa qb) 4),I (rtN s (lkV qa qb) 5),.slice pa ((rtP s (lkV qa qb)).length+1) pc,.slice va (rtV s (lkV qa qb)).length vc]=Wz:=⟨_,rfl⟩
      rw [hVF] at RP RV N_ BC_ TC_ TT_ ⊢
      clear hVF UC BC TC TT
      have UC:=N_
      have BC:=BC_
      have TC:=TC_
      have TT:=TT_
      clear N_ BC_ TC_ TT_
      refine hK.out _ _ ⟨TT,TC⟩ (fun hJ=>?_)
      clear hK K hH
      have hH:=hJ
      clear hJ
      try simp only [Act.put,pa,pb,pc]
      refine tk 7 5 rfl _ hH (by intro w' h;have e0:=h.1.e8;have d0:=h.2.e8;go_simp;try with_reducible rfl) ?_
      try simp only [Act.put,pa,pb,pc]
      refine wpAnyH_done (by kernel_rfl) ?_ _
      go_wp2
      refine bodyPost_ret (res_B2 rfl _ _ (w.heap.size+1) _ _ it hit ag43 UC (by rw [htz];rfl) rfl rfl) rfl ?_
      refine ⟨_,_,_,_,_,_,pa,rtP s (lkV qa qb)++[qa],pc,va,rtV s (lkV qa qb),vc,by rw [HB.out,E_.out];rfl,?_,by have:=rtP_len s (lkV qa qb);rw [List.length_append];simp;omega,Nat.le_trans (rtV_len _ _) (by omega),⟨RP,fun p e=>by have:=(nP p e).1;omega⟩,⟨RV,fun p e=>by have:=(nV p e).1;omega⟩,BC⟩
      intro e
      obtain ⟨e1,e2⟩:=HY.out e
      rw [e1,e2]
      exact ⟨rfl,rfl,rfl,rfl,rfl,rfl,rfl⟩
     ·have HS2:=show Hid _ from HS.out (fun h=>hb2 h.2)
      go_wp2
      try rw [hW8]
      try rw [← HLA.out]
      go_roundw
      case rel =>
       have R:∃ k2:Nat,k2≤c.L.length∧Value.int .i64 ((k:Int)+1)=I (k2:Int)∧Hid (∀ p∈c.L.take k2,¬ (rtK s (lkV p.1 p.2)=true∧p.2=realm))∧Below w.heap.size w W8∧Blk w.heap.size [.slice c.ua c.U.length c.uc,.slice c.sa c.S.length c.sc,.slice c.la c.L.length c.lc,.slice c.xa c.X.length c.xc,I c.k,I realm,I now,I fresh] W8∧Blk (w.heap.size+1) [I 0,I 0,I 0,I 0,I 0,I 0,.slice none 0 0,.slice none 0 0] W8:=⟨k+1,by omega,by go_num,HS2,BC,TC,UC⟩
       first | exact R | ((repeat apply Exists.intro);exact ⟨R,rfl⟩)
      case measure=>simp [intOf];omega
    ·rw [Bool.not_eq_true] at hk2
     rw [hk2]
     have HS2:=show Hid _ from HS.out (fun h=>by rw [hk2] at h;cases h.1)
     go_wp2
     try rw [hW8]
     try rw [← HLA.out]
     go_roundw
     case rel =>
      have R:∃ k2:Nat,k2≤c.L.length∧Value.int .i64 ((k:Int)+1)=I (k2:Int)∧Hid (∀ p∈c.L.take k2,¬ (rtK s (lkV p.1 p.2)=true∧p.2=realm))∧Below w.heap.size w W8∧Blk w.heap.size [.slice c.ua c.U.length c.uc,.slice c.sa c.S.length c.sc,.slice c.la c.L.length c.lc,.slice c.xa c.X.length c.xc,I c.k,I realm,I now,I fresh] W8∧Blk (w.heap.size+1) [I 0,I 0,I 0,I 0,I 0,I 0,.slice none 0 0,.slice none 0 0] W8:=⟨k+1,by omega,by go_num,HS2,BC,TC,UC⟩
      first | exact R | ((repeat apply Exists.intro);exact ⟨R,rfl⟩)
     case measure=>simp [intOf];omega
   ·obtain rfl:k=c.L.length:=by omega
    have HB:Hid (shB c realm s=false):=sh_no hk (by have h_:=hno.out;rwa [List.take_length] at h_)
    have FU:=UC.sets [I 0,I 0,I 0,I 0,I 0,I 0,.slice none 0 0,.slice none 0 0] rfl
    have FB:=below_sets (m:=w.heap.size) (g:=(w.heap.size+1)) (by omega) [I 0,I 0,I 0,I 0,I 0,I 0,.slice none 0 0,.slice none 0 0] 0 _ BC
    go_wp2_with (refine wpList_stB 43 _ _ (w.heap.size+1) 0 _ [I 0,I 0,I 0,I 0,I 0,I 0,.slice none 0 0,.slice none 0 0] it hit UC (by rw [htz];rfl) (by simp) rfl rfl rfl rfl rfl ?_;try simp only [Act.put])
    refine bodyPost_ret (res_B2 rfl _ _ (w.heap.size+1) _ _ it hit ag43 FU (by rw [htz];rfl) rfl rfl) rfl ?_
    refine ⟨0,0,0,0,0,0,none,[],0,none,[],0,by rw [HB.out];rfl,?_,by simp,by simp,RF.none _ _,RF.none _ _,FB⟩
    intro e
    rw [HB.out] at e
    cases e
end Go.Proofs.YtcaieniddnhkbaaGreatDoor
