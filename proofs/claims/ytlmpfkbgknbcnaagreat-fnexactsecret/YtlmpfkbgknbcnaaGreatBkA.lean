/- The iterator over a chain, from its end to its beginning. -/
import Derived.Test.YtlmpfkbgknbcnaaGreatAb
import Derived.Test.YtlmpfkbgknbcnaaGreatPl
import Derived.RangeFuncNested
import Derived.RangeFuncBound
import Derived.RangeFuncCalls
import Derived.RangeFuncLeaves
import Derived.WalkKit
import Derived.OwnWalkIn
import Derived.TacticsInMore
import Derived.LoopNIn
import Derived.LoopIn
import Derived.Shelf.Abstract
import Derived.Maps.AppendAt
set_option linter.unusedVariables false
set_option maxRecDepth 100000
namespace Go.Proofs.YtlmpfkbgknbcnaaGreat.Nd
open Go Go.RowKit Go.Joins Go.Shelf Own Draw
attribute [local go_sem] Oper.semAt_some
/-- How an iterator ends: all of c has come, or it was told to stop. -/
def ItPost (c : List Int) (J Jx : List Int → World → Prop) (W' : World) : Prop:=(∃ ys,ys = c ∧ J ys W') ∨ (∃ pre,True ∧ Jx pre W')
/-- What a round that goes on keeps: what lay below n, and every map. -/
def BW (n : Nat) (W W' : World) : Prop:=Below n W W' ∧ KeepsWalks W W'
theorem bw_t {n : Nat} {A B C : World} (h : BW n A B) (k : BW n B C) : BW n A C:=⟨h.1.trans k.1,h.2.trans k.2⟩
theorem bw_b {n : Nat} {w : World} (hn : n ≤ w.heap.size) (W : World) (l : Nat) (o o' : Obj) (hl : w.heap.size ≤ l) (h : W.heap[l]? = some o) (h1 : o.isCells = false) (h2 : o.isWalk = false) : BW n W (W.putObj l o') :=
 ⟨belowK_b hn W l o o' hl h h1 h2,walksK_b (w:=w) W l o o' hl h h1 h2⟩
theorem below_grown {w w' : World} (h : Below w.heap.size w w') : w.grownBy w' none:=⟨h.os,h.tape,h.output,h.size,fun k hk _ => h.block k hk⟩
theorem PlM.walks {m n : Nat} {xs : List TE} {w w' : World} (h : PlM m n xs w) (hk : KeepsWalks w w') : PlM m n xs w':=by
 obtain ⟨D,⟨es,clock,hb',F,hs,hD⟩,hL⟩:=h
 exact ⟨D,⟨es,clock,hk.same m _ hb' rfl,F,hs,hD⟩,hL⟩
theorem plB_yes {xs : List TE} {q : Int} {i : Nat} (h : findN xs q = (i : Int)) : plB xs q = true ∧ plN xs q = (i : Int):=by
 unfold plB plN; rw [h]; simp
theorem plB_no {xs : List TE} {q : Int} (h : findN xs q = -1) : plB xs q = false:=by
 unfold plB; rw [h]; rfl
set_option maxRecDepth 100000 in
set_option maxHeartbeats 6400000 in
theorem back_in (m : Nat) (hm : 4 ≤ m) (l Bl Bk Bf : Nat) (key : Int) (hkey : i64 key) (a : Option Addr) (cap : Nat) (xs : List TE) (hl : xs.length ≤ 1048576) (hx : ∀ p ∈ xs,i64 (kyE p)) (hxa : ∀ p ∈ xs,i64 (awV p).1) (w0 : World) (hr0 : FRow 11 cE w0 a xs) (hBl : Bl < w0.heap.size) (hBk : Bk < w0.heap.size) (hBf : Bf < w0.heap.size)
  (hcl : w0.cell? ⟨Bl,0,none⟩ = some (.slice a xs.length cap)) (hck : w0.cell? ⟨Bk,0,none⟩ = some (I key)) (hcf : w0.cell? ⟨Bf,0,none⟩ = some (.func (.func 106) #[] #[]))
  (J Jx : List Int → World → Prop) (W : World) (hW0 : Below w0.heap.size w0 W) (hJ : AbidesFrom W.heap.size J)
  (hY : ∀ pre x W1,J pre W1 → pre.length < xs.length → YieldAt Fence.wide (m - 1) Tryz.prog l #[I x] W1 fun e W' =>
   (e = .returned (.bool true) ∧ J (pre ++ [x]) W' ∧ BW w0.heap.size W1 W') ∨ (e = .returned (.bool false) ∧ Jx (pre ++ [x]) W'))
  (h0 : J [] W) :
  CallsIn Fence.wide m Tryz.prog 151 #[.func (.yield l) #[] #[],.pointer (some ⟨Bl,0,none⟩),.pointer (some ⟨Bk,0,none⟩),.pointer (some ⟨Bf,0,none⟩)] W fun e W' => (∃ v,e = .returned v) ∧
   ItPost (bwL xs awV xs.length key true) J Jx W':=by
 have hm1 : 1 ≤ m:=by omega
 have el:=(hW0.cell (p:=⟨Bl,0,none⟩) hBl).trans hcl
 have ek:=(hW0.cell (p:=⟨Bk,0,none⟩) hBk).trans hck
 have sl:=Nat.lt_of_lt_of_le hBl hW0.size
 have sk:=Nat.lt_of_lt_of_le hBk hW0.size
 have hW : Below w0.heap.size w0 W.drew:=hW0.drew
 have hr:=hr0
 refine callsIn_of_wp Tryz.func151 rfl trivial ?_ rfl
 simp only [Tryz.ntmps151,List.size_toArray,List.length_cons,List.length_nil,Nat.reduceAdd,Nat.reduceSub,Array.replicate_succ,Array.replicate_zero,List.push_toArray,List.append_toArray,List.nil_append,List.cons_append]
 gi_wp2_with fail
 refine wpIn_wide.2 ?_
 refine wp_region_held_drew (S:=(fun v => v.cell? ⟨Bl,0,none⟩ = some (.slice a xs.length cap) ∧ v.cell? ⟨Bk,0,none⟩ = some (I key))) (by kernel_rfl) ⟨el,ek⟩ (fun hHeld => ?_)
 refine tk 0 10 rfl _ hHeld (by intro w' h; (try dsimp only at h); go_simp; try with_reducible rfl) ?_
 try simp only [Act.put,pa,pb,pc]
 refine tk 2 12 rfl _ hHeld (by intro w' h; (try dsimp only at h); go_simp; try with_reducible rfl) ?_
 try simp only [Act.put,pa,pb,pc]
 refine wpAnyH_ready (rs:=[1]) (by kernel_rfl) (by simp) ?_
 refine AllReadyH.cons (i:=1) rfl (fun K hK => ?_) AllReadyH.nil
 go_simp
 refine (places_is a cap xs _ (hr.later hW) hl hx).mono ?_
 rintro en W1 ⟨rfl,hM,hb⟩
 replace hM : PlM W.heap.size xs.length xs W1:=hM
 replace hb : Below W.heap.size W W1:=((Below.refl _ W).drew).trans hb
 go_wp2_with fail
 refine hK.out _ _ ⟨(hb.cell (p:=⟨Bl,0,none⟩) sl).trans el,(hb.cell (p:=⟨Bk,0,none⟩) sk).trans ek⟩ (fun hHeld2 => ?_)
 clear hK K hHeld
 have hHeld:=hHeld2
 clear hHeld2
 try simp only [Act.put,pa,pb,pc]
 refine tk 3 5 rfl _ hHeld (by intro w' h; (try dsimp only at h); go_simp; try with_reducible rfl) ?_
 try simp only [Act.put,pa,pb,pc]
 refine tk 4 6 rfl _ hHeld (by intro w' h; (try dsimp only at h); go_simp; try with_reducible rfl) ?_
 try simp only [Act.put,pa,pb,pc]
 refine tk 5 7 rfl _ hHeld (by intro w' h; (try dsimp only at h); go_simp; try with_reducible rfl) ?_
 try simp only [Act.put,pa,pb,pc]
 refine wpAnyH_done (by kernel_rfl) ?_ _
 have J1 : J [] W1:=hJ _ _ _ none h0 (below_grown hb) (fun r e => by cases e)
 have B1 : Below w0.heap.size w0 W1:=hW0.trans (hb.mono hW0.size)
 have s1 : W.heap.size ≤ W1.heap.size:=hb.size
 replace el:=(hb.cell (p:=⟨Bl,0,none⟩) sl).trans el
 clear hHeld hb ek sk sl hW h0
 gi_wp2
 gi_loopw [6,7,15] (fun qv mv iv wr => ∃ (k f : Nat) (q : Int) (mo : Bool) (pre : List Int),k + f = xs.length ∧ pre.length ≤ k ∧ qv = I q ∧ mv = .bool mo ∧ iv = I k ∧ Hid (bwL xs awV xs.length key true = pre ++ bwL xs awV f q mo) ∧ i64 q ∧ J pre wr ∧ PlM W.heap.size xs.length xs wr ∧ Below w0.heap.size w0 wr ∧ W.heap.size ≤ wr.heap.size) (fun _ _ iv _ => xs.length - (intOf iv).toNat)
 case atStart => exact ⟨0,xs.length,key,true,[],by omega,by simp,rfl,rfl,rfl,rfl,hkey,J1,hM,B1,s1⟩
 case round =>
  clear J1 hM B1 s1 el
  obtain ⟨k,f,q,mo,pre,hkf,hpl,rfl,rfl,rfl,HB,hq,hJp,hM,hbel,hsz⟩:=hrel
  have LK:=hM.look hq
  cases f with
  | zero =>
   have hlt2 : ¬ (k : Int) < (xs.length : Int):=by omega
   have HV : Hid (bwL xs awV xs.length key true = pre):=by show _ = _; rw [HB.out]; simp [bwL]
   clear LK
   gi_wp2
   go_end0
   exact ⟨⟨_,rfl⟩,.inl ⟨_,HV.out.symm,hJp⟩⟩
  | succ f =>
   have hlt2 : (k : Int) < (xs.length : Int):=by omega
   cases mo with
   | false =>
    have HV : Hid (bwL xs awV xs.length key true = pre):=by show _ = _; rw [HB.out,bwL_false]; simp
    generalize plN xs q = pn at LK
    generalize plB xs q = pb at LK
    gi_wp2
    refine ⟨fun _ h => (by cases h),?_⟩
    gi_wp2
    refine bodyPost_ret (results_none rfl _ _ _) rfl ?_
    exact ⟨⟨_,rfl⟩,.inl ⟨_,HV.out.symm,hJp⟩⟩
   | true =>
    rcases findN_cases xs q with hf | ⟨i,hf,hi⟩
    ·have HV : Hid (bwL xs awV xs.length key true = pre):=by show _ = _; rw [HB.out,bwL_no hf]; simp
     rw [plB_no hf] at LK
     generalize plN xs q = pn at LK
     gi_wp2
     refine ⟨fun _ h => (by cases h),?_⟩
     gi_wp2
     refine bodyPost_ret (results_none rfl _ _ _) rfl ?_
     exact ⟨⟨_,rfl⟩,.inl ⟨_,HV.out.symm,hJp⟩⟩
    ·have HB2:=HB.out
     rw [bwL_yes hf hi] at HB2
     rw [(plB_yes hf).1,(plB_yes hf).2] at LK
     obtain ⟨fn,tmps,assign,body,hyv,hR⟩:=hY pre (i : Int) wr hJp (by omega)
     clear HB hf
     gi_wp2
     refine hR.mono ?_
     clear hR hyv
     rintro e W3 (⟨rfl,hJ3,hk3⟩ | ⟨rfl,hJx3⟩)
     rotate_left
     ·gi_wp2
      refine bodyPost_ret (results_none rfl _ _ _) rfl ?_
      exact ⟨⟨_,rfl⟩,.inr ⟨_,trivial,hJx3⟩⟩
     have BN:=hbel.trans hk3.1
     have sN:=Nat.le_trans hsz hk3.1.size
     have M3:=hM.walks hk3.2
     clear LK hM hbel hsz hJp hk3
     have e2 : pre ++ (i : Int) :: bwL xs awV f (awV xs[i]).1 (awV xs[i]).2 = (pre ++ [(i : Int)]) ++ bwL xs awV f (awV xs[i]).1 (awV xs[i]).2:=by simp
     rw [e2] at HB2
     have hq2:=hxa xs[i] (List.getElem_mem hi)
     obtain ⟨b1,o1,rfl,l1,hcc⟩:=hr0 i hi
     have h0 : W3.cell? ⟨b1,o1 + i * 11,none⟩ = some (I xs[i].1):=(BN.cell (p:=⟨b1,o1 + i * 11,none⟩) l1).trans (hcc 0 _ rfl)
     have h1 : W3.cell? ⟨b1,o1 + i * 11 + 1,none⟩ = some (I xs[i].2.1):=(BN.cell (p:=⟨b1,o1 + i * 11 + 1,none⟩) l1).trans (hcc 1 _ rfl)
     have h2 : W3.cell? ⟨b1,o1 + i * 11 + 2,none⟩ = some (I xs[i].2.2.1):=(BN.cell (p:=⟨b1,o1 + i * 11 + 2,none⟩) l1).trans (hcc 2 _ rfl)
     have h3 : W3.cell? ⟨b1,o1 + i * 11 + 3,none⟩ = some (I xs[i].2.2.2.1):=(BN.cell (p:=⟨b1,o1 + i * 11 + 3,none⟩) l1).trans (hcc 3 _ rfl)
     have h4 : W3.cell? ⟨b1,o1 + i * 11 + 4,none⟩ = some (I xs[i].2.2.2.2.1):=(BN.cell (p:=⟨b1,o1 + i * 11 + 4,none⟩) l1).trans (hcc 4 _ rfl)
     have h5 : W3.cell? ⟨b1,o1 + i * 11 + 5,none⟩ = some (I xs[i].2.2.2.2.2.1):=(BN.cell (p:=⟨b1,o1 + i * 11 + 5,none⟩) l1).trans (hcc 5 _ rfl)
     have h6 : W3.cell? ⟨b1,o1 + i * 11 + 6,none⟩ = some (I xs[i].2.2.2.2.2.2.1):=(BN.cell (p:=⟨b1,o1 + i * 11 + 6,none⟩) l1).trans (hcc 6 _ rfl)
     have h7 : W3.cell? ⟨b1,o1 + i * 11 + 7,none⟩ = some (I xs[i].2.2.2.2.2.2.2.1):=(BN.cell (p:=⟨b1,o1 + i * 11 + 7,none⟩) l1).trans (hcc 7 _ rfl)
     have h8 : W3.cell? ⟨b1,o1 + i * 11 + 8,none⟩ = some (I xs[i].2.2.2.2.2.2.2.2.1):=(BN.cell (p:=⟨b1,o1 + i * 11 + 8,none⟩) l1).trans (hcc 8 _ rfl)
     have h9 : W3.cell? ⟨b1,o1 + i * 11 + 9,none⟩ = some (I xs[i].2.2.2.2.2.2.2.2.2.1):=(BN.cell (p:=⟨b1,o1 + i * 11 + 9,none⟩) l1).trans (hcc 9 _ rfl)
     have h10 : W3.cell? ⟨b1,o1 + i * 11 + 10,none⟩ = some (I xs[i].2.2.2.2.2.2.2.2.2.2):=(BN.cell (p:=⟨b1,o1 + i * 11 + 10,none⟩) l1).trans (hcc 10 _ rfl)
     have ef:=(BN.cell (p:=⟨Bf,0,none⟩) hBf).trans hcf
     have el:=(BN.cell (p:=⟨Bl,0,none⟩) hBl).trans hcl
     have sf3:=Nat.lt_of_lt_of_le hBf BN.size
     have sl3:=Nat.lt_of_lt_of_le hBl BN.size
     have l13:=Nat.lt_of_lt_of_le l1 BN.size
     have AH:=fun w => asked_is xs[i] w
     have hlti : (i : Int) < (xs.length : Int):=by omega
     replace HB2 : Hid (bwL xs awV xs.length key true = (pre ++ [(i : Int)]) ++ bwL xs awV f (awV xs[i]).1 (awV xs[i]).2):=HB2
     generalize hp : xs[i] = p at AH hq2 HB2 h0 h1 h2 h3 h4 h5 h6 h7 h8 h9 h10
     generalize awV p = v at AH hq2 HB2
     obtain ⟨v1,v2⟩:=v
     obtain ⟨p0,p1,p2,p3,p4,p5,p6,p7,p8,p9,p10⟩:=p
     clear hp hcc
     gi_wp2_with fail
     refine wpIn_wide.2 ?_
     refine wp_region_held_drew (S:=(fun v => v.cell? ⟨Bf,0,none⟩ = some (.func (.func 106) #[] #[]) ∧ v.cell? ⟨Bl,0,none⟩ = some (.slice (some ⟨b1,o1,none⟩) xs.length cap) ∧ v.cell? ⟨b1,o1 + i * 11,none⟩ = some (I p0) ∧ v.cell? ⟨b1,o1 + i * 11 + 1,none⟩ = some (I p1) ∧ v.cell? ⟨b1,o1 + i * 11 + 2,none⟩ = some (I p2) ∧ v.cell? ⟨b1,o1 + i * 11 + 3,none⟩ = some (I p3) ∧ v.cell? ⟨b1,o1 + i * 11 + 4,none⟩ = some (I p4) ∧ v.cell? ⟨b1,o1 + i * 11 + 5,none⟩ = some (I p5) ∧ v.cell? ⟨b1,o1 + i * 11 + 6,none⟩ = some (I p6) ∧ v.cell? ⟨b1,o1 + i * 11 + 7,none⟩ = some (I p7) ∧ v.cell? ⟨b1,o1 + i * 11 + 8,none⟩ = some (I p8) ∧ v.cell? ⟨b1,o1 + i * 11 + 9,none⟩ = some (I p9) ∧ v.cell? ⟨b1,o1 + i * 11 + 10,none⟩ = some (I p10))) (by kernel_rfl) ⟨ef,el,h0,h1,h2,h3,h4,h5,h6,h7,h8,h9,h10⟩ (fun hHeld => ?_)
     refine tk 0 36 rfl _ hHeld (by intro w' h; (try dsimp only at h); go_simp; try with_reducible rfl) ?_
     try simp only [Act.put,pa,pb,pc]
     refine tk 1 37 rfl _ hHeld (by intro w' h; (try dsimp only at h); go_simp; try with_reducible rfl) ?_
     try simp only [Act.put,pa,pb,pc]
     refine tk 2 38 rfl _ hHeld (by intro w' h; (try dsimp only at h); go_simp; try with_reducible rfl) ?_
     try simp only [Act.put,pa,pb,pc]
     refine tk 3 39 rfl _ hHeld (by intro w' h; (try dsimp only at h); go_simp; try with_reducible rfl) ?_
     try simp only [Act.put,pa,pb,pc]
     refine tk 4 40 rfl _ hHeld (by intro w' h; (try dsimp only at h); go_simp; try with_reducible rfl) ?_
     try simp only [Act.put,pa,pb,pc]
     refine wpAnyH_ready (rs:=[5]) (by kernel_rfl) (by simp) ?_
     refine AllReadyH.cons (i:=5) rfl (fun K hK => ?_) AllReadyH.nil
     go_simp
     refine (AH _).mono ?_
     rintro en W4 ⟨rfl,hb4⟩
     replace hb4 : Below W3.heap.size W3 W4:=((Below.refl _ W3).drew).trans hb4
     go_wp2_with fail
     refine hK.out _ _ ⟨(hb4.cell (p:=⟨Bf,0,none⟩) sf3).trans ef,(hb4.cell (p:=⟨Bl,0,none⟩) sl3).trans el,(hb4.cell (p:=⟨b1,o1 + i * 11,none⟩) l13).trans h0,(hb4.cell (p:=⟨b1,o1 + i * 11 + 1,none⟩) l13).trans h1,(hb4.cell (p:=⟨b1,o1 + i * 11 + 2,none⟩) l13).trans h2,(hb4.cell (p:=⟨b1,o1 + i * 11 + 3,none⟩) l13).trans h3,(hb4.cell (p:=⟨b1,o1 + i * 11 + 4,none⟩) l13).trans h4,(hb4.cell (p:=⟨b1,o1 + i * 11 + 5,none⟩) l13).trans h5,(hb4.cell (p:=⟨b1,o1 + i * 11 + 6,none⟩) l13).trans h6,(hb4.cell (p:=⟨b1,o1 + i * 11 + 7,none⟩) l13).trans h7,(hb4.cell (p:=⟨b1,o1 + i * 11 + 8,none⟩) l13).trans h8,(hb4.cell (p:=⟨b1,o1 + i * 11 + 9,none⟩) l13).trans h9,(hb4.cell (p:=⟨b1,o1 + i * 11 + 10,none⟩) l13).trans h10⟩ (fun hHeld2 => ?_)
     clear hK K hHeld
     have hHeld:=hHeld2
     clear hHeld2
     try simp only [Act.put,pa,pb,pc]
     refine tk 6 35 rfl _ hHeld (by intro w' h; (try dsimp only at h); go_simp; try with_reducible rfl) ?_
     try simp only [Act.put,pa,pb,pc]
     refine tk 7 42 rfl _ hHeld (by intro w' h; (try dsimp only at h); go_simp; try with_reducible rfl) ?_
     try simp only [Act.put,pa,pb,pc]
     refine tk 8 43 rfl _ hHeld (by intro w' h; (try dsimp only at h); go_simp; try with_reducible rfl) ?_
     try simp only [Act.put,pa,pb,pc]
     refine tk 9 6 rfl _ hHeld (by intro w' h; (try dsimp only at h); go_simp; try with_reducible rfl) ?_
     try simp only [Act.put,pa,pb,pc]
     refine tk 10 7 rfl _ hHeld (by intro w' h; (try dsimp only at h); go_simp; try with_reducible rfl) ?_
     try simp only [Act.put,pa,pb,pc]
     refine wpAnyH_done (by kernel_rfl) ?_ _
     have J4 : J (pre ++ [(i : Int)]) W4:=hJ _ _ _ none hJ3 (below_grown hb4) (fun r e => by cases e)
     have M4:=M3.kept hb4
     have B4:=BN.trans (hb4.mono BN.size)
     have s4:=Nat.le_trans sN hb4.size
     clear hHeld AH hb4 hJ3 M3 BN sN ef el sf3 sl3 l13 h0 h1 h2 h3 h4 h5 h6 h7 h8 h9 h10
     gi_wp2
     go_roundw
     case rel => exact ⟨k + 1,f,v1,v2,pre ++ [(i : Int)],by omega,by simp; omega,rfl,rfl,by go_num,HB2,hq2,J4,M4,B4,s4⟩
     case measure => simp [intOf]; omega
end Go.Proofs.YtlmpfkbgknbcnaaGreat.Nd

set_option linter.unusedVariables false
set_option maxRecDepth 100000
namespace Go.Proofs.YtlmpfkbgknbcnaaGreat.Nd
open Go Go.RowKit Go.Joins Go.Shelf Own Draw
attribute [local go_sem] Oper.semAt_some
/-- The iterator hands out the chain, from its end on. -/
theorem back_stops (m : Nat) (hm : 4 ≤ m) (Bl Bk Bf : Nat) (key : Int) (hkey : i64 key) (a : Option Addr) (cap : Nat) (xs : List TE) (hl : xs.length ≤ 1048576) (hx : ∀ p ∈ xs,i64 (kyE p)) (hxa : ∀ p ∈ xs,i64 (awV p).1) (w : World) (hr : FRow 11 cE w a xs) (hBl : Bl < w.heap.size) (hBk : Bk < w.heap.size) (hBf : Bf < w.heap.size) (hcl : w.cell? ⟨Bl,0,none⟩ = some (.slice a xs.length cap)) (hck : w.cell? ⟨Bk,0,none⟩ = some (I key)) (hcf : w.cell? ⟨Bf,0,none⟩ = some (.func (.func 106) #[] #[])) :
  SeqStopsK Fence.wide m Tryz.prog 151 #[.pointer (some ⟨Bl,0,none⟩),.pointer (some ⟨Bk,0,none⟩),.pointer (some ⟨Bf,0,none⟩)] (fun x : Int => #[I x]) (BW w.heap.size) (fun ys => ys = bwL xs awV xs.length key true) (fun _ => True) xs.length w :=
 fun l J Jx W hW hJ _ hY h0 => back_in m hm l Bl Bk Bf key hkey a cap xs hl hx hxa w hr hBl hBk hBf hcl hck hcf J Jx W hW hJ hY h0
set_option maxRecDepth 100000 in
set_option maxHeartbeats 3200000 in
theorem backApp_in (m : Nat) (hm : 6 ≤ m) (Bl Bk Bf : Nat) (key : Int) (hkey : i64 key) (a : Option Addr) (cap : Nat) (xs : List TE) (hl : xs.length ≤ 1048576) (hx : ∀ p ∈ xs,i64 (kyE p)) (hxa : ∀ p ∈ xs,i64 (awV p).1) (w : World) (hr : FRow 11 cE w a xs) (hBl : Bl < w.heap.size) (hBk : Bk < w.heap.size) (hBf : Bf < w.heap.size) (hcl : w.cell? ⟨Bl,0,none⟩ = some (.slice a xs.length cap)) (hck : w.cell? ⟨Bk,0,none⟩ = some (I key)) (hcf : w.cell? ⟨Bf,0,none⟩ = some (.func (.func 106) #[] #[])) :
  CallsIn Fence.wide m Tryz.prog 197 #[.slice none 0 0,.func (.func 151) #[] #[.pointer (some ⟨Bl,0,none⟩),.pointer (some ⟨Bk,0,none⟩),.pointer (some ⟨Bf,0,none⟩)]] w fun e w' => ∃ g c,e = .returned (.slice g (bwL xs awV xs.length key true).length c) ∧ w'.ownsRow w.heap.size 3 1 (.slice g (bwL xs awV xs.length key true).length c) (bwL xs awV xs.length key true).length ((bwL xs awV xs.length key true).map (Value.int .i64)) ∧ Below w.heap.size w w':=by
 obtain ⟨i0,hi,hz0,hz1,hz2⟩:=info_parts infoInt
 have h1 : 1 ≤ m:=by omega
 refine callsIn_of_wp_marks Tryz.func197 rfl trivial ?_ rfl
 simp only [Tryz.ntmps197,List.size_toArray,List.length_cons,List.length_nil,Nat.reduceAdd,Nat.reduceSub,Array.replicate_succ,Array.replicate_zero,List.push_toArray,List.append_toArray,List.nil_append,List.cons_append]
 gi_wp2
 have hB0:=Boxed.new w 22 (.slice none 0 0)
 have hb0 : Below w.heap.size w (w.alloc (.cells #[.slice none 0 0] 22)):=(Below.refl _ _).alloc (Nat.le_refl _) _
 refine wpIn_rangeFunc_ownH (α:=Int) rfl h1 (gf:=151) (lb:=#[.pointer (some ⟨Bl,0,none⟩),.pointer (some ⟨Bk,0,none⟩),.pointer (some ⟨Bf,0,none⟩)]) rfl trivial (enters_of Tryz.func151 (by kernel_rfl) rfl)
  (back_stops (m - 1) (by omega) Bl Bk Bf key hkey a cap xs hl hx hxa w hr hBl hBk hBf hcl hck hcf) bw_t (bw_b (by simp)) hb0 (fun _ => rfl)
  (fun pre W => (∃ v,Boxed W w.heap.size 22 v ∧ W.ownsRow w.heap.size 3 1 v pre.length (pre.map (Value.int .i64)) ∧ True) ∧ Below w.heap.size w W) (fun _ _ _ => False)
  (OwnFrom.and (Own.from (holdsRow_own w.heap.size w.heap.size 22 3 1 (fun pre : List Int => pre.length) (fun pre => pre.map (Value.int .i64)) (fun _ _ => True)) _) (ownFrom_below (Nat.le_refl _) (by simp)))
  (fun _ _ _ _ _ hs _ _ => hs) ⟨⟨_,hB0,⟨rfl,Or.inl ⟨rfl,rfl⟩⟩,trivial⟩,hb0⟩
  (fun x a' W => a' = { tmps:=#[.slice none 0 0,.func (.func 151) #[] #[.pointer (some ⟨Bl,0,none⟩),.pointer (some ⟨Bk,0,none⟩),.pointer (some ⟨Bf,0,none⟩)],.pointer (some ⟨w.heap.size,0,none⟩),undef,.slice none 0 0,I x,.func (.func 151) #[] #[.pointer (some ⟨Bl,0,none⟩),.pointer (some ⟨Bk,0,none⟩),.pointer (some ⟨Bf,0,none⟩)],I x,undef,undef,undef,undef,undef],defers:=[] })
  ?ax ?assign ?body ?done ?stop
 case ax =>
  intro x a' s X Y row hs hg hrow
  exact hs
 case assign =>
  rintro l pre x W K ⟨⟨v,hv,hrow,_⟩,hB⟩ hK
  gi_wp2
  exact hK _ _ (KeepsFrom.refl _ _) ⟨Below.refl _ _,KeepsWalks.refl _⟩ ⟨⟨v,hv,hrow,trivial⟩,hB⟩ rfl
 case body =>
  rintro l pre x a' W hlw ⟨r,hr'⟩ ⟨⟨v,hv,hrow,_⟩,hB⟩ rfl hlt
  have c0:=hv.cell
  gi_wp2_with (first | (gi_at_builtin; refine wpListIn_append_own _ rfl _ _ 22 rfl w.heap.size 3 i0 (I 0) 1 8 Tryz.underlying22 hi hz0 hz1 hz2 rfl (by decide) _ _ _ rfl (World.ownsRow.alloc hrow _) ⟨W.heap.size,0,none⟩ 1 1 [I x] rfl rfl (cell_one_new _ _ _) ?c2 ?c3 ?c4 ?c5 ?_) | gi_in)
  case c2 => simp [Value.oneCell']
  case c3 => unfold maxLen; omega
  case c4 => omega
  case c5 => have:=hB.size; simp; omega
  intro v' w1 hown' hgrow _
  obtain ⟨g',cap',rfl⟩:=ownsRow_succ hown'
  obtain ⟨hv1,hv2,hr2,hk2,hb2⟩:=hv.appended (by decide) hrow hB.size (Nat.le_refl _) hown' hgrow
  have hc1:=hv1.cell
  have hf1:=hv1.frozen
  have hl2 : (pre ++ [x]).length = pre.length + 1:=by simp
  have hm2 : (pre ++ [x]).map (Value.int .i64) = pre.map (Value.int .i64) ++ [I x]:=by simp
  gi_wp2
  refine ⟨hk2.from _,⟨hb2,hk2.walks⟩,⟨_,hv2,?_,trivial⟩,hB.trans hb2⟩
  rw [hl2,hm2]
  exact hr2
 case done =>
  rintro D ys W hD rfl ⟨⟨v,hv,hrow,_⟩,hB⟩ hK
  have c0:=hv.cell
  obtain ⟨g,c,rfl,_⟩:=own_shape hrow
  gi_wp2
  refine ⟨by simp,.inl ⟨_,_,rfl,run_takeDeferred hK,?_⟩⟩
  exact ⟨_,results_tmp rfl _ _ _,g,c,rfl,ownsRow_putObj hrow _ hK rfl,hB.trans (belowK_b (w:=w) (Nat.le_refl _) W D _ _ (by simp at hD; omega) hK rfl rfl)⟩
 case stop =>
  rintro D c pre W _ _ h _
  exact h.elim
set_option maxRecDepth 100000 in
set_option maxHeartbeats 1600000 in
theorem backCol_is (Bl Bk Bf : Nat) (key : Int) (hkey : i64 key) (a : Option Addr) (cap : Nat) (xs : List TE) (hl : xs.length ≤ 1048576) (hx : ∀ p ∈ xs,i64 (kyE p)) (hxa : ∀ p ∈ xs,i64 (awV p).1) (w : World) (hr : FRow 11 cE w a xs) (hBl : Bl < w.heap.size) (hBk : Bk < w.heap.size) (hBf : Bf < w.heap.size) (hcl : w.cell? ⟨Bl,0,none⟩ = some (.slice a xs.length cap)) (hck : w.cell? ⟨Bk,0,none⟩ = some (I key)) (hcf : w.cell? ⟨Bf,0,none⟩ = some (.func (.func 106) #[] #[])) :
  Calls Tryz.prog 149 #[.func (.func 151) #[] #[.pointer (some ⟨Bl,0,none⟩),.pointer (some ⟨Bk,0,none⟩),.pointer (some ⟨Bf,0,none⟩)]] w fun e w' => ∃ g c,e = .returned (.slice g (bwL xs awV xs.length key true).length c) ∧ w'.ownsRow w.heap.size 3 1 (.slice g (bwL xs awV xs.length key true).length c) (bwL xs awV xs.length key true).length ((bwL xs awV xs.length key true).map (Value.int .i64)) ∧ Below w.heap.size w w':=by
 have K1:=(callsIn_wide (n:=6)).1 (backApp_in 6 (Nat.le_refl _) Bl Bk Bf key hkey a cap xs hl hx hxa w hr hBl hBk hBf hcl hck hcf)
 generalize bwL xs awV xs.length key true = L at K1 ⊢
 go_enter Tryz.func149,Tryz.ntmps149
 go_wp2_with fail
 refine K1.mono ?_
 clear K1
 rintro en w2 ⟨g,c,rfl,ho,hb2⟩
 go_wp2
 go_ret
 exact ⟨g,c,rfl,ho,hb2⟩
end Go.Proofs.YtlmpfkbgknbcnaaGreat.Nd

set_option linter.unusedVariables false
set_option maxRecDepth 100000
namespace Go.Proofs.YtlmpfkbgknbcnaaGreat.Nd
open Go Go.RowKit Go.Joins Own Draw
/-- A row after k exchanges from both ends. -/
def Hlf (ys zs : List Int) (k : Nat) : Prop:=∃ e : zs.length = ys.length,∀ t (h : t < ys.length),zs[t] = if t < k ∨ ys.length - k ≤ t then ys[ys.length - 1 - t] else ys[t]
theorem Hlf.zero (ys : List Int) : Hlf ys ys 0:=⟨rfl,fun t h => by rw [if_neg (by omega)]⟩
theorem Hlf.step {ys zs : List Int} {k : Nat} (h : Hlf ys zs k) (hk : k < ys.length - 1 - k) (h1 : k < zs.length) (h2 : ys.length - 1 - k < zs.length) : Hlf ys ((zs.set k zs[ys.length - 1 - k]).set (ys.length - 1 - k) zs[k]) (k + 1):=by
 obtain ⟨e,h⟩:=h
 refine ⟨by simp [e],fun t ht => ?_⟩
 rw [List.getElem_set]
 by_cases e1 : ys.length - 1 - k = t
 ·subst e1
  rw [if_pos rfl,if_pos (by omega),h k (by omega),if_neg (by omega)]
  congr 1; omega
 ·rw [if_neg e1,List.getElem_set]
  by_cases e2 : k = t
  ·subst e2
   rw [if_pos rfl,if_pos (by omega),h _ (by omega),if_neg (by omega)]
  ·rw [if_neg e2,h t ht]
   by_cases e3 : t < k ∨ ys.length - k ≤ t
   ·rw [if_pos e3,if_pos (by omega)]
   ·rw [if_neg e3,if_neg (by omega)]
theorem Hlf.done {ys zs : List Int} {k : Nat} (h : Hlf ys zs k) (hk : ¬ (k : Int) < (ys.length : Int) - 1 - k) : zs = ys.reverse:=by
 obtain ⟨e,h⟩:=h
 refine List.ext_getElem (by simp [e]) fun t h1 h2 => ?_
 rw [List.getElem_reverse,h t (by omega)]
 split
 ·rfl
 ·congr 1; omega
set_option maxRecDepth 100000 in
set_option maxHeartbeats 3200000 in
theorem rev_is (B : Nat) (a : Option Addr) (cap : Nat) (ys : List Int) (w : World) (h : w.ownsRow B 3 1 (.slice a ys.length cap) ys.length (ys.map (Value.int .i64))) (hl : ys.length ≤ 2000000) :
  Calls Tryz.prog 150 #[.slice a ys.length cap] w fun e w' => e = .returned (.tuple #[]) ∧ w'.ownsRow B 3 1 (.slice a ys.length cap) ys.length (ys.reverse.map (Value.int .i64)) ∧ Below B w w':=by
 rcases h.2 with ⟨e,h0⟩ | ⟨g,cap',cur,e,_⟩
 ·injection e with e1 e2 e3
  subst e1 e3
  have hy : ys = []:=List.length_eq_zero_iff.1 h0
  subst hy
  go_enter Tryz.func150,Tryz.ntmps150
  go_wp2
  go_loopw [2,3] (fun i j wr => i = I 0 ∧ j = I (-1) ∧ w = wr) (fun _ _ _ => 0)
  case atStart => exact ⟨rfl,rfl,rfl⟩
  case round =>
   obtain ⟨rfl,rfl,rfl⟩:=hrel
   go_wp2
   go_end0
   exact ⟨rfl,h,Below.refl _ _⟩
 ·injection e with e1 e2 e3
  subst e1 e3
  have hG0 : w.grownBy w (some g):=World.grownBy.refl _ _
  have hgB : B ≤ g:=(h.lt g rfl).1
  have hBw : B ≤ w.heap.size:=by have:=(h.lt g rfl).2; omega
  go_enter Tryz.func150,Tryz.ntmps150
  go_wp2
  go_loopw [2,3] (fun i j wr => ∃ (k : Nat) (zs : List Int),i = I k ∧ j = I ((ys.length : Int) - 1 - k) ∧ Hlf ys zs k ∧ wr.ownsRow B 3 1 (.slice (some ⟨g,0,none⟩) ys.length cap) ys.length (zs.map (Value.int .i64)) ∧ w.grownBy wr (some g)) (fun i _ _ => ys.length - (intOf i).toNat)
  case atStart => exact ⟨0,ys,rfl,by simp,Hlf.zero ys,h,hG0⟩
  case round =>
   clear h hG0
   obtain ⟨k,zs,rfl,rfl,hH,hown,hG⟩:=hrel
   by_cases hlt : (k : Int) < (ys.length : Int) - 1 - k
   ·have he:=hH.1
    obtain ⟨j,hj⟩ : ∃ j : Nat,ys.length - 1 - k = j:=⟨_,rfl⟩
    have hjz : (ys.length : Int) - 1 - k = (j : Int):=by omega
    have hk1 : k < zs.length:=by omega
    have hj1 : j < zs.length:=by omega
    have H2:=hH.step (by omega) hk1 (by omega)
    have hs0:=hown.stored k (I zs[j])
    have hs1:=hs0.1.stored j (I zs[k])
    have hs:=hs1.1
    have hE : ((zs.map (Value.int .i64)).set k (I zs[j])).set j (I zs[k]) = ((zs.set k zs[j]).set j zs[k]).map (Value.int .i64):=by rw [List.map_set,List.map_set]
    rw [hE] at hs
    have hG2:=grown_to (grown_to hG hs0.2) hs1.2
    simp only [hj] at H2
    have ck : wr.cell? ⟨g,k,none⟩ = some (I zs[k]):=by rw [hown.cellAt _ (by simp; omega)]; simp [hk1]
    have cj : wr.cell? ⟨g,j,none⟩ = some (I zs[j]):=by rw [hown.cellAt _ (by simp; omega)]; simp [hj1]
    have fk:=hown.frozenAt k
    have fj:=hown.frozenAt j
    have hne : ¬ k = j:=by omega
    have HR : Hid (∃ (k' : Nat) (zs' : List Int),Value.int .i64 ((k : Int) + 1) = I k' ∧ Value.int .i64 ((j : Int) - 1) = I ((ys.length : Int) - 1 - k') ∧ Hlf ys zs' k' ∧ ((wr.setCell ⟨g,k,none⟩ (I zs[j])).setCell ⟨g,j,none⟩ (I zs[k])).ownsRow B 3 1 (.slice (some ⟨g,0,none⟩) ys.length cap) ys.length (zs'.map (Value.int .i64)) ∧ w.grownBy ((wr.setCell ⟨g,k,none⟩ (I zs[j])).setCell ⟨g,j,none⟩ (I zs[k])) (some g)) :=
     ⟨k + 1,_,by go_num,by congr 1; omega,H2,hs,hG2⟩
    rw [hjz] at hlt ⊢
    have hk2 : (k : Int) < (ys.length : Int):=by omega
    have hj2 : (j : Int) < (ys.length : Int):=by omega
    have hk3 : (k : Int) ≤ 2000000:=by omega
    have hj3 : (j : Int) ≤ 2000000:=by omega
    generalize zs[k] = x at ck HR
    generalize zs[j] = y at cj HR
    clear hs hs0 hs1 hE hG2 H2 hown hG hH he hk1 hj1 hj hjz hne
    go_wp2_with fail
    go_region
    go_wp2
    go_roundw
    case rel =>
     obtain ⟨k',zs',a1,a2,a3,a4,a5⟩:=HR.out
     exact ⟨k',zs',a1,a2,a3,a4.drew,⟨a5.os,a5.tape,a5.output,a5.size,a5.block⟩⟩
    case measure => simp [intOf]; omega
   ·have hz:=hH.done (by omega)
    rw [hz] at hown
    go_wp2
    go_end0
    exact ⟨rfl,by rw [← List.map_reverse]; exact hown,(Below.refl B w).grown hG hBw (fun k e => by cases e; exact hgB)⟩
end Go.Proofs.YtlmpfkbgknbcnaaGreat.Nd
