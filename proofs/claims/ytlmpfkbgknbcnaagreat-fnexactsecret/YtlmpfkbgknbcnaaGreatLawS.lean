/- The law on Secret. -/
import Derived.Test.YtlmpfkbgknbcnaaGreatAb
import Derived.Test.YtlmpfkbgknbcnaaGreatSc2
set_option linter.unusedVariables false
set_option maxRecDepth 100000
namespace Go.Proofs.YtlmpfkbgknbcnaaGreat.Nd
open Go Go.RowKit Go.Joins Own Draw Term
theorem cf_st {p q : TF} (h : stF p = stF q) : (cfOf p).U = (cfOf q).U ∧ (cfOf p).S = (cfOf q).S ∧ (cfOf p).L = (cfOf q).L ∧ (cfOf p).X = (cfOf q).X ∧ (cfOf p).k = (cfOf q).k:=by
 obtain ⟨⟨ua,uc,us⟩,⟨sa,sc,ss⟩,⟨la,lc,ls⟩,⟨xa,xc,xs⟩,kk⟩:=p
 obtain ⟨⟨ua',uc',us'⟩,⟨sa',sc',ss'⟩,⟨la',lc',ls'⟩,⟨xa',xc',xs'⟩,kk'⟩:=q
 unfold stF rsI rsP at h
 simp only [Prod.mk.injEq] at h
 obtain ⟨rfl,rfl,rfl,rfl,rfl⟩:=h
 exact ⟨rfl,rfl,rfl,rfl,rfl⟩
theorem sc_st {d y : TD} (hs : stD y = stD d) : (y.2.2.2.2.2.2.2.2.1.2.2.all fun x => scB y x) = (d.2.2.2.2.2.2.2.2.1.2.2.all fun x => scB d x):=by
 have hl : y.2.2.2.2.2.2.2.2.1.2.2 = d.2.2.2.2.2.2.2.2.1.2.2:=congrArg (fun t : PD => t.2.2.2.2.2.2.2.2.1) hs
 have hk : y.2.2.2.2.2.2.2.2.2.2.2.2 = d.2.2.2.2.2.2.2.2.2.2.2.2:=congrArg (fun t : PD => t.2.2.2.2.2.2.2.2.2.2) hs
 have ht : y.2.2.2.2.1.1.2.2 = d.2.2.2.2.1.1.2.2:=congrArg (fun t : PD => t.2.2.2.2.1.1) hs
 have hq : y.2.2.2.2.1.2.2.2 = d.2.2.2.2.1.2.2.2:=congrArg (fun t : PD => t.2.2.2.2.1.2) hs
 have h0 : stF y.1 = stF d.1:=congrArg (fun t : PD => t.1) hs
 have hc : confB (cfOf y.1) = confB (cfOf d.1):=by
  obtain ⟨e1,e2,e3,e4,e5⟩:=cf_st h0
  unfold confB
  rw [e1,e2,e3,e4,e5]
 unfold scB rcB roP
 rw [hc,hl,hk,ht,hq]
theorem evi_of {d y : TD} (hs : stD y = stD d) (hk : OkD d) : EvI y:=by
 have hl : y.2.2.2.2.2.2.2.2.1.2.2 = d.2.2.2.2.2.2.2.2.1.2.2:=congrArg (fun t : PD => t.2.2.2.2.2.2.2.2.1) hs
 refine ⟨fun e he => ?_⟩
 rw [hl] at he
 have h8 : RkE d.2.2.2.2.2.2.2.2.1:=hk.2.2.2.2.2.2.2.1
 have ho:=h8 e he
 exact ⟨ho.2.2.2.2.2.1,ho.2.2.2.2.2.2.1,ho.2.2.2.2.1⟩
set_option maxRecDepth 100000 in
set_option maxHeartbeats 6400000 in
theorem law_secret (d : TD) (w : World) (hd : DpD w d) (hl : LmD d) (hk : OkD d) : Calls Tryz.prog 4 #[vD d] w fun en w' => en = .returned (.bool true) ∧ Below w.heap.size w w':=by
 obtain ⟨ie,hie,his⟩:=info_D
 obtain ⟨il,hil,hils⟩:=info_DL
 obtain ⟨V,hV⟩ : ∃ V,w.alloc (.cells #[.slice d.1.1.1 d.1.1.2.2.length d.1.1.2.1,.slice d.1.2.1.1 d.1.2.1.2.2.length d.1.2.1.2.1,.slice d.1.2.2.1.1 d.1.2.2.1.2.2.length d.1.2.2.1.2.1,.slice d.1.2.2.2.1.1 d.1.2.2.2.1.2.2.length d.1.2.2.2.1.2.1,I d.1.2.2.2.2,I d.2.1,I d.2.2.1,.slice d.2.2.2.1.1 d.2.2.2.1.2.2.length d.2.2.2.1.2.1,.slice d.2.2.2.2.1.1.1 d.2.2.2.2.1.1.2.2.length d.2.2.2.2.1.1.2.1,.slice d.2.2.2.2.1.2.1 d.2.2.2.2.1.2.2.2.length d.2.2.2.2.1.2.2.1,.slice d.2.2.2.2.2.1.1 d.2.2.2.2.2.1.2.2.length d.2.2.2.2.2.1.2.1,.slice d.2.2.2.2.2.2.1.1 d.2.2.2.2.2.2.1.2.2.length d.2.2.2.2.2.2.1.2.1,.slice d.2.2.2.2.2.2.2.1.1 d.2.2.2.2.2.2.2.1.2.2.length d.2.2.2.2.2.2.2.1.2.1,.slice d.2.2.2.2.2.2.2.2.1.1 d.2.2.2.2.2.2.2.2.1.2.2.length d.2.2.2.2.2.2.2.2.1.2.1,.slice d.2.2.2.2.2.2.2.2.2.1.1 d.2.2.2.2.2.2.2.2.2.1.2.2.length d.2.2.2.2.2.2.2.2.2.1.2.1,.slice d.2.2.2.2.2.2.2.2.2.2.1 d.2.2.2.2.2.2.2.2.2.2.2.2.length d.2.2.2.2.2.2.2.2.2.2.2.1] 35) = V:=⟨_,rfl⟩
 have TA : Blk w.heap.size [.slice d.1.1.1 d.1.1.2.2.length d.1.1.2.1,.slice d.1.2.1.1 d.1.2.1.2.2.length d.1.2.1.2.1,.slice d.1.2.2.1.1 d.1.2.2.1.2.2.length d.1.2.2.1.2.1,.slice d.1.2.2.2.1.1 d.1.2.2.2.1.2.2.length d.1.2.2.2.1.2.1,I d.1.2.2.2.2,I d.2.1,I d.2.2.1,.slice d.2.2.2.1.1 d.2.2.2.1.2.2.length d.2.2.2.1.2.1,.slice d.2.2.2.2.1.1.1 d.2.2.2.2.1.1.2.2.length d.2.2.2.2.1.1.2.1,.slice d.2.2.2.2.1.2.1 d.2.2.2.2.1.2.2.2.length d.2.2.2.2.1.2.2.1,.slice d.2.2.2.2.2.1.1 d.2.2.2.2.2.1.2.2.length d.2.2.2.2.2.1.2.1,.slice d.2.2.2.2.2.2.1.1 d.2.2.2.2.2.2.1.2.2.length d.2.2.2.2.2.2.1.2.1,.slice d.2.2.2.2.2.2.2.1.1 d.2.2.2.2.2.2.2.1.2.2.length d.2.2.2.2.2.2.2.1.2.1,.slice d.2.2.2.2.2.2.2.2.1.1 d.2.2.2.2.2.2.2.2.1.2.2.length d.2.2.2.2.2.2.2.2.1.2.1,.slice d.2.2.2.2.2.2.2.2.2.1.1 d.2.2.2.2.2.2.2.2.2.1.2.2.length d.2.2.2.2.2.2.2.2.2.1.2.1,.slice d.2.2.2.2.2.2.2.2.2.2.1 d.2.2.2.2.2.2.2.2.2.2.2.2.length d.2.2.2.2.2.2.2.2.2.2.2.1] V:=by rw [← hV]; exact Blk.new _ _ _
 have BC : Below w.heap.size w V:=by rw [← hV]; exact (Below.refl _ _).alloc (Nat.le_refl _) _
 have K0:=szD_is d 1048576 V (Nat.le_refl _) (hd.later BC) hl
 go_enter Tryz.func4,Tryz.ntmps4
 go_wp2_with (first | (refine wpList_ldB 35 _ w.heap.size 0 _ [.slice d.1.1.1 d.1.1.2.2.length d.1.1.2.1,.slice d.1.2.1.1 d.1.2.1.2.2.length d.1.2.1.2.1,.slice d.1.2.2.1.1 d.1.2.2.1.2.2.length d.1.2.2.1.2.1,.slice d.1.2.2.2.1.1 d.1.2.2.2.1.2.2.length d.1.2.2.2.1.2.1,I d.1.2.2.2.2,I d.2.1,I d.2.2.1,.slice d.2.2.2.1.1 d.2.2.2.1.2.2.length d.2.2.2.1.2.1,.slice d.2.2.2.2.1.1.1 d.2.2.2.2.1.1.2.2.length d.2.2.2.2.1.1.2.1,.slice d.2.2.2.2.1.2.1 d.2.2.2.2.1.2.2.2.length d.2.2.2.2.1.2.2.1,.slice d.2.2.2.2.2.1.1 d.2.2.2.2.2.1.2.2.length d.2.2.2.2.2.1.2.1,.slice d.2.2.2.2.2.2.1.1 d.2.2.2.2.2.2.1.2.2.length d.2.2.2.2.2.2.1.2.1,.slice d.2.2.2.2.2.2.2.1.1 d.2.2.2.2.2.2.2.1.2.2.length d.2.2.2.2.2.2.2.1.2.1,.slice d.2.2.2.2.2.2.2.2.1.1 d.2.2.2.2.2.2.2.2.1.2.2.length d.2.2.2.2.2.2.2.2.1.2.1,.slice d.2.2.2.2.2.2.2.2.2.1.1 d.2.2.2.2.2.2.2.2.2.1.2.2.length d.2.2.2.2.2.2.2.2.2.1.2.1,.slice d.2.2.2.2.2.2.2.2.2.2.1 d.2.2.2.2.2.2.2.2.2.2.2.2.length d.2.2.2.2.2.2.2.2.2.2.2.1] il hil (Tryz.isAgg35) TA hils.symm rfl rfl rfl rfl ?_; try simp only [Act.put]))
 refine K0.mono ?_
 clear K0 hV
 rintro en v0 ⟨rfl,hb⟩
 replace TA:=TA.later hb (World.block_lt_of_cell? _ _ (TA.at 0 rfl))
 replace BC:=BC.trans (hb.mono BC.size)
 clear hb
 by_cases hz : totD d ≤ 1048576
 ·rw [show szV (totD d) 1048576 = ((1048576 - totD d : Nat) : Int) from if_pos hz]
  have nz : ¬ (((1048576 - totD d : Nat) : Int) < 0):=by omega
  generalize ((1048576 - totD d : Nat) : Int) = lf at nz
  have K1:=toD_is d v0 (hd.later BC) hz
  go_wp2_with (first | (refine wpList_ldB 35 _ w.heap.size 0 _ [.slice d.1.1.1 d.1.1.2.2.length d.1.1.2.1,.slice d.1.2.1.1 d.1.2.1.2.2.length d.1.2.1.2.1,.slice d.1.2.2.1.1 d.1.2.2.1.2.2.length d.1.2.2.1.2.1,.slice d.1.2.2.2.1.1 d.1.2.2.2.1.2.2.length d.1.2.2.2.1.2.1,I d.1.2.2.2.2,I d.2.1,I d.2.2.1,.slice d.2.2.2.1.1 d.2.2.2.1.2.2.length d.2.2.2.1.2.1,.slice d.2.2.2.2.1.1.1 d.2.2.2.2.1.1.2.2.length d.2.2.2.2.1.1.2.1,.slice d.2.2.2.2.1.2.1 d.2.2.2.2.1.2.2.2.length d.2.2.2.2.1.2.2.1,.slice d.2.2.2.2.2.1.1 d.2.2.2.2.2.1.2.2.length d.2.2.2.2.2.1.2.1,.slice d.2.2.2.2.2.2.1.1 d.2.2.2.2.2.2.1.2.2.length d.2.2.2.2.2.2.1.2.1,.slice d.2.2.2.2.2.2.2.1.1 d.2.2.2.2.2.2.2.1.2.2.length d.2.2.2.2.2.2.2.1.2.1,.slice d.2.2.2.2.2.2.2.2.1.1 d.2.2.2.2.2.2.2.2.1.2.2.length d.2.2.2.2.2.2.2.2.1.2.1,.slice d.2.2.2.2.2.2.2.2.2.1.1 d.2.2.2.2.2.2.2.2.2.1.2.2.length d.2.2.2.2.2.2.2.2.2.1.2.1,.slice d.2.2.2.2.2.2.2.2.2.2.1 d.2.2.2.2.2.2.2.2.2.2.2.2.length d.2.2.2.2.2.2.2.2.2.2.2.1] il hil (Tryz.isAgg35) TA hils.symm rfl rfl rfl rfl ?_; try simp only [Act.put]))
  refine K1.mono ?_
  clear K1 nz
  rintro en v1 ⟨y1,rfl,s1,o1,hb⟩
  replace TA:=TA.later hb (World.block_lt_of_cell? _ _ (TA.at 0 rfl))
  replace BC:=BC.trans (hb.mono BC.size)
  clear hb
  have K2:=specSec_is _ y1 v1 (wd_of o1 s1 hz hk) (evi_of s1 hk)
  rw [wok_st s1,sc_st s1] at K2
  go_wp2_with fail
  refine K2.mono ?_
  clear K2 o1 s1
  rintro en v2 ⟨rfl,hb⟩
  replace TA:=TA.later hb (World.block_lt_of_cell? _ _ (TA.at 0 rfl))
  replace BC:=BC.trans (hb.mono BC.size)
  clear hb
  have K3:=toD_is d v2 (hd.later BC) hz
  go_wp2_with (first | (refine wpList_ldB 35 _ w.heap.size 0 _ [.slice d.1.1.1 d.1.1.2.2.length d.1.1.2.1,.slice d.1.2.1.1 d.1.2.1.2.2.length d.1.2.1.2.1,.slice d.1.2.2.1.1 d.1.2.2.1.2.2.length d.1.2.2.1.2.1,.slice d.1.2.2.2.1.1 d.1.2.2.2.1.2.2.length d.1.2.2.2.1.2.1,I d.1.2.2.2.2,I d.2.1,I d.2.2.1,.slice d.2.2.2.1.1 d.2.2.2.1.2.2.length d.2.2.2.1.2.1,.slice d.2.2.2.2.1.1.1 d.2.2.2.2.1.1.2.2.length d.2.2.2.2.1.1.2.1,.slice d.2.2.2.2.1.2.1 d.2.2.2.2.1.2.2.2.length d.2.2.2.2.1.2.2.1,.slice d.2.2.2.2.2.1.1 d.2.2.2.2.2.1.2.2.length d.2.2.2.2.2.1.2.1,.slice d.2.2.2.2.2.2.1.1 d.2.2.2.2.2.2.1.2.2.length d.2.2.2.2.2.2.1.2.1,.slice d.2.2.2.2.2.2.2.1.1 d.2.2.2.2.2.2.2.1.2.2.length d.2.2.2.2.2.2.2.1.2.1,.slice d.2.2.2.2.2.2.2.2.1.1 d.2.2.2.2.2.2.2.2.1.2.2.length d.2.2.2.2.2.2.2.2.1.2.1,.slice d.2.2.2.2.2.2.2.2.2.1.1 d.2.2.2.2.2.2.2.2.2.1.2.2.length d.2.2.2.2.2.2.2.2.2.1.2.1,.slice d.2.2.2.2.2.2.2.2.2.2.1 d.2.2.2.2.2.2.2.2.2.2.2.2.length d.2.2.2.2.2.2.2.2.2.2.2.1] il hil (Tryz.isAgg35) TA hils.symm rfl rfl rfl rfl ?_; try simp only [Act.put]))
  refine K3.mono ?_
  clear K3
  rintro en v3 ⟨y2,rfl,s2,o2,hb⟩
  have hbw : w.heap.size < v2.heap.size:=World.block_lt_of_cell? _ _ (TA.at 0 rfl)
  replace TA:=TA.later hb (World.block_lt_of_cell? _ _ (TA.at 0 rfl))
  replace BC:=BC.trans (hb.mono BC.size)
  have hs3:=hb.size
  clear hb
  obtain ⟨X0,hX0⟩ : ∃ X,v3.alloc (.cells #[.slice none 0 0,.slice none 0 0,.slice none 0 0,.slice none 0 0,I 0,I 0,I 0,.slice none 0 0,.slice none 0 0,.slice none 0 0,.slice none 0 0,.slice none 0 0,.slice none 0 0,.slice none 0 0,.slice none 0 0,.slice none 0 0] 48) = X:=⟨_,rfl⟩
  have R0 : Blk v3.heap.size [.slice none 0 0,.slice none 0 0,.slice none 0 0,.slice none 0 0,I 0,I 0,I 0,.slice none 0 0,.slice none 0 0,.slice none 0 0,.slice none 0 0,.slice none 0 0,.slice none 0 0,.slice none 0 0,.slice none 0 0,.slice none 0 0] X0:=by rw [← hX0]; exact Blk.new _ _ _
  have b0 : Below v3.heap.size v3 X0:=by rw [← hX0]; exact (Below.refl _ _).alloc (Nat.le_refl _) _
  obtain ⟨X1,hX1⟩ : ∃ X,X0.setCells v3.heap.size 0 [.slice y2.1.1.1 y2.1.1.2.2.length y2.1.1.2.1,.slice y2.1.2.1.1 y2.1.2.1.2.2.length y2.1.2.1.2.1,.slice y2.1.2.2.1.1 y2.1.2.2.1.2.2.length y2.1.2.2.1.2.1,.slice y2.1.2.2.2.1.1 y2.1.2.2.2.1.2.2.length y2.1.2.2.2.1.2.1,I y2.1.2.2.2.2,I y2.2.1,I y2.2.2.1,.slice y2.2.2.2.1.1 y2.2.2.2.1.2.2.length y2.2.2.2.1.2.1,.slice y2.2.2.2.2.1.1.1 y2.2.2.2.2.1.1.2.2.length y2.2.2.2.2.1.1.2.1,.slice y2.2.2.2.2.1.2.1 y2.2.2.2.2.1.2.2.2.length y2.2.2.2.2.1.2.2.1,.slice y2.2.2.2.2.2.1.1 y2.2.2.2.2.2.1.2.2.length y2.2.2.2.2.2.1.2.1,.slice y2.2.2.2.2.2.2.1.1 y2.2.2.2.2.2.2.1.2.2.length y2.2.2.2.2.2.2.1.2.1,.slice y2.2.2.2.2.2.2.2.1.1 y2.2.2.2.2.2.2.2.1.2.2.length y2.2.2.2.2.2.2.2.1.2.1,.slice y2.2.2.2.2.2.2.2.2.1.1 y2.2.2.2.2.2.2.2.2.1.2.2.length y2.2.2.2.2.2.2.2.2.1.2.1,.slice y2.2.2.2.2.2.2.2.2.2.1.1 y2.2.2.2.2.2.2.2.2.2.1.2.2.length y2.2.2.2.2.2.2.2.2.2.1.2.1,.slice y2.2.2.2.2.2.2.2.2.2.2.1 y2.2.2.2.2.2.2.2.2.2.2.2.2.length y2.2.2.2.2.2.2.2.2.2.2.2.1] = X:=⟨_,rfl⟩
  have TX : Blk v3.heap.size [.slice y2.1.1.1 y2.1.1.2.2.length y2.1.1.2.1,.slice y2.1.2.1.1 y2.1.2.1.2.2.length y2.1.2.1.2.1,.slice y2.1.2.2.1.1 y2.1.2.2.1.2.2.length y2.1.2.2.1.2.1,.slice y2.1.2.2.2.1.1 y2.1.2.2.2.1.2.2.length y2.1.2.2.2.1.2.1,I y2.1.2.2.2.2,I y2.2.1,I y2.2.2.1,.slice y2.2.2.2.1.1 y2.2.2.2.1.2.2.length y2.2.2.2.1.2.1,.slice y2.2.2.2.2.1.1.1 y2.2.2.2.2.1.1.2.2.length y2.2.2.2.2.1.1.2.1,.slice y2.2.2.2.2.1.2.1 y2.2.2.2.2.1.2.2.2.length y2.2.2.2.2.1.2.2.1,.slice y2.2.2.2.2.2.1.1 y2.2.2.2.2.2.1.2.2.length y2.2.2.2.2.2.1.2.1,.slice y2.2.2.2.2.2.2.1.1 y2.2.2.2.2.2.2.1.2.2.length y2.2.2.2.2.2.2.1.2.1,.slice y2.2.2.2.2.2.2.2.1.1 y2.2.2.2.2.2.2.2.1.2.2.length y2.2.2.2.2.2.2.2.1.2.1,.slice y2.2.2.2.2.2.2.2.2.1.1 y2.2.2.2.2.2.2.2.2.1.2.2.length y2.2.2.2.2.2.2.2.2.1.2.1,.slice y2.2.2.2.2.2.2.2.2.2.1.1 y2.2.2.2.2.2.2.2.2.2.1.2.2.length y2.2.2.2.2.2.2.2.2.2.1.2.1,.slice y2.2.2.2.2.2.2.2.2.2.2.1 y2.2.2.2.2.2.2.2.2.2.2.2.2.length y2.2.2.2.2.2.2.2.2.2.2.2.1] X1:=by rw [← hX1]; exact R0.sets _ rfl
  have b1 : Below v3.heap.size v3 X1:=by rw [← hX1]; exact below_sets (Nat.le_refl _) _ _ _ b0
  replace TA:=TA.later b1 (World.block_lt_of_cell? _ _ (TA.at 0 rfl))
  replace BC:=BC.trans (b1.mono BC.size)
  replace o2:=o2.later b1
  have K4:=implSec_is _ y2 X1 (wd_of o2 s2 hz hk) (evi_of s2 hk)
  rw [wok_st s2,sc_st s2] at K4
  generalize (wokB d && d.2.2.2.2.2.2.2.2.1.2.2.all fun x => scB d x) = wb at K4
  clear b1 b0
  go_wp2_with (first | (refine wpList_ldB 48 _ v3.heap.size 0 _ [.slice y2.1.1.1 y2.1.1.2.2.length y2.1.1.2.1,.slice y2.1.2.1.1 y2.1.2.1.2.2.length y2.1.2.1.2.1,.slice y2.1.2.2.1.1 y2.1.2.2.1.2.2.length y2.1.2.2.1.2.1,.slice y2.1.2.2.2.1.1 y2.1.2.2.2.1.2.2.length y2.1.2.2.2.1.2.1,I y2.1.2.2.2.2,I y2.2.1,I y2.2.2.1,.slice y2.2.2.2.1.1 y2.2.2.2.1.2.2.length y2.2.2.2.1.2.1,.slice y2.2.2.2.2.1.1.1 y2.2.2.2.2.1.1.2.2.length y2.2.2.2.2.1.1.2.1,.slice y2.2.2.2.2.1.2.1 y2.2.2.2.2.1.2.2.2.length y2.2.2.2.2.1.2.2.1,.slice y2.2.2.2.2.2.1.1 y2.2.2.2.2.2.1.2.2.length y2.2.2.2.2.2.1.2.1,.slice y2.2.2.2.2.2.2.1.1 y2.2.2.2.2.2.2.1.2.2.length y2.2.2.2.2.2.2.1.2.1,.slice y2.2.2.2.2.2.2.2.1.1 y2.2.2.2.2.2.2.2.1.2.2.length y2.2.2.2.2.2.2.2.1.2.1,.slice y2.2.2.2.2.2.2.2.2.1.1 y2.2.2.2.2.2.2.2.2.1.2.2.length y2.2.2.2.2.2.2.2.2.1.2.1,.slice y2.2.2.2.2.2.2.2.2.2.1.1 y2.2.2.2.2.2.2.2.2.2.1.2.2.length y2.2.2.2.2.2.2.2.2.2.1.2.1,.slice y2.2.2.2.2.2.2.2.2.2.2.1 y2.2.2.2.2.2.2.2.2.2.2.2.2.length y2.2.2.2.2.2.2.2.2.2.2.2.1] ie hie (Tryz.isAgg48) TX his.symm rfl rfl rfl rfl ?_; try simp only [Act.put]) | (refine wpList_stB 48 _ _ v3.heap.size 0 _ [.slice y2.1.1.1 y2.1.1.2.2.length y2.1.1.2.1,.slice y2.1.2.1.1 y2.1.2.1.2.2.length y2.1.2.1.2.1,.slice y2.1.2.2.1.1 y2.1.2.2.1.2.2.length y2.1.2.2.1.2.1,.slice y2.1.2.2.2.1.1 y2.1.2.2.2.1.2.2.length y2.1.2.2.2.1.2.1,I y2.1.2.2.2.2,I y2.2.1,I y2.2.2.1,.slice y2.2.2.2.1.1 y2.2.2.2.1.2.2.length y2.2.2.2.1.2.1,.slice y2.2.2.2.2.1.1.1 y2.2.2.2.2.1.1.2.2.length y2.2.2.2.2.1.1.2.1,.slice y2.2.2.2.2.1.2.1 y2.2.2.2.2.1.2.2.2.length y2.2.2.2.2.1.2.2.1,.slice y2.2.2.2.2.2.1.1 y2.2.2.2.2.2.1.2.2.length y2.2.2.2.2.2.1.2.1,.slice y2.2.2.2.2.2.2.1.1 y2.2.2.2.2.2.2.1.2.2.length y2.2.2.2.2.2.2.1.2.1,.slice y2.2.2.2.2.2.2.2.1.1 y2.2.2.2.2.2.2.2.1.2.2.length y2.2.2.2.2.2.2.2.1.2.1,.slice y2.2.2.2.2.2.2.2.2.1.1 y2.2.2.2.2.2.2.2.2.1.2.2.length y2.2.2.2.2.2.2.2.2.1.2.1,.slice y2.2.2.2.2.2.2.2.2.2.1.1 y2.2.2.2.2.2.2.2.2.2.1.2.2.length y2.2.2.2.2.2.2.2.2.2.1.2.1,.slice y2.2.2.2.2.2.2.2.2.2.2.1 y2.2.2.2.2.2.2.2.2.2.2.2.2.length y2.2.2.2.2.2.2.2.2.2.2.2.1] ie hie R0 his.symm (by simp) rfl rfl rfl rfl rfl ?_; rw [hX1]))
  refine K4.mono ?_
  clear K4 R0 hX0 hX1
  rintro en v4 ⟨rfl,hb⟩
  replace TA:=TA.later hb (World.block_lt_of_cell? _ _ (TA.at 0 rfl))
  replace TX:=TX.later hb (World.block_lt_of_cell? _ _ (TX.at 0 rfl))
  replace BC:=BC.trans (hb.mono BC.size)
  replace o2:=o2.later hb
  clear hb
  have hne : (wb != wb) = false:=by cases wb <;> rfl
  have K5:=toD_is d v4.drew ((hd.later BC).later (Below.refl _ _).drew) hz
  have lA : w.heap.size < v4.drew.heap.size:=World.block_lt_of_cell? _ _ (TA.at 0 rfl)
  have lX : v3.heap.size < v4.drew.heap.size:=World.block_lt_of_cell? _ _ (TX.at 0 rfl)
  go_wp2_with fail
  refine wp_region_held_drew (S:=(fun U : World => Blk w.heap.size [.slice d.1.1.1 d.1.1.2.2.length d.1.1.2.1,.slice d.1.2.1.1 d.1.2.1.2.2.length d.1.2.1.2.1,.slice d.1.2.2.1.1 d.1.2.2.1.2.2.length d.1.2.2.1.2.1,.slice d.1.2.2.2.1.1 d.1.2.2.2.1.2.2.length d.1.2.2.2.1.2.1,I d.1.2.2.2.2,I d.2.1,I d.2.2.1,.slice d.2.2.2.1.1 d.2.2.2.1.2.2.length d.2.2.2.1.2.1,.slice d.2.2.2.2.1.1.1 d.2.2.2.2.1.1.2.2.length d.2.2.2.2.1.1.2.1,.slice d.2.2.2.2.1.2.1 d.2.2.2.2.1.2.2.2.length d.2.2.2.2.1.2.2.1,.slice d.2.2.2.2.2.1.1 d.2.2.2.2.2.1.2.2.length d.2.2.2.2.2.1.2.1,.slice d.2.2.2.2.2.2.1.1 d.2.2.2.2.2.2.1.2.2.length d.2.2.2.2.2.2.1.2.1,.slice d.2.2.2.2.2.2.2.1.1 d.2.2.2.2.2.2.2.1.2.2.length d.2.2.2.2.2.2.2.1.2.1,.slice d.2.2.2.2.2.2.2.2.1.1 d.2.2.2.2.2.2.2.2.1.2.2.length d.2.2.2.2.2.2.2.2.1.2.1,.slice d.2.2.2.2.2.2.2.2.2.1.1 d.2.2.2.2.2.2.2.2.2.1.2.2.length d.2.2.2.2.2.2.2.2.2.1.2.1,.slice d.2.2.2.2.2.2.2.2.2.2.1 d.2.2.2.2.2.2.2.2.2.2.2.2.length d.2.2.2.2.2.2.2.2.2.2.2.1] U ∧ Blk v3.heap.size [.slice y2.1.1.1 y2.1.1.2.2.length y2.1.1.2.1,.slice y2.1.2.1.1 y2.1.2.1.2.2.length y2.1.2.1.2.1,.slice y2.1.2.2.1.1 y2.1.2.2.1.2.2.length y2.1.2.2.1.2.1,.slice y2.1.2.2.2.1.1 y2.1.2.2.2.1.2.2.length y2.1.2.2.2.1.2.1,I y2.1.2.2.2.2,I y2.2.1,I y2.2.2.1,.slice y2.2.2.2.1.1 y2.2.2.2.1.2.2.length y2.2.2.2.1.2.1,.slice y2.2.2.2.2.1.1.1 y2.2.2.2.2.1.1.2.2.length y2.2.2.2.2.1.1.2.1,.slice y2.2.2.2.2.1.2.1 y2.2.2.2.2.1.2.2.2.length y2.2.2.2.2.1.2.2.1,.slice y2.2.2.2.2.2.1.1 y2.2.2.2.2.2.1.2.2.length y2.2.2.2.2.2.1.2.1,.slice y2.2.2.2.2.2.2.1.1 y2.2.2.2.2.2.2.1.2.2.length y2.2.2.2.2.2.2.1.2.1,.slice y2.2.2.2.2.2.2.2.1.1 y2.2.2.2.2.2.2.2.1.2.2.length y2.2.2.2.2.2.2.2.1.2.1,.slice y2.2.2.2.2.2.2.2.2.1.1 y2.2.2.2.2.2.2.2.2.1.2.2.length y2.2.2.2.2.2.2.2.2.1.2.1,.slice y2.2.2.2.2.2.2.2.2.2.1.1 y2.2.2.2.2.2.2.2.2.2.1.2.2.length y2.2.2.2.2.2.2.2.2.2.1.2.1,.slice y2.2.2.2.2.2.2.2.2.2.2.1 y2.2.2.2.2.2.2.2.2.2.2.2.2.length y2.2.2.2.2.2.2.2.2.2.2.2.1] U)) (by kernel_rfl) ⟨TA.drew,TX.drew⟩ (fun hHeld => ?_)
  refine tk 0 22 rfl (.agg #[.slice y2.1.1.1 y2.1.1.2.2.length y2.1.1.2.1,.slice y2.1.2.1.1 y2.1.2.1.2.2.length y2.1.2.1.2.1,.slice y2.1.2.2.1.1 y2.1.2.2.1.2.2.length y2.1.2.2.1.2.1,.slice y2.1.2.2.2.1.1 y2.1.2.2.2.1.2.2.length y2.1.2.2.2.1.2.1,I y2.1.2.2.2.2,I y2.2.1,I y2.2.2.1,.slice y2.2.2.2.1.1 y2.2.2.2.1.2.2.length y2.2.2.2.1.2.1,.slice y2.2.2.2.2.1.1.1 y2.2.2.2.2.1.1.2.2.length y2.2.2.2.2.1.1.2.1,.slice y2.2.2.2.2.1.2.1 y2.2.2.2.2.1.2.2.2.length y2.2.2.2.2.1.2.2.1,.slice y2.2.2.2.2.2.1.1 y2.2.2.2.2.2.1.2.2.length y2.2.2.2.2.2.1.2.1,.slice y2.2.2.2.2.2.2.1.1 y2.2.2.2.2.2.2.1.2.2.length y2.2.2.2.2.2.2.1.2.1,.slice y2.2.2.2.2.2.2.2.1.1 y2.2.2.2.2.2.2.2.1.2.2.length y2.2.2.2.2.2.2.2.1.2.1,.slice y2.2.2.2.2.2.2.2.2.1.1 y2.2.2.2.2.2.2.2.2.1.2.2.length y2.2.2.2.2.2.2.2.2.1.2.1,.slice y2.2.2.2.2.2.2.2.2.2.1.1 y2.2.2.2.2.2.2.2.2.2.1.2.2.length y2.2.2.2.2.2.2.2.2.2.1.2.1,.slice y2.2.2.2.2.2.2.2.2.2.2.1 y2.2.2.2.2.2.2.2.2.2.2.2.2.length y2.2.2.2.2.2.2.2.2.2.2.2.1]) hHeld ?_ ?_
  ·intro w' hSw; obtain ⟨bA,bX⟩:=hSw; have hl:=ldB (P:=Tryz.prog) 48 ie hie (Tryz.isAgg48) (o:=0) [.slice y2.1.1.1 y2.1.1.2.2.length y2.1.1.2.1,.slice y2.1.2.1.1 y2.1.2.1.2.2.length y2.1.2.1.2.1,.slice y2.1.2.2.1.1 y2.1.2.2.1.2.2.length y2.1.2.2.1.2.1,.slice y2.1.2.2.2.1.1 y2.1.2.2.2.1.2.2.length y2.1.2.2.2.1.2.1,I y2.1.2.2.2.2,I y2.2.1,I y2.2.2.1,.slice y2.2.2.2.1.1 y2.2.2.2.1.2.2.length y2.2.2.2.1.2.1,.slice y2.2.2.2.2.1.1.1 y2.2.2.2.2.1.1.2.2.length y2.2.2.2.2.1.1.2.1,.slice y2.2.2.2.2.1.2.1 y2.2.2.2.2.1.2.2.2.length y2.2.2.2.2.1.2.2.1,.slice y2.2.2.2.2.2.1.1 y2.2.2.2.2.2.1.2.2.length y2.2.2.2.2.2.1.2.1,.slice y2.2.2.2.2.2.2.1.1 y2.2.2.2.2.2.2.1.2.2.length y2.2.2.2.2.2.2.1.2.1,.slice y2.2.2.2.2.2.2.2.1.1 y2.2.2.2.2.2.2.2.1.2.2.length y2.2.2.2.2.2.2.2.1.2.1,.slice y2.2.2.2.2.2.2.2.2.1.1 y2.2.2.2.2.2.2.2.2.1.2.2.length y2.2.2.2.2.2.2.2.2.1.2.1,.slice y2.2.2.2.2.2.2.2.2.2.1.1 y2.2.2.2.2.2.2.2.2.2.1.2.2.length y2.2.2.2.2.2.2.2.2.2.1.2.1,.slice y2.2.2.2.2.2.2.2.2.2.2.1 y2.2.2.2.2.2.2.2.2.2.2.2.2.length y2.2.2.2.2.2.2.2.2.2.2.2.1] bX his.symm rfl; exact exec_ld 48 _ rfl rfl hl
  try simp only [Act.put,pa,pb,pc]
  refine tk 1 23 rfl (.agg #[.slice d.1.1.1 d.1.1.2.2.length d.1.1.2.1,.slice d.1.2.1.1 d.1.2.1.2.2.length d.1.2.1.2.1,.slice d.1.2.2.1.1 d.1.2.2.1.2.2.length d.1.2.2.1.2.1,.slice d.1.2.2.2.1.1 d.1.2.2.2.1.2.2.length d.1.2.2.2.1.2.1,I d.1.2.2.2.2,I d.2.1,I d.2.2.1,.slice d.2.2.2.1.1 d.2.2.2.1.2.2.length d.2.2.2.1.2.1,.slice d.2.2.2.2.1.1.1 d.2.2.2.2.1.1.2.2.length d.2.2.2.2.1.1.2.1,.slice d.2.2.2.2.1.2.1 d.2.2.2.2.1.2.2.2.length d.2.2.2.2.1.2.2.1,.slice d.2.2.2.2.2.1.1 d.2.2.2.2.2.1.2.2.length d.2.2.2.2.2.1.2.1,.slice d.2.2.2.2.2.2.1.1 d.2.2.2.2.2.2.1.2.2.length d.2.2.2.2.2.2.1.2.1,.slice d.2.2.2.2.2.2.2.1.1 d.2.2.2.2.2.2.2.1.2.2.length d.2.2.2.2.2.2.2.1.2.1,.slice d.2.2.2.2.2.2.2.2.1.1 d.2.2.2.2.2.2.2.2.1.2.2.length d.2.2.2.2.2.2.2.2.1.2.1,.slice d.2.2.2.2.2.2.2.2.2.1.1 d.2.2.2.2.2.2.2.2.2.1.2.2.length d.2.2.2.2.2.2.2.2.2.1.2.1,.slice d.2.2.2.2.2.2.2.2.2.2.1 d.2.2.2.2.2.2.2.2.2.2.2.2.length d.2.2.2.2.2.2.2.2.2.2.2.1]) hHeld ?_ ?_
  ·intro w' hSw; obtain ⟨bA,bX⟩:=hSw; have hl:=ldB (P:=Tryz.prog) 35 il hil (Tryz.isAgg35) (o:=0) [.slice d.1.1.1 d.1.1.2.2.length d.1.1.2.1,.slice d.1.2.1.1 d.1.2.1.2.2.length d.1.2.1.2.1,.slice d.1.2.2.1.1 d.1.2.2.1.2.2.length d.1.2.2.1.2.1,.slice d.1.2.2.2.1.1 d.1.2.2.2.1.2.2.length d.1.2.2.2.1.2.1,I d.1.2.2.2.2,I d.2.1,I d.2.2.1,.slice d.2.2.2.1.1 d.2.2.2.1.2.2.length d.2.2.2.1.2.1,.slice d.2.2.2.2.1.1.1 d.2.2.2.2.1.1.2.2.length d.2.2.2.2.1.1.2.1,.slice d.2.2.2.2.1.2.1 d.2.2.2.2.1.2.2.2.length d.2.2.2.2.1.2.2.1,.slice d.2.2.2.2.2.1.1 d.2.2.2.2.2.1.2.2.length d.2.2.2.2.2.1.2.1,.slice d.2.2.2.2.2.2.1.1 d.2.2.2.2.2.2.1.2.2.length d.2.2.2.2.2.2.1.2.1,.slice d.2.2.2.2.2.2.2.1.1 d.2.2.2.2.2.2.2.1.2.2.length d.2.2.2.2.2.2.2.1.2.1,.slice d.2.2.2.2.2.2.2.2.1.1 d.2.2.2.2.2.2.2.2.1.2.2.length d.2.2.2.2.2.2.2.2.1.2.1,.slice d.2.2.2.2.2.2.2.2.2.1.1 d.2.2.2.2.2.2.2.2.2.1.2.2.length d.2.2.2.2.2.2.2.2.2.1.2.1,.slice d.2.2.2.2.2.2.2.2.2.2.1 d.2.2.2.2.2.2.2.2.2.2.2.2.length d.2.2.2.2.2.2.2.2.2.2.2.1] bA hils.symm rfl; exact exec_ld 35 _ rfl rfl hl
  try simp only [Act.put,pa,pb,pc]
  refine wpAnyH_ready (rs:=[2]) (by kernel_rfl) (by simp) ?_
  refine AllReadyH.cons (i:=2) rfl (fun K hK => ?_) AllReadyH.nil
  go_simp
  refine (K5).mono ?_
  rintro en v5 ⟨y3,rfl,s3,o3,hb5⟩
  clear K5
  go_wp2_with fail
  refine hK.out _ _ ⟨TA.drew.later hb5 lA,TX.drew.later hb5 lX⟩ (fun hHeld2 => ?_)
  clear hK K hHeld
  have hHeld:=hHeld2
  clear hHeld2
  try simp only [Act.put,pa,pb,pc]
  refine wpAnyH_ready (rs:=[3]) (by kernel_rfl) (by simp) ?_
  refine AllReadyH.cons (i:=3) rfl (fun K hK => ?_) AllReadyH.nil
  go_simp
  refine (eqD_is y2 y3 v5 ((o2.later (Below.refl _ v4).drew).later hb5).dp o3.dp (s2.trans s3.symm) (by rw [tot_st s2]; exact hz)).mono ?_
  rintro en v6 ⟨rfl,hb6⟩
  go_wp2_with fail
  refine hK.out _ _ ⟨TA.drew.later (hb5.trans (hb6.mono hb5.size)) lA,TX.drew.later (hb5.trans (hb6.mono hb5.size)) lX⟩ (fun hHeld2 => ?_)
  clear hK K hHeld
  have hHeld:=hHeld2
  clear hHeld2
  try simp only [Act.put,pa,pb,pc]
  refine tk 4 26 rfl _ hHeld (by intro w' h; (try dsimp only at h); go_simp; try with_reducible rfl) ?_
  try simp only [Act.put,pa,pb,pc]
  refine wpAnyH_done (by kernel_rfl) ?_ _
  have BF : Below w.heap.size w v6:=BC.trans (((Below.refl _ v4).drew.trans (hb5.trans (hb6.mono hb5.size))).mono BC.size)
  clear hHeld
  go_wp2
  go_ret
  exact ⟨rfl,BF⟩
 ·rw [show szV (totD d) 1048576 = -1 from if_neg hz]
  go_wp2
  go_ret
  exact ⟨rfl,BC⟩
end Go.Proofs.YtlmpfkbgknbcnaaGreat.Nd
