/- Deep structs compared. -/
import Derived.Test.YtlmpfkbgknbcnaaGreatAb
import Derived.Test.YtlmpfkbgknbcnaaGreatNc1
import Derived.Test.YtlmpfkbgknbcnaaGreatNc2
set_option linter.unusedVariables false
set_option maxRecDepth 100000
namespace Go.Proofs.YtlmpfkbgknbcnaaGreat.Nd
open Go Go.RowKit Go.Joins Own Draw
set_option maxRecDepth 100000 in
set_option maxHeartbeats 6400000 in
theorem eqK_is (x y : TK) (w : World) (hx : DpK w x) (hy : DpK w y) (hs : stK x = stK y) (hl : totK x ≤ 1048576) : Calls Tryz.prog 87 #[vK x,vK y] w fun en w' => en = .returned (.bool true) ∧ Below w.heap.size w w':=by
 obtain ⟨f0,f1⟩:=x
 obtain ⟨g0,g1⟩:=y
 unfold stK at hs
 unfold DpK at hx hy
 unfold totK at hl
 dsimp only at hx hy hl
 simp only [Prod.mk.injEq] at hs
 obtain ⟨e0,e1⟩:=hs
 have hx1:=hx
 have hy1:=hy
 subst e0
 obtain ⟨V,hV⟩ : ∃ V,(w.alloc (.cells #[I f0,.slice f1.1 f1.2.2.length f1.2.1] 76)).alloc (.cells #[I f0,.slice g1.1 g1.2.2.length g1.2.1] 76) = V:=⟨_,rfl⟩
 have BC : Below w.heap.size w V:=by rw [← hV]; exact ((Below.refl _ _).alloc (Nat.le_refl _) _).alloc (by simp) _
 have TA : Blk w.heap.size [I f0,.slice f1.1 f1.2.2.length f1.2.1] V:=by rw [← hV]; exact (Blk.new w #[I f0,.slice f1.1 f1.2.2.length f1.2.1] 76).alloc (by simp) _
 have TB : Blk (w.heap.size + 1) [I f0,.slice g1.1 g1.2.2.length g1.2.1] V:=by rw [← hV]; have:=Blk.new (w.alloc (.cells #[I f0,.slice f1.1 f1.2.2.length f1.2.1] 76)) #[I f0,.slice g1.1 g1.2.2.length g1.2.1] 76; simpa using this
 have p0:=TA.at 0 rfl
 have q0:=TB.at 0 rfl
 have p1:=TA.at 1 rfl
 have q1:=TB.at 1 rfl
 go_enter Tryz.func87,Tryz.ntmps87
 go_wp2_with fail
 try rw [hV]
 refine (eqSA_u f1 g1 _ (hx1.later BC) (hy1.later BC) e1 (by omega)).mono ?_
 clear hV p0 q0 p1 q1
 rintro en v1 ⟨rfl,hb⟩
 replace TA:=TA.later hb (World.block_lt_of_cell? _ _ (TA.at 0 rfl))
 replace TB:=TB.later hb (World.block_lt_of_cell? _ _ (TB.at 0 rfl))
 replace BC:=BC.trans (hb.mono BC.size)
 clear hb
 go_wp2
 go_ret
 exact ⟨rfl,BC⟩
set_option maxRecDepth 100000 in
set_option maxHeartbeats 3200000 in
theorem eqSK_is (r q : Rw TK) (w : World) (hr : RpK w r) (hq : RpK w q) (hs : rsK r = rsK q) (hl : rtK r ≤ 1048576) : Calls Tryz.prog 45 #[.slice r.1 r.2.2.length r.2.1,.slice q.1 q.2.2.length q.2.1] w fun en w' => en = .returned (.bool true) ∧ Below w.heap.size w w':=by
 have hlen:=rsK_len hs
 obtain ⟨a,ca,xs⟩:=r
 obtain ⟨b,cb,ys⟩:=q
 obtain ⟨ha,hDx⟩:=hr
 obtain ⟨hb,hDy⟩:=hq
 dsimp only at ha hDx hb hDy hl hlen ⊢
 have hst : ∀ k (h : k < xs.length) (h' : k < ys.length),stK xs[k] = stK ys[k]:=fun k h h' => by
  have h1 : xs.map stK = ys.map stK:=hs
  have h2 : (xs.map stK)[k]'(by simpa using h) = (ys.map stK)[k]'(by simpa using h'):=by simp only [h1]
  simpa using h2
 have hte : ∀ x ∈ xs,totK x ≤ 1048576:=fun x hx => by
  have h1 : totK x ≤ (xs.map totK).sum:=le_sum_of_mem (List.mem_map_of_mem hx)
  have h2 : rtK (a,ca,xs) = xs.length + (xs.map totK).sum:=rfl
  omega
 have hxl:=rtK_len (a,ca,xs)
 dsimp only at hxl
 rw [← hlen]
 clear hs
 replace hlen : Hid (xs.length = ys.length):=hlen
 go_enter Tryz.func45,Tryz.ntmps45
 go_wp2
 go_loopw [5] (fun i wr => ∃ k : Nat,k ≤ xs.length ∧ i = I k ∧ Below w.heap.size w wr) (fun i _ => xs.length - (intOf i).toNat)
 case atStart => exact ⟨0,by omega,rfl,Below.refl _ _⟩
 case round =>
  obtain ⟨k,hk,rfl,hbel⟩:=hrel
  by_cases hlt : k < xs.length
  ·have hlt' : k < ys.length:=by have:=hlen.out; omega
   obtain ⟨b1,o1,rfl,l1,h⟩:=ha k hlt
   obtain ⟨b2,o2,rfl,l2,g⟩:=hb k hlt'
   have hlt2 : (k : Int) < (xs.length : Int):=by omega
   have m1 : b1 < wr.drew.heap.size:=Nat.lt_of_lt_of_le l1 hbel.size
   have m2 : b2 < wr.drew.heap.size:=Nat.lt_of_lt_of_le l2 hbel.size
   have BD:=hbel.drew
   have K1:=eqK_is xs[k] ys[k] wr.drew ((hDx _ (List.getElem_mem hlt)).later BD) ((hDy _ (List.getElem_mem hlt')).later BD) (hst k hlt hlt') (hte _ (List.getElem_mem hlt))
   have h0 : wr.drew.cell? ⟨b1,o1 + k * 2,none⟩ = some (I xs[k].1):=(hbel.cell (p:=⟨b1,o1 + k * 2,none⟩) l1).trans (h 0 _ rfl)
   have h1 : wr.drew.cell? ⟨b1,o1 + k * 2 + 1,none⟩ = some (.slice xs[k].2.1 xs[k].2.2.2.length xs[k].2.2.1):=(hbel.cell (p:=⟨b1,o1 + k * 2 + 1,none⟩) l1).trans (h 1 _ rfl)
   have g0 : wr.drew.cell? ⟨b2,o2 + k * 2,none⟩ = some (I ys[k].1):=(hbel.cell (p:=⟨b2,o2 + k * 2,none⟩) l2).trans (g 0 _ rfl)
   have g1 : wr.drew.cell? ⟨b2,o2 + k * 2 + 1,none⟩ = some (.slice ys[k].2.1 ys[k].2.2.2.length ys[k].2.2.1):=(hbel.cell (p:=⟨b2,o2 + k * 2 + 1,none⟩) l2).trans (g 1 _ rfl)
   clear h g
   generalize xs[k] = x at K1 h0 h1
   generalize ys[k] = y at K1 g0 g1
   clear hDx hDy hst hte
   go_wp2_with fail
   refine wp_region_held_drew (S:=(fun V : World => V.cell? ⟨b1,o1 + k * 2,none⟩ = some (I x.1) ∧ V.cell? ⟨b1,o1 + k * 2 + 1,none⟩ = some (.slice x.2.1 x.2.2.2.length x.2.2.1) ∧ V.cell? ⟨b2,o2 + k * 2,none⟩ = some (I y.1) ∧ V.cell? ⟨b2,o2 + k * 2 + 1,none⟩ = some (.slice y.2.1 y.2.2.2.length y.2.2.1))) (by kernel_rfl) ⟨h0,h1,g0,g1⟩ (fun hHeld => ?_)
   refine tk 0 17 rfl _ hHeld (by intro w' h; (try dsimp only at h); obtain ⟨c0,c1,c2,c3⟩:=h; go_simp; try with_reducible rfl) ?_
   try simp only [Act.put,pa,pb,pc]
   refine tk 1 18 rfl _ hHeld (by intro w' h; (try dsimp only at h); obtain ⟨c0,c1,c2,c3⟩:=h; go_simp; try with_reducible rfl) ?_
   try simp only [Act.put,pa,pb,pc]
   refine tk 2 19 rfl _ hHeld (by intro w' h; (try dsimp only at h); obtain ⟨c0,c1,c2,c3⟩:=h; go_simp; try with_reducible rfl) ?_
   try simp only [Act.put,pa,pb,pc]
   refine tk 3 20 rfl _ hHeld (by intro w' h; (try dsimp only at h); obtain ⟨c0,c1,c2,c3⟩:=h; go_simp; try with_reducible rfl) ?_
   try simp only [Act.put,pa,pb,pc]
   refine tk 4 21 rfl _ hHeld (by intro w' h; (try dsimp only at h); obtain ⟨c0,c1,c2,c3⟩:=h; go_simp; try with_reducible rfl) ?_
   try simp only [Act.put,pa,pb,pc]
   refine tk 5 22 rfl _ hHeld (by intro w' h; (try dsimp only at h); obtain ⟨c0,c1,c2,c3⟩:=h; go_simp; try with_reducible rfl) ?_
   try simp only [Act.put,pa,pb,pc]
   refine tk 6 23 rfl _ hHeld (by intro w' h; (try dsimp only at h); obtain ⟨c0,c1,c2,c3⟩:=h; go_simp; try with_reducible rfl) ?_
   try simp only [Act.put,pa,pb,pc]
   refine tk 7 24 rfl _ hHeld (by intro w' h; (try dsimp only at h); obtain ⟨c0,c1,c2,c3⟩:=h; go_simp; try with_reducible rfl) ?_
   try simp only [Act.put,pa,pb,pc]
   refine wpAnyH_ready (rs:=[8]) (by kernel_rfl) (by simp) ?_
   refine AllReadyH.cons (i:=8) rfl (fun K hK => ?_) AllReadyH.nil
   go_simp
   refine K1.mono ?_
   clear K1
   rintro e w2 ⟨rfl,hb2⟩
   go_wp2_with fail
   refine hK.out _ _ ⟨(hb2.cell (p:=⟨b1,o1 + k * 2,none⟩) m1).trans h0,(hb2.cell (p:=⟨b1,o1 + k * 2 + 1,none⟩) m1).trans h1,(hb2.cell (p:=⟨b2,o2 + k * 2,none⟩) m2).trans g0,(hb2.cell (p:=⟨b2,o2 + k * 2 + 1,none⟩) m2).trans g1⟩ (fun hHeld2 => ?_)
   clear hK K hHeld
   have hHeld:=hHeld2
   clear hHeld2
   try simp only [Act.put,pa,pb,pc]
   refine tk 9 26 rfl _ hHeld (by intro w' h; (try dsimp only at h); obtain ⟨c0,c1,c2,c3⟩:=h; go_simp; try with_reducible rfl) ?_
   try simp only [Act.put,pa,pb,pc]
   refine wpAnyH_done (by kernel_rfl) ?_ _
   have B2:=BD.trans (hb2.mono BD.size)
   clear hHeld h0 h1 g0 g1
   go_wp2
   go_roundw
   case rel => exact ⟨k + 1,by omega,by go_num,B2⟩
   case measure => simp [intOf]; omega
  ·go_wp2
   go_ret
   exact ⟨rfl,hbel⟩
set_option maxRecDepth 100000 in
set_option maxHeartbeats 6400000 in
theorem eqQ_is (x y : TQ) (w : World) (hx : DpQ w x) (hy : DpQ w y) (hs : stQ x = stQ y) (hl : totQ x ≤ 1048576) : Calls Tryz.prog 89 #[vQ x,vQ y] w fun en w' => en = .returned (.bool true) ∧ Below w.heap.size w w':=by
 obtain ⟨f0,f1,f2,f3,f4,f5,f6,f7,f8,f9,f10⟩:=x
 obtain ⟨g0,g1,g2,g3,g4,g5,g6,g7,g8,g9,g10⟩:=y
 unfold stQ at hs
 unfold DpQ at hx hy
 unfold totQ at hl
 dsimp only at hx hy hl
 simp only [Prod.mk.injEq] at hs
 obtain ⟨e0,e1,e2,e3,e4,e5,e6,e7,e8,e9,e10⟩:=hs
 obtain ⟨hx7,hx8⟩:=hx
 obtain ⟨hy7,hy8⟩:=hy
 subst e0
 subst e1
 subst e2
 subst e3
 subst e4
 subst e5
 obtain ⟨f5_0,f5_1,f5_2⟩:=f5
 subst e6
 obtain ⟨f6_0,f6_1,f6_2⟩:=f6
 subst e9
 subst e10
 obtain ⟨V,hV⟩ : ∃ V,(w.alloc (.cells #[I f0,I f1,I f2,I f3,I f4,I f5_0,I f5_1,I f5_2,I f6_0,I f6_1,I f6_2,.slice f7.1 f7.2.2.length f7.2.1,.slice f8.1 f8.2.2.length f8.2.1,I f9,.string f10] 80)).alloc (.cells #[I f0,I f1,I f2,I f3,I f4,I f5_0,I f5_1,I f5_2,I f6_0,I f6_1,I f6_2,.slice g7.1 g7.2.2.length g7.2.1,.slice g8.1 g8.2.2.length g8.2.1,I f9,.string f10] 80) = V:=⟨_,rfl⟩
 have BC : Below w.heap.size w V:=by rw [← hV]; exact ((Below.refl _ _).alloc (Nat.le_refl _) _).alloc (by simp) _
 have TA : Blk w.heap.size [I f0,I f1,I f2,I f3,I f4,I f5_0,I f5_1,I f5_2,I f6_0,I f6_1,I f6_2,.slice f7.1 f7.2.2.length f7.2.1,.slice f8.1 f8.2.2.length f8.2.1,I f9,.string f10] V:=by rw [← hV]; exact (Blk.new w #[I f0,I f1,I f2,I f3,I f4,I f5_0,I f5_1,I f5_2,I f6_0,I f6_1,I f6_2,.slice f7.1 f7.2.2.length f7.2.1,.slice f8.1 f8.2.2.length f8.2.1,I f9,.string f10] 80).alloc (by simp) _
 have TB : Blk (w.heap.size + 1) [I f0,I f1,I f2,I f3,I f4,I f5_0,I f5_1,I f5_2,I f6_0,I f6_1,I f6_2,.slice g7.1 g7.2.2.length g7.2.1,.slice g8.1 g8.2.2.length g8.2.1,I f9,.string f10] V:=by rw [← hV]; have:=Blk.new (w.alloc (.cells #[I f0,I f1,I f2,I f3,I f4,I f5_0,I f5_1,I f5_2,I f6_0,I f6_1,I f6_2,.slice f7.1 f7.2.2.length f7.2.1,.slice f8.1 f8.2.2.length f8.2.1,I f9,.string f10] 80)) #[I f0,I f1,I f2,I f3,I f4,I f5_0,I f5_1,I f5_2,I f6_0,I f6_1,I f6_2,.slice g7.1 g7.2.2.length g7.2.1,.slice g8.1 g8.2.2.length g8.2.1,I f9,.string f10] 80; simpa using this
 have p0:=TA.at 0 rfl
 have q0:=TB.at 0 rfl
 have p1:=TA.at 1 rfl
 have q1:=TB.at 1 rfl
 have p2:=TA.at 2 rfl
 have q2:=TB.at 2 rfl
 have p3:=TA.at 3 rfl
 have q3:=TB.at 3 rfl
 have p4:=TA.at 4 rfl
 have q4:=TB.at 4 rfl
 have p5:=TA.at 5 rfl
 have q5:=TB.at 5 rfl
 have p6:=TA.at 6 rfl
 have q6:=TB.at 6 rfl
 have p7:=TA.at 7 rfl
 have q7:=TB.at 7 rfl
 go_enter Tryz.func89,Tryz.ntmps89
 go_wp2_with fail
 try rw [hV]
 refine (eqA_is f5_0 f5_1 f5_2 _).mono ?_
 clear hV p0 q0 p1 q1 p2 q2 p3 q3 p4 q4 p5 q5 p6 q6 p7 q7
 rintro en v5 ⟨rfl,hb⟩
 replace TA:=TA.later hb (World.block_lt_of_cell? _ _ (TA.at 0 rfl))
 replace TB:=TB.later hb (World.block_lt_of_cell? _ _ (TB.at 0 rfl))
 replace BC:=BC.trans (hb.mono BC.size)
 clear hb
 have p8:=TA.at 8 rfl
 have q8:=TB.at 8 rfl
 have p9:=TA.at 9 rfl
 have q9:=TB.at 9 rfl
 have p10:=TA.at 10 rfl
 have q10:=TB.at 10 rfl
 go_wp2_with fail
 try rw [hV]
 refine (eqR_is f6_0 f6_1 f6_2 _).mono ?_
 clear p8 q8 p9 q9 p10 q10
 rintro en v6 ⟨rfl,hb⟩
 replace TA:=TA.later hb (World.block_lt_of_cell? _ _ (TA.at 0 rfl))
 replace TB:=TB.later hb (World.block_lt_of_cell? _ _ (TB.at 0 rfl))
 replace BC:=BC.trans (hb.mono BC.size)
 clear hb
 have p11:=TA.at 11 rfl
 have q11:=TB.at 11 rfl
 go_wp2_with fail
 try rw [hV]
 refine (eqSI_u f7 g7 _ (hx7.later BC) (hy7.later BC) e7 (by omega)).mono ?_
 clear p11 q11
 rintro en v7 ⟨rfl,hb⟩
 replace TA:=TA.later hb (World.block_lt_of_cell? _ _ (TA.at 0 rfl))
 replace TB:=TB.later hb (World.block_lt_of_cell? _ _ (TB.at 0 rfl))
 replace BC:=BC.trans (hb.mono BC.size)
 clear hb
 have p12:=TA.at 12 rfl
 have q12:=TB.at 12 rfl
 go_wp2_with fail
 try rw [hV]
 refine (eqSI_u f8 g8 _ (hx8.later BC) (hy8.later BC) e8 (by omega)).mono ?_
 clear p12 q12
 rintro en v8 ⟨rfl,hb⟩
 replace TA:=TA.later hb (World.block_lt_of_cell? _ _ (TA.at 0 rfl))
 replace TB:=TB.later hb (World.block_lt_of_cell? _ _ (TB.at 0 rfl))
 replace BC:=BC.trans (hb.mono BC.size)
 clear hb
 have p13:=TA.at 13 rfl
 have q13:=TB.at 13 rfl
 have p14:=TA.at 14 rfl
 have q14:=TB.at 14 rfl
 go_wp2
 go_ret
 exact ⟨rfl,BC⟩
set_option maxRecDepth 100000 in
set_option maxHeartbeats 3200000 in
theorem eqSQ_is (r q : Rw TQ) (w : World) (hr : RpQ w r) (hq : RpQ w q) (hs : rsQ r = rsQ q) (hl : rtQ r ≤ 1048576) : Calls Tryz.prog 47 #[.slice r.1 r.2.2.length r.2.1,.slice q.1 q.2.2.length q.2.1] w fun en w' => en = .returned (.bool true) ∧ Below w.heap.size w w':=by
 have hlen:=rsQ_len hs
 obtain ⟨a,ca,xs⟩:=r
 obtain ⟨b,cb,ys⟩:=q
 obtain ⟨ha,hDx⟩:=hr
 obtain ⟨hb,hDy⟩:=hq
 dsimp only at ha hDx hb hDy hl hlen ⊢
 have hst : ∀ k (h : k < xs.length) (h' : k < ys.length),stQ xs[k] = stQ ys[k]:=fun k h h' => by
  have h1 : xs.map stQ = ys.map stQ:=hs
  have h2 : (xs.map stQ)[k]'(by simpa using h) = (ys.map stQ)[k]'(by simpa using h'):=by simp only [h1]
  simpa using h2
 have hte : ∀ x ∈ xs,totQ x ≤ 1048576:=fun x hx => by
  have h1 : totQ x ≤ (xs.map totQ).sum:=le_sum_of_mem (List.mem_map_of_mem hx)
  have h2 : rtQ (a,ca,xs) = xs.length + (xs.map totQ).sum:=rfl
  omega
 have hxl:=rtQ_len (a,ca,xs)
 dsimp only at hxl
 rw [← hlen]
 clear hs
 replace hlen : Hid (xs.length = ys.length):=hlen
 go_enter Tryz.func47,Tryz.ntmps47
 go_wp2
 go_loopw [5] (fun i wr => ∃ k : Nat,k ≤ xs.length ∧ i = I k ∧ Below w.heap.size w wr) (fun i _ => xs.length - (intOf i).toNat)
 case atStart => exact ⟨0,by omega,rfl,Below.refl _ _⟩
 case round =>
  obtain ⟨k,hk,rfl,hbel⟩:=hrel
  by_cases hlt : k < xs.length
  ·have hlt' : k < ys.length:=by have:=hlen.out; omega
   obtain ⟨b1,o1,rfl,l1,h⟩:=ha k hlt
   obtain ⟨b2,o2,rfl,l2,g⟩:=hb k hlt'
   have hlt2 : (k : Int) < (xs.length : Int):=by omega
   have m1 : b1 < wr.drew.heap.size:=Nat.lt_of_lt_of_le l1 hbel.size
   have m2 : b2 < wr.drew.heap.size:=Nat.lt_of_lt_of_le l2 hbel.size
   have BD:=hbel.drew
   have K1:=eqQ_is xs[k] ys[k] wr.drew ((hDx _ (List.getElem_mem hlt)).later BD) ((hDy _ (List.getElem_mem hlt')).later BD) (hst k hlt hlt') (hte _ (List.getElem_mem hlt))
   have h0 : wr.drew.cell? ⟨b1,o1 + k * 15,none⟩ = some (I xs[k].1):=(hbel.cell (p:=⟨b1,o1 + k * 15,none⟩) l1).trans (h 0 _ rfl)
   have h1 : wr.drew.cell? ⟨b1,o1 + k * 15 + 1,none⟩ = some (I xs[k].2.1):=(hbel.cell (p:=⟨b1,o1 + k * 15 + 1,none⟩) l1).trans (h 1 _ rfl)
   have h2 : wr.drew.cell? ⟨b1,o1 + k * 15 + 2,none⟩ = some (I xs[k].2.2.1):=(hbel.cell (p:=⟨b1,o1 + k * 15 + 2,none⟩) l1).trans (h 2 _ rfl)
   have h3 : wr.drew.cell? ⟨b1,o1 + k * 15 + 3,none⟩ = some (I xs[k].2.2.2.1):=(hbel.cell (p:=⟨b1,o1 + k * 15 + 3,none⟩) l1).trans (h 3 _ rfl)
   have h4 : wr.drew.cell? ⟨b1,o1 + k * 15 + 4,none⟩ = some (I xs[k].2.2.2.2.1):=(hbel.cell (p:=⟨b1,o1 + k * 15 + 4,none⟩) l1).trans (h 4 _ rfl)
   have h5 : wr.drew.cell? ⟨b1,o1 + k * 15 + 5,none⟩ = some (I xs[k].2.2.2.2.2.1.1):=(hbel.cell (p:=⟨b1,o1 + k * 15 + 5,none⟩) l1).trans (h 5 _ rfl)
   have h6 : wr.drew.cell? ⟨b1,o1 + k * 15 + 6,none⟩ = some (I xs[k].2.2.2.2.2.1.2.1):=(hbel.cell (p:=⟨b1,o1 + k * 15 + 6,none⟩) l1).trans (h 6 _ rfl)
   have h7 : wr.drew.cell? ⟨b1,o1 + k * 15 + 7,none⟩ = some (I xs[k].2.2.2.2.2.1.2.2):=(hbel.cell (p:=⟨b1,o1 + k * 15 + 7,none⟩) l1).trans (h 7 _ rfl)
   have h8 : wr.drew.cell? ⟨b1,o1 + k * 15 + 8,none⟩ = some (I xs[k].2.2.2.2.2.2.1.1):=(hbel.cell (p:=⟨b1,o1 + k * 15 + 8,none⟩) l1).trans (h 8 _ rfl)
   have h9 : wr.drew.cell? ⟨b1,o1 + k * 15 + 9,none⟩ = some (I xs[k].2.2.2.2.2.2.1.2.1):=(hbel.cell (p:=⟨b1,o1 + k * 15 + 9,none⟩) l1).trans (h 9 _ rfl)
   have h10 : wr.drew.cell? ⟨b1,o1 + k * 15 + 10,none⟩ = some (I xs[k].2.2.2.2.2.2.1.2.2):=(hbel.cell (p:=⟨b1,o1 + k * 15 + 10,none⟩) l1).trans (h 10 _ rfl)
   have h11 : wr.drew.cell? ⟨b1,o1 + k * 15 + 11,none⟩ = some (.slice xs[k].2.2.2.2.2.2.2.1.1 xs[k].2.2.2.2.2.2.2.1.2.2.length xs[k].2.2.2.2.2.2.2.1.2.1):=(hbel.cell (p:=⟨b1,o1 + k * 15 + 11,none⟩) l1).trans (h 11 _ rfl)
   have h12 : wr.drew.cell? ⟨b1,o1 + k * 15 + 12,none⟩ = some (.slice xs[k].2.2.2.2.2.2.2.2.1.1 xs[k].2.2.2.2.2.2.2.2.1.2.2.length xs[k].2.2.2.2.2.2.2.2.1.2.1):=(hbel.cell (p:=⟨b1,o1 + k * 15 + 12,none⟩) l1).trans (h 12 _ rfl)
   have h13 : wr.drew.cell? ⟨b1,o1 + k * 15 + 13,none⟩ = some (I xs[k].2.2.2.2.2.2.2.2.2.1):=(hbel.cell (p:=⟨b1,o1 + k * 15 + 13,none⟩) l1).trans (h 13 _ rfl)
   have h14 : wr.drew.cell? ⟨b1,o1 + k * 15 + 14,none⟩ = some (.string xs[k].2.2.2.2.2.2.2.2.2.2):=(hbel.cell (p:=⟨b1,o1 + k * 15 + 14,none⟩) l1).trans (h 14 _ rfl)
   have g0 : wr.drew.cell? ⟨b2,o2 + k * 15,none⟩ = some (I ys[k].1):=(hbel.cell (p:=⟨b2,o2 + k * 15,none⟩) l2).trans (g 0 _ rfl)
   have g1 : wr.drew.cell? ⟨b2,o2 + k * 15 + 1,none⟩ = some (I ys[k].2.1):=(hbel.cell (p:=⟨b2,o2 + k * 15 + 1,none⟩) l2).trans (g 1 _ rfl)
   have g2 : wr.drew.cell? ⟨b2,o2 + k * 15 + 2,none⟩ = some (I ys[k].2.2.1):=(hbel.cell (p:=⟨b2,o2 + k * 15 + 2,none⟩) l2).trans (g 2 _ rfl)
   have g3 : wr.drew.cell? ⟨b2,o2 + k * 15 + 3,none⟩ = some (I ys[k].2.2.2.1):=(hbel.cell (p:=⟨b2,o2 + k * 15 + 3,none⟩) l2).trans (g 3 _ rfl)
   have g4 : wr.drew.cell? ⟨b2,o2 + k * 15 + 4,none⟩ = some (I ys[k].2.2.2.2.1):=(hbel.cell (p:=⟨b2,o2 + k * 15 + 4,none⟩) l2).trans (g 4 _ rfl)
   have g5 : wr.drew.cell? ⟨b2,o2 + k * 15 + 5,none⟩ = some (I ys[k].2.2.2.2.2.1.1):=(hbel.cell (p:=⟨b2,o2 + k * 15 + 5,none⟩) l2).trans (g 5 _ rfl)
   have g6 : wr.drew.cell? ⟨b2,o2 + k * 15 + 6,none⟩ = some (I ys[k].2.2.2.2.2.1.2.1):=(hbel.cell (p:=⟨b2,o2 + k * 15 + 6,none⟩) l2).trans (g 6 _ rfl)
   have g7 : wr.drew.cell? ⟨b2,o2 + k * 15 + 7,none⟩ = some (I ys[k].2.2.2.2.2.1.2.2):=(hbel.cell (p:=⟨b2,o2 + k * 15 + 7,none⟩) l2).trans (g 7 _ rfl)
   have g8 : wr.drew.cell? ⟨b2,o2 + k * 15 + 8,none⟩ = some (I ys[k].2.2.2.2.2.2.1.1):=(hbel.cell (p:=⟨b2,o2 + k * 15 + 8,none⟩) l2).trans (g 8 _ rfl)
   have g9 : wr.drew.cell? ⟨b2,o2 + k * 15 + 9,none⟩ = some (I ys[k].2.2.2.2.2.2.1.2.1):=(hbel.cell (p:=⟨b2,o2 + k * 15 + 9,none⟩) l2).trans (g 9 _ rfl)
   have g10 : wr.drew.cell? ⟨b2,o2 + k * 15 + 10,none⟩ = some (I ys[k].2.2.2.2.2.2.1.2.2):=(hbel.cell (p:=⟨b2,o2 + k * 15 + 10,none⟩) l2).trans (g 10 _ rfl)
   have g11 : wr.drew.cell? ⟨b2,o2 + k * 15 + 11,none⟩ = some (.slice ys[k].2.2.2.2.2.2.2.1.1 ys[k].2.2.2.2.2.2.2.1.2.2.length ys[k].2.2.2.2.2.2.2.1.2.1):=(hbel.cell (p:=⟨b2,o2 + k * 15 + 11,none⟩) l2).trans (g 11 _ rfl)
   have g12 : wr.drew.cell? ⟨b2,o2 + k * 15 + 12,none⟩ = some (.slice ys[k].2.2.2.2.2.2.2.2.1.1 ys[k].2.2.2.2.2.2.2.2.1.2.2.length ys[k].2.2.2.2.2.2.2.2.1.2.1):=(hbel.cell (p:=⟨b2,o2 + k * 15 + 12,none⟩) l2).trans (g 12 _ rfl)
   have g13 : wr.drew.cell? ⟨b2,o2 + k * 15 + 13,none⟩ = some (I ys[k].2.2.2.2.2.2.2.2.2.1):=(hbel.cell (p:=⟨b2,o2 + k * 15 + 13,none⟩) l2).trans (g 13 _ rfl)
   have g14 : wr.drew.cell? ⟨b2,o2 + k * 15 + 14,none⟩ = some (.string ys[k].2.2.2.2.2.2.2.2.2.2):=(hbel.cell (p:=⟨b2,o2 + k * 15 + 14,none⟩) l2).trans (g 14 _ rfl)
   clear h g
   generalize xs[k] = x at K1 h0 h1 h2 h3 h4 h5 h6 h7 h8 h9 h10 h11 h12 h13 h14
   generalize ys[k] = y at K1 g0 g1 g2 g3 g4 g5 g6 g7 g8 g9 g10 g11 g12 g13 g14
   clear hDx hDy hst hte
   go_wp2_with fail
   refine wp_region_held_drew (S:=(fun V : World => V.cell? ⟨b1,o1 + k * 15,none⟩ = some (I x.1) ∧ V.cell? ⟨b1,o1 + k * 15 + 1,none⟩ = some (I x.2.1) ∧ V.cell? ⟨b1,o1 + k * 15 + 2,none⟩ = some (I x.2.2.1) ∧ V.cell? ⟨b1,o1 + k * 15 + 3,none⟩ = some (I x.2.2.2.1) ∧ V.cell? ⟨b1,o1 + k * 15 + 4,none⟩ = some (I x.2.2.2.2.1) ∧ V.cell? ⟨b1,o1 + k * 15 + 5,none⟩ = some (I x.2.2.2.2.2.1.1) ∧ V.cell? ⟨b1,o1 + k * 15 + 6,none⟩ = some (I x.2.2.2.2.2.1.2.1) ∧ V.cell? ⟨b1,o1 + k * 15 + 7,none⟩ = some (I x.2.2.2.2.2.1.2.2) ∧ V.cell? ⟨b1,o1 + k * 15 + 8,none⟩ = some (I x.2.2.2.2.2.2.1.1) ∧ V.cell? ⟨b1,o1 + k * 15 + 9,none⟩ = some (I x.2.2.2.2.2.2.1.2.1) ∧ V.cell? ⟨b1,o1 + k * 15 + 10,none⟩ = some (I x.2.2.2.2.2.2.1.2.2) ∧ V.cell? ⟨b1,o1 + k * 15 + 11,none⟩ = some (.slice x.2.2.2.2.2.2.2.1.1 x.2.2.2.2.2.2.2.1.2.2.length x.2.2.2.2.2.2.2.1.2.1) ∧ V.cell? ⟨b1,o1 + k * 15 + 12,none⟩ = some (.slice x.2.2.2.2.2.2.2.2.1.1 x.2.2.2.2.2.2.2.2.1.2.2.length x.2.2.2.2.2.2.2.2.1.2.1) ∧ V.cell? ⟨b1,o1 + k * 15 + 13,none⟩ = some (I x.2.2.2.2.2.2.2.2.2.1) ∧ V.cell? ⟨b1,o1 + k * 15 + 14,none⟩ = some (.string x.2.2.2.2.2.2.2.2.2.2) ∧ V.cell? ⟨b2,o2 + k * 15,none⟩ = some (I y.1) ∧ V.cell? ⟨b2,o2 + k * 15 + 1,none⟩ = some (I y.2.1) ∧ V.cell? ⟨b2,o2 + k * 15 + 2,none⟩ = some (I y.2.2.1) ∧ V.cell? ⟨b2,o2 + k * 15 + 3,none⟩ = some (I y.2.2.2.1) ∧ V.cell? ⟨b2,o2 + k * 15 + 4,none⟩ = some (I y.2.2.2.2.1) ∧ V.cell? ⟨b2,o2 + k * 15 + 5,none⟩ = some (I y.2.2.2.2.2.1.1) ∧ V.cell? ⟨b2,o2 + k * 15 + 6,none⟩ = some (I y.2.2.2.2.2.1.2.1) ∧ V.cell? ⟨b2,o2 + k * 15 + 7,none⟩ = some (I y.2.2.2.2.2.1.2.2) ∧ V.cell? ⟨b2,o2 + k * 15 + 8,none⟩ = some (I y.2.2.2.2.2.2.1.1) ∧ V.cell? ⟨b2,o2 + k * 15 + 9,none⟩ = some (I y.2.2.2.2.2.2.1.2.1) ∧ V.cell? ⟨b2,o2 + k * 15 + 10,none⟩ = some (I y.2.2.2.2.2.2.1.2.2) ∧ V.cell? ⟨b2,o2 + k * 15 + 11,none⟩ = some (.slice y.2.2.2.2.2.2.2.1.1 y.2.2.2.2.2.2.2.1.2.2.length y.2.2.2.2.2.2.2.1.2.1) ∧ V.cell? ⟨b2,o2 + k * 15 + 12,none⟩ = some (.slice y.2.2.2.2.2.2.2.2.1.1 y.2.2.2.2.2.2.2.2.1.2.2.length y.2.2.2.2.2.2.2.2.1.2.1) ∧ V.cell? ⟨b2,o2 + k * 15 + 13,none⟩ = some (I y.2.2.2.2.2.2.2.2.2.1) ∧ V.cell? ⟨b2,o2 + k * 15 + 14,none⟩ = some (.string y.2.2.2.2.2.2.2.2.2.2))) (by kernel_rfl) ⟨h0,h1,h2,h3,h4,h5,h6,h7,h8,h9,h10,h11,h12,h13,h14,g0,g1,g2,g3,g4,g5,g6,g7,g8,g9,g10,g11,g12,g13,g14⟩ (fun hHeld => ?_)
   refine tk 0 17 rfl _ hHeld (by intro w' h; (try dsimp only at h); obtain ⟨c0,c1,c2,c3,c4,c5,c6,c7,c8,c9,c10,c11,c12,c13,c14,c15,c16,c17,c18,c19,c20,c21,c22,c23,c24,c25,c26,c27,c28,c29⟩:=h; go_simp; try with_reducible rfl) ?_
   try simp only [Act.put,pa,pb,pc]
   refine tk 1 18 rfl _ hHeld (by intro w' h; (try dsimp only at h); obtain ⟨c0,c1,c2,c3,c4,c5,c6,c7,c8,c9,c10,c11,c12,c13,c14,c15,c16,c17,c18,c19,c20,c21,c22,c23,c24,c25,c26,c27,c28,c29⟩:=h; go_simp; try with_reducible rfl) ?_
   try simp only [Act.put,pa,pb,pc]
   refine tk 2 19 rfl _ hHeld (by intro w' h; (try dsimp only at h); obtain ⟨c0,c1,c2,c3,c4,c5,c6,c7,c8,c9,c10,c11,c12,c13,c14,c15,c16,c17,c18,c19,c20,c21,c22,c23,c24,c25,c26,c27,c28,c29⟩:=h; go_simp; try with_reducible rfl) ?_
   try simp only [Act.put,pa,pb,pc]
   refine tk 3 20 rfl _ hHeld (by intro w' h; (try dsimp only at h); obtain ⟨c0,c1,c2,c3,c4,c5,c6,c7,c8,c9,c10,c11,c12,c13,c14,c15,c16,c17,c18,c19,c20,c21,c22,c23,c24,c25,c26,c27,c28,c29⟩:=h; go_simp; try with_reducible rfl) ?_
   try simp only [Act.put,pa,pb,pc]
   refine tk 4 21 rfl _ hHeld (by intro w' h; (try dsimp only at h); obtain ⟨c0,c1,c2,c3,c4,c5,c6,c7,c8,c9,c10,c11,c12,c13,c14,c15,c16,c17,c18,c19,c20,c21,c22,c23,c24,c25,c26,c27,c28,c29⟩:=h; go_simp; try with_reducible rfl) ?_
   try simp only [Act.put,pa,pb,pc]
   refine tk 5 22 rfl _ hHeld (by intro w' h; (try dsimp only at h); obtain ⟨c0,c1,c2,c3,c4,c5,c6,c7,c8,c9,c10,c11,c12,c13,c14,c15,c16,c17,c18,c19,c20,c21,c22,c23,c24,c25,c26,c27,c28,c29⟩:=h; go_simp; try with_reducible rfl) ?_
   try simp only [Act.put,pa,pb,pc]
   refine tk 6 23 rfl _ hHeld (by intro w' h; (try dsimp only at h); obtain ⟨c0,c1,c2,c3,c4,c5,c6,c7,c8,c9,c10,c11,c12,c13,c14,c15,c16,c17,c18,c19,c20,c21,c22,c23,c24,c25,c26,c27,c28,c29⟩:=h; go_simp; try with_reducible rfl) ?_
   try simp only [Act.put,pa,pb,pc]
   refine tk 7 24 rfl _ hHeld (by intro w' h; (try dsimp only at h); obtain ⟨c0,c1,c2,c3,c4,c5,c6,c7,c8,c9,c10,c11,c12,c13,c14,c15,c16,c17,c18,c19,c20,c21,c22,c23,c24,c25,c26,c27,c28,c29⟩:=h; go_simp; try with_reducible rfl) ?_
   try simp only [Act.put,pa,pb,pc]
   refine wpAnyH_ready (rs:=[8]) (by kernel_rfl) (by simp) ?_
   refine AllReadyH.cons (i:=8) rfl (fun K hK => ?_) AllReadyH.nil
   go_simp
   refine K1.mono ?_
   clear K1
   rintro e w2 ⟨rfl,hb2⟩
   go_wp2_with fail
   refine hK.out _ _ ⟨(hb2.cell (p:=⟨b1,o1 + k * 15,none⟩) m1).trans h0,(hb2.cell (p:=⟨b1,o1 + k * 15 + 1,none⟩) m1).trans h1,(hb2.cell (p:=⟨b1,o1 + k * 15 + 2,none⟩) m1).trans h2,(hb2.cell (p:=⟨b1,o1 + k * 15 + 3,none⟩) m1).trans h3,(hb2.cell (p:=⟨b1,o1 + k * 15 + 4,none⟩) m1).trans h4,(hb2.cell (p:=⟨b1,o1 + k * 15 + 5,none⟩) m1).trans h5,(hb2.cell (p:=⟨b1,o1 + k * 15 + 6,none⟩) m1).trans h6,(hb2.cell (p:=⟨b1,o1 + k * 15 + 7,none⟩) m1).trans h7,(hb2.cell (p:=⟨b1,o1 + k * 15 + 8,none⟩) m1).trans h8,(hb2.cell (p:=⟨b1,o1 + k * 15 + 9,none⟩) m1).trans h9,(hb2.cell (p:=⟨b1,o1 + k * 15 + 10,none⟩) m1).trans h10,(hb2.cell (p:=⟨b1,o1 + k * 15 + 11,none⟩) m1).trans h11,(hb2.cell (p:=⟨b1,o1 + k * 15 + 12,none⟩) m1).trans h12,(hb2.cell (p:=⟨b1,o1 + k * 15 + 13,none⟩) m1).trans h13,(hb2.cell (p:=⟨b1,o1 + k * 15 + 14,none⟩) m1).trans h14,(hb2.cell (p:=⟨b2,o2 + k * 15,none⟩) m2).trans g0,(hb2.cell (p:=⟨b2,o2 + k * 15 + 1,none⟩) m2).trans g1,(hb2.cell (p:=⟨b2,o2 + k * 15 + 2,none⟩) m2).trans g2,(hb2.cell (p:=⟨b2,o2 + k * 15 + 3,none⟩) m2).trans g3,(hb2.cell (p:=⟨b2,o2 + k * 15 + 4,none⟩) m2).trans g4,(hb2.cell (p:=⟨b2,o2 + k * 15 + 5,none⟩) m2).trans g5,(hb2.cell (p:=⟨b2,o2 + k * 15 + 6,none⟩) m2).trans g6,(hb2.cell (p:=⟨b2,o2 + k * 15 + 7,none⟩) m2).trans g7,(hb2.cell (p:=⟨b2,o2 + k * 15 + 8,none⟩) m2).trans g8,(hb2.cell (p:=⟨b2,o2 + k * 15 + 9,none⟩) m2).trans g9,(hb2.cell (p:=⟨b2,o2 + k * 15 + 10,none⟩) m2).trans g10,(hb2.cell (p:=⟨b2,o2 + k * 15 + 11,none⟩) m2).trans g11,(hb2.cell (p:=⟨b2,o2 + k * 15 + 12,none⟩) m2).trans g12,(hb2.cell (p:=⟨b2,o2 + k * 15 + 13,none⟩) m2).trans g13,(hb2.cell (p:=⟨b2,o2 + k * 15 + 14,none⟩) m2).trans g14⟩ (fun hHeld2 => ?_)
   clear hK K hHeld
   have hHeld:=hHeld2
   clear hHeld2
   try simp only [Act.put,pa,pb,pc]
   refine tk 9 26 rfl _ hHeld (by intro w' h; (try dsimp only at h); obtain ⟨c0,c1,c2,c3,c4,c5,c6,c7,c8,c9,c10,c11,c12,c13,c14,c15,c16,c17,c18,c19,c20,c21,c22,c23,c24,c25,c26,c27,c28,c29⟩:=h; go_simp; try with_reducible rfl) ?_
   try simp only [Act.put,pa,pb,pc]
   refine wpAnyH_done (by kernel_rfl) ?_ _
   have B2:=BD.trans (hb2.mono BD.size)
   clear hHeld h0 h1 h2 h3 h4 h5 h6 h7 h8 h9 h10 h11 h12 h13 h14 g0 g1 g2 g3 g4 g5 g6 g7 g8 g9 g10 g11 g12 g13 g14
   go_wp2
   go_roundw
   case rel => exact ⟨k + 1,by omega,by go_num,B2⟩
   case measure => simp [intOf]; omega
  ·go_wp2
   go_ret
   exact ⟨rfl,hbel⟩
set_option maxRecDepth 100000 in
set_option maxHeartbeats 6400000 in
theorem eqF_is (x y : TF) (w : World) (hx : DpF w x) (hy : DpF w y) (hs : stF x = stF y) (hl : totF x ≤ 1048576) : Calls Tryz.prog 40 #[vF x,vF y] w fun en w' => en = .returned (.bool true) ∧ Below w.heap.size w w':=by
 obtain ⟨f0,f1,f2,f3,f4⟩:=x
 obtain ⟨g0,g1,g2,g3,g4⟩:=y
 unfold stF at hs
 unfold DpF at hx hy
 unfold totF at hl
 dsimp only at hx hy hl
 simp only [Prod.mk.injEq] at hs
 obtain ⟨e0,e1,e2,e3,e4⟩:=hs
 obtain ⟨hx0,hx1,hx2,hx3⟩:=hx
 obtain ⟨hy0,hy1,hy2,hy3⟩:=hy
 subst e4
 obtain ⟨V,hV⟩ : ∃ V,(w.alloc (.cells #[.slice f0.1 f0.2.2.length f0.2.1,.slice f1.1 f1.2.2.length f1.2.1,.slice f2.1 f2.2.2.length f2.2.1,.slice f3.1 f3.2.2.length f3.2.1,I f4] 40)).alloc (.cells #[.slice g0.1 g0.2.2.length g0.2.1,.slice g1.1 g1.2.2.length g1.2.1,.slice g2.1 g2.2.2.length g2.2.1,.slice g3.1 g3.2.2.length g3.2.1,I f4] 40) = V:=⟨_,rfl⟩
 have BC : Below w.heap.size w V:=by rw [← hV]; exact ((Below.refl _ _).alloc (Nat.le_refl _) _).alloc (by simp) _
 have TA : Blk w.heap.size [.slice f0.1 f0.2.2.length f0.2.1,.slice f1.1 f1.2.2.length f1.2.1,.slice f2.1 f2.2.2.length f2.2.1,.slice f3.1 f3.2.2.length f3.2.1,I f4] V:=by rw [← hV]; exact (Blk.new w #[.slice f0.1 f0.2.2.length f0.2.1,.slice f1.1 f1.2.2.length f1.2.1,.slice f2.1 f2.2.2.length f2.2.1,.slice f3.1 f3.2.2.length f3.2.1,I f4] 40).alloc (by simp) _
 have TB : Blk (w.heap.size + 1) [.slice g0.1 g0.2.2.length g0.2.1,.slice g1.1 g1.2.2.length g1.2.1,.slice g2.1 g2.2.2.length g2.2.1,.slice g3.1 g3.2.2.length g3.2.1,I f4] V:=by rw [← hV]; have:=Blk.new (w.alloc (.cells #[.slice f0.1 f0.2.2.length f0.2.1,.slice f1.1 f1.2.2.length f1.2.1,.slice f2.1 f2.2.2.length f2.2.1,.slice f3.1 f3.2.2.length f3.2.1,I f4] 40)) #[.slice g0.1 g0.2.2.length g0.2.1,.slice g1.1 g1.2.2.length g1.2.1,.slice g2.1 g2.2.2.length g2.2.1,.slice g3.1 g3.2.2.length g3.2.1,I f4] 40; simpa using this
 have p0:=TA.at 0 rfl
 have q0:=TB.at 0 rfl
 go_enter Tryz.func40,Tryz.ntmps40
 go_wp2_with fail
 try rw [hV]
 refine (eqSI_u f0 g0 _ (hx0.later BC) (hy0.later BC) e0 (by omega)).mono ?_
 clear hV p0 q0
 rintro en v0 ⟨rfl,hb⟩
 replace TA:=TA.later hb (World.block_lt_of_cell? _ _ (TA.at 0 rfl))
 replace TB:=TB.later hb (World.block_lt_of_cell? _ _ (TB.at 0 rfl))
 replace BC:=BC.trans (hb.mono BC.size)
 clear hb
 have p1:=TA.at 1 rfl
 have q1:=TB.at 1 rfl
 go_wp2_with fail
 try rw [hV]
 refine (eqSI_u f1 g1 _ (hx1.later BC) (hy1.later BC) e1 (by omega)).mono ?_
 clear p1 q1
 rintro en v1 ⟨rfl,hb⟩
 replace TA:=TA.later hb (World.block_lt_of_cell? _ _ (TA.at 0 rfl))
 replace TB:=TB.later hb (World.block_lt_of_cell? _ _ (TB.at 0 rfl))
 replace BC:=BC.trans (hb.mono BC.size)
 clear hb
 have p2:=TA.at 2 rfl
 have q2:=TB.at 2 rfl
 go_wp2_with fail
 try rw [hV]
 refine (eqSP_u f2 g2 _ (hx2.later BC) (hy2.later BC) e2 (by omega)).mono ?_
 clear p2 q2
 rintro en v2 ⟨rfl,hb⟩
 replace TA:=TA.later hb (World.block_lt_of_cell? _ _ (TA.at 0 rfl))
 replace TB:=TB.later hb (World.block_lt_of_cell? _ _ (TB.at 0 rfl))
 replace BC:=BC.trans (hb.mono BC.size)
 clear hb
 have p3:=TA.at 3 rfl
 have q3:=TB.at 3 rfl
 go_wp2_with fail
 try rw [hV]
 refine (eqSP_u f3 g3 _ (hx3.later BC) (hy3.later BC) e3 (by omega)).mono ?_
 clear p3 q3
 rintro en v3 ⟨rfl,hb⟩
 replace TA:=TA.later hb (World.block_lt_of_cell? _ _ (TA.at 0 rfl))
 replace TB:=TB.later hb (World.block_lt_of_cell? _ _ (TB.at 0 rfl))
 replace BC:=BC.trans (hb.mono BC.size)
 clear hb
 have p4:=TA.at 4 rfl
 have q4:=TB.at 4 rfl
 go_wp2
 go_ret
 exact ⟨rfl,BC⟩
set_option maxRecDepth 100000 in
set_option maxHeartbeats 6400000 in
theorem eqN_is (x y : TN) (w : World) (hx : DpN w x) (hy : DpN w y) (hs : stN x = stN y) (hl : totN x ≤ 1048576) : Calls Tryz.prog 42 #[vN x,vN y] w fun en w' => en = .returned (.bool true) ∧ Below w.heap.size w w':=by
 obtain ⟨f0,f1⟩:=x
 obtain ⟨g0,g1⟩:=y
 unfold stN at hs
 unfold DpN at hx hy
 unfold totN at hl
 dsimp only at hx hy hl
 simp only [Prod.mk.injEq] at hs
 obtain ⟨e0,e1⟩:=hs
 obtain ⟨hx0,hx1⟩:=hx
 obtain ⟨hy0,hy1⟩:=hy
 obtain ⟨V,hV⟩ : ∃ V,(w.alloc (.cells #[.slice f0.1 f0.2.2.length f0.2.1,.slice f1.1 f1.2.2.length f1.2.1] 41)).alloc (.cells #[.slice g0.1 g0.2.2.length g0.2.1,.slice g1.1 g1.2.2.length g1.2.1] 41) = V:=⟨_,rfl⟩
 have BC : Below w.heap.size w V:=by rw [← hV]; exact ((Below.refl _ _).alloc (Nat.le_refl _) _).alloc (by simp) _
 have TA : Blk w.heap.size [.slice f0.1 f0.2.2.length f0.2.1,.slice f1.1 f1.2.2.length f1.2.1] V:=by rw [← hV]; exact (Blk.new w #[.slice f0.1 f0.2.2.length f0.2.1,.slice f1.1 f1.2.2.length f1.2.1] 41).alloc (by simp) _
 have TB : Blk (w.heap.size + 1) [.slice g0.1 g0.2.2.length g0.2.1,.slice g1.1 g1.2.2.length g1.2.1] V:=by rw [← hV]; have:=Blk.new (w.alloc (.cells #[.slice f0.1 f0.2.2.length f0.2.1,.slice f1.1 f1.2.2.length f1.2.1] 41)) #[.slice g0.1 g0.2.2.length g0.2.1,.slice g1.1 g1.2.2.length g1.2.1] 41; simpa using this
 have p0:=TA.at 0 rfl
 have q0:=TB.at 0 rfl
 go_enter Tryz.func42,Tryz.ntmps42
 go_wp2_with fail
 try rw [hV]
 refine (eqSS_u f0 g0 _ (hx0.later BC) (hy0.later BC) e0 (by omega)).mono ?_
 clear hV p0 q0
 rintro en v0 ⟨rfl,hb⟩
 replace TA:=TA.later hb (World.block_lt_of_cell? _ _ (TA.at 0 rfl))
 replace TB:=TB.later hb (World.block_lt_of_cell? _ _ (TB.at 0 rfl))
 replace BC:=BC.trans (hb.mono BC.size)
 clear hb
 have p1:=TA.at 1 rfl
 have q1:=TB.at 1 rfl
 go_wp2_with fail
 try rw [hV]
 refine (eqSI_u f1 g1 _ (hx1.later BC) (hy1.later BC) e1 (by omega)).mono ?_
 clear p1 q1
 rintro en v1 ⟨rfl,hb⟩
 replace TA:=TA.later hb (World.block_lt_of_cell? _ _ (TA.at 0 rfl))
 replace TB:=TB.later hb (World.block_lt_of_cell? _ _ (TB.at 0 rfl))
 replace BC:=BC.trans (hb.mono BC.size)
 clear hb
 go_wp2
 go_ret
 exact ⟨rfl,BC⟩
end Go.Proofs.YtlmpfkbgknbcnaaGreat.Nd
