/- Events compared. -/
import Derived.Test.YtlmpfkbgknbcnaaGreatAb
import Derived.Test.YtlmpfkbgknbcnaaGreatNc2
set_option linter.unusedVariables false
set_option maxRecDepth 100000
namespace Go.Proofs.YtlmpfkbgknbcnaaGreat.Nd
open Go Go.RowKit Go.Joins Own Draw
set_option maxHeartbeats 1600000 in
set_option maxRecDepth 100000 in
theorem eqE_is (x0 : Int) (x1 : Int) (x2 : Int) (x3 : Int) (x4 : Int) (x5 : Int) (x6 : Int) (x7 : Int) (x8 : Int) (x9 : Int) (x10 : Int) (w : World) : Calls Tryz.prog 88 #[.agg #[I x0,I x1,I x2,I x3,I x4,I x5,I x6,I x7,I x8,I x9,I x10],.agg #[I x0,I x1,I x2,I x3,I x4,I x5,I x6,I x7,I x8,I x9,I x10]] w fun e w' => e = .returned (.bool true) ∧ Below w.heap.size w w':=by
 go_enter Tryz.func88,Tryz.ntmps88
 go_wp2
 go_ret
 exact ⟨rfl,by repeat (first | exact Below.refl _ _ | refine Below.alloc ?_ (by simp; try omega) _)⟩
set_option maxRecDepth 100000 in
set_option maxHeartbeats 1600000 in
theorem eqSE_is (a b : Option Addr) (ca cb : Nat) (xs : List TE) (w : World) (ha : FRow 11 cE w a xs) (hb : FRow 11 cE w b xs) (hl : xs.length ≤ 1048576) :
  Calls Tryz.prog 46 #[.slice a xs.length ca,.slice b xs.length cb] w fun e w' => e = .returned (.bool true) ∧ Below w.heap.size w w':=by
 go_enter Tryz.func46,Tryz.ntmps46
 go_wp2
 go_loopw [5] (fun i wr => ∃ k : Nat,k ≤ xs.length ∧ i = I k ∧ Below w.heap.size w wr) (fun i _ => xs.length - (intOf i).toNat)
 case atStart => exact ⟨0,by omega,rfl,Below.refl _ _⟩
 case round =>
  obtain ⟨k,hk,rfl,hbel⟩:=hrel
  by_cases hlt : k < xs.length
  ·obtain ⟨b1,o1,rfl,l1,h⟩:=ha k hlt
   obtain ⟨b2,o2,rfl,l2,g⟩:=hb k hlt
   have hlt2 : (k : Int) < (xs.length : Int):=by omega
   have m1 : b1 < wr.drew.heap.size:=Nat.lt_of_lt_of_le l1 hbel.size
   have m2 : b2 < wr.drew.heap.size:=Nat.lt_of_lt_of_le l2 hbel.size
   have BD:=hbel.drew
   have h0 : wr.drew.cell? ⟨b1,o1 + k * 11,none⟩ = some (I xs[k].1):=(hbel.cell (p:=⟨b1,o1 + k * 11,none⟩) l1).trans (h 0 _ rfl)
   have h1 : wr.drew.cell? ⟨b1,o1 + k * 11 + 1,none⟩ = some (I xs[k].2.1):=(hbel.cell (p:=⟨b1,o1 + k * 11 + 1,none⟩) l1).trans (h 1 _ rfl)
   have h2 : wr.drew.cell? ⟨b1,o1 + k * 11 + 2,none⟩ = some (I xs[k].2.2.1):=(hbel.cell (p:=⟨b1,o1 + k * 11 + 2,none⟩) l1).trans (h 2 _ rfl)
   have h3 : wr.drew.cell? ⟨b1,o1 + k * 11 + 3,none⟩ = some (I xs[k].2.2.2.1):=(hbel.cell (p:=⟨b1,o1 + k * 11 + 3,none⟩) l1).trans (h 3 _ rfl)
   have h4 : wr.drew.cell? ⟨b1,o1 + k * 11 + 4,none⟩ = some (I xs[k].2.2.2.2.1):=(hbel.cell (p:=⟨b1,o1 + k * 11 + 4,none⟩) l1).trans (h 4 _ rfl)
   have h5 : wr.drew.cell? ⟨b1,o1 + k * 11 + 5,none⟩ = some (I xs[k].2.2.2.2.2.1):=(hbel.cell (p:=⟨b1,o1 + k * 11 + 5,none⟩) l1).trans (h 5 _ rfl)
   have h6 : wr.drew.cell? ⟨b1,o1 + k * 11 + 6,none⟩ = some (I xs[k].2.2.2.2.2.2.1):=(hbel.cell (p:=⟨b1,o1 + k * 11 + 6,none⟩) l1).trans (h 6 _ rfl)
   have h7 : wr.drew.cell? ⟨b1,o1 + k * 11 + 7,none⟩ = some (I xs[k].2.2.2.2.2.2.2.1):=(hbel.cell (p:=⟨b1,o1 + k * 11 + 7,none⟩) l1).trans (h 7 _ rfl)
   have h8 : wr.drew.cell? ⟨b1,o1 + k * 11 + 8,none⟩ = some (I xs[k].2.2.2.2.2.2.2.2.1):=(hbel.cell (p:=⟨b1,o1 + k * 11 + 8,none⟩) l1).trans (h 8 _ rfl)
   have h9 : wr.drew.cell? ⟨b1,o1 + k * 11 + 9,none⟩ = some (I xs[k].2.2.2.2.2.2.2.2.2.1):=(hbel.cell (p:=⟨b1,o1 + k * 11 + 9,none⟩) l1).trans (h 9 _ rfl)
   have h10 : wr.drew.cell? ⟨b1,o1 + k * 11 + 10,none⟩ = some (I xs[k].2.2.2.2.2.2.2.2.2.2):=(hbel.cell (p:=⟨b1,o1 + k * 11 + 10,none⟩) l1).trans (h 10 _ rfl)
   have g0 : wr.drew.cell? ⟨b2,o2 + k * 11,none⟩ = some (I xs[k].1):=(hbel.cell (p:=⟨b2,o2 + k * 11,none⟩) l2).trans (g 0 _ rfl)
   have g1 : wr.drew.cell? ⟨b2,o2 + k * 11 + 1,none⟩ = some (I xs[k].2.1):=(hbel.cell (p:=⟨b2,o2 + k * 11 + 1,none⟩) l2).trans (g 1 _ rfl)
   have g2 : wr.drew.cell? ⟨b2,o2 + k * 11 + 2,none⟩ = some (I xs[k].2.2.1):=(hbel.cell (p:=⟨b2,o2 + k * 11 + 2,none⟩) l2).trans (g 2 _ rfl)
   have g3 : wr.drew.cell? ⟨b2,o2 + k * 11 + 3,none⟩ = some (I xs[k].2.2.2.1):=(hbel.cell (p:=⟨b2,o2 + k * 11 + 3,none⟩) l2).trans (g 3 _ rfl)
   have g4 : wr.drew.cell? ⟨b2,o2 + k * 11 + 4,none⟩ = some (I xs[k].2.2.2.2.1):=(hbel.cell (p:=⟨b2,o2 + k * 11 + 4,none⟩) l2).trans (g 4 _ rfl)
   have g5 : wr.drew.cell? ⟨b2,o2 + k * 11 + 5,none⟩ = some (I xs[k].2.2.2.2.2.1):=(hbel.cell (p:=⟨b2,o2 + k * 11 + 5,none⟩) l2).trans (g 5 _ rfl)
   have g6 : wr.drew.cell? ⟨b2,o2 + k * 11 + 6,none⟩ = some (I xs[k].2.2.2.2.2.2.1):=(hbel.cell (p:=⟨b2,o2 + k * 11 + 6,none⟩) l2).trans (g 6 _ rfl)
   have g7 : wr.drew.cell? ⟨b2,o2 + k * 11 + 7,none⟩ = some (I xs[k].2.2.2.2.2.2.2.1):=(hbel.cell (p:=⟨b2,o2 + k * 11 + 7,none⟩) l2).trans (g 7 _ rfl)
   have g8 : wr.drew.cell? ⟨b2,o2 + k * 11 + 8,none⟩ = some (I xs[k].2.2.2.2.2.2.2.2.1):=(hbel.cell (p:=⟨b2,o2 + k * 11 + 8,none⟩) l2).trans (g 8 _ rfl)
   have g9 : wr.drew.cell? ⟨b2,o2 + k * 11 + 9,none⟩ = some (I xs[k].2.2.2.2.2.2.2.2.2.1):=(hbel.cell (p:=⟨b2,o2 + k * 11 + 9,none⟩) l2).trans (g 9 _ rfl)
   have g10 : wr.drew.cell? ⟨b2,o2 + k * 11 + 10,none⟩ = some (I xs[k].2.2.2.2.2.2.2.2.2.2):=(hbel.cell (p:=⟨b2,o2 + k * 11 + 10,none⟩) l2).trans (g 10 _ rfl)
   generalize xs[k].1 = x0 at h0 g0
   generalize xs[k].2.1 = x1 at h1 g1
   generalize xs[k].2.2.1 = x2 at h2 g2
   generalize xs[k].2.2.2.1 = x3 at h3 g3
   generalize xs[k].2.2.2.2.1 = x4 at h4 g4
   generalize xs[k].2.2.2.2.2.1 = x5 at h5 g5
   generalize xs[k].2.2.2.2.2.2.1 = x6 at h6 g6
   generalize xs[k].2.2.2.2.2.2.2.1 = x7 at h7 g7
   generalize xs[k].2.2.2.2.2.2.2.2.1 = x8 at h8 g8
   generalize xs[k].2.2.2.2.2.2.2.2.2.1 = x9 at h9 g9
   generalize xs[k].2.2.2.2.2.2.2.2.2.2 = x10 at h10 g10
   clear ha hb h g
   go_wp2_with fail
   refine wp_region_held_drew (S:=(fun V : World => V.cell? ⟨b1,o1 + k * 11,none⟩ = some (I x0) ∧ V.cell? ⟨b1,o1 + k * 11 + 1,none⟩ = some (I x1) ∧ V.cell? ⟨b1,o1 + k * 11 + 2,none⟩ = some (I x2) ∧ V.cell? ⟨b1,o1 + k * 11 + 3,none⟩ = some (I x3) ∧ V.cell? ⟨b1,o1 + k * 11 + 4,none⟩ = some (I x4) ∧ V.cell? ⟨b1,o1 + k * 11 + 5,none⟩ = some (I x5) ∧ V.cell? ⟨b1,o1 + k * 11 + 6,none⟩ = some (I x6) ∧ V.cell? ⟨b1,o1 + k * 11 + 7,none⟩ = some (I x7) ∧ V.cell? ⟨b1,o1 + k * 11 + 8,none⟩ = some (I x8) ∧ V.cell? ⟨b1,o1 + k * 11 + 9,none⟩ = some (I x9) ∧ V.cell? ⟨b1,o1 + k * 11 + 10,none⟩ = some (I x10) ∧ V.cell? ⟨b2,o2 + k * 11,none⟩ = some (I x0) ∧ V.cell? ⟨b2,o2 + k * 11 + 1,none⟩ = some (I x1) ∧ V.cell? ⟨b2,o2 + k * 11 + 2,none⟩ = some (I x2) ∧ V.cell? ⟨b2,o2 + k * 11 + 3,none⟩ = some (I x3) ∧ V.cell? ⟨b2,o2 + k * 11 + 4,none⟩ = some (I x4) ∧ V.cell? ⟨b2,o2 + k * 11 + 5,none⟩ = some (I x5) ∧ V.cell? ⟨b2,o2 + k * 11 + 6,none⟩ = some (I x6) ∧ V.cell? ⟨b2,o2 + k * 11 + 7,none⟩ = some (I x7) ∧ V.cell? ⟨b2,o2 + k * 11 + 8,none⟩ = some (I x8) ∧ V.cell? ⟨b2,o2 + k * 11 + 9,none⟩ = some (I x9) ∧ V.cell? ⟨b2,o2 + k * 11 + 10,none⟩ = some (I x10))) (by kernel_rfl) ⟨h0,h1,h2,h3,h4,h5,h6,h7,h8,h9,h10,g0,g1,g2,g3,g4,g5,g6,g7,g8,g9,g10⟩ (fun hHeld => ?_)
   refine tk 0 17 rfl _ hHeld (by intro w' h; (try dsimp only at h); obtain ⟨c0,c1,c2,c3,c4,c5,c6,c7,c8,c9,c10,c11,c12,c13,c14,c15,c16,c17,c18,c19,c20,c21⟩:=h; go_simp; try with_reducible rfl) ?_
   try simp only [Act.put,pa,pb,pc]
   refine tk 1 18 rfl _ hHeld (by intro w' h; (try dsimp only at h); obtain ⟨c0,c1,c2,c3,c4,c5,c6,c7,c8,c9,c10,c11,c12,c13,c14,c15,c16,c17,c18,c19,c20,c21⟩:=h; go_simp; try with_reducible rfl) ?_
   try simp only [Act.put,pa,pb,pc]
   refine tk 2 19 rfl _ hHeld (by intro w' h; (try dsimp only at h); obtain ⟨c0,c1,c2,c3,c4,c5,c6,c7,c8,c9,c10,c11,c12,c13,c14,c15,c16,c17,c18,c19,c20,c21⟩:=h; go_simp; try with_reducible rfl) ?_
   try simp only [Act.put,pa,pb,pc]
   refine tk 3 20 rfl _ hHeld (by intro w' h; (try dsimp only at h); obtain ⟨c0,c1,c2,c3,c4,c5,c6,c7,c8,c9,c10,c11,c12,c13,c14,c15,c16,c17,c18,c19,c20,c21⟩:=h; go_simp; try with_reducible rfl) ?_
   try simp only [Act.put,pa,pb,pc]
   refine tk 4 21 rfl _ hHeld (by intro w' h; (try dsimp only at h); obtain ⟨c0,c1,c2,c3,c4,c5,c6,c7,c8,c9,c10,c11,c12,c13,c14,c15,c16,c17,c18,c19,c20,c21⟩:=h; go_simp; try with_reducible rfl) ?_
   try simp only [Act.put,pa,pb,pc]
   refine tk 5 22 rfl _ hHeld (by intro w' h; (try dsimp only at h); obtain ⟨c0,c1,c2,c3,c4,c5,c6,c7,c8,c9,c10,c11,c12,c13,c14,c15,c16,c17,c18,c19,c20,c21⟩:=h; go_simp; try with_reducible rfl) ?_
   try simp only [Act.put,pa,pb,pc]
   refine tk 6 23 rfl _ hHeld (by intro w' h; (try dsimp only at h); obtain ⟨c0,c1,c2,c3,c4,c5,c6,c7,c8,c9,c10,c11,c12,c13,c14,c15,c16,c17,c18,c19,c20,c21⟩:=h; go_simp; try with_reducible rfl) ?_
   try simp only [Act.put,pa,pb,pc]
   refine tk 7 24 rfl _ hHeld (by intro w' h; (try dsimp only at h); obtain ⟨c0,c1,c2,c3,c4,c5,c6,c7,c8,c9,c10,c11,c12,c13,c14,c15,c16,c17,c18,c19,c20,c21⟩:=h; go_simp; try with_reducible rfl) ?_
   try simp only [Act.put,pa,pb,pc]
   refine wpAnyH_ready (rs:=[8]) (by kernel_rfl) (by simp) ?_
   refine AllReadyH.cons (i:=8) rfl (fun K hK => ?_) AllReadyH.nil
   go_simp
   refine (eqE_is x0 x1 x2 x3 x4 x5 x6 x7 x8 x9 x10 _).mono ?_
   rintro e w2 ⟨rfl,hb2⟩
   go_wp2_with fail
   refine hK.out _ _ ⟨(hb2.cell (p:=⟨b1,o1 + k * 11,none⟩) m1).trans h0,(hb2.cell (p:=⟨b1,o1 + k * 11 + 1,none⟩) m1).trans h1,(hb2.cell (p:=⟨b1,o1 + k * 11 + 2,none⟩) m1).trans h2,(hb2.cell (p:=⟨b1,o1 + k * 11 + 3,none⟩) m1).trans h3,(hb2.cell (p:=⟨b1,o1 + k * 11 + 4,none⟩) m1).trans h4,(hb2.cell (p:=⟨b1,o1 + k * 11 + 5,none⟩) m1).trans h5,(hb2.cell (p:=⟨b1,o1 + k * 11 + 6,none⟩) m1).trans h6,(hb2.cell (p:=⟨b1,o1 + k * 11 + 7,none⟩) m1).trans h7,(hb2.cell (p:=⟨b1,o1 + k * 11 + 8,none⟩) m1).trans h8,(hb2.cell (p:=⟨b1,o1 + k * 11 + 9,none⟩) m1).trans h9,(hb2.cell (p:=⟨b1,o1 + k * 11 + 10,none⟩) m1).trans h10,(hb2.cell (p:=⟨b2,o2 + k * 11,none⟩) m2).trans g0,(hb2.cell (p:=⟨b2,o2 + k * 11 + 1,none⟩) m2).trans g1,(hb2.cell (p:=⟨b2,o2 + k * 11 + 2,none⟩) m2).trans g2,(hb2.cell (p:=⟨b2,o2 + k * 11 + 3,none⟩) m2).trans g3,(hb2.cell (p:=⟨b2,o2 + k * 11 + 4,none⟩) m2).trans g4,(hb2.cell (p:=⟨b2,o2 + k * 11 + 5,none⟩) m2).trans g5,(hb2.cell (p:=⟨b2,o2 + k * 11 + 6,none⟩) m2).trans g6,(hb2.cell (p:=⟨b2,o2 + k * 11 + 7,none⟩) m2).trans g7,(hb2.cell (p:=⟨b2,o2 + k * 11 + 8,none⟩) m2).trans g8,(hb2.cell (p:=⟨b2,o2 + k * 11 + 9,none⟩) m2).trans g9,(hb2.cell (p:=⟨b2,o2 + k * 11 + 10,none⟩) m2).trans g10⟩ (fun hHeld2 => ?_)
   clear hK K hHeld
   have hHeld:=hHeld2
   clear hHeld2
   try simp only [Act.put,pa,pb,pc]
   refine tk 9 26 rfl _ hHeld (by intro w' h; (try dsimp only at h); obtain ⟨c0,c1,c2,c3,c4,c5,c6,c7,c8,c9,c10,c11,c12,c13,c14,c15,c16,c17,c18,c19,c20,c21⟩:=h; go_simp; try with_reducible rfl) ?_
   try simp only [Act.put,pa,pb,pc]
   refine wpAnyH_done (by kernel_rfl) ?_ _
   have B2:=BD.trans (hb2.mono BD.size)
   clear hHeld h0 h1 h2 h3 h4 h5 h6 h7 h8 h9 h10 g0 g1 g2 g3 g4 g5 g6 g7 g8 g9 g10
   go_wp2
   go_roundw
   case rel => exact ⟨k + 1,by omega,by go_num,B2⟩
   case measure => simp [intOf]; omega
  ·go_wp2
   go_ret
   exact ⟨rfl,hbel⟩
theorem eqSE_u (r q : Rw TE) (w : World) (hr : RpE w r) (hq : RpE w q) (hs : rsE r = rsE q) (hl : rtE r ≤ 1048576) : Calls Tryz.prog 46 #[.slice r.1 r.2.2.length r.2.1,.slice q.1 q.2.2.length q.2.1] w fun en w' => en = .returned (.bool true) ∧ Below w.heap.size w w':=by
 obtain ⟨a,c,xs⟩:=r
 obtain ⟨b,d,ys⟩:=q
 obtain rfl : xs = ys:=hs
 exact eqSE_is a b c d xs w hr hq (Nat.le_trans (rtE_len (a,c,xs)) hl)
end Go.Proofs.YtlmpfkbgknbcnaaGreat.Nd
