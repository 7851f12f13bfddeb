/- Auths, pairs, waits: copied and compared. -/
import Derived.Test.YtlmpfkbgknbcnaaGreatAb
import Derived.Test.YtlmpfkbgknbcnaaGreatNd0
set_option linter.unusedVariables false
set_option maxRecDepth 100000
namespace Go.Proofs.YtlmpfkbgknbcnaaGreat.Nd
open Go Go.RowKit Go.Joins Own Draw
theorem resR {fn : Func} {p : Tmp} (hres : fn.results = #[.cell p 70]) (tmps : Array Value) (w : World) (g : Nat) (v0 v1 v2 : Value) (hp : tmps.getD p undef = .pointer (some ⟨g,0,none⟩)) (h0 : w.cell? ⟨g,0,none⟩ = some v0) (h1 : w.cell? ⟨g,1,none⟩ = some v1) (h2 : w.cell? ⟨g,2,none⟩ = some v2) :
  (results fn tmps).run Tryz.prog w = .ok (.agg #[v0,v1,v2]) w:=by
 have hp' : tmps[p]?.getD undef = .pointer (some ⟨g,0,none⟩):=by simpa using hp
 unfold results
 rw [hres]
 go_simp
set_option maxRecDepth 100000 in
theorem toR_is (x0 : Int) (x1 : Int) (x2 : Int) (w : World) : Calls Tryz.prog 116 #[.agg #[I x0,I x1,I x2]] w fun e w' => e = .returned (.agg #[I x0,I x1,I x2]) ∧ Below w.heap.size w w':=by
 have hb0 : Below w.heap.size w (((w.alloc (.cells #[I x0,I x1,I x2] 113)).alloc (.cells #[I x0,I x1,I x2] 70)).alloc (.cells #[I x0,I x1,I x2] 70)) :=
  (((Below.refl _ _).alloc (Nat.le_refl _) _).alloc (by simp) _).alloc (by simp; omega) _
 go_enter Tryz.func116,Tryz.ntmps116
 go_wp2
 exact bodyPost_ret (resR rfl _ _ (w.heap.size + 1) _ _ _ rfl (by simp [go_sem]) (by simp [go_sem]) (by simp [go_sem])) rfl ⟨rfl,hb0⟩
set_option maxRecDepth 100000 in
theorem eqR_is (x0 : Int) (x1 : Int) (x2 : Int) (w : World) : Calls Tryz.prog 139 #[.agg #[I x0,I x1,I x2],.agg #[I x0,I x1,I x2]] w fun e w' => e = .returned (.bool true) ∧ Below w.heap.size w w':=by
 have hb0 : Below w.heap.size w ((w.alloc (.cells #[I x0,I x1,I x2] 70)).alloc (.cells #[I x0,I x1,I x2] 70)):=((Below.refl _ _).alloc (Nat.le_refl _) _).alloc (by simp) _
 go_enter Tryz.func139,Tryz.ntmps139
 go_wp2
 go_ret
 exact ⟨rfl,hb0⟩
theorem resA {fn : Func} {p : Tmp} (hres : fn.results = #[.cell p 78]) (tmps : Array Value) (w : World) (g : Nat) (v0 v1 v2 : Value) (hp : tmps.getD p undef = .pointer (some ⟨g,0,none⟩)) (h0 : w.cell? ⟨g,0,none⟩ = some v0) (h1 : w.cell? ⟨g,1,none⟩ = some v1) (h2 : w.cell? ⟨g,2,none⟩ = some v2) :
  (results fn tmps).run Tryz.prog w = .ok (.agg #[v0,v1,v2]) w:=by
 have hp' : tmps[p]?.getD undef = .pointer (some ⟨g,0,none⟩):=by simpa using hp
 unfold results
 rw [hres]
 go_simp
set_option maxRecDepth 100000 in
theorem toA_is (x0 : Int) (x1 : Int) (x2 : Int) (w : World) : Calls Tryz.prog 118 #[.agg #[I x0,I x1,I x2]] w fun e w' => e = .returned (.agg #[I x0,I x1,I x2]) ∧ Below w.heap.size w w':=by
 have hb0 : Below w.heap.size w (((w.alloc (.cells #[I x0,I x1,I x2] 121)).alloc (.cells #[I x0,I x1,I x2] 78)).alloc (.cells #[I x0,I x1,I x2] 78)) :=
  (((Below.refl _ _).alloc (Nat.le_refl _) _).alloc (by simp) _).alloc (by simp; omega) _
 go_enter Tryz.func118,Tryz.ntmps118
 go_wp2
 exact bodyPost_ret (resA rfl _ _ (w.heap.size + 1) _ _ _ rfl (by simp [go_sem]) (by simp [go_sem]) (by simp [go_sem])) rfl ⟨rfl,hb0⟩
theorem infoA : (Tryz.prog.info? 78).map (fun i => (i.zero,i.size,i.bytes)) = some (some (.agg #[I 0,I 0,I 0]),3,24):=by kernel_rfl
set_option maxRecDepth 100000 in
set_option maxHeartbeats 1600000 in
theorem toSA_is (a : Option Addr) (cap : Nat) (xs : List TA) (w : World) (hr : FRow 3 cA w a xs) (hl : xs.length ≤ 1048576) :
  Calls Tryz.prog 117 #[.slice a xs.length cap] w fun e w' => e = .returned (.slice (some ⟨w.heap.size,0,none⟩) xs.length xs.length) ∧ FOwn 78 3 cA w.heap.size (some ⟨w.heap.size,0,none⟩) xs.length xs w' ∧ Below w.heap.size w w':=by
 obtain ⟨i0,hi,hz0,hz1,hz2⟩:=info_parts infoA
 go_enter Tryz.func117,Tryz.ntmps117
 go_wp2_with (first | (at_make; refine wpList_make_full _ rfl _ _ 74 rfl w.heap.size 78 i0 (.agg #[I 0,I 0,I 0]) 3 Tryz.underlying74 hi hz0 hz1 .i64 .i64 xs.length xs.length xs.length rfl rfl rfl rfl (by rw [hz2]; omega) (by unfold maxLen; omega) (Nat.le_refl _) ?_) | go_in)
 intro w1 hown hgrow
 have hbel:=(Below.refl w.heap.size w).grown hgrow (Nat.le_refl _) (by simp)
 clear hgrow
 have H0 : ∃ J : List Value,w1.ownsRow w.heap.size 78 3 (.slice (some ⟨w.heap.size,0,none⟩) xs.length xs.length) xs.length (fl cA (xs.take 0) ++ J):=⟨_,hown⟩
 clear hown
 go_wp2
 go_loopw [4] (fun i wr => ∃ k : Nat,k ≤ xs.length ∧ i = I k ∧ (∃ J : List Value,wr.ownsRow w.heap.size 78 3 (.slice (some ⟨w.heap.size,0,none⟩) xs.length xs.length) xs.length (fl cA (xs.take k) ++ J)) ∧ Below w.heap.size w wr) (fun i _ => xs.length - (intOf i).toNat)
 case atStart => exact ⟨0,by omega,rfl,H0,hbel⟩
 case round =>
  clear H0 hbel
  obtain ⟨k,hk,rfl,⟨J,hown⟩,hbel⟩:=hrel
  have hJ : k * 3 + J.length = xs.length * 3:=by have:=hown.1; rw [List.length_append,fl_len lA,List.length_take,Nat.min_eq_left hk] at this; exact this
  by_cases hlt : k < xs.length
  ·obtain ⟨b,off,rfl,hbl,hc⟩:=hr k hlt
   have h0 : wr.cell? ⟨b,off + k * 3,none⟩ = some (I xs[k].1):=(hbel.cell (p:=⟨b,off + k * 3,none⟩) hbl).trans (hc 0 _ rfl)
   have h1 : wr.cell? ⟨b,off + k * 3 + 1,none⟩ = some (I xs[k].2.1):=(hbel.cell (p:=⟨b,off + k * 3 + 1,none⟩) hbl).trans (hc 1 _ rfl)
   have h2 : wr.cell? ⟨b,off + k * 3 + 2,none⟩ = some (I xs[k].2.2):=(hbel.cell (p:=⟨b,off + k * 3 + 2,none⟩) hbl).trans (hc 2 _ rfl)
   clear hr hc
   have hsn : xs.take k ++ [(xs[k].1,xs[k].2.1,xs[k].2.2)] = xs.take (k + 1):=(List.take_succ_eq_append_getElem hlt).symm
   generalize xs[k].1 = x0 at h0 hsn
   generalize xs[k].2.1 = x1 at h1 hsn
   generalize xs[k].2.2 = x2 at h2 hsn
   go_wp2_with fail
   refine (toA_is x0 x1 x2 _).mono ?_
   rintro e w2 ⟨rfl,hb2⟩
   have hown2:=own_later hown hb2
   have hbel2:=hbel.trans (hb2.mono hbel.size)
   clear h0 h1 h2 hown hbel hb2
   have hs:=(((hown2.stored (k * 3) (I x0)).1.stored (k * 3 + 1) (I x1)).1.stored (k * 3 + 2) (I x2)).1
   have hp : ((((fl cA (xs.take k) ++ J)).set (k * 3) (I x0)).set (k * 3 + 1) (I x1)).set (k * 3 + 2) (I x2) = fl cA (xs.take k ++ [(x0,x1,x2)]) ++ J.drop 3:=by
    have:=fl_put (f:=cA) lA (xs.take k) J (x0,x1,x2) (by omega)
    rw [List.length_take,Nat.min_eq_left hk] at this
    exact this
   rw [hp,hsn] at hs
   have HS : Hid (∃ k' : Nat,k' ≤ xs.length ∧ Value.int .i64 ((k : Int) + 1) = I k' ∧ (∃ J : List Value,(((w2.setCell ⟨w.heap.size,k * 3,none⟩ (I x0)).setCell ⟨w.heap.size,k * 3 + 1,none⟩ (I x1)).setCell ⟨w.heap.size,k * 3 + 2,none⟩ (I x2)).ownsRow w.heap.size 78 3 (.slice (some ⟨w.heap.size,0,none⟩) xs.length xs.length) xs.length (fl cA (xs.take k') ++ J)) ∧ Below w.heap.size w (((w2.setCell ⟨w.heap.size,k * 3,none⟩ (I x0)).setCell ⟨w.heap.size,k * 3 + 1,none⟩ (I x1)).setCell ⟨w.heap.size,k * 3 + 2,none⟩ (I x2))) :=
    ⟨k + 1,by omega,by go_num,⟨_,hs⟩,(((hbel2.setCell (Nat.le_refl _) _).setCell (Nat.le_refl _) _).setCell (Nat.le_refl _) _)⟩
   have hll : (fl cA (xs.take k) ++ J).length = xs.length * 3:=hown2.1
   have u0 : w2.cell? ⟨w.heap.size,k * 3,none⟩ = some (fl cA (xs.take k) ++ J)[k * 3]:=by rw [hown2.cellAt _ (by omega)]; exact List.getElem?_eq_getElem (by omega)
   have f0:=hown2.frozenAt (k * 3)
   have u1 : w2.cell? ⟨w.heap.size,k * 3 + 1,none⟩ = some (fl cA (xs.take k) ++ J)[k * 3 + 1]:=by rw [hown2.cellAt _ (by omega)]; exact List.getElem?_eq_getElem (by omega)
   have f1:=hown2.frozenAt (k * 3 + 1)
   have u2 : w2.cell? ⟨w.heap.size,k * 3 + 2,none⟩ = some (fl cA (xs.take k) ++ J)[k * 3 + 2]:=by rw [hown2.cellAt _ (by omega)]; exact List.getElem?_eq_getElem (by omega)
   have f2:=hown2.frozenAt (k * 3 + 2)
   have hlt2 : (k : Int) < (xs.length : Int):=by omega
   clear hown2 hbel2 hs hp hsn
   generalize (fl cA (xs.take k) ++ J)[k * 3] = q0 at u0
   generalize (fl cA (xs.take k) ++ J)[k * 3 + 1] = q1 at u1
   generalize (fl cA (xs.take k) ++ J)[k * 3 + 2] = q2 at u2
   clear hll hJ
   go_wp2
   go_roundw
   case rel => exact HS.out
   case measure => simp [intOf]; omega
  ·obtain rfl : k = xs.length:=by omega
   have hj0 : J = []:=List.length_eq_zero_iff.1 (by omega)
   subst hj0
   rw [List.take_length,List.append_nil] at hown
   go_wp2
   go_ret
   exact ⟨rfl,hown,hbel⟩
theorem toSA_u (r : Rw TA) (w : World) (hd : RpA w r) (hl : rtA r ≤ 1048576) : Calls Tryz.prog 117 #[.slice r.1 r.2.2.length r.2.1] w fun en w' => ∃ y : Rw TA,en = .returned (.slice y.1 y.2.2.length y.2.1) ∧ rsA y = rsA r ∧ RoA w.heap.size w' y ∧ Below w.heap.size w w' :=
 (toSA_is r.1 r.2.1 r.2.2 w hd (Nat.le_trans (rtA_len r) hl)).mono fun e w' h => ⟨(some ⟨w.heap.size,0,none⟩,r.2.2.length,r.2.2),h.1,rfl,h.2.1,h.2.2⟩
set_option maxRecDepth 100000 in
theorem eqA_is (x0 : Int) (x1 : Int) (x2 : Int) (w : World) : Calls Tryz.prog 141 #[.agg #[I x0,I x1,I x2],.agg #[I x0,I x1,I x2]] w fun e w' => e = .returned (.bool true) ∧ Below w.heap.size w w':=by
 have hb0 : Below w.heap.size w ((w.alloc (.cells #[I x0,I x1,I x2] 78)).alloc (.cells #[I x0,I x1,I x2] 78)):=((Below.refl _ _).alloc (Nat.le_refl _) _).alloc (by simp) _
 go_enter Tryz.func141,Tryz.ntmps141
 go_wp2
 go_ret
 exact ⟨rfl,hb0⟩
set_option maxRecDepth 100000 in
set_option maxHeartbeats 1600000 in
theorem eqSA_is (a b : Option Addr) (ca cb : Nat) (xs : List TA) (w : World) (ha : FRow 3 cA w a xs) (hb : FRow 3 cA w b xs) (hl : xs.length ≤ 1048576) :
  Calls Tryz.prog 140 #[.slice a xs.length ca,.slice b xs.length cb] w fun e w' => e = .returned (.bool true) ∧ Below w.heap.size w w':=by
 go_enter Tryz.func140,Tryz.ntmps140
 go_wp2
 go_loopw [5] (fun i wr => ∃ k : Nat,k ≤ xs.length ∧ i = I k ∧ Below w.heap.size w wr) (fun i _ => xs.length - (intOf i).toNat)
 case atStart => exact ⟨0,by omega,rfl,Below.refl _ _⟩
 case round =>
  obtain ⟨k,hk,rfl,hbel⟩:=hrel
  by_cases hlt : k < xs.length
  ·obtain ⟨b1,o1,rfl,l1,h⟩:=ha k hlt
   obtain ⟨b2,o2,rfl,l2,g⟩:=hb k hlt
   have hlt2 : (k : Int) < (xs.length : Int):=by omega
   have m1 : b1 < wr.drew.heap.size:=Nat.lt_of_lt_of_le l1 hbel.size
   have m2 : b2 < wr.drew.heap.size:=Nat.lt_of_lt_of_le l2 hbel.size
   have BD:=hbel.drew
   have h0 : wr.drew.cell? ⟨b1,o1 + k * 3,none⟩ = some (I xs[k].1):=(hbel.cell (p:=⟨b1,o1 + k * 3,none⟩) l1).trans (h 0 _ rfl)
   have h1 : wr.drew.cell? ⟨b1,o1 + k * 3 + 1,none⟩ = some (I xs[k].2.1):=(hbel.cell (p:=⟨b1,o1 + k * 3 + 1,none⟩) l1).trans (h 1 _ rfl)
   have h2 : wr.drew.cell? ⟨b1,o1 + k * 3 + 2,none⟩ = some (I xs[k].2.2):=(hbel.cell (p:=⟨b1,o1 + k * 3 + 2,none⟩) l1).trans (h 2 _ rfl)
   have g0 : wr.drew.cell? ⟨b2,o2 + k * 3,none⟩ = some (I xs[k].1):=(hbel.cell (p:=⟨b2,o2 + k * 3,none⟩) l2).trans (g 0 _ rfl)
   have g1 : wr.drew.cell? ⟨b2,o2 + k * 3 + 1,none⟩ = some (I xs[k].2.1):=(hbel.cell (p:=⟨b2,o2 + k * 3 + 1,none⟩) l2).trans (g 1 _ rfl)
   have g2 : wr.drew.cell? ⟨b2,o2 + k * 3 + 2,none⟩ = some (I xs[k].2.2):=(hbel.cell (p:=⟨b2,o2 + k * 3 + 2,none⟩) l2).trans (g 2 _ rfl)
   generalize xs[k].1 = x0 at h0 g0
   generalize xs[k].2.1 = x1 at h1 g1
   generalize xs[k].2.2 = x2 at h2 g2
   clear ha hb h g
   go_wp2_with fail
   refine wp_region_held_drew (S:=(fun V : World => V.cell? ⟨b1,o1 + k * 3,none⟩ = some (I x0) ∧ V.cell? ⟨b1,o1 + k * 3 + 1,none⟩ = some (I x1) ∧ V.cell? ⟨b1,o1 + k * 3 + 2,none⟩ = some (I x2) ∧ V.cell? ⟨b2,o2 + k * 3,none⟩ = some (I x0) ∧ V.cell? ⟨b2,o2 + k * 3 + 1,none⟩ = some (I x1) ∧ V.cell? ⟨b2,o2 + k * 3 + 2,none⟩ = some (I x2))) (by kernel_rfl) ⟨h0,h1,h2,g0,g1,g2⟩ (fun hHeld => ?_)
   refine tk 0 17 rfl _ hHeld (by intro w' h; (try dsimp only at h); obtain ⟨c0,c1,c2,c3,c4,c5⟩:=h; go_simp; try with_reducible rfl) ?_
   try simp only [Act.put,pa,pb,pc]
   refine tk 1 18 rfl _ hHeld (by intro w' h; (try dsimp only at h); obtain ⟨c0,c1,c2,c3,c4,c5⟩:=h; go_simp; try with_reducible rfl) ?_
   try simp only [Act.put,pa,pb,pc]
   refine tk 2 19 rfl _ hHeld (by intro w' h; (try dsimp only at h); obtain ⟨c0,c1,c2,c3,c4,c5⟩:=h; go_simp; try with_reducible rfl) ?_
   try simp only [Act.put,pa,pb,pc]
   refine tk 3 20 rfl _ hHeld (by intro w' h; (try dsimp only at h); obtain ⟨c0,c1,c2,c3,c4,c5⟩:=h; go_simp; try with_reducible rfl) ?_
   try simp only [Act.put,pa,pb,pc]
   refine tk 4 21 rfl _ hHeld (by intro w' h; (try dsimp only at h); obtain ⟨c0,c1,c2,c3,c4,c5⟩:=h; go_simp; try with_reducible rfl) ?_
   try simp only [Act.put,pa,pb,pc]
   refine tk 5 22 rfl _ hHeld (by intro w' h; (try dsimp only at h); obtain ⟨c0,c1,c2,c3,c4,c5⟩:=h; go_simp; try with_reducible rfl) ?_
   try simp only [Act.put,pa,pb,pc]
   refine tk 6 23 rfl _ hHeld (by intro w' h; (try dsimp only at h); obtain ⟨c0,c1,c2,c3,c4,c5⟩:=h; go_simp; try with_reducible rfl) ?_
   try simp only [Act.put,pa,pb,pc]
   refine tk 7 24 rfl _ hHeld (by intro w' h; (try dsimp only at h); obtain ⟨c0,c1,c2,c3,c4,c5⟩:=h; go_simp; try with_reducible rfl) ?_
   try simp only [Act.put,pa,pb,pc]
   refine wpAnyH_ready (rs:=[8]) (by kernel_rfl) (by simp) ?_
   refine AllReadyH.cons (i:=8) rfl (fun K hK => ?_) AllReadyH.nil
   go_simp
   refine (eqA_is x0 x1 x2 _).mono ?_
   rintro e w2 ⟨rfl,hb2⟩
   go_wp2_with fail
   refine hK.out _ _ ⟨(hb2.cell (p:=⟨b1,o1 + k * 3,none⟩) m1).trans h0,(hb2.cell (p:=⟨b1,o1 + k * 3 + 1,none⟩) m1).trans h1,(hb2.cell (p:=⟨b1,o1 + k * 3 + 2,none⟩) m1).trans h2,(hb2.cell (p:=⟨b2,o2 + k * 3,none⟩) m2).trans g0,(hb2.cell (p:=⟨b2,o2 + k * 3 + 1,none⟩) m2).trans g1,(hb2.cell (p:=⟨b2,o2 + k * 3 + 2,none⟩) m2).trans g2⟩ (fun hHeld2 => ?_)
   clear hK K hHeld
   have hHeld:=hHeld2
   clear hHeld2
   try simp only [Act.put,pa,pb,pc]
   refine tk 9 26 rfl _ hHeld (by intro w' h; (try dsimp only at h); obtain ⟨c0,c1,c2,c3,c4,c5⟩:=h; go_simp; try with_reducible rfl) ?_
   try simp only [Act.put,pa,pb,pc]
   refine wpAnyH_done (by kernel_rfl) ?_ _
   have B2:=BD.trans (hb2.mono BD.size)
   clear hHeld h0 h1 h2 g0 g1 g2
   go_wp2
   go_roundw
   case rel => exact ⟨k + 1,by omega,by go_num,B2⟩
   case measure => simp [intOf]; omega
  ·go_wp2
   go_ret
   exact ⟨rfl,hbel⟩
theorem eqSA_u (r q : Rw TA) (w : World) (hr : RpA w r) (hq : RpA w q) (hs : rsA r = rsA q) (hl : rtA r ≤ 1048576) : Calls Tryz.prog 140 #[.slice r.1 r.2.2.length r.2.1,.slice q.1 q.2.2.length q.2.1] w fun en w' => en = .returned (.bool true) ∧ Below w.heap.size w w':=by
 obtain ⟨a,c,xs⟩:=r
 obtain ⟨b,d,ys⟩:=q
 obtain rfl : xs = ys:=hs
 exact eqSA_is a b c d xs w hr hq (Nat.le_trans (rtA_len (a,c,xs)) hl)
theorem resP {fn : Func} {p : Tmp} (hres : fn.results = #[.cell p 178]) (tmps : Array Value) (w : World) (g : Nat) (v0 v1 : Value) (hp : tmps.getD p undef = .pointer (some ⟨g,0,none⟩)) (h0 : w.cell? ⟨g,0,none⟩ = some v0) (h1 : w.cell? ⟨g,1,none⟩ = some v1) :
  (results fn tmps).run Tryz.prog w = .ok (.agg #[v0,v1]) w:=by
 have hp' : tmps[p]?.getD undef = .pointer (some ⟨g,0,none⟩):=by simpa using hp
 unfold results
 rw [hres]
 go_simp
set_option maxRecDepth 100000 in
theorem toP_is (x0 : Int) (x1 : Int) (w : World) : Calls Tryz.prog 115 #[.agg #[I x0,I x1]] w fun e w' => e = .returned (.agg #[I x0,I x1]) ∧ Below w.heap.size w w':=by
 have hb0 : Below w.heap.size w (((w.alloc (.cells #[I x0,I x1] 182)).alloc (.cells #[I x0,I x1] 178)).alloc (.cells #[I x0,I x1] 178)) :=
  (((Below.refl _ _).alloc (Nat.le_refl _) _).alloc (by simp) _).alloc (by simp; omega) _
 go_enter Tryz.func115,Tryz.ntmps115
 go_wp2
 exact bodyPost_ret (resP rfl _ _ (w.heap.size + 1) _ _ rfl (by simp [go_sem]) (by simp [go_sem])) rfl ⟨rfl,hb0⟩
theorem infoP : (Tryz.prog.info? 178).map (fun i => (i.zero,i.size,i.bytes)) = some (some (.agg #[I 0,I 0]),2,16):=by kernel_rfl
set_option maxRecDepth 100000 in
set_option maxHeartbeats 1600000 in
theorem toSP_is (a : Option Addr) (cap : Nat) (xs : List TP) (w : World) (hr : FRow 2 cP w a xs) (hl : xs.length ≤ 1048576) :
  Calls Tryz.prog 70 #[.slice a xs.length cap] w fun e w' => e = .returned (.slice (some ⟨w.heap.size,0,none⟩) xs.length xs.length) ∧ FOwn 178 2 cP w.heap.size (some ⟨w.heap.size,0,none⟩) xs.length xs w' ∧ Below w.heap.size w w':=by
 obtain ⟨i0,hi,hz0,hz1,hz2⟩:=info_parts infoP
 go_enter Tryz.func70,Tryz.ntmps70
 go_wp2_with (first | (at_make; refine wpList_make_full _ rfl _ _ 38 rfl w.heap.size 178 i0 (.agg #[I 0,I 0]) 2 Tryz.underlying38 hi hz0 hz1 .i64 .i64 xs.length xs.length xs.length rfl rfl rfl rfl (by rw [hz2]; omega) (by unfold maxLen; omega) (Nat.le_refl _) ?_) | go_in)
 intro w1 hown hgrow
 have hbel:=(Below.refl w.heap.size w).grown hgrow (Nat.le_refl _) (by simp)
 clear hgrow
 have H0 : ∃ J : List Value,w1.ownsRow w.heap.size 178 2 (.slice (some ⟨w.heap.size,0,none⟩) xs.length xs.length) xs.length (fl cP (xs.take 0) ++ J):=⟨_,hown⟩
 clear hown
 go_wp2
 go_loopw [4] (fun i wr => ∃ k : Nat,k ≤ xs.length ∧ i = I k ∧ (∃ J : List Value,wr.ownsRow w.heap.size 178 2 (.slice (some ⟨w.heap.size,0,none⟩) xs.length xs.length) xs.length (fl cP (xs.take k) ++ J)) ∧ Below w.heap.size w wr) (fun i _ => xs.length - (intOf i).toNat)
 case atStart => exact ⟨0,by omega,rfl,H0,hbel⟩
 case round =>
  clear H0 hbel
  obtain ⟨k,hk,rfl,⟨J,hown⟩,hbel⟩:=hrel
  have hJ : k * 2 + J.length = xs.length * 2:=by have:=hown.1; rw [List.length_append,fl_len lP,List.length_take,Nat.min_eq_left hk] at this; exact this
  by_cases hlt : k < xs.length
  ·obtain ⟨b,off,rfl,hbl,hc⟩:=hr k hlt
   have h0 : wr.cell? ⟨b,off + k * 2,none⟩ = some (I xs[k].1):=(hbel.cell (p:=⟨b,off + k * 2,none⟩) hbl).trans (hc 0 _ rfl)
   have h1 : wr.cell? ⟨b,off + k * 2 + 1,none⟩ = some (I xs[k].2):=(hbel.cell (p:=⟨b,off + k * 2 + 1,none⟩) hbl).trans (hc 1 _ rfl)
   clear hr hc
   have hsn : xs.take k ++ [(xs[k].1,xs[k].2)] = xs.take (k + 1):=(List.take_succ_eq_append_getElem hlt).symm
   generalize xs[k].1 = x0 at h0 hsn
   generalize xs[k].2 = x1 at h1 hsn
   go_wp2_with fail
   refine (toP_is x0 x1 _).mono ?_
   rintro e w2 ⟨rfl,hb2⟩
   have hown2:=own_later hown hb2
   have hbel2:=hbel.trans (hb2.mono hbel.size)
   clear h0 h1 hown hbel hb2
   have hs:=((hown2.stored (k * 2) (I x0)).1.stored (k * 2 + 1) (I x1)).1
   have hp : (((fl cP (xs.take k) ++ J)).set (k * 2) (I x0)).set (k * 2 + 1) (I x1) = fl cP (xs.take k ++ [(x0,x1)]) ++ J.drop 2:=by
    have:=fl_put (f:=cP) lP (xs.take k) J (x0,x1) (by omega)
    rw [List.length_take,Nat.min_eq_left hk] at this
    exact this
   rw [hp,hsn] at hs
   have HS : Hid (∃ k' : Nat,k' ≤ xs.length ∧ Value.int .i64 ((k : Int) + 1) = I k' ∧ (∃ J : List Value,((w2.setCell ⟨w.heap.size,k * 2,none⟩ (I x0)).setCell ⟨w.heap.size,k * 2 + 1,none⟩ (I x1)).ownsRow w.heap.size 178 2 (.slice (some ⟨w.heap.size,0,none⟩) xs.length xs.length) xs.length (fl cP (xs.take k') ++ J)) ∧ Below w.heap.size w ((w2.setCell ⟨w.heap.size,k * 2,none⟩ (I x0)).setCell ⟨w.heap.size,k * 2 + 1,none⟩ (I x1))) :=
    ⟨k + 1,by omega,by go_num,⟨_,hs⟩,((hbel2.setCell (Nat.le_refl _) _).setCell (Nat.le_refl _) _)⟩
   have hll : (fl cP (xs.take k) ++ J).length = xs.length * 2:=hown2.1
   have u0 : w2.cell? ⟨w.heap.size,k * 2,none⟩ = some (fl cP (xs.take k) ++ J)[k * 2]:=by rw [hown2.cellAt _ (by omega)]; exact List.getElem?_eq_getElem (by omega)
   have f0:=hown2.frozenAt (k * 2)
   have u1 : w2.cell? ⟨w.heap.size,k * 2 + 1,none⟩ = some (fl cP (xs.take k) ++ J)[k * 2 + 1]:=by rw [hown2.cellAt _ (by omega)]; exact List.getElem?_eq_getElem (by omega)
   have f1:=hown2.frozenAt (k * 2 + 1)
   have hlt2 : (k : Int) < (xs.length : Int):=by omega
   clear hown2 hbel2 hs hp hsn
   generalize (fl cP (xs.take k) ++ J)[k * 2] = q0 at u0
   generalize (fl cP (xs.take k) ++ J)[k * 2 + 1] = q1 at u1
   clear hll hJ
   go_wp2
   go_roundw
   case rel => exact HS.out
   case measure => simp [intOf]; omega
  ·obtain rfl : k = xs.length:=by omega
   have hj0 : J = []:=List.length_eq_zero_iff.1 (by omega)
   subst hj0
   rw [List.take_length,List.append_nil] at hown
   go_wp2
   go_ret
   exact ⟨rfl,hown,hbel⟩
theorem toSP_u (r : Rw TP) (w : World) (hd : RpP w r) (hl : rtP r ≤ 1048576) : Calls Tryz.prog 70 #[.slice r.1 r.2.2.length r.2.1] w fun en w' => ∃ y : Rw TP,en = .returned (.slice y.1 y.2.2.length y.2.1) ∧ rsP y = rsP r ∧ RoP w.heap.size w' y ∧ Below w.heap.size w w' :=
 (toSP_is r.1 r.2.1 r.2.2 w hd (Nat.le_trans (rtP_len r) hl)).mono fun e w' h => ⟨(some ⟨w.heap.size,0,none⟩,r.2.2.length,r.2.2),h.1,rfl,h.2.1,h.2.2⟩
set_option maxRecDepth 100000 in
theorem eqP_is (x0 : Int) (x1 : Int) (w : World) : Calls Tryz.prog 138 #[.agg #[I x0,I x1],.agg #[I x0,I x1]] w fun e w' => e = .returned (.bool true) ∧ Below w.heap.size w w':=by
 have hb0 : Below w.heap.size w ((w.alloc (.cells #[I x0,I x1] 178)).alloc (.cells #[I x0,I x1] 178)):=((Below.refl _ _).alloc (Nat.le_refl _) _).alloc (by simp) _
 go_enter Tryz.func138,Tryz.ntmps138
 go_wp2
 go_ret
 exact ⟨rfl,hb0⟩
set_option maxRecDepth 100000 in
set_option maxHeartbeats 1600000 in
theorem eqSP_is (a b : Option Addr) (ca cb : Nat) (xs : List TP) (w : World) (ha : FRow 2 cP w a xs) (hb : FRow 2 cP w b xs) (hl : xs.length ≤ 1048576) :
  Calls Tryz.prog 84 #[.slice a xs.length ca,.slice b xs.length cb] w fun e w' => e = .returned (.bool true) ∧ Below w.heap.size w w':=by
 go_enter Tryz.func84,Tryz.ntmps84
 go_wp2
 go_loopw [5] (fun i wr => ∃ k : Nat,k ≤ xs.length ∧ i = I k ∧ Below w.heap.size w wr) (fun i _ => xs.length - (intOf i).toNat)
 case atStart => exact ⟨0,by omega,rfl,Below.refl _ _⟩
 case round =>
  obtain ⟨k,hk,rfl,hbel⟩:=hrel
  by_cases hlt : k < xs.length
  ·obtain ⟨b1,o1,rfl,l1,h⟩:=ha k hlt
   obtain ⟨b2,o2,rfl,l2,g⟩:=hb k hlt
   have hlt2 : (k : Int) < (xs.length : Int):=by omega
   have m1 : b1 < wr.drew.heap.size:=Nat.lt_of_lt_of_le l1 hbel.size
   have m2 : b2 < wr.drew.heap.size:=Nat.lt_of_lt_of_le l2 hbel.size
   have BD:=hbel.drew
   have h0 : wr.drew.cell? ⟨b1,o1 + k * 2,none⟩ = some (I xs[k].1):=(hbel.cell (p:=⟨b1,o1 + k * 2,none⟩) l1).trans (h 0 _ rfl)
   have h1 : wr.drew.cell? ⟨b1,o1 + k * 2 + 1,none⟩ = some (I xs[k].2):=(hbel.cell (p:=⟨b1,o1 + k * 2 + 1,none⟩) l1).trans (h 1 _ rfl)
   have g0 : wr.drew.cell? ⟨b2,o2 + k * 2,none⟩ = some (I xs[k].1):=(hbel.cell (p:=⟨b2,o2 + k * 2,none⟩) l2).trans (g 0 _ rfl)
   have g1 : wr.drew.cell? ⟨b2,o2 + k * 2 + 1,none⟩ = some (I xs[k].2):=(hbel.cell (p:=⟨b2,o2 + k * 2 + 1,none⟩) l2).trans (g 1 _ rfl)
   generalize xs[k].1 = x0 at h0 g0
   generalize xs[k].2 = x1 at h1 g1
   clear ha hb h g
   go_wp2_with fail
   refine wp_region_held_drew (S:=(fun V : World => V.cell? ⟨b1,o1 + k * 2,none⟩ = some (I x0) ∧ V.cell? ⟨b1,o1 + k * 2 + 1,none⟩ = some (I x1) ∧ V.cell? ⟨b2,o2 + k * 2,none⟩ = some (I x0) ∧ V.cell? ⟨b2,o2 + k * 2 + 1,none⟩ = some (I x1))) (by kernel_rfl) ⟨h0,h1,g0,g1⟩ (fun hHeld => ?_)
   refine tk 0 17 rfl _ hHeld (by intro w' h; (try dsimp only at h); obtain ⟨c0,c1,c2,c3⟩:=h; go_simp; try with_reducible rfl) ?_
   try simp only [Act.put,pa,pb,pc]
   refine tk 1 18 rfl _ hHeld (by intro w' h; (try dsimp only at h); obtain ⟨c0,c1,c2,c3⟩:=h; go_simp; try with_reducible rfl) ?_
   try simp only [Act.put,pa,pb,pc]
   refine tk 2 19 rfl _ hHeld (by intro w' h; (try dsimp only at h); obtain ⟨c0,c1,c2,c3⟩:=h; go_simp; try with_reducible rfl) ?_
   try simp only [Act.put,pa,pb,pc]
   refine tk 3 20 rfl _ hHeld (by intro w' h; (try dsimp only at h); obtain ⟨c0,c1,c2,c3⟩:=h; go_simp; try with_reducible rfl) ?_
   try simp only [Act.put,pa,pb,pc]
   refine tk 4 21 rfl _ hHeld (by intro w' h; (try dsimp only at h); obtain ⟨c0,c1,c2,c3⟩:=h; go_simp; try with_reducible rfl) ?_
   try simp only [Act.put,pa,pb,pc]
   refine tk 5 22 rfl _ hHeld (by intro w' h; (try dsimp only at h); obtain ⟨c0,c1,c2,c3⟩:=h; go_simp; try with_reducible rfl) ?_
   try simp only [Act.put,pa,pb,pc]
   refine tk 6 23 rfl _ hHeld (by intro w' h; (try dsimp only at h); obtain ⟨c0,c1,c2,c3⟩:=h; go_simp; try with_reducible rfl) ?_
   try simp only [Act.put,pa,pb,pc]
   refine tk 7 24 rfl _ hHeld (by intro w' h; (try dsimp only at h); obtain ⟨c0,c1,c2,c3⟩:=h; go_simp; try with_reducible rfl) ?_
   try simp only [Act.put,pa,pb,pc]
   refine wpAnyH_ready (rs:=[8]) (by kernel_rfl) (by simp) ?_
   refine AllReadyH.cons (i:=8) rfl (fun K hK => ?_) AllReadyH.nil
   go_simp
   refine (eqP_is x0 x1 _).mono ?_
   rintro e w2 ⟨rfl,hb2⟩
   go_wp2_with fail
   refine hK.out _ _ ⟨(hb2.cell (p:=⟨b1,o1 + k * 2,none⟩) m1).trans h0,(hb2.cell (p:=⟨b1,o1 + k * 2 + 1,none⟩) m1).trans h1,(hb2.cell (p:=⟨b2,o2 + k * 2,none⟩) m2).trans g0,(hb2.cell (p:=⟨b2,o2 + k * 2 + 1,none⟩) m2).trans g1⟩ (fun hHeld2 => ?_)
   clear hK K hHeld
   have hHeld:=hHeld2
   clear hHeld2
   try simp only [Act.put,pa,pb,pc]
   refine tk 9 26 rfl _ hHeld (by intro w' h; (try dsimp only at h); obtain ⟨c0,c1,c2,c3⟩:=h; go_simp; try with_reducible rfl) ?_
   try simp only [Act.put,pa,pb,pc]
   refine wpAnyH_done (by kernel_rfl) ?_ _
   have B2:=BD.trans (hb2.mono BD.size)
   clear hHeld h0 h1 g0 g1
   go_wp2
   go_roundw
   case rel => exact ⟨k + 1,by omega,by go_num,B2⟩
   case measure => simp [intOf]; omega
  ·go_wp2
   go_ret
   exact ⟨rfl,hbel⟩
theorem eqSP_u (r q : Rw TP) (w : World) (hr : RpP w r) (hq : RpP w q) (hs : rsP r = rsP q) (hl : rtP r ≤ 1048576) : Calls Tryz.prog 84 #[.slice r.1 r.2.2.length r.2.1,.slice q.1 q.2.2.length q.2.1] w fun en w' => en = .returned (.bool true) ∧ Below w.heap.size w w':=by
 obtain ⟨a,c,xs⟩:=r
 obtain ⟨b,d,ys⟩:=q
 obtain rfl : xs = ys:=hs
 exact eqSP_is a b c d xs w hr hq (Nat.le_trans (rtP_len (a,c,xs)) hl)
theorem resW {fn : Func} {p : Tmp} (hres : fn.results = #[.cell p 67]) (tmps : Array Value) (w : World) (g : Nat) (v0 v1 v2 v3 : Value) (hp : tmps.getD p undef = .pointer (some ⟨g,0,none⟩)) (h0 : w.cell? ⟨g,0,none⟩ = some v0) (h1 : w.cell? ⟨g,1,none⟩ = some v1) (h2 : w.cell? ⟨g,2,none⟩ = some v2) (h3 : w.cell? ⟨g,3,none⟩ = some v3) :
  (results fn tmps).run Tryz.prog w = .ok (.agg #[v0,v1,v2,v3]) w:=by
 have hp' : tmps[p]?.getD undef = .pointer (some ⟨g,0,none⟩):=by simpa using hp
 unfold results
 rw [hres]
 go_simp
set_option maxRecDepth 100000 in
theorem toW_is (x0 : Bool) (x1 : Int) (x2 : Int) (x3 : Int) (w : World) : Calls Tryz.prog 71 #[.agg #[.bool x0,I x1,I x2,I x3]] w fun e w' => e = .returned (.agg #[.bool x0,I x1,I x2,I x3]) ∧ Below w.heap.size w w':=by
 have hb0 : Below w.heap.size w (((w.alloc (.cells #[.bool x0,I x1,I x2,I x3] 133)).alloc (.cells #[.bool x0,I x1,I x2,I x3] 67)).alloc (.cells #[.bool x0,I x1,I x2,I x3] 67)) :=
  (((Below.refl _ _).alloc (Nat.le_refl _) _).alloc (by simp) _).alloc (by simp; omega) _
 go_enter Tryz.func71,Tryz.ntmps71
 go_wp2
 exact bodyPost_ret (resW rfl _ _ (w.heap.size + 1) _ _ _ _ rfl (by simp [go_sem]) (by simp [go_sem]) (by simp [go_sem]) (by simp [go_sem])) rfl ⟨rfl,hb0⟩
theorem infoW : (Tryz.prog.info? 67).map (fun i => (i.zero,i.size,i.bytes)) = some (some (.agg #[.bool false,I 0,I 0,I 0]),4,32):=by kernel_rfl
set_option maxRecDepth 100000 in
set_option maxHeartbeats 1600000 in
theorem toSW_is (a : Option Addr) (cap : Nat) (xs : List TW) (w : World) (hr : FRow 4 cW w a xs) (hl : xs.length ≤ 1048576) :
  Calls Tryz.prog 33 #[.slice a xs.length cap] w fun e w' => e = .returned (.slice (some ⟨w.heap.size,0,none⟩) xs.length xs.length) ∧ FOwn 67 4 cW w.heap.size (some ⟨w.heap.size,0,none⟩) xs.length xs w' ∧ Below w.heap.size w w':=by
 obtain ⟨i0,hi,hz0,hz1,hz2⟩:=info_parts infoW
 go_enter Tryz.func33,Tryz.ntmps33
 go_wp2_with (first | (at_make; refine wpList_make_full _ rfl _ _ 42 rfl w.heap.size 67 i0 (.agg #[.bool false,I 0,I 0,I 0]) 4 Tryz.underlying42 hi hz0 hz1 .i64 .i64 xs.length xs.length xs.length rfl rfl rfl rfl (by rw [hz2]; omega) (by unfold maxLen; omega) (Nat.le_refl _) ?_) | go_in)
 intro w1 hown hgrow
 have hbel:=(Below.refl w.heap.size w).grown hgrow (Nat.le_refl _) (by simp)
 clear hgrow
 have H0 : ∃ J : List Value,w1.ownsRow w.heap.size 67 4 (.slice (some ⟨w.heap.size,0,none⟩) xs.length xs.length) xs.length (fl cW (xs.take 0) ++ J):=⟨_,hown⟩
 clear hown
 go_wp2
 go_loopw [4] (fun i wr => ∃ k : Nat,k ≤ xs.length ∧ i = I k ∧ (∃ J : List Value,wr.ownsRow w.heap.size 67 4 (.slice (some ⟨w.heap.size,0,none⟩) xs.length xs.length) xs.length (fl cW (xs.take k) ++ J)) ∧ Below w.heap.size w wr) (fun i _ => xs.length - (intOf i).toNat)
 case atStart => exact ⟨0,by omega,rfl,H0,hbel⟩
 case round =>
  clear H0 hbel
  obtain ⟨k,hk,rfl,⟨J,hown⟩,hbel⟩:=hrel
  have hJ : k * 4 + J.length = xs.length * 4:=by have:=hown.1; rw [List.length_append,fl_len lW,List.length_take,Nat.min_eq_left hk] at this; exact this
  by_cases hlt : k < xs.length
  ·obtain ⟨b,off,rfl,hbl,hc⟩:=hr k hlt
   have h0 : wr.cell? ⟨b,off + k * 4,none⟩ = some (.bool xs[k].1):=(hbel.cell (p:=⟨b,off + k * 4,none⟩) hbl).trans (hc 0 _ rfl)
   have h1 : wr.cell? ⟨b,off + k * 4 + 1,none⟩ = some (I xs[k].2.1):=(hbel.cell (p:=⟨b,off + k * 4 + 1,none⟩) hbl).trans (hc 1 _ rfl)
   have h2 : wr.cell? ⟨b,off + k * 4 + 2,none⟩ = some (I xs[k].2.2.1):=(hbel.cell (p:=⟨b,off + k * 4 + 2,none⟩) hbl).trans (hc 2 _ rfl)
   have h3 : wr.cell? ⟨b,off + k * 4 + 3,none⟩ = some (I xs[k].2.2.2):=(hbel.cell (p:=⟨b,off + k * 4 + 3,none⟩) hbl).trans (hc 3 _ rfl)
   clear hr hc
   have hsn : xs.take k ++ [(xs[k].1,xs[k].2.1,xs[k].2.2.1,xs[k].2.2.2)] = xs.take (k + 1):=(List.take_succ_eq_append_getElem hlt).symm
   generalize xs[k].1 = x0 at h0 hsn
   generalize xs[k].2.1 = x1 at h1 hsn
   generalize xs[k].2.2.1 = x2 at h2 hsn
   generalize xs[k].2.2.2 = x3 at h3 hsn
   go_wp2_with fail
   refine (toW_is x0 x1 x2 x3 _).mono ?_
   rintro e w2 ⟨rfl,hb2⟩
   have hown2:=own_later hown hb2
   have hbel2:=hbel.trans (hb2.mono hbel.size)
   clear h0 h1 h2 h3 hown hbel hb2
   have hs:=((((hown2.stored (k * 4) (.bool x0)).1.stored (k * 4 + 1) (I x1)).1.stored (k * 4 + 2) (I x2)).1.stored (k * 4 + 3) (I x3)).1
   have hp : (((((fl cW (xs.take k) ++ J)).set (k * 4) (.bool x0)).set (k * 4 + 1) (I x1)).set (k * 4 + 2) (I x2)).set (k * 4 + 3) (I x3) = fl cW (xs.take k ++ [(x0,x1,x2,x3)]) ++ J.drop 4:=by
    have:=fl_put (f:=cW) lW (xs.take k) J (x0,x1,x2,x3) (by omega)
    rw [List.length_take,Nat.min_eq_left hk] at this
    exact this
   rw [hp,hsn] at hs
   have HS : Hid (∃ k' : Nat,k' ≤ xs.length ∧ Value.int .i64 ((k : Int) + 1) = I k' ∧ (∃ J : List Value,((((w2.setCell ⟨w.heap.size,k * 4,none⟩ (.bool x0)).setCell ⟨w.heap.size,k * 4 + 1,none⟩ (I x1)).setCell ⟨w.heap.size,k * 4 + 2,none⟩ (I x2)).setCell ⟨w.heap.size,k * 4 + 3,none⟩ (I x3)).ownsRow w.heap.size 67 4 (.slice (some ⟨w.heap.size,0,none⟩) xs.length xs.length) xs.length (fl cW (xs.take k') ++ J)) ∧ Below w.heap.size w ((((w2.setCell ⟨w.heap.size,k * 4,none⟩ (.bool x0)).setCell ⟨w.heap.size,k * 4 + 1,none⟩ (I x1)).setCell ⟨w.heap.size,k * 4 + 2,none⟩ (I x2)).setCell ⟨w.heap.size,k * 4 + 3,none⟩ (I x3))) :=
    ⟨k + 1,by omega,by go_num,⟨_,hs⟩,((((hbel2.setCell (Nat.le_refl _) _).setCell (Nat.le_refl _) _).setCell (Nat.le_refl _) _).setCell (Nat.le_refl _) _)⟩
   have hll : (fl cW (xs.take k) ++ J).length = xs.length * 4:=hown2.1
   have u0 : w2.cell? ⟨w.heap.size,k * 4,none⟩ = some (fl cW (xs.take k) ++ J)[k * 4]:=by rw [hown2.cellAt _ (by omega)]; exact List.getElem?_eq_getElem (by omega)
   have f0:=hown2.frozenAt (k * 4)
   have u1 : w2.cell? ⟨w.heap.size,k * 4 + 1,none⟩ = some (fl cW (xs.take k) ++ J)[k * 4 + 1]:=by rw [hown2.cellAt _ (by omega)]; exact List.getElem?_eq_getElem (by omega)
   have f1:=hown2.frozenAt (k * 4 + 1)
   have u2 : w2.cell? ⟨w.heap.size,k * 4 + 2,none⟩ = some (fl cW (xs.take k) ++ J)[k * 4 + 2]:=by rw [hown2.cellAt _ (by omega)]; exact List.getElem?_eq_getElem (by omega)
   have f2:=hown2.frozenAt (k * 4 + 2)
   have u3 : w2.cell? ⟨w.heap.size,k * 4 + 3,none⟩ = some (fl cW (xs.take k) ++ J)[k * 4 + 3]:=by rw [hown2.cellAt _ (by omega)]; exact List.getElem?_eq_getElem (by omega)
   have f3:=hown2.frozenAt (k * 4 + 3)
   have hlt2 : (k : Int) < (xs.length : Int):=by omega
   clear hown2 hbel2 hs hp hsn
   generalize (fl cW (xs.take k) ++ J)[k * 4] = q0 at u0
   generalize (fl cW (xs.take k) ++ J)[k * 4 + 1] = q1 at u1
   generalize (fl cW (xs.take k) ++ J)[k * 4 + 2] = q2 at u2
   generalize (fl cW (xs.take k) ++ J)[k * 4 + 3] = q3 at u3
   clear hll hJ
   go_wp2
   go_roundw
   case rel => exact HS.out
   case measure => simp [intOf]; omega
  ·obtain rfl : k = xs.length:=by omega
   have hj0 : J = []:=List.length_eq_zero_iff.1 (by omega)
   subst hj0
   rw [List.take_length,List.append_nil] at hown
   go_wp2
   go_ret
   exact ⟨rfl,hown,hbel⟩
theorem toSW_u (r : Rw TW) (w : World) (hd : RpW w r) (hl : rtW r ≤ 1048576) : Calls Tryz.prog 33 #[.slice r.1 r.2.2.length r.2.1] w fun en w' => ∃ y : Rw TW,en = .returned (.slice y.1 y.2.2.length y.2.1) ∧ rsW y = rsW r ∧ RoW w.heap.size w' y ∧ Below w.heap.size w w' :=
 (toSW_is r.1 r.2.1 r.2.2 w hd (Nat.le_trans (rtW_len r) hl)).mono fun e w' h => ⟨(some ⟨w.heap.size,0,none⟩,r.2.2.length,r.2.2),h.1,rfl,h.2.1,h.2.2⟩
set_option maxRecDepth 100000 in
theorem eqW_is (x0 : Bool) (x1 : Int) (x2 : Int) (x3 : Int) (w : World) : Calls Tryz.prog 85 #[.agg #[.bool x0,I x1,I x2,I x3],.agg #[.bool x0,I x1,I x2,I x3]] w fun e w' => e = .returned (.bool true) ∧ Below w.heap.size w w':=by
 have hb0 : Below w.heap.size w ((w.alloc (.cells #[.bool x0,I x1,I x2,I x3] 67)).alloc (.cells #[.bool x0,I x1,I x2,I x3] 67)):=((Below.refl _ _).alloc (Nat.le_refl _) _).alloc (by simp) _
 go_enter Tryz.func85,Tryz.ntmps85
 go_wp2
 go_ret
 exact ⟨rfl,hb0⟩
set_option maxRecDepth 100000 in
set_option maxHeartbeats 1600000 in
theorem eqSW_is (a b : Option Addr) (ca cb : Nat) (xs : List TW) (w : World) (ha : FRow 4 cW w a xs) (hb : FRow 4 cW w b xs) (hl : xs.length ≤ 1048576) :
  Calls Tryz.prog 43 #[.slice a xs.length ca,.slice b xs.length cb] w fun e w' => e = .returned (.bool true) ∧ Below w.heap.size w w':=by
 go_enter Tryz.func43,Tryz.ntmps43
 go_wp2
 go_loopw [5] (fun i wr => ∃ k : Nat,k ≤ xs.length ∧ i = I k ∧ Below w.heap.size w wr) (fun i _ => xs.length - (intOf i).toNat)
 case atStart => exact ⟨0,by omega,rfl,Below.refl _ _⟩
 case round =>
  obtain ⟨k,hk,rfl,hbel⟩:=hrel
  by_cases hlt : k < xs.length
  ·obtain ⟨b1,o1,rfl,l1,h⟩:=ha k hlt
   obtain ⟨b2,o2,rfl,l2,g⟩:=hb k hlt
   have hlt2 : (k : Int) < (xs.length : Int):=by omega
   have m1 : b1 < wr.drew.heap.size:=Nat.lt_of_lt_of_le l1 hbel.size
   have m2 : b2 < wr.drew.heap.size:=Nat.lt_of_lt_of_le l2 hbel.size
   have BD:=hbel.drew
   have h0 : wr.drew.cell? ⟨b1,o1 + k * 4,none⟩ = some (.bool xs[k].1):=(hbel.cell (p:=⟨b1,o1 + k * 4,none⟩) l1).trans (h 0 _ rfl)
   have h1 : wr.drew.cell? ⟨b1,o1 + k * 4 + 1,none⟩ = some (I xs[k].2.1):=(hbel.cell (p:=⟨b1,o1 + k * 4 + 1,none⟩) l1).trans (h 1 _ rfl)
   have h2 : wr.drew.cell? ⟨b1,o1 + k * 4 + 2,none⟩ = some (I xs[k].2.2.1):=(hbel.cell (p:=⟨b1,o1 + k * 4 + 2,none⟩) l1).trans (h 2 _ rfl)
   have h3 : wr.drew.cell? ⟨b1,o1 + k * 4 + 3,none⟩ = some (I xs[k].2.2.2):=(hbel.cell (p:=⟨b1,o1 + k * 4 + 3,none⟩) l1).trans (h 3 _ rfl)
   have g0 : wr.drew.cell? ⟨b2,o2 + k * 4,none⟩ = some (.bool xs[k].1):=(hbel.cell (p:=⟨b2,o2 + k * 4,none⟩) l2).trans (g 0 _ rfl)
   have g1 : wr.drew.cell? ⟨b2,o2 + k * 4 + 1,none⟩ = some (I xs[k].2.1):=(hbel.cell (p:=⟨b2,o2 + k * 4 + 1,none⟩) l2).trans (g 1 _ rfl)
   have g2 : wr.drew.cell? ⟨b2,o2 + k * 4 + 2,none⟩ = some (I xs[k].2.2.1):=(hbel.cell (p:=⟨b2,o2 + k * 4 + 2,none⟩) l2).trans (g 2 _ rfl)
   have g3 : wr.drew.cell? ⟨b2,o2 + k * 4 + 3,none⟩ = some (I xs[k].2.2.2):=(hbel.cell (p:=⟨b2,o2 + k * 4 + 3,none⟩) l2).trans (g 3 _ rfl)
   generalize xs[k].1 = x0 at h0 g0
   generalize xs[k].2.1 = x1 at h1 g1
   generalize xs[k].2.2.1 = x2 at h2 g2
   generalize xs[k].2.2.2 = x3 at h3 g3
   clear ha hb h g
   go_wp2_with fail
   refine wp_region_held_drew (S:=(fun V : World => V.cell? ⟨b1,o1 + k * 4,none⟩ = some (.bool x0) ∧ V.cell? ⟨b1,o1 + k * 4 + 1,none⟩ = some (I x1) ∧ V.cell? ⟨b1,o1 + k * 4 + 2,none⟩ = some (I x2) ∧ V.cell? ⟨b1,o1 + k * 4 + 3,none⟩ = some (I x3) ∧ V.cell? ⟨b2,o2 + k * 4,none⟩ = some (.bool x0) ∧ V.cell? ⟨b2,o2 + k * 4 + 1,none⟩ = some (I x1) ∧ V.cell? ⟨b2,o2 + k * 4 + 2,none⟩ = some (I x2) ∧ V.cell? ⟨b2,o2 + k * 4 + 3,none⟩ = some (I x3))) (by kernel_rfl) ⟨h0,h1,h2,h3,g0,g1,g2,g3⟩ (fun hHeld => ?_)
   refine tk 0 17 rfl _ hHeld (by intro w' h; (try dsimp only at h); obtain ⟨c0,c1,c2,c3,c4,c5,c6,c7⟩:=h; go_simp; try with_reducible rfl) ?_
   try simp only [Act.put,pa,pb,pc]
   refine tk 1 18 rfl _ hHeld (by intro w' h; (try dsimp only at h); obtain ⟨c0,c1,c2,c3,c4,c5,c6,c7⟩:=h; go_simp; try with_reducible rfl) ?_
   try simp only [Act.put,pa,pb,pc]
   refine tk 2 19 rfl _ hHeld (by intro w' h; (try dsimp only at h); obtain ⟨c0,c1,c2,c3,c4,c5,c6,c7⟩:=h; go_simp; try with_reducible rfl) ?_
   try simp only [Act.put,pa,pb,pc]
   refine tk 3 20 rfl _ hHeld (by intro w' h; (try dsimp only at h); obtain ⟨c0,c1,c2,c3,c4,c5,c6,c7⟩:=h; go_simp; try with_reducible rfl) ?_
   try simp only [Act.put,pa,pb,pc]
   refine tk 4 21 rfl _ hHeld (by intro w' h; (try dsimp only at h); obtain ⟨c0,c1,c2,c3,c4,c5,c6,c7⟩:=h; go_simp; try with_reducible rfl) ?_
   try simp only [Act.put,pa,pb,pc]
   refine tk 5 22 rfl _ hHeld (by intro w' h; (try dsimp only at h); obtain ⟨c0,c1,c2,c3,c4,c5,c6,c7⟩:=h; go_simp; try with_reducible rfl) ?_
   try simp only [Act.put,pa,pb,pc]
   refine tk 6 23 rfl _ hHeld (by intro w' h; (try dsimp only at h); obtain ⟨c0,c1,c2,c3,c4,c5,c6,c7⟩:=h; go_simp; try with_reducible rfl) ?_
   try simp only [Act.put,pa,pb,pc]
   refine tk 7 24 rfl _ hHeld (by intro w' h; (try dsimp only at h); obtain ⟨c0,c1,c2,c3,c4,c5,c6,c7⟩:=h; go_simp; try with_reducible rfl) ?_
   try simp only [Act.put,pa,pb,pc]
   refine wpAnyH_ready (rs:=[8]) (by kernel_rfl) (by simp) ?_
   refine AllReadyH.cons (i:=8) rfl (fun K hK => ?_) AllReadyH.nil
   go_simp
   refine (eqW_is x0 x1 x2 x3 _).mono ?_
   rintro e w2 ⟨rfl,hb2⟩
   go_wp2_with fail
   refine hK.out _ _ ⟨(hb2.cell (p:=⟨b1,o1 + k * 4,none⟩) m1).trans h0,(hb2.cell (p:=⟨b1,o1 + k * 4 + 1,none⟩) m1).trans h1,(hb2.cell (p:=⟨b1,o1 + k * 4 + 2,none⟩) m1).trans h2,(hb2.cell (p:=⟨b1,o1 + k * 4 + 3,none⟩) m1).trans h3,(hb2.cell (p:=⟨b2,o2 + k * 4,none⟩) m2).trans g0,(hb2.cell (p:=⟨b2,o2 + k * 4 + 1,none⟩) m2).trans g1,(hb2.cell (p:=⟨b2,o2 + k * 4 + 2,none⟩) m2).trans g2,(hb2.cell (p:=⟨b2,o2 + k * 4 + 3,none⟩) m2).trans g3⟩ (fun hHeld2 => ?_)
   clear hK K hHeld
   have hHeld:=hHeld2
   clear hHeld2
   try simp only [Act.put,pa,pb,pc]
   refine tk 9 26 rfl _ hHeld (by intro w' h; (try dsimp only at h); obtain ⟨c0,c1,c2,c3,c4,c5,c6,c7⟩:=h; go_simp; try with_reducible rfl) ?_
   try simp only [Act.put,pa,pb,pc]
   refine wpAnyH_done (by kernel_rfl) ?_ _
   have B2:=BD.trans (hb2.mono BD.size)
   clear hHeld h0 h1 h2 h3 g0 g1 g2 g3
   go_wp2
   go_roundw
   case rel => exact ⟨k + 1,by omega,by go_num,B2⟩
   case measure => simp [intOf]; omega
  ·go_wp2
   go_ret
   exact ⟨rfl,hbel⟩
theorem eqSW_u (r q : Rw TW) (w : World) (hr : RpW w r) (hq : RpW w q) (hs : rsW r = rsW q) (hl : rtW r ≤ 1048576) : Calls Tryz.prog 43 #[.slice r.1 r.2.2.length r.2.1,.slice q.1 q.2.2.length q.2.1] w fun en w' => en = .returned (.bool true) ∧ Below w.heap.size w w':=by
 obtain ⟨a,c,xs⟩:=r
 obtain ⟨b,d,ys⟩:=q
 obtain rfl : xs = ys:=hs
 exact eqSW_is a b c d xs w hr hq (Nat.le_trans (rtW_len (a,c,xs)) hl)
end Go.Proofs.YtlmpfkbgknbcnaaGreat.Nd
