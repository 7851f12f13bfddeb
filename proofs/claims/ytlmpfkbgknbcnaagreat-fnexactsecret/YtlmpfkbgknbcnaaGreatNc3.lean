/- Events copied. -/
import Derived.Test.YtlmpfkbgknbcnaaGreatAb
import Derived.Test.YtlmpfkbgknbcnaaGreatNc2
set_option linter.unusedVariables false
set_option maxRecDepth 100000
namespace Go.Proofs.YtlmpfkbgknbcnaaGreat.Nd
open Go Go.RowKit Go.Joins Own Draw
theorem resE {fn : Func} {p : Tmp} (hres : fn.results = #[.cell p 106]) (tmps : Array Value) (w : World) (g : Nat) (v0 v1 v2 v3 v4 v5 v6 v7 v8 v9 v10 : Value) (hp : tmps.getD p undef = .pointer (some ⟨g,0,none⟩)) (h0 : w.cell? ⟨g,0,none⟩ = some v0) (h1 : w.cell? ⟨g,1,none⟩ = some v1) (h2 : w.cell? ⟨g,2,none⟩ = some v2) (h3 : w.cell? ⟨g,3,none⟩ = some v3) (h4 : w.cell? ⟨g,4,none⟩ = some v4) (h5 : w.cell? ⟨g,5,none⟩ = some v5) (h6 : w.cell? ⟨g,6,none⟩ = some v6) (h7 : w.cell? ⟨g,7,none⟩ = some v7) (h8 : w.cell? ⟨g,8,none⟩ = some v8) (h9 : w.cell? ⟨g,9,none⟩ = some v9) (h10 : w.cell? ⟨g,10,none⟩ = some v10) :
  (results fn tmps).run Tryz.prog w = .ok (.agg #[v0,v1,v2,v3,v4,v5,v6,v7,v8,v9,v10]) w:=by
 have hp' : tmps[p]?.getD undef = .pointer (some ⟨g,0,none⟩):=by simpa using hp
 unfold results
 rw [hres]
 go_simp
set_option maxRecDepth 100000 in
set_option maxHeartbeats 1600000 in
theorem toE_is (x0 : Int) (x1 : Int) (x2 : Int) (x3 : Int) (x4 : Int) (x5 : Int) (x6 : Int) (x7 : Int) (x8 : Int) (x9 : Int) (x10 : Int) (w : World) : Calls Tryz.prog 74 #[.agg #[I x0,I x1,I x2,I x3,I x4,I x5,I x6,I x7,I x8,I x9,I x10]] w fun e w' => e = .returned (.agg #[I x0,I x1,I x2,I x3,I x4,I x5,I x6,I x7,I x8,I x9,I x10]) ∧ Below w.heap.size w w':=by
 obtain ⟨W1,hW1⟩ : ∃ W1,((w.alloc (.cells #[I x0,I x1,I x2,I x3,I x4,I x5,I x6,I x7,I x8,I x9,I x10] 138)).alloc (.cells #[I 0,I 0,I 0,I 0,I 0,I 0,I 0,I 0,I 0,I 0,I 0] 106)).alloc (.cells #[I x0,I x1,I x2,I x3,I x4,I x5,I x6,I x7,I 0,I 0,I 0] 106) = W1:=⟨_,rfl⟩
 have B1 : Below w.heap.size w W1:=by rw [← hW1]; exact (((Below.refl _ _).alloc (Nat.le_refl _) _).alloc (by simp) _).alloc (by simp; omega) _
 have R1 : Blk (w.heap.size + 1) [I 0,I 0,I 0,I 0,I 0,I 0,I 0,I 0,I 0,I 0,I 0] W1:=by rw [← hW1]; have:=(Blk.new (w.alloc (.cells #[I x0,I x1,I x2,I x3,I x4,I x5,I x6,I x7,I x8,I x9,I x10] 138)) #[I 0,I 0,I 0,I 0,I 0,I 0,I 0,I 0,I 0,I 0,I 0] 106).alloc (by simp) (.cells #[I x0,I x1,I x2,I x3,I x4,I x5,I x6,I x7,I 0,I 0,I 0] 106); simpa using this
 have O1 : Blk (w.heap.size + 1 + 1) [I x0,I x1,I x2,I x3,I x4,I x5,I x6,I x7,I 0,I 0,I 0] W1:=by rw [← hW1]; have:=Blk.new ((w.alloc (.cells #[I x0,I x1,I x2,I x3,I x4,I x5,I x6,I x7,I x8,I x9,I x10] 138)).alloc (.cells #[I 0,I 0,I 0,I 0,I 0,I 0,I 0,I 0,I 0,I 0,I 0] 106)) #[I x0,I x1,I x2,I x3,I x4,I x5,I x6,I x7,I 0,I 0,I 0] 106; simpa using this
 have T1 : Blk w.heap.size [I x0,I x1,I x2,I x3,I x4,I x5,I x6,I x7,I x8,I x9,I x10] W1:=by rw [← hW1]; exact ((Blk.new w #[I x0,I x1,I x2,I x3,I x4,I x5,I x6,I x7,I x8,I x9,I x10] 138).alloc (by simp) _).alloc (by simp; omega) _
 have Z1 : Hid (w.heap.size + 3 ≤ W1.heap.size):=by show _ ≤ _; rw [← hW1]; simp
 have z8:=T1.at 8 rfl
 have z9:=T1.at 9 rfl
 have z10:=T1.at 10 rfl
 go_enter Tryz.func74,Tryz.ntmps74
 go_wp2_with fail
 try rw [hW1]
 refine (toR_is x8 x9 x10 W1).mono ?_
 clear hW1 z8 z9 z10
 rintro e w2 ⟨rfl,hb⟩
 have B2:=B1.trans (hb.mono B1.size)
 have T2:=T1.later hb (by have:=Z1.out; omega)
 have R2:=R1.later hb (by have:=Z1.out; omega)
 have O2:=O1.later hb (by have:=Z1.out; omega)
 have F : Hid (Blk (w.heap.size + 1) [I x0,I x1,I x2,I x3,I x4,I x5,I x6,I x7,I x8,I x9,I x10] ((((((((((((((w2.setCell ⟨w.heap.size + 1 + 1,8,none⟩ (I x8)).setCell ⟨w.heap.size + 1 + 1,9,none⟩ (I x9)).setCell ⟨w.heap.size + 1 + 1,10,none⟩ (I x10)).setCell ⟨w.heap.size + 1,0,none⟩ (I x0)).setCell ⟨w.heap.size + 1,1,none⟩ (I x1)).setCell ⟨w.heap.size + 1,2,none⟩ (I x2)).setCell ⟨w.heap.size + 1,3,none⟩ (I x3)).setCell ⟨w.heap.size + 1,4,none⟩ (I x4)).setCell ⟨w.heap.size + 1,5,none⟩ (I x5)).setCell ⟨w.heap.size + 1,6,none⟩ (I x6)).setCell ⟨w.heap.size + 1,7,none⟩ (I x7)).setCell ⟨w.heap.size + 1,8,none⟩ (I x8)).setCell ⟨w.heap.size + 1,9,none⟩ (I x9)).setCell ⟨w.heap.size + 1,10,none⟩ (I x10)) ∧ Below w.heap.size w ((((((((((((((w2.setCell ⟨w.heap.size + 1 + 1,8,none⟩ (I x8)).setCell ⟨w.heap.size + 1 + 1,9,none⟩ (I x9)).setCell ⟨w.heap.size + 1 + 1,10,none⟩ (I x10)).setCell ⟨w.heap.size + 1,0,none⟩ (I x0)).setCell ⟨w.heap.size + 1,1,none⟩ (I x1)).setCell ⟨w.heap.size + 1,2,none⟩ (I x2)).setCell ⟨w.heap.size + 1,3,none⟩ (I x3)).setCell ⟨w.heap.size + 1,4,none⟩ (I x4)).setCell ⟨w.heap.size + 1,5,none⟩ (I x5)).setCell ⟨w.heap.size + 1,6,none⟩ (I x6)).setCell ⟨w.heap.size + 1,7,none⟩ (I x7)).setCell ⟨w.heap.size + 1,8,none⟩ (I x8)).setCell ⟨w.heap.size + 1,9,none⟩ (I x9)).setCell ⟨w.heap.size + 1,10,none⟩ (I x10))):=⟨((((((((((((((R2.far (g':=w.heap.size + 1 + 1) (by omega) 8 (I x8)).far (g':=w.heap.size + 1 + 1) (by omega) 9 (I x9)).far (g':=w.heap.size + 1 + 1) (by omega) 10 (I x10)).set 0 (I x0)).set 1 (I x1)).set 2 (I x2)).set 3 (I x3)).set 4 (I x4)).set 5 (I x5)).set 6 (I x6)).set 7 (I x7)).set 8 (I x8)).set 9 (I x9)).set 10 (I x10)),((((((((((((((B2.setCell (by dsimp only; omega) _).setCell (by dsimp only; omega) _).setCell (by dsimp only; omega) _).setCell (by dsimp only; omega) _).setCell (by dsimp only; omega) _).setCell (by dsimp only; omega) _).setCell (by dsimp only; omega) _).setCell (by dsimp only; omega) _).setCell (by dsimp only; omega) _).setCell (by dsimp only; omega) _).setCell (by dsimp only; omega) _).setCell (by dsimp only; omega) _).setCell (by dsimp only; omega) _).setCell (by dsimp only; omega) _)⟩
 clear B1 T1 R1 O1 Z1 hb B2
 have o0:=O2.at 0 rfl
 have r0:=R2.at 0 rfl
 have q0:=R2.fz 0 rfl
 have o1:=O2.at 1 rfl
 have r1:=R2.at 1 rfl
 have q1:=R2.fz 1 rfl
 have o2:=O2.at 2 rfl
 have r2:=R2.at 2 rfl
 have q2:=R2.fz 2 rfl
 have o3:=O2.at 3 rfl
 have r3:=R2.at 3 rfl
 have q3:=R2.fz 3 rfl
 have o4:=O2.at 4 rfl
 have r4:=R2.at 4 rfl
 have q4:=R2.fz 4 rfl
 have o5:=O2.at 5 rfl
 have r5:=R2.at 5 rfl
 have q5:=R2.fz 5 rfl
 have o6:=O2.at 6 rfl
 have r6:=R2.at 6 rfl
 have q6:=R2.fz 6 rfl
 have o7:=O2.at 7 rfl
 have r7:=R2.at 7 rfl
 have q7:=R2.fz 7 rfl
 have o8:=O2.at 8 rfl
 have p8:=O2.fz 8 rfl
 have r8:=R2.at 8 rfl
 have q8:=R2.fz 8 rfl
 have o9:=O2.at 9 rfl
 have p9:=O2.fz 9 rfl
 have r9:=R2.at 9 rfl
 have q9:=R2.fz 9 rfl
 have o10:=O2.at 10 rfl
 have p10:=O2.fz 10 rfl
 have r10:=R2.at 10 rfl
 have q10:=R2.fz 10 rfl
 clear T2 R2 O2
 go_wp2
 have G:=F.out
 exact bodyPost_ret (resE rfl _ _ (w.heap.size + 1) _ _ _ _ _ _ _ _ _ _ _ rfl (G.1.at 0 rfl) (G.1.at 1 rfl) (G.1.at 2 rfl) (G.1.at 3 rfl) (G.1.at 4 rfl) (G.1.at 5 rfl) (G.1.at 6 rfl) (G.1.at 7 rfl) (G.1.at 8 rfl) (G.1.at 9 rfl) (G.1.at 10 rfl)) rfl ⟨rfl,G.2⟩
theorem infoE : (Tryz.prog.info? 106).map (fun i => (i.zero,i.size,i.bytes)) = some (some (.agg #[I 0,I 0,I 0,I 0,I 0,I 0,I 0,I 0,I 0,I 0,I 0]),11,88):=by kernel_rfl
set_option maxRecDepth 100000 in
set_option maxHeartbeats 1600000 in
theorem toSE_is (a : Option Addr) (cap : Nat) (xs : List TE) (w : World) (hr : FRow 11 cE w a xs) (hl : xs.length ≤ 1048576) :
  Calls Tryz.prog 36 #[.slice a xs.length cap] w fun e w' => e = .returned (.slice (some ⟨w.heap.size,0,none⟩) xs.length xs.length) ∧ FOwn 106 11 cE w.heap.size (some ⟨w.heap.size,0,none⟩) xs.length xs w' ∧ Below w.heap.size w w':=by
 obtain ⟨i0,hi,hz0,hz1,hz2⟩:=info_parts infoE
 go_enter Tryz.func36,Tryz.ntmps36
 go_wp2_with (first | (at_make; refine wpList_make_full _ rfl _ _ 45 rfl w.heap.size 106 i0 (.agg #[I 0,I 0,I 0,I 0,I 0,I 0,I 0,I 0,I 0,I 0,I 0]) 11 Tryz.underlying45 hi hz0 hz1 .i64 .i64 xs.length xs.length xs.length rfl rfl rfl rfl (by rw [hz2]; omega) (by unfold maxLen; omega) (Nat.le_refl _) ?_) | go_in)
 intro w1 hown hgrow
 have hbel:=(Below.refl w.heap.size w).grown hgrow (Nat.le_refl _) (by simp)
 clear hgrow
 have H0 : ∃ J : List Value,w1.ownsRow w.heap.size 106 11 (.slice (some ⟨w.heap.size,0,none⟩) xs.length xs.length) xs.length (fl cE (xs.take 0) ++ J):=⟨_,hown⟩
 clear hown
 go_wp2
 go_loopw [4] (fun i wr => ∃ k : Nat,k ≤ xs.length ∧ i = I k ∧ (∃ J : List Value,wr.ownsRow w.heap.size 106 11 (.slice (some ⟨w.heap.size,0,none⟩) xs.length xs.length) xs.length (fl cE (xs.take k) ++ J)) ∧ Below w.heap.size w wr) (fun i _ => xs.length - (intOf i).toNat)
 case atStart => exact ⟨0,by omega,rfl,H0,hbel⟩
 case round =>
  clear H0 hbel
  obtain ⟨k,hk,rfl,⟨J,hown⟩,hbel⟩:=hrel
  have hJ : k * 11 + J.length = xs.length * 11:=by have:=hown.1; rw [List.length_append,fl_len lE,List.length_take,Nat.min_eq_left hk] at this; exact this
  by_cases hlt : k < xs.length
  ·obtain ⟨b,off,rfl,hbl,hc⟩:=hr k hlt
   have h0 : wr.cell? ⟨b,off + k * 11,none⟩ = some (I xs[k].1):=(hbel.cell (p:=⟨b,off + k * 11,none⟩) hbl).trans (hc 0 _ rfl)
   have h1 : wr.cell? ⟨b,off + k * 11 + 1,none⟩ = some (I xs[k].2.1):=(hbel.cell (p:=⟨b,off + k * 11 + 1,none⟩) hbl).trans (hc 1 _ rfl)
   have h2 : wr.cell? ⟨b,off + k * 11 + 2,none⟩ = some (I xs[k].2.2.1):=(hbel.cell (p:=⟨b,off + k * 11 + 2,none⟩) hbl).trans (hc 2 _ rfl)
   have h3 : wr.cell? ⟨b,off + k * 11 + 3,none⟩ = some (I xs[k].2.2.2.1):=(hbel.cell (p:=⟨b,off + k * 11 + 3,none⟩) hbl).trans (hc 3 _ rfl)
   have h4 : wr.cell? ⟨b,off + k * 11 + 4,none⟩ = some (I xs[k].2.2.2.2.1):=(hbel.cell (p:=⟨b,off + k * 11 + 4,none⟩) hbl).trans (hc 4 _ rfl)
   have h5 : wr.cell? ⟨b,off + k * 11 + 5,none⟩ = some (I xs[k].2.2.2.2.2.1):=(hbel.cell (p:=⟨b,off + k * 11 + 5,none⟩) hbl).trans (hc 5 _ rfl)
   have h6 : wr.cell? ⟨b,off + k * 11 + 6,none⟩ = some (I xs[k].2.2.2.2.2.2.1):=(hbel.cell (p:=⟨b,off + k * 11 + 6,none⟩) hbl).trans (hc 6 _ rfl)
   have h7 : wr.cell? ⟨b,off + k * 11 + 7,none⟩ = some (I xs[k].2.2.2.2.2.2.2.1):=(hbel.cell (p:=⟨b,off + k * 11 + 7,none⟩) hbl).trans (hc 7 _ rfl)
   have h8 : wr.cell? ⟨b,off + k * 11 + 8,none⟩ = some (I xs[k].2.2.2.2.2.2.2.2.1):=(hbel.cell (p:=⟨b,off + k * 11 + 8,none⟩) hbl).trans (hc 8 _ rfl)
   have h9 : wr.cell? ⟨b,off + k * 11 + 9,none⟩ = some (I xs[k].2.2.2.2.2.2.2.2.2.1):=(hbel.cell (p:=⟨b,off + k * 11 + 9,none⟩) hbl).trans (hc 9 _ rfl)
   have h10 : wr.cell? ⟨b,off + k * 11 + 10,none⟩ = some (I xs[k].2.2.2.2.2.2.2.2.2.2):=(hbel.cell (p:=⟨b,off + k * 11 + 10,none⟩) hbl).trans (hc 10 _ rfl)
   clear hr hc
   have hsn : xs.take k ++ [(xs[k].1,xs[k].2.1,xs[k].2.2.1,xs[k].2.2.2.1,xs[k].2.2.2.2.1,xs[k].2.2.2.2.2.1,xs[k].2.2.2.2.2.2.1,xs[k].2.2.2.2.2.2.2.1,xs[k].2.2.2.2.2.2.2.2.1,xs[k].2.2.2.2.2.2.2.2.2.1,xs[k].2.2.2.2.2.2.2.2.2.2)] = xs.take (k + 1):=(List.take_succ_eq_append_getElem hlt).symm
   generalize xs[k].1 = x0 at h0 hsn
   generalize xs[k].2.1 = x1 at h1 hsn
   generalize xs[k].2.2.1 = x2 at h2 hsn
   generalize xs[k].2.2.2.1 = x3 at h3 hsn
   generalize xs[k].2.2.2.2.1 = x4 at h4 hsn
   generalize xs[k].2.2.2.2.2.1 = x5 at h5 hsn
   generalize xs[k].2.2.2.2.2.2.1 = x6 at h6 hsn
   generalize xs[k].2.2.2.2.2.2.2.1 = x7 at h7 hsn
   generalize xs[k].2.2.2.2.2.2.2.2.1 = x8 at h8 hsn
   generalize xs[k].2.2.2.2.2.2.2.2.2.1 = x9 at h9 hsn
   generalize xs[k].2.2.2.2.2.2.2.2.2.2 = x10 at h10 hsn
   go_wp2_with fail
   refine (toE_is x0 x1 x2 x3 x4 x5 x6 x7 x8 x9 x10 _).mono ?_
   rintro e w2 ⟨rfl,hb2⟩
   have hown2:=own_later hown hb2
   have hbel2:=hbel.trans (hb2.mono hbel.size)
   clear h0 h1 h2 h3 h4 h5 h6 h7 h8 h9 h10 hown hbel hb2
   have hs:=(((((((((((hown2.stored (k * 11) (I x0)).1.stored (k * 11 + 1) (I x1)).1.stored (k * 11 + 2) (I x2)).1.stored (k * 11 + 3) (I x3)).1.stored (k * 11 + 4) (I x4)).1.stored (k * 11 + 5) (I x5)).1.stored (k * 11 + 6) (I x6)).1.stored (k * 11 + 7) (I x7)).1.stored (k * 11 + 8) (I x8)).1.stored (k * 11 + 9) (I x9)).1.stored (k * 11 + 10) (I x10)).1
   have hp : ((((((((((((fl cE (xs.take k) ++ J)).set (k * 11) (I x0)).set (k * 11 + 1) (I x1)).set (k * 11 + 2) (I x2)).set (k * 11 + 3) (I x3)).set (k * 11 + 4) (I x4)).set (k * 11 + 5) (I x5)).set (k * 11 + 6) (I x6)).set (k * 11 + 7) (I x7)).set (k * 11 + 8) (I x8)).set (k * 11 + 9) (I x9)).set (k * 11 + 10) (I x10) = fl cE (xs.take k ++ [(x0,x1,x2,x3,x4,x5,x6,x7,x8,x9,x10)]) ++ J.drop 11:=by
    have:=fl_put (f:=cE) lE (xs.take k) J (x0,x1,x2,x3,x4,x5,x6,x7,x8,x9,x10) (by omega)
    rw [List.length_take,Nat.min_eq_left hk] at this
    exact this
   rw [hp,hsn] at hs
   have HS : Hid (∃ k' : Nat,k' ≤ xs.length ∧ Value.int .i64 ((k : Int) + 1) = I k' ∧ (∃ J : List Value,(((((((((((w2.setCell ⟨w.heap.size,k * 11,none⟩ (I x0)).setCell ⟨w.heap.size,k * 11 + 1,none⟩ (I x1)).setCell ⟨w.heap.size,k * 11 + 2,none⟩ (I x2)).setCell ⟨w.heap.size,k * 11 + 3,none⟩ (I x3)).setCell ⟨w.heap.size,k * 11 + 4,none⟩ (I x4)).setCell ⟨w.heap.size,k * 11 + 5,none⟩ (I x5)).setCell ⟨w.heap.size,k * 11 + 6,none⟩ (I x6)).setCell ⟨w.heap.size,k * 11 + 7,none⟩ (I x7)).setCell ⟨w.heap.size,k * 11 + 8,none⟩ (I x8)).setCell ⟨w.heap.size,k * 11 + 9,none⟩ (I x9)).setCell ⟨w.heap.size,k * 11 + 10,none⟩ (I x10)).ownsRow w.heap.size 106 11 (.slice (some ⟨w.heap.size,0,none⟩) xs.length xs.length) xs.length (fl cE (xs.take k') ++ J)) ∧ Below w.heap.size w (((((((((((w2.setCell ⟨w.heap.size,k * 11,none⟩ (I x0)).setCell ⟨w.heap.size,k * 11 + 1,none⟩ (I x1)).setCell ⟨w.heap.size,k * 11 + 2,none⟩ (I x2)).setCell ⟨w.heap.size,k * 11 + 3,none⟩ (I x3)).setCell ⟨w.heap.size,k * 11 + 4,none⟩ (I x4)).setCell ⟨w.heap.size,k * 11 + 5,none⟩ (I x5)).setCell ⟨w.heap.size,k * 11 + 6,none⟩ (I x6)).setCell ⟨w.heap.size,k * 11 + 7,none⟩ (I x7)).setCell ⟨w.heap.size,k * 11 + 8,none⟩ (I x8)).setCell ⟨w.heap.size,k * 11 + 9,none⟩ (I x9)).setCell ⟨w.heap.size,k * 11 + 10,none⟩ (I x10))) :=
    ⟨k + 1,by omega,by go_num,⟨_,hs⟩,(((((((((((hbel2.setCell (Nat.le_refl _) _).setCell (Nat.le_refl _) _).setCell (Nat.le_refl _) _).setCell (Nat.le_refl _) _).setCell (Nat.le_refl _) _).setCell (Nat.le_refl _) _).setCell (Nat.le_refl _) _).setCell (Nat.le_refl _) _).setCell (Nat.le_refl _) _).setCell (Nat.le_refl _) _).setCell (Nat.le_refl _) _)⟩
   have hll : (fl cE (xs.take k) ++ J).length = xs.length * 11:=hown2.1
   have u0 : w2.cell? ⟨w.heap.size,k * 11,none⟩ = some (fl cE (xs.take k) ++ J)[k * 11]:=by rw [hown2.cellAt _ (by omega)]; exact List.getElem?_eq_getElem (by omega)
   have f0:=hown2.frozenAt (k * 11)
   have u1 : w2.cell? ⟨w.heap.size,k * 11 + 1,none⟩ = some (fl cE (xs.take k) ++ J)[k * 11 + 1]:=by rw [hown2.cellAt _ (by omega)]; exact List.getElem?_eq_getElem (by omega)
   have f1:=hown2.frozenAt (k * 11 + 1)
   have u2 : w2.cell? ⟨w.heap.size,k * 11 + 2,none⟩ = some (fl cE (xs.take k) ++ J)[k * 11 + 2]:=by rw [hown2.cellAt _ (by omega)]; exact List.getElem?_eq_getElem (by omega)
   have f2:=hown2.frozenAt (k * 11 + 2)
   have u3 : w2.cell? ⟨w.heap.size,k * 11 + 3,none⟩ = some (fl cE (xs.take k) ++ J)[k * 11 + 3]:=by rw [hown2.cellAt _ (by omega)]; exact List.getElem?_eq_getElem (by omega)
   have f3:=hown2.frozenAt (k * 11 + 3)
   have u4 : w2.cell? ⟨w.heap.size,k * 11 + 4,none⟩ = some (fl cE (xs.take k) ++ J)[k * 11 + 4]:=by rw [hown2.cellAt _ (by omega)]; exact List.getElem?_eq_getElem (by omega)
   have f4:=hown2.frozenAt (k * 11 + 4)
   have u5 : w2.cell? ⟨w.heap.size,k * 11 + 5,none⟩ = some (fl cE (xs.take k) ++ J)[k * 11 + 5]:=by rw [hown2.cellAt _ (by omega)]; exact List.getElem?_eq_getElem (by omega)
   have f5:=hown2.frozenAt (k * 11 + 5)
   have u6 : w2.cell? ⟨w.heap.size,k * 11 + 6,none⟩ = some (fl cE (xs.take k) ++ J)[k * 11 + 6]:=by rw [hown2.cellAt _ (by omega)]; exact List.getElem?_eq_getElem (by omega)
   have f6:=hown2.frozenAt (k * 11 + 6)
   have u7 : w2.cell? ⟨w.heap.size,k * 11 + 7,none⟩ = some (fl cE (xs.take k) ++ J)[k * 11 + 7]:=by rw [hown2.cellAt _ (by omega)]; exact List.getElem?_eq_getElem (by omega)
   have f7:=hown2.frozenAt (k * 11 + 7)
   have u8 : w2.cell? ⟨w.heap.size,k * 11 + 8,none⟩ = some (fl cE (xs.take k) ++ J)[k * 11 + 8]:=by rw [hown2.cellAt _ (by omega)]; exact List.getElem?_eq_getElem (by omega)
   have f8:=hown2.frozenAt (k * 11 + 8)
   have u9 : w2.cell? ⟨w.heap.size,k * 11 + 9,none⟩ = some (fl cE (xs.take k) ++ J)[k * 11 + 9]:=by rw [hown2.cellAt _ (by omega)]; exact List.getElem?_eq_getElem (by omega)
   have f9:=hown2.frozenAt (k * 11 + 9)
   have u10 : w2.cell? ⟨w.heap.size,k * 11 + 10,none⟩ = some (fl cE (xs.take k) ++ J)[k * 11 + 10]:=by rw [hown2.cellAt _ (by omega)]; exact List.getElem?_eq_getElem (by omega)
   have f10:=hown2.frozenAt (k * 11 + 10)
   have hlt2 : (k : Int) < (xs.length : Int):=by omega
   clear hown2 hbel2 hs hp hsn
   generalize (fl cE (xs.take k) ++ J)[k * 11] = q0 at u0
   generalize (fl cE (xs.take k) ++ J)[k * 11 + 1] = q1 at u1
   generalize (fl cE (xs.take k) ++ J)[k * 11 + 2] = q2 at u2
   generalize (fl cE (xs.take k) ++ J)[k * 11 + 3] = q3 at u3
   generalize (fl cE (xs.take k) ++ J)[k * 11 + 4] = q4 at u4
   generalize (fl cE (xs.take k) ++ J)[k * 11 + 5] = q5 at u5
   generalize (fl cE (xs.take k) ++ J)[k * 11 + 6] = q6 at u6
   generalize (fl cE (xs.take k) ++ J)[k * 11 + 7] = q7 at u7
   generalize (fl cE (xs.take k) ++ J)[k * 11 + 8] = q8 at u8
   generalize (fl cE (xs.take k) ++ J)[k * 11 + 9] = q9 at u9
   generalize (fl cE (xs.take k) ++ J)[k * 11 + 10] = q10 at u10
   clear hll hJ
   go_wp2
   go_roundw
   case rel => exact HS.out
   case measure => simp [intOf]; omega
  ·obtain rfl : k = xs.length:=by omega
   have hj0 : J = []:=List.length_eq_zero_iff.1 (by omega)
   subst hj0
   rw [List.take_length,List.append_nil] at hown
   go_wp2
   go_ret
   exact ⟨rfl,hown,hbel⟩
theorem toSE_u (r : Rw TE) (w : World) (hd : RpE w r) (hl : rtE r ≤ 1048576) : Calls Tryz.prog 36 #[.slice r.1 r.2.2.length r.2.1] w fun en w' => ∃ y : Rw TE,en = .returned (.slice y.1 y.2.2.length y.2.1) ∧ rsE y = rsE r ∧ RoE w.heap.size w' y ∧ Below w.heap.size w w' :=
 (toSE_is r.1 r.2.1 r.2.2 w hd (Nat.le_trans (rtE_len r) hl)).mono fun e w' h => ⟨(some ⟨w.heap.size,0,none⟩,r.2.2.length,r.2.2),h.1,rfl,h.2.1,h.2.2⟩
end Go.Proofs.YtlmpfkbgknbcnaaGreat.Nd
