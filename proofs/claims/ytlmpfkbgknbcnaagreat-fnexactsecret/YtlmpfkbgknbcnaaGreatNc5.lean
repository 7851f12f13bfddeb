/- Creds copied and compared. -/
import Derived.Test.YtlmpfkbgknbcnaaGreatAb
import Derived.Test.YtlmpfkbgknbcnaaGreatNc2
set_option linter.unusedVariables false
set_option maxRecDepth 100000
namespace Go.Proofs.YtlmpfkbgknbcnaaGreat.Nd
open Go Go.RowKit Go.Joins Own Draw
theorem resC {fn : Func} {p : Tmp} (hres : fn.results = #[.cell p 72]) (tmps : Array Value) (w : World) (g : Nat) (v0 v1 v2 v3 v4 v5 v6 v7 : Value) (hp : tmps.getD p undef = .pointer (some ⟨g,0,none⟩)) (h0 : w.cell? ⟨g,0,none⟩ = some v0) (h1 : w.cell? ⟨g,1,none⟩ = some v1) (h2 : w.cell? ⟨g,2,none⟩ = some v2) (h3 : w.cell? ⟨g,3,none⟩ = some v3) (h4 : w.cell? ⟨g,4,none⟩ = some v4) (h5 : w.cell? ⟨g,5,none⟩ = some v5) (h6 : w.cell? ⟨g,6,none⟩ = some v6) (h7 : w.cell? ⟨g,7,none⟩ = some v7) :
  (results fn tmps).run Tryz.prog w = .ok (.agg #[v0,v1,v2,v3,v4,v5,v6,v7]) w:=by
 have hp' : tmps[p]?.getD undef = .pointer (some ⟨g,0,none⟩):=by simpa using hp
 unfold results
 rw [hres]
 go_simp
set_option maxRecDepth 100000 in
set_option maxHeartbeats 1600000 in
theorem toC_is (x0 : Int) (x1 : Int) (x2 : Int) (x3 : Int) (x4 : Int) (x5 : Int) (x6 : Int) (x7 : ByteArray) (w : World) : Calls Tryz.prog 72 #[.agg #[I x0,I x1,I x2,I x3,I x4,I x5,I x6,.string x7]] w fun e w' => e = .returned (.agg #[I x0,I x1,I x2,I x3,I x4,I x5,I x6,.string x7]) ∧ Below w.heap.size w w':=by
 obtain ⟨W1,hW1⟩ : ∃ W1,((w.alloc (.cells #[I x0,I x1,I x2,I x3,I x4,I x5,I x6,.string x7] 115)).alloc (.cells #[I 0,I 0,I 0,I 0,I 0,I 0,I 0,.string ⟨#[]⟩] 72)).alloc (.cells #[I x0,I x1,I x2,I x3,I 0,I 0,I 0,.string ⟨#[]⟩] 72) = W1:=⟨_,rfl⟩
 have B1 : Below w.heap.size w W1:=by rw [← hW1]; exact (((Below.refl _ _).alloc (Nat.le_refl _) _).alloc (by simp) _).alloc (by simp; omega) _
 have R1 : Blk (w.heap.size + 1) [I 0,I 0,I 0,I 0,I 0,I 0,I 0,.string ⟨#[]⟩] W1:=by rw [← hW1]; have:=(Blk.new (w.alloc (.cells #[I x0,I x1,I x2,I x3,I x4,I x5,I x6,.string x7] 115)) #[I 0,I 0,I 0,I 0,I 0,I 0,I 0,.string ⟨#[]⟩] 72).alloc (by simp) (.cells #[I x0,I x1,I x2,I x3,I 0,I 0,I 0,.string ⟨#[]⟩] 72); simpa using this
 have O1 : Blk (w.heap.size + 1 + 1) [I x0,I x1,I x2,I x3,I 0,I 0,I 0,.string ⟨#[]⟩] W1:=by rw [← hW1]; have:=Blk.new ((w.alloc (.cells #[I x0,I x1,I x2,I x3,I x4,I x5,I x6,.string x7] 115)).alloc (.cells #[I 0,I 0,I 0,I 0,I 0,I 0,I 0,.string ⟨#[]⟩] 72)) #[I x0,I x1,I x2,I x3,I 0,I 0,I 0,.string ⟨#[]⟩] 72; simpa using this
 have T1 : Blk w.heap.size [I x0,I x1,I x2,I x3,I x4,I x5,I x6,.string x7] W1:=by rw [← hW1]; exact ((Blk.new w #[I x0,I x1,I x2,I x3,I x4,I x5,I x6,.string x7] 115).alloc (by simp) _).alloc (by simp; omega) _
 have Z1 : Hid (w.heap.size + 3 ≤ W1.heap.size):=by show _ ≤ _; rw [← hW1]; simp
 have z4:=T1.at 4 rfl
 have z5:=T1.at 5 rfl
 have z6:=T1.at 6 rfl
 go_enter Tryz.func72,Tryz.ntmps72
 go_wp2_with fail
 try rw [hW1]
 refine (toR_is x4 x5 x6 W1).mono ?_
 clear hW1 z4 z5 z6
 rintro e w2 ⟨rfl,hb⟩
 have B2:=B1.trans (hb.mono B1.size)
 have T2:=T1.later hb (by have:=Z1.out; omega)
 have R2:=R1.later hb (by have:=Z1.out; omega)
 have O2:=O1.later hb (by have:=Z1.out; omega)
 have F : Hid (Blk (w.heap.size + 1) [I x0,I x1,I x2,I x3,I x4,I x5,I x6,.string x7] ((((((((((((w2.setCell ⟨w.heap.size + 1 + 1,4,none⟩ (I x4)).setCell ⟨w.heap.size + 1 + 1,5,none⟩ (I x5)).setCell ⟨w.heap.size + 1 + 1,6,none⟩ (I x6)).setCell ⟨w.heap.size + 1 + 1,7,none⟩ (.string x7)).setCell ⟨w.heap.size + 1,0,none⟩ (I x0)).setCell ⟨w.heap.size + 1,1,none⟩ (I x1)).setCell ⟨w.heap.size + 1,2,none⟩ (I x2)).setCell ⟨w.heap.size + 1,3,none⟩ (I x3)).setCell ⟨w.heap.size + 1,4,none⟩ (I x4)).setCell ⟨w.heap.size + 1,5,none⟩ (I x5)).setCell ⟨w.heap.size + 1,6,none⟩ (I x6)).setCell ⟨w.heap.size + 1,7,none⟩ (.string x7)) ∧ Below w.heap.size w ((((((((((((w2.setCell ⟨w.heap.size + 1 + 1,4,none⟩ (I x4)).setCell ⟨w.heap.size + 1 + 1,5,none⟩ (I x5)).setCell ⟨w.heap.size + 1 + 1,6,none⟩ (I x6)).setCell ⟨w.heap.size + 1 + 1,7,none⟩ (.string x7)).setCell ⟨w.heap.size + 1,0,none⟩ (I x0)).setCell ⟨w.heap.size + 1,1,none⟩ (I x1)).setCell ⟨w.heap.size + 1,2,none⟩ (I x2)).setCell ⟨w.heap.size + 1,3,none⟩ (I x3)).setCell ⟨w.heap.size + 1,4,none⟩ (I x4)).setCell ⟨w.heap.size + 1,5,none⟩ (I x5)).setCell ⟨w.heap.size + 1,6,none⟩ (I x6)).setCell ⟨w.heap.size + 1,7,none⟩ (.string x7))):=⟨((((((((((((R2.far (g':=w.heap.size + 1 + 1) (by omega) 4 (I x4)).far (g':=w.heap.size + 1 + 1) (by omega) 5 (I x5)).far (g':=w.heap.size + 1 + 1) (by omega) 6 (I x6)).far (g':=w.heap.size + 1 + 1) (by omega) 7 (.string x7)).set 0 (I x0)).set 1 (I x1)).set 2 (I x2)).set 3 (I x3)).set 4 (I x4)).set 5 (I x5)).set 6 (I x6)).set 7 (.string x7)),((((((((((((B2.setCell (by dsimp only; omega) _).setCell (by dsimp only; omega) _).setCell (by dsimp only; omega) _).setCell (by dsimp only; omega) _).setCell (by dsimp only; omega) _).setCell (by dsimp only; omega) _).setCell (by dsimp only; omega) _).setCell (by dsimp only; omega) _).setCell (by dsimp only; omega) _).setCell (by dsimp only; omega) _).setCell (by dsimp only; omega) _).setCell (by dsimp only; omega) _)⟩
 clear B1 T1 R1 O1 Z1 hb B2
 have o0:=O2.at 0 rfl
 have r0:=R2.at 0 rfl
 have q0:=R2.fz 0 rfl
 have o1:=O2.at 1 rfl
 have r1:=R2.at 1 rfl
 have q1:=R2.fz 1 rfl
 have o2:=O2.at 2 rfl
 have r2:=R2.at 2 rfl
 have q2:=R2.fz 2 rfl
 have o3:=O2.at 3 rfl
 have r3:=R2.at 3 rfl
 have q3:=R2.fz 3 rfl
 have o4:=O2.at 4 rfl
 have p4:=O2.fz 4 rfl
 have r4:=R2.at 4 rfl
 have q4:=R2.fz 4 rfl
 have o5:=O2.at 5 rfl
 have p5:=O2.fz 5 rfl
 have r5:=R2.at 5 rfl
 have q5:=R2.fz 5 rfl
 have o6:=O2.at 6 rfl
 have p6:=O2.fz 6 rfl
 have r6:=R2.at 6 rfl
 have q6:=R2.fz 6 rfl
 have o7:=O2.at 7 rfl
 have p7:=O2.fz 7 rfl
 have r7:=R2.at 7 rfl
 have q7:=R2.fz 7 rfl
 have t7:=T2.at 7 rfl
 clear T2 R2 O2
 go_wp2
 have G:=F.out
 exact bodyPost_ret (resC rfl _ _ (w.heap.size + 1) _ _ _ _ _ _ _ _ rfl (G.1.at 0 rfl) (G.1.at 1 rfl) (G.1.at 2 rfl) (G.1.at 3 rfl) (G.1.at 4 rfl) (G.1.at 5 rfl) (G.1.at 6 rfl) (G.1.at 7 rfl)) rfl ⟨rfl,G.2⟩
theorem infoC : (Tryz.prog.info? 72).map (fun i => (i.zero,i.size,i.bytes)) = some (some (.agg #[I 0,I 0,I 0,I 0,I 0,I 0,I 0,.string ⟨#[]⟩]),8,72):=by kernel_rfl
set_option maxRecDepth 100000 in
set_option maxHeartbeats 1600000 in
theorem toSC_is (a : Option Addr) (cap : Nat) (xs : List TC) (w : World) (hr : FRow 8 cC w a xs) (hl : xs.length ≤ 1048576) :
  Calls Tryz.prog 34 #[.slice a xs.length cap] w fun e w' => e = .returned (.slice (some ⟨w.heap.size,0,none⟩) xs.length xs.length) ∧ FOwn 72 8 cC w.heap.size (some ⟨w.heap.size,0,none⟩) xs.length xs w' ∧ Below w.heap.size w w':=by
 obtain ⟨i0,hi,hz0,hz1,hz2⟩:=info_parts infoC
 go_enter Tryz.func34,Tryz.ntmps34
 go_wp2_with (first | (at_make; refine wpList_make_full _ rfl _ _ 43 rfl w.heap.size 72 i0 (.agg #[I 0,I 0,I 0,I 0,I 0,I 0,I 0,.string ⟨#[]⟩]) 8 Tryz.underlying43 hi hz0 hz1 .i64 .i64 xs.length xs.length xs.length rfl rfl rfl rfl (by rw [hz2]; omega) (by unfold maxLen; omega) (Nat.le_refl _) ?_) | go_in)
 intro w1 hown hgrow
 have hbel:=(Below.refl w.heap.size w).grown hgrow (Nat.le_refl _) (by simp)
 clear hgrow
 have H0 : ∃ J : List Value,w1.ownsRow w.heap.size 72 8 (.slice (some ⟨w.heap.size,0,none⟩) xs.length xs.length) xs.length (fl cC (xs.take 0) ++ J):=⟨_,hown⟩
 clear hown
 go_wp2
 go_loopw [4] (fun i wr => ∃ k : Nat,k ≤ xs.length ∧ i = I k ∧ (∃ J : List Value,wr.ownsRow w.heap.size 72 8 (.slice (some ⟨w.heap.size,0,none⟩) xs.length xs.length) xs.length (fl cC (xs.take k) ++ J)) ∧ Below w.heap.size w wr) (fun i _ => xs.length - (intOf i).toNat)
 case atStart => exact ⟨0,by omega,rfl,H0,hbel⟩
 case round =>
  clear H0 hbel
  obtain ⟨k,hk,rfl,⟨J,hown⟩,hbel⟩:=hrel
  have hJ : k * 8 + J.length = xs.length * 8:=by have:=hown.1; rw [List.length_append,fl_len lC,List.length_take,Nat.min_eq_left hk] at this; exact this
  by_cases hlt : k < xs.length
  ·obtain ⟨b,off,rfl,hbl,hc⟩:=hr k hlt
   have h0 : wr.cell? ⟨b,off + k * 8,none⟩ = some (I xs[k].1):=(hbel.cell (p:=⟨b,off + k * 8,none⟩) hbl).trans (hc 0 _ rfl)
   have h1 : wr.cell? ⟨b,off + k * 8 + 1,none⟩ = some (I xs[k].2.1):=(hbel.cell (p:=⟨b,off + k * 8 + 1,none⟩) hbl).trans (hc 1 _ rfl)
   have h2 : wr.cell? ⟨b,off + k * 8 + 2,none⟩ = some (I xs[k].2.2.1):=(hbel.cell (p:=⟨b,off + k * 8 + 2,none⟩) hbl).trans (hc 2 _ rfl)
   have h3 : wr.cell? ⟨b,off + k * 8 + 3,none⟩ = some (I xs[k].2.2.2.1):=(hbel.cell (p:=⟨b,off + k * 8 + 3,none⟩) hbl).trans (hc 3 _ rfl)
   have h4 : wr.cell? ⟨b,off + k * 8 + 4,none⟩ = some (I xs[k].2.2.2.2.1):=(hbel.cell (p:=⟨b,off + k * 8 + 4,none⟩) hbl).trans (hc 4 _ rfl)
   have h5 : wr.cell? ⟨b,off + k * 8 + 5,none⟩ = some (I xs[k].2.2.2.2.2.1):=(hbel.cell (p:=⟨b,off + k * 8 + 5,none⟩) hbl).trans (hc 5 _ rfl)
   have h6 : wr.cell? ⟨b,off + k * 8 + 6,none⟩ = some (I xs[k].2.2.2.2.2.2.1):=(hbel.cell (p:=⟨b,off + k * 8 + 6,none⟩) hbl).trans (hc 6 _ rfl)
   have h7 : wr.cell? ⟨b,off + k * 8 + 7,none⟩ = some (.string xs[k].2.2.2.2.2.2.2):=(hbel.cell (p:=⟨b,off + k * 8 + 7,none⟩) hbl).trans (hc 7 _ rfl)
   clear hr hc
   have hsn : xs.take k ++ [(xs[k].1,xs[k].2.1,xs[k].2.2.1,xs[k].2.2.2.1,xs[k].2.2.2.2.1,xs[k].2.2.2.2.2.1,xs[k].2.2.2.2.2.2.1,xs[k].2.2.2.2.2.2.2)] = xs.take (k + 1):=(List.take_succ_eq_append_getElem hlt).symm
   generalize xs[k].1 = x0 at h0 hsn
   generalize xs[k].2.1 = x1 at h1 hsn
   generalize xs[k].2.2.1 = x2 at h2 hsn
   generalize xs[k].2.2.2.1 = x3 at h3 hsn
   generalize xs[k].2.2.2.2.1 = x4 at h4 hsn
   generalize xs[k].2.2.2.2.2.1 = x5 at h5 hsn
   generalize xs[k].2.2.2.2.2.2.1 = x6 at h6 hsn
   generalize xs[k].2.2.2.2.2.2.2 = x7 at h7 hsn
   go_wp2_with fail
   refine (toC_is x0 x1 x2 x3 x4 x5 x6 x7 _).mono ?_
   rintro e w2 ⟨rfl,hb2⟩
   have hown2:=own_later hown hb2
   have hbel2:=hbel.trans (hb2.mono hbel.size)
   clear h0 h1 h2 h3 h4 h5 h6 h7 hown hbel hb2
   have hs:=((((((((hown2.stored (k * 8) (I x0)).1.stored (k * 8 + 1) (I x1)).1.stored (k * 8 + 2) (I x2)).1.stored (k * 8 + 3) (I x3)).1.stored (k * 8 + 4) (I x4)).1.stored (k * 8 + 5) (I x5)).1.stored (k * 8 + 6) (I x6)).1.stored (k * 8 + 7) (.string x7)).1
   have hp : (((((((((fl cC (xs.take k) ++ J)).set (k * 8) (I x0)).set (k * 8 + 1) (I x1)).set (k * 8 + 2) (I x2)).set (k * 8 + 3) (I x3)).set (k * 8 + 4) (I x4)).set (k * 8 + 5) (I x5)).set (k * 8 + 6) (I x6)).set (k * 8 + 7) (.string x7) = fl cC (xs.take k ++ [(x0,x1,x2,x3,x4,x5,x6,x7)]) ++ J.drop 8:=by
    have:=fl_put (f:=cC) lC (xs.take k) J (x0,x1,x2,x3,x4,x5,x6,x7) (by omega)
    rw [List.length_take,Nat.min_eq_left hk] at this
    exact this
   rw [hp,hsn] at hs
   have HS : Hid (∃ k' : Nat,k' ≤ xs.length ∧ Value.int .i64 ((k : Int) + 1) = I k' ∧ (∃ J : List Value,((((((((w2.setCell ⟨w.heap.size,k * 8,none⟩ (I x0)).setCell ⟨w.heap.size,k * 8 + 1,none⟩ (I x1)).setCell ⟨w.heap.size,k * 8 + 2,none⟩ (I x2)).setCell ⟨w.heap.size,k * 8 + 3,none⟩ (I x3)).setCell ⟨w.heap.size,k * 8 + 4,none⟩ (I x4)).setCell ⟨w.heap.size,k * 8 + 5,none⟩ (I x5)).setCell ⟨w.heap.size,k * 8 + 6,none⟩ (I x6)).setCell ⟨w.heap.size,k * 8 + 7,none⟩ (.string x7)).ownsRow w.heap.size 72 8 (.slice (some ⟨w.heap.size,0,none⟩) xs.length xs.length) xs.length (fl cC (xs.take k') ++ J)) ∧ Below w.heap.size w ((((((((w2.setCell ⟨w.heap.size,k * 8,none⟩ (I x0)).setCell ⟨w.heap.size,k * 8 + 1,none⟩ (I x1)).setCell ⟨w.heap.size,k * 8 + 2,none⟩ (I x2)).setCell ⟨w.heap.size,k * 8 + 3,none⟩ (I x3)).setCell ⟨w.heap.size,k * 8 + 4,none⟩ (I x4)).setCell ⟨w.heap.size,k * 8 + 5,none⟩ (I x5)).setCell ⟨w.heap.size,k * 8 + 6,none⟩ (I x6)).setCell ⟨w.heap.size,k * 8 + 7,none⟩ (.string x7))) :=
    ⟨k + 1,by omega,by go_num,⟨_,hs⟩,((((((((hbel2.setCell (Nat.le_refl _) _).setCell (Nat.le_refl _) _).setCell (Nat.le_refl _) _).setCell (Nat.le_refl _) _).setCell (Nat.le_refl _) _).setCell (Nat.le_refl _) _).setCell (Nat.le_refl _) _).setCell (Nat.le_refl _) _)⟩
   have hll : (fl cC (xs.take k) ++ J).length = xs.length * 8:=hown2.1
   have u0 : w2.cell? ⟨w.heap.size,k * 8,none⟩ = some (fl cC (xs.take k) ++ J)[k * 8]:=by rw [hown2.cellAt _ (by omega)]; exact List.getElem?_eq_getElem (by omega)
   have f0:=hown2.frozenAt (k * 8)
   have u1 : w2.cell? ⟨w.heap.size,k * 8 + 1,none⟩ = some (fl cC (xs.take k) ++ J)[k * 8 + 1]:=by rw [hown2.cellAt _ (by omega)]; exact List.getElem?_eq_getElem (by omega)
   have f1:=hown2.frozenAt (k * 8 + 1)
   have u2 : w2.cell? ⟨w.heap.size,k * 8 + 2,none⟩ = some (fl cC (xs.take k) ++ J)[k * 8 + 2]:=by rw [hown2.cellAt _ (by omega)]; exact List.getElem?_eq_getElem (by omega)
   have f2:=hown2.frozenAt (k * 8 + 2)
   have u3 : w2.cell? ⟨w.heap.size,k * 8 + 3,none⟩ = some (fl cC (xs.take k) ++ J)[k * 8 + 3]:=by rw [hown2.cellAt _ (by omega)]; exact List.getElem?_eq_getElem (by omega)
   have f3:=hown2.frozenAt (k * 8 + 3)
   have u4 : w2.cell? ⟨w.heap.size,k * 8 + 4,none⟩ = some (fl cC (xs.take k) ++ J)[k * 8 + 4]:=by rw [hown2.cellAt _ (by omega)]; exact List.getElem?_eq_getElem (by omega)
   have f4:=hown2.frozenAt (k * 8 + 4)
   have u5 : w2.cell? ⟨w.heap.size,k * 8 + 5,none⟩ = some (fl cC (xs.take k) ++ J)[k * 8 + 5]:=by rw [hown2.cellAt _ (by omega)]; exact List.getElem?_eq_getElem (by omega)
   have f5:=hown2.frozenAt (k * 8 + 5)
   have u6 : w2.cell? ⟨w.heap.size,k * 8 + 6,none⟩ = some (fl cC (xs.take k) ++ J)[k * 8 + 6]:=by rw [hown2.cellAt _ (by omega)]; exact List.getElem?_eq_getElem (by omega)
   have f6:=hown2.frozenAt (k * 8 + 6)
   have u7 : w2.cell? ⟨w.heap.size,k * 8 + 7,none⟩ = some (fl cC (xs.take k) ++ J)[k * 8 + 7]:=by rw [hown2.cellAt _ (by omega)]; exact List.getElem?_eq_getElem (by omega)
   have f7:=hown2.frozenAt (k * 8 + 7)
   have hlt2 : (k : Int) < (xs.length : Int):=by omega
   clear hown2 hbel2 hs hp hsn
   generalize (fl cC (xs.take k) ++ J)[k * 8] = q0 at u0
   generalize (fl cC (xs.take k) ++ J)[k * 8 + 1] = q1 at u1
   generalize (fl cC (xs.take k) ++ J)[k * 8 + 2] = q2 at u2
   generalize (fl cC (xs.take k) ++ J)[k * 8 + 3] = q3 at u3
   generalize (fl cC (xs.take k) ++ J)[k * 8 + 4] = q4 at u4
   generalize (fl cC (xs.take k) ++ J)[k * 8 + 5] = q5 at u5
   generalize (fl cC (xs.take k) ++ J)[k * 8 + 6] = q6 at u6
   generalize (fl cC (xs.take k) ++ J)[k * 8 + 7] = q7 at u7
   clear hll hJ
   go_wp2
   go_roundw
   case rel => exact HS.out
   case measure => simp [intOf]; omega
  ·obtain rfl : k = xs.length:=by omega
   have hj0 : J = []:=List.length_eq_zero_iff.1 (by omega)
   subst hj0
   rw [List.take_length,List.append_nil] at hown
   go_wp2
   go_ret
   exact ⟨rfl,hown,hbel⟩
theorem toSC_u (r : Rw TC) (w : World) (hd : RpC w r) (hl : rtC r ≤ 1048576) : Calls Tryz.prog 34 #[.slice r.1 r.2.2.length r.2.1] w fun en w' => ∃ y : Rw TC,en = .returned (.slice y.1 y.2.2.length y.2.1) ∧ rsC y = rsC r ∧ RoC w.heap.size w' y ∧ Below w.heap.size w w' :=
 (toSC_is r.1 r.2.1 r.2.2 w hd (Nat.le_trans (rtC_len r) hl)).mono fun e w' h => ⟨(some ⟨w.heap.size,0,none⟩,r.2.2.length,r.2.2),h.1,rfl,h.2.1,h.2.2⟩
set_option maxHeartbeats 1600000 in
set_option maxRecDepth 100000 in
theorem eqC_is (x0 : Int) (x1 : Int) (x2 : Int) (x3 : Int) (x4 : Int) (x5 : Int) (x6 : Int) (x7 : ByteArray) (w : World) : Calls Tryz.prog 86 #[.agg #[I x0,I x1,I x2,I x3,I x4,I x5,I x6,.string x7],.agg #[I x0,I x1,I x2,I x3,I x4,I x5,I x6,.string x7]] w fun e w' => e = .returned (.bool true) ∧ Below w.heap.size w w':=by
 go_enter Tryz.func86,Tryz.ntmps86
 go_wp2
 go_ret
 exact ⟨rfl,by repeat (first | exact Below.refl _ _ | refine Below.alloc ?_ (by simp; try omega) _)⟩
set_option maxRecDepth 100000 in
set_option maxHeartbeats 1600000 in
theorem eqSC_is (a b : Option Addr) (ca cb : Nat) (xs : List TC) (w : World) (ha : FRow 8 cC w a xs) (hb : FRow 8 cC w b xs) (hl : xs.length ≤ 1048576) :
  Calls Tryz.prog 44 #[.slice a xs.length ca,.slice b xs.length cb] w fun e w' => e = .returned (.bool true) ∧ Below w.heap.size w w':=by
 go_enter Tryz.func44,Tryz.ntmps44
 go_wp2
 go_loopw [5] (fun i wr => ∃ k : Nat,k ≤ xs.length ∧ i = I k ∧ Below w.heap.size w wr) (fun i _ => xs.length - (intOf i).toNat)
 case atStart => exact ⟨0,by omega,rfl,Below.refl _ _⟩
 case round =>
  obtain ⟨k,hk,rfl,hbel⟩:=hrel
  by_cases hlt : k < xs.length
  ·obtain ⟨b1,o1,rfl,l1,h⟩:=ha k hlt
   obtain ⟨b2,o2,rfl,l2,g⟩:=hb k hlt
   have hlt2 : (k : Int) < (xs.length : Int):=by omega
   have m1 : b1 < wr.drew.heap.size:=Nat.lt_of_lt_of_le l1 hbel.size
   have m2 : b2 < wr.drew.heap.size:=Nat.lt_of_lt_of_le l2 hbel.size
   have BD:=hbel.drew
   have h0 : wr.drew.cell? ⟨b1,o1 + k * 8,none⟩ = some (I xs[k].1):=(hbel.cell (p:=⟨b1,o1 + k * 8,none⟩) l1).trans (h 0 _ rfl)
   have h1 : wr.drew.cell? ⟨b1,o1 + k * 8 + 1,none⟩ = some (I xs[k].2.1):=(hbel.cell (p:=⟨b1,o1 + k * 8 + 1,none⟩) l1).trans (h 1 _ rfl)
   have h2 : wr.drew.cell? ⟨b1,o1 + k * 8 + 2,none⟩ = some (I xs[k].2.2.1):=(hbel.cell (p:=⟨b1,o1 + k * 8 + 2,none⟩) l1).trans (h 2 _ rfl)
   have h3 : wr.drew.cell? ⟨b1,o1 + k * 8 + 3,none⟩ = some (I xs[k].2.2.2.1):=(hbel.cell (p:=⟨b1,o1 + k * 8 + 3,none⟩) l1).trans (h 3 _ rfl)
   have h4 : wr.drew.cell? ⟨b1,o1 + k * 8 + 4,none⟩ = some (I xs[k].2.2.2.2.1):=(hbel.cell (p:=⟨b1,o1 + k * 8 + 4,none⟩) l1).trans (h 4 _ rfl)
   have h5 : wr.drew.cell? ⟨b1,o1 + k * 8 + 5,none⟩ = some (I xs[k].2.2.2.2.2.1):=(hbel.cell (p:=⟨b1,o1 + k * 8 + 5,none⟩) l1).trans (h 5 _ rfl)
   have h6 : wr.drew.cell? ⟨b1,o1 + k * 8 + 6,none⟩ = some (I xs[k].2.2.2.2.2.2.1):=(hbel.cell (p:=⟨b1,o1 + k * 8 + 6,none⟩) l1).trans (h 6 _ rfl)
   have h7 : wr.drew.cell? ⟨b1,o1 + k * 8 + 7,none⟩ = some (.string xs[k].2.2.2.2.2.2.2):=(hbel.cell (p:=⟨b1,o1 + k * 8 + 7,none⟩) l1).trans (h 7 _ rfl)
   have g0 : wr.drew.cell? ⟨b2,o2 + k * 8,none⟩ = some (I xs[k].1):=(hbel.cell (p:=⟨b2,o2 + k * 8,none⟩) l2).trans (g 0 _ rfl)
   have g1 : wr.drew.cell? ⟨b2,o2 + k * 8 + 1,none⟩ = some (I xs[k].2.1):=(hbel.cell (p:=⟨b2,o2 + k * 8 + 1,none⟩) l2).trans (g 1 _ rfl)
   have g2 : wr.drew.cell? ⟨b2,o2 + k * 8 + 2,none⟩ = some (I xs[k].2.2.1):=(hbel.cell (p:=⟨b2,o2 + k * 8 + 2,none⟩) l2).trans (g 2 _ rfl)
   have g3 : wr.drew.cell? ⟨b2,o2 + k * 8 + 3,none⟩ = some (I xs[k].2.2.2.1):=(hbel.cell (p:=⟨b2,o2 + k * 8 + 3,none⟩) l2).trans (g 3 _ rfl)
   have g4 : wr.drew.cell? ⟨b2,o2 + k * 8 + 4,none⟩ = some (I xs[k].2.2.2.2.1):=(hbel.cell (p:=⟨b2,o2 + k * 8 + 4,none⟩) l2).trans (g 4 _ rfl)
   have g5 : wr.drew.cell? ⟨b2,o2 + k * 8 + 5,none⟩ = some (I xs[k].2.2.2.2.2.1):=(hbel.cell (p:=⟨b2,o2 + k * 8 + 5,none⟩) l2).trans (g 5 _ rfl)
   have g6 : wr.drew.cell? ⟨b2,o2 + k * 8 + 6,none⟩ = some (I xs[k].2.2.2.2.2.2.1):=(hbel.cell (p:=⟨b2,o2 + k * 8 + 6,none⟩) l2).trans (g 6 _ rfl)
   have g7 : wr.drew.cell? ⟨b2,o2 + k * 8 + 7,none⟩ = some (.string xs[k].2.2.2.2.2.2.2):=(hbel.cell (p:=⟨b2,o2 + k * 8 + 7,none⟩) l2).trans (g 7 _ rfl)
   generalize xs[k].1 = x0 at h0 g0
   generalize xs[k].2.1 = x1 at h1 g1
   generalize xs[k].2.2.1 = x2 at h2 g2
   generalize xs[k].2.2.2.1 = x3 at h3 g3
   generalize xs[k].2.2.2.2.1 = x4 at h4 g4
   generalize xs[k].2.2.2.2.2.1 = x5 at h5 g5
   generalize xs[k].2.2.2.2.2.2.1 = x6 at h6 g6
   generalize xs[k].2.2.2.2.2.2.2 = x7 at h7 g7
   clear ha hb h g
   go_wp2_with fail
   refine wp_region_held_drew (S:=(fun V : World => V.cell? ⟨b1,o1 + k * 8,none⟩ = some (I x0) ∧ V.cell? ⟨b1,o1 + k * 8 + 1,none⟩ = some (I x1) ∧ V.cell? ⟨b1,o1 + k * 8 + 2,none⟩ = some (I x2) ∧ V.cell? ⟨b1,o1 + k * 8 + 3,none⟩ = some (I x3) ∧ V.cell? ⟨b1,o1 + k * 8 + 4,none⟩ = some (I x4) ∧ V.cell? ⟨b1,o1 + k * 8 + 5,none⟩ = some (I x5) ∧ V.cell? ⟨b1,o1 + k * 8 + 6,none⟩ = some (I x6) ∧ V.cell? ⟨b1,o1 + k * 8 + 7,none⟩ = some (.string x7) ∧ V.cell? ⟨b2,o2 + k * 8,none⟩ = some (I x0) ∧ V.cell? ⟨b2,o2 + k * 8 + 1,none⟩ = some (I x1) ∧ V.cell? ⟨b2,o2 + k * 8 + 2,none⟩ = some (I x2) ∧ V.cell? ⟨b2,o2 + k * 8 + 3,none⟩ = some (I x3) ∧ V.cell? ⟨b2,o2 + k * 8 + 4,none⟩ = some (I x4) ∧ V.cell? ⟨b2,o2 + k * 8 + 5,none⟩ = some (I x5) ∧ V.cell? ⟨b2,o2 + k * 8 + 6,none⟩ = some (I x6) ∧ V.cell? ⟨b2,o2 + k * 8 + 7,none⟩ = some (.string x7))) (by kernel_rfl) ⟨h0,h1,h2,h3,h4,h5,h6,h7,g0,g1,g2,g3,g4,g5,g6,g7⟩ (fun hHeld => ?_)
   refine tk 0 17 rfl _ hHeld (by intro w' h; (try dsimp only at h); obtain ⟨c0,c1,c2,c3,c4,c5,c6,c7,c8,c9,c10,c11,c12,c13,c14,c15⟩:=h; go_simp; try with_reducible rfl) ?_
   try simp only [Act.put,pa,pb,pc]
   refine tk 1 18 rfl _ hHeld (by intro w' h; (try dsimp only at h); obtain ⟨c0,c1,c2,c3,c4,c5,c6,c7,c8,c9,c10,c11,c12,c13,c14,c15⟩:=h; go_simp; try with_reducible rfl) ?_
   try simp only [Act.put,pa,pb,pc]
   refine tk 2 19 rfl _ hHeld (by intro w' h; (try dsimp only at h); obtain ⟨c0,c1,c2,c3,c4,c5,c6,c7,c8,c9,c10,c11,c12,c13,c14,c15⟩:=h; go_simp; try with_reducible rfl) ?_
   try simp only [Act.put,pa,pb,pc]
   refine tk 3 20 rfl _ hHeld (by intro w' h; (try dsimp only at h); obtain ⟨c0,c1,c2,c3,c4,c5,c6,c7,c8,c9,c10,c11,c12,c13,c14,c15⟩:=h; go_simp; try with_reducible rfl) ?_
   try simp only [Act.put,pa,pb,pc]
   refine tk 4 21 rfl _ hHeld (by intro w' h; (try dsimp only at h); obtain ⟨c0,c1,c2,c3,c4,c5,c6,c7,c8,c9,c10,c11,c12,c13,c14,c15⟩:=h; go_simp; try with_reducible rfl) ?_
   try simp only [Act.put,pa,pb,pc]
   refine tk 5 22 rfl _ hHeld (by intro w' h; (try dsimp only at h); obtain ⟨c0,c1,c2,c3,c4,c5,c6,c7,c8,c9,c10,c11,c12,c13,c14,c15⟩:=h; go_simp; try with_reducible rfl) ?_
   try simp only [Act.put,pa,pb,pc]
   refine tk 6 23 rfl _ hHeld (by intro w' h; (try dsimp only at h); obtain ⟨c0,c1,c2,c3,c4,c5,c6,c7,c8,c9,c10,c11,c12,c13,c14,c15⟩:=h; go_simp; try with_reducible rfl) ?_
   try simp only [Act.put,pa,pb,pc]
   refine tk 7 24 rfl _ hHeld (by intro w' h; (try dsimp only at h); obtain ⟨c0,c1,c2,c3,c4,c5,c6,c7,c8,c9,c10,c11,c12,c13,c14,c15⟩:=h; go_simp; try with_reducible rfl) ?_
   try simp only [Act.put,pa,pb,pc]
   refine wpAnyH_ready (rs:=[8]) (by kernel_rfl) (by simp) ?_
   refine AllReadyH.cons (i:=8) rfl (fun K hK => ?_) AllReadyH.nil
   go_simp
   refine (eqC_is x0 x1 x2 x3 x4 x5 x6 x7 _).mono ?_
   rintro e w2 ⟨rfl,hb2⟩
   go_wp2_with fail
   refine hK.out _ _ ⟨(hb2.cell (p:=⟨b1,o1 + k * 8,none⟩) m1).trans h0,(hb2.cell (p:=⟨b1,o1 + k * 8 + 1,none⟩) m1).trans h1,(hb2.cell (p:=⟨b1,o1 + k * 8 + 2,none⟩) m1).trans h2,(hb2.cell (p:=⟨b1,o1 + k * 8 + 3,none⟩) m1).trans h3,(hb2.cell (p:=⟨b1,o1 + k * 8 + 4,none⟩) m1).trans h4,(hb2.cell (p:=⟨b1,o1 + k * 8 + 5,none⟩) m1).trans h5,(hb2.cell (p:=⟨b1,o1 + k * 8 + 6,none⟩) m1).trans h6,(hb2.cell (p:=⟨b1,o1 + k * 8 + 7,none⟩) m1).trans h7,(hb2.cell (p:=⟨b2,o2 + k * 8,none⟩) m2).trans g0,(hb2.cell (p:=⟨b2,o2 + k * 8 + 1,none⟩) m2).trans g1,(hb2.cell (p:=⟨b2,o2 + k * 8 + 2,none⟩) m2).trans g2,(hb2.cell (p:=⟨b2,o2 + k * 8 + 3,none⟩) m2).trans g3,(hb2.cell (p:=⟨b2,o2 + k * 8 + 4,none⟩) m2).trans g4,(hb2.cell (p:=⟨b2,o2 + k * 8 + 5,none⟩) m2).trans g5,(hb2.cell (p:=⟨b2,o2 + k * 8 + 6,none⟩) m2).trans g6,(hb2.cell (p:=⟨b2,o2 + k * 8 + 7,none⟩) m2).trans g7⟩ (fun hHeld2 => ?_)
   clear hK K hHeld
   have hHeld:=hHeld2
   clear hHeld2
   try simp only [Act.put,pa,pb,pc]
   refine tk 9 26 rfl _ hHeld (by intro w' h; (try dsimp only at h); obtain ⟨c0,c1,c2,c3,c4,c5,c6,c7,c8,c9,c10,c11,c12,c13,c14,c15⟩:=h; go_simp; try with_reducible rfl) ?_
   try simp only [Act.put,pa,pb,pc]
   refine wpAnyH_done (by kernel_rfl) ?_ _
   have B2:=BD.trans (hb2.mono BD.size)
   clear hHeld h0 h1 h2 h3 h4 h5 h6 h7 g0 g1 g2 g3 g4 g5 g6 g7
   go_wp2
   go_roundw
   case rel => exact ⟨k + 1,by omega,by go_num,B2⟩
   case measure => simp [intOf]; omega
  ·go_wp2
   go_ret
   exact ⟨rfl,hbel⟩
theorem eqSC_u (r q : Rw TC) (w : World) (hr : RpC w r) (hq : RpC w q) (hs : rsC r = rsC q) (hl : rtC r ≤ 1048576) : Calls Tryz.prog 44 #[.slice r.1 r.2.2.length r.2.1,.slice q.1 q.2.2.length q.2.1] w fun en w' => en = .returned (.bool true) ∧ Below w.heap.size w w':=by
 obtain ⟨a,c,xs⟩:=r
 obtain ⟨b,d,ys⟩:=q
 obtain rfl : xs = ys:=hs
 exact eqSC_is a b c d xs w hr hq (Nat.le_trans (rtC_len (a,c,xs)) hl)
end Go.Proofs.YtlmpfkbgknbcnaaGreat.Nd
