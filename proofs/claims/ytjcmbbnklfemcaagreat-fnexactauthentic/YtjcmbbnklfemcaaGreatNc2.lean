/- Auths, pairs, waits: copied and compared. -/
import Derived.Test.YtjcmbbnklfemcaaGreatNd0
set_option linter.unusedVariables false
set_option maxRecDepth 100000
namespace Go.Proofs.YtjcmbbnklfemcaaGreat.Nd
open Go Go.RowKit Go.Joins Own Draw
theorem resR {fn:Func} {p:Tmp} (hres:fn.results=#[.cell p 72]) (tmps:Array Value) (w:World) (g:Nat) (v0 v1 v2:Value) (hp:tmps.getD p undef=.pointer (some ⟨g,0,none⟩)) (h0:w.cell? ⟨g,0,none⟩=some v0) (h1:w.cell? ⟨g,1,none⟩=some v1) (h2:w.cell? ⟨g,2,none⟩=some v2) :
  (results fn tmps).run Tryz.prog w=.ok (.agg #[v0,v1,v2]) w := by
 have hp':tmps[p]?.getD undef=.pointer (some ⟨g,0,none⟩) := by simpa using hp
 unfold results
 rw [hres]
 go_simp
set_option maxRecDepth 100000 in
theorem toR_is (x0:Int) (x1:Int) (x2:Int) (w:World):Calls Tryz.prog 104 #[.agg #[.int .i64 x0,.int .i64 x1,.int .i64 x2]] w fun e w'=>e=.returned (.agg #[.int .i64 x0,.int .i64 x1,.int .i64 x2])∧Below w.heap.size w w' := by
 have hb0:Below w.heap.size w (((w.alloc (.cells #[.int .i64 x0,.int .i64 x1,.int .i64 x2] 116)).alloc (.cells #[.int .i64 x0,.int .i64 x1,.int .i64 x2] 72)).alloc (.cells #[.int .i64 x0,.int .i64 x1,.int .i64 x2] 72)) :=
  (((Below.refl _ _).alloc (Nat.le_refl _) _).alloc (by simp) _).alloc (by simp;omega) _
 go_enter Tryz.func104,Tryz.ntmps104
 go_wp2
 exact bodyPost_ret (resR rfl _ _ (w.heap.size + 1) _ _ _ rfl (by simp [go_sem]) (by simp [go_sem]) (by simp [go_sem])) rfl ⟨rfl,hb0⟩
set_option maxRecDepth 100000 in
theorem eqR_is (x0:Int) (x1:Int) (x2:Int) (w:World):Calls Tryz.prog 126 #[.agg #[.int .i64 x0,.int .i64 x1,.int .i64 x2],.agg #[.int .i64 x0,.int .i64 x1,.int .i64 x2]] w fun e w'=>e=.returned (.bool true)∧Below w.heap.size w w' := by
 have hb0:Below w.heap.size w ((w.alloc (.cells #[.int .i64 x0,.int .i64 x1,.int .i64 x2] 72)).alloc (.cells #[.int .i64 x0,.int .i64 x1,.int .i64 x2] 72)) := ((Below.refl _ _).alloc (Nat.le_refl _) _).alloc (by simp) _
 go_enter Tryz.func126,Tryz.ntmps126
 go_wp2
 go_ret
 exact ⟨rfl,hb0⟩
theorem resA {fn:Func} {p:Tmp} (hres:fn.results=#[.cell p 80]) (tmps:Array Value) (w:World) (g:Nat) (v0 v1 v2:Value) (hp:tmps.getD p undef=.pointer (some ⟨g,0,none⟩)) (h0:w.cell? ⟨g,0,none⟩=some v0) (h1:w.cell? ⟨g,1,none⟩=some v1) (h2:w.cell? ⟨g,2,none⟩=some v2) :
  (results fn tmps).run Tryz.prog w=.ok (.agg #[v0,v1,v2]) w := by
 have hp':tmps[p]?.getD undef=.pointer (some ⟨g,0,none⟩) := by simpa using hp
 unfold results
 rw [hres]
 go_simp
set_option maxRecDepth 100000 in
theorem toA_is (x0:Int) (x1:Int) (x2:Int) (w:World):Calls Tryz.prog 106 #[.agg #[.int .i64 x0,.int .i64 x1,.int .i64 x2]] w fun e w'=>e=.returned (.agg #[.int .i64 x0,.int .i64 x1,.int .i64 x2])∧Below w.heap.size w w' := by
 have hb0:Below w.heap.size w (((w.alloc (.cells #[.int .i64 x0,.int .i64 x1,.int .i64 x2] 124)).alloc (.cells #[.int .i64 x0,.int .i64 x1,.int .i64 x2] 80)).alloc (.cells #[.int .i64 x0,.int .i64 x1,.int .i64 x2] 80)) :=
  (((Below.refl _ _).alloc (Nat.le_refl _) _).alloc (by simp) _).alloc (by simp;omega) _
 go_enter Tryz.func106,Tryz.ntmps106
 go_wp2
 exact bodyPost_ret (resA rfl _ _ (w.heap.size + 1) _ _ _ rfl (by simp [go_sem]) (by simp [go_sem]) (by simp [go_sem])) rfl ⟨rfl,hb0⟩
theorem infoA:(Tryz.prog.info? 80).map (fun i=>(i.zero,i.size,i.bytes))=some (some (.agg #[.int .i64 0,.int .i64 0,.int .i64 0]),3,24) := by kernel_rfl
set_option maxRecDepth 100000 in
set_option maxHeartbeats 1600000 in
theorem toSA_is (a:Option Addr) (cap:Nat) (xs:List TA) (w:World) (hr:FRow 3 cA w a xs) (hl:xs.length≤1048576) :
  Calls Tryz.prog 105 #[.slice a xs.length cap] w fun e w'=>e=.returned (.slice (some ⟨w.heap.size,0,none⟩) xs.length xs.length)∧FOwn 80 3 cA w.heap.size (some ⟨w.heap.size,0,none⟩) xs.length xs w'∧Below w.heap.size w w' := by
 obtain ⟨i0,hi,hz0,hz1,hz2⟩ := info_parts infoA
 go_enter Tryz.func105,Tryz.ntmps105
 go_wp2_with (first | (at_make;refine wpList_make_full _ rfl _ _ 76 rfl w.heap.size 80 i0 (.agg #[.int .i64 0,.int .i64 0,.int .i64 0]) 3 Tryz.underlying76 hi hz0 hz1 .i64 .i64 xs.length xs.length xs.length rfl rfl rfl rfl (by rw [hz2];omega) (by unfold maxLen;omega) (Nat.le_refl _) ?_) | go_in)
 intro w1 hown hgrow
 have hbel := (Below.refl w.heap.size w).grown hgrow (Nat.le_refl _) (by simp)
 clear hgrow
 have H0:∃ J:List Value,w1.ownsRow w.heap.size 80 3 (.slice (some ⟨w.heap.size,0,none⟩) xs.length xs.length) xs.length (fl cA (xs.take 0)++J) := ⟨_,hown⟩
 clear hown
 go_wp2
 go_loopw [4] (fun i wr=>∃ k:Nat,k≤xs.length∧i=.int .i64 k∧(∃ J:List Value,wr.ownsRow w.heap.size 80 3 (.slice (some ⟨w.heap.size,0,none⟩) xs.length xs.length) xs.length (fl cA (xs.take k)++J))∧Below w.heap.size w wr) (fun i _=>xs.length - (intOf i).toNat)
 case atStart=>exact ⟨0,by omega,rfl,H0,hbel⟩
 case round =>
  clear H0 hbel
  obtain ⟨k,hk,rfl,⟨J,hown⟩,hbel⟩ := hrel
  have hJ:k * 3 + J.length=xs.length * 3 := by have := hown.1;rw [List.length_append,fl_len lA,List.length_take,Nat.min_eq_left hk] at this;exact this
  by_cases hlt:k < xs.length
  ·obtain ⟨b,off,rfl,hbl,hc⟩ := hr k hlt
   have h0:wr.cell? ⟨b,off + k * 3,none⟩=some (.int .i64 xs[k].1) := (hbel.cell (p := ⟨b,off + k * 3,none⟩) hbl).trans (hc 0 _ rfl)
   have h1:wr.cell? ⟨b,off + k * 3 + 1,none⟩=some (.int .i64 xs[k].2.1) := (hbel.cell (p := ⟨b,off + k * 3 + 1,none⟩) hbl).trans (hc 1 _ rfl)
   have h2:wr.cell? ⟨b,off + k * 3 + 2,none⟩=some (.int .i64 xs[k].2.2) := (hbel.cell (p := ⟨b,off + k * 3 + 2,none⟩) hbl).trans (hc 2 _ rfl)
   clear hr hc
   have hsn:xs.take k++[(xs[k].1,xs[k].2.1,xs[k].2.2)]=xs.take (k + 1) := (List.take_succ_eq_append_getElem hlt).symm
   generalize xs[k].1=x0 at h0 hsn
   generalize xs[k].2.1=x1 at h1 hsn
   generalize xs[k].2.2=x2 at h2 hsn
   go_wp2_with fail
   refine (toA_is x0 x1 x2 _).mono ?_
   rintro e w2 ⟨rfl,hb2⟩
   have hown2 := own_later hown hb2
   have hbel2 := hbel.trans (hb2.mono hbel.size)
   clear h0 h1 h2 hown hbel hb2
   have hs := (((hown2.stored (k * 3) (.int .i64 x0)).1.stored (k * 3 + 1) (.int .i64 x1)).1.stored (k * 3 + 2) (.int .i64 x2)).1
   have hp:((((fl cA (xs.take k)++J)).set (k * 3) (.int .i64 x0)).set (k * 3 + 1) (.int .i64 x1)).set (k * 3 + 2) (.int .i64 x2)=fl cA (xs.take k++[(x0,x1,x2)])++J.drop 3 := by
    have := fl_put (f := cA) lA (xs.take k) J (x0,x1,x2) (by omega)
    rw [List.length_take,Nat.min_eq_left hk] at this
    exact this
   rw [hp,hsn] at hs
   have HS:Hid (∃ k':Nat,k'≤xs.length∧Value.int .i64 ((k:Int) + 1)=.int .i64 k'∧(∃ J:List Value,(((w2.setCell ⟨w.heap.size,k * 3,none⟩ (.int .i64 x0)).setCell ⟨w.heap.size,k * 3 + 1,none⟩ (.int .i64 x1)).setCell ⟨w.heap.size,k * 3 + 2,none⟩ (.int .i64 x2)).ownsRow w.heap.size 80 3 (.slice (some ⟨w.heap.size,0,none⟩) xs.length xs.length) xs.length (fl cA (xs.take k')++J))∧Below w.heap.size w (((w2.setCell ⟨w.heap.size,k * 3,none⟩ (.int .i64 x0)).setCell ⟨w.heap.size,k * 3 + 1,none⟩ (.int .i64 x1)).setCell ⟨w.heap.size,k * 3 + 2,none⟩ (.int .i64 x2))) :=
    ⟨k + 1,by omega,by go_num,⟨_,hs⟩,(((hbel2.setCell (Nat.le_refl _) _).setCell (Nat.le_refl _) _).setCell (Nat.le_refl _) _)⟩
   have hll:(fl cA (xs.take k)++J).length=xs.length * 3 := hown2.1
   have u0:w2.cell? ⟨w.heap.size,k * 3,none⟩=some (fl cA (xs.take k)++J)[k * 3] := by rw [hown2.cellAt _ (by omega)];exact List.getElem?_eq_getElem (by omega)
   have f0 := hown2.frozenAt (k * 3)
   have u1:w2.cell? ⟨w.heap.size,k * 3 + 1,none⟩=some (fl cA (xs.take k)++J)[k * 3 + 1] := by rw [hown2.cellAt _ (by omega)];exact List.getElem?_eq_getElem (by omega)
   have f1 := hown2.frozenAt (k * 3 + 1)
   have u2:w2.cell? ⟨w.heap.size,k * 3 + 2,none⟩=some (fl cA (xs.take k)++J)[k * 3 + 2] := by rw [hown2.cellAt _ (by omega)];exact List.getElem?_eq_getElem (by omega)
   have f2 := hown2.frozenAt (k * 3 + 2)
   have hlt2:(k:Int) < (xs.length:Int) := by omega
   clear hown2 hbel2 hs hp hsn
   generalize (fl cA (xs.take k)++J)[k * 3]=q0 at u0
   generalize (fl cA (xs.take k)++J)[k * 3 + 1]=q1 at u1
   generalize (fl cA (xs.take k)++J)[k * 3 + 2]=q2 at u2
   clear hll hJ
   go_wp2
   go_roundw
   case rel=>exact HS.out
   case measure=>simp [intOf];omega
  ·obtain rfl:k=xs.length := by omega
   have hj0:J=[] := List.length_eq_zero_iff.1 (by omega)
   subst hj0
   rw [List.take_length,List.append_nil] at hown
   go_wp2
   go_ret
   exact ⟨rfl,hown,hbel⟩
theorem toSA_u (r:Rw TA) (w:World) (hd:RpA w r) (hl:rtA r≤1048576):Calls Tryz.prog 105 #[.slice r.1 r.2.2.length r.2.1] w fun en w'=>∃ y:Rw TA,en=.returned (.slice y.1 y.2.2.length y.2.1)∧rsA y=rsA r∧RoA w.heap.size w' y∧Below w.heap.size w w' :=
 (toSA_is r.1 r.2.1 r.2.2 w hd (Nat.le_trans (rtA_len r) hl)).mono fun e w' h=>⟨(some ⟨w.heap.size,0,none⟩,r.2.2.length,r.2.2),h.1,rfl,h.2.1,h.2.2⟩
set_option maxRecDepth 100000 in
theorem eqA_is (x0:Int) (x1:Int) (x2:Int) (w:World):Calls Tryz.prog 128 #[.agg #[.int .i64 x0,.int .i64 x1,.int .i64 x2],.agg #[.int .i64 x0,.int .i64 x1,.int .i64 x2]] w fun e w'=>e=.returned (.bool true)∧Below w.heap.size w w' := by
 have hb0:Below w.heap.size w ((w.alloc (.cells #[.int .i64 x0,.int .i64 x1,.int .i64 x2] 80)).alloc (.cells #[.int .i64 x0,.int .i64 x1,.int .i64 x2] 80)) := ((Below.refl _ _).alloc (Nat.le_refl _) _).alloc (by simp) _
 go_enter Tryz.func128,Tryz.ntmps128
 go_wp2
 go_ret
 exact ⟨rfl,hb0⟩
set_option maxRecDepth 100000 in
set_option maxHeartbeats 1600000 in
theorem eqSA_is (a b:Option Addr) (ca cb:Nat) (xs:List TA) (w:World) (ha:FRow 3 cA w a xs) (hb:FRow 3 cA w b xs) (hl:xs.length≤1048576) :
  Calls Tryz.prog 127 #[.slice a xs.length ca,.slice b xs.length cb] w fun e w'=>e=.returned (.bool true)∧Below w.heap.size w w' := by
 go_enter Tryz.func127,Tryz.ntmps127
 go_wp2
 go_loopw [5] (fun i wr=>∃ k:Nat,k≤xs.length∧i=.int .i64 k∧Below w.heap.size w wr) (fun i _=>xs.length - (intOf i).toNat)
 case atStart=>exact ⟨0,by omega,rfl,Below.refl _ _⟩
 case round =>
  obtain ⟨k,hk,rfl,hbel⟩ := hrel
  by_cases hlt:k < xs.length
  ·obtain ⟨b1,o1,rfl,l1,h⟩ := ha k hlt
   obtain ⟨b2,o2,rfl,l2,g⟩ := hb k hlt
   have hlt2:(k:Int) < (xs.length:Int) := by omega
   have m1:b1 < wr.drew.heap.size := Nat.lt_of_lt_of_le l1 hbel.size
   have m2:b2 < wr.drew.heap.size := Nat.lt_of_lt_of_le l2 hbel.size
   have BD := hbel.drew
   have h0:wr.drew.cell? ⟨b1,o1 + k * 3,none⟩=some (.int .i64 xs[k].1) := (hbel.cell (p := ⟨b1,o1 + k * 3,none⟩) l1).trans (h 0 _ rfl)
   have h1:wr.drew.cell? ⟨b1,o1 + k * 3 + 1,none⟩=some (.int .i64 xs[k].2.1) := (hbel.cell (p := ⟨b1,o1 + k * 3 + 1,none⟩) l1).trans (h 1 _ rfl)
   have h2:wr.drew.cell? ⟨b1,o1 + k * 3 + 2,none⟩=some (.int .i64 xs[k].2.2) := (hbel.cell (p := ⟨b1,o1 + k * 3 + 2,none⟩) l1).trans (h 2 _ rfl)
   have g0:wr.drew.cell? ⟨b2,o2 + k * 3,none⟩=some (.int .i64 xs[k].1) := (hbel.cell (p := ⟨b2,o2 + k * 3,none⟩) l2).trans (g 0 _ rfl)
   have g1:wr.drew.cell? ⟨b2,o2 + k * 3 + 1,none⟩=some (.int .i64 xs[k].2.1) := (hbel.cell (p := ⟨b2,o2 + k * 3 + 1,none⟩) l2).trans (g 1 _ rfl)
   have g2:wr.drew.cell? ⟨b2,o2 + k * 3 + 2,none⟩=some (.int .i64 xs[k].2.2) := (hbel.cell (p := ⟨b2,o2 + k * 3 + 2,none⟩) l2).trans (g 2 _ rfl)
   generalize xs[k].1=x0 at h0 g0
   generalize xs[k].2.1=x1 at h1 g1
   generalize xs[k].2.2=x2 at h2 g2
   clear ha hb h g
   go_wp2_with fail
   refine wp_region_held_drew (S := (fun V:World=>V.cell? ⟨b1,o1 + k * 3,none⟩=some (.int .i64 x0)∧V.cell? ⟨b1,o1 + k * 3 + 1,none⟩=some (.int .i64 x1)∧V.cell? ⟨b1,o1 + k * 3 + 2,none⟩=some (.int .i64 x2)∧V.cell? ⟨b2,o2 + k * 3,none⟩=some (.int .i64 x0)∧V.cell? ⟨b2,o2 + k * 3 + 1,none⟩=some (.int .i64 x1)∧V.cell? ⟨b2,o2 + k * 3 + 2,none⟩=some (.int .i64 x2))) (by kernel_rfl) ⟨h0,h1,h2,g0,g1,g2⟩ (fun hHeld=>?_)
   refine take_one 0 17 (v := ?_) rfl rfl (by kernel_rfl) (by kernel_rfl) (by kernel_rfl) (fun _ _ _ h=>h) (Or.inl ⟨by rfl,?_⟩) hHeld ?_
   rotate_left
   ·intro w' hSw;(try dsimp only at hSw);obtain ⟨c0,c1,c2,c3,c4,c5⟩ := hSw;go_simp;try with_reducible rfl
   try simp only [Act.put,List.setIfInBounds_toArray,List.set_cons_zero,List.set_cons_succ]
   refine take_one 1 18 (v := ?_) rfl rfl (by kernel_rfl) (by kernel_rfl) (by kernel_rfl) (fun _ _ _ h=>h) (Or.inl ⟨by rfl,?_⟩) hHeld ?_
   rotate_left
   ·intro w' hSw;(try dsimp only at hSw);obtain ⟨c0,c1,c2,c3,c4,c5⟩ := hSw;go_simp;try with_reducible rfl
   try simp only [Act.put,List.setIfInBounds_toArray,List.set_cons_zero,List.set_cons_succ]
   refine take_one 2 19 (v := ?_) rfl rfl (by kernel_rfl) (by kernel_rfl) (by kernel_rfl) (fun _ _ _ h=>h) (Or.inl ⟨by rfl,?_⟩) hHeld ?_
   rotate_left
   ·intro w' hSw;(try dsimp only at hSw);obtain ⟨c0,c1,c2,c3,c4,c5⟩ := hSw;go_simp;try with_reducible rfl
   try simp only [Act.put,List.setIfInBounds_toArray,List.set_cons_zero,List.set_cons_succ]
   refine take_one 3 20 (v := ?_) rfl rfl (by kernel_rfl) (by kernel_rfl) (by kernel_rfl) (fun _ _ _ h=>h) (Or.inl ⟨by rfl,?_⟩) hHeld ?_
   rotate_left
   ·intro w' hSw;(try dsimp only at hSw);obtain ⟨c0,c1,c2,c3,c4,c5⟩ := hSw;go_simp;try with_reducible rfl
   try simp only [Act.put,List.setIfInBounds_toArray,List.set_cons_zero,List.set_cons_succ]
   refine take_one 4 21 (v := ?_) rfl rfl (by kernel_rfl) (by kernel_rfl) (by kernel_rfl) (fun _ _ _ h=>h) (Or.inl ⟨by rfl,?_⟩) hHeld ?_
   rotate_left
   ·intro w' hSw;(try dsimp only at hSw);obtain ⟨c0,c1,c2,c3,c4,c5⟩ := hSw;go_simp;try with_reducible rfl
   try simp only [Act.put,List.setIfInBounds_toArray,List.set_cons_zero,List.set_cons_succ]
   refine take_one 5 22 (v := ?_) rfl rfl (by kernel_rfl) (by kernel_rfl) (by kernel_rfl) (fun _ _ _ h=>h) (Or.inl ⟨by rfl,?_⟩) hHeld ?_
   rotate_left
   ·intro w' hSw;(try dsimp only at hSw);obtain ⟨c0,c1,c2,c3,c4,c5⟩ := hSw;go_simp;try with_reducible rfl
   try simp only [Act.put,List.setIfInBounds_toArray,List.set_cons_zero,List.set_cons_succ]
   refine take_one 6 23 (v := ?_) rfl rfl (by kernel_rfl) (by kernel_rfl) (by kernel_rfl) (fun _ _ _ h=>h) (Or.inl ⟨by rfl,?_⟩) hHeld ?_
   rotate_left
   ·intro w' hSw;(try dsimp only at hSw);obtain ⟨c0,c1,c2,c3,c4,c5⟩ := hSw;go_simp;try with_reducible rfl
   try simp only [Act.put,List.setIfInBounds_toArray,List.set_cons_zero,List.set_cons_succ]
   refine take_one 7 24 (v := ?_) rfl rfl (by kernel_rfl) (by kernel_rfl) (by kernel_rfl) (fun _ _ _ h=>h) (Or.inl ⟨by rfl,?_⟩) hHeld ?_
   rotate_left
   ·intro w' hSw;(try dsimp only at hSw);obtain ⟨c0,c1,c2,c3,c4,c5⟩ := hSw;go_simp;try with_reducible rfl
   try simp only [Act.put,List.setIfInBounds_toArray,List.set_cons_zero,List.set_cons_succ]
   refine wpAnyH_ready (rs := [8]) (by kernel_rfl) (by simp) ?_
   refine AllReadyH.cons (i := 8) rfl (fun K hK=>?_) AllReadyH.nil
   go_simp
   refine (eqA_is x0 x1 x2 _).mono ?_
   rintro e w2 ⟨rfl,hb2⟩
   go_wp2_with fail
   refine hK.out _ _ ⟨(hb2.cell (p := ⟨b1,o1 + k * 3,none⟩) m1).trans h0,(hb2.cell (p := ⟨b1,o1 + k * 3 + 1,none⟩) m1).trans h1,(hb2.cell (p := ⟨b1,o1 + k * 3 + 2,none⟩) m1).trans h2,(hb2.cell (p := ⟨b2,o2 + k * 3,none⟩) m2).trans g0,(hb2.cell (p := ⟨b2,o2 + k * 3 + 1,none⟩) m2).trans g1,(hb2.cell (p := ⟨b2,o2 + k * 3 + 2,none⟩) m2).trans g2⟩ (fun hHeld2=>?_)
   clear hK K hHeld
   have hHeld := hHeld2
   clear hHeld2
   try simp only [Act.put,List.setIfInBounds_toArray,List.set_cons_zero,List.set_cons_succ]
   refine take_one 9 26 (v := ?_) rfl rfl (by kernel_rfl) (by kernel_rfl) (by kernel_rfl) (fun _ _ _ h=>h) (Or.inl ⟨by rfl,?_⟩) hHeld ?_
   rotate_left
   ·intro w' hSw;(try dsimp only at hSw);obtain ⟨c0,c1,c2,c3,c4,c5⟩ := hSw;go_simp;try with_reducible rfl
   try simp only [Act.put,List.setIfInBounds_toArray,List.set_cons_zero,List.set_cons_succ]
   refine wpAnyH_done (by kernel_rfl) ?_ _
   have B2 := BD.trans (hb2.mono BD.size)
   clear hHeld h0 h1 h2 g0 g1 g2
   go_wp2
   go_roundw
   case rel=>exact ⟨k + 1,by omega,by go_num,B2⟩
   case measure=>simp [intOf];omega
  ·go_wp2
   go_ret
   exact ⟨rfl,hbel⟩
theorem eqSA_u (r q:Rw TA) (w:World) (hr:RpA w r) (hq:RpA w q) (hs:rsA r=rsA q) (hl:rtA r≤1048576):Calls Tryz.prog 127 #[.slice r.1 r.2.2.length r.2.1,.slice q.1 q.2.2.length q.2.1] w fun en w'=>en=.returned (.bool true)∧Below w.heap.size w w' := by
 obtain ⟨a,c,xs⟩ := r
 obtain ⟨b,d,ys⟩ := q
 obtain rfl:xs=ys := hs
 exact eqSA_is a b c d xs w hr hq (Nat.le_trans (rtA_len (a,c,xs)) hl)
theorem resP {fn:Func} {p:Tmp} (hres:fn.results=#[.cell p 156]) (tmps:Array Value) (w:World) (g:Nat) (v0 v1:Value) (hp:tmps.getD p undef=.pointer (some ⟨g,0,none⟩)) (h0:w.cell? ⟨g,0,none⟩=some v0) (h1:w.cell? ⟨g,1,none⟩=some v1) :
  (results fn tmps).run Tryz.prog w=.ok (.agg #[v0,v1]) w := by
 have hp':tmps[p]?.getD undef=.pointer (some ⟨g,0,none⟩) := by simpa using hp
 unfold results
 rw [hres]
 go_simp
set_option maxRecDepth 100000 in
theorem toP_is (x0:Int) (x1:Int) (w:World):Calls Tryz.prog 103 #[.agg #[.int .i64 x0,.int .i64 x1]] w fun e w'=>e=.returned (.agg #[.int .i64 x0,.int .i64 x1])∧Below w.heap.size w w' := by
 have hb0:Below w.heap.size w (((w.alloc (.cells #[.int .i64 x0,.int .i64 x1] 160)).alloc (.cells #[.int .i64 x0,.int .i64 x1] 156)).alloc (.cells #[.int .i64 x0,.int .i64 x1] 156)) :=
  (((Below.refl _ _).alloc (Nat.le_refl _) _).alloc (by simp) _).alloc (by simp;omega) _
 go_enter Tryz.func103,Tryz.ntmps103
 go_wp2
 exact bodyPost_ret (resP rfl _ _ (w.heap.size + 1) _ _ rfl (by simp [go_sem]) (by simp [go_sem])) rfl ⟨rfl,hb0⟩
theorem infoP:(Tryz.prog.info? 156).map (fun i=>(i.zero,i.size,i.bytes))=some (some (.agg #[.int .i64 0,.int .i64 0]),2,16) := by kernel_rfl
set_option maxRecDepth 100000 in
set_option maxHeartbeats 1600000 in
theorem toSP_is (a:Option Addr) (cap:Nat) (xs:List TP) (w:World) (hr:FRow 2 cP w a xs) (hl:xs.length≤1048576) :
  Calls Tryz.prog 72 #[.slice a xs.length cap] w fun e w'=>e=.returned (.slice (some ⟨w.heap.size,0,none⟩) xs.length xs.length)∧FOwn 156 2 cP w.heap.size (some ⟨w.heap.size,0,none⟩) xs.length xs w'∧Below w.heap.size w w' := by
 obtain ⟨i0,hi,hz0,hz1,hz2⟩ := info_parts infoP
 go_enter Tryz.func72,Tryz.ntmps72
 go_wp2_with (first | (at_make;refine wpList_make_full _ rfl _ _ 38 rfl w.heap.size 156 i0 (.agg #[.int .i64 0,.int .i64 0]) 2 Tryz.underlying38 hi hz0 hz1 .i64 .i64 xs.length xs.length xs.length rfl rfl rfl rfl (by rw [hz2];omega) (by unfold maxLen;omega) (Nat.le_refl _) ?_) | go_in)
 intro w1 hown hgrow
 have hbel := (Below.refl w.heap.size w).grown hgrow (Nat.le_refl _) (by simp)
 clear hgrow
 have H0:∃ J:List Value,w1.ownsRow w.heap.size 156 2 (.slice (some ⟨w.heap.size,0,none⟩) xs.length xs.length) xs.length (fl cP (xs.take 0)++J) := ⟨_,hown⟩
 clear hown
 go_wp2
 go_loopw [4] (fun i wr=>∃ k:Nat,k≤xs.length∧i=.int .i64 k∧(∃ J:List Value,wr.ownsRow w.heap.size 156 2 (.slice (some ⟨w.heap.size,0,none⟩) xs.length xs.length) xs.length (fl cP (xs.take k)++J))∧Below w.heap.size w wr) (fun i _=>xs.length - (intOf i).toNat)
 case atStart=>exact ⟨0,by omega,rfl,H0,hbel⟩
 case round =>
  clear H0 hbel
  obtain ⟨k,hk,rfl,⟨J,hown⟩,hbel⟩ := hrel
  have hJ:k * 2 + J.length=xs.length * 2 := by have := hown.1;rw [List.length_append,fl_len lP,List.length_take,Nat.min_eq_left hk] at this;exact this
  by_cases hlt:k < xs.length
  ·obtain ⟨b,off,rfl,hbl,hc⟩ := hr k hlt
   have h0:wr.cell? ⟨b,off + k * 2,none⟩=some (.int .i64 xs[k].1) := (hbel.cell (p := ⟨b,off + k * 2,none⟩) hbl).trans (hc 0 _ rfl)
   have h1:wr.cell? ⟨b,off + k * 2 + 1,none⟩=some (.int .i64 xs[k].2) := (hbel.cell (p := ⟨b,off + k * 2 + 1,none⟩) hbl).trans (hc 1 _ rfl)
   clear hr hc
   have hsn:xs.take k++[(xs[k].1,xs[k].2)]=xs.take (k + 1) := (List.take_succ_eq_append_getElem hlt).symm
   generalize xs[k].1=x0 at h0 hsn
   generalize xs[k].2=x1 at h1 hsn
   go_wp2_with fail
   refine (toP_is x0 x1 _).mono ?_
   rintro e w2 ⟨rfl,hb2⟩
   have hown2 := own_later hown hb2
   have hbel2 := hbel.trans (hb2.mono hbel.size)
   clear h0 h1 hown hbel hb2
   have hs := ((hown2.stored (k * 2) (.int .i64 x0)).1.stored (k * 2 + 1) (.int .i64 x1)).1
   have hp:(((fl cP (xs.take k)++J)).set (k * 2) (.int .i64 x0)).set (k * 2 + 1) (.int .i64 x1)=fl cP (xs.take k++[(x0,x1)])++J.drop 2 := by
    have := fl_put (f := cP) lP (xs.take k) J (x0,x1) (by omega)
    rw [List.length_take,Nat.min_eq_left hk] at this
    exact this
   rw [hp,hsn] at hs
   have HS:Hid (∃ k':Nat,k'≤xs.length∧Value.int .i64 ((k:Int) + 1)=.int .i64 k'∧(∃ J:List Value,((w2.setCell ⟨w.heap.size,k * 2,none⟩ (.int .i64 x0)).setCell ⟨w.heap.size,k * 2 + 1,none⟩ (.int .i64 x1)).ownsRow w.heap.size 156 2 (.slice (some ⟨w.heap.size,0,none⟩) xs.length xs.length) xs.length (fl cP (xs.take k')++J))∧Below w.heap.size w ((w2.setCell ⟨w.heap.size,k * 2,none⟩ (.int .i64 x0)).setCell ⟨w.heap.size,k * 2 + 1,none⟩ (.int .i64 x1))) :=
    ⟨k + 1,by omega,by go_num,⟨_,hs⟩,((hbel2.setCell (Nat.le_refl _) _).setCell (Nat.le_refl _) _)⟩
   have hll:(fl cP (xs.take k)++J).length=xs.length * 2 := hown2.1
   have u0:w2.cell? ⟨w.heap.size,k * 2,none⟩=some (fl cP (xs.take k)++J)[k * 2] := by rw [hown2.cellAt _ (by omega)];exact List.getElem?_eq_getElem (by omega)
   have f0 := hown2.frozenAt (k * 2)
   have u1:w2.cell? ⟨w.heap.size,k * 2 + 1,none⟩=some (fl cP (xs.take k)++J)[k * 2 + 1] := by rw [hown2.cellAt _ (by omega)];exact List.getElem?_eq_getElem (by omega)
   have f1 := hown2.frozenAt (k * 2 + 1)
   have hlt2:(k:Int) < (xs.length:Int) := by omega
   clear hown2 hbel2 hs hp hsn
   generalize (fl cP (xs.take k)++J)[k * 2]=q0 at u0
   generalize (fl cP (xs.take k)++J)[k * 2 + 1]=q1 at u1
   clear hll hJ
   go_wp2
   go_roundw
   case rel=>exact HS.out
   case measure=>simp [intOf];omega
  ·obtain rfl:k=xs.length := by omega
   have hj0:J=[] := List.length_eq_zero_iff.1 (by omega)
   subst hj0
   rw [List.take_length,List.append_nil] at hown
   go_wp2
   go_ret
   exact ⟨rfl,hown,hbel⟩
theorem toSP_u (r:Rw TP) (w:World) (hd:RpP w r) (hl:rtP r≤1048576):Calls Tryz.prog 72 #[.slice r.1 r.2.2.length r.2.1] w fun en w'=>∃ y:Rw TP,en=.returned (.slice y.1 y.2.2.length y.2.1)∧rsP y=rsP r∧RoP w.heap.size w' y∧Below w.heap.size w w' :=
 (toSP_is r.1 r.2.1 r.2.2 w hd (Nat.le_trans (rtP_len r) hl)).mono fun e w' h=>⟨(some ⟨w.heap.size,0,none⟩,r.2.2.length,r.2.2),h.1,rfl,h.2.1,h.2.2⟩
set_option maxRecDepth 100000 in
theorem eqP_is (x0:Int) (x1:Int) (w:World):Calls Tryz.prog 125 #[.agg #[.int .i64 x0,.int .i64 x1],.agg #[.int .i64 x0,.int .i64 x1]] w fun e w'=>e=.returned (.bool true)∧Below w.heap.size w w' := by
 have hb0:Below w.heap.size w ((w.alloc (.cells #[.int .i64 x0,.int .i64 x1] 156)).alloc (.cells #[.int .i64 x0,.int .i64 x1] 156)) := ((Below.refl _ _).alloc (Nat.le_refl _) _).alloc (by simp) _
 go_enter Tryz.func125,Tryz.ntmps125
 go_wp2
 go_ret
 exact ⟨rfl,hb0⟩
set_option maxRecDepth 100000 in
set_option maxHeartbeats 1600000 in
theorem eqSP_is (a b:Option Addr) (ca cb:Nat) (xs:List TP) (w:World) (ha:FRow 2 cP w a xs) (hb:FRow 2 cP w b xs) (hl:xs.length≤1048576) :
  Calls Tryz.prog 86 #[.slice a xs.length ca,.slice b xs.length cb] w fun e w'=>e=.returned (.bool true)∧Below w.heap.size w w' := by
 go_enter Tryz.func86,Tryz.ntmps86
 go_wp2
 go_loopw [5] (fun i wr=>∃ k:Nat,k≤xs.length∧i=.int .i64 k∧Below w.heap.size w wr) (fun i _=>xs.length - (intOf i).toNat)
 case atStart=>exact ⟨0,by omega,rfl,Below.refl _ _⟩
 case round =>
  obtain ⟨k,hk,rfl,hbel⟩ := hrel
  by_cases hlt:k < xs.length
  ·obtain ⟨b1,o1,rfl,l1,h⟩ := ha k hlt
   obtain ⟨b2,o2,rfl,l2,g⟩ := hb k hlt
   have hlt2:(k:Int) < (xs.length:Int) := by omega
   have m1:b1 < wr.drew.heap.size := Nat.lt_of_lt_of_le l1 hbel.size
   have m2:b2 < wr.drew.heap.size := Nat.lt_of_lt_of_le l2 hbel.size
   have BD := hbel.drew
   have h0:wr.drew.cell? ⟨b1,o1 + k * 2,none⟩=some (.int .i64 xs[k].1) := (hbel.cell (p := ⟨b1,o1 + k * 2,none⟩) l1).trans (h 0 _ rfl)
   have h1:wr.drew.cell? ⟨b1,o1 + k * 2 + 1,none⟩=some (.int .i64 xs[k].2) := (hbel.cell (p := ⟨b1,o1 + k * 2 + 1,none⟩) l1).trans (h 1 _ rfl)
   have g0:wr.drew.cell? ⟨b2,o2 + k * 2,none⟩=some (.int .i64 xs[k].1) := (hbel.cell (p := ⟨b2,o2 + k * 2,none⟩) l2).trans (g 0 _ rfl)
   have g1:wr.drew.cell? ⟨b2,o2 + k * 2 + 1,none⟩=some (.int .i64 xs[k].2) := (hbel.cell (p := ⟨b2,o2 + k * 2 + 1,none⟩) l2).trans (g 1 _ rfl)
   generalize xs[k].1=x0 at h0 g0
   generalize xs[k].2=x1 at h1 g1
   clear ha hb h g
   go_wp2_with fail
   refine wp_region_held_drew (S := (fun V:World=>V.cell? ⟨b1,o1 + k * 2,none⟩=some (.int .i64 x0)∧V.cell? ⟨b1,o1 + k * 2 + 1,none⟩=some (.int .i64 x1)∧V.cell? ⟨b2,o2 + k * 2,none⟩=some (.int .i64 x0)∧V.cell? ⟨b2,o2 + k * 2 + 1,none⟩=some (.int .i64 x1))) (by kernel_rfl) ⟨h0,h1,g0,g1⟩ (fun hHeld=>?_)
   refine take_one 0 17 (v := ?_) rfl rfl (by kernel_rfl) (by kernel_rfl) (by kernel_rfl) (fun _ _ _ h=>h) (Or.inl ⟨by rfl,?_⟩) hHeld ?_
   rotate_left
   ·intro w' hSw;(try dsimp only at hSw);obtain ⟨c0,c1,c2,c3⟩ := hSw;go_simp;try with_reducible rfl
   try simp only [Act.put,List.setIfInBounds_toArray,List.set_cons_zero,List.set_cons_succ]
   refine take_one 1 18 (v := ?_) rfl rfl (by kernel_rfl) (by kernel_rfl) (by kernel_rfl) (fun _ _ _ h=>h) (Or.inl ⟨by rfl,?_⟩) hHeld ?_
   rotate_left
   ·intro w' hSw;(try dsimp only at hSw);obtain ⟨c0,c1,c2,c3⟩ := hSw;go_simp;try with_reducible rfl
   try simp only [Act.put,List.setIfInBounds_toArray,List.set_cons_zero,List.set_cons_succ]
   refine take_one 2 19 (v := ?_) rfl rfl (by kernel_rfl) (by kernel_rfl) (by kernel_rfl) (fun _ _ _ h=>h) (Or.inl ⟨by rfl,?_⟩) hHeld ?_
   rotate_left
   ·intro w' hSw;(try dsimp only at hSw);obtain ⟨c0,c1,c2,c3⟩ := hSw;go_simp;try with_reducible rfl
   try simp only [Act.put,List.setIfInBounds_toArray,List.set_cons_zero,List.set_cons_succ]
   refine take_one 3 20 (v := ?_) rfl rfl (by kernel_rfl) (by kernel_rfl) (by kernel_rfl) (fun _ _ _ h=>h) (Or.inl ⟨by rfl,?_⟩) hHeld ?_
   rotate_left
   ·intro w' hSw;(try dsimp only at hSw);obtain ⟨c0,c1,c2,c3⟩ := hSw;go_simp;try with_reducible rfl
   try simp only [Act.put,List.setIfInBounds_toArray,List.set_cons_zero,List.set_cons_succ]
   refine take_one 4 21 (v := ?_) rfl rfl (by kernel_rfl) (by kernel_rfl) (by kernel_rfl) (fun _ _ _ h=>h) (Or.inl ⟨by rfl,?_⟩) hHeld ?_
   rotate_left
   ·intro w' hSw;(try dsimp only at hSw);obtain ⟨c0,c1,c2,c3⟩ := hSw;go_simp;try with_reducible rfl
   try simp only [Act.put,List.setIfInBounds_toArray,List.set_cons_zero,List.set_cons_succ]
   refine take_one 5 22 (v := ?_) rfl rfl (by kernel_rfl) (by kernel_rfl) (by kernel_rfl) (fun _ _ _ h=>h) (Or.inl ⟨by rfl,?_⟩) hHeld ?_
   rotate_left
   ·intro w' hSw;(try dsimp only at hSw);obtain ⟨c0,c1,c2,c3⟩ := hSw;go_simp;try with_reducible rfl
   try simp only [Act.put,List.setIfInBounds_toArray,List.set_cons_zero,List.set_cons_succ]
   refine take_one 6 23 (v := ?_) rfl rfl (by kernel_rfl) (by kernel_rfl) (by kernel_rfl) (fun _ _ _ h=>h) (Or.inl ⟨by rfl,?_⟩) hHeld ?_
   rotate_left
   ·intro w' hSw;(try dsimp only at hSw);obtain ⟨c0,c1,c2,c3⟩ := hSw;go_simp;try with_reducible rfl
   try simp only [Act.put,List.setIfInBounds_toArray,List.set_cons_zero,List.set_cons_succ]
   refine take_one 7 24 (v := ?_) rfl rfl (by kernel_rfl) (by kernel_rfl) (by kernel_rfl) (fun _ _ _ h=>h) (Or.inl ⟨by rfl,?_⟩) hHeld ?_
   rotate_left
   ·intro w' hSw;(try dsimp only at hSw);obtain ⟨c0,c1,c2,c3⟩ := hSw;go_simp;try with_reducible rfl
   try simp only [Act.put,List.setIfInBounds_toArray,List.set_cons_zero,List.set_cons_succ]
   refine wpAnyH_ready (rs := [8]) (by kernel_rfl) (by simp) ?_
   refine AllReadyH.cons (i := 8) rfl (fun K hK=>?_) AllReadyH.nil
   go_simp
   refine (eqP_is x0 x1 _).mono ?_
   rintro e w2 ⟨rfl,hb2⟩
   go_wp2_with fail
   refine hK.out _ _ ⟨(hb2.cell (p := ⟨b1,o1 + k * 2,none⟩) m1).trans h0,(hb2.cell (p := ⟨b1,o1 + k * 2 + 1,none⟩) m1).trans h1,(hb2.cell (p := ⟨b2,o2 + k * 2,none⟩) m2).trans g0,(hb2.cell (p := ⟨b2,o2 + k * 2 + 1,none⟩) m2).trans g1⟩ (fun hHeld2=>?_)
   clear hK K hHeld
   have hHeld := hHeld2
   clear hHeld2
   try simp only [Act.put,List.setIfInBounds_toArray,List.set_cons_zero,List.set_cons_succ]
   refine take_one 9 26 (v := ?_) rfl rfl (by kernel_rfl) (by kernel_rfl) (by kernel_rfl) (fun _ _ _ h=>h) (Or.inl ⟨by rfl,?_⟩) hHeld ?_
   rotate_left
   ·intro w' hSw;(try dsimp only at hSw);obtain ⟨c0,c1,c2,c3⟩ := hSw;go_simp;try with_reducible rfl
   try simp only [Act.put,List.setIfInBounds_toArray,List.set_cons_zero,List.set_cons_succ]
   refine wpAnyH_done (by kernel_rfl) ?_ _
   have B2 := BD.trans (hb2.mono BD.size)
   clear hHeld h0 h1 g0 g1
   go_wp2
   go_roundw
   case rel=>exact ⟨k + 1,by omega,by go_num,B2⟩
   case measure=>simp [intOf];omega
  ·go_wp2
   go_ret
   exact ⟨rfl,hbel⟩
theorem eqSP_u (r q:Rw TP) (w:World) (hr:RpP w r) (hq:RpP w q) (hs:rsP r=rsP q) (hl:rtP r≤1048576):Calls Tryz.prog 86 #[.slice r.1 r.2.2.length r.2.1,.slice q.1 q.2.2.length q.2.1] w fun en w'=>en=.returned (.bool true)∧Below w.heap.size w w' := by
 obtain ⟨a,c,xs⟩ := r
 obtain ⟨b,d,ys⟩ := q
 obtain rfl:xs=ys := hs
 exact eqSP_is a b c d xs w hr hq (Nat.le_trans (rtP_len (a,c,xs)) hl)
theorem resW {fn:Func} {p:Tmp} (hres:fn.results=#[.cell p 69]) (tmps:Array Value) (w:World) (g:Nat) (v0 v1 v2 v3:Value) (hp:tmps.getD p undef=.pointer (some ⟨g,0,none⟩)) (h0:w.cell? ⟨g,0,none⟩=some v0) (h1:w.cell? ⟨g,1,none⟩=some v1) (h2:w.cell? ⟨g,2,none⟩=some v2) (h3:w.cell? ⟨g,3,none⟩=some v3) :
  (results fn tmps).run Tryz.prog w=.ok (.agg #[v0,v1,v2,v3]) w := by
 have hp':tmps[p]?.getD undef=.pointer (some ⟨g,0,none⟩) := by simpa using hp
 unfold results
 rw [hres]
 go_simp
set_option maxRecDepth 100000 in
theorem toW_is (x0:Bool) (x1:Int) (x2:Int) (x3:Int) (w:World):Calls Tryz.prog 73 #[.agg #[.bool x0,.int .i64 x1,.int .i64 x2,.int .i64 x3]] w fun e w'=>e=.returned (.agg #[.bool x0,.int .i64 x1,.int .i64 x2,.int .i64 x3])∧Below w.heap.size w w' := by
 have hb0:Below w.heap.size w (((w.alloc (.cells #[.bool x0,.int .i64 x1,.int .i64 x2,.int .i64 x3] 136)).alloc (.cells #[.bool x0,.int .i64 x1,.int .i64 x2,.int .i64 x3] 69)).alloc (.cells #[.bool x0,.int .i64 x1,.int .i64 x2,.int .i64 x3] 69)) :=
  (((Below.refl _ _).alloc (Nat.le_refl _) _).alloc (by simp) _).alloc (by simp;omega) _
 go_enter Tryz.func73,Tryz.ntmps73
 go_wp2
 exact bodyPost_ret (resW rfl _ _ (w.heap.size + 1) _ _ _ _ rfl (by simp [go_sem]) (by simp [go_sem]) (by simp [go_sem]) (by simp [go_sem])) rfl ⟨rfl,hb0⟩
theorem infoW:(Tryz.prog.info? 69).map (fun i=>(i.zero,i.size,i.bytes))=some (some (.agg #[.bool false,.int .i64 0,.int .i64 0,.int .i64 0]),4,32) := by kernel_rfl
set_option maxRecDepth 100000 in
set_option maxHeartbeats 1600000 in
theorem toSW_is (a:Option Addr) (cap:Nat) (xs:List TW) (w:World) (hr:FRow 4 cW w a xs) (hl:xs.length≤1048576) :
  Calls Tryz.prog 39 #[.slice a xs.length cap] w fun e w'=>e=.returned (.slice (some ⟨w.heap.size,0,none⟩) xs.length xs.length)∧FOwn 69 4 cW w.heap.size (some ⟨w.heap.size,0,none⟩) xs.length xs w'∧Below w.heap.size w w' := by
 obtain ⟨i0,hi,hz0,hz1,hz2⟩ := info_parts infoW
 go_enter Tryz.func39,Tryz.ntmps39
 go_wp2_with (first | (at_make;refine wpList_make_full _ rfl _ _ 42 rfl w.heap.size 69 i0 (.agg #[.bool false,.int .i64 0,.int .i64 0,.int .i64 0]) 4 Tryz.underlying42 hi hz0 hz1 .i64 .i64 xs.length xs.length xs.length rfl rfl rfl rfl (by rw [hz2];omega) (by unfold maxLen;omega) (Nat.le_refl _) ?_) | go_in)
 intro w1 hown hgrow
 have hbel := (Below.refl w.heap.size w).grown hgrow (Nat.le_refl _) (by simp)
 clear hgrow
 have H0:∃ J:List Value,w1.ownsRow w.heap.size 69 4 (.slice (some ⟨w.heap.size,0,none⟩) xs.length xs.length) xs.length (fl cW (xs.take 0)++J) := ⟨_,hown⟩
 clear hown
 go_wp2
 go_loopw [4] (fun i wr=>∃ k:Nat,k≤xs.length∧i=.int .i64 k∧(∃ J:List Value,wr.ownsRow w.heap.size 69 4 (.slice (some ⟨w.heap.size,0,none⟩) xs.length xs.length) xs.length (fl cW (xs.take k)++J))∧Below w.heap.size w wr) (fun i _=>xs.length - (intOf i).toNat)
 case atStart=>exact ⟨0,by omega,rfl,H0,hbel⟩
 case round =>
  clear H0 hbel
  obtain ⟨k,hk,rfl,⟨J,hown⟩,hbel⟩ := hrel
  have hJ:k * 4 + J.length=xs.length * 4 := by have := hown.1;rw [List.length_append,fl_len lW,List.length_take,Nat.min_eq_left hk] at this;exact this
  by_cases hlt:k < xs.length
  ·obtain ⟨b,off,rfl,hbl,hc⟩ := hr k hlt
   have h0:wr.cell? ⟨b,off + k * 4,none⟩=some (.bool xs[k].1) := (hbel.cell (p := ⟨b,off + k * 4,none⟩) hbl).trans (hc 0 _ rfl)
   have h1:wr.cell? ⟨b,off + k * 4 + 1,none⟩=some (.int .i64 xs[k].2.1) := (hbel.cell (p := ⟨b,off + k * 4 + 1,none⟩) hbl).trans (hc 1 _ rfl)
   have h2:wr.cell? ⟨b,off + k * 4 + 2,none⟩=some (.int .i64 xs[k].2.2.1) := (hbel.cell (p := ⟨b,off + k * 4 + 2,none⟩) hbl).trans (hc 2 _ rfl)
   have h3:wr.cell? ⟨b,off + k * 4 + 3,none⟩=some (.int .i64 xs[k].2.2.2) := (hbel.cell (p := ⟨b,off + k * 4 + 3,none⟩) hbl).trans (hc 3 _ rfl)
   clear hr hc
   have hsn:xs.take k++[(xs[k].1,xs[k].2.1,xs[k].2.2.1,xs[k].2.2.2)]=xs.take (k + 1) := (List.take_succ_eq_append_getElem hlt).symm
   generalize xs[k].1=x0 at h0 hsn
   generalize xs[k].2.1=x1 at h1 hsn
   generalize xs[k].2.2.1=x2 at h2 hsn
   generalize xs[k].2.2.2=x3 at h3 hsn
   go_wp2_with fail
   refine (toW_is x0 x1 x2 x3 _).mono ?_
   rintro e w2 ⟨rfl,hb2⟩
   have hown2 := own_later hown hb2
   have hbel2 := hbel.trans (hb2.mono hbel.size)
   clear h0 h1 h2 h3 hown hbel hb2
   have hs := ((((hown2.stored (k * 4) (.bool x0)).1.stored (k * 4 + 1) (.int .i64 x1)).1.stored (k * 4 + 2) (.int .i64 x2)).1.stored (k * 4 + 3) (.int .i64 x3)).1
   have hp:(((((fl cW (xs.take k)++J)).set (k * 4) (.bool x0)).set (k * 4 + 1) (.int .i64 x1)).set (k * 4 + 2) (.int .i64 x2)).set (k * 4 + 3) (.int .i64 x3)=fl cW (xs.take k++[(x0,x1,x2,x3)])++J.drop 4 := by
    have := fl_put (f := cW) lW (xs.take k) J (x0,x1,x2,x3) (by omega)
    rw [List.length_take,Nat.min_eq_left hk] at this
    exact this
   rw [hp,hsn] at hs
   have HS:Hid (∃ k':Nat,k'≤xs.length∧Value.int .i64 ((k:Int) + 1)=.int .i64 k'∧(∃ J:List Value,((((w2.setCell ⟨w.heap.size,k * 4,none⟩ (.bool x0)).setCell ⟨w.heap.size,k * 4 + 1,none⟩ (.int .i64 x1)).setCell ⟨w.heap.size,k * 4 + 2,none⟩ (.int .i64 x2)).setCell ⟨w.heap.size,k * 4 + 3,none⟩ (.int .i64 x3)).ownsRow w.heap.size 69 4 (.slice (some ⟨w.heap.size,0,none⟩) xs.length xs.length) xs.length (fl cW (xs.take k')++J))∧Below w.heap.size w ((((w2.setCell ⟨w.heap.size,k * 4,none⟩ (.bool x0)).setCell ⟨w.heap.size,k * 4 + 1,none⟩ (.int .i64 x1)).setCell ⟨w.heap.size,k * 4 + 2,none⟩ (.int .i64 x2)).setCell ⟨w.heap.size,k * 4 + 3,none⟩ (.int .i64 x3))) :=
    ⟨k + 1,by omega,by go_num,⟨_,hs⟩,((((hbel2.setCell (Nat.le_refl _) _).setCell (Nat.le_refl _) _).setCell (Nat.le_refl _) _).setCell (Nat.le_refl _) _)⟩
   have hll:(fl cW (xs.take k)++J).length=xs.length * 4 := hown2.1
   have u0:w2.cell? ⟨w.heap.size,k * 4,none⟩=some (fl cW (xs.take k)++J)[k * 4] := by rw [hown2.cellAt _ (by omega)];exact List.getElem?_eq_getElem (by omega)
   have f0 := hown2.frozenAt (k * 4)
   have u1:w2.cell? ⟨w.heap.size,k * 4 + 1,none⟩=some (fl cW (xs.take k)++J)[k * 4 + 1] := by rw [hown2.cellAt _ (by omega)];exact List.getElem?_eq_getElem (by omega)
   have f1 := hown2.frozenAt (k * 4 + 1)
   have u2:w2.cell? ⟨w.heap.size,k * 4 + 2,none⟩=some (fl cW (xs.take k)++J)[k * 4 + 2] := by rw [hown2.cellAt _ (by omega)];exact List.getElem?_eq_getElem (by omega)
   have f2 := hown2.frozenAt (k * 4 + 2)
   have u3:w2.cell? ⟨w.heap.size,k * 4 + 3,none⟩=some (fl cW (xs.take k)++J)[k * 4 + 3] := by rw [hown2.cellAt _ (by omega)];exact List.getElem?_eq_getElem (by omega)
   have f3 := hown2.frozenAt (k * 4 + 3)
   have hlt2:(k:Int) < (xs.length:Int) := by omega
   clear hown2 hbel2 hs hp hsn
   generalize (fl cW (xs.take k)++J)[k * 4]=q0 at u0
   generalize (fl cW (xs.take k)++J)[k * 4 + 1]=q1 at u1
   generalize (fl cW (xs.take k)++J)[k * 4 + 2]=q2 at u2
   generalize (fl cW (xs.take k)++J)[k * 4 + 3]=q3 at u3
   clear hll hJ
   go_wp2
   go_roundw
   case rel=>exact HS.out
   case measure=>simp [intOf];omega
  ·obtain rfl:k=xs.length := by omega
   have hj0:J=[] := List.length_eq_zero_iff.1 (by omega)
   subst hj0
   rw [List.take_length,List.append_nil] at hown
   go_wp2
   go_ret
   exact ⟨rfl,hown,hbel⟩
theorem toSW_u (r:Rw TW) (w:World) (hd:RpW w r) (hl:rtW r≤1048576):Calls Tryz.prog 39 #[.slice r.1 r.2.2.length r.2.1] w fun en w'=>∃ y:Rw TW,en=.returned (.slice y.1 y.2.2.length y.2.1)∧rsW y=rsW r∧RoW w.heap.size w' y∧Below w.heap.size w w' :=
 (toSW_is r.1 r.2.1 r.2.2 w hd (Nat.le_trans (rtW_len r) hl)).mono fun e w' h=>⟨(some ⟨w.heap.size,0,none⟩,r.2.2.length,r.2.2),h.1,rfl,h.2.1,h.2.2⟩
set_option maxRecDepth 100000 in
theorem eqW_is (x0:Bool) (x1:Int) (x2:Int) (x3:Int) (w:World):Calls Tryz.prog 87 #[.agg #[.bool x0,.int .i64 x1,.int .i64 x2,.int .i64 x3],.agg #[.bool x0,.int .i64 x1,.int .i64 x2,.int .i64 x3]] w fun e w'=>e=.returned (.bool true)∧Below w.heap.size w w' := by
 have hb0:Below w.heap.size w ((w.alloc (.cells #[.bool x0,.int .i64 x1,.int .i64 x2,.int .i64 x3] 69)).alloc (.cells #[.bool x0,.int .i64 x1,.int .i64 x2,.int .i64 x3] 69)) := ((Below.refl _ _).alloc (Nat.le_refl _) _).alloc (by simp) _
 go_enter Tryz.func87,Tryz.ntmps87
 go_wp2
 go_ret
 exact ⟨rfl,hb0⟩
set_option maxRecDepth 100000 in
set_option maxHeartbeats 1600000 in
theorem eqSW_is (a b:Option Addr) (ca cb:Nat) (xs:List TW) (w:World) (ha:FRow 4 cW w a xs) (hb:FRow 4 cW w b xs) (hl:xs.length≤1048576) :
  Calls Tryz.prog 49 #[.slice a xs.length ca,.slice b xs.length cb] w fun e w'=>e=.returned (.bool true)∧Below w.heap.size w w' := by
 go_enter Tryz.func49,Tryz.ntmps49
 go_wp2
 go_loopw [5] (fun i wr=>∃ k:Nat,k≤xs.length∧i=.int .i64 k∧Below w.heap.size w wr) (fun i _=>xs.length - (intOf i).toNat)
 case atStart=>exact ⟨0,by omega,rfl,Below.refl _ _⟩
 case round =>
  obtain ⟨k,hk,rfl,hbel⟩ := hrel
  by_cases hlt:k < xs.length
  ·obtain ⟨b1,o1,rfl,l1,h⟩ := ha k hlt
   obtain ⟨b2,o2,rfl,l2,g⟩ := hb k hlt
   have hlt2:(k:Int) < (xs.length:Int) := by omega
   have m1:b1 < wr.drew.heap.size := Nat.lt_of_lt_of_le l1 hbel.size
   have m2:b2 < wr.drew.heap.size := Nat.lt_of_lt_of_le l2 hbel.size
   have BD := hbel.drew
   have h0:wr.drew.cell? ⟨b1,o1 + k * 4,none⟩=some (.bool xs[k].1) := (hbel.cell (p := ⟨b1,o1 + k * 4,none⟩) l1).trans (h 0 _ rfl)
   have h1:wr.drew.cell? ⟨b1,o1 + k * 4 + 1,none⟩=some (.int .i64 xs[k].2.1) := (hbel.cell (p := ⟨b1,o1 + k * 4 + 1,none⟩) l1).trans (h 1 _ rfl)
   have h2:wr.drew.cell? ⟨b1,o1 + k * 4 + 2,none⟩=some (.int .i64 xs[k].2.2.1) := (hbel.cell (p := ⟨b1,o1 + k * 4 + 2,none⟩) l1).trans (h 2 _ rfl)
   have h3:wr.drew.cell? ⟨b1,o1 + k * 4 + 3,none⟩=some (.int .i64 xs[k].2.2.2) := (hbel.cell (p := ⟨b1,o1 + k * 4 + 3,none⟩) l1).trans (h 3 _ rfl)
   have g0:wr.drew.cell? ⟨b2,o2 + k * 4,none⟩=some (.bool xs[k].1) := (hbel.cell (p := ⟨b2,o2 + k * 4,none⟩) l2).trans (g 0 _ rfl)
   have g1:wr.drew.cell? ⟨b2,o2 + k * 4 + 1,none⟩=some (.int .i64 xs[k].2.1) := (hbel.cell (p := ⟨b2,o2 + k * 4 + 1,none⟩) l2).trans (g 1 _ rfl)
   have g2:wr.drew.cell? ⟨b2,o2 + k * 4 + 2,none⟩=some (.int .i64 xs[k].2.2.1) := (hbel.cell (p := ⟨b2,o2 + k * 4 + 2,none⟩) l2).trans (g 2 _ rfl)
   have g3:wr.drew.cell? ⟨b2,o2 + k * 4 + 3,none⟩=some (.int .i64 xs[k].2.2.2) := (hbel.cell (p := ⟨b2,o2 + k * 4 + 3,none⟩) l2).trans (g 3 _ rfl)
   generalize xs[k].1=x0 at h0 g0
   generalize xs[k].2.1=x1 at h1 g1
   generalize xs[k].2.2.1=x2 at h2 g2
   generalize xs[k].2.2.2=x3 at h3 g3
   clear ha hb h g
   go_wp2_with fail
   refine wp_region_held_drew (S := (fun V:World=>V.cell? ⟨b1,o1 + k * 4,none⟩=some (.bool x0)∧V.cell? ⟨b1,o1 + k * 4 + 1,none⟩=some (.int .i64 x1)∧V.cell? ⟨b1,o1 + k * 4 + 2,none⟩=some (.int .i64 x2)∧V.cell? ⟨b1,o1 + k * 4 + 3,none⟩=some (.int .i64 x3)∧V.cell? ⟨b2,o2 + k * 4,none⟩=some (.bool x0)∧V.cell? ⟨b2,o2 + k * 4 + 1,none⟩=some (.int .i64 x1)∧V.cell? ⟨b2,o2 + k * 4 + 2,none⟩=some (.int .i64 x2)∧V.cell? ⟨b2,o2 + k * 4 + 3,none⟩=some (.int .i64 x3))) (by kernel_rfl) ⟨h0,h1,h2,h3,g0,g1,g2,g3⟩ (fun hHeld=>?_)
   refine take_one 0 17 (v := ?_) rfl rfl (by kernel_rfl) (by kernel_rfl) (by kernel_rfl) (fun _ _ _ h=>h) (Or.inl ⟨by rfl,?_⟩) hHeld ?_
   rotate_left
   ·intro w' hSw;(try dsimp only at hSw);obtain ⟨c0,c1,c2,c3,c4,c5,c6,c7⟩ := hSw;go_simp;try with_reducible rfl
   try simp only [Act.put,List.setIfInBounds_toArray,List.set_cons_zero,List.set_cons_succ]
   refine take_one 1 18 (v := ?_) rfl rfl (by kernel_rfl) (by kernel_rfl) (by kernel_rfl) (fun _ _ _ h=>h) (Or.inl ⟨by rfl,?_⟩) hHeld ?_
   rotate_left
   ·intro w' hSw;(try dsimp only at hSw);obtain ⟨c0,c1,c2,c3,c4,c5,c6,c7⟩ := hSw;go_simp;try with_reducible rfl
   try simp only [Act.put,List.setIfInBounds_toArray,List.set_cons_zero,List.set_cons_succ]
   refine take_one 2 19 (v := ?_) rfl rfl (by kernel_rfl) (by kernel_rfl) (by kernel_rfl) (fun _ _ _ h=>h) (Or.inl ⟨by rfl,?_⟩) hHeld ?_
   rotate_left
   ·intro w' hSw;(try dsimp only at hSw);obtain ⟨c0,c1,c2,c3,c4,c5,c6,c7⟩ := hSw;go_simp;try with_reducible rfl
   try simp only [Act.put,List.setIfInBounds_toArray,List.set_cons_zero,List.set_cons_succ]
   refine take_one 3 20 (v := ?_) rfl rfl (by kernel_rfl) (by kernel_rfl) (by kernel_rfl) (fun _ _ _ h=>h) (Or.inl ⟨by rfl,?_⟩) hHeld ?_
   rotate_left
   ·intro w' hSw;(try dsimp only at hSw);obtain ⟨c0,c1,c2,c3,c4,c5,c6,c7⟩ := hSw;go_simp;try with_reducible rfl
   try simp only [Act.put,List.setIfInBounds_toArray,List.set_cons_zero,List.set_cons_succ]
   refine take_one 4 21 (v := ?_) rfl rfl (by kernel_rfl) (by kernel_rfl) (by kernel_rfl) (fun _ _ _ h=>h) (Or.inl ⟨by rfl,?_⟩) hHeld ?_
   rotate_left
   ·intro w' hSw;(try dsimp only at hSw);obtain ⟨c0,c1,c2,c3,c4,c5,c6,c7⟩ := hSw;go_simp;try with_reducible rfl
   try simp only [Act.put,List.setIfInBounds_toArray,List.set_cons_zero,List.set_cons_succ]
   refine take_one 5 22 (v := ?_) rfl rfl (by kernel_rfl) (by kernel_rfl) (by kernel_rfl) (fun _ _ _ h=>h) (Or.inl ⟨by rfl,?_⟩) hHeld ?_
   rotate_left
   ·intro w' hSw;(try dsimp only at hSw);obtain ⟨c0,c1,c2,c3,c4,c5,c6,c7⟩ := hSw;go_simp;try with_reducible rfl
   try simp only [Act.put,List.setIfInBounds_toArray,List.set_cons_zero,List.set_cons_succ]
   refine take_one 6 23 (v := ?_) rfl rfl (by kernel_rfl) (by kernel_rfl) (by kernel_rfl) (fun _ _ _ h=>h) (Or.inl ⟨by rfl,?_⟩) hHeld ?_
   rotate_left
   ·intro w' hSw;(try dsimp only at hSw);obtain ⟨c0,c1,c2,c3,c4,c5,c6,c7⟩ := hSw;go_simp;try with_reducible rfl
   try simp only [Act.put,List.setIfInBounds_toArray,List.set_cons_zero,List.set_cons_succ]
   refine take_one 7 24 (v := ?_) rfl rfl (by kernel_rfl) (by kernel_rfl) (by kernel_rfl) (fun _ _ _ h=>h) (Or.inl ⟨by rfl,?_⟩) hHeld ?_
   rotate_left
   ·intro w' hSw;(try dsimp only at hSw);obtain ⟨c0,c1,c2,c3,c4,c5,c6,c7⟩ := hSw;go_simp;try with_reducible rfl
   try simp only [Act.put,List.setIfInBounds_toArray,List.set_cons_zero,List.set_cons_succ]
   refine wpAnyH_ready (rs := [8]) (by kernel_rfl) (by simp) ?_
   refine AllReadyH.cons (i := 8) rfl (fun K hK=>?_) AllReadyH.nil
   go_simp
   refine (eqW_is x0 x1 x2 x3 _).mono ?_
   rintro e w2 ⟨rfl,hb2⟩
   go_wp2_with fail
   refine hK.out _ _ ⟨(hb2.cell (p := ⟨b1,o1 + k * 4,none⟩) m1).trans h0,(hb2.cell (p := ⟨b1,o1 + k * 4 + 1,none⟩) m1).trans h1,(hb2.cell (p := ⟨b1,o1 + k * 4 + 2,none⟩) m1).trans h2,(hb2.cell (p := ⟨b1,o1 + k * 4 + 3,none⟩) m1).trans h3,(hb2.cell (p := ⟨b2,o2 + k * 4,none⟩) m2).trans g0,(hb2.cell (p := ⟨b2,o2 + k * 4 + 1,none⟩) m2).trans g1,(hb2.cell (p := ⟨b2,o2 + k * 4 + 2,none⟩) m2).trans g2,(hb2.cell (p := ⟨b2,o2 + k * 4 + 3,none⟩) m2).trans g3⟩ (fun hHeld2=>?_)
   clear hK K hHeld
   have hHeld := hHeld2
   clear hHeld2
   try simp only [Act.put,List.setIfInBounds_toArray,List.set_cons_zero,List.set_cons_succ]
   refine take_one 9 26 (v := ?_) rfl rfl (by kernel_rfl) (by kernel_rfl) (by kernel_rfl) (fun _ _ _ h=>h) (Or.inl ⟨by rfl,?_⟩) hHeld ?_
   rotate_left
   ·intro w' hSw;(try dsimp only at hSw);obtain ⟨c0,c1,c2,c3,c4,c5,c6,c7⟩ := hSw;go_simp;try with_reducible rfl
   try simp only [Act.put,List.setIfInBounds_toArray,List.set_cons_zero,List.set_cons_succ]
   refine wpAnyH_done (by kernel_rfl) ?_ _
   have B2 := BD.trans (hb2.mono BD.size)
   clear hHeld h0 h1 h2 h3 g0 g1 g2 g3
   go_wp2
   go_roundw
   case rel=>exact ⟨k + 1,by omega,by go_num,B2⟩
   case measure=>simp [intOf];omega
  ·go_wp2
   go_ret
   exact ⟨rfl,hbel⟩
theorem eqSW_u (r q:Rw TW) (w:World) (hr:RpW w r) (hq:RpW w q) (hs:rsW r=rsW q) (hl:rtW r≤1048576):Calls Tryz.prog 49 #[.slice r.1 r.2.2.length r.2.1,.slice q.1 q.2.2.length q.2.1] w fun en w'=>en=.returned (.bool true)∧Below w.heap.size w w' := by
 obtain ⟨a,c,xs⟩ := r
 obtain ⟨b,d,ys⟩ := q
 obtain rfl:xs=ys := hs
 exact eqSW_is a b c d xs w hr hq (Nat.le_trans (rtW_len (a,c,xs)) hl)
end Go.Proofs.YtjcmbbnklfemcaaGreat.Nd

set_option linter.unusedVariables false
set_option maxRecDepth 100000
namespace Go.Proofs.YtjcmbbnklfemcaaGreat.Nd
open Go Go.RowKit Go.Joins Own Draw

theorem resE {fn : Func} {p : Tmp} (hres : fn.results = #[.cell p 109]) (tmps : Array Value) (w : World) (g : Nat) (v0 v1 v2 v3 v4 v5 v6 v7 v8 v9 v10 : Value) (hp : tmps.getD p undef = .pointer (some ⟨g, 0, none⟩)) (h0 : w.cell? ⟨g, 0, none⟩ = some v0) (h1 : w.cell? ⟨g, 1, none⟩ = some v1) (h2 : w.cell? ⟨g, 2, none⟩ = some v2) (h3 : w.cell? ⟨g, 3, none⟩ = some v3) (h4 : w.cell? ⟨g, 4, none⟩ = some v4) (h5 : w.cell? ⟨g, 5, none⟩ = some v5) (h6 : w.cell? ⟨g, 6, none⟩ = some v6) (h7 : w.cell? ⟨g, 7, none⟩ = some v7) (h8 : w.cell? ⟨g, 8, none⟩ = some v8) (h9 : w.cell? ⟨g, 9, none⟩ = some v9) (h10 : w.cell? ⟨g, 10, none⟩ = some v10) :
    (results fn tmps).run Tryz.prog w = .ok (.agg #[v0, v1, v2, v3, v4, v5, v6, v7, v8, v9, v10]) w := by
  have hp' : tmps[p]?.getD undef = .pointer (some ⟨g, 0, none⟩) := by simpa using hp
  unfold results
  rw [hres]
  go_simp
set_option maxRecDepth 100000 in
set_option maxHeartbeats 1600000 in
theorem toE_is (x0 : Int) (x1 : Int) (x2 : Int) (x3 : Int) (x4 : Int) (x5 : Int) (x6 : Int) (x7 : Int) (x8 : Int) (x9 : Int) (x10 : Int) (w : World) : Calls Tryz.prog 76 #[.agg #[.int .i64 x0, .int .i64 x1, .int .i64 x2, .int .i64 x3, .int .i64 x4, .int .i64 x5, .int .i64 x6, .int .i64 x7, .int .i64 x8, .int .i64 x9, .int .i64 x10]] w fun e w' => e = .returned (.agg #[.int .i64 x0, .int .i64 x1, .int .i64 x2, .int .i64 x3, .int .i64 x4, .int .i64 x5, .int .i64 x6, .int .i64 x7, .int .i64 x8, .int .i64 x9, .int .i64 x10]) ∧ Below w.heap.size w w' := by
  obtain ⟨W1, hW1⟩ : ∃ W1, ((w.alloc (.cells #[.int .i64 x0, .int .i64 x1, .int .i64 x2, .int .i64 x3, .int .i64 x4, .int .i64 x5, .int .i64 x6, .int .i64 x7, .int .i64 x8, .int .i64 x9, .int .i64 x10] 141)).alloc (.cells #[.int .i64 0, .int .i64 0, .int .i64 0, .int .i64 0, .int .i64 0, .int .i64 0, .int .i64 0, .int .i64 0, .int .i64 0, .int .i64 0, .int .i64 0] 109)).alloc (.cells #[.int .i64 x0, .int .i64 x1, .int .i64 x2, .int .i64 x3, .int .i64 x4, .int .i64 x5, .int .i64 x6, .int .i64 x7, .int .i64 0, .int .i64 0, .int .i64 0] 109) = W1 := ⟨_, rfl⟩
  have B1 : Below w.heap.size w W1 := by rw [← hW1]; exact (((Below.refl _ _).alloc (Nat.le_refl _) _).alloc (by simp) _).alloc (by simp; omega) _
  have R1 : Blk (w.heap.size + 1) [.int .i64 0, .int .i64 0, .int .i64 0, .int .i64 0, .int .i64 0, .int .i64 0, .int .i64 0, .int .i64 0, .int .i64 0, .int .i64 0, .int .i64 0] W1 := by rw [← hW1]; have := (Blk.new (w.alloc (.cells #[.int .i64 x0, .int .i64 x1, .int .i64 x2, .int .i64 x3, .int .i64 x4, .int .i64 x5, .int .i64 x6, .int .i64 x7, .int .i64 x8, .int .i64 x9, .int .i64 x10] 141)) #[.int .i64 0, .int .i64 0, .int .i64 0, .int .i64 0, .int .i64 0, .int .i64 0, .int .i64 0, .int .i64 0, .int .i64 0, .int .i64 0, .int .i64 0] 109).alloc (by simp) (.cells #[.int .i64 x0, .int .i64 x1, .int .i64 x2, .int .i64 x3, .int .i64 x4, .int .i64 x5, .int .i64 x6, .int .i64 x7, .int .i64 0, .int .i64 0, .int .i64 0] 109); simpa using this
  have O1 : Blk (w.heap.size + 1 + 1) [.int .i64 x0, .int .i64 x1, .int .i64 x2, .int .i64 x3, .int .i64 x4, .int .i64 x5, .int .i64 x6, .int .i64 x7, .int .i64 0, .int .i64 0, .int .i64 0] W1 := by rw [← hW1]; have := Blk.new ((w.alloc (.cells #[.int .i64 x0, .int .i64 x1, .int .i64 x2, .int .i64 x3, .int .i64 x4, .int .i64 x5, .int .i64 x6, .int .i64 x7, .int .i64 x8, .int .i64 x9, .int .i64 x10] 141)).alloc (.cells #[.int .i64 0, .int .i64 0, .int .i64 0, .int .i64 0, .int .i64 0, .int .i64 0, .int .i64 0, .int .i64 0, .int .i64 0, .int .i64 0, .int .i64 0] 109)) #[.int .i64 x0, .int .i64 x1, .int .i64 x2, .int .i64 x3, .int .i64 x4, .int .i64 x5, .int .i64 x6, .int .i64 x7, .int .i64 0, .int .i64 0, .int .i64 0] 109; simpa using this
  have T1 : Blk w.heap.size [.int .i64 x0, .int .i64 x1, .int .i64 x2, .int .i64 x3, .int .i64 x4, .int .i64 x5, .int .i64 x6, .int .i64 x7, .int .i64 x8, .int .i64 x9, .int .i64 x10] W1 := by rw [← hW1]; exact ((Blk.new w #[.int .i64 x0, .int .i64 x1, .int .i64 x2, .int .i64 x3, .int .i64 x4, .int .i64 x5, .int .i64 x6, .int .i64 x7, .int .i64 x8, .int .i64 x9, .int .i64 x10] 141).alloc (by simp) _).alloc (by simp; omega) _
  have Z1 : Hid (w.heap.size + 3 ≤ W1.heap.size) := by show _ ≤ _; rw [← hW1]; simp
  have z8 := T1.at 8 rfl
  have z9 := T1.at 9 rfl
  have z10 := T1.at 10 rfl
  go_enter Tryz.func76, Tryz.ntmps76
  go_wp2_with fail
  try rw [hW1]
  refine (toR_is x8 x9 x10 W1).mono ?_
  clear hW1 z8 z9 z10
  rintro e w2 ⟨rfl, hb⟩
  have B2 := B1.trans (hb.mono B1.size)
  have T2 := T1.later hb (by have := Z1.out; omega)
  have R2 := R1.later hb (by have := Z1.out; omega)
  have O2 := O1.later hb (by have := Z1.out; omega)
  have F : Hid (Blk (w.heap.size + 1) [.int .i64 x0, .int .i64 x1, .int .i64 x2, .int .i64 x3, .int .i64 x4, .int .i64 x5, .int .i64 x6, .int .i64 x7, .int .i64 x8, .int .i64 x9, .int .i64 x10] ((((((((((((((w2.setCell ⟨w.heap.size + 1 + 1, 8, none⟩ (.int .i64 x8)).setCell ⟨w.heap.size + 1 + 1, 9, none⟩ (.int .i64 x9)).setCell ⟨w.heap.size + 1 + 1, 10, none⟩ (.int .i64 x10)).setCell ⟨w.heap.size + 1, 0, none⟩ (.int .i64 x0)).setCell ⟨w.heap.size + 1, 1, none⟩ (.int .i64 x1)).setCell ⟨w.heap.size + 1, 2, none⟩ (.int .i64 x2)).setCell ⟨w.heap.size + 1, 3, none⟩ (.int .i64 x3)).setCell ⟨w.heap.size + 1, 4, none⟩ (.int .i64 x4)).setCell ⟨w.heap.size + 1, 5, none⟩ (.int .i64 x5)).setCell ⟨w.heap.size + 1, 6, none⟩ (.int .i64 x6)).setCell ⟨w.heap.size + 1, 7, none⟩ (.int .i64 x7)).setCell ⟨w.heap.size + 1, 8, none⟩ (.int .i64 x8)).setCell ⟨w.heap.size + 1, 9, none⟩ (.int .i64 x9)).setCell ⟨w.heap.size + 1, 10, none⟩ (.int .i64 x10)) ∧ Below w.heap.size w ((((((((((((((w2.setCell ⟨w.heap.size + 1 + 1, 8, none⟩ (.int .i64 x8)).setCell ⟨w.heap.size + 1 + 1, 9, none⟩ (.int .i64 x9)).setCell ⟨w.heap.size + 1 + 1, 10, none⟩ (.int .i64 x10)).setCell ⟨w.heap.size + 1, 0, none⟩ (.int .i64 x0)).setCell ⟨w.heap.size + 1, 1, none⟩ (.int .i64 x1)).setCell ⟨w.heap.size + 1, 2, none⟩ (.int .i64 x2)).setCell ⟨w.heap.size + 1, 3, none⟩ (.int .i64 x3)).setCell ⟨w.heap.size + 1, 4, none⟩ (.int .i64 x4)).setCell ⟨w.heap.size + 1, 5, none⟩ (.int .i64 x5)).setCell ⟨w.heap.size + 1, 6, none⟩ (.int .i64 x6)).setCell ⟨w.heap.size + 1, 7, none⟩ (.int .i64 x7)).setCell ⟨w.heap.size + 1, 8, none⟩ (.int .i64 x8)).setCell ⟨w.heap.size + 1, 9, none⟩ (.int .i64 x9)).setCell ⟨w.heap.size + 1, 10, none⟩ (.int .i64 x10))) := ⟨((((((((((((((R2.far (g' := w.heap.size + 1 + 1) (by omega) 8 (.int .i64 x8)).far (g' := w.heap.size + 1 + 1) (by omega) 9 (.int .i64 x9)).far (g' := w.heap.size + 1 + 1) (by omega) 10 (.int .i64 x10)).set 0 (.int .i64 x0)).set 1 (.int .i64 x1)).set 2 (.int .i64 x2)).set 3 (.int .i64 x3)).set 4 (.int .i64 x4)).set 5 (.int .i64 x5)).set 6 (.int .i64 x6)).set 7 (.int .i64 x7)).set 8 (.int .i64 x8)).set 9 (.int .i64 x9)).set 10 (.int .i64 x10)), ((((((((((((((B2.setCell (by dsimp only; omega) _).setCell (by dsimp only; omega) _).setCell (by dsimp only; omega) _).setCell (by dsimp only; omega) _).setCell (by dsimp only; omega) _).setCell (by dsimp only; omega) _).setCell (by dsimp only; omega) _).setCell (by dsimp only; omega) _).setCell (by dsimp only; omega) _).setCell (by dsimp only; omega) _).setCell (by dsimp only; omega) _).setCell (by dsimp only; omega) _).setCell (by dsimp only; omega) _).setCell (by dsimp only; omega) _)⟩
  clear B1 T1 R1 O1 Z1 hb B2
  have o0 := O2.at 0 rfl
  have r0 := R2.at 0 rfl
  have q0 := R2.fz 0 rfl
  have o1 := O2.at 1 rfl
  have r1 := R2.at 1 rfl
  have q1 := R2.fz 1 rfl
  have o2 := O2.at 2 rfl
  have r2 := R2.at 2 rfl
  have q2 := R2.fz 2 rfl
  have o3 := O2.at 3 rfl
  have r3 := R2.at 3 rfl
  have q3 := R2.fz 3 rfl
  have o4 := O2.at 4 rfl
  have r4 := R2.at 4 rfl
  have q4 := R2.fz 4 rfl
  have o5 := O2.at 5 rfl
  have r5 := R2.at 5 rfl
  have q5 := R2.fz 5 rfl
  have o6 := O2.at 6 rfl
  have r6 := R2.at 6 rfl
  have q6 := R2.fz 6 rfl
  have o7 := O2.at 7 rfl
  have r7 := R2.at 7 rfl
  have q7 := R2.fz 7 rfl
  have o8 := O2.at 8 rfl
  have p8 := O2.fz 8 rfl
  have r8 := R2.at 8 rfl
  have q8 := R2.fz 8 rfl
  have o9 := O2.at 9 rfl
  have p9 := O2.fz 9 rfl
  have r9 := R2.at 9 rfl
  have q9 := R2.fz 9 rfl
  have o10 := O2.at 10 rfl
  have p10 := O2.fz 10 rfl
  have r10 := R2.at 10 rfl
  have q10 := R2.fz 10 rfl
  clear T2 R2 O2
  go_wp2
  have G := F.out
  exact bodyPost_ret (resE rfl _ _ (w.heap.size + 1) _ _ _ _ _ _ _ _ _ _ _ rfl (G.1.at 0 rfl) (G.1.at 1 rfl) (G.1.at 2 rfl) (G.1.at 3 rfl) (G.1.at 4 rfl) (G.1.at 5 rfl) (G.1.at 6 rfl) (G.1.at 7 rfl) (G.1.at 8 rfl) (G.1.at 9 rfl) (G.1.at 10 rfl)) rfl ⟨rfl, G.2⟩
theorem infoE : (Tryz.prog.info? 109).map (fun i => (i.zero, i.size, i.bytes)) = some (some (.agg #[.int .i64 0, .int .i64 0, .int .i64 0, .int .i64 0, .int .i64 0, .int .i64 0, .int .i64 0, .int .i64 0, .int .i64 0, .int .i64 0, .int .i64 0]), 11, 88) := by kernel_rfl
set_option maxRecDepth 100000 in
set_option maxHeartbeats 1600000 in
theorem toSE_is (a : Option Addr) (cap : Nat) (xs : List TE) (w : World) (hr : FRow 11 cE w a xs) (hl : xs.length ≤ 1048576) :
    Calls Tryz.prog 42 #[.slice a xs.length cap] w fun e w' => e = .returned (.slice (some ⟨w.heap.size, 0, none⟩) xs.length xs.length) ∧ FOwn 109 11 cE w.heap.size (some ⟨w.heap.size, 0, none⟩) xs.length xs w' ∧ Below w.heap.size w w' := by
  obtain ⟨i0, hi, hz0, hz1, hz2⟩ := info_parts infoE
  go_enter Tryz.func42, Tryz.ntmps42
  go_wp2_with (first | (at_make; refine wpList_make_full _ rfl _ _ 45 rfl w.heap.size 109 i0 (.agg #[.int .i64 0, .int .i64 0, .int .i64 0, .int .i64 0, .int .i64 0, .int .i64 0, .int .i64 0, .int .i64 0, .int .i64 0, .int .i64 0, .int .i64 0]) 11 Tryz.underlying45 hi hz0 hz1 .i64 .i64 xs.length xs.length xs.length rfl rfl rfl rfl (by rw [hz2]; omega) (by unfold maxLen; omega) (Nat.le_refl _) ?_) | go_in)
  intro w1 hown hgrow
  have hbel := (Below.refl w.heap.size w).grown hgrow (Nat.le_refl _) (by simp)
  clear hgrow
  have H0 : ∃ J : List Value, w1.ownsRow w.heap.size 109 11 (.slice (some ⟨w.heap.size, 0, none⟩) xs.length xs.length) xs.length (fl cE (xs.take 0) ++ J) := ⟨_, hown⟩
  clear hown
  go_wp2
  go_loopw [4] (fun i wr => ∃ k : Nat, k ≤ xs.length ∧ i = .int .i64 k ∧ (∃ J : List Value, wr.ownsRow w.heap.size 109 11 (.slice (some ⟨w.heap.size, 0, none⟩) xs.length xs.length) xs.length (fl cE (xs.take k) ++ J)) ∧ Below w.heap.size w wr) (fun i _ => xs.length - (intOf i).toNat)
  case atStart => exact ⟨0, by omega, rfl, H0, hbel⟩
  case round =>
    clear H0 hbel
    obtain ⟨k, hk, rfl, ⟨J, hown⟩, hbel⟩ := hrel
    have hJ : k * 11 + J.length = xs.length * 11 := by have := hown.1; rw [List.length_append, fl_len lE, List.length_take, Nat.min_eq_left hk] at this; exact this
    by_cases hlt : k < xs.length
    · obtain ⟨b, off, rfl, hbl, hc⟩ := hr k hlt
      have h0 : wr.cell? ⟨b, off + k * 11, none⟩ = some (.int .i64 xs[k].1) := (hbel.cell (p := ⟨b, off + k * 11, none⟩) hbl).trans (hc 0 _ rfl)
      have h1 : wr.cell? ⟨b, off + k * 11 + 1, none⟩ = some (.int .i64 xs[k].2.1) := (hbel.cell (p := ⟨b, off + k * 11 + 1, none⟩) hbl).trans (hc 1 _ rfl)
      have h2 : wr.cell? ⟨b, off + k * 11 + 2, none⟩ = some (.int .i64 xs[k].2.2.1) := (hbel.cell (p := ⟨b, off + k * 11 + 2, none⟩) hbl).trans (hc 2 _ rfl)
      have h3 : wr.cell? ⟨b, off + k * 11 + 3, none⟩ = some (.int .i64 xs[k].2.2.2.1) := (hbel.cell (p := ⟨b, off + k * 11 + 3, none⟩) hbl).trans (hc 3 _ rfl)
      have h4 : wr.cell? ⟨b, off + k * 11 + 4, none⟩ = some (.int .i64 xs[k].2.2.2.2.1) := (hbel.cell (p := ⟨b, off + k * 11 + 4, none⟩) hbl).trans (hc 4 _ rfl)
      have h5 : wr.cell? ⟨b, off + k * 11 + 5, none⟩ = some (.int .i64 xs[k].2.2.2.2.2.1) := (hbel.cell (p := ⟨b, off + k * 11 + 5, none⟩) hbl).trans (hc 5 _ rfl)
      have h6 : wr.cell? ⟨b, off + k * 11 + 6, none⟩ = some (.int .i64 xs[k].2.2.2.2.2.2.1) := (hbel.cell (p := ⟨b, off + k * 11 + 6, none⟩) hbl).trans (hc 6 _ rfl)
      have h7 : wr.cell? ⟨b, off + k * 11 + 7, none⟩ = some (.int .i64 xs[k].2.2.2.2.2.2.2.1) := (hbel.cell (p := ⟨b, off + k * 11 + 7, none⟩) hbl).trans (hc 7 _ rfl)
      have h8 : wr.cell? ⟨b, off + k * 11 + 8, none⟩ = some (.int .i64 xs[k].2.2.2.2.2.2.2.2.1) := (hbel.cell (p := ⟨b, off + k * 11 + 8, none⟩) hbl).trans (hc 8 _ rfl)
      have h9 : wr.cell? ⟨b, off + k * 11 + 9, none⟩ = some (.int .i64 xs[k].2.2.2.2.2.2.2.2.2.1) := (hbel.cell (p := ⟨b, off + k * 11 + 9, none⟩) hbl).trans (hc 9 _ rfl)
      have h10 : wr.cell? ⟨b, off + k * 11 + 10, none⟩ = some (.int .i64 xs[k].2.2.2.2.2.2.2.2.2.2) := (hbel.cell (p := ⟨b, off + k * 11 + 10, none⟩) hbl).trans (hc 10 _ rfl)
      clear hr hc
      have hsn : xs.take k ++ [(xs[k].1, xs[k].2.1, xs[k].2.2.1, xs[k].2.2.2.1, xs[k].2.2.2.2.1, xs[k].2.2.2.2.2.1, xs[k].2.2.2.2.2.2.1, xs[k].2.2.2.2.2.2.2.1, xs[k].2.2.2.2.2.2.2.2.1, xs[k].2.2.2.2.2.2.2.2.2.1, xs[k].2.2.2.2.2.2.2.2.2.2)] = xs.take (k + 1) := (List.take_succ_eq_append_getElem hlt).symm
      generalize xs[k].1 = x0 at h0 hsn
      generalize xs[k].2.1 = x1 at h1 hsn
      generalize xs[k].2.2.1 = x2 at h2 hsn
      generalize xs[k].2.2.2.1 = x3 at h3 hsn
      generalize xs[k].2.2.2.2.1 = x4 at h4 hsn
      generalize xs[k].2.2.2.2.2.1 = x5 at h5 hsn
      generalize xs[k].2.2.2.2.2.2.1 = x6 at h6 hsn
      generalize xs[k].2.2.2.2.2.2.2.1 = x7 at h7 hsn
      generalize xs[k].2.2.2.2.2.2.2.2.1 = x8 at h8 hsn
      generalize xs[k].2.2.2.2.2.2.2.2.2.1 = x9 at h9 hsn
      generalize xs[k].2.2.2.2.2.2.2.2.2.2 = x10 at h10 hsn
      go_wp2_with fail
      refine (toE_is x0 x1 x2 x3 x4 x5 x6 x7 x8 x9 x10 _).mono ?_
      rintro e w2 ⟨rfl, hb2⟩
      have hown2 := own_later hown hb2
      have hbel2 := hbel.trans (hb2.mono hbel.size)
      clear h0 h1 h2 h3 h4 h5 h6 h7 h8 h9 h10 hown hbel hb2
      have hs := (((((((((((hown2.stored (k * 11) (.int .i64 x0)).1.stored (k * 11 + 1) (.int .i64 x1)).1.stored (k * 11 + 2) (.int .i64 x2)).1.stored (k * 11 + 3) (.int .i64 x3)).1.stored (k * 11 + 4) (.int .i64 x4)).1.stored (k * 11 + 5) (.int .i64 x5)).1.stored (k * 11 + 6) (.int .i64 x6)).1.stored (k * 11 + 7) (.int .i64 x7)).1.stored (k * 11 + 8) (.int .i64 x8)).1.stored (k * 11 + 9) (.int .i64 x9)).1.stored (k * 11 + 10) (.int .i64 x10)).1
      have hp : ((((((((((((fl cE (xs.take k) ++ J)).set (k * 11) (.int .i64 x0)).set (k * 11 + 1) (.int .i64 x1)).set (k * 11 + 2) (.int .i64 x2)).set (k * 11 + 3) (.int .i64 x3)).set (k * 11 + 4) (.int .i64 x4)).set (k * 11 + 5) (.int .i64 x5)).set (k * 11 + 6) (.int .i64 x6)).set (k * 11 + 7) (.int .i64 x7)).set (k * 11 + 8) (.int .i64 x8)).set (k * 11 + 9) (.int .i64 x9)).set (k * 11 + 10) (.int .i64 x10) = fl cE (xs.take k ++ [(x0, x1, x2, x3, x4, x5, x6, x7, x8, x9, x10)]) ++ J.drop 11 := by
        have := fl_put (f := cE) lE (xs.take k) J (x0, x1, x2, x3, x4, x5, x6, x7, x8, x9, x10) (by omega)
        rw [List.length_take, Nat.min_eq_left hk] at this
        exact this
      rw [hp, hsn] at hs
      have HS : Hid (∃ k' : Nat, k' ≤ xs.length ∧ Value.int .i64 ((k : Int) + 1) = .int .i64 k' ∧ (∃ J : List Value, (((((((((((w2.setCell ⟨w.heap.size, k * 11, none⟩ (.int .i64 x0)).setCell ⟨w.heap.size, k * 11 + 1, none⟩ (.int .i64 x1)).setCell ⟨w.heap.size, k * 11 + 2, none⟩ (.int .i64 x2)).setCell ⟨w.heap.size, k * 11 + 3, none⟩ (.int .i64 x3)).setCell ⟨w.heap.size, k * 11 + 4, none⟩ (.int .i64 x4)).setCell ⟨w.heap.size, k * 11 + 5, none⟩ (.int .i64 x5)).setCell ⟨w.heap.size, k * 11 + 6, none⟩ (.int .i64 x6)).setCell ⟨w.heap.size, k * 11 + 7, none⟩ (.int .i64 x7)).setCell ⟨w.heap.size, k * 11 + 8, none⟩ (.int .i64 x8)).setCell ⟨w.heap.size, k * 11 + 9, none⟩ (.int .i64 x9)).setCell ⟨w.heap.size, k * 11 + 10, none⟩ (.int .i64 x10)).ownsRow w.heap.size 109 11 (.slice (some ⟨w.heap.size, 0, none⟩) xs.length xs.length) xs.length (fl cE (xs.take k') ++ J)) ∧ Below w.heap.size w (((((((((((w2.setCell ⟨w.heap.size, k * 11, none⟩ (.int .i64 x0)).setCell ⟨w.heap.size, k * 11 + 1, none⟩ (.int .i64 x1)).setCell ⟨w.heap.size, k * 11 + 2, none⟩ (.int .i64 x2)).setCell ⟨w.heap.size, k * 11 + 3, none⟩ (.int .i64 x3)).setCell ⟨w.heap.size, k * 11 + 4, none⟩ (.int .i64 x4)).setCell ⟨w.heap.size, k * 11 + 5, none⟩ (.int .i64 x5)).setCell ⟨w.heap.size, k * 11 + 6, none⟩ (.int .i64 x6)).setCell ⟨w.heap.size, k * 11 + 7, none⟩ (.int .i64 x7)).setCell ⟨w.heap.size, k * 11 + 8, none⟩ (.int .i64 x8)).setCell ⟨w.heap.size, k * 11 + 9, none⟩ (.int .i64 x9)).setCell ⟨w.heap.size, k * 11 + 10, none⟩ (.int .i64 x10))) :=
        ⟨k + 1, by omega, by go_num, ⟨_, hs⟩, (((((((((((hbel2.setCell (Nat.le_refl _) _).setCell (Nat.le_refl _) _).setCell (Nat.le_refl _) _).setCell (Nat.le_refl _) _).setCell (Nat.le_refl _) _).setCell (Nat.le_refl _) _).setCell (Nat.le_refl _) _).setCell (Nat.le_refl _) _).setCell (Nat.le_refl _) _).setCell (Nat.le_refl _) _).setCell (Nat.le_refl _) _)⟩
      have hll : (fl cE (xs.take k) ++ J).length = xs.length * 11 := hown2.1
      have u0 : w2.cell? ⟨w.heap.size, k * 11, none⟩ = some (fl cE (xs.take k) ++ J)[k * 11] := by rw [hown2.cellAt _ (by omega)]; exact List.getElem?_eq_getElem (by omega)
      have f0 := hown2.frozenAt (k * 11)
      have u1 : w2.cell? ⟨w.heap.size, k * 11 + 1, none⟩ = some (fl cE (xs.take k) ++ J)[k * 11 + 1] := by rw [hown2.cellAt _ (by omega)]; exact List.getElem?_eq_getElem (by omega)
      have f1 := hown2.frozenAt (k * 11 + 1)
      have u2 : w2.cell? ⟨w.heap.size, k * 11 + 2, none⟩ = some (fl cE (xs.take k) ++ J)[k * 11 + 2] := by rw [hown2.cellAt _ (by omega)]; exact List.getElem?_eq_getElem (by omega)
      have f2 := hown2.frozenAt (k * 11 + 2)
      have u3 : w2.cell? ⟨w.heap.size, k * 11 + 3, none⟩ = some (fl cE (xs.take k) ++ J)[k * 11 + 3] := by rw [hown2.cellAt _ (by omega)]; exact List.getElem?_eq_getElem (by omega)
      have f3 := hown2.frozenAt (k * 11 + 3)
      have u4 : w2.cell? ⟨w.heap.size, k * 11 + 4, none⟩ = some (fl cE (xs.take k) ++ J)[k * 11 + 4] := by rw [hown2.cellAt _ (by omega)]; exact List.getElem?_eq_getElem (by omega)
      have f4 := hown2.frozenAt (k * 11 + 4)
      have u5 : w2.cell? ⟨w.heap.size, k * 11 + 5, none⟩ = some (fl cE (xs.take k) ++ J)[k * 11 + 5] := by rw [hown2.cellAt _ (by omega)]; exact List.getElem?_eq_getElem (by omega)
      have f5 := hown2.frozenAt (k * 11 + 5)
      have u6 : w2.cell? ⟨w.heap.size, k * 11 + 6, none⟩ = some (fl cE (xs.take k) ++ J)[k * 11 + 6] := by rw [hown2.cellAt _ (by omega)]; exact List.getElem?_eq_getElem (by omega)
      have f6 := hown2.frozenAt (k * 11 + 6)
      have u7 : w2.cell? ⟨w.heap.size, k * 11 + 7, none⟩ = some (fl cE (xs.take k) ++ J)[k * 11 + 7] := by rw [hown2.cellAt _ (by omega)]; exact List.getElem?_eq_getElem (by omega)
      have f7 := hown2.frozenAt (k * 11 + 7)
      have u8 : w2.cell? ⟨w.heap.size, k * 11 + 8, none⟩ = some (fl cE (xs.take k) ++ J)[k * 11 + 8] := by rw [hown2.cellAt _ (by omega)]; exact List.getElem?_eq_getElem (by omega)
      have f8 := hown2.frozenAt (k * 11 + 8)
      have u9 : w2.cell? ⟨w.heap.size, k * 11 + 9, none⟩ = some (fl cE (xs.take k) ++ J)[k * 11 + 9] := by rw [hown2.cellAt _ (by omega)]; exact List.getElem?_eq_getElem (by omega)
      have f9 := hown2.frozenAt (k * 11 + 9)
      have u10 : w2.cell? ⟨w.heap.size, k * 11 + 10, none⟩ = some (fl cE (xs.take k) ++ J)[k * 11 + 10] := by rw [hown2.cellAt _ (by omega)]; exact List.getElem?_eq_getElem (by omega)
      have f10 := hown2.frozenAt (k * 11 + 10)
      have hlt2 : (k : Int) < (xs.length : Int) := by omega
      clear hown2 hbel2 hs hp hsn
      generalize (fl cE (xs.take k) ++ J)[k * 11] = q0 at u0
      generalize (fl cE (xs.take k) ++ J)[k * 11 + 1] = q1 at u1
      generalize (fl cE (xs.take k) ++ J)[k * 11 + 2] = q2 at u2
      generalize (fl cE (xs.take k) ++ J)[k * 11 + 3] = q3 at u3
      generalize (fl cE (xs.take k) ++ J)[k * 11 + 4] = q4 at u4
      generalize (fl cE (xs.take k) ++ J)[k * 11 + 5] = q5 at u5
      generalize (fl cE (xs.take k) ++ J)[k * 11 + 6] = q6 at u6
      generalize (fl cE (xs.take k) ++ J)[k * 11 + 7] = q7 at u7
      generalize (fl cE (xs.take k) ++ J)[k * 11 + 8] = q8 at u8
      generalize (fl cE (xs.take k) ++ J)[k * 11 + 9] = q9 at u9
      generalize (fl cE (xs.take k) ++ J)[k * 11 + 10] = q10 at u10
      clear hll hJ
      go_wp2
      go_roundw
      case rel => exact HS.out
      case measure => simp [intOf]; omega
    · obtain rfl : k = xs.length := by omega
      have hj0 : J = [] := List.length_eq_zero_iff.1 (by omega)
      subst hj0
      rw [List.take_length, List.append_nil] at hown
      go_wp2
      go_ret
      exact ⟨rfl, hown, hbel⟩
theorem toSE_u (r : Rw TE) (w : World) (hd : RpE w r) (hl : rtE r ≤ 1048576) : Calls Tryz.prog 42 #[.slice r.1 r.2.2.length r.2.1] w fun en w' => ∃ y : Rw TE, en = .returned (.slice y.1 y.2.2.length y.2.1) ∧ rsE y = rsE r ∧ RoE w.heap.size w' y ∧ Below w.heap.size w w' :=
  (toSE_is r.1 r.2.1 r.2.2 w hd (Nat.le_trans (rtE_len r) hl)).mono fun e w' h => ⟨(some ⟨w.heap.size, 0, none⟩, r.2.2.length, r.2.2), h.1, rfl, h.2.1, h.2.2⟩
end Go.Proofs.YtjcmbbnklfemcaaGreat.Nd

set_option linter.unusedVariables false
set_option maxRecDepth 100000
namespace Go.Proofs.YtjcmbbnklfemcaaGreat.Nd
open Go Go.RowKit Go.Joins Own Draw

set_option maxHeartbeats 1600000 in
set_option maxRecDepth 100000 in
theorem eqE_is (x0 : Int) (x1 : Int) (x2 : Int) (x3 : Int) (x4 : Int) (x5 : Int) (x6 : Int) (x7 : Int) (x8 : Int) (x9 : Int) (x10 : Int) (w : World) : Calls Tryz.prog 90 #[.agg #[.int .i64 x0, .int .i64 x1, .int .i64 x2, .int .i64 x3, .int .i64 x4, .int .i64 x5, .int .i64 x6, .int .i64 x7, .int .i64 x8, .int .i64 x9, .int .i64 x10], .agg #[.int .i64 x0, .int .i64 x1, .int .i64 x2, .int .i64 x3, .int .i64 x4, .int .i64 x5, .int .i64 x6, .int .i64 x7, .int .i64 x8, .int .i64 x9, .int .i64 x10]] w fun e w' => e = .returned (.bool true) ∧ Below w.heap.size w w' := by
  go_enter Tryz.func90, Tryz.ntmps90
  go_wp2
  go_ret
  exact ⟨rfl, by repeat (first | exact Below.refl _ _ | refine Below.alloc ?_ (by simp; try omega) _)⟩
set_option maxRecDepth 100000 in
set_option maxHeartbeats 1600000 in
theorem eqSE_is (a b : Option Addr) (ca cb : Nat) (xs : List TE) (w : World) (ha : FRow 11 cE w a xs) (hb : FRow 11 cE w b xs) (hl : xs.length ≤ 1048576) :
    Calls Tryz.prog 52 #[.slice a xs.length ca, .slice b xs.length cb] w fun e w' => e = .returned (.bool true) ∧ Below w.heap.size w w' := by
  go_enter Tryz.func52, Tryz.ntmps52
  go_wp2
  go_loopw [5] (fun i wr => ∃ k : Nat, k ≤ xs.length ∧ i = .int .i64 k ∧ Below w.heap.size w wr) (fun i _ => xs.length - (intOf i).toNat)
  case atStart => exact ⟨0, by omega, rfl, Below.refl _ _⟩
  case round =>
    obtain ⟨k, hk, rfl, hbel⟩ := hrel
    by_cases hlt : k < xs.length
    · obtain ⟨b1, o1, rfl, l1, h⟩ := ha k hlt
      obtain ⟨b2, o2, rfl, l2, g⟩ := hb k hlt
      have hlt2 : (k : Int) < (xs.length : Int) := by omega
      have m1 : b1 < wr.drew.heap.size := Nat.lt_of_lt_of_le l1 hbel.size
      have m2 : b2 < wr.drew.heap.size := Nat.lt_of_lt_of_le l2 hbel.size
      have BD := hbel.drew
      have h0 : wr.drew.cell? ⟨b1, o1 + k * 11, none⟩ = some (.int .i64 xs[k].1) := (hbel.cell (p := ⟨b1, o1 + k * 11, none⟩) l1).trans (h 0 _ rfl)
      have h1 : wr.drew.cell? ⟨b1, o1 + k * 11 + 1, none⟩ = some (.int .i64 xs[k].2.1) := (hbel.cell (p := ⟨b1, o1 + k * 11 + 1, none⟩) l1).trans (h 1 _ rfl)
      have h2 : wr.drew.cell? ⟨b1, o1 + k * 11 + 2, none⟩ = some (.int .i64 xs[k].2.2.1) := (hbel.cell (p := ⟨b1, o1 + k * 11 + 2, none⟩) l1).trans (h 2 _ rfl)
      have h3 : wr.drew.cell? ⟨b1, o1 + k * 11 + 3, none⟩ = some (.int .i64 xs[k].2.2.2.1) := (hbel.cell (p := ⟨b1, o1 + k * 11 + 3, none⟩) l1).trans (h 3 _ rfl)
      have h4 : wr.drew.cell? ⟨b1, o1 + k * 11 + 4, none⟩ = some (.int .i64 xs[k].2.2.2.2.1) := (hbel.cell (p := ⟨b1, o1 + k * 11 + 4, none⟩) l1).trans (h 4 _ rfl)
      have h5 : wr.drew.cell? ⟨b1, o1 + k * 11 + 5, none⟩ = some (.int .i64 xs[k].2.2.2.2.2.1) := (hbel.cell (p := ⟨b1, o1 + k * 11 + 5, none⟩) l1).trans (h 5 _ rfl)
      have h6 : wr.drew.cell? ⟨b1, o1 + k * 11 + 6, none⟩ = some (.int .i64 xs[k].2.2.2.2.2.2.1) := (hbel.cell (p := ⟨b1, o1 + k * 11 + 6, none⟩) l1).trans (h 6 _ rfl)
      have h7 : wr.drew.cell? ⟨b1, o1 + k * 11 + 7, none⟩ = some (.int .i64 xs[k].2.2.2.2.2.2.2.1) := (hbel.cell (p := ⟨b1, o1 + k * 11 + 7, none⟩) l1).trans (h 7 _ rfl)
      have h8 : wr.drew.cell? ⟨b1, o1 + k * 11 + 8, none⟩ = some (.int .i64 xs[k].2.2.2.2.2.2.2.2.1) := (hbel.cell (p := ⟨b1, o1 + k * 11 + 8, none⟩) l1).trans (h 8 _ rfl)
      have h9 : wr.drew.cell? ⟨b1, o1 + k * 11 + 9, none⟩ = some (.int .i64 xs[k].2.2.2.2.2.2.2.2.2.1) := (hbel.cell (p := ⟨b1, o1 + k * 11 + 9, none⟩) l1).trans (h 9 _ rfl)
      have h10 : wr.drew.cell? ⟨b1, o1 + k * 11 + 10, none⟩ = some (.int .i64 xs[k].2.2.2.2.2.2.2.2.2.2) := (hbel.cell (p := ⟨b1, o1 + k * 11 + 10, none⟩) l1).trans (h 10 _ rfl)
      have g0 : wr.drew.cell? ⟨b2, o2 + k * 11, none⟩ = some (.int .i64 xs[k].1) := (hbel.cell (p := ⟨b2, o2 + k * 11, none⟩) l2).trans (g 0 _ rfl)
      have g1 : wr.drew.cell? ⟨b2, o2 + k * 11 + 1, none⟩ = some (.int .i64 xs[k].2.1) := (hbel.cell (p := ⟨b2, o2 + k * 11 + 1, none⟩) l2).trans (g 1 _ rfl)
      have g2 : wr.drew.cell? ⟨b2, o2 + k * 11 + 2, none⟩ = some (.int .i64 xs[k].2.2.1) := (hbel.cell (p := ⟨b2, o2 + k * 11 + 2, none⟩) l2).trans (g 2 _ rfl)
      have g3 : wr.drew.cell? ⟨b2, o2 + k * 11 + 3, none⟩ = some (.int .i64 xs[k].2.2.2.1) := (hbel.cell (p := ⟨b2, o2 + k * 11 + 3, none⟩) l2).trans (g 3 _ rfl)
      have g4 : wr.drew.cell? ⟨b2, o2 + k * 11 + 4, none⟩ = some (.int .i64 xs[k].2.2.2.2.1) := (hbel.cell (p := ⟨b2, o2 + k * 11 + 4, none⟩) l2).trans (g 4 _ rfl)
      have g5 : wr.drew.cell? ⟨b2, o2 + k * 11 + 5, none⟩ = some (.int .i64 xs[k].2.2.2.2.2.1) := (hbel.cell (p := ⟨b2, o2 + k * 11 + 5, none⟩) l2).trans (g 5 _ rfl)
      have g6 : wr.drew.cell? ⟨b2, o2 + k * 11 + 6, none⟩ = some (.int .i64 xs[k].2.2.2.2.2.2.1) := (hbel.cell (p := ⟨b2, o2 + k * 11 + 6, none⟩) l2).trans (g 6 _ rfl)
      have g7 : wr.drew.cell? ⟨b2, o2 + k * 11 + 7, none⟩ = some (.int .i64 xs[k].2.2.2.2.2.2.2.1) := (hbel.cell (p := ⟨b2, o2 + k * 11 + 7, none⟩) l2).trans (g 7 _ rfl)
      have g8 : wr.drew.cell? ⟨b2, o2 + k * 11 + 8, none⟩ = some (.int .i64 xs[k].2.2.2.2.2.2.2.2.1) := (hbel.cell (p := ⟨b2, o2 + k * 11 + 8, none⟩) l2).trans (g 8 _ rfl)
      have g9 : wr.drew.cell? ⟨b2, o2 + k * 11 + 9, none⟩ = some (.int .i64 xs[k].2.2.2.2.2.2.2.2.2.1) := (hbel.cell (p := ⟨b2, o2 + k * 11 + 9, none⟩) l2).trans (g 9 _ rfl)
      have g10 : wr.drew.cell? ⟨b2, o2 + k * 11 + 10, none⟩ = some (.int .i64 xs[k].2.2.2.2.2.2.2.2.2.2) := (hbel.cell (p := ⟨b2, o2 + k * 11 + 10, none⟩) l2).trans (g 10 _ rfl)
      generalize xs[k].1 = x0 at h0 g0
      generalize xs[k].2.1 = x1 at h1 g1
      generalize xs[k].2.2.1 = x2 at h2 g2
      generalize xs[k].2.2.2.1 = x3 at h3 g3
      generalize xs[k].2.2.2.2.1 = x4 at h4 g4
      generalize xs[k].2.2.2.2.2.1 = x5 at h5 g5
      generalize xs[k].2.2.2.2.2.2.1 = x6 at h6 g6
      generalize xs[k].2.2.2.2.2.2.2.1 = x7 at h7 g7
      generalize xs[k].2.2.2.2.2.2.2.2.1 = x8 at h8 g8
      generalize xs[k].2.2.2.2.2.2.2.2.2.1 = x9 at h9 g9
      generalize xs[k].2.2.2.2.2.2.2.2.2.2 = x10 at h10 g10
      clear ha hb h g
      go_wp2_with fail
      refine wp_region_held_drew (S := (fun V : World => V.cell? ⟨b1, o1 + k * 11, none⟩ = some (.int .i64 x0) ∧ V.cell? ⟨b1, o1 + k * 11 + 1, none⟩ = some (.int .i64 x1) ∧ V.cell? ⟨b1, o1 + k * 11 + 2, none⟩ = some (.int .i64 x2) ∧ V.cell? ⟨b1, o1 + k * 11 + 3, none⟩ = some (.int .i64 x3) ∧ V.cell? ⟨b1, o1 + k * 11 + 4, none⟩ = some (.int .i64 x4) ∧ V.cell? ⟨b1, o1 + k * 11 + 5, none⟩ = some (.int .i64 x5) ∧ V.cell? ⟨b1, o1 + k * 11 + 6, none⟩ = some (.int .i64 x6) ∧ V.cell? ⟨b1, o1 + k * 11 + 7, none⟩ = some (.int .i64 x7) ∧ V.cell? ⟨b1, o1 + k * 11 + 8, none⟩ = some (.int .i64 x8) ∧ V.cell? ⟨b1, o1 + k * 11 + 9, none⟩ = some (.int .i64 x9) ∧ V.cell? ⟨b1, o1 + k * 11 + 10, none⟩ = some (.int .i64 x10) ∧ V.cell? ⟨b2, o2 + k * 11, none⟩ = some (.int .i64 x0) ∧ V.cell? ⟨b2, o2 + k * 11 + 1, none⟩ = some (.int .i64 x1) ∧ V.cell? ⟨b2, o2 + k * 11 + 2, none⟩ = some (.int .i64 x2) ∧ V.cell? ⟨b2, o2 + k * 11 + 3, none⟩ = some (.int .i64 x3) ∧ V.cell? ⟨b2, o2 + k * 11 + 4, none⟩ = some (.int .i64 x4) ∧ V.cell? ⟨b2, o2 + k * 11 + 5, none⟩ = some (.int .i64 x5) ∧ V.cell? ⟨b2, o2 + k * 11 + 6, none⟩ = some (.int .i64 x6) ∧ V.cell? ⟨b2, o2 + k * 11 + 7, none⟩ = some (.int .i64 x7) ∧ V.cell? ⟨b2, o2 + k * 11 + 8, none⟩ = some (.int .i64 x8) ∧ V.cell? ⟨b2, o2 + k * 11 + 9, none⟩ = some (.int .i64 x9) ∧ V.cell? ⟨b2, o2 + k * 11 + 10, none⟩ = some (.int .i64 x10))) (by kernel_rfl) ⟨h0, h1, h2, h3, h4, h5, h6, h7, h8, h9, h10, g0, g1, g2, g3, g4, g5, g6, g7, g8, g9, g10⟩ (fun hHeld => ?_)
      refine take_one 0 17 (v := ?_) rfl rfl (by kernel_rfl) (by kernel_rfl) (by kernel_rfl) (fun _ _ _ h => h) (Or.inl ⟨by rfl, ?_⟩) hHeld ?_
      rotate_left
      · intro w' hSw; (try dsimp only at hSw); obtain ⟨c0, c1, c2, c3, c4, c5, c6, c7, c8, c9, c10, c11, c12, c13, c14, c15, c16, c17, c18, c19, c20, c21⟩ := hSw; go_simp; try with_reducible rfl
      try simp only [Act.put, List.setIfInBounds_toArray, List.set_cons_zero, List.set_cons_succ]
      refine take_one 1 18 (v := ?_) rfl rfl (by kernel_rfl) (by kernel_rfl) (by kernel_rfl) (fun _ _ _ h => h) (Or.inl ⟨by rfl, ?_⟩) hHeld ?_
      rotate_left
      · intro w' hSw; (try dsimp only at hSw); obtain ⟨c0, c1, c2, c3, c4, c5, c6, c7, c8, c9, c10, c11, c12, c13, c14, c15, c16, c17, c18, c19, c20, c21⟩ := hSw; go_simp; try with_reducible rfl
      try simp only [Act.put, List.setIfInBounds_toArray, List.set_cons_zero, List.set_cons_succ]
      refine take_one 2 19 (v := ?_) rfl rfl (by kernel_rfl) (by kernel_rfl) (by kernel_rfl) (fun _ _ _ h => h) (Or.inl ⟨by rfl, ?_⟩) hHeld ?_
      rotate_left
      · intro w' hSw; (try dsimp only at hSw); obtain ⟨c0, c1, c2, c3, c4, c5, c6, c7, c8, c9, c10, c11, c12, c13, c14, c15, c16, c17, c18, c19, c20, c21⟩ := hSw; go_simp; try with_reducible rfl
      try simp only [Act.put, List.setIfInBounds_toArray, List.set_cons_zero, List.set_cons_succ]
      refine take_one 3 20 (v := ?_) rfl rfl (by kernel_rfl) (by kernel_rfl) (by kernel_rfl) (fun _ _ _ h => h) (Or.inl ⟨by rfl, ?_⟩) hHeld ?_
      rotate_left
      · intro w' hSw; (try dsimp only at hSw); obtain ⟨c0, c1, c2, c3, c4, c5, c6, c7, c8, c9, c10, c11, c12, c13, c14, c15, c16, c17, c18, c19, c20, c21⟩ := hSw; go_simp; try with_reducible rfl
      try simp only [Act.put, List.setIfInBounds_toArray, List.set_cons_zero, List.set_cons_succ]
      refine take_one 4 21 (v := ?_) rfl rfl (by kernel_rfl) (by kernel_rfl) (by kernel_rfl) (fun _ _ _ h => h) (Or.inl ⟨by rfl, ?_⟩) hHeld ?_
      rotate_left
      · intro w' hSw; (try dsimp only at hSw); obtain ⟨c0, c1, c2, c3, c4, c5, c6, c7, c8, c9, c10, c11, c12, c13, c14, c15, c16, c17, c18, c19, c20, c21⟩ := hSw; go_simp; try with_reducible rfl
      try simp only [Act.put, List.setIfInBounds_toArray, List.set_cons_zero, List.set_cons_succ]
      refine take_one 5 22 (v := ?_) rfl rfl (by kernel_rfl) (by kernel_rfl) (by kernel_rfl) (fun _ _ _ h => h) (Or.inl ⟨by rfl, ?_⟩) hHeld ?_
      rotate_left
      · intro w' hSw; (try dsimp only at hSw); obtain ⟨c0, c1, c2, c3, c4, c5, c6, c7, c8, c9, c10, c11, c12, c13, c14, c15, c16, c17, c18, c19, c20, c21⟩ := hSw; go_simp; try with_reducible rfl
      try simp only [Act.put, List.setIfInBounds_toArray, List.set_cons_zero, List.set_cons_succ]
      refine take_one 6 23 (v := ?_) rfl rfl (by kernel_rfl) (by kernel_rfl) (by kernel_rfl) (fun _ _ _ h => h) (Or.inl ⟨by rfl, ?_⟩) hHeld ?_
      rotate_left
      · intro w' hSw; (try dsimp only at hSw); obtain ⟨c0, c1, c2, c3, c4, c5, c6, c7, c8, c9, c10, c11, c12, c13, c14, c15, c16, c17, c18, c19, c20, c21⟩ := hSw; go_simp; try with_reducible rfl
      try simp only [Act.put, List.setIfInBounds_toArray, List.set_cons_zero, List.set_cons_succ]
      refine take_one 7 24 (v := ?_) rfl rfl (by kernel_rfl) (by kernel_rfl) (by kernel_rfl) (fun _ _ _ h => h) (Or.inl ⟨by rfl, ?_⟩) hHeld ?_
      rotate_left
      · intro w' hSw; (try dsimp only at hSw); obtain ⟨c0, c1, c2, c3, c4, c5, c6, c7, c8, c9, c10, c11, c12, c13, c14, c15, c16, c17, c18, c19, c20, c21⟩ := hSw; go_simp; try with_reducible rfl
      try simp only [Act.put, List.setIfInBounds_toArray, List.set_cons_zero, List.set_cons_succ]
      refine wpAnyH_ready (rs := [8]) (by kernel_rfl) (by simp) ?_
      refine AllReadyH.cons (i := 8) rfl (fun K hK => ?_) AllReadyH.nil
      go_simp
      refine (eqE_is x0 x1 x2 x3 x4 x5 x6 x7 x8 x9 x10 _).mono ?_
      rintro e w2 ⟨rfl, hb2⟩
      go_wp2_with fail
      refine hK.out _ _ ⟨(hb2.cell (p := ⟨b1, o1 + k * 11, none⟩) m1).trans h0, (hb2.cell (p := ⟨b1, o1 + k * 11 + 1, none⟩) m1).trans h1, (hb2.cell (p := ⟨b1, o1 + k * 11 + 2, none⟩) m1).trans h2, (hb2.cell (p := ⟨b1, o1 + k * 11 + 3, none⟩) m1).trans h3, (hb2.cell (p := ⟨b1, o1 + k * 11 + 4, none⟩) m1).trans h4, (hb2.cell (p := ⟨b1, o1 + k * 11 + 5, none⟩) m1).trans h5, (hb2.cell (p := ⟨b1, o1 + k * 11 + 6, none⟩) m1).trans h6, (hb2.cell (p := ⟨b1, o1 + k * 11 + 7, none⟩) m1).trans h7, (hb2.cell (p := ⟨b1, o1 + k * 11 + 8, none⟩) m1).trans h8, (hb2.cell (p := ⟨b1, o1 + k * 11 + 9, none⟩) m1).trans h9, (hb2.cell (p := ⟨b1, o1 + k * 11 + 10, none⟩) m1).trans h10, (hb2.cell (p := ⟨b2, o2 + k * 11, none⟩) m2).trans g0, (hb2.cell (p := ⟨b2, o2 + k * 11 + 1, none⟩) m2).trans g1, (hb2.cell (p := ⟨b2, o2 + k * 11 + 2, none⟩) m2).trans g2, (hb2.cell (p := ⟨b2, o2 + k * 11 + 3, none⟩) m2).trans g3, (hb2.cell (p := ⟨b2, o2 + k * 11 + 4, none⟩) m2).trans g4, (hb2.cell (p := ⟨b2, o2 + k * 11 + 5, none⟩) m2).trans g5, (hb2.cell (p := ⟨b2, o2 + k * 11 + 6, none⟩) m2).trans g6, (hb2.cell (p := ⟨b2, o2 + k * 11 + 7, none⟩) m2).trans g7, (hb2.cell (p := ⟨b2, o2 + k * 11 + 8, none⟩) m2).trans g8, (hb2.cell (p := ⟨b2, o2 + k * 11 + 9, none⟩) m2).trans g9, (hb2.cell (p := ⟨b2, o2 + k * 11 + 10, none⟩) m2).trans g10⟩ (fun hHeld2 => ?_)
      clear hK K hHeld
      have hHeld := hHeld2
      clear hHeld2
      try simp only [Act.put, List.setIfInBounds_toArray, List.set_cons_zero, List.set_cons_succ]
      refine take_one 9 26 (v := ?_) rfl rfl (by kernel_rfl) (by kernel_rfl) (by kernel_rfl) (fun _ _ _ h => h) (Or.inl ⟨by rfl, ?_⟩) hHeld ?_
      rotate_left
      · intro w' hSw; (try dsimp only at hSw); obtain ⟨c0, c1, c2, c3, c4, c5, c6, c7, c8, c9, c10, c11, c12, c13, c14, c15, c16, c17, c18, c19, c20, c21⟩ := hSw; go_simp; try with_reducible rfl
      try simp only [Act.put, List.setIfInBounds_toArray, List.set_cons_zero, List.set_cons_succ]
      refine wpAnyH_done (by kernel_rfl) ?_ _
      have B2 := BD.trans (hb2.mono BD.size)
      clear hHeld h0 h1 h2 h3 h4 h5 h6 h7 h8 h9 h10 g0 g1 g2 g3 g4 g5 g6 g7 g8 g9 g10
      go_wp2
      go_roundw
      case rel => exact ⟨k + 1, by omega, by go_num, B2⟩
      case measure => simp [intOf]; omega
    · go_wp2
      go_ret
      exact ⟨rfl, hbel⟩
theorem eqSE_u (r q : Rw TE) (w : World) (hr : RpE w r) (hq : RpE w q) (hs : rsE r = rsE q) (hl : rtE r ≤ 1048576) : Calls Tryz.prog 52 #[.slice r.1 r.2.2.length r.2.1, .slice q.1 q.2.2.length q.2.1] w fun en w' => en = .returned (.bool true) ∧ Below w.heap.size w w' := by
  obtain ⟨a, c, xs⟩ := r
  obtain ⟨b, d, ys⟩ := q
  obtain rfl : xs = ys := hs
  exact eqSE_is a b c d xs w hr hq (Nat.le_trans (rtE_len (a, c, xs)) hl)
end Go.Proofs.YtjcmbbnklfemcaaGreat.Nd
