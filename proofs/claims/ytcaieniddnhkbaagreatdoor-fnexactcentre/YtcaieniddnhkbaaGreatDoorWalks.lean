/- The laws of RestOk, Entails and Permits, step by step. -/
import Derived.Test.YtcaieniddnhkbaaGreatDoorAb
import Derived.Test.YtcaieniddnhkbaaGreatDoorFaces2
import Derived.Test.YtcaieniddnhkbaaGreatDoorVarWalks
import Derived.Shelf.Strings.Builder1
import Derived.Shelf.Strings.Builder2
import Derived.Shelf.Strings.OnBuilder
import Derived.Test.YtcaieniddnhkbaaGreatDoorProg
set_option linter.unusedVariables false
namespace Go.Proofs.YtcaieniddnhkbaaGreatDoor
open Go Go.RowKit
/-- The box of one rest. -/
structure One (s:Nat) (a b c:Int) (W:World):Prop where
 a:W.cell? ⟨s,0,none⟩=some (I a)
 b:W.cell? ⟨s,1,none⟩=some (I b)
 c:W.cell? ⟨s,2,none⟩=some (I c)
theorem One.later {s:Nat} {a b c:Int} {W W':World} (h:One s a b c W) (hb:Below W.heap.size W W') (hs:s + 1 ≤ W.heap.size):One s a b c W' :=
 ⟨(hb.cell (p:=⟨s,0,none⟩) (show s < _ by omega)).trans h.a,(hb.cell (p:=⟨s,1,none⟩) (show s < _ by omega)).trans h.b,(hb.cell (p:=⟨s,2,none⟩) (show s < _ by omega)).trans h.c⟩
end Go.Proofs.YtcaieniddnhkbaaGreatDoor
set_option linter.unusedVariables false
namespace Go.Proofs.YtcaieniddnhkbaaGreatDoor
open Go Go.RowKit Own Var Term
/-- A block of the call's own, its cells written out. -/
structure Blk (g:Nat) (vs:List Value) (W:World):Prop where
 out:∀ i v,vs[i]?=some v → W.cell? ⟨g,i,none⟩=some v∧W.frozen? ⟨g,i,none⟩=false
theorem Blk.at {g:Nat} {vs:List Value} {W:World} (h:Blk g vs W) (i:Nat) {v:Value} (e:vs[i]?=some v):W.cell? ⟨g,i,none⟩=some v:=(h.out i v e).1
theorem Blk.e2 {g:Nat} {W:World} {v0 v1:Value} {r:List Value} (h:Blk g (v0 :: v1 :: r) W):W.cell? ⟨g,0,none⟩=some v0∧W.cell? ⟨g,1,none⟩=some v1:=⟨h.at 0 rfl,h.at 1 rfl⟩
theorem Blk.e3 {g:Nat} {W:World} {v0 v1 v2:Value} {r:List Value} (h:Blk g (v0 :: v1 :: v2 :: r) W):W.cell? ⟨g,0,none⟩=some v0∧W.cell? ⟨g,1,none⟩=some v1∧W.cell? ⟨g,2,none⟩=some v2:=⟨h.at 0 rfl,h.at 1 rfl,h.at 2 rfl⟩
theorem Blk.e4 {g:Nat} {W:World} {v0 v1 v2 v3:Value} {r:List Value} (h:Blk g (v0 :: v1 :: v2 :: v3 :: r) W):W.cell? ⟨g,0,none⟩=some v0∧W.cell? ⟨g,1,none⟩=some v1∧W.cell? ⟨g,2,none⟩=some v2∧W.cell? ⟨g,3,none⟩=some v3:=⟨h.at 0 rfl,h.at 1 rfl,h.at 2 rfl,h.at 3 rfl⟩
theorem Blk.e5 {g:Nat} {W:World} {v0 v1 v2 v3 v4:Value} {r:List Value} (h:Blk g (v0 :: v1 :: v2 :: v3 :: v4 :: r) W):W.cell? ⟨g,0,none⟩=some v0∧W.cell? ⟨g,1,none⟩=some v1∧W.cell? ⟨g,2,none⟩=some v2∧W.cell? ⟨g,3,none⟩=some v3∧W.cell? ⟨g,4,none⟩=some v4:=⟨h.at 0 rfl,h.at 1 rfl,h.at 2 rfl,h.at 3 rfl,h.at 4 rfl⟩
theorem Blk.e6 {g:Nat} {W:World} {v0 v1 v2 v3 v4 v5:Value} {r:List Value} (h:Blk g (v0 :: v1 :: v2 :: v3 :: v4 :: v5 :: r) W):W.cell? ⟨g,0,none⟩=some v0∧W.cell? ⟨g,1,none⟩=some v1∧W.cell? ⟨g,2,none⟩=some v2∧W.cell? ⟨g,3,none⟩=some v3∧W.cell? ⟨g,4,none⟩=some v4∧W.cell? ⟨g,5,none⟩=some v5:=⟨h.at 0 rfl,h.at 1 rfl,h.at 2 rfl,h.at 3 rfl,h.at 4 rfl,h.at 5 rfl⟩
theorem Blk.e7 {g:Nat} {W:World} {v0 v1 v2 v3 v4 v5 v6:Value} {r:List Value} (h:Blk g (v0 :: v1 :: v2 :: v3 :: v4 :: v5 :: v6 :: r) W):W.cell? ⟨g,0,none⟩=some v0∧W.cell? ⟨g,1,none⟩=some v1∧W.cell? ⟨g,2,none⟩=some v2∧W.cell? ⟨g,3,none⟩=some v3∧W.cell? ⟨g,4,none⟩=some v4∧W.cell? ⟨g,5,none⟩=some v5∧W.cell? ⟨g,6,none⟩=some v6:=⟨h.at 0 rfl,h.at 1 rfl,h.at 2 rfl,h.at 3 rfl,h.at 4 rfl,h.at 5 rfl,h.at 6 rfl⟩
theorem Blk.e8 {g:Nat} {W:World} {v0 v1 v2 v3 v4 v5 v6 v7:Value} {r:List Value} (h:Blk g (v0 :: v1 :: v2 :: v3 :: v4 :: v5 :: v6 :: v7 :: r) W):W.cell? ⟨g,0,none⟩=some v0∧W.cell? ⟨g,1,none⟩=some v1∧W.cell? ⟨g,2,none⟩=some v2∧W.cell? ⟨g,3,none⟩=some v3∧W.cell? ⟨g,4,none⟩=some v4∧W.cell? ⟨g,5,none⟩=some v5∧W.cell? ⟨g,6,none⟩=some v6∧W.cell? ⟨g,7,none⟩=some v7:=⟨h.at 0 rfl,h.at 1 rfl,h.at 2 rfl,h.at 3 rfl,h.at 4 rfl,h.at 5 rfl,h.at 6 rfl,h.at 7 rfl⟩
theorem Blk.e9 {g:Nat} {W:World} {v0 v1 v2 v3 v4 v5 v6 v7 v8:Value} {r:List Value} (h:Blk g (v0 :: v1 :: v2 :: v3 :: v4 :: v5 :: v6 :: v7 :: v8 :: r) W):W.cell? ⟨g,0,none⟩=some v0∧W.cell? ⟨g,1,none⟩=some v1∧W.cell? ⟨g,2,none⟩=some v2∧W.cell? ⟨g,3,none⟩=some v3∧W.cell? ⟨g,4,none⟩=some v4∧W.cell? ⟨g,5,none⟩=some v5∧W.cell? ⟨g,6,none⟩=some v6∧W.cell? ⟨g,7,none⟩=some v7∧W.cell? ⟨g,8,none⟩=some v8:=⟨h.at 0 rfl,h.at 1 rfl,h.at 2 rfl,h.at 3 rfl,h.at 4 rfl,h.at 5 rfl,h.at 6 rfl,h.at 7 rfl,h.at 8 rfl⟩
theorem Blk.e11 {g:Nat} {W:World} {v0 v1 v2 v3 v4 v5 v6 v7 v8 v9 v10:Value} {r:List Value} (h:Blk g (v0 :: v1 :: v2 :: v3 :: v4 :: v5 :: v6 :: v7 :: v8 :: v9 :: v10 :: r) W):W.cell? ⟨g,0,none⟩=some v0∧W.cell? ⟨g,1,none⟩=some v1∧W.cell? ⟨g,2,none⟩=some v2∧W.cell? ⟨g,3,none⟩=some v3∧W.cell? ⟨g,4,none⟩=some v4∧W.cell? ⟨g,5,none⟩=some v5∧W.cell? ⟨g,6,none⟩=some v6∧W.cell? ⟨g,7,none⟩=some v7∧W.cell? ⟨g,8,none⟩=some v8∧W.cell? ⟨g,9,none⟩=some v9∧W.cell? ⟨g,10,none⟩=some v10:=⟨h.at 0 rfl,h.at 1 rfl,h.at 2 rfl,h.at 3 rfl,h.at 4 rfl,h.at 5 rfl,h.at 6 rfl,h.at 7 rfl,h.at 8 rfl,h.at 9 rfl,h.at 10 rfl⟩
theorem Blk.e22 {g:Nat} {W:World} {v0 v1 v2 v3 v4 v5 v6 v7 v8 v9 v10 v11 v12 v13 v14 v15 v16 v17 v18 v19 v20 v21:Value} {r:List Value} (h:Blk g (v0 :: v1 :: v2 :: v3 :: v4 :: v5 :: v6 :: v7 :: v8 :: v9 :: v10 :: v11 :: v12 :: v13 :: v14 :: v15 :: v16 :: v17 :: v18 :: v19 :: v20 :: v21 :: r) W):W.cell? ⟨g,0,none⟩=some v0∧W.cell? ⟨g,1,none⟩=some v1∧W.cell? ⟨g,2,none⟩=some v2∧W.cell? ⟨g,3,none⟩=some v3∧W.cell? ⟨g,4,none⟩=some v4∧W.cell? ⟨g,5,none⟩=some v5∧W.cell? ⟨g,6,none⟩=some v6∧W.cell? ⟨g,7,none⟩=some v7∧W.cell? ⟨g,8,none⟩=some v8∧W.cell? ⟨g,9,none⟩=some v9∧W.cell? ⟨g,10,none⟩=some v10∧W.cell? ⟨g,11,none⟩=some v11∧W.cell? ⟨g,12,none⟩=some v12∧W.cell? ⟨g,13,none⟩=some v13∧W.cell? ⟨g,14,none⟩=some v14∧W.cell? ⟨g,15,none⟩=some v15∧W.cell? ⟨g,16,none⟩=some v16∧W.cell? ⟨g,17,none⟩=some v17∧W.cell? ⟨g,18,none⟩=some v18∧W.cell? ⟨g,19,none⟩=some v19∧W.cell? ⟨g,20,none⟩=some v20∧W.cell? ⟨g,21,none⟩=some v21:=⟨h.at 0 rfl,h.at 1 rfl,h.at 2 rfl,h.at 3 rfl,h.at 4 rfl,h.at 5 rfl,h.at 6 rfl,h.at 7 rfl,h.at 8 rfl,h.at 9 rfl,h.at 10 rfl,h.at 11 rfl,h.at 12 rfl,h.at 13 rfl,h.at 14 rfl,h.at 15 rfl,h.at 16 rfl,h.at 17 rfl,h.at 18 rfl,h.at 19 rfl,h.at 20 rfl,h.at 21 rfl⟩
theorem Blk.fz {g:Nat} {vs:List Value} {W:World} (h:Blk g vs W) (i:Nat) {v:Value} (e:vs[i]?=some v):W.frozen? ⟨g,i,none⟩=false:=(h.out i v e).2
theorem Blk.new (w:World) (cs:Array Value) (t:TypeId):Blk w.heap.size cs.toList (w.alloc (.cells cs t)):=by
 constructor
 intro i v e
 refine ⟨?_,?_⟩
 ·rw [World.cell?_alloc_mark w cs t (0,0) i]
  simpa using e
 ·simp [go_sem]
theorem Blk.later {g:Nat} {vs:List Value} {W W':World} (h:Blk g vs W) (hb:Below W.heap.size W W') (hg:g < W.heap.size):Blk g vs W' :=
 ⟨fun i v e=>⟨(hb.cell (p:=⟨g,i,none⟩) hg).trans (h.out i v e).1,(hb.frozen (p:=⟨g,i,none⟩) hg).trans (h.out i v e).2⟩⟩
theorem Blk.drew {g:Nat} {vs:List Value} {W:World} (h:Blk g vs W):Blk g vs W.drew:=⟨fun i v e=>h.out i v e⟩
theorem Blk.alloc {g:Nat} {vs:List Value} {W:World} (h:Blk g vs W) (hg:g < W.heap.size) (o:Obj):Blk g vs (W.alloc o):=h.later ((Below.refl _ _).alloc (Nat.le_refl _) o) hg
theorem Blk.set {g:Nat} {vs:List Value} {W:World} (h:Blk g vs W) (k:Nat) (u:Value):Blk g (vs.set k u) (W.setCell ⟨g,k,none⟩ u):=by
 constructor
 intro i v e
 by_cases c:k=i
 ·subst c
  have hl:k < vs.length:=by
   have:=List.getElem?_eq_some_iff.1 e
   obtain ⟨q,_⟩:=this
   simpa using q
  rw [List.getElem?_set_self hl,Option.some.injEq] at e
  subst e
  have hq:=h.out k vs[k] (List.getElem?_eq_getElem hl)
  exact ⟨World.cell?_setCell_same' _ _ _ (by rw [hq.1];rfl),by simpa using hq.2⟩
 ·rw [List.getElem?_set_ne c] at e
  have hq:=h.out i v e
  exact ⟨by rw [World.cell?_setCell_other _ _ _ _ (by simp)];exact hq.1,by simpa using hq.2⟩
theorem Blk.far {g g':Nat} {vs:List Value} {W:World} (h:Blk g vs W) (hn:g' ≠ g) (k:Nat) (u:Value):Blk g vs (W.setCell ⟨g',k,none⟩ u) :=
 ⟨fun i v e=>⟨by rw [World.cell?_setCell_other _ _ _ _ (by simp)];exact (h.out i v e).1,by simpa using (h.out i v e).2⟩⟩
set_option maxRecDepth 100000 in
set_option maxHeartbeats 1600000 in
theorem authOk_is (c t q:Int) (w:World):Calls Tryz.prog 202 #[.agg #[I c,I t,I q]] w fun en w'=>en=.returned (.bool (aOk c t q))∧Below w.heap.size w w':=by
 obtain ⟨W1,hW1⟩:∃ W1,w.alloc (.cells #[I c,I t,I q] 116)=W1:=⟨_,rfl⟩
 have B0:Below w.heap.size w W1:=by rw [← hW1];exact (Below.refl _ _).alloc (Nat.le_refl _) _
 have T0:Blk w.heap.size [I c,I t,I q] W1:=by rw [← hW1];exact Blk.new _ _ _
 have Z0:Hid (w.heap.size < W1.heap.size):=by show _ < _;rw [← hW1];simp
 have d0:=T0.at 0 rfl
 have d1:=T0.at 1 rfl
 have d2:=T0.at 2 rfl
 go_enter Tryz.func202,Tryz.ntmps202
 go_wp2_with fail
 try rw [hW1]
 refine (prin_is c _).mono ?_
 clear hW1
 rintro e wx ⟨rfl,rfl⟩
 by_cases h0:btw c 0 5=true
 ·rw [h0]
  go_wp2_with fail
  refine (within_is t 100000 _).mono ?_
  rintro e wx ⟨rfl,rfl⟩
  rw [show inB t 100000=btw t 0 100000 from rfl]
  by_cases h1:btw t 0 100000=true
  ·rw [h1]
   go_wp2_with fail
   refine (within_is q 1000000 _).mono ?_
   rintro e wx ⟨rfl,rfl⟩
   rw [show inB q 1000000=btw q 0 1000000 from rfl]
   clear d0 d1 d2
   generalize hval:btw q 0 1000000=bb
   go_wp2
   go_ret
   exact ⟨by unfold aOk;rw [h0,h1,hval];rfl,B0⟩
  ·rw [Bool.not_eq_true] at h1
   rw [h1]
   clear d0 d1 d2
   go_wp2
   go_ret
   exact ⟨by unfold aOk;rw [h0,h1];rfl,B0⟩
 ·rw [Bool.not_eq_true] at h0
  rw [h0]
  clear d0 d1 d2
  go_wp2
  go_ret
  exact ⟨by unfold aOk;rw [h0];rfl,B0⟩
set_option maxRecDepth 100000 in
set_option maxHeartbeats 1600000 in
theorem spec_authOk (c t q:Int) (w:World):Calls Tryz.prog 123 #[.agg #[I c,I t,I q]] w fun en w'=>en=.returned (.bool (aOk c t q))∧Below w.heap.size w w':=by
 obtain ⟨W1,hW1⟩:∃ W1,w.alloc (.cells #[I c,I t,I q] 116)=W1:=⟨_,rfl⟩
 have B0:Below w.heap.size w W1:=by rw [← hW1];exact (Below.refl _ _).alloc (Nat.le_refl _) _
 have T0:Blk w.heap.size [I c,I t,I q] W1:=by rw [← hW1];exact Blk.new _ _ _
 have Z0:Hid (w.heap.size < W1.heap.size):=by show _ < _;rw [← hW1];simp
 have d0:=T0.at 0 rfl
 have d1:=T0.at 1 rfl
 have d2:=T0.at 2 rfl
 go_enter Tryz.func123,Tryz.ntmps123
 go_wp2_with fail
 try rw [hW1]
 refine (spec_prin c _).mono ?_
 clear hW1
 rintro e wx ⟨rfl,rfl⟩
 by_cases h0:btw c 0 5=true
 ·rw [h0]
  go_wp2_with fail
  refine (in_is t 0 100000 _).mono ?_
  rintro e wx ⟨rfl,rfl⟩
  rw [show (decide (0 ≤ t) && decide (t ≤ 100000))=btw t 0 100000 from rfl]
  by_cases h1:btw t 0 100000=true
  ·rw [h1]
   go_wp2_with fail
   refine (in_is q 0 1000000 _).mono ?_
   rintro e wx ⟨rfl,rfl⟩
   rw [show (decide (0 ≤ q) && decide (q ≤ 1000000))=btw q 0 1000000 from rfl]
   clear d0 d1 d2
   generalize hval:btw q 0 1000000=bb
   go_wp2
   go_ret
   exact ⟨by unfold aOk;rw [h0,h1,hval];rfl,B0⟩
  ·rw [Bool.not_eq_true] at h1
   rw [h1]
   clear d0 d1 d2
   go_wp2
   go_ret
   exact ⟨by unfold aOk;rw [h0,h1];rfl,B0⟩
 ·rw [Bool.not_eq_true] at h0
  rw [h0]
  clear d0 d1 d2
  go_wp2
  go_ret
  exact ⟨by unfold aOk;rw [h0];rfl,B0⟩
set_option maxRecDepth 100000 in
set_option maxHeartbeats 1600000 in
theorem grantOk_is (k s n a b e:Int) (w:World) (hs:i64 s):Calls Tryz.prog 171 #[.agg #[I k,I s,I n,I a,I b,I e]] w fun en w'=>en=.returned (.bool (gOk k s n a b e))∧Below w.heap.size w w':=by
 obtain ⟨W1,hW1⟩:∃ W1,w.alloc (.cells #[I k,I s,I n,I a,I b,I e] 47)=W1:=⟨_,rfl⟩
 have B0:Below w.heap.size w W1:=by rw [← hW1];exact (Below.refl _ _).alloc (Nat.le_refl _) _
 have T0:Blk w.heap.size [I k,I s,I n,I a,I b,I e] W1:=by rw [← hW1];exact Blk.new _ _ _
 have Z0:Hid (w.heap.size < W1.heap.size):=by show _ < _;rw [← hW1];simp
 have d0:=T0.at 0 rfl
 have d1:=T0.at 1 rfl
 have d2:=T0.at 2 rfl
 have d3:=T0.at 3 rfl
 have d4:=T0.at 4 rfl
 have d5:=T0.at 5 rfl
 go_enter Tryz.func171,Tryz.ntmps171
 go_wp2_with fail
 try rw [hW1]
 refine (keyOk_is k _).mono ?_
 clear hW1
 rintro e wx ⟨rfl,rfl⟩
 rw [show (decide (1 ≤ k) && decide (k ≤ 1000000))=btw k 1 1000000 from rfl]
 by_cases h0:btw k 1 1000000=true
 ·rw [h0]
  go_wp2_with fail
  refine (recv_is s _ hs).mono ?_
  rintro e wx ⟨rfl,rfl⟩
  by_cases h1:svOk s=true
  ·rw [h1]
   go_wp2_with fail
   refine (within_is n 1000000 _).mono ?_
   rintro e wx ⟨rfl,rfl⟩
   rw [show inB n 1000000=btw n 0 1000000 from rfl]
   by_cases h2:btw n 0 1000000=true
   ·rw [h2]
    go_wp2_with fail
    refine (right_is a b e _).mono ?_
    rintro e w5 ⟨rfl,hb5⟩
    have B5:=B0.trans (hb5.mono B0.size)
    clear d0 d1 d2 d3 d4 d5
    have T5:=T0.later hb5 Z0.out
    have Z5:Hid (w.heap.size < w5.heap.size):=Nat.lt_of_lt_of_le Z0.out hb5.size
    clear T0 Z0 hb5
    have d0:=T5.at 0 rfl
    have d1:=T5.at 1 rfl
    have d2:=T5.at 2 rfl
    have d3:=T5.at 3 rfl
    have d4:=T5.at 4 rfl
    have d5:=T5.at 5 rfl
    clear d0 d1 d2 d3 d4 d5
    generalize hval:rOk a b e=bb
    go_wp2
    go_ret
    exact ⟨by unfold gOk;rw [h0,h1,h2,hval];rfl,B5⟩
   ·rw [Bool.not_eq_true] at h2
    rw [h2]
    clear d0 d1 d2 d3 d4 d5
    go_wp2
    go_ret
    exact ⟨by unfold gOk;rw [h0,h1,h2];rfl,B0⟩
  ·rw [Bool.not_eq_true] at h1
   rw [h1]
   clear d0 d1 d2 d3 d4 d5
   go_wp2
   go_ret
   exact ⟨by unfold gOk;rw [h0,h1];rfl,B0⟩
 ·rw [Bool.not_eq_true] at h0
  rw [h0]
  clear d0 d1 d2 d3 d4 d5
  go_wp2
  go_ret
  exact ⟨by unfold gOk;rw [h0];rfl,B0⟩
set_option maxRecDepth 100000 in
set_option maxHeartbeats 1600000 in
theorem spec_grantOk (k s n a b e:Int) (w:World):Calls Tryz.prog 45 #[.agg #[I k,I s,I n,I a,I b,I e]] w fun en w'=>en=.returned (.bool (gOk k s n a b e))∧Below w.heap.size w w':=by
 obtain ⟨W1,hW1⟩:∃ W1,w.alloc (.cells #[I k,I s,I n,I a,I b,I e] 47)=W1:=⟨_,rfl⟩
 have B0:Below w.heap.size w W1:=by rw [← hW1];exact (Below.refl _ _).alloc (Nat.le_refl _) _
 have T0:Blk w.heap.size [I k,I s,I n,I a,I b,I e] W1:=by rw [← hW1];exact Blk.new _ _ _
 have Z0:Hid (w.heap.size < W1.heap.size):=by show _ < _;rw [← hW1];simp
 have d0:=T0.at 0 rfl
 have d1:=T0.at 1 rfl
 have d2:=T0.at 2 rfl
 have d3:=T0.at 3 rfl
 have d4:=T0.at 4 rfl
 have d5:=T0.at 5 rfl
 go_enter Tryz.func45,Tryz.ntmps45
 go_wp2_with fail
 try rw [hW1]
 refine (in_is k 1 1000000 _).mono ?_
 clear hW1
 rintro e wx ⟨rfl,rfl⟩
 rw [show (decide (1 ≤ k) && decide (k ≤ 1000000))=btw k 1 1000000 from rfl]
 by_cases h0:btw k 1 1000000=true
 ·rw [h0]
  go_wp2_with fail
  refine (spec_serv s _).mono ?_
  rintro e wx ⟨rfl,rfl⟩
  by_cases h1:svOk s=true
  ·rw [h1]
   go_wp2_with fail
   refine (in_is n 0 1000000 _).mono ?_
   rintro e wx ⟨rfl,rfl⟩
   rw [show (decide (0 ≤ n) && decide (n ≤ 1000000))=btw n 0 1000000 from rfl]
   by_cases h2:btw n 0 1000000=true
   ·rw [h2]
    go_wp2_with fail
    refine (specOk_is a b e _).mono ?_
    rintro e w5 ⟨rfl,hb5⟩
    have B5:=B0.trans (hb5.mono B0.size)
    clear d0 d1 d2 d3 d4 d5
    have T5:=T0.later hb5 Z0.out
    have Z5:Hid (w.heap.size < w5.heap.size):=Nat.lt_of_lt_of_le Z0.out hb5.size
    clear T0 Z0 hb5
    have d0:=T5.at 0 rfl
    have d1:=T5.at 1 rfl
    have d2:=T5.at 2 rfl
    have d3:=T5.at 3 rfl
    have d4:=T5.at 4 rfl
    have d5:=T5.at 5 rfl
    clear d0 d1 d2 d3 d4 d5
    generalize hval:rOk a b e=bb
    go_wp2
    go_ret
    exact ⟨by unfold gOk;rw [h0,h1,h2,hval];rfl,B5⟩
   ·rw [Bool.not_eq_true] at h2
    rw [h2]
    clear d0 d1 d2 d3 d4 d5
    go_wp2
    go_ret
    exact ⟨by unfold gOk;rw [h0,h1,h2];rfl,B0⟩
  ·rw [Bool.not_eq_true] at h1
   rw [h1]
   clear d0 d1 d2 d3 d4 d5
   go_wp2
   go_ret
   exact ⟨by unfold gOk;rw [h0,h1];rfl,B0⟩
 ·rw [Bool.not_eq_true] at h0
  rw [h0]
  clear d0 d1 d2 d3 d4 d5
  go_wp2
  go_ret
  exact ⟨by unfold gOk;rw [h0];rfl,B0⟩
end Go.Proofs.YtcaieniddnhkbaaGreatDoor
namespace Go.Proofs
open Go.Shelf
def Tryz.lays156_ren:Go.Shelf.Ren:=⟨fun | 156=>133 | 165=>164 | 166=>165 | 169=>166 | 240=>191 | 241=>192 | 276=>204 | 277=>205 | n=>n,fun | 31=>37 | 9=>9 | 3=>3 | 4=>4 | 0=>0 | 20=>20 | 72=>213 | 76=>215 | 70=>211 | 37=>22 | 75=>75 | 127=>236 | 164=>155 | 5=>5 | 80=>121 | n=>n,fun | n=>n⟩
theorem Tryz.lays156:Go.Proofs.Lays.n156 Tryz.prog Tryz.lays156_ren:={
 mixed:=by kernel_rfl
 f156:=Tryz.func133.trans (congrArg some (by kernel_rfl))
 f165:=Tryz.func164.trans (congrArg some (by kernel_rfl))
 f166:=Tryz.func165.trans (congrArg some (by kernel_rfl))
 f169:=Tryz.func166.trans (congrArg some (by kernel_rfl))
 f240:=Tryz.func191.trans (congrArg some (by kernel_rfl))
 f241:=Tryz.func192.trans (congrArg some (by kernel_rfl))
 f276:=Tryz.func204.trans (congrArg some (by kernel_rfl))
 f277:=Tryz.func205.trans (congrArg some (by kernel_rfl))
 t0:=Tryz.underlying0
 a0:=Tryz.isAgg0
 z0:=Tryz.sizeOf0
 v0:=Tryz.zeroValue0
 t3:=Tryz.underlying3
 a3:=Tryz.isAgg3
 z3:=Tryz.sizeOf3
 v3:=Tryz.zeroValue3
 t4:=Tryz.underlying4
 a4:=Tryz.isAgg4
 z4:=Tryz.sizeOf4
 v4:=Tryz.zeroValue4
 t9:=Tryz.underlying9
 a9:=Tryz.isAgg9
 z9:=Tryz.sizeOf9
 v9:=Tryz.zeroValue9
 t20:=Tryz.underlying20
 a20:=Tryz.isAgg20
 z20:=Tryz.sizeOf20
 v20:=Tryz.zeroValue20
 t31:=Tryz.underlying37
 a31:=Tryz.isAgg37
 z31:=Tryz.sizeOf37
 v31:=Tryz.zeroValue37
 t37:=Tryz.underlying22
 a37:=Tryz.isAgg22
 z37:=Tryz.sizeOf22
 v37:=Tryz.zeroValue22
 t70:=Tryz.underlying211
 a70:=Tryz.isAgg211
 z70:=Tryz.sizeOf211
 v70:=Tryz.zeroValue211
 t72:=Tryz.underlying213
 a72:=Tryz.isAgg213
 z72:=Tryz.sizeOf213
 v72:=Tryz.zeroValue213
 t75:=Tryz.underlying75
 a75:=Tryz.isAgg75
 z75:=Tryz.sizeOf75
 v75:=Tryz.zeroValue75
 t76:=Tryz.underlying215
 a76:=Tryz.isAgg215
 z76:=Tryz.sizeOf215
 v76:=Tryz.zeroValue215
 t127:=Tryz.underlying236
 a127:=Tryz.isAgg236
 z127:=Tryz.sizeOf236
 v127:=Tryz.zeroValue236
 t164:=Tryz.underlying155
 a164:=Tryz.isAgg155
 z164:=Tryz.sizeOf155
 v164:=Tryz.zeroValue155 }
theorem Tryz.Builder_Extra_156:Builder.Extra Tryz.prog Tryz.lays156_ren:={
 sizeBuilder:=by kernel_rfl
 liesBuilder:=by kernel_rfl
 t5:=Tryz.underlying5
 a5:=Tryz.isAgg5
 z5:=Tryz.sizeOf5
 v5:=Tryz.zeroValue5
 infoByte:=by kernel_rfl
 cellsByte:=by kernel_rfl
 sizeByte:=by kernel_rfl
 neB5:=by decide }
open Go.RowKit in
theorem Tryz.strings_Join_none (a:Option Addr) (c:Nat) (sep:ByteArray) (w:World) :
  Calls Tryz.prog 133 #[.slice a 0 c,.string sep] w fun e w'=>e=.returned (.string ⟨#[]⟩)∧w'=w:=Any.strings_Join_none Tryz.lays156 Tryz.Builder_Extra_156 a c sep w
open Go.RowKit in
theorem Tryz.strings_Join (bk o c:Nat) (xs:List ByteArray) (sep:ByteArray) (w:World) (hcells:∀ (j:Nat) x,xs[j]?=some x → w.cell? ⟨bk,o + j,none⟩=some (.string x)) (hbk:bk < w.heap.size) (hN:xs.length ≤ 140737488355328) (hcap:xs.length ≤ c) (hlen:(Lib.join (xs.map (·.data.toList)) sep.data.toList).length ≤ 140737488355328) :
  Calls Tryz.prog 133 #[.slice (some ⟨bk,o,none⟩) xs.length c,.string sep] w fun e w'=>e=.returned (.string ⟨(Lib.join (xs.map (·.data.toList)) sep.data.toList).toArray⟩)∧Below w.heap.size w w':=Any.strings_Join Tryz.lays156 Tryz.Builder_Extra_156 bk o c xs sep w hcells hbk hN hcap hlen
end Go.Proofs
set_option linter.unusedVariables false
namespace Go.Proofs.YtcaieniddnhkbaaGreatDoor
open Go.RowKit Own Var Term
/-- Texts one behind the other. -/
def cat (xs:List ByteArray):ByteArray:=⟨(xs.map (·.data.toList)).flatten.toArray⟩
theorem cat_list (xs:List ByteArray):(cat xs).data.toList=(xs.map (·.data.toList)).flatten:=by simp [cat]
theorem cat_nil:cat []=⟨#[]⟩:=rfl
theorem cat_snoc (xs:List ByteArray) (x:ByteArray):cat (xs ++ [x])=cat xs ++ x:=by
 apply ext_list;rw [data_append,cat_list,cat_list];simp
theorem cat_size (n:Nat) (xs:List ByteArray) (h:∀ x ∈ xs,x.size ≤ n):(cat xs).size ≤ n * xs.length:=by
 induction xs with
 | nil=>exact Nat.zero_le _
 | cons x xs ih =>
  have h1:(cat (x :: xs)).size=x.size + (cat xs).size:=by rw [size_list,size_list,size_list,cat_list,cat_list];simp
  have h2:=ih (fun y hy=>h y (List.mem_cons_of_mem _ hy))
  have h3:=h x (List.mem_cons_self ..)
  rw [h1,List.length_cons,Nat.mul_succ]
  omega
theorem join_nil (ls:List (List UInt8)):Lib.join ls []=ls.flatten:=by
 induction ls with
 | nil=>rfl
 | cons l ls ih =>
  cases ls with
  | nil=>simp [Lib.join]
  | cons m ls=>simp [Lib.join] at ih ⊢;exact ih
def listT (xs:List ByteArray):ByteArray:=if xs.length ≤ 12∧xs.all isT=true then okOr (hdT 108 xs.length ++ cat xs) else ⟨#[]⟩
theorem all_take {xs:List ByteArray} (h:∀ j (hj:j < xs.length),isT xs[j]=true):xs.all isT=true:=by
 rw [List.all_eq_true]
 intro x hx
 obtain ⟨j,hj,rfl⟩:=List.getElem_of_mem hx
 exact h j hj
theorem not_all {xs:List ByteArray} {j:Nat} (hj:j < xs.length) (h:isT xs[j]=false):¬ (xs.length ≤ 12∧xs.all isT=true):=by
 rintro ⟨_,h2⟩
 rw [List.all_eq_true] at h2
 rw [h2 _ (List.getElem_mem hj)] at h
 cases h
set_option maxRecDepth 100000 in
set_option maxHeartbeats 1600000 in
theorem impl_list (a:Option Addr) (cap:Nat) (xs:List ByteArray) (w:World) (hr:RowAt Value.string w a xs) (hl:xs.length ≤ 1048576) (hcap:xs.length ≤ cap) (hs:∀ x ∈ xs,x.size ≤ 1048576) :
  Calls Tryz.prog 98 #[.slice a xs.length cap] w fun e w'=>e=.returned (.string (listT xs))∧Below w.heap.size w w':=by
 by_cases h12:xs.length ≤ 12
 ·have h12':(xs.length:Int) ≤ 12:=by omega
  go_enter Tryz.func98,Tryz.ntmps98
  go_wp2
  go_loopw [10] (fun i wr=>∃ k:Nat,k ≤ xs.length∧i=I k∧Hid (∀ j (h:j < xs.length),j < k → isT xs[j]=true)∧Below w.heap.size w wr) (fun i _=>xs.length - (intOf i).toNat)
  case atStart=>exact ⟨0,by omega,rfl,fun j h hj=>absurd hj (by omega),Below.refl _ _⟩
  case round =>
   obtain ⟨k,hk,rfl,G,hbel⟩:=hrel
   by_cases hlt:k < xs.length
   ·obtain ⟨b,off,rfl,hbl,hcell⟩:=hr k hlt
    rw [← hbel.cell (p:=⟨b,off + k,none⟩) hbl] at hcell
    have hx:=hs xs[k] (List.getElem_mem hlt)
    have hI:=fun w=>impl_ok xs[k] w (by omega)
    have HN:Hid (isT xs[k]=false → listT xs=⟨#[]⟩):=(fun h=>by unfold listT;rw [if_neg (not_all hlt h)]:isT xs[k]=false → listT xs=⟨#[]⟩)
    have HY:Hid (isT xs[k]=true → ∀ j (h:j < xs.length),j < k + 1 → isT xs[j]=true):=(fun hz j h hj=>by
     by_cases e:j=k
     ·subst e;exact hz
     ·exact G.out j h (by omega):isT xs[k]=true → ∀ j (h:j < xs.length),j < k + 1 → isT xs[j]=true)
    rcases Bool.eq_false_or_eq_true (isT xs[k]) with hT | hT
    ·have HY2:Hid (∀ j (h:j < xs.length),j < k + 1 → isT xs[j]=true):=HY.out hT
     rw [hT] at hI
     clear HN HY hT
     generalize xs[k]=x at hcell hx hI
     go_wp2_with fail
     refine (hI _).mono ?_
     rintro e w1 ⟨rfl,hb1⟩
     have hb2:=hbel.trans (hb1.mono hbel.size)
     go_wp2
     go_roundw
     case rel=>exact ⟨k + 1,by omega,by go_num,HY2,hb2⟩
     case measure=>simp [intOf];omega
    ·have HN2:Hid (listT xs=⟨#[]⟩):=HN.out hT
     rw [hT] at hI
     clear HN HY hT
     generalize xs[k]=x at hcell hx hI
     go_wp2_with fail
     refine (hI _).mono ?_
     rintro e w1 ⟨rfl,hb1⟩
     have hb2:=hbel.trans (hb1.mono hbel.size)
     go_wp2
     go_ret
     exact ⟨by rw [HN2.out];rfl,hb2⟩
   ·have hall:=all_take (xs:=xs) (fun j hj=>G.out j hj (by omega))
    have h9:∀ x ∈ xs,x.size ≤ 900:=fun x hx=>((isT_iff x).1 (List.all_eq_true.1 hall x hx)).1
    have hcz:=cat_size 900 xs h9
    have hz:=hdT_size 108 xs.length
    have hv:=varOf_size xs.length
    have h1:¬ 9223372036854775807 < (hdT 108 xs.length).size + (cat xs).size:=by omega
    have HE:Hid (listT xs=okOr (hdT 108 xs.length ++ cat xs)):=(by unfold listT;rw [if_pos ⟨h12,hall⟩]:listT xs=okOr (hdT 108 xs.length ++ cat xs))
    have HJ:Hid (∀ w1,Below wr.heap.size wr w1 → Calls Tryz.prog 133 #[.slice a xs.length cap,.string ⟨#[]⟩] w1 fun e w'=>e=.returned (.string (cat xs))∧Below w1.heap.size w1 w'):=by
     show ∀ w1,Below wr.heap.size wr w1 → Calls Tryz.prog 133 #[.slice a xs.length cap,.string ⟨#[]⟩] w1 fun e w'=>e=.returned (.string (cat xs))∧Below w1.heap.size w1 w'
     intro w1 hb1
     by_cases h0:xs=[]
     ·subst h0
      refine (Tryz.strings_Join_none a cap ⟨#[]⟩ w1).mono ?_
      rintro e w' ⟨rfl,rfl⟩
      exact ⟨rfl,Below.refl _ _⟩
     ·have hpos:0 < xs.length:=List.length_pos_iff.2 h0
      have hr1:=(hr.later hbel).later hb1
      obtain ⟨b,off,rfl,hbl,_⟩:=hr1 0 hpos
      have hj:Lib.join (xs.map (·.data.toList)) (⟨#[]⟩:ByteArray).data.toList=(xs.map (·.data.toList)).flatten:=join_nil _
      have hlen:(xs.map (·.data.toList)).flatten.length=(cat xs).size:=by rw [size_list,cat_list]
      refine (Tryz.strings_Join b off cap xs ⟨#[]⟩ w1 (fun j x hx=>?_) hbl (by omega) hcap (by rw [hj,hlen];omega)).mono ?_
      ·obtain ⟨hj,rfl⟩:=List.getElem?_eq_some_iff.1 hx
       obtain ⟨b',off',e',_,hc⟩:=hr1 j hj
       injection e' with e'
       injection e' with e1 e2
       subst e1 e2
       exact hc
      ·rintro e w' ⟨rfl,hb⟩
       rw [hj]
       exact ⟨rfl,hb⟩
    clear hall h9 G hr hs
    go_wp2_with fail
    refine (head_is 108 108 enc108 _ _).mono ?_
    rintro e w1 ⟨rfl,hb1⟩
    go_wp2_with fail
    refine (HJ.out w1 hb1).mono ?_
    rintro e w2 ⟨rfl,hb2⟩
    go_wp2_with fail
    refine (impl_or (hdT 108 xs.length ++ cat xs) _ (by rw [ByteArray.size_append];omega)).mono ?_
    rintro e w3 ⟨rfl,hb3⟩
    go_wp2
    go_ret
    have hb4:=hbel.trans (hb1.mono hbel.size)
    have hb5:=hb4.trans (hb2.mono hb4.size)
    exact ⟨by rw [HE.out];rfl,hb5.trans (hb3.mono hb5.size)⟩
 ·have e:listT xs=⟨#[]⟩:=by unfold listT;rw [if_neg (fun c=>h12 c.1)]
  have h12':(12:Int) < (xs.length:Int):=by omega
  rw [e]
  go_enter Tryz.func98,Tryz.ntmps98
  go_wp2
  go_ret
  exact ⟨rfl,Below.refl _ _⟩
set_option maxRecDepth 100000 in
set_option maxHeartbeats 1600000 in
theorem spec_list (a:Option Addr) (cap:Nat) (xs:List ByteArray) (w:World) (hr:RowAt Value.string w a xs) (hl:xs.length ≤ 1048576) (hs:∀ x ∈ xs,x.size ≤ 1048576) :
  Calls Tryz.prog 87 #[.slice a xs.length cap] w fun e w'=>e=.returned (.string (listT xs))∧Below w.heap.size w w':=by
 by_cases h12:xs.length ≤ 12
 ·have h12':(xs.length:Int) ≤ 12:=by omega
  have hv:=varOf_size xs.length
  have h1:¬ 9223372036854775807 < 1 + (varOf xs.length).size:=by omega
  go_enter Tryz.func87,Tryz.ntmps87
  go_wp2_with fail
  refine (spec_var _ _).mono ?_
  rintro e w1 ⟨rfl,hb⟩
  go_wp2
  go_loopw [3,4] (fun t i wr=>∃ (k:Nat) (T:ByteArray),k ≤ xs.length∧i=I k∧t=.string T∧Hid (T=hdT 108 xs.length ++ cat (xs.take k))∧T.size ≤ 8 + 900 * k∧Hid (∀ j (h:j < xs.length),j < k → isT xs[j]=true)∧Below w.heap.size w wr) (fun _ i _=>xs.length - (intOf i).toNat)
  case atStart=>exact ⟨0,hdT 108 xs.length,by omega,rfl,rfl,(by rw [List.take_zero,cat_nil,app_nil]:hdT 108 xs.length=hdT 108 xs.length ++ cat (xs.take 0)),by rw [hdT_size];omega,fun j h hj=>absurd hj (by omega),hb⟩
  case round =>
   obtain ⟨k,T,hk,rfl,rfl,HT,hTz,G,hbel⟩:=hrel
   by_cases hlt:k < xs.length
   ·obtain ⟨b,off,rfl,hbl,hcell⟩:=hr k hlt
    rw [← hbel.cell (p:=⟨b,off + k,none⟩) hbl] at hcell
    have hx:=hs xs[k] (List.getElem_mem hlt)
    have hI:=fun w=>spec_ok xs[k] w (by omega)
    have HN:Hid (isT xs[k]=false → listT xs=⟨#[]⟩):=(fun h=>by unfold listT;rw [if_neg (not_all hlt h)]:isT xs[k]=false → listT xs=⟨#[]⟩)
    have HY:Hid (isT xs[k]=true → ∀ j (h:j < xs.length),j < k + 1 → isT xs[j]=true):=(fun hz j h hj=>by
     by_cases e:j=k
     ·subst e;exact hz
     ·exact G.out j h (by omega):isT xs[k]=true → ∀ j (h:j < xs.length),j < k + 1 → isT xs[j]=true)
    have HC:Hid (T ++ xs[k]=hdT 108 xs.length ++ cat (xs.take (k + 1))):=(by
     rw [HT.out,List.take_succ_eq_append_getElem hlt,cat_snoc]
     apply ext_list
     simp only [data_append,List.append_assoc]:T ++ xs[k]=hdT 108 xs.length ++ cat (xs.take (k + 1)))
    rcases Bool.eq_false_or_eq_true (isT xs[k]) with hT | hT
    ·have HY2:Hid (∀ j (h:j < xs.length),j < k + 1 → isT xs[j]=true):=HY.out hT
     have h9:=((isT_iff xs[k]).1 hT).1
     rw [hT] at hI
     clear HN HY hT
     generalize xs[k]=x at hcell hx hI h9 HC
     have h2:¬ 9223372036854775807 < T.size + x.size:=by omega
     go_wp2_with fail
     refine (hI _).mono ?_
     rintro e w1 ⟨rfl,hb1⟩
     have hb2:=hbel.trans (hb1.mono hbel.size)
     rw [← hb1.cell (p:=⟨b,off + k,none⟩) (Nat.lt_of_lt_of_le hbl hbel.size)] at hcell
     go_wp2
     go_roundw
     case rel=>exact ⟨k + 1,T ++ x,by omega,by go_num,rfl,HC,by rw [ByteArray.size_append];omega,HY2,hb2⟩
     case measure=>simp [intOf];omega
    ·have HN2:Hid (listT xs=⟨#[]⟩):=HN.out hT
     rw [hT] at hI
     clear HN HY hT HC
     generalize xs[k]=x at hcell hx hI
     go_wp2_with fail
     refine (hI _).mono ?_
     rintro e w1 ⟨rfl,hb1⟩
     have hb2:=hbel.trans (hb1.mono hbel.size)
     go_wp2
     go_ret
     exact ⟨by rw [HN2.out];rfl,hb2⟩
   ·have hall:=all_take (xs:=xs) (fun j hj=>G.out j hj (by omega))
    have HE:Hid (listT xs=okOr T):=(by unfold listT;rw [if_pos ⟨h12,hall⟩,HT.out,List.take_of_length_le (by omega)]:listT xs=okOr T)
    clear hall G hr hs
    go_wp2_with fail
    refine (spec_or T _ (by omega)).mono ?_
    rintro e w3 ⟨rfl,hb3⟩
    go_wp2
    go_ret
    exact ⟨by rw [HE.out];rfl,hbel.trans (hb3.mono hbel.size)⟩
 ·have e:listT xs=⟨#[]⟩:=by unfold listT;rw [if_neg (fun c=>h12 c.1)]
  have h12':(12:Int) < (xs.length:Int):=by omega
  rw [e]
  go_enter Tryz.func87,Tryz.ntmps87
  go_wp2
  go_ret
  exact ⟨rfl,Below.refl _ _⟩
end Go.Proofs.YtcaieniddnhkbaaGreatDoor
