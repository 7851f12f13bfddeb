/- Rests: Entails, of the program and of the model. -/
import Derived.Test.YtlmpfkbgknbcnaaGreatVarWalks
import Derived.Deep.RegionHeld3
import Derived.Test.YtlmpfkbgknbcnaaGreatAb
import Derived.Test.YtlmpfkbgknbcnaaGreatRows
import Derived.WalkKit
import Derived.WalkSpells
import Derived.WalkLawsBesides
import Derived.Deep.QuietTactic
import Derived.BigQuiet
import Derived.WalkSmall
import Derived.Laws.IdiomStrings
import Derived.Maps.AppendAt
import Derived.Below
import Derived.Lib.SmallJoins
set_option linter.unusedVariables false
namespace Go.Proofs.YtlmpfkbgknbcnaaGreat
open Go Go.RowKit
theorem unwanted {ops : Array Oper} {tmps : Array Value} {o : Oper} {j d : Nat} {b c : Bool} (hg : o.guard = some (j,b)) (hd : (ops[j]?).bind (·.dst) = some d) (ht : tmps[d]? = some (.bool c)) (hc : (c == b) = false) : Region.wanted o (yielded ops tmps) = false:=by
 have hy : yielded ops tmps j = some c:=by unfold yielded; rw [hd]; simp only [Option.bind_some,ht]
 unfold Region.wanted
 rw [hg]
 simp only [hy]
 simpa using hc
theorem unwanted_undef {ops : Array Oper} {tmps : Array Value} {o : Oper} {j d : Nat} {b : Bool} (hg : o.guard = some (j,b)) (hd : (ops[j]?).bind (·.dst) = some d) (ht : tmps[d]? = some undef) : Region.wanted o (yielded ops tmps) = false:=by
 have hy : yielded ops tmps j = none:=by unfold yielded; rw [hd]; simp only [Option.bind_some,ht]; rfl
 unfold Region.wanted
 rw [hg]
 simp only [hy]
 rfl
/-- An operation of a drawn region that yields its value wherever S holds is taken first. -/
theorem take_one {P : Program} {ops : Array Oper} {Q : Exit → Act → World → Prop} {md : Region.Mode} {S : World → Prop} (i d : Nat) {oi : Oper} {v : Value} {fuel : Nat} {listed : Array Bool} {a : Act} {w : World} (hi : ops[i]? = some oi) (hd : oi.dst = some d)
  (hs : Region.noSelect ops = true) (hf : Region.free md ops listed i = true) (hr : (Region.ready md ops listed).contains i = true) (hQ : ∀ c a w,Q (.panic c) (a.put (some d) v) w → Q (.panic c) a w)
  (hy : YieldsIf P ops S oi v a) (hS : S w) (h : wpAnyH P md ops Q S fuel (listed.setIfInBounds i true) (a.put (some d) v) w) : wpAnyH P md ops Q S (fuel + 1) listed a w :=
 wpAnyH_take hi hs hf hr (by rw [hd]; exact hQ) hy hS (by rw [hd]; exact h)
/-- An operation of a drawn region that its guard passes over is taken first. -/
theorem skip_one {P : Program} {ops : Array Oper} {Q : Exit → Act → World → Prop} {md : Region.Mode} {S : World → Prop} (i d : Nat) {oi : Oper} {fuel : Nat} {listed : Array Bool} {a : Act} {w : World} (hi : ops[i]? = some oi) (hd : oi.dst = some d)
  (hs : Region.noSelect ops = true) (hf : Region.free md ops listed i = true) (hr : (Region.ready md ops listed).contains i = true) (hQ : ∀ c a w,Q (.panic c) (a.put (some d) undef) w → Q (.panic c) a w)
  (hw : Region.wanted oi (yielded ops a.tmps) = false) (hS : S w) (h : wpAnyH P md ops Q S fuel (listed.setIfInBounds i true) (a.put (some d) undef) w) : wpAnyH P md ops Q S (fuel + 1) listed a w :=
 take_one i d hi hd hs hf hr hQ (Or.inr ⟨hw,rfl⟩) hS h
theorem pa {α : Type} (l : List α) (i : Nat) (v : α) : l.toArray.setIfInBounds i v = (l.set i v).toArray:=List.setIfInBounds_toArray _ _ _
theorem pb {α : Type} (x y : α) (l : List α) : (x :: l).set 0 y = y :: l:=List.set_cons_zero
theorem pc {α : Type} (x y : α) (l : List α) (i : Nat) : (x :: l).set (i + 1) y = x :: l.set i y:=List.set_cons_succ
theorem tk {P : Program} {ops : Array Oper} {Q : Exit → Act → World → Prop} {md : Region.Mode} {S : World → Prop} (i d : Nat) {oi : Oper} {fuel : Nat} {listed : Array Bool} {a : Act} {w : World} (hi : ops[i]? = some oi) (v : Value) (hS : S w)
  (hy : ∀ w,S w → (execOp a.eval oi).run P w = .ok (.value v) w) (h : wpAnyH P md ops Q S fuel (listed.setIfInBounds i true) (a.put (some d) v) w)
  (hd : oi.dst = some d:=by rfl) (hb : (Region.noSelect ops && (Region.free md ops listed i && (Region.ready md ops listed).contains i)) = true:=by kernel_rfl)
  (hQ : ∀ c a w,Q (.panic c) (a.put (some d) v) w → Q (.panic c) a w:=by exact fun _ _ _ h => h) (hw : Region.wanted oi (yielded ops a.tmps) = true:=by rfl) : wpAnyH P md ops Q S (fuel + 1) listed a w:=by
 simp only [Bool.and_eq_true] at hb
 exact take_one i d hi hd hb.1 hb.2.1 hb.2.2 hQ (Or.inl ⟨hw,hy⟩) hS h
theorem sk {P : Program} {ops : Array Oper} {Q : Exit → Act → World → Prop} {md : Region.Mode} {S : World → Prop} (i d : Nat) {oi : Oper} {fuel : Nat} {listed : Array Bool} {a : Act} {w : World} (hi : ops[i]? = some oi) (hS : S w) (hw : Region.wanted oi (yielded ops a.tmps) = false)
  (h : wpAnyH P md ops Q S fuel (listed.setIfInBounds i true) (a.put (some d) undef) w)
  (hd : oi.dst = some d:=by rfl) (hb : (Region.noSelect ops && (Region.free md ops listed i && (Region.ready md ops listed).contains i)) = true:=by kernel_rfl)
  (hQ : ∀ c a w,Q (.panic c) (a.put (some d) undef) w → Q (.panic c) a w:=by exact fun _ _ _ h => h) : wpAnyH P md ops Q S (fuel + 1) listed a w:=by
 simp only [Bool.and_eq_true] at hb
 exact skip_one i d hi hd hb.1 hb.2.1 hb.2.2 hQ hw hS h
end Go.Proofs.YtlmpfkbgknbcnaaGreat

set_option linter.unusedVariables false
namespace Go.Proofs.YtlmpfkbgknbcnaaGreat
open Go Go.RowKit
/-- The box of one rest. -/
structure One (s : Nat) (a b c : Int) (W : World) : Prop where
 a : W.cell? ⟨s,0,none⟩ = some (I a)
 b : W.cell? ⟨s,1,none⟩ = some (I b)
 c : W.cell? ⟨s,2,none⟩ = some (I c)
theorem One.later {s : Nat} {a b c : Int} {W W' : World} (h : One s a b c W) (hb : Below W.heap.size W W') (hs : s + 1 ≤ W.heap.size) : One s a b c W' :=
 ⟨(hb.cell (p:=⟨s,0,none⟩) (show s < _ by omega)).trans h.a,(hb.cell (p:=⟨s,1,none⟩) (show s < _ by omega)).trans h.b,(hb.cell (p:=⟨s,2,none⟩) (show s < _ by omega)).trans h.c⟩
theorem inB_iff (n g : Int) : inB n g = true ↔ 0 ≤ n ∧ n ≤ g:=by unfold inB; simp
end Go.Proofs.YtlmpfkbgknbcnaaGreat

set_option linter.unusedVariables false
namespace Go.Proofs.YtlmpfkbgknbcnaaGreat
open Go Go.RowKit Own Var Term
/-- A block of the call's own, its cells written out. -/
structure Blk (g : Nat) (vs : List Value) (W : World) : Prop where
 out : ∀ i v,vs[i]? = some v → W.cell? ⟨g,i,none⟩ = some v ∧ W.frozen? ⟨g,i,none⟩ = false
theorem Blk.at {g : Nat} {vs : List Value} {W : World} (h : Blk g vs W) (i : Nat) {v : Value} (e : vs[i]? = some v) : W.cell? ⟨g,i,none⟩ = some v:=(h.out i v e).1
theorem Blk.e2 {g : Nat} {W : World} {v0 v1 : Value} {r : List Value} (h : Blk g (v0 :: v1 :: r) W) : W.cell? ⟨g,0,none⟩ = some v0 ∧ W.cell? ⟨g,1,none⟩ = some v1:=⟨h.at 0 rfl,h.at 1 rfl⟩
theorem Blk.fz {g : Nat} {vs : List Value} {W : World} (h : Blk g vs W) (i : Nat) {v : Value} (e : vs[i]? = some v) : W.frozen? ⟨g,i,none⟩ = false:=(h.out i v e).2
theorem Blk.new (w : World) (cs : Array Value) (t : TypeId) : Blk w.heap.size cs.toList (w.alloc (.cells cs t)):=by
 constructor
 intro i v e
 refine ⟨?_,?_⟩
 ·rw [World.cell?_alloc_mark w cs t (0,0) i]
  simpa using e
 ·simp [go_sem]
theorem Blk.later {g : Nat} {vs : List Value} {W W' : World} (h : Blk g vs W) (hb : Below W.heap.size W W') (hg : g < W.heap.size) : Blk g vs W' :=
 ⟨fun i v e => ⟨(hb.cell (p:=⟨g,i,none⟩) hg).trans (h.out i v e).1,(hb.frozen (p:=⟨g,i,none⟩) hg).trans (h.out i v e).2⟩⟩
theorem Blk.drew {g : Nat} {vs : List Value} {W : World} (h : Blk g vs W) : Blk g vs W.drew:=⟨fun i v e => h.out i v e⟩
theorem Blk.alloc {g : Nat} {vs : List Value} {W : World} (h : Blk g vs W) (hg : g < W.heap.size) (o : Obj) : Blk g vs (W.alloc o):=h.later ((Below.refl _ _).alloc (Nat.le_refl _) o) hg
theorem Blk.set {g : Nat} {vs : List Value} {W : World} (h : Blk g vs W) (k : Nat) (u : Value) : Blk g (vs.set k u) (W.setCell ⟨g,k,none⟩ u):=by
 constructor
 intro i v e
 by_cases c : k = i
 ·subst c
  have hl : k < vs.length:=by
   have:=List.getElem?_eq_some_iff.1 e
   obtain ⟨q,_⟩:=this
   simpa using q
  rw [List.getElem?_set_self hl,Option.some.injEq] at e
  subst e
  have hq:=h.out k vs[k] (List.getElem?_eq_getElem hl)
  exact ⟨World.cell?_setCell_same' _ _ _ (by rw [hq.1]; rfl),by simpa using hq.2⟩
 ·rw [List.getElem?_set_ne c] at e
  have hq:=h.out i v e
  exact ⟨by rw [World.cell?_setCell_other _ _ _ _ (by simp)]; exact hq.1,by simpa using hq.2⟩
theorem Blk.far {g g' : Nat} {vs : List Value} {W : World} (h : Blk g vs W) (hn : g' ≠ g) (k : Nat) (u : Value) : Blk g vs (W.setCell ⟨g',k,none⟩ u) :=
 ⟨fun i v e => ⟨by rw [World.cell?_setCell_other _ _ _ _ (by simp)]; exact (h.out i v e).1,by simpa using (h.out i v e).2⟩⟩
set_option maxRecDepth 100000 in
set_option maxHeartbeats 1600000 in
theorem authOk_is (c t q : Int) (w : World) : Calls Tryz.prog 207 #[.agg #[I c,I t,I q]] w fun en w' => en = .returned (.bool (aOk c t q)) ∧ Below w.heap.size w w':=by
 obtain ⟨W1,hW1⟩ : ∃ W1,w.alloc (.cells #[I c,I t,I q] 78) = W1:=⟨_,rfl⟩
 have B0 : Below w.heap.size w W1:=by rw [← hW1]; exact (Below.refl _ _).alloc (Nat.le_refl _) _
 have T0 : Blk w.heap.size [I c,I t,I q] W1:=by rw [← hW1]; exact Blk.new _ _ _
 have Z0 : Hid (w.heap.size < W1.heap.size):=by show _ < _; rw [← hW1]; simp
 have d0:=T0.at 0 rfl
 have d1:=T0.at 1 rfl
 have d2:=T0.at 2 rfl
 go_enter Tryz.func207,Tryz.ntmps207
 go_wp2_with fail
 try rw [hW1]
 refine (prin_is c _).mono ?_
 clear hW1
 rintro e wx ⟨rfl,rfl⟩
 by_cases h0 : btw c 0 5 = true
 ·rw [h0]
  go_wp2_with fail
  refine (within_is t 100000 _).mono ?_
  rintro e wx ⟨rfl,rfl⟩
  rw [show inB t 100000 = btw t 0 100000 from rfl]
  by_cases h1 : btw t 0 100000 = true
  ·rw [h1]
   go_wp2_with fail
   refine (within_is q 1000000 _).mono ?_
   rintro e wx ⟨rfl,rfl⟩
   rw [show inB q 1000000 = btw q 0 1000000 from rfl]
   clear d0 d1 d2
   generalize hval : btw q 0 1000000 = bb
   go_wp2
   go_ret
   exact ⟨by unfold aOk; rw [h0,h1,hval]; rfl,B0⟩
  ·rw [Bool.not_eq_true] at h1
   rw [h1]
   clear d0 d1 d2
   go_wp2
   go_ret
   exact ⟨by unfold aOk; rw [h0,h1]; rfl,B0⟩
 ·rw [Bool.not_eq_true] at h0
  rw [h0]
  clear d0 d1 d2
  go_wp2
  go_ret
  exact ⟨by unfold aOk; rw [h0]; rfl,B0⟩
set_option maxRecDepth 100000 in
set_option maxHeartbeats 1600000 in
theorem spec_authOk (c t q : Int) (w : World) : Calls Tryz.prog 68 #[.agg #[I c,I t,I q]] w fun en w' => en = .returned (.bool (aOk c t q)) ∧ Below w.heap.size w w':=by
 obtain ⟨W1,hW1⟩ : ∃ W1,w.alloc (.cells #[I c,I t,I q] 78) = W1:=⟨_,rfl⟩
 have B0 : Below w.heap.size w W1:=by rw [← hW1]; exact (Below.refl _ _).alloc (Nat.le_refl _) _
 have T0 : Blk w.heap.size [I c,I t,I q] W1:=by rw [← hW1]; exact Blk.new _ _ _
 have Z0 : Hid (w.heap.size < W1.heap.size):=by show _ < _; rw [← hW1]; simp
 have d0:=T0.at 0 rfl
 have d1:=T0.at 1 rfl
 have d2:=T0.at 2 rfl
 go_enter Tryz.func68,Tryz.ntmps68
 go_wp2_with fail
 try rw [hW1]
 refine (spec_prin c _).mono ?_
 clear hW1
 rintro e wx ⟨rfl,rfl⟩
 by_cases h0 : btw c 0 5 = true
 ·rw [h0]
  go_wp2_with fail
  refine (in_is t 0 100000 _).mono ?_
  rintro e wx ⟨rfl,rfl⟩
  rw [show (decide (0 ≤ t) && decide (t ≤ 100000)) = btw t 0 100000 from rfl]
  by_cases h1 : btw t 0 100000 = true
  ·rw [h1]
   go_wp2_with fail
   refine (in_is q 0 1000000 _).mono ?_
   rintro e wx ⟨rfl,rfl⟩
   rw [show (decide (0 ≤ q) && decide (q ≤ 1000000)) = btw q 0 1000000 from rfl]
   clear d0 d1 d2
   generalize hval : btw q 0 1000000 = bb
   go_wp2
   go_ret
   exact ⟨by unfold aOk; rw [h0,h1,hval]; rfl,B0⟩
  ·rw [Bool.not_eq_true] at h1
   rw [h1]
   clear d0 d1 d2
   go_wp2
   go_ret
   exact ⟨by unfold aOk; rw [h0,h1]; rfl,B0⟩
 ·rw [Bool.not_eq_true] at h0
  rw [h0]
  clear d0 d1 d2
  go_wp2
  go_ret
  exact ⟨by unfold aOk; rw [h0]; rfl,B0⟩
end Go.Proofs.YtlmpfkbgknbcnaaGreat

set_option linter.unusedVariables false
namespace Go.Proofs.YtlmpfkbgknbcnaaGreat.Draw
open Go Go.RowKit
/-- The state of a cursor: how many bytes are taken, and the number that is mixed in. -/
structure St where
 i : Nat
 h : Int
/-- The cursor lies in block p and stands so. -/
structure CurAt (W : World) (p : Nat) (a : Option Addr) (len cap : Nat) (s : St) : Prop where
 b : W.cell? ⟨p,0,none⟩ = some (.slice a len cap)
 i : W.cell? ⟨p,1,none⟩ = some (I (s.i : Int))
 h : W.cell? ⟨p,2,none⟩ = some (I s.h)
 f : ∀ o,W.frozen? ⟨p,o,none⟩ = false
/-- The bytes of the code lie below block p. -/
def CodeAt (W : World) (p : Nat) (a : Option Addr) (len : Nat) (zs : List Int) : Prop :=
 len ≤ 1048576 ∧ ∀ j,j < len → (0 ≤ zs.getD j 0 ∧ zs.getD j 0 ≤ 255) ∧ ∃ b off,a = some ⟨b,off,none⟩ ∧ b < p ∧ W.cell? ⟨b,off + j,none⟩ = some (.int .u8 (zs.getD j 0))
theorem CodeAt.lt {W : World} {p : Nat} {a : Option Addr} {len : Nat} {zs : List Int} (h : CodeAt W p a len zs) {q : Nat} (hq : p ≤ q) : CodeAt W q a len zs:=by
 refine ⟨h.1,fun j hj => ?_⟩
 obtain ⟨h1,b,off,e,hp,hc⟩:=h.2 j hj
 exact ⟨h1,b,off,e,by omega,hc⟩
theorem CodeAt.below {W W' : World} {p : Nat} {a : Option Addr} {len : Nat} {zs : List Int} (h : CodeAt W p a len zs) (hb : Below p W W') : CodeAt W' p a len zs:=by
 refine ⟨h.1,fun j hj => ?_⟩
 obtain ⟨h1,b,off,e,hp,hc⟩:=h.2 j hj
 exact ⟨h1,b,off,e,hp,by rw [hb.cell (p:=⟨b,off + j,none⟩) hp]; exact hc⟩
theorem set_other (W : World) (p o o' : Nat) (v : Value) (h : o ≠ o') : (W.setCell ⟨p,o,none⟩ v).cell? ⟨p,o',none⟩ = W.cell? ⟨p,o',none⟩:=by
 apply World.cell?_setCell_other
 exact fun e => h (by injection e)
theorem set_same (W : World) (p o : Nat) (u v : Value) (h : W.cell? ⟨p,o,none⟩ = some u) : (W.setCell ⟨p,o,none⟩ v).cell? ⟨p,o,none⟩ = some v:=by
 apply World.cell?_setCell_same
 exact h
/-- w' is W but for what block p holds, and for new blocks. -/
def Only (p : Nat) (W w' : World) : Prop:=W.grownBy w' (some p)
theorem Only.refl (p : Nat) (W : World) : Only p W W:=World.grownBy.refl W _
theorem Only.trans {p : Nat} {a b c : World} (h : Only p a b) (k : Only p b c) : Only p a c :=
 ⟨k.os.trans h.os,k.tape.trans h.tape,k.output.trans h.output,Nat.le_trans h.size k.size,fun j hj hn => (k.block j (Nat.lt_of_lt_of_le hj h.size) hn).trans (h.block j hj hn)⟩
theorem Only.setCell {p : Nat} {a w : World} (h : Only p a w) (o : Nat) (v : Value) : Only p a (w.setCell ⟨p,o,none⟩ v) :=
 ⟨h.os,h.tape,h.output,by have:=h.size; simpa using this,fun j hj hn => (Below.heap_setCell w ⟨p,o,none⟩ v j (fun e => hn (by rw [e]))).trans (h.block j hj hn)⟩
theorem Only.drewN {p : Nat} {a w : World} (h : Only p a w) (n : Nat) : Only p a (w.drewN n):=⟨h.os,h.tape,h.output,h.size,h.block⟩
theorem Only.alloc {p : Nat} {a w : World} (h : Only p a w) (o : Obj) : Only p a (w.alloc o) :=
 ⟨h.os,h.tape,h.output,by have:=h.size; simp; omega,fun j hj hn => (Below.heap_alloc w o j (Nat.lt_of_lt_of_le hj h.size)).trans (h.block j hj hn)⟩
theorem Only.below {p B : Nat} {W w' : World} (h : Only p W w') (hB : B ≤ p) (hp : p < W.heap.size) : Below B W w' :=
 ⟨h.os,h.tape,h.output,h.size,fun j hj => h.block j (by omega) (by simp; omega)⟩
theorem Only.cell {p : Nat} {W w' : World} (h : Only p W w') {q : Addr} (hq : q.block < W.heap.size) (hn : q.block ≠ p) : w'.cell? q = W.cell? q :=
 World.cell?_of_block (h.block q.block hq (by simp; exact hn))
theorem Only.frozen {p : Nat} {W w' : World} (h : Only p W w') {q : Addr} (hq : q.block < W.heap.size) (hn : q.block ≠ p) : w'.frozen? q = W.frozen? q :=
 World.frozen?_of_block (h.block q.block hq (by simp; exact hn))
theorem CurAt.lt {W : World} {p : Nat} {a : Option Addr} {len cap : Nat} {s : St} (h : CurAt W p a len cap s) : p < W.heap.size:=World.block_lt_of_cell? W _ h.b
end Go.Proofs.YtlmpfkbgknbcnaaGreat.Draw

set_option linter.unusedVariables false
namespace Go.Proofs.YtlmpfkbgknbcnaaGreat.Draw
open Go Go.RowKit
/-- The cursor stands so, and its code can be read. -/
structure Dr (W : World) (p : Nat) (a : Option Addr) (len cap : Nat) (zs : List Int) (s : St) : Prop where
 cur : CurAt W p a len cap s
 code : CodeAt W p a len zs
 le : s.i ≤ len
theorem Dr.next {W w' : World} {p : Nat} {a : Option Addr} {len cap : Nat} {zs : List Int} {s s' : St} (h : Dr W p a len cap zs s) (c : CurAt w' p a len cap s') (b : Only p W w') (le : s'.i ≤ len) : Dr w' p a len cap zs s' :=
 ⟨c,h.code.below (b.below (Nat.le_refl _) h.cur.lt),le⟩
theorem Dr.alloc {W : World} {p : Nat} {a : Option Addr} {len cap : Nat} {zs : List Int} {s : St} (h : Dr W p a len cap zs s) (o : Obj) : Dr (W.alloc o) p a len cap zs s:=by
 have hl:=h.cur.lt
 have e : ∀ q : Addr,q.block < W.heap.size → (W.alloc o).cell? q = W.cell? q:=fun q hq => World.cell?_of_block (Below.heap_alloc W o q.block hq)
 have ef : ∀ q : Addr,q.block < W.heap.size → (W.alloc o).frozen? q = W.frozen? q:=fun q hq => World.frozen?_of_block (Below.heap_alloc W o q.block hq)
 exact ⟨⟨(e _ hl).trans h.cur.b,(e _ hl).trans h.cur.i,(e _ hl).trans h.cur.h,fun k => (ef _ hl).trans (h.cur.f k)⟩,h.code.below ((Below.refl p W).alloc (Nat.le_of_lt hl) o),h.le⟩
theorem Dr.drewN {W : World} {p : Nat} {a : Option Addr} {len cap : Nat} {zs : List Int} {s : St} (h : Dr W p a len cap zs s) (n : Nat) : Dr (W.drewN n) p a len cap zs s :=
 ⟨⟨h.cur.b,h.cur.i,h.cur.h,h.cur.f⟩,h.code,h.le⟩
end Go.Proofs.YtlmpfkbgknbcnaaGreat.Draw

set_option linter.unusedVariables false
namespace Go.Proofs.YtlmpfkbgknbcnaaGreat.Draw
open Go Go.RowKit
theorem Dr.grown {W w' : World} {p : Nat} {a : Option Addr} {len cap : Nat} {zs : List Int} {s : St} {row : Option Nat} (h : Dr W p a len cap zs s) (hg : W.grownBy w' row) (hr : ∀ k,row = some k → p < k) : Dr w' p a len cap zs s:=by
 have hl:=h.cur.lt
 have e : ∀ q : Addr,q.block = p → w'.cell? q = W.cell? q:=fun q hq => World.cell?_of_block (by rw [hq]; exact hg.block p hl (fun e => by have:=hr p e.symm; omega))
 have ef : ∀ q : Addr,q.block = p → w'.frozen? q = W.frozen? q:=fun q hq => World.frozen?_of_block (by rw [hq]; exact hg.block p hl (fun e => by have:=hr p e.symm; omega))
 refine ⟨⟨(e _ rfl).trans h.cur.b,(e _ rfl).trans h.cur.i,(e _ rfl).trans h.cur.h,fun k => (ef _ rfl).trans (h.cur.f k)⟩,h.code.below ⟨hg.os,hg.tape,hg.output,hg.size,fun j hj => hg.block j (by omega) (fun e => by have:=hr j e.symm; omega)⟩,h.le⟩
theorem Dr.under {W w' : World} {p : Nat} {a : Option Addr} {len cap : Nat} {zs : List Int} {s : St} (h : Dr W p a len cap zs s) (hb : Below W.heap.size W w') : Dr w' p a len cap zs s :=
 h.grown (row:=none) ⟨hb.os,hb.tape,hb.output,hb.size,fun j hj _ => hb.block j hj⟩ (fun _ h => by cases h)
theorem Only.under {p : Nat} {W w' : World} (hb : Below W.heap.size W w') : Only p W w':=⟨hb.os,hb.tape,hb.output,hb.size,fun j hj _ => hb.block j hj⟩
/-- The cursor stands somewhere, its code can be read, and nothing else was written into since W. -/
def Cu (p : Nat) (a : Option Addr) (len cap : Nat) (zs : List Int) (W w : World) : Prop:=(∃ s,Dr w p a len cap zs s) ∧ Only p W w
theorem Cu.start {p : Nat} {a : Option Addr} {len cap : Nat} {zs : List Int} {w : World} {s : St} (h : Dr w p a len cap zs s) : Cu p a len cap zs w w:=⟨⟨s,h⟩,Only.refl _ _⟩
theorem Cu.lt {p : Nat} {a : Option Addr} {len cap : Nat} {zs : List Int} {W w : World} (h : Cu p a len cap zs W w) : p < w.heap.size:=by obtain ⟨⟨s,h⟩,_⟩:=h; exact h.cur.lt
theorem Cu.next {p : Nat} {a : Option Addr} {len cap : Nat} {zs : List Int} {W w w' : World} (h : Cu p a len cap zs W w) (k : Cu p a len cap zs w w') : Cu p a len cap zs W w':=⟨k.1,h.2.trans k.2⟩
theorem Cu.under {p : Nat} {a : Option Addr} {len cap : Nat} {zs : List Int} {W w w' : World} (h : Cu p a len cap zs W w) (hb : Below w.heap.size w w') : Cu p a len cap zs W w':=by
 obtain ⟨⟨s,h⟩,o⟩:=h
 exact ⟨⟨s,h.under hb⟩,o.trans (Only.under hb)⟩
theorem Cu.alloc {p : Nat} {a : Option Addr} {len cap : Nat} {zs : List Int} {W w : World} (h : Cu p a len cap zs W w) (o : Obj) : Cu p a len cap zs W (w.alloc o):=by
 obtain ⟨⟨s,h⟩,k⟩:=h
 exact ⟨⟨s,h.alloc o⟩,k.alloc o⟩
theorem Cu.drew {p : Nat} {a : Option Addr} {len cap : Nat} {zs : List Int} {W w : World} (h : Cu p a len cap zs W w) : Cu p a len cap zs W w.drew:=by
 obtain ⟨⟨s,h⟩,k⟩:=h
 exact ⟨⟨s,h.drewN 1⟩,k.drewN 1⟩
theorem Cu.setCell {p : Nat} {a : Option Addr} {len cap : Nat} {zs : List Int} {W w : World} (h : Cu p a len cap zs W w) (hp : p < W.heap.size) {g : Nat} (hg : W.heap.size ≤ g) (o : Nat) (v : Value) : Cu p a len cap zs W (w.setCell ⟨g,o,none⟩ v):=by
 obtain ⟨⟨s,h⟩,k⟩:=h
 refine ⟨⟨s,h.grown (row:=some g) ⟨rfl,rfl,rfl,by simp,fun j hj hn => Below.heap_setCell w ⟨g,o,none⟩ v j (fun e => hn (by rw [e]))⟩ (fun k hk => by cases hk; omega)⟩,⟨k.os,k.tape,k.output,by have:=k.size; simpa using this,fun j hj hn => (Below.heap_setCell w ⟨g,o,none⟩ v j (fun e => by have : j = g:=e; omega)).trans (k.block j hj hn)⟩⟩
theorem Cu.cell {p : Nat} {a : Option Addr} {len cap : Nat} {zs : List Int} {W w : World} (h : Cu p a len cap zs W w) {g : Nat} (hg : g < W.heap.size) (hn : p < g) (o : Nat) : w.cell? ⟨g,o,none⟩ = W.cell? ⟨g,o,none⟩:=h.2.cell (q:=⟨g,o,none⟩) hg (by show g ≠ p; omega)
theorem Cu.frozen {p : Nat} {a : Option Addr} {len cap : Nat} {zs : List Int} {W w : World} (h : Cu p a len cap zs W w) {g : Nat} (hg : g < W.heap.size) (hn : p < g) (o : Nat) : w.frozen? ⟨g,o,none⟩ = W.frozen? ⟨g,o,none⟩:=h.2.frozen (q:=⟨g,o,none⟩) hg (by show g ≠ p; omega)
theorem Cu.size {p : Nat} {a : Option Addr} {len cap : Nat} {zs : List Int} {W w : World} (h : Cu p a len cap zs W w) : W.heap.size ≤ w.heap.size:=h.2.size
end Go.Proofs.YtlmpfkbgknbcnaaGreat.Draw

set_option linter.unusedVariables false
namespace Go.Proofs.YtlmpfkbgknbcnaaGreat
open Go Go.RowKit Go.Joins Own Var Term Draw
def intV (zs : List Int) : List Value:=zs.map (Value.int .i64)
theorem Blk.only {g p : Nat} {vs : List Value} {w w' : World} (h : Blk g vs w) (ho : Only p w w') (hg : g < w.heap.size) (hp : g ≠ p) : Blk g vs w' :=
 ⟨fun i v e => ⟨(ho.cell (q:=⟨g,i,none⟩) hg hp).trans (h.out i v e).1,(ho.frozen (q:=⟨g,i,none⟩) hg hp).trans (h.out i v e).2⟩⟩
theorem Blk.lt {g : Nat} {v : Value} {vs : List Value} {w : World} (h : Blk g (v :: vs) w) : g < w.heap.size:=World.block_lt_of_cell? w _ (h.at 0 rfl)
theorem Draw.Cu.set {p q : Nat} {a : Option Addr} {len cap : Nat} {zs : List Int} {W w : World} (h : Cu p a len cap zs W w) (hq : W.heap.size ≤ q) (hp : p < q) (o : Nat) (v : Value) : Cu p a len cap zs W (w.setCell ⟨q,o,none⟩ v):=by
 obtain ⟨⟨s,h⟩,k⟩:=h
 have hg : w.grownBy (w.setCell ⟨q,o,none⟩ v) (some q):=⟨rfl,rfl,rfl,by simp,fun j _ hn => Below.heap_setCell w ⟨q,o,none⟩ v j (fun e => hn (by rw [e]))⟩
 refine ⟨⟨s,h.grown hg (fun j hj => by simp at hj; omega)⟩,k.os,k.tape,k.output,by have:=k.size; simpa using this,fun j hj hn => (Below.heap_setCell w ⟨q,o,none⟩ v j (fun e => ?_)).trans (k.block j hj hn)⟩
 have e2 : j = q:=e
 omega
theorem take_any {P : Program} {ops : Array Oper} {Q : Exit → Act → World → Prop} {md : Region.Mode} (i d : Nat) {oi : Oper} {v : Value} {fuel : Nat} {listed : Array Bool} {a : Act} {w : World} (hi : ops[i]? = some oi) (hd : oi.dst = some d)
  (hs : Region.noSelect ops = true) (hf : Region.free md ops listed i = true) (hr : (Region.ready md ops listed).contains i = true) (hQ : ∀ c a w,Q (.panic c) (a.put (some d) v) w → Q (.panic c) a w)
  (hy : Yields P ops oi v a) (h : wpAny P md ops Q fuel (listed.setIfInBounds i true) (a.put (some d) v) w) : wpAny P md ops Q (fuel + 1) listed a w :=
 wpAny_take hi hs hf hr (by rw [hd]; exact hQ) hy (by rw [hd]; exact h)
end Go.Proofs.YtlmpfkbgknbcnaaGreat
