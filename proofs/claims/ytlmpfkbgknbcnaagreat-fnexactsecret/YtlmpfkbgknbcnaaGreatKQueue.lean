/- A row of texts that is taken from at its head and appended to at its end. -/
import Derived.Test.YtlmpfkbgknbcnaaGreatKClone
import Derived.Test.YtlmpfkbgknbcnaaGreatKnow3
import Derived.Deep.AppendSrc
import Derived.Deep.Upon
import Derived.Maps.OwnSet
import Derived.Maps.Views
import Derived.StringKeys
set_option linter.unusedVariables false
namespace Go.Proofs.YtlmpfkbgknbcnaaGreat.Kn
open Go.RowKit _root_.Go.Proofs.YtlmpfkbgknbcnaaGreat.Own Var Term
/-- The texts lie in a block from B on, with room behind them that may be written. -/
def QRow (B : Nat) (w : World) (v : Value) (xs : List ByteArray) : Prop :=
 ∃ cap,xs.length ≤ cap ∧ cap ≤ maxLen ∧ ((v = .slice none 0 0 ∧ xs = [] ∧ cap = 0) ∨ ∃ b off,v = .slice (some ⟨b,off,none⟩) xs.length cap ∧ B ≤ b ∧ b < w.heap.size ∧
  (∀ j (h : j < xs.length),w.cell? ⟨b,off + j,none⟩ = some (.string xs[j])) ∧ ∀ j,j < cap → (w.cell? ⟨b,off + j,none⟩).isSome = true ∧ w.frozen? ⟨b,off + j,none⟩ = false)
theorem QRow.nil (B : Nat) (w : World) : QRow B w (.slice none 0 0) []:=⟨0,Nat.le_refl _,Nat.zero_le _,.inl ⟨rfl,rfl,rfl⟩⟩
theorem QRow.shape {B : Nat} {w : World} {v : Value} {xs : List ByteArray} (h : QRow B w v xs) : ∃ a cap,v = .slice a xs.length cap ∧ xs.length ≤ cap:=by
 obtain ⟨cap,h1,h2,h | ⟨b,off,h,_⟩⟩:=h
 ·obtain ⟨rfl,rfl,rfl⟩:=h; exact ⟨none,0,rfl,Nat.le_refl _⟩
 ·exact ⟨_,cap,h,h1⟩
theorem QRow.lt {B : Nat} {w : World} {v : Value} {xs : List ByteArray} (h : QRow B w v xs) {k : Nat} (hk : v.ownBlock = some k) : B ≤ k ∧ k < w.heap.size:=by
 obtain ⟨cap,h1,h2,h | ⟨b,off,h,hb,hl,_⟩⟩:=h
 ·obtain ⟨rfl,rfl,rfl⟩:=h; cases hk
 ·subst h; cases hk; exact ⟨hb,hl⟩
/-- It stays what it is while its own block does. -/
theorem QRow.kept {B : Nat} {w w' : World} {v : Value} {xs : List ByteArray} (h : QRow B w v xs) (hs : w.heap.size ≤ w'.heap.size) (hg : ∀ k,v.ownBlock = some k → w'.heap[k]? = w.heap[k]?) : QRow B w' v xs:=by
 obtain ⟨cap,h1,h2,h | ⟨b,off,h,hb,hl,hc,hf⟩⟩:=h
 ·exact ⟨cap,h1,h2,.inl h⟩
 ·have e : w'.heap[b]? = w.heap[b]?:=hg b (by rw [h]; rfl)
  refine ⟨cap,h1,h2,.inr ⟨b,off,h,hb,Nat.lt_of_lt_of_le hl hs,fun j hj => ?_,fun j hj => ?_⟩⟩
  ·rw [World.cell?_of_block (a:=⟨b,off + j,none⟩) e]; exact hc j hj
  ·rw [World.cell?_of_block (a:=⟨b,off + j,none⟩) e,World.frozen?_of_block (a:=⟨b,off + j,none⟩) e]; exact hf j hj
theorem QRow.grown {B : Nat} {w w' : World} {v : Value} {xs : List ByteArray} {row : Option Nat} (h : QRow B w v xs) (hg : w.grownBy w' row) (hn : ∀ k,row = some k → v.ownBlock ≠ some k) : QRow B w' v xs :=
 h.kept hg.size fun k hk => hg.block k (h.lt hk).2 fun e => hn k e.symm hk
theorem QRow.row {B : Nat} {w : World} {v : Value} {xs : List ByteArray} (h : QRow B w v xs) : ∃ a cap,v = .slice a xs.length cap ∧ xs.length ≤ cap ∧ RowAt Value.string w a xs:=by
 obtain ⟨cap,h1,h2,h | ⟨b,off,h,hb,hl,hc,hf⟩⟩:=h
 ·obtain ⟨rfl,rfl,rfl⟩:=h; exact ⟨none,0,rfl,Nat.le_refl _,RowAt.nil _ _⟩
 ·exact ⟨_,cap,h,h1,fun j hj => ⟨b,off,rfl,hl,hc j hj⟩⟩
theorem QRow.own {B n : Nat} {w : World} {v : Value} {xs : List ByteArray} (h : w.ownsRow B 9 1 v n (strV xs)) : QRow B w v xs:=by
 have hl : xs.length = n:=by have:=h.1; simpa [strV] using this
 subst hl
 rcases h.2 with ⟨rfl,h0⟩ | ⟨g,cap,cur,rfl,e2,e3,e4,e5,e6,e7⟩
 ·have : xs = []:=List.length_eq_zero_iff.1 h0
  subst this
  exact QRow.nil _ _
 ·refine ⟨cap,e4,e5,.inr ⟨g,0,rfl,e2,(h.lt g rfl).2,fun j hj => ?_,fun j hj => ?_⟩⟩
  ·obtain ⟨b,off,e,_,hc⟩:=RowAt.own (f:=Value.string) h j hj
   simp only [Option.some.injEq,Addr.mk.injEq] at e
   obtain ⟨rfl,rfl,_⟩:=e
   exact hc
  ·have hc : w.cell? ⟨g,0 + j,none⟩ = cur[j]?:=by simp [World.cell?,e3]
   refine ⟨by rw [hc]; simp; omega,by simp [World.frozen?,e3]⟩
theorem tape_setCells (b : Nat) : ∀ (vs : List Value) (o : Nat) (w : World),(w.setCells b o vs).tape = w.tape
 | [],_,_ => rfl
 | v :: r,o,w => by show ((w.setCell ⟨b,o,none⟩ v).setCells b (o + 1) r).tape = _; rw [tape_setCells b r]; simp
theorem size_setCells (b : Nat) : ∀ (vs : List Value) (o : Nat) (w : World),(w.setCells b o vs).heap.size = w.heap.size
 | [],_,_ => rfl
 | v :: r,o,w => by show ((w.setCell ⟨b,o,none⟩ v).setCells b (o + 1) r).heap.size = _; rw [size_setCells b r]; simp
theorem grown_setCells (b : Nat) (vs : List Value) (o : Nat) (w : World) : w.grownBy (w.setCells b o vs) (some b) :=
 ⟨World.os_setCells _ _ _ _,tape_setCells _ _ _ _,World.output_setCells _ _ _ _,Nat.le_of_eq (size_setCells _ _ _ _).symm,fun k hk hn => World.heap_setCells_other w b o vs hk (fun e => hn (by rw [e]))⟩
/-- The first one is taken away. -/
theorem QRow.tail {B : Nat} {w : World} {x : ByteArray} {xs : List ByteArray} {b off cap : Nat} (h : QRow B w (.slice (some ⟨b,off,none⟩) (x :: xs).length cap) (x :: xs)) :
  QRow B w (.slice (if cap = 1 then some ⟨b,off,none⟩ else some ⟨b,off + 1,none⟩) xs.length (cap - 1)) xs:=by
 obtain ⟨cap',h1,h2,h | ⟨b',off',hv,hb,hlt,hc,hf⟩⟩:=h
 ·obtain ⟨h,_⟩:=h; cases h
 ·simp only [Value.slice.injEq,Option.some.injEq,Addr.mk.injEq] at hv
  obtain ⟨⟨rfl,rfl,_⟩,_,rfl⟩:=hv
  simp only [List.length_cons] at h1
  refine ⟨cap - 1,by omega,Nat.le_trans (Nat.sub_le _ _) h2,.inr ?_⟩
  by_cases h0 : cap = 1
  ·rw [if_pos h0]
   have : xs = []:=List.length_eq_zero_iff.1 (by omega)
   subst this
   exact ⟨b,off,rfl,hb,hlt,fun j hj => by simp at hj,fun j hj => by omega⟩
  ·rw [if_neg h0]
   refine ⟨b,off + 1,rfl,hb,hlt,fun j hj => ?_,fun j hj => ?_⟩
   ·have:=hc (j + 1) (by simp; omega)
    rw [show off + (j + 1) = off + 1 + j by omega] at this
    simpa using this
   ·have:=hf (j + 1) (by omega)
    rwa [show off + (j + 1) = off + 1 + j by omega] at this
/-- The texts that a call appends. -/
theorem src_row (w : World) (a : Option Addr) (cap : Nat) (ys : List ByteArray) (h : RowAt Value.string w a ys) : Src Tryz.prog 1 26 (.slice a ys.length cap) ys.length (strV ys) w:=by
 by_cases h0 : ys = []
 ·subst h0
  cases a with
  | none => exact Src.ofNil w Tryz.underlying26 cap
  | some a => exact Src.ofSlice w Tryz.underlying26 a 0 cap [] rfl (fun j u hj => by simp at hj) (fun u hu => by cases hu)
 ·obtain ⟨b,off,rfl,_,_⟩:=h 0 (List.length_pos_iff.2 h0)
  refine Src.ofSlice w Tryz.underlying26 ⟨b,off,none⟩ ys.length cap (strV ys) (by simp [strV]) (fun j u hj => ?_) (fun u hu => ?_)
  ·unfold strV at hj
   rw [List.getElem?_map] at hj
   obtain ⟨y,hy,rfl⟩:=Option.map_eq_some_iff.1 hj
   obtain ⟨hj',rfl⟩:=List.getElem?_eq_some_iff.1 hy
   obtain ⟨b',off',e,_,hc⟩:=h j hj'
   simp only [Option.some.injEq,Addr.mk.injEq] at e
   obtain ⟨rfl,rfl,_⟩:=e
   rw [Addr.add_lit]
   exact hc
  ·unfold strV at hu
   obtain ⟨y,_,rfl⟩:=List.mem_map.1 hu
   rfl
theorem new_cells (w : World) (L : List Value) (M : Array Value) (e : TypeId) (j : Nat) : (w.drew.alloc (.cells (L.toArray ++ M) e)).cell? ⟨w.heap.size,j,none⟩ = (L.toArray ++ M)[j]? ∧ (w.drew.alloc (.cells (L.toArray ++ M) e)).frozen? ⟨w.heap.size,j,none⟩ = false:=by
 have h : (w.drew.alloc (.cells (L.toArray ++ M) e)).heap[w.heap.size]? = some (.cells (L.toArray ++ M) e):=heap_alloc_new w.drew _
 constructor
 ·simp only [World.cell?,h]; rfl
 ·simp only [World.frozen?,h]; simp
/-- Texts are appended: behind it they lie in the same block, or in a new one. -/
theorem QRow.append {B : Nat} {w : World} {v : Value} {xs : List ByteArray} (h : QRow B w v xs) (hB : B ≤ w.heap.size) (ty : TypeId) {x : Value} {ys : List ByteArray} (hs : Src Tryz.prog 1 26 x ys.length (strV ys) w) (hl : xs.length + ys.length ≤ 8589934592) :
  ∃ v' w',(Builtin.append_ #[26,26] ty #[v,x]).run Tryz.prog w = .ok v' w' ∧ QRow B w' v' (xs ++ ys) ∧ w.grownBy w' v.ownBlock ∧ (v'.ownBlock = v.ownBlock ∨ v'.ownBlock = some w.heap.size) ∧ QRow B w' v xs:=by
 obtain ⟨i0,hi,hz0,hz1,hz2⟩:=info_parts infoStr
 have hq0:=h
 have h63 : xs.length + ys.length ≤ maxLen:=by unfold maxLen; omega
 have hsI : Src Tryz.prog i0.size 26 x ys.length (strV ys) w:=by rw [hz1]; exact hs
 have grow : ∀ (base : Option Addr) (cap : Nat),v = .slice base xs.length cap → cap < xs.length + ys.length → (Builtin.firstCells i0.size xs.length (.slice base xs.length cap)).run Tryz.prog w.drew = .ok (strV xs).toArray w.drew →
   ∃ v' w',(Builtin.append_ #[26,26] ty #[v,x]).run Tryz.prog w = .ok v' w' ∧ QRow B w' v' (xs ++ ys) ∧ w.grownBy w' v.ownBlock ∧ (v'.ownBlock = v.ownBlock ∨ v'.ownBlock = some w.heap.size) ∧ QRow B w' v xs:=by
  intro base cap hv hg hold
  have hrun:=run_append_grow_src (P:=Tryz.prog) w 26 26 ty 9 i0 (.string ⟨#[]⟩) Tryz.underlying26 hi hz0 base xs.length cap (strV xs) hold x ys.length (strV ys) hsI hg (by omega) (growslice_fits hg (by rw [hz2]; omega))
  have hge:=grownCap_ge w (xs.length + ys.length) cap 9
  have hcm : grownCap w (xs.length + ys.length) cap 9 ≤ maxLen:=grownCap_le_maxLen w _ _ _ h63
  subst hv
  refine ⟨_,_,hrun,?_,⟨rfl,rfl,rfl,by simp,fun k hk _ => Below.heap_alloc w.drew _ k hk⟩,Or.inr rfl,hq0.kept (by simp) fun k hk => Below.heap_alloc w.drew _ k (hq0.lt hk).2⟩
  generalize grownCap w (xs.length + ys.length) cap 9 = c' at hge hcm ⊢
  have e1 : strV xs ++ strV ys = strV (xs ++ ys):=by simp [strV]
  rw [e1]
  refine ⟨c',by simpa using hge,hcm,.inr ⟨w.heap.size,0,by simp,hB,by simp,fun j hj => ?_,fun j hj => ?_⟩⟩
  ·rw [Nat.zero_add,(new_cells w _ _ 9 j).1,Array.getElem?_append_left (by simpa [strV] using hj)]
   simp only [List.getElem?_toArray,strV,List.getElem?_map,List.getElem?_eq_getElem hj,Option.map_some]
  ·rw [Nat.zero_add,(new_cells w _ _ 9 j).1,(new_cells w _ _ 9 j).2]
   refine ⟨?_,rfl⟩
   have : j < ((strV (xs ++ ys)).toArray ++ Builtin.zeroCells (Value.string ⟨#[]⟩).cells (c' - (xs.length + ys.length))).size:=by
    rw [Array.size_append,size_zeroCells]
    simp only [List.size_toArray,strV,List.length_map,List.length_append]
    show j < xs.length + ys.length + (c' - (xs.length + ys.length)) * 1
    omega
   rw [Array.getElem?_eq_getElem this]; rfl
 obtain ⟨cap,h1,h2,h | ⟨b,off,hv,hb,hlt,hc,hf⟩⟩:=h
 ·obtain ⟨rfl,rfl,rfl⟩:=h
  by_cases h0 : ys = []
  ·subst h0
   exact ⟨_,w,run_append_nothing w 26 26 ty 9 i0 Tryz.underlying26 hi none 0 0 (Nat.le_refl _) x hsI,QRow.nil _ _,⟨rfl,rfl,rfl,Nat.le_refl _,fun _ _ _ => rfl⟩,Or.inl rfl,QRow.nil _ _⟩
  ·exact grow none 0 rfl (by have:=List.length_pos_iff.2 h0; simpa using this) (run_firstCells_none w.drew _ _ _ _)
 ·subst hv
  by_cases hroom : xs.length + ys.length ≤ cap
  ·have hrun:=run_append_room_src (P:=Tryz.prog) w 26 26 ty 9 i0 Tryz.underlying26 hi b off xs.length cap x ys.length (strV ys) hsI hroom
    (fun j hj => by rw [hz1,Nat.mul_one,Nat.add_assoc]; exact (hf _ (by simp [strV] at hj; omega)).1) (fun j hj => by rw [hz1,Nat.mul_one,Nat.add_assoc]; exact (hf _ (by simp [strV] at hj; omega)).2)
   rw [hz1,Nat.mul_one] at hrun
   have hgr:=grown_setCells b (strV ys) (off + xs.length) w
   have hin : ∀ j,xs.length ≤ j → j < xs.length + ys.length → (w.setCells b (off + xs.length) (strV ys)).cell? ⟨b,off + j,none⟩ = (strV ys)[j - xs.length]?:=by
    intro j h3 h4
    have hjy : j - xs.length < (strV ys).length:=by simp [strV]; omega
    have:=World.cell?_setCells_in b (strV ys) (off + xs.length) w (fun i hi => by rw [Nat.add_assoc]; exact (hf _ (by simp [strV] at hi; omega)).1) (j - xs.length) hjy
    rw [show off + xs.length + (j - xs.length) = off + j by omega] at this
    rw [this,List.getElem?_eq_getElem hjy]
   have hout : ∀ j,(j < xs.length ∨ xs.length + ys.length ≤ j) → (w.setCells b (off + xs.length) (strV ys)).cell? ⟨b,off + j,none⟩ = w.cell? ⟨b,off + j,none⟩:=by
    intro j h3
    exact World.cell?_setCells_out b (strV ys) _ w ⟨b,off + j,none⟩ (fun _ _ => by show off + j < off + xs.length ∨ off + xs.length + (strV ys).length ≤ off + j; simp [strV]; omega)
   have hall : ∀ j,j < cap → ((w.setCells b (off + xs.length) (strV ys)).cell? ⟨b,off + j,none⟩).isSome = true ∧ (w.setCells b (off + xs.length) (strV ys)).frozen? ⟨b,off + j,none⟩ = false:=by
    intro j hj
    rw [World.frozen?_setCells]
    refine ⟨?_,(hf j hj).2⟩
    by_cases h3 : xs.length ≤ j ∧ j < xs.length + ys.length
    ·rw [hin j h3.1 h3.2,List.getElem?_eq_getElem (by simp [strV]; omega)]; rfl
    ·rw [hout j (by omega)]; exact (hf j hj).1
   refine ⟨_,_,hrun,⟨cap,by simpa using hroom,h2,.inr ⟨b,off,by simp,hb,by rw [size_setCells]; exact hlt,fun j hj => ?_,hall⟩⟩,hgr,Or.inl rfl,⟨cap,h1,h2,.inr ⟨b,off,rfl,hb,by rw [size_setCells]; exact hlt,fun j hj => ?_,hall⟩⟩⟩
   ·by_cases hjx : j < xs.length
    ·rw [hout j (Or.inl hjx),List.getElem_append_left hjx]
     exact hc j hjx
    ·simp only [List.length_append] at hj
     rw [hin j (by omega) hj,List.getElem_append_right (by omega)]
     simp [strV]
   ·rw [hout j (Or.inl hj)]; exact hc j hj
  ·refine grow _ cap rfl (by omega) ?_
   refine run_firstCells_some w.drew _ _ ⟨b,off,none⟩ _ _ (strV xs) (by rw [hz1]; simp [strV]) (fun j u hj => ?_)
   unfold strV at hj
   rw [List.getElem?_map] at hj
   obtain ⟨y,hy,rfl⟩:=Option.map_eq_some_iff.1 hj
   obtain ⟨hj',rfl⟩:=List.getElem?_eq_some_iff.1 hy
   rw [Addr.add_lit]
   exact hc j hj'
set_option linter.unusedVariables false
end Go.Proofs.YtlmpfkbgknbcnaaGreat.Kn
namespace Go.Proofs.YtlmpfkbgknbcnaaGreat.Kn
open Go.RowKit _root_.Go.Proofs.YtlmpfkbgknbcnaaGreat.Own Var Term
/-- A lock's value is kept as it is. -/
def heldR : Value → Option (DataW Value × List MemPlace):=fun v => some (.held v,[])
def lock0 : Value:=.agg #[.bool false,.slice none 0 0]
/-- How far one has come: what lies ahead, what is there, what is said of each key. -/
structure VS where
 A : List ByteArray
 T : List ByteArray
 F : Int → Bool × List ByteArray
def VS.row (s : VS) : Option Int → List ByteArray
 | none => s.A
 | some k => (s.F k).2
def VS.reach (s : VS) (k : Int) : VS:=⟨s.A ++ (s.F k).2,s.T,fun j => if j = k then (true,[]) else s.F j⟩
/-- The view lies in block p and says s; none of its blocks is one of X. -/
structure ViewM (X : Nat → Prop) (p N mT mL : Nat) (DT DL : DataW Value) (rv : Option Int → Value) (s : VS) (w : World) : Prop where
 xp : ¬ X p
 xT : ¬ X mT
 xL : ¬ X mL
 pT : p ≠ mT
 pL : p ≠ mL
 tL : mT ≠ mL
 pm : mT + 2 = p
 xlt : ∀ k,X k → k < w.heap.size
 c0 : w.cell? ⟨p,0,none⟩ = some (rv none)
 c1 : w.cell? ⟨p,1,none⟩ = some (.map (some mT))
 c2 : w.cell? ⟨p,2,none⟩ = some (.map (some mL))
 f0 : w.frozen? ⟨p,0,none⟩ = false
 mt : w.ownsMap Tryz.prog 9 unitElem mT N DT
 ht : ∀ t : ByteArray,t.size ≤ 1048576 → (Maps.has DT (.string t.data.toList) = true ↔ t ∈ s.T)
 ml : w.ownsMap Tryz.prog 3 heldR mL N DL
 hl : ∀ k,(Lit.int .i64 k).wf = true → DL.atKey (.int .i64 k) (.held lock0) = .held (.agg #[.bool (s.F k).1,rv (some k)])
 q : ∀ i,QRow 0 w (rv i) (s.row i)
 ne : ∀ i j b,(rv i).ownBlock = some b → (rv j).ownBlock = some b → i = j
 far : ∀ i b,(rv i).ownBlock = some b → b ≠ p ∧ b ≠ mT ∧ b ≠ mL ∧ ¬ X b
def ViewAt (X : Nat → Prop) (p N : Nat) (s : VS) (w : World) : Prop:=∃ mT mL DT DL rv,ViewM X p N mT mL DT DL rv s w
/-- Nothing that is in X has changed. -/
structure Keep (X : Nat → Prop) (w w' : World) : Prop where
 os : w'.os = w.os
 tape : w'.tape = w.tape
 output : w'.output = w.output
 size : w.heap.size ≤ w'.heap.size
 block : ∀ k,X k → w'.heap[k]? = w.heap[k]?
theorem Keep.refl (X : Nat → Prop) (w : World) : Keep X w w:=⟨rfl,rfl,rfl,Nat.le_refl _,fun _ _ => rfl⟩
theorem Keep.trans {X : Nat → Prop} {a b c : World} (h : Keep X a b) (k : Keep X b c) : Keep X a c :=
 ⟨k.os.trans h.os,k.tape.trans h.tape,k.output.trans h.output,Nat.le_trans h.size k.size,fun i hi => (k.block i hi).trans (h.block i hi)⟩
theorem Keep.mono {X Y : Nat → Prop} {a b : World} (h : Keep X a b) (hy : ∀ k,Y k → X k) : Keep Y a b:=⟨h.os,h.tape,h.output,h.size,fun i hi => h.block i (hy i hi)⟩
theorem Keep.below {B : Nat} {a b : World} (h : Keep (fun k => k < B) a b) : Below B a b:=⟨h.os,h.tape,h.output,h.size,h.block⟩
theorem Keep.ofBelow {X : Nat → Prop} {a b : World} {B : Nat} (h : Below B a b) (hX : ∀ k,X k → k < B) : Keep X a b:=⟨h.os,h.tape,h.output,h.size,fun k hk => h.block k (hX k hk)⟩
theorem Keep.grown {X : Nat → Prop} {a b : World} {row : Option Nat} (h : a.grownBy b row) (hX : ∀ k,X k → k < a.heap.size) (hr : ∀ k,row = some k → ¬ X k) : Keep X a b :=
 ⟨h.os,h.tape,h.output,h.size,fun k hk => h.block k (hX k hk) (fun e => hr k e.symm hk)⟩
theorem Keep.cell {X : Nat → Prop} {a b : World} (h : Keep X a b) {g : Nat} (hg : X g) (o : Nat) : b.cell? ⟨g,o,none⟩ = a.cell? ⟨g,o,none⟩:=World.cell?_of_block (a:=⟨g,o,none⟩) (h.block g hg)
theorem Keep.frozen {X : Nat → Prop} {a b : World} (h : Keep X a b) {g : Nat} (hg : X g) (o : Nat) : b.frozen? ⟨g,o,none⟩ = a.frozen? ⟨g,o,none⟩:=World.frozen?_of_block (a:=⟨g,o,none⟩) (h.block g hg)
theorem ViewM.lt {X : Nat → Prop} {p N mT mL : Nat} {DT DL : DataW Value} {rv : Option Int → Value} {s : VS} {w : World} (h : ViewM X p N mT mL DT DL rv s w) : p < w.heap.size ∧ mT < w.heap.size ∧ mL < w.heap.size :=
 ⟨World.block_lt_of_cell? w _ h.c0,h.mt.lt,h.ml.lt⟩
/-- The view stays what it is while its blocks do; what is held apart may be held apart anew. -/
theorem ViewM.kept {X Y : Nat → Prop} {p N mT mL : Nat} {DT DL : DataW Value} {rv : Option Int → Value} {s : VS} {w w' : World} (h : ViewM X p N mT mL DT DL rv s w) (hs : w.heap.size ≤ w'.heap.size) (hb : ∀ k,k < w.heap.size → ¬ X k → w'.heap[k]? = w.heap[k]?)
  (hY : ∀ k,Y k → k < w'.heap.size ∧ (X k ∨ w.heap.size ≤ k)) : ViewM Y p N mT mL DT DL rv s w':=by
 obtain ⟨lp,lT,lL⟩:=h.lt
 have ep:=hb p lp h.xp
 have eT:=hb mT lT h.xT
 have eL:=hb mL lL h.xL
 have no : ∀ k,k < w.heap.size → ¬ X k → ¬ Y k:=fun k hk hx hy => by
  rcases (hY k hy).2 with h1 | h1
  ·exact hx h1
  ·omega
 refine ⟨no p lp h.xp,no mT lT h.xT,no mL lL h.xL,h.pT,h.pL,h.tL,h.pm,fun k hk => (hY k hk).1,?_,?_,?_,?_,?_,h.ht,?_,h.hl,?_,h.ne,?_⟩
 ·rw [World.cell?_of_block (a:=⟨p,0,none⟩) ep]; exact h.c0
 ·rw [World.cell?_of_block (a:=⟨p,1,none⟩) ep]; exact h.c1
 ·rw [World.cell?_of_block (a:=⟨p,2,none⟩) ep]; exact h.c2
 ·rw [World.frozen?_of_block (a:=⟨p,0,none⟩) ep]; exact h.f0
 ·obtain ⟨es,clock,hb',F,hs',hD⟩:=h.mt
  exact ⟨es,clock,eT.trans hb',F,hs',hD⟩
 ·obtain ⟨es,clock,hb',F,hs',hD⟩:=h.ml
  exact ⟨es,clock,eL.trans hb',F,hs',hD⟩
 ·exact fun i => (h.q i).kept hs fun k hk => hb k ((h.q i).lt hk).2 (h.far i k hk).2.2.2
 ·intro i b hib
  obtain ⟨h1,h2,h3,h4⟩:=h.far i b hib
  exact ⟨h1,h2,h3,no b ((h.q i).lt hib).2 h4⟩
theorem ViewM.below {X : Nat → Prop} {p N mT mL : Nat} {DT DL : DataW Value} {rv : Option Int → Value} {s : VS} {w w' : World} (h : ViewM X p N mT mL DT DL rv s w) (hb : Below w.heap.size w w') : ViewM X p N mT mL DT DL rv s w' :=
 h.kept hb.size (fun k hk _ => hb.block k hk) (fun k hk => ⟨Nat.lt_of_lt_of_le (h.xlt k hk) hb.size,Or.inl hk⟩)
theorem ViewAt.below {X : Nat → Prop} {p N : Nat} {s : VS} {w w' : World} (h : ViewAt X p N s w) (hb : Below w.heap.size w w') : ViewAt X p N s w':=by
 obtain ⟨mT,mL,DT,DL,rv,h⟩:=h
 exact ⟨mT,mL,DT,DL,rv,h.below hb⟩
theorem ViewAt.less {X Y : Nat → Prop} {p N : Nat} {s : VS} {w : World} (h : ViewAt X p N s w) (hY : ∀ k,Y k → X k) : ViewAt Y p N s w:=by
 obtain ⟨mT,mL,DT,DL,rv,h⟩:=h
 exact ⟨mT,mL,DT,DL,rv,h.kept (Nat.le_refl _) (fun _ _ _ => rfl) (fun k hk => ⟨h.xlt k (hY k hk),Or.inl (hY k hk)⟩)⟩
/-- A new block is held apart. -/
theorem ViewAt.apart {X : Nat → Prop} {p N : Nat} {s : VS} {w : World} (h : ViewAt X p N s w) (o : Obj) : ViewAt (fun k => X k ∨ k = w.heap.size) p N s (w.alloc o):=by
 obtain ⟨mT,mL,DT,DL,rv,h⟩:=h
 refine ⟨mT,mL,DT,DL,rv,h.kept (by simp) (fun k hk _ => Below.heap_alloc w o k hk) (fun k hk => ?_)⟩
 rcases hk with hk | rfl
 ·exact ⟨by have:=h.xlt k hk; simp; omega,Or.inl hk⟩
 ·exact ⟨by simp,Or.inr (Nat.le_refl _)⟩
theorem ViewAt.more {X : Nat → Prop} {p N N' : Nat} {s : VS} {w : World} (h : ViewAt X p N s w) (hN : N ≤ N') : ViewAt X p N' s w:=by
 obtain ⟨mT,mL,DT,DL,rv,h⟩:=h
 exact ⟨mT,mL,DT,DL,rv,{ h with mt:=h.mt.mono hN,ml:=h.ml.mono hN }⟩
theorem ViewAt.xlt {X : Nat → Prop} {p N : Nat} {s : VS} {w : World} (h : ViewAt X p N s w) : ∀ k,X k → k < w.heap.size:=by
 obtain ⟨mT,mL,DT,DL,rv,h⟩:=h
 exact h.xlt
/-- What lies ahead is what was there and is appended, stored back. -/
theorem ViewM.ahead {X : Nat → Prop} {p N mT mL : Nat} {DT DL : DataW Value} {rv : Option Int → Value} {s : VS} {w : World} (h : ViewM X p N mT mL DT DL rv s w) (ty : TypeId) {x : Value} {ys : List ByteArray} (hs : Src Tryz.prog 1 26 x ys.length (strV ys) w) (hl : s.A.length + ys.length ≤ 8589934592) :
  ∃ v' w',(Builtin.append_ #[26,26] ty #[rv none,x]).run Tryz.prog w = .ok v' w' ∧ Keep X w (w'.setCell ⟨p,0,none⟩ v') ∧ w.grownBy w' (rv none).ownBlock ∧ (∃ a n cap,v' = .slice a n cap) ∧
   ViewM X p N mT mL DT DL (fun i => match i with | none => v' | some k => rv (some k)) ⟨s.A ++ ys,s.T,s.F⟩ (w'.setCell ⟨p,0,none⟩ v'):=by
 obtain ⟨v',w',hrun,hq,hg,hat,_⟩:=(h.q none).append (Nat.zero_le _) ty hs (by exact hl)
 obtain ⟨lp,lT,lL⟩:=h.lt
 have fp : ∀ b,(rv none).ownBlock = some b → b ≠ p ∧ b ≠ mT ∧ b ≠ mL ∧ ¬ X b:=h.far none
 have eb : ∀ k,k < w.heap.size → (∀ b,(rv none).ownBlock = some b → k ≠ b) → w'.heap[k]? = w.heap[k]?:=fun k hk hn => hg.block k hk (fun e => hn k e.symm rfl)
 have ep:=eb p lp fun b hb e => (fp b hb).1 e.symm
 have eT:=eb mT lT fun b hb e => (fp b hb).2.1 e.symm
 have eL:=eb mL lL fun b hb e => (fp b hb).2.2.1 e.symm
 have es : ∀ k,k ≠ p → (w'.setCell ⟨p,0,none⟩ v').heap[k]? = w'.heap[k]?:=fun k hk => Below.heap_setCell w' ⟨p,0,none⟩ v' k (fun e => hk e)
 have hz : (w'.setCell ⟨p,0,none⟩ v').heap.size = w'.heap.size:=by simp
 have d0 : w'.cell? ⟨p,0,none⟩ = some (rv none):=(World.cell?_of_block (a:=⟨p,0,none⟩) ep).trans h.c0
 have d1 : w'.cell? ⟨p,1,none⟩ = some (.map (some mT)):=(World.cell?_of_block (a:=⟨p,1,none⟩) ep).trans h.c1
 have d2 : w'.cell? ⟨p,2,none⟩ = some (.map (some mL)):=(World.cell?_of_block (a:=⟨p,2,none⟩) ep).trans h.c2
 have hv' : ∀ b,v'.ownBlock = some b → b ≠ p ∧ b ≠ mT ∧ b ≠ mL ∧ ¬ X b:=by
  intro b hb
  rcases hat with e | e
  ·rw [e] at hb; exact fp b hb
  ·rw [e] at hb; cases hb
   exact ⟨by omega,by omega,by omega,fun hx => Nat.lt_irrefl _ (h.xlt _ hx)⟩
 have hvk : ∀ k b,v'.ownBlock = some b → (rv (some k)).ownBlock = some b → False:=by
  intro k b hb hb2
  rcases hat with e | e
  ·rw [e] at hb; have:=h.ne none (some k) b hb hb2; cases this
  ·rw [e] at hb; cases hb; exact Nat.lt_irrefl _ ((h.q (some k)).lt hb2).2
 refine ⟨v',w',hrun,?_,hg,?_,?_⟩
 ·have k1 : Keep X w w':=Keep.grown hg h.xlt fun k hk => (fp k hk).2.2.2
  have k2:=(Below.refl 0 w').setCell (p:=⟨p,0,none⟩) (Nat.zero_le _) v'
  exact k1.trans ⟨k2.os,k2.tape,k2.output,k2.size,fun k hk => es k (fun e => h.xp (e ▸ hk))⟩
 ·obtain ⟨a,cap,e,_⟩:=hq.shape; exact ⟨a,_,cap,e⟩
 ·refine ⟨h.xp,h.xT,h.xL,h.pT,h.pL,h.tL,h.pm,fun k hk => by rw [hz]; exact Nat.lt_of_lt_of_le (h.xlt k hk) hg.size,?_,?_,?_,?_,?_,h.ht,?_,?_,?_,?_,?_⟩
  ·exact World.cell?_setCell_same' _ _ _ (by rw [d0]; rfl)
  ·rw [World.cell?_setCell_other _ _ _ _ (by simp)]; exact d1
  ·rw [World.cell?_setCell_other _ _ _ _ (by simp)]; exact d2
  ·rw [World.frozen?_setCell,World.frozen?_of_block (a:=⟨p,0,none⟩) ep]; exact h.f0
  ·obtain ⟨es',clock,hb',F,hs',hD⟩:=h.mt
   exact ⟨es',clock,(es mT (Ne.symm h.pT)).trans (eT.trans hb'),F,hs',hD⟩
  ·obtain ⟨es',clock,hb',F,hs',hD⟩:=h.ml
   exact ⟨es',clock,(es mL (Ne.symm h.pL)).trans (eL.trans hb'),F,hs',hD⟩
  ·exact fun k hk => h.hl k hk
  ·intro i
   cases i with
   | none => exact hq.kept (Nat.le_of_eq hz.symm) fun b hb => es b (hv' b hb).1
   | some k =>
    refine (h.q (some k)).kept (by rw [hz]; exact hg.size) fun b hb => ?_
    rw [es b (h.far (some k) b hb).1]
    exact eb b ((h.q (some k)).lt hb).2 fun b2 hb2 e => by subst e; have:=h.ne none (some k) b hb2 hb; cases this
  ·intro i j b hi hj
   cases i with
   | none =>
    cases j with
    | none => rfl
    | some k => exact (hvk k b hi hj).elim
   | some k =>
    cases j with
    | none => exact (hvk k b hj hi).elim
    | some k' => exact h.ne (some k) (some k') b hi hj
  ·intro i b hi
   cases i with
   | none => exact hv' b hi
   | some k => exact h.far (some k) b hi
/-- What is shut behind a key is what was there and is appended; it isn't stored back yet. -/
theorem ViewM.shut {X : Nat → Prop} {p N mT mL : Nat} {DT DL : DataW Value} {rv : Option Int → Value} {s : VS} {w : World} (h : ViewM X p N mT mL DT DL rv s w) (k : Int) (ty : TypeId) {x : Value} {ys : List ByteArray} (hs : Src Tryz.prog 1 26 x ys.length (strV ys) w) (hl : (s.F k).2.length + ys.length ≤ 8589934592) :
  ∃ v' w',(Builtin.append_ #[26,26] ty #[rv (some k),x]).run Tryz.prog w = .ok v' w' ∧ Keep X w w' ∧ ViewM X p N mT mL DT DL rv s w' ∧ QRow 0 w' v' ((s.F k).2 ++ ys) ∧ (∃ a n cap,v' = .slice a n cap) ∧
   (∀ b,v'.ownBlock = some b → (b ≠ p ∧ b ≠ mT ∧ b ≠ mL ∧ ¬ X b) ∧ ∀ i,i ≠ some k → (rv i).ownBlock ≠ some b):=by
 obtain ⟨v',w',hrun,hq,hg,hat,hold⟩:=(h.q (some k)).append (Nat.zero_le _) ty hs (by exact hl)
 obtain ⟨lp,lT,lL⟩:=h.lt
 have fp : ∀ b,(rv (some k)).ownBlock = some b → b ≠ p ∧ b ≠ mT ∧ b ≠ mL ∧ ¬ X b:=h.far (some k)
 have eb : ∀ j,j < w.heap.size → (∀ b,(rv (some k)).ownBlock = some b → j ≠ b) → w'.heap[j]? = w.heap[j]?:=fun j hj hn => hg.block j hj (fun e => hn j e.symm rfl)
 have ep:=eb p lp fun b hb e => (fp b hb).1 e.symm
 have eT:=eb mT lT fun b hb e => (fp b hb).2.1 e.symm
 have eL:=eb mL lL fun b hb e => (fp b hb).2.2.1 e.symm
 refine ⟨v',w',hrun,Keep.grown hg h.xlt fun j hj => (fp j hj).2.2.2,?_,hq,?_,?_⟩
 ·refine ⟨h.xp,h.xT,h.xL,h.pT,h.pL,h.tL,h.pm,fun j hj => Nat.lt_of_lt_of_le (h.xlt j hj) hg.size,(World.cell?_of_block (a:=⟨p,0,none⟩) ep).trans h.c0,(World.cell?_of_block (a:=⟨p,1,none⟩) ep).trans h.c1,(World.cell?_of_block (a:=⟨p,2,none⟩) ep).trans h.c2,(World.frozen?_of_block (a:=⟨p,0,none⟩) ep).trans h.f0,?_,h.ht,?_,h.hl,?_,h.ne,h.far⟩
  ·obtain ⟨es',clock,hb',F,hs',hD⟩:=h.mt
   exact ⟨es',clock,eT.trans hb',F,hs',hD⟩
  ·obtain ⟨es',clock,hb',F,hs',hD⟩:=h.ml
   exact ⟨es',clock,eL.trans hb',F,hs',hD⟩
  ·intro i
   by_cases e : i = some k
   ·subst e; exact hold
   ·exact (h.q i).kept hg.size fun b hb => eb b ((h.q i).lt hb).2 fun b2 hb2 e2 => e (by subst e2; exact h.ne i (some k) b hb hb2)
 ·obtain ⟨a,cap,e,_⟩:=hq.shape; exact ⟨a,_,cap,e⟩
 ·intro b hb
  rcases hat with e | e
  ·rw [e] at hb
   exact ⟨fp b hb,fun i hi e2 => hi (h.ne i (some k) b e2 hb)⟩
  ·rw [e] at hb; cases hb
   exact ⟨⟨by omega,by omega,by omega,fun hx => Nat.lt_irrefl _ (h.xlt _ hx)⟩,fun i _ e2 => Nat.lt_irrefl _ ((h.q i).lt e2).2⟩
set_option linter.unusedVariables false
end Go.Proofs.YtlmpfkbgknbcnaaGreat.Kn
namespace Go.Proofs.YtlmpfkbgknbcnaaGreat.Kn
open Go.RowKit _root_.Go.Proofs.YtlmpfkbgknbcnaaGreat.Own Var Term
theorem keyed3 : Maps.Keyed Tryz.prog 3:=Maps.int_keyed Tryz.underlying3
theorem keyed9 : Maps.Keyed Tryz.prog 9:=Maps.string_keyed Tryz.underlying9
section
variable {X : Nat → Prop} {p N mT mL : Nat} {DT DL : DataW Value} {rv : Option Int → Value} {s : VS} {w : World}
theorem ViewM.lookup (h : ViewM X p N mT mL DT DL rv s w) {k : Int} (hk : (Lit.int .i64 k).wf = true) :
  (Instr.lookup 161 (.map (some mL)) (.int .i64 k) false).run Tryz.prog w = .ok (.agg #[.bool (s.F k).1,rv (some k)]) w:=by
 obtain ⟨v,ps,hrun,hv⟩:=h.ml.lookup keyed3 Tryz.underlying161 (Tryz.zeroValue165 w) (zd:=.held lock0) (zp:=[]) rfl (Maps.keyOf_int_mk Tryz.underlying3 hk)
 rw [h.hl k hk] at hv
 have : v = .agg #[.bool (s.F k).1,rv (some k)]:=by
  unfold heldR at hv
  simp only [Option.some.injEq,Prod.mk.injEq,DataW.held.injEq] at hv
  exact hv.1
 rw [← this]
 exact hrun
theorem ViewM.saw (h : ViewM X p N mT mL DT DL rv s w) {t : ByteArray} (ht : t.size ≤ 1048576) :
  ∃ b,(Instr.lookup 160 (.map (some mT)) (.string t) true).run Tryz.prog w = .ok (.tuple #[.agg #[],.bool b]) w ∧ (b = true ↔ t ∈ s.T):=by
 obtain ⟨v,ps,hrun,hv⟩:=h.mt.look_ok keyed9 Tryz.underlying160 (Tryz.zeroValue222 w) (zd:=.agg []) (zp:=[]) unitElem_mk (Go.WideMaps.keyOf_string_mk Tryz.underlying9 (s:=t) (by unfold maxLen; omega))
 obtain ⟨rfl,_⟩:=unitElem_inv hv
 exact ⟨_,hrun,h.ht t ht⟩
/-- A text is put among what is there. -/
theorem ViewM.see (h : ViewM X p N mT mL DT DL rv s w) (hN : N < 8589934592) {t : ByteArray} (ht : t.size ≤ 1048576) :
  ∃ w',(Instr.mapUpdate 160 (.map (some mT)) (.string t) (.agg #[])).run Tryz.prog w = .ok () w' ∧ Keep X w w' ∧ ViewAt X p (N + 1) ⟨s.A,s.T ++ [t],s.F⟩ w':=by
 have hm : t.size ≤ maxLen:=by unfold maxLen; omega
 obtain ⟨w',hrun,ho,hg⟩:=h.mt.update keyed9 Tryz.underlying160 (by unfold maxLen; omega) (Go.WideMaps.keyOf_string_mk Tryz.underlying9 (s:=t) hm) (unitElem_mk (H:=Value))
 obtain ⟨lp,lT,lL⟩:=h.lt
 have eb : ∀ k,k < w.heap.size → k ≠ mT → w'.heap[k]? = w.heap[k]?:=fun k hk hn => hg.block k hk (fun e => hn (by cases e; rfl))
 have ep:=eb p lp h.pT
 have eL:=eb mL lL (Ne.symm h.tL)
 refine ⟨w',hrun,Keep.grown hg h.xlt (fun k hk => by cases hk; exact h.xT),mT,mL,DT.put (.string t.data.toList) (.agg []),DL,rv,?_⟩
 refine ⟨h.xp,h.xT,h.xL,h.pT,h.pL,h.tL,h.pm,fun k hk => Nat.lt_of_lt_of_le (h.xlt k hk) hg.size,?_,?_,?_,?_,ho,?_,?_,h.hl,?_,h.ne,h.far⟩
 ·exact (World.cell?_of_block (a:=⟨p,0,none⟩) ep).trans h.c0
 ·exact (World.cell?_of_block (a:=⟨p,1,none⟩) ep).trans h.c1
 ·exact (World.cell?_of_block (a:=⟨p,2,none⟩) ep).trans h.c2
 ·exact (World.frozen?_of_block (a:=⟨p,0,none⟩) ep).trans h.f0
 ·intro u hu
  by_cases e : u = t
  ·subst e
   rw [Maps.has_put_same (k:=.string u.data.toList) h.mt.isMap trivial]
   simp
  ·have hne : (Lit.string u.data.toList) ≠ .string t.data.toList:=by
    intro e2
    apply e
    have e3 : u.data.toList = t.data.toList:=by injection e2
    have e4 : u.data = t.data:=Array.ext' e3
    cases u; cases t; simp_all
   rw [Maps.has_put_other hne,h.ht u hu]
   simp [e]
 ·obtain ⟨es',clock,hb',F,hs',hD⟩:=h.ml
  exact ⟨es',clock,eL.trans hb',F,Nat.le_succ_of_le hs',hD⟩
 ·exact fun i => (h.q i).kept hg.size fun b hb => eb b ((h.q i).lt hb).2 (h.far i b hb).2.1
/-- What is said of a key is said anew. -/
theorem ViewM.put (h : ViewM X p N mT mL DT DL rv s w) (hN : N < 8589934592) {k : Int} (hk : (Lit.int .i64 k).wf = true) (r : Bool) (sv : Value) (ys : List ByteArray) (hq : QRow 0 w sv ys)
  (hsv : ∀ b,sv.ownBlock = some b → (b ≠ p ∧ b ≠ mT ∧ b ≠ mL ∧ ¬ X b) ∧ ∀ i,i ≠ some k → (rv i).ownBlock ≠ some b) :
  ∃ w',(Instr.mapUpdate 161 (.map (some mL)) (.int .i64 k) (.agg #[.bool r,sv])).run Tryz.prog w = .ok () w' ∧ Keep X w w' ∧ ViewAt X p (N + 1) ⟨s.A,s.T,fun j => if j = k then (r,ys) else s.F j⟩ w':=by
 obtain ⟨w',hrun,ho,hg⟩:=h.ml.update keyed3 Tryz.underlying161 (by unfold maxLen; omega) (Maps.keyOf_int_mk Tryz.underlying3 hk) (val:=.agg #[.bool r,sv]) (d:=.held (.agg #[.bool r,sv])) (ps:=[]) rfl
 obtain ⟨lp,lT,lL⟩:=h.lt
 have eb : ∀ j,j < w.heap.size → j ≠ mL → w'.heap[j]? = w.heap[j]?:=fun j hj hn => hg.block j hj (fun e => hn (by cases e; rfl))
 have ep:=eb p lp h.pL
 have eT:=eb mT lT h.tL
 refine ⟨w',hrun,Keep.grown hg h.xlt (fun j hj => by cases hj; exact h.xL),mT,mL,DT,DL.put (.int .i64 k) (.held (.agg #[.bool r,sv])),(fun i => if i = some k then sv else rv i),?_⟩
 have hr0 : (if (none : Option Int) = some k then sv else rv none) = rv none:=if_neg (by simp)
 refine ⟨h.xp,h.xT,h.xL,h.pT,h.pL,h.tL,h.pm,fun j hj => Nat.lt_of_lt_of_le (h.xlt j hj) hg.size,?_,?_,?_,?_,?_,h.ht,ho,?_,?_,?_,?_⟩
 ·rw [hr0]; exact (World.cell?_of_block (a:=⟨p,0,none⟩) ep).trans h.c0
 ·exact (World.cell?_of_block (a:=⟨p,1,none⟩) ep).trans h.c1
 ·exact (World.cell?_of_block (a:=⟨p,2,none⟩) ep).trans h.c2
 ·exact (World.frozen?_of_block (a:=⟨p,0,none⟩) ep).trans h.f0
 ·obtain ⟨es',clock,hb',F,hs',hD⟩:=h.mt
  exact ⟨es',clock,eT.trans hb',F,Nat.le_succ_of_le hs',hD⟩
 ·intro j hj
  by_cases e : j = k
  ·subst e
   rw [Maps.atKey_put_same (k:=.int .i64 j) h.ml.isMap trivial]
   simp only [if_true]
  ·have hne : (Lit.int .i64 j) ≠ .int .i64 k:=by intro e2; apply e; injection e2
   have hne2 : ¬ some j = some k:=by intro e2; apply e; injection e2
   rw [Maps.atKey_put_other hne,h.hl j hj]
   simp only [if_neg e,if_neg hne2]
 ·intro i
  by_cases e : i = some k
  ·subst e
   rw [if_pos rfl]
   show QRow 0 w' sv (VS.row _ (some k))
   unfold VS.row
   simp only [if_true]
   exact hq.kept hg.size fun b hb => eb b (hq.lt hb).2 (hsv b hb).1.2.2.1
  ·rw [if_neg e]
   have er : VS.row ⟨s.A,s.T,fun j => if j = k then (r,ys) else s.F j⟩ i = s.row i:=by
    cases i with
    | none => rfl
    | some j =>
     have : j ≠ k:=fun e2 => e (by rw [e2])
     unfold VS.row
     simp only [if_neg this]
   rw [er]
   exact (h.q i).kept hg.size fun b hb => eb b ((h.q i).lt hb).2 (h.far i b hb).2.2.1
 ·intro i j b hi hj
  by_cases e1 : i = some k
  ·by_cases e2 : j = some k
   ·rw [e1,e2]
   ·rw [if_pos e1] at hi
    rw [if_neg e2] at hj
    exact absurd hj ((hsv b hi).2 j e2)
  ·by_cases e2 : j = some k
   ·rw [if_neg e1] at hi
    rw [if_pos e2] at hj
    exact absurd hi ((hsv b hj).2 i e1)
   ·rw [if_neg e1] at hi
    rw [if_neg e2] at hj
    exact h.ne i j b hi hj
 ·intro i b hi
  by_cases e1 : i = some k
  ·rw [if_pos e1] at hi; exact (hsv b hi).1
  ·rw [if_neg e1] at hi; exact h.far i b hi
end
end Go.Proofs.YtlmpfkbgknbcnaaGreat.Kn
