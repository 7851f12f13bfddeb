/- Rows of flat structs: their cells, rows that a call owns, marks in them. -/
import Derived.Test.YtlmpfkbgknbcnaaGreatRest3
import Derived.Test.YtlmpfkbgknbcnaaGreatVarWalks
import Derived.OwnWalk
import Derived.Laws.OwnMore
import Derived.Lib.ReflectliteSwap
import Derived.Laws.ResultCell
set_option linter.unusedVariables false
namespace Go.Proofs.YtlmpfkbgknbcnaaGreat
open Go Go.RowKit Go.Joins Own
def fl {α : Type} (f : α → List Value) (xs : List α) : List Value:=xs.flatMap f
theorem fl_snoc {α : Type} (f : α → List Value) (xs : List α) (x : α) : fl f (xs ++ [x]) = fl f xs ++ f x:=by unfold fl; rw [List.flatMap_append]; simp
theorem fl_cons {α : Type} (f : α → List Value) (x : α) (xs : List α) : fl f (x :: xs) = f x ++ fl f xs:=rfl
theorem fl_len {α : Type} {s : Nat} {f : α → List Value} (hs : ∀ x,(f x).length = s) (xs : List α) : (fl f xs).length = xs.length * s:=by
 induction xs with
 | nil => simp [fl]
 | cons x xs ih => rw [fl_cons,List.length_append,ih,hs,List.length_cons,Nat.succ_mul,Nat.add_comm]
theorem fl_get {α : Type} {s : Nat} {f : α → List Value} (hs : ∀ x,(f x).length = s) (xs : List α) : ∀ j (h : j < xs.length) (i : Nat),i < s → (fl f xs)[j * s + i]? = (f xs[j])[i]?:=by
 induction xs with
 | nil => intro j h; simp at h
 | cons x xs ih =>
  intro j h i hi
  cases j with
  | zero => rw [fl_cons,Nat.zero_mul,Nat.zero_add,List.getElem?_append_left (by rw [hs]; exact hi)]; rfl
  | succ j =>
   have e : (j + 1) * s + i = s + (j * s + i):=by rw [Nat.succ_mul]; omega
   rw [fl_cons,e,List.getElem?_append_right (by rw [hs]; omega),hs,Nat.add_sub_cancel_left,ih j (by simpa using h) i hi]
   rfl
def sets : List Value → Nat → List Value → List Value
 | L,_,[] => L
 | L,i,v :: vs => sets (L.set i v) (i + 1) vs
theorem sets_at : ∀ (vs A J : List Value),vs.length ≤ J.length → sets (A ++ J) A.length vs = A ++ vs ++ J.drop vs.length
 | [],A,J,h => by simp [sets]
 | v :: vs,A,[],h => by simp at h
 | v :: vs,A,u :: J,h => by
  show sets ((A ++ u :: J).set A.length v) (A.length + 1) vs = _
  have e : (A ++ u :: J).set A.length v = (A ++ [v]) ++ J:=by simp
  have e2:=sets_at vs (A ++ [v]) J (by simpa using h)
  rw [List.length_append] at e2
  rw [e]
  simpa using e2
theorem fl_put {α : Type} {s : Nat} {f : α → List Value} (hs : ∀ x,(f x).length = s) (ys : List α) (J : List Value) (x : α) (h : s ≤ J.length) : sets (fl f ys ++ J) (ys.length * s) (f x) = fl f (ys ++ [x]) ++ J.drop s:=by
 have e:=sets_at (f x) (fl f ys) J (by rw [hs]; exact h)
 rw [fl_len hs,hs] at e
 rw [e,fl_snoc]
/-- The cells from a on hold the row. -/
def FRow {α : Type} (s : Nat) (f : α → List Value) (w : World) (a : Option Addr) (xs : List α) : Prop :=
 ∀ j (h : j < xs.length),∃ b off,a = some ⟨b,off,none⟩ ∧ b < w.heap.size ∧ ∀ i v,(f xs[j])[i]? = some v → w.cell? ⟨b,off + j * s + i,none⟩ = some v
theorem FRow.later {α : Type} {s : Nat} {f : α → List Value} {w w' : World} {a : Option Addr} {xs : List α} (h : FRow s f w a xs) (hb : Below w.heap.size w w') : FRow s f w' a xs:=by
 intro j hj
 obtain ⟨b,off,e,hlt,h0⟩:=h j hj
 exact ⟨b,off,e,Nat.lt_of_lt_of_le hlt hb.size,fun i v e => by rw [hb.cell (p:=⟨b,off + j * s + i,none⟩) hlt]; exact h0 i v e⟩
theorem FRow.nil {α : Type} (s : Nat) (f : α → List Value) (w : World) (a : Option Addr) : FRow s f w a []:=by intro j hj; simp at hj
theorem FRow.drew {α : Type} {s : Nat} {f : α → List Value} {w : World} {a : Option Addr} {xs : List α} (h : FRow s f w a xs) : FRow s f w.drew a xs:=h
theorem FRow.take {α : Type} {s : Nat} {f : α → List Value} {w : World} {a : Option Addr} {xs : List α} (h : FRow s f w a xs) (k : Nat) : FRow s f w a (xs.take k):=by
 intro j hj
 have hj' : j < xs.length:=by rw [List.length_take] at hj; omega
 rw [List.getElem_take]
 exact h j hj'
theorem own_shape {w : World} {B n sz : Nat} {e : TypeId} {v : Value} {xs : List Value} (h : w.ownsRow B e sz v n xs) : ∃ a cap,v = .slice a n cap ∧ n ≤ cap:=by
 rcases h.2 with ⟨rfl,h0⟩ | ⟨g,cap,cur,rfl,e2,e3,e4,_⟩
 ·subst h0; exact ⟨none,0,rfl,Nat.le_refl _⟩
 ·exact ⟨_,cap,rfl,e4⟩
/-- A row that the call owns from block B on, behind the slice (a, cap). -/
def FOwn {α : Type} (t s : Nat) (f : α → List Value) (B : Nat) (a : Option Addr) (cap : Nat) (xs : List α) (w : World) : Prop:=w.ownsRow B t s (.slice a xs.length cap) xs.length (fl f xs)
theorem FOwn.row {α : Type} {t s : Nat} {f : α → List Value} {w : World} {B c : Nat} {a : Option Addr} {xs : List α} (hs : ∀ x,(f x).length = s) (h : FOwn t s f B a c xs w) : FRow s f w a xs:=by
 intro j hj
 rcases h.2 with ⟨e,h0⟩ | ⟨g,cap,cur,e,e2,e3,e4,_⟩
 ·omega
 ·injection e with e1 _ e3'
  subst e1
  subst e3'
  have hlt : g < w.heap.size:=(h.lt g rfl).2
  refine ⟨g,0,rfl,hlt,fun i v e => ?_⟩
  have hi : i < s:=by rw [← hs xs[j]]; exact (List.getElem?_eq_some_iff.1 e).1
  have hb : j * s + i < xs.length * s:=by
   have : (j + 1) * s ≤ xs.length * s:=Nat.mul_le_mul_right _ hj
   rw [Nat.succ_mul] at this
   omega
  rw [Nat.zero_add,h.cellAt (j * s + i) hb,fl_get hs xs j hj i hi]
  exact e
theorem FOwn.le {α : Type} {t s : Nat} {f : α → List Value} {w : World} {B B' c : Nat} {a : Option Addr} {xs : List α} (h : FOwn t s f B a c xs w) (hb : B' ≤ B) : FOwn t s f B' a c xs w:=ownsRow_le h hb
theorem FOwn.nil {α : Type} (t s : Nat) (f : α → List Value) (B : Nat) (w : World) : FOwn t s f B none 0 [] w:=⟨by simp [fl],Or.inl ⟨rfl,rfl⟩⟩
theorem FOwn.cap {α : Type} {t s : Nat} {f : α → List Value} {w : World} {B c : Nat} {a : Option Addr} {xs : List α} (h : FOwn t s f B a c xs w) : xs.length ≤ c:=by
 obtain ⟨a',c',e,hl⟩:=own_shape h
 injection e with _ _ e
 subst e
 exact hl
theorem grown_to {w w1 w2 : World} {r : Option Nat} (h : w.grownBy w1 r) (k : w1.grownBy w2 r) : w.grownBy w2 r :=
 ⟨k.os.trans h.os,k.tape.trans h.tape,k.output.trans h.output,Nat.le_trans h.size k.size,fun j hj hn => (k.block j (Nat.lt_of_lt_of_le hj h.size) hn).trans (h.block j hj hn)⟩
end Go.Proofs.YtlmpfkbgknbcnaaGreat

set_option linter.unusedVariables false
set_option maxRecDepth 100000
namespace Go.Proofs.YtlmpfkbgknbcnaaGreat
open Go Go.RowKit Own
theorem Blk.sets' {g : Nat} : ∀ (vs us xs : List Value) (W : World),Blk g (xs ++ us) W → vs.length ≤ us.length → Blk g (xs ++ vs ++ us.drop vs.length) (W.setCells g xs.length vs)
 | [],us,xs,W,h,e => by simpa [World.setCells] using h
 | v :: vs,[],xs,W,h,e => by simp at e
 | v :: vs,u :: us,xs,W,h,e => by
  have h1:=h.set xs.length v
  rw [show (xs ++ u :: us).set xs.length v = (xs ++ [v]) ++ us by simp] at h1
  have h2:=Blk.sets' vs us (xs ++ [v]) _ h1 (by simpa using e)
  rw [List.length_append] at h2
  simpa [World.setCells] using h2
theorem Blk.sets {g : Nat} {us : List Value} {W : World} (h : Blk g us W) (vs : List Value) (e : us.length = vs.length) : Blk g vs (W.setCells g 0 vs):=by
 have:=Blk.sets' vs us [] W h (by omega)
 rw [List.drop_eq_nil_of_le (by omega)] at this
 simpa using this
/-- A part of a block's cells stored. -/
theorem Blk.part {g : Nat} {us : List Value} {W : World} (h : Blk g us W) (o : Nat) (vs ws : List Value) (e : o + vs.length ≤ us.length) (hw : us.take o ++ vs ++ us.drop (o + vs.length) = ws) : Blk g ws (W.setCells g o vs):=by
 have:=Blk.sets' vs (us.drop o) (us.take o) W (by rw [List.take_append_drop]; exact h) (by rw [List.length_drop]; omega)
 rw [List.length_take,Nat.min_eq_left (by omega),List.drop_drop] at this
 rw [← hw]
 exact this
theorem Blk.farS {g q : Nat} {us : List Value} (hn : q ≠ g) : ∀ (vs : List Value) (i : Nat) (W : World),Blk g us W → Blk g us (W.setCells q i vs)
 | [],i,W,h => h
 | v :: vs,i,W,h => Blk.farS hn vs (i + 1) _ (h.far hn i v)
theorem below_sets {m g : Nat} {w : World} (hg : m ≤ g) : ∀ (vs : List Value) (i : Nat) (W : World),Below m w W → Below m w (W.setCells g i vs)
 | [],i,W,h => h
 | v :: vs,i,W,h => below_sets hg vs (i + 1) _ (h.setCell (by exact hg) v)
theorem ldB {P : Program} (ty : TypeId) (ie : TypeInfo) (hie : P.info? ty = some ie) (hagg : ∀ w,(isAgg ty).run P w = .ok true w) {g o : Nat} {us : List Value} (vs : List Value) {w : World} (h : Blk g us w) (hs : vs.length = ie.size) (hv : (us.drop o).take vs.length = vs) :
  (loadVar ty ⟨g,o,none⟩).run P w = .ok (.agg vs.toArray) w:=by
 refine Go.Lib.rl_loadVar_cells ty ie hie hagg g o vs hs w ?_
 intro k v e
 rw [← hv] at e
 rw [List.getElem?_take] at e
 split at e
 ·rw [List.getElem?_drop] at e
  exact (h.out (o + k) v e).1
 ·cases e
theorem stB {P : Program} (ty : TypeId) (ie : TypeInfo) (hie : P.info? ty = some ie) {g o : Nat} {us : List Value} (vs : List Value) {w : World} (h : Blk g us w) (hs : vs.length = ie.size) (ho : o + vs.length ≤ us.length) (h1 : vs.all (·.oneCell') = true) :
  (storeVar ty ⟨g,o,none⟩ (.agg vs.toArray)).run P w = .ok () (w.setCells g o vs):=by
 refine Go.Lib.rl_storeVar_cells ty ie hie g o vs hs (List.all_eq_true.1 h1) w ?_ ?_
 ·intro k hk
  rw [(h.out (o + k) us[o + k] (List.getElem?_eq_getElem (by omega))).1]
  rfl
 ·intro k hk
  exact (h.out (o + k) us[o + k] (List.getElem?_eq_getElem (by omega))).2
theorem wpList_ldB {P : Program} {ops : Array Oper} {rest : List Oper} {o : Oper} {a : Act} {w : World} {Q : Exit → Act → World → Prop} (ty : TypeId) (x : Operand) (g off : Nat) (us vs : List Value) (ie : TypeInfo) (hie : P.info? ty = some ie) (hagg : ∀ w,(isAgg ty).run P w = .ok true w) (h : Blk g us w) (hs : vs.length = ie.size) (hv : (us.drop off).take vs.length = vs)
  (hgd : o.guard = none) (ho : o.op = .load ty x) (hx : a.eval x = .pointer (some ⟨g,off,none⟩))
  (hn : wpList P ops Q rest (a.put o.dst (.agg vs.toArray)) w) : wpList P ops Q (o :: rest) a w:=by
 refine wpList_plain hgd fun K hK => ?_
 unfold Oper.wp execOp
 simp only [ho,hx,Instr.loadAt,Instr.sureAddr,Sem.run_bind,Sem.run_pure,Result.andThen_ok,ldB ty ie hie hagg vs h hs hv]
 exact hK _ _ hn
theorem wpList_stB {P : Program} {ops : Array Oper} {rest : List Oper} {o : Oper} {a : Act} {w : World} {Q : Exit → Act → World → Prop} (ty : TypeId) (x y : Operand) (g off : Nat) (us vs : List Value) (ie : TypeInfo) (hie : P.info? ty = some ie) (h : Blk g us w) (hs : vs.length = ie.size) (hl : off + vs.length ≤ us.length) (h1 : vs.all (·.oneCell') = true)
  (hgd : o.guard = none) (ho : o.op = .store ty x y) (hx : a.eval x = .pointer (some ⟨g,off,none⟩)) (hy : a.eval y = .agg vs.toArray)
  (hn : wpList P ops Q rest (a.put o.dst undef) (w.setCells g off vs)) : wpList P ops Q (o :: rest) a w:=by
 refine wpList_plain hgd fun K hK => ?_
 unfold Oper.wp execOp
 simp only [ho,hx,hy,Instr.storeAt,Instr.sureAddr,Sem.run_bind,Sem.run_pure,Result.andThen_ok,stB ty ie hie vs h hs hl h1]
 exact hK _ _ hn
theorem res_B1 {P : Program} {fn : Func} {p : Tmp} {ty : TypeId} (hres : fn.results = #[.cell p ty]) (tmps : Array Value) (w : World) (g : Nat) (vs : List Value) (ie : TypeInfo) (hie : P.info? ty = some ie) (hagg : ∀ w,(isAgg ty).run P w = .ok true w) (h : Blk g vs w) (hs : vs.length = ie.size) (hp : tmps.getD p undef = .pointer (some ⟨g,0,none⟩)) :
  (results fn tmps).run P w = .ok (.agg vs.toArray) w:=by
 have hp' : tmps[p]?.getD undef = .pointer (some ⟨g,0,none⟩):=by simpa using hp
 have hl:=ldB (P:=P) ty ie hie hagg (o:=0) vs h hs (by simp)
 simp [results,hres,hp',asAddr,hl]
theorem info_K : ∃ ie,Tryz.prog.info? 76 = some ie ∧ ie.size = 2:=by
 cases h : Tryz.prog.info? 76 with
 | none => exact absurd h (by have : (Tryz.prog.info? 76).isSome = true:=(by kernel_rfl); rw [Option.isSome_iff_ne_none] at this; exact this)
 | some ie =>
  refine ⟨ie,rfl,?_⟩
  have : (Tryz.prog.info? 76).map (·.size) = some 2:=by kernel_rfl
  rw [h] at this
  exact Option.some.inj this
theorem info_Q : ∃ ie,Tryz.prog.info? 80 = some ie ∧ ie.size = 15:=by
 cases h : Tryz.prog.info? 80 with
 | none => exact absurd h (by have : (Tryz.prog.info? 80).isSome = true:=(by kernel_rfl); rw [Option.isSome_iff_ne_none] at this; exact this)
 | some ie =>
  refine ⟨ie,rfl,?_⟩
  have : (Tryz.prog.info? 80).map (·.size) = some 15:=by kernel_rfl
  rw [h] at this
  exact Option.some.inj this
theorem info_F : ∃ ie,Tryz.prog.info? 40 = some ie ∧ ie.size = 5:=by
 cases h : Tryz.prog.info? 40 with
 | none => exact absurd h (by have : (Tryz.prog.info? 40).isSome = true:=(by kernel_rfl); rw [Option.isSome_iff_ne_none] at this; exact this)
 | some ie =>
  refine ⟨ie,rfl,?_⟩
  have : (Tryz.prog.info? 40).map (·.size) = some 5:=by kernel_rfl
  rw [h] at this
  exact Option.some.inj this
theorem info_N : ∃ ie,Tryz.prog.info? 41 = some ie ∧ ie.size = 2:=by
 cases h : Tryz.prog.info? 41 with
 | none => exact absurd h (by have : (Tryz.prog.info? 41).isSome = true:=(by kernel_rfl); rw [Option.isSome_iff_ne_none] at this; exact this)
 | some ie =>
  refine ⟨ie,rfl,?_⟩
  have : (Tryz.prog.info? 41).map (·.size) = some 2:=by kernel_rfl
  rw [h] at this
  exact Option.some.inj this
theorem info_D : ∃ ie,Tryz.prog.info? 48 = some ie ∧ ie.size = 16:=by
 cases h : Tryz.prog.info? 48 with
 | none => exact absurd h (by have : (Tryz.prog.info? 48).isSome = true:=(by kernel_rfl); rw [Option.isSome_iff_ne_none] at this; exact this)
 | some ie =>
  refine ⟨ie,rfl,?_⟩
  have : (Tryz.prog.info? 48).map (·.size) = some 16:=by kernel_rfl
  rw [h] at this
  exact Option.some.inj this
theorem info_E : ∃ ie,Tryz.prog.info? 106 = some ie ∧ ie.size = 11:=by
 cases h : Tryz.prog.info? 106 with
 | none => exact absurd h (by have : (Tryz.prog.info? 106).isSome = true:=(by kernel_rfl); rw [Option.isSome_iff_ne_none] at this; exact this)
 | some ie =>
  refine ⟨ie,rfl,?_⟩
  have : (Tryz.prog.info? 106).map (·.size) = some 11:=by kernel_rfl
  rw [h] at this
  exact Option.some.inj this
end Go.Proofs.YtlmpfkbgknbcnaaGreat
