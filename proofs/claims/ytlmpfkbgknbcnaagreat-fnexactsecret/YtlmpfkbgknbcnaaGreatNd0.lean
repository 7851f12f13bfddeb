/- Deep data: rows in structs, structs in rows. -/
import Derived.Test.YtlmpfkbgknbcnaaGreatAb
import Derived.Test.YtlmpfkbgknbcnaaGreatFl
set_option linter.unusedVariables false
set_option maxRecDepth 100000
namespace Go.Proofs.YtlmpfkbgknbcnaaGreat.Nd
open Go Go.RowKit Go.Joins Own Draw
abbrev Rw (α : Type):=Option Addr × Nat × List α
def szV (t n : Nat) : Int:=if t ≤ n then ((n - t : Nat) : Int) else -1
theorem own_far {w w' : World} {B e s n g : Nat} {v : Value} {xs : List Value} (h : w.ownsRow B e s v n xs) (hg : w.grownBy w' (some g)) (hn : g < B) : w'.ownsRow B e s v n xs:=by
 refine World.ownsRow.kept h hg ?_
 cases hv : v.ownBlock with
 | none => exact Or.inl rfl
 | some k => right; intro e; have:=(h.lt k hv).1; injection e with e; omega
theorem own_later {w w' : World} {base : Nat} {e : TypeId} {size : Nat} {v : Value} {n : Nat} {xs : List Value} (h : w.ownsRow base e size v n xs) (hb : Below w.heap.size w w') : w'.ownsRow base e size v n xs:=by
 refine ⟨h.1,?_⟩
 rcases h.2 with h0 | ⟨g,cap,cur,e1,e2,e3,e4⟩
 ·exact Or.inl h0
 ·exact Or.inr ⟨g,cap,cur,e1,e2,(hb.block g (by subst e1; exact (h.lt g rfl).2)).trans e3,e4⟩
theorem set_grown (W : World) (g i : Nat) (v : Value) : W.grownBy (W.setCell ⟨g,i,none⟩ v) (some g):=⟨rfl,rfl,rfl,by simp,fun k _ hk => Below.heap_setCell W ⟨g,i,none⟩ v k (fun e => hk (by rw [e]))⟩
theorem sets_grown (g : Nat) : ∀ (vs : List Value) (i : Nat) (W : World),W.grownBy (W.setCells g i vs) (some g)
 | [],i,W => World.grownBy.refl _ _
 | v :: vs,i,W => grown_to (set_grown W g i v) (sets_grown g vs (i + 1) _)
theorem own_sets {B e s n g : Nat} {a : Value} : ∀ (vs : List Value) (i : Nat) (W : World) (L : List Value),a = .slice (some ⟨g,0,none⟩) n n → W.ownsRow B e s a n L → (W.setCells g i vs).ownsRow B e s a n (sets L i vs)
 | [],i,W,L,ea,h => h
 | v :: vs,i,W,L,ea,h => by subst ea; exact own_sets vs (i + 1) _ _ rfl (h.stored i v).1
/-- Numbers and texts in rows. -/
def RpI (w : World) (r : Rw Int) : Prop:=RowAt (Value.int .i64) w r.1 r.2.2
def RoI (B : Nat) (w : World) (r : Rw Int) : Prop:=w.ownsRow B 3 1 (.slice r.1 r.2.2.length r.2.1) r.2.2.length (r.2.2.map (Value.int .i64))
def rsI (r : Rw Int) : List Int:=r.2.2
def rtI (r : Rw Int) : Nat:=r.2.2.length
def RlI (r : Rw Int) : Prop:=r.2.2.length ≤ maxLen
theorem row_own {α : Type} {f : α → Value} {w : World} {B e c : Nat} {a : Option Addr} {ys : List α} (h : w.ownsRow B e 1 (.slice a ys.length c) ys.length (ys.map f)) : RowAt f w a ys:=by
 rcases h.2 with ⟨e,h0⟩ | ⟨g,cap,cur,e,_⟩
 ·intro j hj; omega
 ·injection e with e1 _ e3
  subst e1 e3
  exact RowAt.own h
theorem RpI.later {w w' : World} {r : Rw Int} (h : RpI w r) (hb : Below w.heap.size w w') : RpI w' r:=RowAt.later h hb
theorem RoI.later {B : Nat} {w w' : World} {r : Rw Int} (h : RoI B w r) (hb : Below w.heap.size w w') : RoI B w' r:=own_later h hb
theorem RoI.le {B B' : Nat} {w : World} {r : Rw Int} (h : RoI B w r) (hb : B' ≤ B) : RoI B' w r:=ownsRow_le h hb
theorem RoI.far {B g : Nat} {w w' : World} {r : Rw Int} (h : RoI B w r) (hg : w.grownBy w' (some g)) (hn : g < B) : RoI B w' r:=own_far h hg hn
theorem RoI.dp {B : Nat} {w : World} {r : Rw Int} (h : RoI B w r) : RpI w r:=row_own h
theorem rtI_len (r : Rw Int) : r.2.2.length ≤ rtI r:=Nat.le_refl _
theorem rsI_len {r q : Rw Int} (h : rsI r = rsI q) : r.2.2.length = q.2.2.length:=by have:=congrArg List.length h; simpa [rsI] using this
theorem le_sum_of_mem {t : Nat} : ∀ {l : List Nat},t ∈ l → t ≤ l.sum
 | [],h => by cases h
 | x :: l,h => by
  rw [List.sum_cons]
  rcases List.mem_cons.1 h with rfl | h
  ·omega
  ·have:=le_sum_of_mem h; omega
def RpS (w : World) (r : Rw ByteArray) : Prop:=RowAt Value.string w r.1 r.2.2
def RoS (B : Nat) (w : World) (r : Rw ByteArray) : Prop:=w.ownsRow B 9 1 (.slice r.1 r.2.2.length r.2.1) r.2.2.length (r.2.2.map Value.string)
def rsS (r : Rw ByteArray) : List ByteArray:=r.2.2
def rtS (r : Rw ByteArray) : Nat:=r.2.2.length + (r.2.2.map ByteArray.size).sum
def RlS (r : Rw ByteArray) : Prop:=r.2.2.length ≤ maxLen ∧ ∀ x ∈ r.2.2,x.size ≤ maxLen
theorem RpS.later {w w' : World} {r : Rw ByteArray} (h : RpS w r) (hb : Below w.heap.size w w') : RpS w' r:=RowAt.later h hb
theorem RoS.later {B : Nat} {w w' : World} {r : Rw ByteArray} (h : RoS B w r) (hb : Below w.heap.size w w') : RoS B w' r:=own_later h hb
theorem RoS.le {B B' : Nat} {w : World} {r : Rw ByteArray} (h : RoS B w r) (hb : B' ≤ B) : RoS B' w r:=ownsRow_le h hb
theorem RoS.far {B g : Nat} {w w' : World} {r : Rw ByteArray} (h : RoS B w r) (hg : w.grownBy w' (some g)) (hn : g < B) : RoS B w' r:=own_far h hg hn
theorem RoS.dp {B : Nat} {w : World} {r : Rw ByteArray} (h : RoS B w r) : RpS w r:=row_own h
theorem rtS_len (r : Rw ByteArray) : r.2.2.length ≤ rtS r:=by unfold rtS; omega
/-- A struct stored into a row of the call's own. -/
theorem wpList_stO {P : Program} {ops : Array Oper} {rest : List Oper} {o : Oper} {a : Act} {w : World} {Q : Exit → Act → World → Prop} (ty : TypeId) (x y : Operand) (g off : Nat) (vs : List Value) (ie : TypeInfo) (hie : P.info? ty = some ie) (hs : vs.length = ie.size) (h1 : vs.all (·.oneCell') = true)
  (hc : ∀ j,j < vs.length → (∃ u,w.cell? ⟨g,off + j,none⟩ = some u) ∧ w.frozen? ⟨g,off + j,none⟩ = false)
  (hgd : o.guard = none) (ho : o.op = .store ty x y) (hx : a.eval x = .pointer (some ⟨g,off,none⟩)) (hy : a.eval y = .agg vs.toArray)
  (hn : wpList P ops Q rest (a.put o.dst undef) (w.setCells g off vs)) : wpList P ops Q (o :: rest) a w:=by
 have hst : (storeVar ty ⟨g,off,none⟩ (.agg vs.toArray)).run P w = .ok () (w.setCells g off vs):=by
  refine Go.Lib.rl_storeVar_cells ty ie hie g off vs hs (List.all_eq_true.1 h1) w ?_ ?_
  ·intro k hk
   obtain ⟨⟨u,hu⟩,_⟩:=hc k hk
   rw [hu]; rfl
  ·intro k hk
   exact (hc k hk).2
 refine wpList_plain hgd fun K hK => ?_
 unfold Oper.wp execOp
 simp only [ho,hx,hy,Instr.storeAt,Instr.sureAddr,Sem.run_bind,Sem.run_pure,Result.andThen_ok,hst]
 exact hK _ _ hn
abbrev TA:=Int × Int × Int
abbrev cA (p : TA) : List Value:=[I p.1,I p.2.1,I p.2.2]
abbrev vA (p : TA) : Value:=.agg #[I p.1,I p.2.1,I p.2.2]
theorem lA (p : TA) : (cA p).length = 3:=rfl
abbrev PA:=Int × Int × Int
abbrev TR:=Int × Int × Int
abbrev cR (p : TR) : List Value:=[I p.1,I p.2.1,I p.2.2]
abbrev PR:=Int × Int × Int
abbrev TP:=Int × Int
abbrev cP (p : TP) : List Value:=[I p.1,I p.2]
theorem lP (p : TP) : (cP p).length = 2:=rfl
abbrev PP:=Int × Int
abbrev TW:=Bool × Int × Int × Int
abbrev cW (p : TW) : List Value:=[.bool p.1,I p.2.1,I p.2.2.1,I p.2.2.2]
abbrev vW (p : TW) : Value:=.agg #[.bool p.1,I p.2.1,I p.2.2.1,I p.2.2.2]
theorem lW (p : TW) : (cW p).length = 4:=rfl
abbrev PW:=Bool × Int × Int × Int
abbrev TE:=Int × Int × Int × Int × Int × Int × Int × Int × Int × Int × Int
abbrev cE (p : TE) : List Value:=[I p.1,I p.2.1,I p.2.2.1,I p.2.2.2.1,I p.2.2.2.2.1,I p.2.2.2.2.2.1,I p.2.2.2.2.2.2.1,I p.2.2.2.2.2.2.2.1,I p.2.2.2.2.2.2.2.2.1,I p.2.2.2.2.2.2.2.2.2.1,I p.2.2.2.2.2.2.2.2.2.2]
abbrev vE (p : TE) : Value:=.agg #[I p.1,I p.2.1,I p.2.2.1,I p.2.2.2.1,I p.2.2.2.2.1,I p.2.2.2.2.2.1,I p.2.2.2.2.2.2.1,I p.2.2.2.2.2.2.2.1,I p.2.2.2.2.2.2.2.2.1,I p.2.2.2.2.2.2.2.2.2.1,I p.2.2.2.2.2.2.2.2.2.2]
theorem lE (p : TE) : (cE p).length = 11:=rfl
abbrev PE:=Int × Int × Int × Int × Int × Int × Int × Int × Int × Int × Int
abbrev TC:=Int × Int × Int × Int × Int × Int × Int × ByteArray
abbrev cC (p : TC) : List Value:=[I p.1,I p.2.1,I p.2.2.1,I p.2.2.2.1,I p.2.2.2.2.1,I p.2.2.2.2.2.1,I p.2.2.2.2.2.2.1,.string p.2.2.2.2.2.2.2]
abbrev vC (p : TC) : Value:=.agg #[I p.1,I p.2.1,I p.2.2.1,I p.2.2.2.1,I p.2.2.2.2.1,I p.2.2.2.2.2.1,I p.2.2.2.2.2.2.1,.string p.2.2.2.2.2.2.2]
theorem lC (p : TC) : (cC p).length = 8:=rfl
abbrev PC:=Int × Int × Int × Int × Int × Int × Int × ByteArray
def totC (p : TC) : Nat:=p.2.2.2.2.2.2.2.size
def LmC (p : TC) : Prop:=p.2.2.2.2.2.2.2.size ≤ maxLen
def RpA (w : World) (r : Rw TA) : Prop:=FRow 3 cA w r.1 r.2.2
def RoA (B : Nat) (w : World) (r : Rw TA) : Prop:=FOwn 78 3 cA B r.1 r.2.1 r.2.2 w
def rsA (r : Rw TA) : List PA:=r.2.2
def rtA (r : Rw TA) : Nat:=r.2.2.length
def RlA (r : Rw TA) : Prop:=r.2.2.length ≤ maxLen
theorem RpA.later {w w' : World} {r : Rw TA} (h : RpA w r) (hb : Below w.heap.size w w') : RpA w' r:=FRow.later h hb
theorem RoA.later {B : Nat} {w w' : World} {r : Rw TA} (h : RoA B w r) (hb : Below w.heap.size w w') : RoA B w' r:=own_later h hb
theorem RoA.le {B B' : Nat} {w : World} {r : Rw TA} (h : RoA B w r) (hb : B' ≤ B) : RoA B' w r:=ownsRow_le h hb
theorem RoA.far {B : Nat} {w w' : World} {r : Rw TA} {g : Nat} (h : RoA B w r) (hg : w.grownBy w' (some g)) (hn : g < B) : RoA B w' r:=own_far h hg hn
theorem RoA.dp {B : Nat} {w : World} {r : Rw TA} (h : RoA B w r) : RpA w r:=FOwn.row lA h
theorem rtA_len (r : Rw TA) : r.2.2.length ≤ rtA r:=by unfold rtA; omega
def RpP (w : World) (r : Rw TP) : Prop:=FRow 2 cP w r.1 r.2.2
def RoP (B : Nat) (w : World) (r : Rw TP) : Prop:=FOwn 178 2 cP B r.1 r.2.1 r.2.2 w
def rsP (r : Rw TP) : List PP:=r.2.2
def rtP (r : Rw TP) : Nat:=r.2.2.length
def RlP (r : Rw TP) : Prop:=r.2.2.length ≤ maxLen
theorem RpP.later {w w' : World} {r : Rw TP} (h : RpP w r) (hb : Below w.heap.size w w') : RpP w' r:=FRow.later h hb
theorem RoP.later {B : Nat} {w w' : World} {r : Rw TP} (h : RoP B w r) (hb : Below w.heap.size w w') : RoP B w' r:=own_later h hb
theorem RoP.le {B B' : Nat} {w : World} {r : Rw TP} (h : RoP B w r) (hb : B' ≤ B) : RoP B' w r:=ownsRow_le h hb
theorem RoP.far {B : Nat} {w w' : World} {r : Rw TP} {g : Nat} (h : RoP B w r) (hg : w.grownBy w' (some g)) (hn : g < B) : RoP B w' r:=own_far h hg hn
theorem RoP.dp {B : Nat} {w : World} {r : Rw TP} (h : RoP B w r) : RpP w r:=FOwn.row lP h
theorem rtP_len (r : Rw TP) : r.2.2.length ≤ rtP r:=by unfold rtP; omega
theorem rsP_len {r q : Rw TP} (h : rsP r = rsP q) : r.2.2.length = q.2.2.length:=by have:=congrArg List.length h; simpa [rsP] using this
def RpW (w : World) (r : Rw TW) : Prop:=FRow 4 cW w r.1 r.2.2
def RoW (B : Nat) (w : World) (r : Rw TW) : Prop:=FOwn 67 4 cW B r.1 r.2.1 r.2.2 w
def rsW (r : Rw TW) : List PW:=r.2.2
def rtW (r : Rw TW) : Nat:=r.2.2.length
def RlW (r : Rw TW) : Prop:=r.2.2.length ≤ maxLen
theorem RpW.later {w w' : World} {r : Rw TW} (h : RpW w r) (hb : Below w.heap.size w w') : RpW w' r:=FRow.later h hb
theorem RoW.later {B : Nat} {w w' : World} {r : Rw TW} (h : RoW B w r) (hb : Below w.heap.size w w') : RoW B w' r:=own_later h hb
theorem RoW.le {B B' : Nat} {w : World} {r : Rw TW} (h : RoW B w r) (hb : B' ≤ B) : RoW B' w r:=ownsRow_le h hb
theorem RoW.far {B : Nat} {w w' : World} {r : Rw TW} {g : Nat} (h : RoW B w r) (hg : w.grownBy w' (some g)) (hn : g < B) : RoW B w' r:=own_far h hg hn
theorem RoW.dp {B : Nat} {w : World} {r : Rw TW} (h : RoW B w r) : RpW w r:=FOwn.row lW h
theorem rtW_len (r : Rw TW) : r.2.2.length ≤ rtW r:=by unfold rtW; omega
theorem rsW_len {r q : Rw TW} (h : rsW r = rsW q) : r.2.2.length = q.2.2.length:=by have:=congrArg List.length h; simpa [rsW] using this
def RpE (w : World) (r : Rw TE) : Prop:=FRow 11 cE w r.1 r.2.2
def RoE (B : Nat) (w : World) (r : Rw TE) : Prop:=FOwn 106 11 cE B r.1 r.2.1 r.2.2 w
def rsE (r : Rw TE) : List PE:=r.2.2
def rtE (r : Rw TE) : Nat:=r.2.2.length
def RlE (r : Rw TE) : Prop:=r.2.2.length ≤ maxLen
theorem RpE.later {w w' : World} {r : Rw TE} (h : RpE w r) (hb : Below w.heap.size w w') : RpE w' r:=FRow.later h hb
theorem RoE.later {B : Nat} {w w' : World} {r : Rw TE} (h : RoE B w r) (hb : Below w.heap.size w w') : RoE B w' r:=own_later h hb
theorem RoE.le {B B' : Nat} {w : World} {r : Rw TE} (h : RoE B w r) (hb : B' ≤ B) : RoE B' w r:=ownsRow_le h hb
theorem RoE.far {B : Nat} {w w' : World} {r : Rw TE} {g : Nat} (h : RoE B w r) (hg : w.grownBy w' (some g)) (hn : g < B) : RoE B w' r:=own_far h hg hn
theorem RoE.dp {B : Nat} {w : World} {r : Rw TE} (h : RoE B w r) : RpE w r:=FOwn.row lE h
theorem rtE_len (r : Rw TE) : r.2.2.length ≤ rtE r:=by unfold rtE; omega
theorem rsE_len {r q : Rw TE} (h : rsE r = rsE q) : r.2.2.length = q.2.2.length:=by have:=congrArg List.length h; simpa [rsE] using this
def RpC (w : World) (r : Rw TC) : Prop:=FRow 8 cC w r.1 r.2.2
def RoC (B : Nat) (w : World) (r : Rw TC) : Prop:=FOwn 72 8 cC B r.1 r.2.1 r.2.2 w
def rsC (r : Rw TC) : List PC:=r.2.2
def rtC (r : Rw TC) : Nat:=r.2.2.length + (r.2.2.map totC).sum
def RlC (r : Rw TC) : Prop:=r.2.2.length ≤ maxLen ∧ ∀ x ∈ r.2.2,LmC x
theorem RpC.later {w w' : World} {r : Rw TC} (h : RpC w r) (hb : Below w.heap.size w w') : RpC w' r:=FRow.later h hb
theorem RoC.later {B : Nat} {w w' : World} {r : Rw TC} (h : RoC B w r) (hb : Below w.heap.size w w') : RoC B w' r:=own_later h hb
theorem RoC.le {B B' : Nat} {w : World} {r : Rw TC} (h : RoC B w r) (hb : B' ≤ B) : RoC B' w r:=ownsRow_le h hb
theorem RoC.far {B : Nat} {w w' : World} {r : Rw TC} {g : Nat} (h : RoC B w r) (hg : w.grownBy w' (some g)) (hn : g < B) : RoC B w' r:=own_far h hg hn
theorem RoC.dp {B : Nat} {w : World} {r : Rw TC} (h : RoC B w r) : RpC w r:=FOwn.row lC h
theorem rtC_len (r : Rw TC) : r.2.2.length ≤ rtC r:=by unfold rtC; omega
abbrev TK:=Int × Rw TA
abbrev cK (p : TK) : List Value:=[I p.1,.slice p.2.1 p.2.2.2.length p.2.2.1]
abbrev vK (p : TK) : Value:=.agg #[I p.1,.slice p.2.1 p.2.2.2.length p.2.2.1]
theorem lK (p : TK) : (cK p).length = 2:=rfl
abbrev PK:=Int × List PA
def stK (p : TK) : PK:=(p.1,rsA p.2)
def DpK (w : World) (p : TK) : Prop:=RpA w p.2
def OwK (B : Nat) (w : World) (p : TK) : Prop:=RoA B w p.2
theorem DpK.later {w w' : World} {p : TK} (h : DpK w p) (hb : Below w.heap.size w w') : DpK w' p:=RpA.later h hb
theorem OwK.later {B : Nat} {w w' : World} {p : TK} (h : OwK B w p) (hb : Below w.heap.size w w') : OwK B w' p:=RoA.later h hb
theorem OwK.le {B B' : Nat} {w : World} {p : TK} (h : OwK B w p) (hb : B' ≤ B) : OwK B' w p:=RoA.le h hb
theorem OwK.far {B : Nat} {w w' : World} {p : TK} {g : Nat} (h : OwK B w p) (hg : w.grownBy w' (some g)) (hn : g < B) : OwK B w' p:=RoA.far h hg hn
theorem OwK.dp {B : Nat} {w : World} {p : TK} (h : OwK B w p) : DpK w p:=RoA.dp h
def totK (p : TK) : Nat:=rtA p.2
def LmK (p : TK) : Prop:=RlA p.2
def RpK (w : World) (r : Rw TK) : Prop:=FRow 2 cK w r.1 r.2.2 ∧ ∀ x ∈ r.2.2,DpK w x
def RoK (B : Nat) (w : World) (r : Rw TK) : Prop:=FOwn 76 2 cK B r.1 r.2.1 r.2.2 w ∧ ∀ x ∈ r.2.2,OwK B w x
def rsK (r : Rw TK) : List PK:=r.2.2.map stK
def rtK (r : Rw TK) : Nat:=r.2.2.length + (r.2.2.map totK).sum
def RlK (r : Rw TK) : Prop:=r.2.2.length ≤ maxLen ∧ ∀ x ∈ r.2.2,LmK x
theorem RpK.later {w w' : World} {r : Rw TK} (h : RpK w r) (hb : Below w.heap.size w w') : RpK w' r:=⟨FRow.later h.1 hb,fun x hx => (h.2 x hx).later hb⟩
theorem RoK.later {B : Nat} {w w' : World} {r : Rw TK} (h : RoK B w r) (hb : Below w.heap.size w w') : RoK B w' r:=⟨own_later h.1 hb,fun x hx => (h.2 x hx).later hb⟩
theorem RoK.le {B B' : Nat} {w : World} {r : Rw TK} (h : RoK B w r) (hb : B' ≤ B) : RoK B' w r:=⟨ownsRow_le h.1 hb,fun x hx => (h.2 x hx).le hb⟩
theorem RoK.far {B : Nat} {w w' : World} {r : Rw TK} {g : Nat} (h : RoK B w r) (hg : w.grownBy w' (some g)) (hn : g < B) : RoK B w' r:=⟨own_far h.1 hg hn,fun x hx => (h.2 x hx).far hg hn⟩
theorem RoK.dp {B : Nat} {w : World} {r : Rw TK} (h : RoK B w r) : RpK w r:=⟨FOwn.row lK h.1,fun x hx => (h.2 x hx).dp⟩
theorem rtK_len (r : Rw TK) : r.2.2.length ≤ rtK r:=by unfold rtK; omega
theorem rsK_len {r q : Rw TK} (h : rsK r = rsK q) : r.2.2.length = q.2.2.length:=by have:=congrArg List.length h; simpa [rsK] using this
abbrev TQ:=Int × Int × Int × Int × Int × TA × TR × Rw Int × Rw Int × Int × ByteArray
abbrev cQ (p : TQ) : List Value:=[I p.1,I p.2.1,I p.2.2.1,I p.2.2.2.1,I p.2.2.2.2.1,I p.2.2.2.2.2.1.1,I p.2.2.2.2.2.1.2.1,I p.2.2.2.2.2.1.2.2,I p.2.2.2.2.2.2.1.1,I p.2.2.2.2.2.2.1.2.1,I p.2.2.2.2.2.2.1.2.2,.slice p.2.2.2.2.2.2.2.1.1 p.2.2.2.2.2.2.2.1.2.2.length p.2.2.2.2.2.2.2.1.2.1,.slice p.2.2.2.2.2.2.2.2.1.1 p.2.2.2.2.2.2.2.2.1.2.2.length p.2.2.2.2.2.2.2.2.1.2.1,I p.2.2.2.2.2.2.2.2.2.1,.string p.2.2.2.2.2.2.2.2.2.2]
abbrev vQ (p : TQ) : Value:=.agg #[I p.1,I p.2.1,I p.2.2.1,I p.2.2.2.1,I p.2.2.2.2.1,I p.2.2.2.2.2.1.1,I p.2.2.2.2.2.1.2.1,I p.2.2.2.2.2.1.2.2,I p.2.2.2.2.2.2.1.1,I p.2.2.2.2.2.2.1.2.1,I p.2.2.2.2.2.2.1.2.2,.slice p.2.2.2.2.2.2.2.1.1 p.2.2.2.2.2.2.2.1.2.2.length p.2.2.2.2.2.2.2.1.2.1,.slice p.2.2.2.2.2.2.2.2.1.1 p.2.2.2.2.2.2.2.2.1.2.2.length p.2.2.2.2.2.2.2.2.1.2.1,I p.2.2.2.2.2.2.2.2.2.1,.string p.2.2.2.2.2.2.2.2.2.2]
theorem lQ (p : TQ) : (cQ p).length = 15:=rfl
abbrev PQ:=Int × Int × Int × Int × Int × PA × PR × List Int × List Int × Int × ByteArray
def stQ (p : TQ) : PQ:=(p.1,p.2.1,p.2.2.1,p.2.2.2.1,p.2.2.2.2.1,p.2.2.2.2.2.1,p.2.2.2.2.2.2.1,rsI p.2.2.2.2.2.2.2.1,rsI p.2.2.2.2.2.2.2.2.1,p.2.2.2.2.2.2.2.2.2.1,p.2.2.2.2.2.2.2.2.2.2)
def DpQ (w : World) (p : TQ) : Prop:=RpI w p.2.2.2.2.2.2.2.1 ∧ RpI w p.2.2.2.2.2.2.2.2.1
def OwQ (B : Nat) (w : World) (p : TQ) : Prop:=RoI B w p.2.2.2.2.2.2.2.1 ∧ RoI B w p.2.2.2.2.2.2.2.2.1
theorem DpQ.later {w w' : World} {p : TQ} (h : DpQ w p) (hb : Below w.heap.size w w') : DpQ w' p:=⟨RpI.later h.1 hb,RpI.later h.2 hb⟩
theorem OwQ.later {B : Nat} {w w' : World} {p : TQ} (h : OwQ B w p) (hb : Below w.heap.size w w') : OwQ B w' p:=⟨RoI.later h.1 hb,RoI.later h.2 hb⟩
theorem OwQ.le {B B' : Nat} {w : World} {p : TQ} (h : OwQ B w p) (hb : B' ≤ B) : OwQ B' w p:=⟨RoI.le h.1 hb,RoI.le h.2 hb⟩
theorem OwQ.far {B : Nat} {w w' : World} {p : TQ} {g : Nat} (h : OwQ B w p) (hg : w.grownBy w' (some g)) (hn : g < B) : OwQ B w' p:=⟨RoI.far h.1 hg hn,RoI.far h.2 hg hn⟩
theorem OwQ.dp {B : Nat} {w : World} {p : TQ} (h : OwQ B w p) : DpQ w p:=⟨RoI.dp h.1,RoI.dp h.2⟩
def totQ (p : TQ) : Nat:=rtI p.2.2.2.2.2.2.2.1 + rtI p.2.2.2.2.2.2.2.2.1 + p.2.2.2.2.2.2.2.2.2.2.size
def LmQ (p : TQ) : Prop:=RlI p.2.2.2.2.2.2.2.1 ∧ RlI p.2.2.2.2.2.2.2.2.1 ∧ p.2.2.2.2.2.2.2.2.2.2.size ≤ maxLen
def RpQ (w : World) (r : Rw TQ) : Prop:=FRow 15 cQ w r.1 r.2.2 ∧ ∀ x ∈ r.2.2,DpQ w x
def RoQ (B : Nat) (w : World) (r : Rw TQ) : Prop:=FOwn 80 15 cQ B r.1 r.2.1 r.2.2 w ∧ ∀ x ∈ r.2.2,OwQ B w x
def rsQ (r : Rw TQ) : List PQ:=r.2.2.map stQ
def rtQ (r : Rw TQ) : Nat:=r.2.2.length + (r.2.2.map totQ).sum
def RlQ (r : Rw TQ) : Prop:=r.2.2.length ≤ maxLen ∧ ∀ x ∈ r.2.2,LmQ x
theorem RpQ.later {w w' : World} {r : Rw TQ} (h : RpQ w r) (hb : Below w.heap.size w w') : RpQ w' r:=⟨FRow.later h.1 hb,fun x hx => (h.2 x hx).later hb⟩
theorem RoQ.later {B : Nat} {w w' : World} {r : Rw TQ} (h : RoQ B w r) (hb : Below w.heap.size w w') : RoQ B w' r:=⟨own_later h.1 hb,fun x hx => (h.2 x hx).later hb⟩
theorem RoQ.le {B B' : Nat} {w : World} {r : Rw TQ} (h : RoQ B w r) (hb : B' ≤ B) : RoQ B' w r:=⟨ownsRow_le h.1 hb,fun x hx => (h.2 x hx).le hb⟩
theorem RoQ.far {B : Nat} {w w' : World} {r : Rw TQ} {g : Nat} (h : RoQ B w r) (hg : w.grownBy w' (some g)) (hn : g < B) : RoQ B w' r:=⟨own_far h.1 hg hn,fun x hx => (h.2 x hx).far hg hn⟩
theorem RoQ.dp {B : Nat} {w : World} {r : Rw TQ} (h : RoQ B w r) : RpQ w r:=⟨FOwn.row lQ h.1,fun x hx => (h.2 x hx).dp⟩
theorem rtQ_len (r : Rw TQ) : r.2.2.length ≤ rtQ r:=by unfold rtQ; omega
theorem rsQ_len {r q : Rw TQ} (h : rsQ r = rsQ q) : r.2.2.length = q.2.2.length:=by have:=congrArg List.length h; simpa [rsQ] using this
abbrev TF:=Rw Int × Rw Int × Rw TP × Rw TP × Int
abbrev cF (p : TF) : List Value:=[.slice p.1.1 p.1.2.2.length p.1.2.1,.slice p.2.1.1 p.2.1.2.2.length p.2.1.2.1,.slice p.2.2.1.1 p.2.2.1.2.2.length p.2.2.1.2.1,.slice p.2.2.2.1.1 p.2.2.2.1.2.2.length p.2.2.2.1.2.1,I p.2.2.2.2]
abbrev vF (p : TF) : Value:=.agg #[.slice p.1.1 p.1.2.2.length p.1.2.1,.slice p.2.1.1 p.2.1.2.2.length p.2.1.2.1,.slice p.2.2.1.1 p.2.2.1.2.2.length p.2.2.1.2.1,.slice p.2.2.2.1.1 p.2.2.2.1.2.2.length p.2.2.2.1.2.1,I p.2.2.2.2]
abbrev PF:=List Int × List Int × List PP × List PP × Int
def stF (p : TF) : PF:=(rsI p.1,rsI p.2.1,rsP p.2.2.1,rsP p.2.2.2.1,p.2.2.2.2)
def DpF (w : World) (p : TF) : Prop:=RpI w p.1 ∧ RpI w p.2.1 ∧ RpP w p.2.2.1 ∧ RpP w p.2.2.2.1
def OwF (B : Nat) (w : World) (p : TF) : Prop:=RoI B w p.1 ∧ RoI B w p.2.1 ∧ RoP B w p.2.2.1 ∧ RoP B w p.2.2.2.1
theorem DpF.later {w w' : World} {p : TF} (h : DpF w p) (hb : Below w.heap.size w w') : DpF w' p:=⟨RpI.later h.1 hb,RpI.later h.2.1 hb,RpP.later h.2.2.1 hb,RpP.later h.2.2.2 hb⟩
theorem OwF.later {B : Nat} {w w' : World} {p : TF} (h : OwF B w p) (hb : Below w.heap.size w w') : OwF B w' p:=⟨RoI.later h.1 hb,RoI.later h.2.1 hb,RoP.later h.2.2.1 hb,RoP.later h.2.2.2 hb⟩
theorem OwF.le {B B' : Nat} {w : World} {p : TF} (h : OwF B w p) (hb : B' ≤ B) : OwF B' w p:=⟨RoI.le h.1 hb,RoI.le h.2.1 hb,RoP.le h.2.2.1 hb,RoP.le h.2.2.2 hb⟩
theorem OwF.far {B : Nat} {w w' : World} {p : TF} {g : Nat} (h : OwF B w p) (hg : w.grownBy w' (some g)) (hn : g < B) : OwF B w' p:=⟨RoI.far h.1 hg hn,RoI.far h.2.1 hg hn,RoP.far h.2.2.1 hg hn,RoP.far h.2.2.2 hg hn⟩
theorem OwF.dp {B : Nat} {w : World} {p : TF} (h : OwF B w p) : DpF w p:=⟨RoI.dp h.1,RoI.dp h.2.1,RoP.dp h.2.2.1,RoP.dp h.2.2.2⟩
def totF (p : TF) : Nat:=rtI p.1 + rtI p.2.1 + rtP p.2.2.1 + rtP p.2.2.2.1
def LmF (p : TF) : Prop:=RlI p.1 ∧ RlI p.2.1 ∧ RlP p.2.2.1 ∧ RlP p.2.2.2.1
abbrev TN:=Rw ByteArray × Rw Int
abbrev cN (p : TN) : List Value:=[.slice p.1.1 p.1.2.2.length p.1.2.1,.slice p.2.1 p.2.2.2.length p.2.2.1]
abbrev vN (p : TN) : Value:=.agg #[.slice p.1.1 p.1.2.2.length p.1.2.1,.slice p.2.1 p.2.2.2.length p.2.2.1]
abbrev PN:=List ByteArray × List Int
def stN (p : TN) : PN:=(rsS p.1,rsI p.2)
def DpN (w : World) (p : TN) : Prop:=RpS w p.1 ∧ RpI w p.2
def OwN (B : Nat) (w : World) (p : TN) : Prop:=RoS B w p.1 ∧ RoI B w p.2
theorem DpN.later {w w' : World} {p : TN} (h : DpN w p) (hb : Below w.heap.size w w') : DpN w' p:=⟨RpS.later h.1 hb,RpI.later h.2 hb⟩
theorem OwN.later {B : Nat} {w w' : World} {p : TN} (h : OwN B w p) (hb : Below w.heap.size w w') : OwN B w' p:=⟨RoS.later h.1 hb,RoI.later h.2 hb⟩
theorem OwN.le {B B' : Nat} {w : World} {p : TN} (h : OwN B w p) (hb : B' ≤ B) : OwN B' w p:=⟨RoS.le h.1 hb,RoI.le h.2 hb⟩
theorem OwN.far {B : Nat} {w w' : World} {p : TN} {g : Nat} (h : OwN B w p) (hg : w.grownBy w' (some g)) (hn : g < B) : OwN B w' p:=⟨RoS.far h.1 hg hn,RoI.far h.2 hg hn⟩
theorem OwN.dp {B : Nat} {w : World} {p : TN} (h : OwN B w p) : DpN w p:=⟨RoS.dp h.1,RoI.dp h.2⟩
def totN (p : TN) : Nat:=rtS p.1 + rtI p.2
def LmN (p : TN) : Prop:=RlS p.1 ∧ RlI p.2
abbrev TD:=TF × Int × Int × Rw ByteArray × TN × Rw TW × Rw TC × Rw TK × Rw TE × Rw TQ × Rw Int
abbrev cD (p : TD) : List Value:=[.slice p.1.1.1 p.1.1.2.2.length p.1.1.2.1,.slice p.1.2.1.1 p.1.2.1.2.2.length p.1.2.1.2.1,.slice p.1.2.2.1.1 p.1.2.2.1.2.2.length p.1.2.2.1.2.1,.slice p.1.2.2.2.1.1 p.1.2.2.2.1.2.2.length p.1.2.2.2.1.2.1,I p.1.2.2.2.2,I p.2.1,I p.2.2.1,.slice p.2.2.2.1.1 p.2.2.2.1.2.2.length p.2.2.2.1.2.1,.slice p.2.2.2.2.1.1.1 p.2.2.2.2.1.1.2.2.length p.2.2.2.2.1.1.2.1,.slice p.2.2.2.2.1.2.1 p.2.2.2.2.1.2.2.2.length p.2.2.2.2.1.2.2.1,.slice p.2.2.2.2.2.1.1 p.2.2.2.2.2.1.2.2.length p.2.2.2.2.2.1.2.1,.slice p.2.2.2.2.2.2.1.1 p.2.2.2.2.2.2.1.2.2.length p.2.2.2.2.2.2.1.2.1,.slice p.2.2.2.2.2.2.2.1.1 p.2.2.2.2.2.2.2.1.2.2.length p.2.2.2.2.2.2.2.1.2.1,.slice p.2.2.2.2.2.2.2.2.1.1 p.2.2.2.2.2.2.2.2.1.2.2.length p.2.2.2.2.2.2.2.2.1.2.1,.slice p.2.2.2.2.2.2.2.2.2.1.1 p.2.2.2.2.2.2.2.2.2.1.2.2.length p.2.2.2.2.2.2.2.2.2.1.2.1,.slice p.2.2.2.2.2.2.2.2.2.2.1 p.2.2.2.2.2.2.2.2.2.2.2.2.length p.2.2.2.2.2.2.2.2.2.2.2.1]
abbrev vD (p : TD) : Value:=.agg #[.slice p.1.1.1 p.1.1.2.2.length p.1.1.2.1,.slice p.1.2.1.1 p.1.2.1.2.2.length p.1.2.1.2.1,.slice p.1.2.2.1.1 p.1.2.2.1.2.2.length p.1.2.2.1.2.1,.slice p.1.2.2.2.1.1 p.1.2.2.2.1.2.2.length p.1.2.2.2.1.2.1,I p.1.2.2.2.2,I p.2.1,I p.2.2.1,.slice p.2.2.2.1.1 p.2.2.2.1.2.2.length p.2.2.2.1.2.1,.slice p.2.2.2.2.1.1.1 p.2.2.2.2.1.1.2.2.length p.2.2.2.2.1.1.2.1,.slice p.2.2.2.2.1.2.1 p.2.2.2.2.1.2.2.2.length p.2.2.2.2.1.2.2.1,.slice p.2.2.2.2.2.1.1 p.2.2.2.2.2.1.2.2.length p.2.2.2.2.2.1.2.1,.slice p.2.2.2.2.2.2.1.1 p.2.2.2.2.2.2.1.2.2.length p.2.2.2.2.2.2.1.2.1,.slice p.2.2.2.2.2.2.2.1.1 p.2.2.2.2.2.2.2.1.2.2.length p.2.2.2.2.2.2.2.1.2.1,.slice p.2.2.2.2.2.2.2.2.1.1 p.2.2.2.2.2.2.2.2.1.2.2.length p.2.2.2.2.2.2.2.2.1.2.1,.slice p.2.2.2.2.2.2.2.2.2.1.1 p.2.2.2.2.2.2.2.2.2.1.2.2.length p.2.2.2.2.2.2.2.2.2.1.2.1,.slice p.2.2.2.2.2.2.2.2.2.2.1 p.2.2.2.2.2.2.2.2.2.2.2.2.length p.2.2.2.2.2.2.2.2.2.2.2.1]
abbrev PD:=PF × Int × Int × List ByteArray × PN × List PW × List PC × List PK × List PE × List PQ × List Int
def stD (p : TD) : PD:=(stF p.1,p.2.1,p.2.2.1,rsS p.2.2.2.1,stN p.2.2.2.2.1,rsW p.2.2.2.2.2.1,rsC p.2.2.2.2.2.2.1,rsK p.2.2.2.2.2.2.2.1,rsE p.2.2.2.2.2.2.2.2.1,rsQ p.2.2.2.2.2.2.2.2.2.1,rsI p.2.2.2.2.2.2.2.2.2.2)
def DpD (w : World) (p : TD) : Prop:=DpF w p.1 ∧ RpS w p.2.2.2.1 ∧ DpN w p.2.2.2.2.1 ∧ RpW w p.2.2.2.2.2.1 ∧ RpC w p.2.2.2.2.2.2.1 ∧ RpK w p.2.2.2.2.2.2.2.1 ∧ RpE w p.2.2.2.2.2.2.2.2.1 ∧ RpQ w p.2.2.2.2.2.2.2.2.2.1 ∧ RpI w p.2.2.2.2.2.2.2.2.2.2
def OwD (B : Nat) (w : World) (p : TD) : Prop:=OwF B w p.1 ∧ RoS B w p.2.2.2.1 ∧ OwN B w p.2.2.2.2.1 ∧ RoW B w p.2.2.2.2.2.1 ∧ RoC B w p.2.2.2.2.2.2.1 ∧ RoK B w p.2.2.2.2.2.2.2.1 ∧ RoE B w p.2.2.2.2.2.2.2.2.1 ∧ RoQ B w p.2.2.2.2.2.2.2.2.2.1 ∧ RoI B w p.2.2.2.2.2.2.2.2.2.2
theorem DpD.later {w w' : World} {p : TD} (h : DpD w p) (hb : Below w.heap.size w w') : DpD w' p:=⟨DpF.later h.1 hb,RpS.later h.2.1 hb,DpN.later h.2.2.1 hb,RpW.later h.2.2.2.1 hb,RpC.later h.2.2.2.2.1 hb,RpK.later h.2.2.2.2.2.1 hb,RpE.later h.2.2.2.2.2.2.1 hb,RpQ.later h.2.2.2.2.2.2.2.1 hb,RpI.later h.2.2.2.2.2.2.2.2 hb⟩
theorem OwD.later {B : Nat} {w w' : World} {p : TD} (h : OwD B w p) (hb : Below w.heap.size w w') : OwD B w' p:=⟨OwF.later h.1 hb,RoS.later h.2.1 hb,OwN.later h.2.2.1 hb,RoW.later h.2.2.2.1 hb,RoC.later h.2.2.2.2.1 hb,RoK.later h.2.2.2.2.2.1 hb,RoE.later h.2.2.2.2.2.2.1 hb,RoQ.later h.2.2.2.2.2.2.2.1 hb,RoI.later h.2.2.2.2.2.2.2.2 hb⟩
theorem OwD.le {B B' : Nat} {w : World} {p : TD} (h : OwD B w p) (hb : B' ≤ B) : OwD B' w p:=⟨OwF.le h.1 hb,RoS.le h.2.1 hb,OwN.le h.2.2.1 hb,RoW.le h.2.2.2.1 hb,RoC.le h.2.2.2.2.1 hb,RoK.le h.2.2.2.2.2.1 hb,RoE.le h.2.2.2.2.2.2.1 hb,RoQ.le h.2.2.2.2.2.2.2.1 hb,RoI.le h.2.2.2.2.2.2.2.2 hb⟩
theorem OwD.far {B : Nat} {w w' : World} {p : TD} {g : Nat} (h : OwD B w p) (hg : w.grownBy w' (some g)) (hn : g < B) : OwD B w' p:=⟨OwF.far h.1 hg hn,RoS.far h.2.1 hg hn,OwN.far h.2.2.1 hg hn,RoW.far h.2.2.2.1 hg hn,RoC.far h.2.2.2.2.1 hg hn,RoK.far h.2.2.2.2.2.1 hg hn,RoE.far h.2.2.2.2.2.2.1 hg hn,RoQ.far h.2.2.2.2.2.2.2.1 hg hn,RoI.far h.2.2.2.2.2.2.2.2 hg hn⟩
theorem OwD.dp {B : Nat} {w : World} {p : TD} (h : OwD B w p) : DpD w p:=⟨OwF.dp h.1,RoS.dp h.2.1,OwN.dp h.2.2.1,RoW.dp h.2.2.2.1,RoC.dp h.2.2.2.2.1,RoK.dp h.2.2.2.2.2.1,RoE.dp h.2.2.2.2.2.2.1,RoQ.dp h.2.2.2.2.2.2.2.1,RoI.dp h.2.2.2.2.2.2.2.2⟩
def totD (p : TD) : Nat:=totF p.1 + rtS p.2.2.2.1 + totN p.2.2.2.2.1 + rtW p.2.2.2.2.2.1 + rtC p.2.2.2.2.2.2.1 + rtK p.2.2.2.2.2.2.2.1 + rtE p.2.2.2.2.2.2.2.2.1 + rtQ p.2.2.2.2.2.2.2.2.2.1 + rtI p.2.2.2.2.2.2.2.2.2.2
def LmD (p : TD) : Prop:=LmF p.1 ∧ RlS p.2.2.2.1 ∧ LmN p.2.2.2.2.1 ∧ RlW p.2.2.2.2.2.1 ∧ RlC p.2.2.2.2.2.2.1 ∧ RlK p.2.2.2.2.2.2.2.1 ∧ RlE p.2.2.2.2.2.2.2.2.1 ∧ RlQ p.2.2.2.2.2.2.2.2.2.1 ∧ RlI p.2.2.2.2.2.2.2.2.2.2
end Go.Proofs.YtlmpfkbgknbcnaaGreat.Nd
