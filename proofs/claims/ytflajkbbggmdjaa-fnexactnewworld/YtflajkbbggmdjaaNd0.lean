/- Deep data: rows in structs. -/
import Derived.Test.YtflajkbbggmdjaaFl
import Derived.Test.YtflajkbbggmdjaaBigF
set_option linter.unusedVariables false
set_option maxRecDepth 100000
namespace Go.Proofs.Ytflajkbbggmdjaa.Nd
open Go Go.RowKit Go.Joins Own Draw

abbrev Rw (α : Type) := Option Addr × Nat × List α
def szV (t n : Nat) : Int := if t ≤ n then ((n - t : Nat) : Int) else -1
theorem own_far {w w' : World} {B e s n g : Nat} {v : Value} {xs : List Value} (h : w.ownsRow B e s v n xs) (hg : w.grownBy w' (some g)) (hn : g < B) : w'.ownsRow B e s v n xs := by
  refine World.ownsRow.kept h hg ?_
  cases hv : v.ownBlock with
  | none => exact Or.inl rfl
  | some k => right; intro e; have := (h.lt k hv).1; injection e with e; omega
theorem own_later {w w' : World} {base : Nat} {e : TypeId} {size : Nat} {v : Value} {n : Nat} {xs : List Value} (h : w.ownsRow base e size v n xs) (hb : Below w.heap.size w w') : w'.ownsRow base e size v n xs := by
  refine ⟨h.1, ?_⟩
  rcases h.2 with h0 | ⟨g, cap, cur, e1, e2, e3, e4⟩
  · exact Or.inl h0
  · exact Or.inr ⟨g, cap, cur, e1, e2, (hb.block g (by subst e1; exact (h.lt g rfl).2)).trans e3, e4⟩
theorem set_grown (W : World) (g i : Nat) (v : Value) : W.grownBy (W.setCell ⟨g, i, none⟩ v) (some g) := ⟨rfl, rfl, rfl, by simp, fun k _ hk => Below.heap_setCell W ⟨g, i, none⟩ v k (fun e => hk (by rw [e]))⟩
theorem sets_grown (g : Nat) : ∀ (vs : List Value) (i : Nat) (W : World), W.grownBy (W.setCells g i vs) (some g)
  | [], i, W => World.grownBy.refl _ _
  | v :: vs, i, W => grown_to (set_grown W g i v) (sets_grown g vs (i + 1) _)
theorem own_sets {B e s n g : Nat} {a : Value} : ∀ (vs : List Value) (i : Nat) (W : World) (L : List Value), a = .slice (some ⟨g, 0, none⟩) n n → W.ownsRow B e s a n L → (W.setCells g i vs).ownsRow B e s a n (sets L i vs)
  | [], i, W, L, ea, h => h
  | v :: vs, i, W, L, ea, h => by subst ea; exact own_sets vs (i + 1) _ _ rfl (h.stored i v).1
/-- Numbers and texts in rows. -/
def RpI (w : World) (r : Rw Int) : Prop := RowAt (Value.int .i64) w r.1 r.2.2
def RoI (B : Nat) (w : World) (r : Rw Int) : Prop := w.ownsRow B 3 1 (.slice r.1 r.2.2.length r.2.1) r.2.2.length (r.2.2.map (Value.int .i64))
def rsI (r : Rw Int) : List Int := r.2.2
def rtI (r : Rw Int) : Nat := r.2.2.length
def RlI (r : Rw Int) : Prop := r.2.2.length ≤ maxLen
theorem row_own {α : Type} {f : α → Value} {w : World} {B e c : Nat} {a : Option Addr} {ys : List α} (h : w.ownsRow B e 1 (.slice a ys.length c) ys.length (ys.map f)) : RowAt f w a ys := by
  rcases h.2 with ⟨e, h0⟩ | ⟨g, cap, cur, e, _⟩
  · intro j hj; omega
  · injection e with e1 _ e3
    subst e1 e3
    exact RowAt.own h
theorem RpI.later {w w' : World} {r : Rw Int} (h : RpI w r) (hb : Below w.heap.size w w') : RpI w' r := RowAt.later h hb
theorem RoI.later {B : Nat} {w w' : World} {r : Rw Int} (h : RoI B w r) (hb : Below w.heap.size w w') : RoI B w' r := own_later h hb
theorem RoI.le {B B' : Nat} {w : World} {r : Rw Int} (h : RoI B w r) (hb : B' ≤ B) : RoI B' w r := ownsRow_le h hb
theorem RoI.far {B g : Nat} {w w' : World} {r : Rw Int} (h : RoI B w r) (hg : w.grownBy w' (some g)) (hn : g < B) : RoI B w' r := own_far h hg hn
theorem RoI.dp {B : Nat} {w : World} {r : Rw Int} (h : RoI B w r) : RpI w r := row_own h
theorem rtI_len (r : Rw Int) : r.2.2.length ≤ rtI r := Nat.le_refl _
theorem rsI_len {r q : Rw Int} (h : rsI r = rsI q) : r.2.2.length = q.2.2.length := by have := congrArg List.length h; simpa [rsI] using this
theorem le_sum_of_mem {t : Nat} : ∀ {l : List Nat}, t ∈ l → t ≤ l.sum
  | [], h => by cases h
  | x :: l, h => by
    rw [List.sum_cons]
    rcases List.mem_cons.1 h with rfl | h
    · omega
    · have := le_sum_of_mem h; omega
/-- A struct stored into a row of the call's own. -/
theorem wpList_stO {P : Program} {ops : Array Oper} {rest : List Oper} {o : Oper} {a : Act} {w : World} {Q : Exit → Act → World → Prop} (ty : TypeId) (x y : Operand) (g off : Nat) (vs : List Value) (ie : TypeInfo) (hie : P.info? ty = some ie) (hs : vs.length = ie.size) (h1 : vs.all (·.oneCell') = true)
    (hc : ∀ j, j < vs.length → (∃ u, w.cell? ⟨g, off + j, none⟩ = some u) ∧ w.frozen? ⟨g, off + j, none⟩ = false)
    (hgd : o.guard = none) (ho : o.op = .store ty x y) (hx : a.eval x = .pointer (some ⟨g, off, none⟩)) (hy : a.eval y = .agg vs.toArray)
    (hn : wpList P ops Q rest (a.put o.dst undef) (w.setCells g off vs)) : wpList P ops Q (o :: rest) a w := by
  have hst : (storeVar ty ⟨g, off, none⟩ (.agg vs.toArray)).run P w = .ok () (w.setCells g off vs) := by
    refine Go.Lib.rl_storeVar_cells ty ie hie g off vs hs (List.all_eq_true.1 h1) w ?_ ?_
    · intro k hk
      obtain ⟨⟨u, hu⟩, _⟩ := hc k hk
      rw [hu]; rfl
    · intro k hk
      exact (hc k hk).2
  refine wpList_plain hgd fun K hK => ?_
  unfold Oper.wp execOp
  simp only [ho, hx, hy, Instr.storeAt, Instr.sureAddr, Sem.run_bind, Sem.run_pure, Result.andThen_ok, hst]
  exact hK _ _ hn
abbrev TP := Int × Int
abbrev cP (p : TP) : List Value := [.int .i64 p.1, .int .i64 p.2]
abbrev vP (p : TP) : Value := .agg #[.int .i64 p.1, .int .i64 p.2]
theorem lP (p : TP) : (cP p).length = 2 := rfl
theorem oneP (p : TP) : (cP p).all (·.oneCell') = true := rfl
abbrev PP := Int × Int
def RpP (w : World) (r : Rw TP) : Prop := FRow 2 cP w r.1 r.2.2
def RoP (B : Nat) (w : World) (r : Rw TP) : Prop := FOwn 100 2 cP B r.1 r.2.1 r.2.2 w
def rsP (r : Rw TP) : List PP := r.2.2
def rtP (r : Rw TP) : Nat := r.2.2.length
def RlP (r : Rw TP) : Prop := r.2.2.length ≤ maxLen
theorem RpP.later {w w' : World} {r : Rw TP} (h : RpP w r) (hb : Below w.heap.size w w') : RpP w' r := FRow.later h hb
theorem RoP.later {B : Nat} {w w' : World} {r : Rw TP} (h : RoP B w r) (hb : Below w.heap.size w w') : RoP B w' r := own_later h hb
theorem RoP.le {B B' : Nat} {w : World} {r : Rw TP} (h : RoP B w r) (hb : B' ≤ B) : RoP B' w r := ownsRow_le h hb
theorem RoP.far {B : Nat} {w w' : World} {r : Rw TP} {g : Nat} (h : RoP B w r) (hg : w.grownBy w' (some g)) (hn : g < B) : RoP B w' r := own_far h hg hn
theorem RoP.dp {B : Nat} {w : World} {r : Rw TP} (h : RoP B w r) : RpP w r := FOwn.row lP h
theorem rtP_len (r : Rw TP) : r.2.2.length ≤ rtP r := by unfold rtP; omega
theorem rsP_len {r q : Rw TP} (h : rsP r = rsP q) : r.2.2.length = q.2.2.length := by have := congrArg List.length h; simpa [rsP] using this
abbrev TF := Rw Int × Rw Int × Rw TP × Rw TP × Int
abbrev cF (p : TF) : List Value := [.slice p.1.1 p.1.2.2.length p.1.2.1, .slice p.2.1.1 p.2.1.2.2.length p.2.1.2.1, .slice p.2.2.1.1 p.2.2.1.2.2.length p.2.2.1.2.1, .slice p.2.2.2.1.1 p.2.2.2.1.2.2.length p.2.2.2.1.2.1, .int .i64 p.2.2.2.2]
abbrev vF (p : TF) : Value := .agg #[.slice p.1.1 p.1.2.2.length p.1.2.1, .slice p.2.1.1 p.2.1.2.2.length p.2.1.2.1, .slice p.2.2.1.1 p.2.2.1.2.2.length p.2.2.1.2.1, .slice p.2.2.2.1.1 p.2.2.2.1.2.2.length p.2.2.2.1.2.1, .int .i64 p.2.2.2.2]
theorem lF (p : TF) : (cF p).length = 5 := rfl
theorem oneF (p : TF) : (cF p).all (·.oneCell') = true := rfl
abbrev PF := List Int × List Int × List PP × List PP × Int
def stF (p : TF) : PF := (rsI p.1, rsI p.2.1, rsP p.2.2.1, rsP p.2.2.2.1, p.2.2.2.2)
def DpF (w : World) (p : TF) : Prop := RpI w p.1 ∧ RpI w p.2.1 ∧ RpP w p.2.2.1 ∧ RpP w p.2.2.2.1
def OwF (B : Nat) (w : World) (p : TF) : Prop := RoI B w p.1 ∧ RoI B w p.2.1 ∧ RoP B w p.2.2.1 ∧ RoP B w p.2.2.2.1
theorem DpF.later {w w' : World} {p : TF} (h : DpF w p) (hb : Below w.heap.size w w') : DpF w' p := ⟨RpI.later h.1 hb, RpI.later h.2.1 hb, RpP.later h.2.2.1 hb, RpP.later h.2.2.2 hb⟩
theorem OwF.later {B : Nat} {w w' : World} {p : TF} (h : OwF B w p) (hb : Below w.heap.size w w') : OwF B w' p := ⟨RoI.later h.1 hb, RoI.later h.2.1 hb, RoP.later h.2.2.1 hb, RoP.later h.2.2.2 hb⟩
theorem OwF.le {B B' : Nat} {w : World} {p : TF} (h : OwF B w p) (hb : B' ≤ B) : OwF B' w p := ⟨RoI.le h.1 hb, RoI.le h.2.1 hb, RoP.le h.2.2.1 hb, RoP.le h.2.2.2 hb⟩
theorem OwF.far {B : Nat} {w w' : World} {p : TF} {g : Nat} (h : OwF B w p) (hg : w.grownBy w' (some g)) (hn : g < B) : OwF B w' p := ⟨RoI.far h.1 hg hn, RoI.far h.2.1 hg hn, RoP.far h.2.2.1 hg hn, RoP.far h.2.2.2 hg hn⟩
theorem OwF.dp {B : Nat} {w : World} {p : TF} (h : OwF B w p) : DpF w p := ⟨RoI.dp h.1, RoI.dp h.2.1, RoP.dp h.2.2.1, RoP.dp h.2.2.2⟩
def totF (p : TF) : Nat := rtI p.1 + rtI p.2.1 + rtP p.2.2.1 + rtP p.2.2.2.1
def LmF (p : TF) : Prop := RlI p.1 ∧ RlI p.2.1 ∧ RlP p.2.2.1 ∧ RlP p.2.2.2.1
end Go.Proofs.Ytflajkbbggmdjaa.Nd
