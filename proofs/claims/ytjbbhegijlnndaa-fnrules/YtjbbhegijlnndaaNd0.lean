/- Deep data: rows in structs. -/
import Derived.Test.YtjbbhegijlnndaaFl
import Derived.Test.YtjbbhegijlnndaaBig
set_option linter.unusedVariables false
set_option maxRecDepth 100000
namespace Go.Proofs.Ytjbbhegijlnndaa.Nd
open Go Go.RowKit Go.Joins Own Draw

abbrev Rw (α : Type) := Option Addr × Nat × List α
def szV (t n : Nat) : Int := if t ≤ n then ((n - t : Nat) : Int) else -1
theorem own_far {w w' : World} {B e s n g : Nat} {v : Value} {xs : List Value} (h : w.ownsRow B e s v n xs) (hg : w.grownBy w' (some g)) (hn : g < B) : w'.ownsRow B e s v n xs := by
  refine World.ownsRow.kept h hg ?_
  cases hv : v.ownBlock with
  | none => exact Or.inl rfl
  | some k => right; intro e; have := (h.lt k hv).1; injection e with e; omega
theorem own_later {w w' : World} {base : Nat} {e : TypeId} {size : Nat} {v : Value} {n : Nat} {xs : List Value} (h : w.ownsRow base e size v n xs) (hb : Below w.heap.size w w') : w'.ownsRow base e size v n xs := by
  refine ⟨h.1, ?_⟩
  rcases h.2 with h0 | ⟨g, cap, cur, e1, e2, e3, e4⟩
  · exact Or.inl h0
  · exact Or.inr ⟨g, cap, cur, e1, e2, (hb.block g (by subst e1; exact (h.lt g rfl).2)).trans e3, e4⟩
theorem set_grown (W : World) (g i : Nat) (v : Value) : W.grownBy (W.setCell ⟨g, i, none⟩ v) (some g) := ⟨rfl, rfl, rfl, by simp, fun k _ hk => Below.heap_setCell W ⟨g, i, none⟩ v k (fun e => hk (by rw [e]))⟩
theorem sets_grown (g : Nat) : ∀ (vs : List Value) (i : Nat) (W : World), W.grownBy (W.setCells g i vs) (some g)
  | [], i, W => World.grownBy.refl _ _
  | v :: vs, i, W => grown_to (set_grown W g i v) (sets_grown g vs (i + 1) _)
theorem own_sets {B e s n g : Nat} {a : Value} : ∀ (vs : List Value) (i : Nat) (W : World) (L : List Value), a = .slice (some ⟨g, 0, none⟩) n n → W.ownsRow B e s a n L → (W.setCells g i vs).ownsRow B e s a n (sets L i vs)
  | [], i, W, L, ea, h => h
  | v :: vs, i, W, L, ea, h => by subst ea; exact own_sets vs (i + 1) _ _ rfl (h.stored i v).1
/-- Numbers and texts in rows. -/
def RpI (w : World) (r : Rw Int) : Prop := RowAt (Value.int .i64) w r.1 r.2.2
def RoI (B : Nat) (w : World) (r : Rw Int) : Prop := w.ownsRow B 3 1 (.slice r.1 r.2.2.length r.2.1) r.2.2.length (r.2.2.map (Value.int .i64))
def rsI (r : Rw Int) : List Int := r.2.2
def rtI (r : Rw Int) : Nat := r.2.2.length
def RlI (r : Rw Int) : Prop := r.2.2.length ≤ maxLen
theorem row_own {α : Type} {f : α → Value} {w : World} {B e c : Nat} {a : Option Addr} {ys : List α} (h : w.ownsRow B e 1 (.slice a ys.length c) ys.length (ys.map f)) : RowAt f w a ys := by
  rcases h.2 with ⟨e, h0⟩ | ⟨g, cap, cur, e, _⟩
  · intro j hj; omega
  · injection e with e1 _ e3
    subst e1 e3
    exact RowAt.own h
theorem RpI.later {w w' : World} {r : Rw Int} (h : RpI w r) (hb : Below w.heap.size w w') : RpI w' r := RowAt.later h hb
theorem RoI.later {B : Nat} {w w' : World} {r : Rw Int} (h : RoI B w r) (hb : Below w.heap.size w w') : RoI B w' r := own_later h hb
theorem RoI.le {B B' : Nat} {w : World} {r : Rw Int} (h : RoI B w r) (hb : B' ≤ B) : RoI B' w r := ownsRow_le h hb
theorem RoI.far {B g : Nat} {w w' : World} {r : Rw Int} (h : RoI B w r) (hg : w.grownBy w' (some g)) (hn : g < B) : RoI B w' r := own_far h hg hn
theorem RoI.dp {B : Nat} {w : World} {r : Rw Int} (h : RoI B w r) : RpI w r := row_own h
theorem rtI_len (r : Rw Int) : r.2.2.length ≤ rtI r := Nat.le_refl _
theorem rsI_len {r q : Rw Int} (h : rsI r = rsI q) : r.2.2.length = q.2.2.length := by have := congrArg List.length h; simpa [rsI] using this
theorem le_sum_of_mem {t : Nat} : ∀ {l : List Nat}, t ∈ l → t ≤ l.sum
  | [], h => by cases h
  | x :: l, h => by
    rw [List.sum_cons]
    rcases List.mem_cons.1 h with rfl | h
    · omega
    · have := le_sum_of_mem h; omega
/-- A struct stored into a row of the call's own. -/
theorem wpList_stO {P : Program} {ops : Array Oper} {rest : List Oper} {o : Oper} {a : Act} {w : World} {Q : Exit → Act → World → Prop} (ty : TypeId) (x y : Operand) (g off : Nat) (vs : List Value) (ie : TypeInfo) (hie : P.info? ty = some ie) (hs : vs.length = ie.size) (h1 : vs.all (·.oneCell') = true)
    (hc : ∀ j, j < vs.length → (∃ u, w.cell? ⟨g, off + j, none⟩ = some u) ∧ w.frozen? ⟨g, off + j, none⟩ = false)
    (hgd : o.guard = none) (ho : o.op = .store ty x y) (hx : a.eval x = .pointer (some ⟨g, off, none⟩)) (hy : a.eval y = .agg vs.toArray)
    (hn : wpList P ops Q rest (a.put o.dst undef) (w.setCells g off vs)) : wpList P ops Q (o :: rest) a w := by
  have hst : (storeVar ty ⟨g, off, none⟩ (.agg vs.toArray)).run P w = .ok () (w.setCells g off vs) := by
    refine Go.Lib.rl_storeVar_cells ty ie hie g off vs hs (List.all_eq_true.1 h1) w ?_ ?_
    · intro k hk
      obtain ⟨⟨u, hu⟩, _⟩ := hc k hk
      rw [hu]; rfl
    · intro k hk
      exact (hc k hk).2
  refine wpList_plain hgd fun K hK => ?_
  unfold Oper.wp execOp
  simp only [ho, hx, hy, Instr.storeAt, Instr.sureAddr, Sem.run_bind, Sem.run_pure, Result.andThen_ok, hst]
  exact hK _ _ hn
abbrev TT := Int × Rw Int × Int
abbrev cT (p : TT) : List Value := [.int .i64 p.1, .slice p.2.1.1 p.2.1.2.2.length p.2.1.2.1, .int .i64 p.2.2]
abbrev vT (p : TT) : Value := .agg #[.int .i64 p.1, .slice p.2.1.1 p.2.1.2.2.length p.2.1.2.1, .int .i64 p.2.2]
theorem lT (p : TT) : (cT p).length = 3 := rfl
theorem oneT (p : TT) : (cT p).all (·.oneCell') = true := rfl
abbrev PT := Int × List Int × Int
def stT (p : TT) : PT := (p.1, rsI p.2.1, p.2.2)
def DpT (w : World) (p : TT) : Prop := RpI w p.2.1
def OwT (B : Nat) (w : World) (p : TT) : Prop := RoI B w p.2.1
theorem DpT.later {w w' : World} {p : TT} (h : DpT w p) (hb : Below w.heap.size w w') : DpT w' p := RpI.later h hb
theorem OwT.later {B : Nat} {w w' : World} {p : TT} (h : OwT B w p) (hb : Below w.heap.size w w') : OwT B w' p := RoI.later h hb
theorem OwT.le {B B' : Nat} {w : World} {p : TT} (h : OwT B w p) (hb : B' ≤ B) : OwT B' w p := RoI.le h hb
theorem OwT.far {B : Nat} {w w' : World} {p : TT} {g : Nat} (h : OwT B w p) (hg : w.grownBy w' (some g)) (hn : g < B) : OwT B w' p := RoI.far h hg hn
theorem OwT.dp {B : Nat} {w : World} {p : TT} (h : OwT B w p) : DpT w p := RoI.dp h
def totT (p : TT) : Nat := rtI p.2.1
def LmT (p : TT) : Prop := RlI p.2.1
def RpT (w : World) (r : Rw TT) : Prop := FRow 3 cT w r.1 r.2.2 ∧ ∀ x ∈ r.2.2, DpT w x
def RoT (B : Nat) (w : World) (r : Rw TT) : Prop := FOwn 59 3 cT B r.1 r.2.1 r.2.2 w ∧ ∀ x ∈ r.2.2, OwT B w x
def rsT (r : Rw TT) : List PT := r.2.2.map stT
def rtT (r : Rw TT) : Nat := r.2.2.length + (r.2.2.map totT).sum
def RlT (r : Rw TT) : Prop := r.2.2.length ≤ maxLen ∧ ∀ x ∈ r.2.2, LmT x
theorem RpT.later {w w' : World} {r : Rw TT} (h : RpT w r) (hb : Below w.heap.size w w') : RpT w' r := ⟨FRow.later h.1 hb, fun x hx => (h.2 x hx).later hb⟩
theorem RoT.later {B : Nat} {w w' : World} {r : Rw TT} (h : RoT B w r) (hb : Below w.heap.size w w') : RoT B w' r := ⟨own_later h.1 hb, fun x hx => (h.2 x hx).later hb⟩
theorem RoT.le {B B' : Nat} {w : World} {r : Rw TT} (h : RoT B w r) (hb : B' ≤ B) : RoT B' w r := ⟨ownsRow_le h.1 hb, fun x hx => (h.2 x hx).le hb⟩
theorem RoT.far {B : Nat} {w w' : World} {r : Rw TT} {g : Nat} (h : RoT B w r) (hg : w.grownBy w' (some g)) (hn : g < B) : RoT B w' r := ⟨own_far h.1 hg hn, fun x hx => (h.2 x hx).far hg hn⟩
theorem RoT.dp {B : Nat} {w : World} {r : Rw TT} (h : RoT B w r) : RpT w r := ⟨FOwn.row lT h.1, fun x hx => (h.2 x hx).dp⟩
theorem rtT_len (r : Rw TT) : r.2.2.length ≤ rtT r := by unfold rtT; omega
theorem rsT_len {r q : Rw TT} (h : rsT r = rsT q) : r.2.2.length = q.2.2.length := by have := congrArg List.length h; simpa [rsT] using this
abbrev TA := Int × Int × Rw Int × Int × Int
abbrev cA (p : TA) : List Value := [.int .i64 p.1, .int .i64 p.2.1, .slice p.2.2.1.1 p.2.2.1.2.2.length p.2.2.1.2.1, .int .i64 p.2.2.2.1, .int .i64 p.2.2.2.2]
abbrev vA (p : TA) : Value := .agg #[.int .i64 p.1, .int .i64 p.2.1, .slice p.2.2.1.1 p.2.2.1.2.2.length p.2.2.1.2.1, .int .i64 p.2.2.2.1, .int .i64 p.2.2.2.2]
theorem lA (p : TA) : (cA p).length = 5 := rfl
theorem oneA (p : TA) : (cA p).all (·.oneCell') = true := rfl
abbrev PA := Int × Int × List Int × Int × Int
def stA (p : TA) : PA := (p.1, p.2.1, rsI p.2.2.1, p.2.2.2.1, p.2.2.2.2)
def DpA (w : World) (p : TA) : Prop := RpI w p.2.2.1
def OwA (B : Nat) (w : World) (p : TA) : Prop := RoI B w p.2.2.1
theorem DpA.later {w w' : World} {p : TA} (h : DpA w p) (hb : Below w.heap.size w w') : DpA w' p := RpI.later h hb
theorem OwA.later {B : Nat} {w w' : World} {p : TA} (h : OwA B w p) (hb : Below w.heap.size w w') : OwA B w' p := RoI.later h hb
theorem OwA.le {B B' : Nat} {w : World} {p : TA} (h : OwA B w p) (hb : B' ≤ B) : OwA B' w p := RoI.le h hb
theorem OwA.far {B : Nat} {w w' : World} {p : TA} {g : Nat} (h : OwA B w p) (hg : w.grownBy w' (some g)) (hn : g < B) : OwA B w' p := RoI.far h hg hn
theorem OwA.dp {B : Nat} {w : World} {p : TA} (h : OwA B w p) : DpA w p := RoI.dp h
def totA (p : TA) : Nat := rtI p.2.2.1
def LmA (p : TA) : Prop := RlI p.2.2.1
end Go.Proofs.Ytjbbhegijlnndaa.Nd
