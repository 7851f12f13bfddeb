/- Deep data: a row of texts in a struct. -/
import Derived.Test.YtbpodcfbijhboaaFl
import Derived.Test.YtbpodcfbijhboaaBig
set_option linter.unusedVariables false
set_option maxRecDepth 100000
namespace Go.Proofs.Ytbpodcfbijhboaa.Nd
open Go Go.RowKit Go.Joins Own Draw

abbrev Rw (α : Type) := Option Addr × Nat × List α
def szV (t n : Nat) : Int := if t ≤ n then ((n - t : Nat) : Int) else -1
theorem own_far {w w' : World} {B e s n g : Nat} {v : Value} {xs : List Value} (h : w.ownsRow B e s v n xs) (hg : w.grownBy w' (some g)) (hn : g < B) : w'.ownsRow B e s v n xs := by
  refine World.ownsRow.kept h hg ?_
  cases hv : v.ownBlock with
  | none => exact Or.inl rfl
  | some k => right; intro e; have := (h.lt k hv).1; injection e with e; omega
theorem own_later {w w' : World} {base : Nat} {e : TypeId} {size : Nat} {v : Value} {n : Nat} {xs : List Value} (h : w.ownsRow base e size v n xs) (hb : Below w.heap.size w w') : w'.ownsRow base e size v n xs := by
  refine ⟨h.1, ?_⟩
  rcases h.2 with h0 | ⟨g, cap, cur, e1, e2, e3, e4⟩
  · exact Or.inl h0
  · exact Or.inr ⟨g, cap, cur, e1, e2, (hb.block g (by subst e1; exact (h.lt g rfl).2)).trans e3, e4⟩
theorem set_grown (W : World) (g i : Nat) (v : Value) : W.grownBy (W.setCell ⟨g, i, none⟩ v) (some g) := ⟨rfl, rfl, rfl, by simp, fun k _ hk => Below.heap_setCell W ⟨g, i, none⟩ v k (fun e => hk (by rw [e]))⟩
theorem sets_grown (g : Nat) : ∀ (vs : List Value) (i : Nat) (W : World), W.grownBy (W.setCells g i vs) (some g)
  | [], i, W => World.grownBy.refl _ _
  | v :: vs, i, W => grown_to (set_grown W g i v) (sets_grown g vs (i + 1) _)
theorem own_sets {B e s n g : Nat} {a : Value} : ∀ (vs : List Value) (i : Nat) (W : World) (L : List Value), a = .slice (some ⟨g, 0, none⟩) n n → W.ownsRow B e s a n L → (W.setCells g i vs).ownsRow B e s a n (sets L i vs)
  | [], i, W, L, ea, h => h
  | v :: vs, i, W, L, ea, h => by subst ea; exact own_sets vs (i + 1) _ _ rfl (h.stored i v).1
/-- Numbers and texts in rows. -/
def RpI (w : World) (r : Rw Int) : Prop := RowAt (Value.int .i64) w r.1 r.2.2
def RoI (B : Nat) (w : World) (r : Rw Int) : Prop := w.ownsRow B 3 1 (.slice r.1 r.2.2.length r.2.1) r.2.2.length (r.2.2.map (Value.int .i64))
def rsI (r : Rw Int) : List Int := r.2.2
def rtI (r : Rw Int) : Nat := r.2.2.length
def RlI (r : Rw Int) : Prop := r.2.2.length ≤ maxLen
theorem row_own {α : Type} {f : α → Value} {w : World} {B e c : Nat} {a : Option Addr} {ys : List α} (h : w.ownsRow B e 1 (.slice a ys.length c) ys.length (ys.map f)) : RowAt f w a ys := by
  rcases h.2 with ⟨e, h0⟩ | ⟨g, cap, cur, e, _⟩
  · intro j hj; omega
  · injection e with e1 _ e3
    subst e1 e3
    exact RowAt.own h
theorem RpI.later {w w' : World} {r : Rw Int} (h : RpI w r) (hb : Below w.heap.size w w') : RpI w' r := RowAt.later h hb
theorem RoI.later {B : Nat} {w w' : World} {r : Rw Int} (h : RoI B w r) (hb : Below w.heap.size w w') : RoI B w' r := own_later h hb
theorem RoI.le {B B' : Nat} {w : World} {r : Rw Int} (h : RoI B w r) (hb : B' ≤ B) : RoI B' w r := ownsRow_le h hb
theorem RoI.far {B g : Nat} {w w' : World} {r : Rw Int} (h : RoI B w r) (hg : w.grownBy w' (some g)) (hn : g < B) : RoI B w' r := own_far h hg hn
theorem RoI.dp {B : Nat} {w : World} {r : Rw Int} (h : RoI B w r) : RpI w r := row_own h
theorem rtI_len (r : Rw Int) : r.2.2.length ≤ rtI r := Nat.le_refl _
theorem rsI_len {r q : Rw Int} (h : rsI r = rsI q) : r.2.2.length = q.2.2.length := by have := congrArg List.length h; simpa [rsI] using this
theorem le_sum_of_mem {t : Nat} : ∀ {l : List Nat}, t ∈ l → t ≤ l.sum
  | [], h => by cases h
  | x :: l, h => by
    rw [List.sum_cons]
    rcases List.mem_cons.1 h with rfl | h
    · omega
    · have := le_sum_of_mem h; omega
def RpS (w : World) (r : Rw ByteArray) : Prop := RowAt Value.string w r.1 r.2.2
def RoS (B : Nat) (w : World) (r : Rw ByteArray) : Prop := w.ownsRow B 9 1 (.slice r.1 r.2.2.length r.2.1) r.2.2.length (r.2.2.map Value.string)
def rsS (r : Rw ByteArray) : List ByteArray := r.2.2
def rtS (r : Rw ByteArray) : Nat := r.2.2.length + (r.2.2.map ByteArray.size).sum
def RlS (r : Rw ByteArray) : Prop := r.2.2.length ≤ maxLen ∧ ∀ x ∈ r.2.2, x.size ≤ maxLen
theorem RpS.later {w w' : World} {r : Rw ByteArray} (h : RpS w r) (hb : Below w.heap.size w w') : RpS w' r := RowAt.later h hb
theorem RoS.later {B : Nat} {w w' : World} {r : Rw ByteArray} (h : RoS B w r) (hb : Below w.heap.size w w') : RoS B w' r := own_later h hb
theorem RoS.le {B B' : Nat} {w : World} {r : Rw ByteArray} (h : RoS B w r) (hb : B' ≤ B) : RoS B' w r := ownsRow_le h hb
theorem RoS.far {B g : Nat} {w w' : World} {r : Rw ByteArray} (h : RoS B w r) (hg : w.grownBy w' (some g)) (hn : g < B) : RoS B w' r := own_far h hg hn
theorem RoS.dp {B : Nat} {w : World} {r : Rw ByteArray} (h : RoS B w r) : RpS w r := row_own h
theorem rtS_len (r : Rw ByteArray) : r.2.2.length ≤ rtS r := by unfold rtS; omega
theorem rsS_len {r q : Rw ByteArray} (h : rsS r = rsS q) : r.2.2.length = q.2.2.length := by have := congrArg List.length h; simpa [rsS] using this
/-- A struct stored into a row of the call's own. -/
theorem wpList_stO {P : Program} {ops : Array Oper} {rest : List Oper} {o : Oper} {a : Act} {w : World} {Q : Exit → Act → World → Prop} (ty : TypeId) (x y : Operand) (g off : Nat) (vs : List Value) (ie : TypeInfo) (hie : P.info? ty = some ie) (hs : vs.length = ie.size) (h1 : vs.all (·.oneCell') = true)
    (hc : ∀ j, j < vs.length → (∃ u, w.cell? ⟨g, off + j, none⟩ = some u) ∧ w.frozen? ⟨g, off + j, none⟩ = false)
    (hgd : o.guard = none) (ho : o.op = .store ty x y) (hx : a.eval x = .pointer (some ⟨g, off, none⟩)) (hy : a.eval y = .agg vs.toArray)
    (hn : wpList P ops Q rest (a.put o.dst undef) (w.setCells g off vs)) : wpList P ops Q (o :: rest) a w := by
  have hst : (storeVar ty ⟨g, off, none⟩ (.agg vs.toArray)).run P w = .ok () (w.setCells g off vs) := by
    refine Go.Lib.rl_storeVar_cells ty ie hie g off vs hs (List.all_eq_true.1 h1) w ?_ ?_
    · intro k hk
      obtain ⟨⟨u, hu⟩, _⟩ := hc k hk
      rw [hu]; rfl
    · intro k hk
      exact (hc k hk).2
  refine wpList_plain hgd fun K hK => ?_
  unfold Oper.wp execOp
  simp only [ho, hx, hy, Instr.storeAt, Instr.sureAddr, Sem.run_bind, Sem.run_pure, Result.andThen_ok, hst]
  exact hK _ _ hn
abbrev TT := Rw ByteArray × ByteArray
abbrev cT (p : TT) : List Value := [.slice p.1.1 p.1.2.2.length p.1.2.1, .string p.2]
abbrev vT (p : TT) : Value := .agg #[.slice p.1.1 p.1.2.2.length p.1.2.1, .string p.2]
theorem lT (p : TT) : (cT p).length = 2 := rfl
theorem oneT (p : TT) : (cT p).all (·.oneCell') = true := rfl
abbrev PT := List ByteArray × ByteArray
def stT (p : TT) : PT := (rsS p.1, p.2)
def DpT (w : World) (p : TT) : Prop := RpS w p.1
def OwT (B : Nat) (w : World) (p : TT) : Prop := RoS B w p.1
theorem DpT.later {w w' : World} {p : TT} (h : DpT w p) (hb : Below w.heap.size w w') : DpT w' p := RpS.later h hb
theorem OwT.later {B : Nat} {w w' : World} {p : TT} (h : OwT B w p) (hb : Below w.heap.size w w') : OwT B w' p := RoS.later h hb
theorem OwT.le {B B' : Nat} {w : World} {p : TT} (h : OwT B w p) (hb : B' ≤ B) : OwT B' w p := RoS.le h hb
theorem OwT.far {B : Nat} {w w' : World} {p : TT} {g : Nat} (h : OwT B w p) (hg : w.grownBy w' (some g)) (hn : g < B) : OwT B w' p := RoS.far h hg hn
theorem OwT.dp {B : Nat} {w : World} {p : TT} (h : OwT B w p) : DpT w p := RoS.dp h
def totT (p : TT) : Nat := rtS p.1 + p.2.size
def LmT (p : TT) : Prop := RlS p.1 ∧ p.2.size ≤ maxLen
end Go.Proofs.Ytbpodcfbijhboaa.Nd
