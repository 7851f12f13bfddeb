/- Regions that draw their order; rows that are drawn besides. -/
import Derived.Test.YtkfjpgkpmdbnoaaBase
import Derived.Test.YtkfjpgkpmdbnoaaOwn
import Derived.Test.YtkfjpgkpmdbnoaaCu
import Derived.Lib.SmallJoins
import Derived.Maps.AppendAt
set_option linter.unusedVariables false
namespace Go.Proofs.Ytkfjpgkpmdbnoaa
open Go Go.RowKit Go.Joins Own Draw

def intV (zs : List Int) : List Value := zs.map (Value.int .i64)
theorem Blk.only {g p : Nat} {vs : List Value} {w w' : World} (h : Blk g vs w) (ho : Only p w w') (hg : g < w.heap.size) (hp : g ≠ p) : Blk g vs w' :=
  ⟨fun i v e => ⟨(ho.cell (q := ⟨g, i, none⟩) hg hp).trans (h.out i v e).1, (ho.frozen (q := ⟨g, i, none⟩) hg hp).trans (h.out i v e).2⟩⟩
theorem Blk.lt {g : Nat} {v : Value} {vs : List Value} {w : World} (h : Blk g (v :: vs) w) : g < w.heap.size := World.block_lt_of_cell? w _ (h.at 0 rfl)
theorem pickI {p : Nat} {a : Option Addr} {len cap : Nat} {zs : List Int} {w : World} (g m : Nat) (L : List Int) (h : Cu p a len cap zs w w) (hm : 0 < m) (hm2 : m ≤ 1000) (hg : p < g) (hgs : g < w.heap.size) (hl : L.length = m) (hL : Blk g (L.map (Value.int .i64)) w) (hb : ∀ y ∈ L, -9223372036854775808 ≤ y ∧ y ≤ 9223372036854775807) :
    Calls Try.prog 37 #[.pointer (some ⟨p, 0, none⟩), .slice (some ⟨g, 0, none⟩) m m] w fun e w' => ∃ x : Int, e = .returned (.int .i64 x) ∧ i64 x ∧ Cu p a len cap zs w w' := by
  obtain ⟨⟨s, h⟩, _⟩ := h
  refine (pickIntD p a len cap zs s w g m L h hm hm2 hg hgs (fun j hj => hL.at j (by rw [List.getElem?_map, List.getD_eq_getElem?_getD, List.getElem?_eq_getElem (by omega)]; rfl))).mono ?_
  rintro e w' ⟨rfl, d, o⟩
  refine ⟨_, rfl, ?_, ⟨_, d⟩, o⟩
  unfold i64
  rw [List.getD_eq_getElem?_getD]
  cases hq : L[(belowV zs len m s).toNat]? with
  | none => show _ ≤ (0 : Int) ∧ (0 : Int) ≤ _; omega
  | some y => exact hb y (List.mem_of_getElem? hq)

theorem own_only {W w' : World} {p base size n : Nat} {e : TypeId} {v : Value} {xs : List Value} (h : W.ownsRow base e size v n xs) (ho : Only p W w') (hp : p < base) : w'.ownsRow base e size v n xs := by
  refine h.kept ho ?_
  cases hv : v.ownBlock with
  | none => exact Or.inl rfl
  | some k => right; intro e; have := (h.lt k hv).1; simp at e; omega
theorem Draw.Cu.set {p q : Nat} {a : Option Addr} {len cap : Nat} {zs : List Int} {W w : World} (h : Cu p a len cap zs W w) (hq : W.heap.size ≤ q) (hp : p < q) (o : Nat) (v : Value) : Cu p a len cap zs W (w.setCell ⟨q, o, none⟩ v) := by
  obtain ⟨⟨s, h⟩, k⟩ := h
  have hg : w.grownBy (w.setCell ⟨q, o, none⟩ v) (some q) := ⟨rfl, rfl, rfl, by simp, fun j _ hn => Below.heap_setCell w ⟨q, o, none⟩ v j (fun e => hn (by rw [e]))⟩
  refine ⟨⟨s, h.grown hg (fun j hj => by simp at hj; omega)⟩, k.os, k.tape, k.output, by have := k.size; simpa using this, fun j hj hn => (Below.heap_setCell w ⟨q, o, none⟩ v j (fun e => ?_)).trans (k.block j hj hn)⟩
  have e2 : j = q := e
  omega
theorem Draw.Cu.down {p B : Nat} {a : Option Addr} {len cap : Nat} {zs : List Int} {W w w' : World} (h : Cu p a len cap zs W w) (hb : Below B w w') (hB : W.heap.size ≤ B) (hp : p < B) : Cu p a len cap zs W w' := by
  obtain ⟨⟨s, h⟩, k⟩ := h
  refine ⟨⟨s, ⟨(hb.cell (p := ⟨p, 0, none⟩) hp).trans h.cur.b, (hb.cell (p := ⟨p, 1, none⟩) hp).trans h.cur.i, (hb.cell (p := ⟨p, 2, none⟩) hp).trans h.cur.h, fun o => (hb.frozen (p := ⟨p, o, none⟩) hp).trans (h.cur.f o)⟩, h.code.below (hb.mono (Nat.le_of_lt hp)), h.le⟩, ?_⟩
  exact ⟨hb.os.trans k.os, hb.tape.trans k.tape, hb.output.trans k.output, Nat.le_trans k.size hb.size, fun j hj hn => (hb.block j (by omega)).trans (k.block j hj hn)⟩
theorem take_any {P : Program} {ops : Array Oper} {Q : Exit → Act → World → Prop} {md : Region.Mode} (i d : Nat) {oi : Oper} {v : Value} {fuel : Nat} {listed : Array Bool} {a : Act} {w : World} (hi : ops[i]? = some oi) (hd : oi.dst = some d)
    (hs : Region.noSelect ops = true) (hf : Region.free md ops listed i = true) (hr : (Region.ready md ops listed).contains i = true) (hQ : ∀ c a w, Q (.panic c) (a.put (some d) v) w → Q (.panic c) a w)
    (hy : Yields P ops oi v a) (h : wpAny P md ops Q fuel (listed.setIfInBounds i true) (a.put (some d) v) w) : wpAny P md ops Q (fuel + 1) listed a w :=
  wpAny_take hi hs hf hr (by rw [hd]; exact hQ) hy (by rw [hd]; exact h)
theorem step_own_at {P : Program} {ops : Array Oper} {o : Oper} {a : Act} {w : World} {K : Act → World → Prop} {Q : Exit → Act → World → Prop} {E : Prop} (d : Nat) (hd : o.dst = some d) (hgd : o.guard = none) (s x : Operand) (t : TypeId)
    (ho : o.op = .call { callee := .builtin .append, args := #[s, x], argTypes := #[t, t] })
    (base : Nat) (e : TypeId) (i : TypeInfo) (z : Value) (size bytes : Nat) (ht : P.underlying t = some (.slice e)) (hi : P.info? e = some i) (hz : i.zero = some z)
    (hsize : i.size = size) (hby : i.bytes = bytes) (hzs : z.cells.size = size) (hsz : 0 < size)
    (v : Value) (n : Nat) (xs : List Value) (hs : a.eval s = v) (hown : w.ownsRow base e size v n xs)
    (ad : Addr) (m c : Nat) (news : List Value) (hx : a.eval x = .slice (some ad) m c) (hl : news.length = m * size) (hnews : ∀ j u, news[j]? = some u → w.cell? (ad.add j) = some u) (h1 : ∀ u ∈ news, u.oneCell' = true)
    (h63 : n + m ≤ maxLen) (hbytes : (n + m) * bytes ≤ 140737488355328) (hbase : base ≤ w.heap.size)
    (h : ∀ v' w', w'.ownsRow base e size v' (n + m) (xs ++ news) → w.grownBy w' v.ownBlock → (v'.ownBlock = v.ownBlock ∨ v'.ownBlock = some w.heap.size) → K (a.put (some d) v') w') :
    if Region.wanted o (yielded ops a.tmps) = true then Oper.wp P o a w K Q else E := by
  have hw : Region.wanted o (yielded ops a.tmps) = true := by simp [Region.wanted, hgd]
  rw [if_pos hw]
  obtain ⟨v', w', hr, h2, h3, _, h5⟩ := run_append_own_at (P := P) w base t o.type e i z size bytes ht hi hz hsize hby hzs hsz v n xs hown ad m c news hl hnews h1 h63 hbytes hbase
  unfold Oper.wp execOp
  simp only [ho, resolve, invoke, builtin, Sem.run_bind, Sem.run_pure, Result.andThen_ok, List.map_toArray, List.map_cons, List.map_nil, hs, hx, hr]
  have := h v' w' h2 h3 h5
  rw [← hd] at this
  exact this

theorem grown_below {q n : Nat} {w w' : World} {o : Obj} {v : Value} {xs : List Value} (hq : q < w.heap.size) (ho : w.ownsRow (q + 1) 3 1 v n xs) (hg : (w.alloc o).grownBy w' v.ownBlock) : Below (q + 1) w w' := by
  refine ⟨hg.os, hg.tape, hg.output, by have := hg.size; simp at this; omega, fun k hk => (hg.block k (by simp; omega) (fun e => ?_)).trans (Below.heap_alloc w o k (by omega))⟩
  have := (ho.lt k e.symm).1
  omega
theorem intV_app (xs ys : List Int) : intV xs ++ intV ys = intV (xs ++ ys) := by unfold intV; rw [List.map_append]
end Go.Proofs.Ytkfjpgkpmdbnoaa
