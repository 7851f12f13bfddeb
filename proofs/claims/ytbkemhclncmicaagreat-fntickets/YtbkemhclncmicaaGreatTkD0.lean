/- A ticket in a block, while things are drawn. -/
import Derived.Test.YtbkemhclncmicaaGreatJust
import Derived.Test.YtbkemhclncmicaaGreatDraw
import Derived.Test.YtbkemhclncmicaaGreatZDraw
import Derived.Maps.AppendAt
import Derived.Test.YtbkemhclncmicaaGreatRest
import Derived.Lib.SmallJoins
import Derived.Test.YtbkemhclncmicaaGreatTick1
set_option linter.unusedVariables false
namespace Go.Proofs.YtbkemhclncmicaaGreat
open Go Go.RowKit Go.Joins Own Var Term Draw

theorem own_only {W w' : World} {p base size n : Nat} {e : TypeId} {v : Value} {xs : List Value} (h : W.ownsRow base e size v n xs) (ho : Only p W w') (hp : p < base) : w'.ownsRow base e size v n xs := by
  refine h.kept ho ?_
  cases hv : v.ownBlock with
  | none => exact Or.inl rfl
  | some k => right; intro e; have := (h.lt k hv).1; simp at e; omega
theorem Draw.Cu.set {p q : Nat} {a : Option Addr} {len cap : Nat} {zs : List Int} {W w : World} (h : Cu p a len cap zs W w) (hq : W.heap.size ≤ q) (hp : p < q) (o : Nat) (v : Value) : Cu p a len cap zs W (w.setCell ⟨q, o, none⟩ v) := by
  obtain ⟨⟨s, h⟩, k⟩ := h
  have hg : w.grownBy (w.setCell ⟨q, o, none⟩ v) (some q) := ⟨rfl, rfl, rfl, by simp, fun j _ hn => Below.heap_setCell w ⟨q, o, none⟩ v j (fun e => hn (by rw [e]))⟩
  refine ⟨⟨s, h.grown hg (fun j hj => by simp at hj; omega)⟩, k.os, k.tape, k.output, by have := k.size; simpa using this, fun j hj hn => (Below.heap_setCell w ⟨q, o, none⟩ v j (fun e => ?_)).trans (k.block j hj hn)⟩
  have e2 : j = q := e
  omega
theorem Draw.Cu.down {p B : Nat} {a : Option Addr} {len cap : Nat} {zs : List Int} {W w w' : World} (h : Cu p a len cap zs W w) (hb : Below B w w') (hB : W.heap.size ≤ B) (hp : p < B) : Cu p a len cap zs W w' := by
  obtain ⟨⟨s, h⟩, k⟩ := h
  refine ⟨⟨s, ⟨(hb.cell (p := ⟨p, 0, none⟩) hp).trans h.cur.b, (hb.cell (p := ⟨p, 1, none⟩) hp).trans h.cur.i, (hb.cell (p := ⟨p, 2, none⟩) hp).trans h.cur.h, fun o => (hb.frozen (p := ⟨p, o, none⟩) hp).trans (h.cur.f o)⟩, h.code.below (hb.mono (Nat.le_of_lt hp)), h.le⟩, ?_⟩
  exact ⟨hb.os.trans k.os, hb.tape.trans k.tape, hb.output.trans k.output, Nat.le_trans k.size hb.size, fun j hj hn => (hb.block j (by omega)).trans (k.block j hj hn)⟩
theorem take_any {P : Program} {ops : Array Oper} {Q : Exit → Act → World → Prop} {md : Region.Mode} (i d : Nat) {oi : Oper} {v : Value} {fuel : Nat} {listed : Array Bool} {a : Act} {w : World} (hi : ops[i]? = some oi) (hd : oi.dst = some d)
    (hs : Region.noSelect ops = true) (hf : Region.free md ops listed i = true) (hr : (Region.ready md ops listed).contains i = true) (hQ : ∀ c a w, Q (.panic c) (a.put (some d) v) w → Q (.panic c) a w)
    (hy : Yields P ops oi v a) (h : wpAny P md ops Q fuel (listed.setIfInBounds i true) (a.put (some d) v) w) : wpAny P md ops Q (fuel + 1) listed a w :=
  wpAny_take hi hs hf hr (by rw [hd]; exact hQ) hy (by rw [hd]; exact h)
theorem step_own_at {P : Program} {ops : Array Oper} {o : Oper} {a : Act} {w : World} {K : Act → World → Prop} {Q : Exit → Act → World → Prop} {E : Prop} (d : Nat) (hd : o.dst = some d) (hgd : o.guard = none) (s x : Operand) (t : TypeId)
    (ho : o.op = .call { callee := .builtin .append, args := #[s, x], argTypes := #[t, t] })
    (base : Nat) (e : TypeId) (i : TypeInfo) (z : Value) (size bytes : Nat) (ht : P.underlying t = some (.slice e)) (hi : P.info? e = some i) (hz : i.zero = some z)
    (hsize : i.size = size) (hby : i.bytes = bytes) (hzs : z.cells.size = size) (hsz : 0 < size)
    (v : Value) (n : Nat) (xs : List Value) (hs : a.eval s = v) (hown : w.ownsRow base e size v n xs)
    (ad : Addr) (m c : Nat) (news : List Value) (hx : a.eval x = .slice (some ad) m c) (hl : news.length = m * size) (hnews : ∀ j u, news[j]? = some u → w.cell? (ad.add j) = some u) (h1 : ∀ u ∈ news, u.oneCell' = true)
    (h63 : n + m ≤ maxLen) (hbytes : (n + m) * bytes ≤ 140737488355328) (hbase : base ≤ w.heap.size)
    (h : ∀ v' w', w'.ownsRow base e size v' (n + m) (xs ++ news) → w.grownBy w' v.ownBlock → (v'.ownBlock = v.ownBlock ∨ v'.ownBlock = some w.heap.size) → K (a.put (some d) v') w') :
    if Region.wanted o (yielded ops a.tmps) = true then Oper.wp P o a w K Q else E := by
  have hw : Region.wanted o (yielded ops a.tmps) = true := by simp [Region.wanted, hgd]
  rw [if_pos hw]
  obtain ⟨v', w', hr, h2, h3, _, h5⟩ := run_append_own_at (P := P) w base t o.type e i z size bytes ht hi hz hsize hby hzs hsz v n xs hown ad m c news hl hnews h1 h63 hbytes hbase
  unfold Oper.wp execOp
  simp only [ho, resolve, invoke, builtin, Sem.run_bind, Sem.run_pure, Result.andThen_ok, List.map_toArray, List.map_cons, List.map_nil, hs, hx, hr]
  have := h v' w' h2 h3 h5
  rw [← hd] at this
  exact this

/-- Block q holds a ticket, and its rows are the call's own. -/
structure KT (q : Nat) (c s k a b e : Int) (pa : Option Addr) (pc : Nat) (P : List Int) (va : Option Addr) (vc : Nat) (V : List Int) (w : World) : Prop where
  blk : Blk q [.int .i64 c, .int .i64 s, .int .i64 k, .int .i64 a, .int .i64 b, .int .i64 e, .slice pa P.length pc, .slice va V.length vc] w
  op : w.ownsRow (q + 1) 3 1 (.slice pa P.length pc) P.length (intV P)
  ov : w.ownsRow (q + 1) 3 1 (.slice va V.length vc) V.length (intV V)
  ap : Apart (.slice pa P.length pc) (.slice va V.length vc)
theorem KT.lt {q : Nat} {c s k a b e : Int} {pa : Option Addr} {pc : Nat} {P : List Int} {va : Option Addr} {vc : Nat} {V : List Int} {w : World} (h : KT q c s k a b e pa pc P va vc V w) : q < w.heap.size := h.blk.lt
theorem KT.draw {p q : Nat} {c s k a b e : Int} {pa : Option Addr} {pc : Nat} {P : List Int} {va : Option Addr} {vc : Nat} {V : List Int} {w w' : World} (h : KT q c s k a b e pa pc P va vc V w) (ho : Only p w w') (hp : p < q) : KT q c s k a b e pa pc P va vc V w' :=
  ⟨h.blk.only ho h.lt (by omega), own_only h.op ho (by omega), own_only h.ov ho (by omega), h.ap⟩
theorem KT.below {q : Nat} {c s k a b e : Int} {pa : Option Addr} {pc : Nat} {P : List Int} {va : Option Addr} {vc : Nat} {V : List Int} {w w' : World} (h : KT q c s k a b e pa pc P va vc V w) (hb : Below w.heap.size w w') : KT q c s k a b e pa pc P va vc V w' := ⟨h.blk.later hb h.lt, own_later h.op hb, own_later h.ov hb, h.ap⟩
theorem KT.drew {q : Nat} {c s k a b e : Int} {pa : Option Addr} {pc : Nat} {P : List Int} {va : Option Addr} {vc : Nat} {V : List Int} {w : World} (h : KT q c s k a b e pa pc P va vc V w) : KT q c s k a b e pa pc P va vc V w.drew := h.below (Below.refl _ _).drew
theorem KT.set {q : Nat} {c s k a b e : Int} {pa : Option Addr} {pc : Nat} {P : List Int} {va : Option Addr} {vc : Nat} {V : List Int} {w : World} (h : KT q c s k a b e pa pc P va vc V w) (i : Nat) (x : Value) {c2 s2 k2 a2 b2 e2 : Int} (hx : [.int .i64 c, .int .i64 s, .int .i64 k, .int .i64 a, .int .i64 b, .int .i64 e, .slice pa P.length pc, .slice va V.length vc].set i x = [.int .i64 c2, .int .i64 s2, .int .i64 k2, .int .i64 a2, .int .i64 b2, .int .i64 e2, .slice pa P.length pc, .slice va V.length vc]) : KT q c2 s2 k2 a2 b2 e2 pa pc P va vc V (w.setCell ⟨q, i, none⟩ x) := by
  have l : (⟨q, i, none⟩ : Addr).block < q + 1 := by show q < q + 1; omega
  refine ⟨?_, ownsRow_setCell_below h.op l _, ownsRow_setCell_below h.ov l _, h.ap⟩
  rw [← hx]
  exact h.blk.set i x
theorem grown_below {q n : Nat} {w w' : World} {o : Obj} {v : Value} {xs : List Value} (hq : q < w.heap.size) (ho : w.ownsRow (q + 1) 3 1 v n xs) (hg : (w.alloc o).grownBy w' v.ownBlock) : Below (q + 1) w w' := by
  refine ⟨hg.os, hg.tape, hg.output, by have := hg.size; simp at this; omega, fun k hk => (hg.block k (by simp; omega) (fun e => ?_)).trans (Below.heap_alloc w o k (by omega))⟩
  have := (ho.lt k e.symm).1
  omega
theorem intV_app (xs ys : List Int) : intV xs ++ intV ys = intV (xs ++ ys) := by unfold intV; rw [List.map_append]
/-- More behind the first row. -/
theorem KT.appP {q : Nat} {c s k a b e : Int} {pa : Option Addr} {pc : Nat} {P : List Int} {va : Option Addr} {vc : Nat} {V : List Int} {w w' : World} {v : Value} {ys : List Int} {o : Obj} (h : KT q c s k a b e pa pc P va vc V w) (ho : w'.ownsRow (q + 1) 3 1 v (P.length + ys.length) (intV P ++ intV ys)) (hg : (w.alloc o).grownBy w' (Value.slice pa P.length pc).ownBlock) :
    ∃ p2 c2, v = .slice p2 (P ++ ys).length c2 ∧ Blk q [.int .i64 c, .int .i64 s, .int .i64 k, .int .i64 a, .int .i64 b, .int .i64 e, .slice pa P.length pc, .slice va V.length vc] w' ∧ Below (q + 1) w w' ∧ (w'.setCell ⟨q, 6, none⟩ (.slice p2 (P ++ ys).length c2)).ownsRow (q + 1) 3 1 (.slice p2 (P ++ ys).length c2) (P ++ ys).length (intV (P ++ ys)) ∧
      Blk q [.int .i64 c, .int .i64 s, .int .i64 k, .int .i64 a, .int .i64 b, .int .i64 e, .slice p2 (P ++ ys).length c2, .slice va V.length vc] (w'.setCell ⟨q, 6, none⟩ (.slice p2 (P ++ ys).length c2)) ∧ (w'.setCell ⟨q, 6, none⟩ (.slice p2 (P ++ ys).length c2)).ownsRow (q + 1) 3 1 (.slice va V.length vc) V.length (intV V) := by
  have hb := grown_below h.lt h.op hg
  have l : (⟨q, 6, none⟩ : Addr).block < q + 1 := by show q < q + 1; omega
  rw [intV_app, ← List.length_append] at ho
  obtain ⟨p2, c2, rfl, _, _⟩ := own_row (f := Value.int .i64) ho
  have hB : Blk q [.int .i64 c, .int .i64 s, .int .i64 k, .int .i64 a, .int .i64 b, .int .i64 e, .slice pa P.length pc, .slice va V.length vc] w' := h.blk.lower hb (by omega)
  have hv : w'.ownsRow (q + 1) 3 1 (.slice va V.length vc) V.length (intV V) := World.ownsRow.kept (h.ov.alloc _) hg (by
    rcases hh : (Value.slice va V.length vc).ownBlock with _ | j
    · exact Or.inl rfl
    · right; intro e; exact h.ap j e.symm hh)
  exact ⟨p2, c2, rfl, hB, hb, ownsRow_setCell_below ho l _, hB.set 6 _, ownsRow_setCell_below hv l _⟩
/-- More behind the second row. -/
theorem KT.appV {q : Nat} {c s k a b e : Int} {pa : Option Addr} {pc : Nat} {P : List Int} {va : Option Addr} {vc : Nat} {V : List Int} {w w' : World} {v : Value} {ys : List Int} {o : Obj} (h : KT q c s k a b e pa pc P va vc V w) (ho : w'.ownsRow (q + 1) 3 1 v (V.length + ys.length) (intV V ++ intV ys)) (hg : (w.alloc o).grownBy w' (Value.slice va V.length vc).ownBlock) :
    ∃ v2 c2, v = .slice v2 (V ++ ys).length c2 ∧ Blk q [.int .i64 c, .int .i64 s, .int .i64 k, .int .i64 a, .int .i64 b, .int .i64 e, .slice pa P.length pc, .slice va V.length vc] w' ∧ Below (q + 1) w w' ∧ (w'.setCell ⟨q, 7, none⟩ (.slice v2 (V ++ ys).length c2)).ownsRow (q + 1) 3 1 (.slice v2 (V ++ ys).length c2) (V ++ ys).length (intV (V ++ ys)) ∧
      Blk q [.int .i64 c, .int .i64 s, .int .i64 k, .int .i64 a, .int .i64 b, .int .i64 e, .slice pa P.length pc, .slice v2 (V ++ ys).length c2] (w'.setCell ⟨q, 7, none⟩ (.slice v2 (V ++ ys).length c2)) ∧ (w'.setCell ⟨q, 7, none⟩ (.slice v2 (V ++ ys).length c2)).ownsRow (q + 1) 3 1 (.slice pa P.length pc) P.length (intV P) := by
  have hb := grown_below h.lt h.ov hg
  have l : (⟨q, 7, none⟩ : Addr).block < q + 1 := by show q < q + 1; omega
  rw [intV_app, ← List.length_append] at ho
  obtain ⟨v2, c2, rfl, _, _⟩ := own_row (f := Value.int .i64) ho
  have hB : Blk q [.int .i64 c, .int .i64 s, .int .i64 k, .int .i64 a, .int .i64 b, .int .i64 e, .slice pa P.length pc, .slice va V.length vc] w' := h.blk.lower hb (by omega)
  have hp : w'.ownsRow (q + 1) 3 1 (.slice pa P.length pc) P.length (intV P) := World.ownsRow.kept (h.op.alloc _) hg (by
    rcases hh : (Value.slice pa P.length pc).ownBlock with _ | j
    · exact Or.inl rfl
    · right; intro e; exact h.ap j hh e.symm)
  exact ⟨v2, c2, rfl, hB, hb, ownsRow_setCell_below ho l _, hB.set 7 _, ownsRow_setCell_below hp l _⟩
theorem KT.apV {q : Nat} {c s k a b e : Int} {pa : Option Addr} {pc : Nat} {P : List Int} {va : Option Addr} {vc : Nat} {V : List Int} {w : World} {v2 : Value} {o : Obj} (h : KT q c s k a b e pa pc P va vc V w) (hl : v2.ownBlock = (Value.slice va V.length vc).ownBlock ∨ v2.ownBlock = some (w.alloc o).heap.size) : Apart (.slice pa P.length pc) v2 := by
  intro j h1 h2
  rcases hl with e | e
  · rw [e] at h2; exact h.ap j h1 h2
  · rw [e, Option.some.injEq] at h2
    have := (h.op.lt j h1).2
    simp at h2
    omega
end Go.Proofs.YtbkemhclncmicaaGreat

set_option linter.unusedVariables false
namespace Go.Proofs.YtbkemhclncmicaaGreat
open Go Go.RowKit Go.Joins Own Var Term Draw

theorem cells_new (w : World) (zs : List Int) : ∀ j u, (intV zs)[j]? = some u → (w.alloc (.cells (intV zs).toArray 3)).cell? ((⟨w.heap.size, 0, none⟩ : Addr).add j) = some u := by
  intro j u h
  have e : (⟨w.heap.size, 0, none⟩ : Addr).add j = ⟨w.heap.size, j, none⟩ := by simp only [Addr.add]; split <;> simp_all
  rw [e, World.cell?_alloc_mark w _ 3 (0, 0) j]
  simpa using h

set_option maxRecDepth 100000 in
set_option maxHeartbeats 12800000 in
theorem ticketW {p : Nat} {ad : Option Addr} {len cap : Nat} {zs : List Int} {W : World} (hC : Cu p ad len cap zs W W) : Calls Tryz.prog 24 #[.pointer (some ⟨p, 0, none⟩)] W fun en w' => ∃ (c s k a b e : Int) (pa : Option Addr) (P : List Int) (pc : Nat) (va : Option Addr) (V : List Int) (vc : Nat), en = .returned (.agg #[.int .i64 c, .int .i64 s, .int .i64 k, .int .i64 a, .int .i64 b, .int .i64 e, .slice pa P.length pc, .slice va V.length vc]) ∧ i64 s ∧
    w'.ownsRow W.heap.size 3 1 (.slice pa P.length pc) P.length (intV P) ∧ w'.ownsRow W.heap.size 3 1 (.slice va V.length vc) V.length (intV V) ∧ P.length ≤ 10 ∧ V.length ≤ 10 ∧ Cu p ad len cap zs W w' := by
  obtain ⟨i0, hi, hz0, hz1, hz2⟩ := info_parts infoInt
  have hpW : p < W.heap.size := hC.lt
  obtain ⟨W1, hW1⟩ : ∃ W1, W.alloc (.cells #[.int .i64 0, .int .i64 0, .int .i64 0, .int .i64 0, .int .i64 0, .int .i64 0, .slice none 0 0, .slice none 0 0] 28) = W1 := ⟨_, rfl⟩
  have RB : Blk W.heap.size [.int .i64 0, .int .i64 0, .int .i64 0, .int .i64 0, .int .i64 0, .int .i64 0, .slice none 0 0, .slice none 0 0] W1 := by rw [← hW1]; exact Blk.new _ _ _
  have CC : Cu p ad len cap zs W W1 := by rw [← hW1]; exact hC.alloc _
  clear hC
  go_enter Tryz.func24, Tryz.ntmps24
  have HX := belowW 6 CC.here (by omega) (by omega)
  go_wp2_with fail
  try rw [hW1]
  refine HX.mono ?_
  clear HX hW1
  rintro en w2 ⟨x0, rfl, x0a, x0b, C⟩
  have RBN := RB.only C.2 RB.lt (by omega)
  have CCN := CC.next C
  clear RB CC
  have RB := RBN
  have CC := CCN
  clear RBN CCN
  clear C
  obtain ⟨w3, hw3⟩ : ∃ v, w2.alloc (.cells #[.int .i64 0, .int .i64 1, .int .i64 2, .int .i64 10, .int .i64 11, .int .i64 12] 3) = v := ⟨_, rfl⟩
  have RBN := RB.alloc RB.lt (.cells #[.int .i64 0, .int .i64 1, .int .i64 2, .int .i64 10, .int .i64 11, .int .i64 12] 3)
  have CCN := CC.alloc (.cells #[.int .i64 0, .int .i64 1, .int .i64 2, .int .i64 10, .int .i64 11, .int .i64 12] 3)
  have pg : p < w2.heap.size := CC.lt
  have rg : W.heap.size < w2.heap.size := RB.lt
  have LB : Blk w2.heap.size [.int .i64 0, .int .i64 1, .int .i64 2, .int .i64 10, .int .i64 11, .int .i64 12] w3 := by rw [← hw3]; exact Blk.new _ _ _
  rw [hw3] at RBN CCN
  clear RB CC
  have RB := RBN
  have CC := CCN
  clear RBN CCN
  have HX := pickI w2.heap.size 6 [0, 1, 2, 10, 11, 12] CC.here (by omega) (by omega) pg LB.lt (by decide) LB (by decide)
  go_wp2_with fail
  try rw [hw3]
  refine HX.mono ?_
  clear HX hw3
  rintro en w4 ⟨s, rfl, si, C⟩
  have RBN := RB.only C.2 RB.lt (by omega)
  have CCN := CC.next C
  clear RB CC
  have RB := RBN
  have CC := CCN
  clear RBN CCN
  clear C
  clear LB pg rg
  have HX := belowW 9 CC.here (by omega) (by omega)
  go_wp2_with fail
  refine HX.mono ?_
  clear HX
  rintro en w5 ⟨x2, rfl, x2a, x2b, C⟩
  have RBN := RB.only C.2 RB.lt (by omega)
  have CCN := CC.next C
  clear RB CC
  have RB := RBN
  have CC := CCN
  clear RBN CCN
  clear C
  have HX := restW CC.here
  go_wp2_with fail
  refine HX.mono ?_
  clear HX
  rintro en w6 ⟨a, b, e, rfl, C⟩
  have RBN := RB.only C.2 RB.lt (by omega)
  have CCN := CC.next C
  clear RB CC
  have RB := RBN
  have CC := CCN
  clear RBN CCN
  clear C
  obtain ⟨w7, hw7⟩ : ∃ v, w6.alloc (.cells #[.int .i64 x0, .int .i64 s, .int .i64 (101 + x2), .int .i64 a, .int .i64 b, .int .i64 e, .slice none 0 0, .slice none 0 0] 28) = v := ⟨_, rfl⟩
  have RBN := RB.alloc RB.lt (.cells #[.int .i64 x0, .int .i64 s, .int .i64 (101 + x2), .int .i64 a, .int .i64 b, .int .i64 e, .slice none 0 0, .slice none 0 0] 28)
  have CCN := CC.alloc (.cells #[.int .i64 x0, .int .i64 s, .int .i64 (101 + x2), .int .i64 a, .int .i64 b, .int .i64 e, .slice none 0 0, .slice none 0 0] 28)
  have pg : p < w6.heap.size := CC.lt
  have rg : W.heap.size < w6.heap.size := RB.lt
  have LB : Blk w6.heap.size [.int .i64 x0, .int .i64 s, .int .i64 (101 + x2), .int .i64 a, .int .i64 b, .int .i64 e, .slice none 0 0, .slice none 0 0] w7 := by rw [← hw7]; exact Blk.new _ _ _
  rw [hw7] at RBN CCN
  clear RB CC
  have RB := RBN
  have CC := CCN
  clear RBN CCN
  have QB := LB
  clear LB
  have HH := show Hid _ from hw7
  clear hw7
  have HX := belowW 3 CC.here (by omega) (by omega)
  go_wp2_with fail
  try rw [HH.out]
  refine HX.mono ?_
  clear HX HH
  rintro en w8 ⟨n0, rfl, n0a, n0b, C⟩
  have RBN := RB.only C.2 RB.lt (by omega)
  have QBN := QB.only C.2 QB.lt (by omega)
  have CCN := CC.next C
  clear RB QB CC
  have RB := RBN
  have QB := QBN
  have CC := CCN
  clear RBN QBN CCN
  clear C
  obtain ⟨q, hq⟩ : ∃ q, w6.heap.size = q := ⟨_, rfl⟩
  simp only [hq] at QB pg rg ⊢
  clear hq
  have KK : KT q x0 s (101 + x2) a b e none 0 [] none 0 [] w8 := ⟨QB, World.ownsRow_nil _ _ _ _, World.ownsRow_nil _ _ _ _, apart_nil _⟩
  generalize x0 = c at KK
  generalize 101 + x2 = k at KK
  clear QB
  obtain ⟨m0, rfl⟩ := Int.eq_ofNat_of_zero_le n0a
  go_wp2
  go_loopw [4] (fun i wr => ∃ (m : Nat) (pa : Option Addr) (pc : Nat) (P : List Int), i = .int .i64 (m : Int) ∧ m ≤ 2 ∧ P.length + m ≤ 2 ∧ KT q c s k a b e pa pc P none 0 [] wr ∧ Blk W.heap.size [.int .i64 0, .int .i64 0, .int .i64 0, .int .i64 0, .int .i64 0, .int .i64 0, .slice none 0 0, .slice none 0 0] wr ∧ Cu p ad len cap zs W wr) (fun i _ => (intOf i).toNat)
  case atStart => exact ⟨m0, none, 0, [], rfl, by omega, by simp; omega, KK, RB, CC⟩
  case round =>
    clear KK RB CC n0b n0a
    obtain ⟨m, pa, pc, P, rfl, hm, hl, KK, RB, CC⟩ := hrel
    by_cases h0 : m = 0
    · subst h0
      have hmd : decide (((0 : Nat) : Int) > 0) = false := by simp
      have HX := belowW 3 CC.here (by omega) (by omega)
      go_wp2_with fail
      refine HX.mono ?_
      clear HX
      rintro en w21 ⟨n1, rfl, n1a, n1b, C⟩
      have RBN := RB.only C.2 RB.lt (by omega)
      have KKN := KK.draw C.2 (by omega)
      have CCN := CC.next C
      clear RB KK CC
      have RB := RBN
      have KK := KKN
      have CC := CCN
      clear RBN KKN CCN
      clear C
      obtain ⟨m1, rfl⟩ := Int.eq_ofNat_of_zero_le n1a
      go_wp2
      go_loopw [5] (fun i wr2 => ∃ (m : Nat) (va : Option Addr) (vc : Nat) (V : List Int), i = .int .i64 (m : Int) ∧ m ≤ 2 ∧ V.length + m ≤ 2 ∧ KT q c s k a b e pa pc P va vc V wr2 ∧ Blk W.heap.size [.int .i64 0, .int .i64 0, .int .i64 0, .int .i64 0, .int .i64 0, .int .i64 0, .slice none 0 0, .slice none 0 0] wr2 ∧ Cu p ad len cap zs W wr2) (fun i _ => (intOf i).toNat)
      case atStart => exact ⟨m1, none, 0, [], rfl, by omega, by simp; omega, KK, RB, CC⟩
      case round =>
        clear KK RB CC n1a n1b
        obtain ⟨m, va, vc, V, rfl, hm2, hl2, KK, RB, CC⟩ := hrel
        by_cases h0 : m = 0
        · subst h0
          have hmd2 : decide (((0 : Nat) : Int) > 0) = false := by simp
          have HX := onceW 10 CC.here (by omega)
          go_wp2_with fail
          refine HX.mono ?_
          clear HX
          rintro en w31 ⟨bb, rfl, C⟩
          have RBN := RB.only C.2 RB.lt (by omega)
          have KKN := KK.draw C.2 (by omega)
          have CCN := CC.next C
          clear RB KK CC
          have RB := RBN
          have KK := KKN
          have CC := CCN
          clear RBN KKN CCN
          clear C
          cases bb with
          | false =>
            have QB := KK.blk
            have OP := KK.op
            have OV := KK.ov
            clear KK
            have r0 := RB.at 0 rfl
            have r1 := RB.at 1 rfl
            have r2 := RB.at 2 rfl
            have r3 := RB.at 3 rfl
            have r4 := RB.at 4 rfl
            have r5 := RB.at 5 rfl
            have r6 := RB.at 6 rfl
            have r7 := RB.at 7 rfl
            have g0 := RB.fz 0 rfl
            have g1 := RB.fz 1 rfl
            have g2 := RB.fz 2 rfl
            have g3 := RB.fz 3 rfl
            have g4 := RB.fz 4 rfl
            have g5 := RB.fz 5 rfl
            have g6 := RB.fz 6 rfl
            have g7 := RB.fz 7 rfl
            have q0 := QB.at 0 rfl
            have q1 := QB.at 1 rfl
            have q2 := QB.at 2 rfl
            have q3 := QB.at 3 rfl
            have q4 := QB.at 4 rfl
            have q5 := QB.at 5 rfl
            have q6 := QB.at 6 rfl
            have q7 := QB.at 7 rfl
            have F := show Hid _ from (show Blk W.heap.size [.int .i64 c, .int .i64 s, .int .i64 k, .int .i64 a, .int .i64 b, .int .i64 e, .slice pa P.length pc, .slice va V.length vc] (((((((((w31).setCell ⟨W.heap.size, 0, none⟩ (.int .i64 c)).setCell ⟨W.heap.size, 1, none⟩ (.int .i64 s)).setCell ⟨W.heap.size, 2, none⟩ (.int .i64 k)).setCell ⟨W.heap.size, 3, none⟩ (.int .i64 a)).setCell ⟨W.heap.size, 4, none⟩ (.int .i64 b)).setCell ⟨W.heap.size, 5, none⟩ (.int .i64 e)).setCell ⟨W.heap.size, 6, none⟩ (.slice pa P.length pc)).setCell ⟨W.heap.size, 7, none⟩ (.slice va V.length vc)) ∧ Cu p ad len cap zs W (((((((((w31).setCell ⟨W.heap.size, 0, none⟩ (.int .i64 c)).setCell ⟨W.heap.size, 1, none⟩ (.int .i64 s)).setCell ⟨W.heap.size, 2, none⟩ (.int .i64 k)).setCell ⟨W.heap.size, 3, none⟩ (.int .i64 a)).setCell ⟨W.heap.size, 4, none⟩ (.int .i64 b)).setCell ⟨W.heap.size, 5, none⟩ (.int .i64 e)).setCell ⟨W.heap.size, 6, none⟩ (.slice pa P.length pc)).setCell ⟨W.heap.size, 7, none⟩ (.slice va V.length vc)) ∧ (((((((((w31).setCell ⟨W.heap.size, 0, none⟩ (.int .i64 c)).setCell ⟨W.heap.size, 1, none⟩ (.int .i64 s)).setCell ⟨W.heap.size, 2, none⟩ (.int .i64 k)).setCell ⟨W.heap.size, 3, none⟩ (.int .i64 a)).setCell ⟨W.heap.size, 4, none⟩ (.int .i64 b)).setCell ⟨W.heap.size, 5, none⟩ (.int .i64 e)).setCell ⟨W.heap.size, 6, none⟩ (.slice pa P.length pc)).setCell ⟨W.heap.size, 7, none⟩ (.slice va V.length vc)).ownsRow W.heap.size 3 1 (.slice pa P.length pc) P.length (intV P) ∧ (((((((((w31).setCell ⟨W.heap.size, 0, none⟩ (.int .i64 c)).setCell ⟨W.heap.size, 1, none⟩ (.int .i64 s)).setCell ⟨W.heap.size, 2, none⟩ (.int .i64 k)).setCell ⟨W.heap.size, 3, none⟩ (.int .i64 a)).setCell ⟨W.heap.size, 4, none⟩ (.int .i64 b)).setCell ⟨W.heap.size, 5, none⟩ (.int .i64 e)).setCell ⟨W.heap.size, 6, none⟩ (.slice pa P.length pc)).setCell ⟨W.heap.size, 7, none⟩ (.slice va V.length vc)).ownsRow W.heap.size 3 1 (.slice va V.length vc) V.length (intV V) from ⟨((((((((RB.set 0 (.int .i64 c)).set 1 (.int .i64 s)).set 2 (.int .i64 k)).set 3 (.int .i64 a)).set 4 (.int .i64 b)).set 5 (.int .i64 e)).set 6 (.slice pa P.length pc)).set 7 (.slice va V.length vc)), (Cu.setCell (Cu.setCell (Cu.setCell (Cu.setCell (Cu.setCell (Cu.setCell (Cu.setCell (Cu.setCell CC hpW (Nat.le_refl _) 0 (.int .i64 c)) hpW (Nat.le_refl _) 1 (.int .i64 s)) hpW (Nat.le_refl _) 2 (.int .i64 k)) hpW (Nat.le_refl _) 3 (.int .i64 a)) hpW (Nat.le_refl _) 4 (.int .i64 b)) hpW (Nat.le_refl _) 5 (.int .i64 e)) hpW (Nat.le_refl _) 6 (.slice pa P.length pc)) hpW (Nat.le_refl _) 7 (.slice va V.length vc)), ownsRow_le (ownsRow_setCell_below (ownsRow_setCell_below (ownsRow_setCell_below (ownsRow_setCell_below (ownsRow_setCell_below (ownsRow_setCell_below (ownsRow_setCell_below (ownsRow_setCell_below OP (a := ⟨W.heap.size, 0, none⟩) (by dsimp only; omega) (.int .i64 c)) (a := ⟨W.heap.size, 1, none⟩) (by dsimp only; omega) (.int .i64 s)) (a := ⟨W.heap.size, 2, none⟩) (by dsimp only; omega) (.int .i64 k)) (a := ⟨W.heap.size, 3, none⟩) (by dsimp only; omega) (.int .i64 a)) (a := ⟨W.heap.size, 4, none⟩) (by dsimp only; omega) (.int .i64 b)) (a := ⟨W.heap.size, 5, none⟩) (by dsimp only; omega) (.int .i64 e)) (a := ⟨W.heap.size, 6, none⟩) (by dsimp only; omega) (.slice pa P.length pc)) (a := ⟨W.heap.size, 7, none⟩) (by dsimp only; omega) (.slice va V.length vc)) (by omega), ownsRow_le (ownsRow_setCell_below (ownsRow_setCell_below (ownsRow_setCell_below (ownsRow_setCell_below (ownsRow_setCell_below (ownsRow_setCell_below (ownsRow_setCell_below (ownsRow_setCell_below OV (a := ⟨W.heap.size, 0, none⟩) (by dsimp only; omega) (.int .i64 c)) (a := ⟨W.heap.size, 1, none⟩) (by dsimp only; omega) (.int .i64 s)) (a := ⟨W.heap.size, 2, none⟩) (by dsimp only; omega) (.int .i64 k)) (a := ⟨W.heap.size, 3, none⟩) (by dsimp only; omega) (.int .i64 a)) (a := ⟨W.heap.size, 4, none⟩) (by dsimp only; omega) (.int .i64 b)) (a := ⟨W.heap.size, 5, none⟩) (by dsimp only; omega) (.int .i64 e)) (a := ⟨W.heap.size, 6, none⟩) (by dsimp only; omega) (.slice pa P.length pc)) (a := ⟨W.heap.size, 7, none⟩) (by dsimp only; omega) (.slice va V.length vc)) (by omega)⟩)
            have NQ : ¬ q = W.heap.size := by omega
            have NR : ¬ W.heap.size = q := by omega
            clear RB QB CC
            go_wp2
            have G := F.out
            exact bodyPost_ret (res_t rfl _ _ W.heap.size _ _ _ _ _ _ _ _ rfl (G.1.at 0 rfl) (G.1.at 1 rfl) (G.1.at 2 rfl) (G.1.at 3 rfl) (G.1.at 4 rfl) (G.1.at 5 rfl) (G.1.at 6 rfl) (G.1.at 7 rfl)) rfl ⟨c, s, k, a, b, e, pa, P, pc, va, V, vc, rfl, si, G.2.2.1, G.2.2.2, by first | omega | (have := hyl.out; omega), by first | omega | (have := hyl.out; omega), G.2.1⟩
          | true =>
            have HX := belowW 6 CC.here (by omega) (by omega)
            go_wp2_with fail
            refine HX.mono ?_
            clear HX
            rintro en w32 ⟨z, rfl, za, zb, C⟩
            have RBN := RB.only C.2 RB.lt (by omega)
            have KKN := KK.draw C.2 (by omega)
            have CCN := CC.next C
            clear RB KK CC
            have RB := RBN
            have KK := KKN
            have CC := CCN
            clear RBN KKN CCN
            clear C
            obtain rfl | rfl | rfl | rfl | rfl | rfl : z = 0 ∨ z = 1 ∨ z = 2 ∨ z = 3 ∨ z = 4 ∨ z = 5 := by omega
            · obtain ⟨w33, hw33⟩ : ∃ v, w32.alloc (.cells #[.int .i64 (-1), .int .i64 6] 3) = v := ⟨_, rfl⟩
              have RBN := RB.alloc RB.lt (.cells #[.int .i64 (-1), .int .i64 6] 3)
              have KKN := KK.below ((Below.refl _ w32).alloc (Nat.le_refl _) (.cells #[.int .i64 (-1), .int .i64 6] 3))
              have CCN := CC.alloc (.cells #[.int .i64 (-1), .int .i64 6] 3)
              have pg : p < w32.heap.size := CC.lt
              have rg : W.heap.size < w32.heap.size := RB.lt
              have LB : Blk w32.heap.size [.int .i64 (-1), .int .i64 6] w33 := by rw [← hw33]; exact Blk.new _ _ _
              rw [hw33] at RBN KKN CCN
              clear RB KK CC
              have RB := RBN
              have KK := KKN
              have CC := CCN
              clear RBN KKN CCN
              have HX := pickI w32.heap.size 2 [-1, 6] CC.here (by omega) (by omega) pg LB.lt (by decide) LB (by decide)
              go_wp2_with fail
              try rw [hw33]
              refine HX.mono ?_
              clear HX hw33
              rintro en w34 ⟨y0, rfl, y0i, C⟩
              have RBN := RB.only C.2 RB.lt (by omega)
              have KKN := KK.draw C.2 (by omega)
              have CCN := CC.next C
              clear RB KK CC
              have RB := RBN
              have KK := KKN
              have CC := CCN
              clear RBN KKN CCN
              clear C
              clear LB pg rg
              obtain ⟨w35, hw35⟩ : ∃ v, w34.setCell ⟨q, 0, none⟩ (.int .i64 y0) = v := ⟨_, rfl⟩
              have uq := KK.blk.at 0 rfl
              have vq := KK.blk.fz 0 rfl
              have K2 : KT q y0 s k a b e pa pc P va vc V w35 := by rw [← hw35]; exact KK.set 0 (.int .i64 y0) rfl
              have RBN : Blk W.heap.size [.int .i64 0, .int .i64 0, .int .i64 0, .int .i64 0, .int .i64 0, .int .i64 0, .slice none 0 0, .slice none 0 0] w35 := by rw [← hw35]; exact RB.far (by omega) 0 (.int .i64 y0)
              have CCN : Cu p ad len cap zs W w35 := by rw [← hw35]; exact Cu.setCell CC hpW (by omega) 0 (.int .i64 y0)
              clear RB CC KK
              have RB := RBN
              have CC := CCN
              clear RBN CCN
              have QB := K2.blk
              have OP := K2.op
              have OV := K2.ov
              clear K2
              have r0 := RB.at 0 rfl
              have r1 := RB.at 1 rfl
              have r2 := RB.at 2 rfl
              have r3 := RB.at 3 rfl
              have r4 := RB.at 4 rfl
              have r5 := RB.at 5 rfl
              have r6 := RB.at 6 rfl
              have r7 := RB.at 7 rfl
              have g0 := RB.fz 0 rfl
              have g1 := RB.fz 1 rfl
              have g2 := RB.fz 2 rfl
              have g3 := RB.fz 3 rfl
              have g4 := RB.fz 4 rfl
              have g5 := RB.fz 5 rfl
              have g6 := RB.fz 6 rfl
              have g7 := RB.fz 7 rfl
              have q0 := QB.at 0 rfl
              have q1 := QB.at 1 rfl
              have q2 := QB.at 2 rfl
              have q3 := QB.at 3 rfl
              have q4 := QB.at 4 rfl
              have q5 := QB.at 5 rfl
              have q6 := QB.at 6 rfl
              have q7 := QB.at 7 rfl
              have F := show Hid _ from (show Blk W.heap.size [.int .i64 y0, .int .i64 s, .int .i64 k, .int .i64 a, .int .i64 b, .int .i64 e, .slice pa P.length pc, .slice va V.length vc] (((((((((w35).setCell ⟨W.heap.size, 0, none⟩ (.int .i64 y0)).setCell ⟨W.heap.size, 1, none⟩ (.int .i64 s)).setCell ⟨W.heap.size, 2, none⟩ (.int .i64 k)).setCell ⟨W.heap.size, 3, none⟩ (.int .i64 a)).setCell ⟨W.heap.size, 4, none⟩ (.int .i64 b)).setCell ⟨W.heap.size, 5, none⟩ (.int .i64 e)).setCell ⟨W.heap.size, 6, none⟩ (.slice pa P.length pc)).setCell ⟨W.heap.size, 7, none⟩ (.slice va V.length vc)) ∧ Cu p ad len cap zs W (((((((((w35).setCell ⟨W.heap.size, 0, none⟩ (.int .i64 y0)).setCell ⟨W.heap.size, 1, none⟩ (.int .i64 s)).setCell ⟨W.heap.size, 2, none⟩ (.int .i64 k)).setCell ⟨W.heap.size, 3, none⟩ (.int .i64 a)).setCell ⟨W.heap.size, 4, none⟩ (.int .i64 b)).setCell ⟨W.heap.size, 5, none⟩ (.int .i64 e)).setCell ⟨W.heap.size, 6, none⟩ (.slice pa P.length pc)).setCell ⟨W.heap.size, 7, none⟩ (.slice va V.length vc)) ∧ (((((((((w35).setCell ⟨W.heap.size, 0, none⟩ (.int .i64 y0)).setCell ⟨W.heap.size, 1, none⟩ (.int .i64 s)).setCell ⟨W.heap.size, 2, none⟩ (.int .i64 k)).setCell ⟨W.heap.size, 3, none⟩ (.int .i64 a)).setCell ⟨W.heap.size, 4, none⟩ (.int .i64 b)).setCell ⟨W.heap.size, 5, none⟩ (.int .i64 e)).setCell ⟨W.heap.size, 6, none⟩ (.slice pa P.length pc)).setCell ⟨W.heap.size, 7, none⟩ (.slice va V.length vc)).ownsRow W.heap.size 3 1 (.slice pa P.length pc) P.length (intV P) ∧ (((((((((w35).setCell ⟨W.heap.size, 0, none⟩ (.int .i64 y0)).setCell ⟨W.heap.size, 1, none⟩ (.int .i64 s)).setCell ⟨W.heap.size, 2, none⟩ (.int .i64 k)).setCell ⟨W.heap.size, 3, none⟩ (.int .i64 a)).setCell ⟨W.heap.size, 4, none⟩ (.int .i64 b)).setCell ⟨W.heap.size, 5, none⟩ (.int .i64 e)).setCell ⟨W.heap.size, 6, none⟩ (.slice pa P.length pc)).setCell ⟨W.heap.size, 7, none⟩ (.slice va V.length vc)).ownsRow W.heap.size 3 1 (.slice va V.length vc) V.length (intV V) from ⟨((((((((RB.set 0 (.int .i64 y0)).set 1 (.int .i64 s)).set 2 (.int .i64 k)).set 3 (.int .i64 a)).set 4 (.int .i64 b)).set 5 (.int .i64 e)).set 6 (.slice pa P.length pc)).set 7 (.slice va V.length vc)), (Cu.setCell (Cu.setCell (Cu.setCell (Cu.setCell (Cu.setCell (Cu.setCell (Cu.setCell (Cu.setCell CC hpW (Nat.le_refl _) 0 (.int .i64 y0)) hpW (Nat.le_refl _) 1 (.int .i64 s)) hpW (Nat.le_refl _) 2 (.int .i64 k)) hpW (Nat.le_refl _) 3 (.int .i64 a)) hpW (Nat.le_refl _) 4 (.int .i64 b)) hpW (Nat.le_refl _) 5 (.int .i64 e)) hpW (Nat.le_refl _) 6 (.slice pa P.length pc)) hpW (Nat.le_refl _) 7 (.slice va V.length vc)), ownsRow_le (ownsRow_setCell_below (ownsRow_setCell_below (ownsRow_setCell_below (ownsRow_setCell_below (ownsRow_setCell_below (ownsRow_setCell_below (ownsRow_setCell_below (ownsRow_setCell_below OP (a := ⟨W.heap.size, 0, none⟩) (by dsimp only; omega) (.int .i64 y0)) (a := ⟨W.heap.size, 1, none⟩) (by dsimp only; omega) (.int .i64 s)) (a := ⟨W.heap.size, 2, none⟩) (by dsimp only; omega) (.int .i64 k)) (a := ⟨W.heap.size, 3, none⟩) (by dsimp only; omega) (.int .i64 a)) (a := ⟨W.heap.size, 4, none⟩) (by dsimp only; omega) (.int .i64 b)) (a := ⟨W.heap.size, 5, none⟩) (by dsimp only; omega) (.int .i64 e)) (a := ⟨W.heap.size, 6, none⟩) (by dsimp only; omega) (.slice pa P.length pc)) (a := ⟨W.heap.size, 7, none⟩) (by dsimp only; omega) (.slice va V.length vc)) (by omega), ownsRow_le (ownsRow_setCell_below (ownsRow_setCell_below (ownsRow_setCell_below (ownsRow_setCell_below (ownsRow_setCell_below (ownsRow_setCell_below (ownsRow_setCell_below (ownsRow_setCell_below OV (a := ⟨W.heap.size, 0, none⟩) (by dsimp only; omega) (.int .i64 y0)) (a := ⟨W.heap.size, 1, none⟩) (by dsimp only; omega) (.int .i64 s)) (a := ⟨W.heap.size, 2, none⟩) (by dsimp only; omega) (.int .i64 k)) (a := ⟨W.heap.size, 3, none⟩) (by dsimp only; omega) (.int .i64 a)) (a := ⟨W.heap.size, 4, none⟩) (by dsimp only; omega) (.int .i64 b)) (a := ⟨W.heap.size, 5, none⟩) (by dsimp only; omega) (.int .i64 e)) (a := ⟨W.heap.size, 6, none⟩) (by dsimp only; omega) (.slice pa P.length pc)) (a := ⟨W.heap.size, 7, none⟩) (by dsimp only; omega) (.slice va V.length vc)) (by omega)⟩)
              have NQ : ¬ q = W.heap.size := by omega
              have NR : ¬ W.heap.size = q := by omega
              clear RB QB CC
              go_wp2
              have G := F.out
              exact bodyPost_ret (res_t rfl _ _ W.heap.size _ _ _ _ _ _ _ _ rfl (G.1.at 0 rfl) (G.1.at 1 rfl) (G.1.at 2 rfl) (G.1.at 3 rfl) (G.1.at 4 rfl) (G.1.at 5 rfl) (G.1.at 6 rfl) (G.1.at 7 rfl)) rfl ⟨y0, s, k, a, b, e, pa, P, pc, va, V, vc, rfl, si, G.2.2.1, G.2.2.2, by first | omega | (have := hyl.out; omega), by first | omega | (have := hyl.out; omega), G.2.1⟩
            · obtain ⟨w33, hw33⟩ : ∃ v, w32.alloc (.cells #[.int .i64 (-1), .int .i64 3, .int .i64 9, .int .i64 13] 3) = v := ⟨_, rfl⟩
              have RBN := RB.alloc RB.lt (.cells #[.int .i64 (-1), .int .i64 3, .int .i64 9, .int .i64 13] 3)
              have KKN := KK.below ((Below.refl _ w32).alloc (Nat.le_refl _) (.cells #[.int .i64 (-1), .int .i64 3, .int .i64 9, .int .i64 13] 3))
              have CCN := CC.alloc (.cells #[.int .i64 (-1), .int .i64 3, .int .i64 9, .int .i64 13] 3)
              have pg : p < w32.heap.size := CC.lt
              have rg : W.heap.size < w32.heap.size := RB.lt
              have LB : Blk w32.heap.size [.int .i64 (-1), .int .i64 3, .int .i64 9, .int .i64 13] w33 := by rw [← hw33]; exact Blk.new _ _ _
              rw [hw33] at RBN KKN CCN
              clear RB KK CC
              have RB := RBN
              have KK := KKN
              have CC := CCN
              clear RBN KKN CCN
              have HX := pickI w32.heap.size 4 [-1, 3, 9, 13] CC.here (by omega) (by omega) pg LB.lt (by decide) LB (by decide)
              go_wp2_with fail
              try rw [hw33]
              refine HX.mono ?_
              clear HX hw33
              rintro en w34 ⟨y1, rfl, y1i, C⟩
              have RBN := RB.only C.2 RB.lt (by omega)
              have KKN := KK.draw C.2 (by omega)
              have CCN := CC.next C
              clear RB KK CC
              have RB := RBN
              have KK := KKN
              have CC := CCN
              clear RBN KKN CCN
              clear C
              clear LB pg rg
              obtain ⟨w35, hw35⟩ : ∃ v, w34.setCell ⟨q, 1, none⟩ (.int .i64 y1) = v := ⟨_, rfl⟩
              have uq := KK.blk.at 1 rfl
              have vq := KK.blk.fz 1 rfl
              have K2 : KT q c y1 k a b e pa pc P va vc V w35 := by rw [← hw35]; exact KK.set 1 (.int .i64 y1) rfl
              have RBN : Blk W.heap.size [.int .i64 0, .int .i64 0, .int .i64 0, .int .i64 0, .int .i64 0, .int .i64 0, .slice none 0 0, .slice none 0 0] w35 := by rw [← hw35]; exact RB.far (by omega) 1 (.int .i64 y1)
              have CCN : Cu p ad len cap zs W w35 := by rw [← hw35]; exact Cu.setCell CC hpW (by omega) 1 (.int .i64 y1)
              clear RB CC KK
              have RB := RBN
              have CC := CCN
              clear RBN CCN
              have QB := K2.blk
              have OP := K2.op
              have OV := K2.ov
              clear K2
              have r0 := RB.at 0 rfl
              have r1 := RB.at 1 rfl
              have r2 := RB.at 2 rfl
              have r3 := RB.at 3 rfl
              have r4 := RB.at 4 rfl
              have r5 := RB.at 5 rfl
              have r6 := RB.at 6 rfl
              have r7 := RB.at 7 rfl
              have g0 := RB.fz 0 rfl
              have g1 := RB.fz 1 rfl
              have g2 := RB.fz 2 rfl
              have g3 := RB.fz 3 rfl
              have g4 := RB.fz 4 rfl
              have g5 := RB.fz 5 rfl
              have g6 := RB.fz 6 rfl
              have g7 := RB.fz 7 rfl
              have q0 := QB.at 0 rfl
              have q1 := QB.at 1 rfl
              have q2 := QB.at 2 rfl
              have q3 := QB.at 3 rfl
              have q4 := QB.at 4 rfl
              have q5 := QB.at 5 rfl
              have q6 := QB.at 6 rfl
              have q7 := QB.at 7 rfl
              have F := show Hid _ from (show Blk W.heap.size [.int .i64 c, .int .i64 y1, .int .i64 k, .int .i64 a, .int .i64 b, .int .i64 e, .slice pa P.length pc, .slice va V.length vc] (((((((((w35).setCell ⟨W.heap.size, 0, none⟩ (.int .i64 c)).setCell ⟨W.heap.size, 1, none⟩ (.int .i64 y1)).setCell ⟨W.heap.size, 2, none⟩ (.int .i64 k)).setCell ⟨W.heap.size, 3, none⟩ (.int .i64 a)).setCell ⟨W.heap.size, 4, none⟩ (.int .i64 b)).setCell ⟨W.heap.size, 5, none⟩ (.int .i64 e)).setCell ⟨W.heap.size, 6, none⟩ (.slice pa P.length pc)).setCell ⟨W.heap.size, 7, none⟩ (.slice va V.length vc)) ∧ Cu p ad len cap zs W (((((((((w35).setCell ⟨W.heap.size, 0, none⟩ (.int .i64 c)).setCell ⟨W.heap.size, 1, none⟩ (.int .i64 y1)).setCell ⟨W.heap.size, 2, none⟩ (.int .i64 k)).setCell ⟨W.heap.size, 3, none⟩ (.int .i64 a)).setCell ⟨W.heap.size, 4, none⟩ (.int .i64 b)).setCell ⟨W.heap.size, 5, none⟩ (.int .i64 e)).setCell ⟨W.heap.size, 6, none⟩ (.slice pa P.length pc)).setCell ⟨W.heap.size, 7, none⟩ (.slice va V.length vc)) ∧ (((((((((w35).setCell ⟨W.heap.size, 0, none⟩ (.int .i64 c)).setCell ⟨W.heap.size, 1, none⟩ (.int .i64 y1)).setCell ⟨W.heap.size, 2, none⟩ (.int .i64 k)).setCell ⟨W.heap.size, 3, none⟩ (.int .i64 a)).setCell ⟨W.heap.size, 4, none⟩ (.int .i64 b)).setCell ⟨W.heap.size, 5, none⟩ (.int .i64 e)).setCell ⟨W.heap.size, 6, none⟩ (.slice pa P.length pc)).setCell ⟨W.heap.size, 7, none⟩ (.slice va V.length vc)).ownsRow W.heap.size 3 1 (.slice pa P.length pc) P.length (intV P) ∧ (((((((((w35).setCell ⟨W.heap.size, 0, none⟩ (.int .i64 c)).setCell ⟨W.heap.size, 1, none⟩ (.int .i64 y1)).setCell ⟨W.heap.size, 2, none⟩ (.int .i64 k)).setCell ⟨W.heap.size, 3, none⟩ (.int .i64 a)).setCell ⟨W.heap.size, 4, none⟩ (.int .i64 b)).setCell ⟨W.heap.size, 5, none⟩ (.int .i64 e)).setCell ⟨W.heap.size, 6, none⟩ (.slice pa P.length pc)).setCell ⟨W.heap.size, 7, none⟩ (.slice va V.length vc)).ownsRow W.heap.size 3 1 (.slice va V.length vc) V.length (intV V) from ⟨((((((((RB.set 0 (.int .i64 c)).set 1 (.int .i64 y1)).set 2 (.int .i64 k)).set 3 (.int .i64 a)).set 4 (.int .i64 b)).set 5 (.int .i64 e)).set 6 (.slice pa P.length pc)).set 7 (.slice va V.length vc)), (Cu.setCell (Cu.setCell (Cu.setCell (Cu.setCell (Cu.setCell (Cu.setCell (Cu.setCell (Cu.setCell CC hpW (Nat.le_refl _) 0 (.int .i64 c)) hpW (Nat.le_refl _) 1 (.int .i64 y1)) hpW (Nat.le_refl _) 2 (.int .i64 k)) hpW (Nat.le_refl _) 3 (.int .i64 a)) hpW (Nat.le_refl _) 4 (.int .i64 b)) hpW (Nat.le_refl _) 5 (.int .i64 e)) hpW (Nat.le_refl _) 6 (.slice pa P.length pc)) hpW (Nat.le_refl _) 7 (.slice va V.length vc)), ownsRow_le (ownsRow_setCell_below (ownsRow_setCell_below (ownsRow_setCell_below (ownsRow_setCell_below (ownsRow_setCell_below (ownsRow_setCell_below (ownsRow_setCell_below (ownsRow_setCell_below OP (a := ⟨W.heap.size, 0, none⟩) (by dsimp only; omega) (.int .i64 c)) (a := ⟨W.heap.size, 1, none⟩) (by dsimp only; omega) (.int .i64 y1)) (a := ⟨W.heap.size, 2, none⟩) (by dsimp only; omega) (.int .i64 k)) (a := ⟨W.heap.size, 3, none⟩) (by dsimp only; omega) (.int .i64 a)) (a := ⟨W.heap.size, 4, none⟩) (by dsimp only; omega) (.int .i64 b)) (a := ⟨W.heap.size, 5, none⟩) (by dsimp only; omega) (.int .i64 e)) (a := ⟨W.heap.size, 6, none⟩) (by dsimp only; omega) (.slice pa P.length pc)) (a := ⟨W.heap.size, 7, none⟩) (by dsimp only; omega) (.slice va V.length vc)) (by omega), ownsRow_le (ownsRow_setCell_below (ownsRow_setCell_below (ownsRow_setCell_below (ownsRow_setCell_below (ownsRow_setCell_below (ownsRow_setCell_below (ownsRow_setCell_below (ownsRow_setCell_below OV (a := ⟨W.heap.size, 0, none⟩) (by dsimp only; omega) (.int .i64 c)) (a := ⟨W.heap.size, 1, none⟩) (by dsimp only; omega) (.int .i64 y1)) (a := ⟨W.heap.size, 2, none⟩) (by dsimp only; omega) (.int .i64 k)) (a := ⟨W.heap.size, 3, none⟩) (by dsimp only; omega) (.int .i64 a)) (a := ⟨W.heap.size, 4, none⟩) (by dsimp only; omega) (.int .i64 b)) (a := ⟨W.heap.size, 5, none⟩) (by dsimp only; omega) (.int .i64 e)) (a := ⟨W.heap.size, 6, none⟩) (by dsimp only; omega) (.slice pa P.length pc)) (a := ⟨W.heap.size, 7, none⟩) (by dsimp only; omega) (.slice va V.length vc)) (by omega)⟩)
              have NQ : ¬ q = W.heap.size := by omega
              have NR : ¬ W.heap.size = q := by omega
              clear RB QB CC
              go_wp2
              have G := F.out
              exact bodyPost_ret (res_t rfl _ _ W.heap.size _ _ _ _ _ _ _ _ rfl (G.1.at 0 rfl) (G.1.at 1 rfl) (G.1.at 2 rfl) (G.1.at 3 rfl) (G.1.at 4 rfl) (G.1.at 5 rfl) (G.1.at 6 rfl) (G.1.at 7 rfl)) rfl ⟨c, y1, k, a, b, e, pa, P, pc, va, V, vc, rfl, y1i, G.2.2.1, G.2.2.2, by first | omega | (have := hyl.out; omega), by first | omega | (have := hyl.out; omega), G.2.1⟩
            · obtain ⟨w33, hw33⟩ : ∃ v, w32.alloc (.cells #[.int .i64 0, .int .i64 1000000, .int .i64 1000001] 3) = v := ⟨_, rfl⟩
              have RBN := RB.alloc RB.lt (.cells #[.int .i64 0, .int .i64 1000000, .int .i64 1000001] 3)
              have KKN := KK.below ((Below.refl _ w32).alloc (Nat.le_refl _) (.cells #[.int .i64 0, .int .i64 1000000, .int .i64 1000001] 3))
              have CCN := CC.alloc (.cells #[.int .i64 0, .int .i64 1000000, .int .i64 1000001] 3)
              have pg : p < w32.heap.size := CC.lt
              have rg : W.heap.size < w32.heap.size := RB.lt
              have LB : Blk w32.heap.size [.int .i64 0, .int .i64 1000000, .int .i64 1000001] w33 := by rw [← hw33]; exact Blk.new _ _ _
              rw [hw33] at RBN KKN CCN
              clear RB KK CC
              have RB := RBN
              have KK := KKN
              have CC := CCN
              clear RBN KKN CCN
              have HX := pickI w32.heap.size 3 [0, 1000000, 1000001] CC.here (by omega) (by omega) pg LB.lt (by decide) LB (by decide)
              go_wp2_with fail
              try rw [hw33]
              refine HX.mono ?_
              clear HX hw33
              rintro en w34 ⟨y2, rfl, y2i, C⟩
              have RBN := RB.only C.2 RB.lt (by omega)
              have KKN := KK.draw C.2 (by omega)
              have CCN := CC.next C
              clear RB KK CC
              have RB := RBN
              have KK := KKN
              have CC := CCN
              clear RBN KKN CCN
              clear C
              clear LB pg rg
              obtain ⟨w35, hw35⟩ : ∃ v, w34.setCell ⟨q, 2, none⟩ (.int .i64 y2) = v := ⟨_, rfl⟩
              have uq := KK.blk.at 2 rfl
              have vq := KK.blk.fz 2 rfl
              have K2 : KT q c s y2 a b e pa pc P va vc V w35 := by rw [← hw35]; exact KK.set 2 (.int .i64 y2) rfl
              have RBN : Blk W.heap.size [.int .i64 0, .int .i64 0, .int .i64 0, .int .i64 0, .int .i64 0, .int .i64 0, .slice none 0 0, .slice none 0 0] w35 := by rw [← hw35]; exact RB.far (by omega) 2 (.int .i64 y2)
              have CCN : Cu p ad len cap zs W w35 := by rw [← hw35]; exact Cu.setCell CC hpW (by omega) 2 (.int .i64 y2)
              clear RB CC KK
              have RB := RBN
              have CC := CCN
              clear RBN CCN
              have QB := K2.blk
              have OP := K2.op
              have OV := K2.ov
              clear K2
              have r0 := RB.at 0 rfl
              have r1 := RB.at 1 rfl
              have r2 := RB.at 2 rfl
              have r3 := RB.at 3 rfl
              have r4 := RB.at 4 rfl
              have r5 := RB.at 5 rfl
              have r6 := RB.at 6 rfl
              have r7 := RB.at 7 rfl
              have g0 := RB.fz 0 rfl
              have g1 := RB.fz 1 rfl
              have g2 := RB.fz 2 rfl
              have g3 := RB.fz 3 rfl
              have g4 := RB.fz 4 rfl
              have g5 := RB.fz 5 rfl
              have g6 := RB.fz 6 rfl
              have g7 := RB.fz 7 rfl
              have q0 := QB.at 0 rfl
              have q1 := QB.at 1 rfl
              have q2 := QB.at 2 rfl
              have q3 := QB.at 3 rfl
              have q4 := QB.at 4 rfl
              have q5 := QB.at 5 rfl
              have q6 := QB.at 6 rfl
              have q7 := QB.at 7 rfl
              have F := show Hid _ from (show Blk W.heap.size [.int .i64 c, .int .i64 s, .int .i64 y2, .int .i64 a, .int .i64 b, .int .i64 e, .slice pa P.length pc, .slice va V.length vc] (((((((((w35).setCell ⟨W.heap.size, 0, none⟩ (.int .i64 c)).setCell ⟨W.heap.size, 1, none⟩ (.int .i64 s)).setCell ⟨W.heap.size, 2, none⟩ (.int .i64 y2)).setCell ⟨W.heap.size, 3, none⟩ (.int .i64 a)).setCell ⟨W.heap.size, 4, none⟩ (.int .i64 b)).setCell ⟨W.heap.size, 5, none⟩ (.int .i64 e)).setCell ⟨W.heap.size, 6, none⟩ (.slice pa P.length pc)).setCell ⟨W.heap.size, 7, none⟩ (.slice va V.length vc)) ∧ Cu p ad len cap zs W (((((((((w35).setCell ⟨W.heap.size, 0, none⟩ (.int .i64 c)).setCell ⟨W.heap.size, 1, none⟩ (.int .i64 s)).setCell ⟨W.heap.size, 2, none⟩ (.int .i64 y2)).setCell ⟨W.heap.size, 3, none⟩ (.int .i64 a)).setCell ⟨W.heap.size, 4, none⟩ (.int .i64 b)).setCell ⟨W.heap.size, 5, none⟩ (.int .i64 e)).setCell ⟨W.heap.size, 6, none⟩ (.slice pa P.length pc)).setCell ⟨W.heap.size, 7, none⟩ (.slice va V.length vc)) ∧ (((((((((w35).setCell ⟨W.heap.size, 0, none⟩ (.int .i64 c)).setCell ⟨W.heap.size, 1, none⟩ (.int .i64 s)).setCell ⟨W.heap.size, 2, none⟩ (.int .i64 y2)).setCell ⟨W.heap.size, 3, none⟩ (.int .i64 a)).setCell ⟨W.heap.size, 4, none⟩ (.int .i64 b)).setCell ⟨W.heap.size, 5, none⟩ (.int .i64 e)).setCell ⟨W.heap.size, 6, none⟩ (.slice pa P.length pc)).setCell ⟨W.heap.size, 7, none⟩ (.slice va V.length vc)).ownsRow W.heap.size 3 1 (.slice pa P.length pc) P.length (intV P) ∧ (((((((((w35).setCell ⟨W.heap.size, 0, none⟩ (.int .i64 c)).setCell ⟨W.heap.size, 1, none⟩ (.int .i64 s)).setCell ⟨W.heap.size, 2, none⟩ (.int .i64 y2)).setCell ⟨W.heap.size, 3, none⟩ (.int .i64 a)).setCell ⟨W.heap.size, 4, none⟩ (.int .i64 b)).setCell ⟨W.heap.size, 5, none⟩ (.int .i64 e)).setCell ⟨W.heap.size, 6, none⟩ (.slice pa P.length pc)).setCell ⟨W.heap.size, 7, none⟩ (.slice va V.length vc)).ownsRow W.heap.size 3 1 (.slice va V.length vc) V.length (intV V) from ⟨((((((((RB.set 0 (.int .i64 c)).set 1 (.int .i64 s)).set 2 (.int .i64 y2)).set 3 (.int .i64 a)).set 4 (.int .i64 b)).set 5 (.int .i64 e)).set 6 (.slice pa P.length pc)).set 7 (.slice va V.length vc)), (Cu.setCell (Cu.setCell (Cu.setCell (Cu.setCell (Cu.setCell (Cu.setCell (Cu.setCell (Cu.setCell CC hpW (Nat.le_refl _) 0 (.int .i64 c)) hpW (Nat.le_refl _) 1 (.int .i64 s)) hpW (Nat.le_refl _) 2 (.int .i64 y2)) hpW (Nat.le_refl _) 3 (.int .i64 a)) hpW (Nat.le_refl _) 4 (.int .i64 b)) hpW (Nat.le_refl _) 5 (.int .i64 e)) hpW (Nat.le_refl _) 6 (.slice pa P.length pc)) hpW (Nat.le_refl _) 7 (.slice va V.length vc)), ownsRow_le (ownsRow_setCell_below (ownsRow_setCell_below (ownsRow_setCell_below (ownsRow_setCell_below (ownsRow_setCell_below (ownsRow_setCell_below (ownsRow_setCell_below (ownsRow_setCell_below OP (a := ⟨W.heap.size, 0, none⟩) (by dsimp only; omega) (.int .i64 c)) (a := ⟨W.heap.size, 1, none⟩) (by dsimp only; omega) (.int .i64 s)) (a := ⟨W.heap.size, 2, none⟩) (by dsimp only; omega) (.int .i64 y2)) (a := ⟨W.heap.size, 3, none⟩) (by dsimp only; omega) (.int .i64 a)) (a := ⟨W.heap.size, 4, none⟩) (by dsimp only; omega) (.int .i64 b)) (a := ⟨W.heap.size, 5, none⟩) (by dsimp only; omega) (.int .i64 e)) (a := ⟨W.heap.size, 6, none⟩) (by dsimp only; omega) (.slice pa P.length pc)) (a := ⟨W.heap.size, 7, none⟩) (by dsimp only; omega) (.slice va V.length vc)) (by omega), ownsRow_le (ownsRow_setCell_below (ownsRow_setCell_below (ownsRow_setCell_below (ownsRow_setCell_below (ownsRow_setCell_below (ownsRow_setCell_below (ownsRow_setCell_below (ownsRow_setCell_below OV (a := ⟨W.heap.size, 0, none⟩) (by dsimp only; omega) (.int .i64 c)) (a := ⟨W.heap.size, 1, none⟩) (by dsimp only; omega) (.int .i64 s)) (a := ⟨W.heap.size, 2, none⟩) (by dsimp only; omega) (.int .i64 y2)) (a := ⟨W.heap.size, 3, none⟩) (by dsimp only; omega) (.int .i64 a)) (a := ⟨W.heap.size, 4, none⟩) (by dsimp only; omega) (.int .i64 b)) (a := ⟨W.heap.size, 5, none⟩) (by dsimp only; omega) (.int .i64 e)) (a := ⟨W.heap.size, 6, none⟩) (by dsimp only; omega) (.slice pa P.length pc)) (a := ⟨W.heap.size, 7, none⟩) (by dsimp only; omega) (.slice va V.length vc)) (by omega)⟩)
              have NQ : ¬ q = W.heap.size := by omega
              have NR : ¬ W.heap.size = q := by omega
              clear RB QB CC
              go_wp2
              have G := F.out
              exact bodyPost_ret (res_t rfl _ _ W.heap.size _ _ _ _ _ _ _ _ rfl (G.1.at 0 rfl) (G.1.at 1 rfl) (G.1.at 2 rfl) (G.1.at 3 rfl) (G.1.at 4 rfl) (G.1.at 5 rfl) (G.1.at 6 rfl) (G.1.at 7 rfl)) rfl ⟨c, s, y2, a, b, e, pa, P, pc, va, V, vc, rfl, si, G.2.2.1, G.2.2.2, by first | omega | (have := hyl.out; omega), by first | omega | (have := hyl.out; omega), G.2.1⟩
            · have HX := anyW CC.here
              go_wp2_with fail
              refine HX.mono ?_
              clear HX
              rintro en w33 ⟨y3, y4, y5, rfl, C⟩
              have RBN := RB.only C.2 RB.lt (by omega)
              have KKN := KK.draw C.2 (by omega)
              have CCN := CC.next C
              clear RB KK CC
              have RB := RBN
              have KK := KKN
              have CC := CCN
              clear RBN KKN CCN
              clear C
              obtain ⟨w34, hw34⟩ : ∃ v, (((w33).setCell ⟨q, 3, none⟩ (.int .i64 y3)).setCell ⟨q, 4, none⟩ (.int .i64 y4)).setCell ⟨q, 5, none⟩ (.int .i64 y5) = v := ⟨_, rfl⟩
              have uq3 := KK.blk.at 3 rfl
              have vq3 := KK.blk.fz 3 rfl
              have uq4 := KK.blk.at 4 rfl
              have vq4 := KK.blk.fz 4 rfl
              have uq5 := KK.blk.at 5 rfl
              have vq5 := KK.blk.fz 5 rfl
              have K2 : KT q c s k y3 y4 y5 pa pc P va vc V w34 := by rw [← hw34]; exact ((KK.set 3 (.int .i64 y3) (c2 := c) (s2 := s) (k2 := k) (a2 := y3) (b2 := b) (e2 := e) rfl).set 4 (.int .i64 y4) (c2 := c) (s2 := s) (k2 := k) (a2 := y3) (b2 := y4) (e2 := e) rfl).set 5 (.int .i64 y5) rfl
              have RBN : Blk W.heap.size [.int .i64 0, .int .i64 0, .int .i64 0, .int .i64 0, .int .i64 0, .int .i64 0, .slice none 0 0, .slice none 0 0] w34 := by rw [← hw34]; exact ((RB.far (by omega) 3 _).far (by omega) 4 _).far (by omega) 5 _
              have CCN : Cu p ad len cap zs W w34 := by rw [← hw34]; exact Cu.setCell (Cu.setCell (Cu.setCell CC hpW (by omega) 3 _) hpW (by omega) 4 _) hpW (by omega) 5 _
              clear RB CC KK
              have RB := RBN
              have CC := CCN
              clear RBN CCN
              have QB := K2.blk
              have OP := K2.op
              have OV := K2.ov
              clear K2
              have r0 := RB.at 0 rfl
              have r1 := RB.at 1 rfl
              have r2 := RB.at 2 rfl
              have r3 := RB.at 3 rfl
              have r4 := RB.at 4 rfl
              have r5 := RB.at 5 rfl
              have r6 := RB.at 6 rfl
              have r7 := RB.at 7 rfl
              have g0 := RB.fz 0 rfl
              have g1 := RB.fz 1 rfl
              have g2 := RB.fz 2 rfl
              have g3 := RB.fz 3 rfl
              have g4 := RB.fz 4 rfl
              have g5 := RB.fz 5 rfl
              have g6 := RB.fz 6 rfl
              have g7 := RB.fz 7 rfl
              have q0 := QB.at 0 rfl
              have q1 := QB.at 1 rfl
              have q2 := QB.at 2 rfl
              have q3 := QB.at 3 rfl
              have q4 := QB.at 4 rfl
              have q5 := QB.at 5 rfl
              have q6 := QB.at 6 rfl
              have q7 := QB.at 7 rfl
              have F := show Hid _ from (show Blk W.heap.size [.int .i64 c, .int .i64 s, .int .i64 k, .int .i64 y3, .int .i64 y4, .int .i64 y5, .slice pa P.length pc, .slice va V.length vc] (((((((((w34).setCell ⟨W.heap.size, 0, none⟩ (.int .i64 c)).setCell ⟨W.heap.size, 1, none⟩ (.int .i64 s)).setCell ⟨W.heap.size, 2, none⟩ (.int .i64 k)).setCell ⟨W.heap.size, 3, none⟩ (.int .i64 y3)).setCell ⟨W.heap.size, 4, none⟩ (.int .i64 y4)).setCell ⟨W.heap.size, 5, none⟩ (.int .i64 y5)).setCell ⟨W.heap.size, 6, none⟩ (.slice pa P.length pc)).setCell ⟨W.heap.size, 7, none⟩ (.slice va V.length vc)) ∧ Cu p ad len cap zs W (((((((((w34).setCell ⟨W.heap.size, 0, none⟩ (.int .i64 c)).setCell ⟨W.heap.size, 1, none⟩ (.int .i64 s)).setCell ⟨W.heap.size, 2, none⟩ (.int .i64 k)).setCell ⟨W.heap.size, 3, none⟩ (.int .i64 y3)).setCell ⟨W.heap.size, 4, none⟩ (.int .i64 y4)).setCell ⟨W.heap.size, 5, none⟩ (.int .i64 y5)).setCell ⟨W.heap.size, 6, none⟩ (.slice pa P.length pc)).setCell ⟨W.heap.size, 7, none⟩ (.slice va V.length vc)) ∧ (((((((((w34).setCell ⟨W.heap.size, 0, none⟩ (.int .i64 c)).setCell ⟨W.heap.size, 1, none⟩ (.int .i64 s)).setCell ⟨W.heap.size, 2, none⟩ (.int .i64 k)).setCell ⟨W.heap.size, 3, none⟩ (.int .i64 y3)).setCell ⟨W.heap.size, 4, none⟩ (.int .i64 y4)).setCell ⟨W.heap.size, 5, none⟩ (.int .i64 y5)).setCell ⟨W.heap.size, 6, none⟩ (.slice pa P.length pc)).setCell ⟨W.heap.size, 7, none⟩ (.slice va V.length vc)).ownsRow W.heap.size 3 1 (.slice pa P.length pc) P.length (intV P) ∧ (((((((((w34).setCell ⟨W.heap.size, 0, none⟩ (.int .i64 c)).setCell ⟨W.heap.size, 1, none⟩ (.int .i64 s)).setCell ⟨W.heap.size, 2, none⟩ (.int .i64 k)).setCell ⟨W.heap.size, 3, none⟩ (.int .i64 y3)).setCell ⟨W.heap.size, 4, none⟩ (.int .i64 y4)).setCell ⟨W.heap.size, 5, none⟩ (.int .i64 y5)).setCell ⟨W.heap.size, 6, none⟩ (.slice pa P.length pc)).setCell ⟨W.heap.size, 7, none⟩ (.slice va V.length vc)).ownsRow W.heap.size 3 1 (.slice va V.length vc) V.length (intV V) from ⟨((((((((RB.set 0 (.int .i64 c)).set 1 (.int .i64 s)).set 2 (.int .i64 k)).set 3 (.int .i64 y3)).set 4 (.int .i64 y4)).set 5 (.int .i64 y5)).set 6 (.slice pa P.length pc)).set 7 (.slice va V.length vc)), (Cu.setCell (Cu.setCell (Cu.setCell (Cu.setCell (Cu.setCell (Cu.setCell (Cu.setCell (Cu.setCell CC hpW (Nat.le_refl _) 0 (.int .i64 c)) hpW (Nat.le_refl _) 1 (.int .i64 s)) hpW (Nat.le_refl _) 2 (.int .i64 k)) hpW (Nat.le_refl _) 3 (.int .i64 y3)) hpW (Nat.le_refl _) 4 (.int .i64 y4)) hpW (Nat.le_refl _) 5 (.int .i64 y5)) hpW (Nat.le_refl _) 6 (.slice pa P.length pc)) hpW (Nat.le_refl _) 7 (.slice va V.length vc)), ownsRow_le (ownsRow_setCell_below (ownsRow_setCell_below (ownsRow_setCell_below (ownsRow_setCell_below (ownsRow_setCell_below (ownsRow_setCell_below (ownsRow_setCell_below (ownsRow_setCell_below OP (a := ⟨W.heap.size, 0, none⟩) (by dsimp only; omega) (.int .i64 c)) (a := ⟨W.heap.size, 1, none⟩) (by dsimp only; omega) (.int .i64 s)) (a := ⟨W.heap.size, 2, none⟩) (by dsimp only; omega) (.int .i64 k)) (a := ⟨W.heap.size, 3, none⟩) (by dsimp only; omega) (.int .i64 y3)) (a := ⟨W.heap.size, 4, none⟩) (by dsimp only; omega) (.int .i64 y4)) (a := ⟨W.heap.size, 5, none⟩) (by dsimp only; omega) (.int .i64 y5)) (a := ⟨W.heap.size, 6, none⟩) (by dsimp only; omega) (.slice pa P.length pc)) (a := ⟨W.heap.size, 7, none⟩) (by dsimp only; omega) (.slice va V.length vc)) (by omega), ownsRow_le (ownsRow_setCell_below (ownsRow_setCell_below (ownsRow_setCell_below (ownsRow_setCell_below (ownsRow_setCell_below (ownsRow_setCell_below (ownsRow_setCell_below (ownsRow_setCell_below OV (a := ⟨W.heap.size, 0, none⟩) (by dsimp only; omega) (.int .i64 c)) (a := ⟨W.heap.size, 1, none⟩) (by dsimp only; omega) (.int .i64 s)) (a := ⟨W.heap.size, 2, none⟩) (by dsimp only; omega) (.int .i64 k)) (a := ⟨W.heap.size, 3, none⟩) (by dsimp only; omega) (.int .i64 y3)) (a := ⟨W.heap.size, 4, none⟩) (by dsimp only; omega) (.int .i64 y4)) (a := ⟨W.heap.size, 5, none⟩) (by dsimp only; omega) (.int .i64 y5)) (a := ⟨W.heap.size, 6, none⟩) (by dsimp only; omega) (.slice pa P.length pc)) (a := ⟨W.heap.size, 7, none⟩) (by dsimp only; omega) (.slice va V.length vc)) (by omega)⟩)
              have NQ : ¬ q = W.heap.size := by omega
              have NR : ¬ W.heap.size = q := by omega
              clear RB QB CC
              go_wp2
              have G := F.out
              exact bodyPost_ret (res_t rfl _ _ W.heap.size _ _ _ _ _ _ _ _ rfl (G.1.at 0 rfl) (G.1.at 1 rfl) (G.1.at 2 rfl) (G.1.at 3 rfl) (G.1.at 4 rfl) (G.1.at 5 rfl) (G.1.at 6 rfl) (G.1.at 7 rfl)) rfl ⟨c, s, k, y3, y4, y5, pa, P, pc, va, V, vc, rfl, si, G.2.2.1, G.2.2.2, by first | omega | (have := hyl.out; omega), by first | omega | (have := hyl.out; omega), G.2.1⟩
            · have e1 := KK.blk.at 6 rfl
              have e2 := (KK.blk.alloc KK.lt (.cells #[.int .i64 0, .int .i64 1, .int .i64 2, .int .i64 3] 3)).at 6 rfl
              go_wp2_with (first | (at_builtin; refine wpList_append_own _ rfl _ _ 26 rfl (q + 1) 3 i0 (.int .i64 0) 1 8 Tryz.underlying26 hi hz0 hz1 hz2 rfl (by decide) (.slice pa P.length pc) P.length (intV P) rfl (KK.op.alloc _) ⟨w32.heap.size, 0, none⟩ 4 4 (intV [0, 1, 2, 3]) rfl rfl (cells_new w32 [0, 1, 2, 3]) (by intro u hu; simp [intV] at hu; rcases hu with rfl | rfl | rfl | rfl <;> rfl) (by unfold maxLen; omega) (by omega) (by have := KK.lt; simp; omega) ?_) | go_in)
              intro v' w9 hown hgrow hiff
              obtain ⟨n2, c2, rfl, KB, hb9, O1, B1, O2⟩ := KK.appP (ys := [0, 1, 2, 3]) hown hgrow
              have hyl : Hid ((P ++ [0, 1, 2, 3]).length = P.length + 4) := by show _ = _; simp
              generalize P ++ [0, 1, 2, 3] = Y at O1 B1 O2 hyl ⊢
              have uq := KB.at 6 rfl
              have vq := KB.fz 6 rfl
              obtain ⟨w11, hw11⟩ : ∃ v, w9.setCell ⟨q, 6, none⟩ (.slice n2 Y.length c2) = v := ⟨_, rfl⟩
              have RBN : Blk W.heap.size [.int .i64 0, .int .i64 0, .int .i64 0, .int .i64 0, .int .i64 0, .int .i64 0, .slice none 0 0, .slice none 0 0] w11 := by rw [← hw11]; exact (RB.lower hb9 (by omega)).far (by omega) 6 _
              have CCN : Cu p ad len cap zs W w11 := by rw [← hw11]; exact Draw.Cu.set (q := q) (Draw.Cu.down CC hb9 (by omega) (by omega)) (by omega) (by omega) 6 _
              rw [hw11] at O1 B1 O2
              clear RB CC KK KB hown hgrow hiff hb9 e1 e2
              have RB := RBN
              have CC := CCN
              have QB := B1
              clear RBN CCN B1
              have r0 := RB.at 0 rfl
              have r1 := RB.at 1 rfl
              have r2 := RB.at 2 rfl
              have r3 := RB.at 3 rfl
              have r4 := RB.at 4 rfl
              have r5 := RB.at 5 rfl
              have r6 := RB.at 6 rfl
              have r7 := RB.at 7 rfl
              have g0 := RB.fz 0 rfl
              have g1 := RB.fz 1 rfl
              have g2 := RB.fz 2 rfl
              have g3 := RB.fz 3 rfl
              have g4 := RB.fz 4 rfl
              have g5 := RB.fz 5 rfl
              have g6 := RB.fz 6 rfl
              have g7 := RB.fz 7 rfl
              have q0 := QB.at 0 rfl
              have q1 := QB.at 1 rfl
              have q2 := QB.at 2 rfl
              have q3 := QB.at 3 rfl
              have q4 := QB.at 4 rfl
              have q5 := QB.at 5 rfl
              have q6 := QB.at 6 rfl
              have q7 := QB.at 7 rfl
              have F := show Hid _ from (show Blk W.heap.size [.int .i64 c, .int .i64 s, .int .i64 k, .int .i64 a, .int .i64 b, .int .i64 e, .slice n2 Y.length c2, .slice va V.length vc] (((((((((w11).setCell ⟨W.heap.size, 0, none⟩ (.int .i64 c)).setCell ⟨W.heap.size, 1, none⟩ (.int .i64 s)).setCell ⟨W.heap.size, 2, none⟩ (.int .i64 k)).setCell ⟨W.heap.size, 3, none⟩ (.int .i64 a)).setCell ⟨W.heap.size, 4, none⟩ (.int .i64 b)).setCell ⟨W.heap.size, 5, none⟩ (.int .i64 e)).setCell ⟨W.heap.size, 6, none⟩ (.slice n2 Y.length c2)).setCell ⟨W.heap.size, 7, none⟩ (.slice va V.length vc)) ∧ Cu p ad len cap zs W (((((((((w11).setCell ⟨W.heap.size, 0, none⟩ (.int .i64 c)).setCell ⟨W.heap.size, 1, none⟩ (.int .i64 s)).setCell ⟨W.heap.size, 2, none⟩ (.int .i64 k)).setCell ⟨W.heap.size, 3, none⟩ (.int .i64 a)).setCell ⟨W.heap.size, 4, none⟩ (.int .i64 b)).setCell ⟨W.heap.size, 5, none⟩ (.int .i64 e)).setCell ⟨W.heap.size, 6, none⟩ (.slice n2 Y.length c2)).setCell ⟨W.heap.size, 7, none⟩ (.slice va V.length vc)) ∧ (((((((((w11).setCell ⟨W.heap.size, 0, none⟩ (.int .i64 c)).setCell ⟨W.heap.size, 1, none⟩ (.int .i64 s)).setCell ⟨W.heap.size, 2, none⟩ (.int .i64 k)).setCell ⟨W.heap.size, 3, none⟩ (.int .i64 a)).setCell ⟨W.heap.size, 4, none⟩ (.int .i64 b)).setCell ⟨W.heap.size, 5, none⟩ (.int .i64 e)).setCell ⟨W.heap.size, 6, none⟩ (.slice n2 Y.length c2)).setCell ⟨W.heap.size, 7, none⟩ (.slice va V.length vc)).ownsRow W.heap.size 3 1 (.slice n2 Y.length c2) Y.length (intV Y) ∧ (((((((((w11).setCell ⟨W.heap.size, 0, none⟩ (.int .i64 c)).setCell ⟨W.heap.size, 1, none⟩ (.int .i64 s)).setCell ⟨W.heap.size, 2, none⟩ (.int .i64 k)).setCell ⟨W.heap.size, 3, none⟩ (.int .i64 a)).setCell ⟨W.heap.size, 4, none⟩ (.int .i64 b)).setCell ⟨W.heap.size, 5, none⟩ (.int .i64 e)).setCell ⟨W.heap.size, 6, none⟩ (.slice n2 Y.length c2)).setCell ⟨W.heap.size, 7, none⟩ (.slice va V.length vc)).ownsRow W.heap.size 3 1 (.slice va V.length vc) V.length (intV V) from ⟨((((((((RB.set 0 (.int .i64 c)).set 1 (.int .i64 s)).set 2 (.int .i64 k)).set 3 (.int .i64 a)).set 4 (.int .i64 b)).set 5 (.int .i64 e)).set 6 (.slice n2 Y.length c2)).set 7 (.slice va V.length vc)), (Cu.setCell (Cu.setCell (Cu.setCell (Cu.setCell (Cu.setCell (Cu.setCell (Cu.setCell (Cu.setCell CC hpW (Nat.le_refl _) 0 (.int .i64 c)) hpW (Nat.le_refl _) 1 (.int .i64 s)) hpW (Nat.le_refl _) 2 (.int .i64 k)) hpW (Nat.le_refl _) 3 (.int .i64 a)) hpW (Nat.le_refl _) 4 (.int .i64 b)) hpW (Nat.le_refl _) 5 (.int .i64 e)) hpW (Nat.le_refl _) 6 (.slice n2 Y.length c2)) hpW (Nat.le_refl _) 7 (.slice va V.length vc)), ownsRow_le (ownsRow_setCell_below (ownsRow_setCell_below (ownsRow_setCell_below (ownsRow_setCell_below (ownsRow_setCell_below (ownsRow_setCell_below (ownsRow_setCell_below (ownsRow_setCell_below O1 (a := ⟨W.heap.size, 0, none⟩) (by dsimp only; omega) (.int .i64 c)) (a := ⟨W.heap.size, 1, none⟩) (by dsimp only; omega) (.int .i64 s)) (a := ⟨W.heap.size, 2, none⟩) (by dsimp only; omega) (.int .i64 k)) (a := ⟨W.heap.size, 3, none⟩) (by dsimp only; omega) (.int .i64 a)) (a := ⟨W.heap.size, 4, none⟩) (by dsimp only; omega) (.int .i64 b)) (a := ⟨W.heap.size, 5, none⟩) (by dsimp only; omega) (.int .i64 e)) (a := ⟨W.heap.size, 6, none⟩) (by dsimp only; omega) (.slice n2 Y.length c2)) (a := ⟨W.heap.size, 7, none⟩) (by dsimp only; omega) (.slice va V.length vc)) (by omega), ownsRow_le (ownsRow_setCell_below (ownsRow_setCell_below (ownsRow_setCell_below (ownsRow_setCell_below (ownsRow_setCell_below (ownsRow_setCell_below (ownsRow_setCell_below (ownsRow_setCell_below O2 (a := ⟨W.heap.size, 0, none⟩) (by dsimp only; omega) (.int .i64 c)) (a := ⟨W.heap.size, 1, none⟩) (by dsimp only; omega) (.int .i64 s)) (a := ⟨W.heap.size, 2, none⟩) (by dsimp only; omega) (.int .i64 k)) (a := ⟨W.heap.size, 3, none⟩) (by dsimp only; omega) (.int .i64 a)) (a := ⟨W.heap.size, 4, none⟩) (by dsimp only; omega) (.int .i64 b)) (a := ⟨W.heap.size, 5, none⟩) (by dsimp only; omega) (.int .i64 e)) (a := ⟨W.heap.size, 6, none⟩) (by dsimp only; omega) (.slice n2 Y.length c2)) (a := ⟨W.heap.size, 7, none⟩) (by dsimp only; omega) (.slice va V.length vc)) (by omega)⟩)
              have NQ : ¬ q = W.heap.size := by omega
              have NR : ¬ W.heap.size = q := by omega
              clear RB QB CC
              go_wp2
              have G := F.out
              exact bodyPost_ret (res_t rfl _ _ W.heap.size _ _ _ _ _ _ _ _ rfl (G.1.at 0 rfl) (G.1.at 1 rfl) (G.1.at 2 rfl) (G.1.at 3 rfl) (G.1.at 4 rfl) (G.1.at 5 rfl) (G.1.at 6 rfl) (G.1.at 7 rfl)) rfl ⟨c, s, k, a, b, e, n2, Y, c2, va, V, vc, rfl, si, G.2.2.1, G.2.2.2, by first | omega | (have := hyl.out; omega), by first | omega | (have := hyl.out; omega), G.2.1⟩
            · have e1 := KK.blk.at 7 rfl
              have e2 := (KK.blk.alloc KK.lt (.cells #[.int .i64 0, .int .i64 1, .int .i64 2] 3)).at 7 rfl
              go_wp2_with (first | (at_builtin; refine wpList_append_own _ rfl _ _ 26 rfl (q + 1) 3 i0 (.int .i64 0) 1 8 Tryz.underlying26 hi hz0 hz1 hz2 rfl (by decide) (.slice va V.length vc) V.length (intV V) rfl (KK.ov.alloc _) ⟨w32.heap.size, 0, none⟩ 3 3 (intV [0, 1, 2]) rfl rfl (cells_new w32 [0, 1, 2]) (by intro u hu; simp [intV] at hu; rcases hu with rfl | rfl | rfl <;> rfl) (by unfold maxLen; omega) (by omega) (by have := KK.lt; simp; omega) ?_) | go_in)
              intro v' w9 hown hgrow hiff
              obtain ⟨n2, c2, rfl, KB, hb9, O1, B1, O2⟩ := KK.appV (ys := [0, 1, 2]) hown hgrow
              have hyl : Hid ((V ++ [0, 1, 2]).length = V.length + 3) := by show _ = _; simp
              generalize V ++ [0, 1, 2] = Y at O1 B1 O2 hyl ⊢
              have uq := KB.at 7 rfl
              have vq := KB.fz 7 rfl
              obtain ⟨w11, hw11⟩ : ∃ v, w9.setCell ⟨q, 7, none⟩ (.slice n2 Y.length c2) = v := ⟨_, rfl⟩
              have RBN : Blk W.heap.size [.int .i64 0, .int .i64 0, .int .i64 0, .int .i64 0, .int .i64 0, .int .i64 0, .slice none 0 0, .slice none 0 0] w11 := by rw [← hw11]; exact (RB.lower hb9 (by omega)).far (by omega) 7 _
              have CCN : Cu p ad len cap zs W w11 := by rw [← hw11]; exact Draw.Cu.set (q := q) (Draw.Cu.down CC hb9 (by omega) (by omega)) (by omega) (by omega) 7 _
              rw [hw11] at O1 B1 O2
              clear RB CC KK KB hown hgrow hiff hb9 e1 e2
              have RB := RBN
              have CC := CCN
              have QB := B1
              clear RBN CCN B1
              have r0 := RB.at 0 rfl
              have r1 := RB.at 1 rfl
              have r2 := RB.at 2 rfl
              have r3 := RB.at 3 rfl
              have r4 := RB.at 4 rfl
              have r5 := RB.at 5 rfl
              have r6 := RB.at 6 rfl
              have r7 := RB.at 7 rfl
              have g0 := RB.fz 0 rfl
              have g1 := RB.fz 1 rfl
              have g2 := RB.fz 2 rfl
              have g3 := RB.fz 3 rfl
              have g4 := RB.fz 4 rfl
              have g5 := RB.fz 5 rfl
              have g6 := RB.fz 6 rfl
              have g7 := RB.fz 7 rfl
              have q0 := QB.at 0 rfl
              have q1 := QB.at 1 rfl
              have q2 := QB.at 2 rfl
              have q3 := QB.at 3 rfl
              have q4 := QB.at 4 rfl
              have q5 := QB.at 5 rfl
              have q6 := QB.at 6 rfl
              have q7 := QB.at 7 rfl
              have F := show Hid _ from (show Blk W.heap.size [.int .i64 c, .int .i64 s, .int .i64 k, .int .i64 a, .int .i64 b, .int .i64 e, .slice pa P.length pc, .slice n2 Y.length c2] (((((((((w11).setCell ⟨W.heap.size, 0, none⟩ (.int .i64 c)).setCell ⟨W.heap.size, 1, none⟩ (.int .i64 s)).setCell ⟨W.heap.size, 2, none⟩ (.int .i64 k)).setCell ⟨W.heap.size, 3, none⟩ (.int .i64 a)).setCell ⟨W.heap.size, 4, none⟩ (.int .i64 b)).setCell ⟨W.heap.size, 5, none⟩ (.int .i64 e)).setCell ⟨W.heap.size, 6, none⟩ (.slice pa P.length pc)).setCell ⟨W.heap.size, 7, none⟩ (.slice n2 Y.length c2)) ∧ Cu p ad len cap zs W (((((((((w11).setCell ⟨W.heap.size, 0, none⟩ (.int .i64 c)).setCell ⟨W.heap.size, 1, none⟩ (.int .i64 s)).setCell ⟨W.heap.size, 2, none⟩ (.int .i64 k)).setCell ⟨W.heap.size, 3, none⟩ (.int .i64 a)).setCell ⟨W.heap.size, 4, none⟩ (.int .i64 b)).setCell ⟨W.heap.size, 5, none⟩ (.int .i64 e)).setCell ⟨W.heap.size, 6, none⟩ (.slice pa P.length pc)).setCell ⟨W.heap.size, 7, none⟩ (.slice n2 Y.length c2)) ∧ (((((((((w11).setCell ⟨W.heap.size, 0, none⟩ (.int .i64 c)).setCell ⟨W.heap.size, 1, none⟩ (.int .i64 s)).setCell ⟨W.heap.size, 2, none⟩ (.int .i64 k)).setCell ⟨W.heap.size, 3, none⟩ (.int .i64 a)).setCell ⟨W.heap.size, 4, none⟩ (.int .i64 b)).setCell ⟨W.heap.size, 5, none⟩ (.int .i64 e)).setCell ⟨W.heap.size, 6, none⟩ (.slice pa P.length pc)).setCell ⟨W.heap.size, 7, none⟩ (.slice n2 Y.length c2)).ownsRow W.heap.size 3 1 (.slice pa P.length pc) P.length (intV P) ∧ (((((((((w11).setCell ⟨W.heap.size, 0, none⟩ (.int .i64 c)).setCell ⟨W.heap.size, 1, none⟩ (.int .i64 s)).setCell ⟨W.heap.size, 2, none⟩ (.int .i64 k)).setCell ⟨W.heap.size, 3, none⟩ (.int .i64 a)).setCell ⟨W.heap.size, 4, none⟩ (.int .i64 b)).setCell ⟨W.heap.size, 5, none⟩ (.int .i64 e)).setCell ⟨W.heap.size, 6, none⟩ (.slice pa P.length pc)).setCell ⟨W.heap.size, 7, none⟩ (.slice n2 Y.length c2)).ownsRow W.heap.size 3 1 (.slice n2 Y.length c2) Y.length (intV Y) from ⟨((((((((RB.set 0 (.int .i64 c)).set 1 (.int .i64 s)).set 2 (.int .i64 k)).set 3 (.int .i64 a)).set 4 (.int .i64 b)).set 5 (.int .i64 e)).set 6 (.slice pa P.length pc)).set 7 (.slice n2 Y.length c2)), (Cu.setCell (Cu.setCell (Cu.setCell (Cu.setCell (Cu.setCell (Cu.setCell (Cu.setCell (Cu.setCell CC hpW (Nat.le_refl _) 0 (.int .i64 c)) hpW (Nat.le_refl _) 1 (.int .i64 s)) hpW (Nat.le_refl _) 2 (.int .i64 k)) hpW (Nat.le_refl _) 3 (.int .i64 a)) hpW (Nat.le_refl _) 4 (.int .i64 b)) hpW (Nat.le_refl _) 5 (.int .i64 e)) hpW (Nat.le_refl _) 6 (.slice pa P.length pc)) hpW (Nat.le_refl _) 7 (.slice n2 Y.length c2)), ownsRow_le (ownsRow_setCell_below (ownsRow_setCell_below (ownsRow_setCell_below (ownsRow_setCell_below (ownsRow_setCell_below (ownsRow_setCell_below (ownsRow_setCell_below (ownsRow_setCell_below O2 (a := ⟨W.heap.size, 0, none⟩) (by dsimp only; omega) (.int .i64 c)) (a := ⟨W.heap.size, 1, none⟩) (by dsimp only; omega) (.int .i64 s)) (a := ⟨W.heap.size, 2, none⟩) (by dsimp only; omega) (.int .i64 k)) (a := ⟨W.heap.size, 3, none⟩) (by dsimp only; omega) (.int .i64 a)) (a := ⟨W.heap.size, 4, none⟩) (by dsimp only; omega) (.int .i64 b)) (a := ⟨W.heap.size, 5, none⟩) (by dsimp only; omega) (.int .i64 e)) (a := ⟨W.heap.size, 6, none⟩) (by dsimp only; omega) (.slice pa P.length pc)) (a := ⟨W.heap.size, 7, none⟩) (by dsimp only; omega) (.slice n2 Y.length c2)) (by omega), ownsRow_le (ownsRow_setCell_below (ownsRow_setCell_below (ownsRow_setCell_below (ownsRow_setCell_below (ownsRow_setCell_below (ownsRow_setCell_below (ownsRow_setCell_below (ownsRow_setCell_below O1 (a := ⟨W.heap.size, 0, none⟩) (by dsimp only; omega) (.int .i64 c)) (a := ⟨W.heap.size, 1, none⟩) (by dsimp only; omega) (.int .i64 s)) (a := ⟨W.heap.size, 2, none⟩) (by dsimp only; omega) (.int .i64 k)) (a := ⟨W.heap.size, 3, none⟩) (by dsimp only; omega) (.int .i64 a)) (a := ⟨W.heap.size, 4, none⟩) (by dsimp only; omega) (.int .i64 b)) (a := ⟨W.heap.size, 5, none⟩) (by dsimp only; omega) (.int .i64 e)) (a := ⟨W.heap.size, 6, none⟩) (by dsimp only; omega) (.slice pa P.length pc)) (a := ⟨W.heap.size, 7, none⟩) (by dsimp only; omega) (.slice n2 Y.length c2)) (by omega)⟩)
              have NQ : ¬ q = W.heap.size := by omega
              have NR : ¬ W.heap.size = q := by omega
              clear RB QB CC
              go_wp2
              have G := F.out
              exact bodyPost_ret (res_t rfl _ _ W.heap.size _ _ _ _ _ _ _ _ rfl (G.1.at 0 rfl) (G.1.at 1 rfl) (G.1.at 2 rfl) (G.1.at 3 rfl) (G.1.at 4 rfl) (G.1.at 5 rfl) (G.1.at 6 rfl) (G.1.at 7 rfl)) rfl ⟨c, s, k, a, b, e, pa, P, pc, n2, Y, c2, rfl, si, G.2.2.1, G.2.2.2, by first | omega | (have := hyl.out; omega), by first | omega | (have := hyl.out; omega), G.2.1⟩
        · obtain ⟨m, rfl⟩ : ∃ m', m = m' + 1 := ⟨m - 1, by omega⟩
          have hmp : (((m + 1 : Nat)) : Int) > 0 := by omega
          have hmd : decide ((((m + 1 : Nat)) : Int) > 0) = true := decide_eq_true hmp
          have e1 := KK.blk.at 7 rfl
          have e2 := KK.drew.blk.at 7 rfl
          go_wp2_with fail
          refine wp_region_any (by kernel_rfl) ?_
          show wpAny _ _ _ _ _ _ _ wr.drew
          refine take_any 0 36 (v := ?_) rfl rfl (by kernel_rfl) (by kernel_rfl) (by kernel_rfl) (fun _ _ _ h => h) (Or.inl ⟨by rfl, ?_⟩) ?_
          rotate_left
          · intro w'; go_simp; try with_reducible rfl
          try simp only [Act.put, List.setIfInBounds_toArray, List.set_cons_zero, List.set_cons_succ]
          refine take_any 2 38 (v := ?_) rfl rfl (by kernel_rfl) (by kernel_rfl) (by kernel_rfl) (fun _ _ _ h => h) (Or.inl ⟨by rfl, ?_⟩) ?_
          rotate_left
          · intro w'; go_simp; try with_reducible rfl
          try simp only [Act.put, List.setIfInBounds_toArray, List.set_cons_zero, List.set_cons_succ]
          refine wpAny_ready (rs := [1, 3]) (by kernel_rfl) (by simp) ?_
          refine AllReady.cons (i := 1) rfl (fun K hK => ?_) (AllReady.cons (i := 3) rfl (fun K hK => ?_) AllReady.nil)
          · go_simp
            refine hK _ _ ?_
            clear hK K
            try simp only [Act.put, List.setIfInBounds_toArray, List.set_cons_zero, List.set_cons_succ]
            refine wpAny_ready (rs := [3]) (by kernel_rfl) (by simp) ?_
            refine AllReady.cons (i := 3) rfl (fun K hK => ?_) AllReady.nil
            have hK3 : Shut _ := hK
            clear hK
            go_simp
            refine (belowW 3 CC.drew.here (by omega) (by omega)).mono ?_
            rintro en w8 ⟨x, rfl, xa, xb, C⟩
            have K8 := KK.drew.draw C.2 (by omega)
            have R8 := RB.drew.only C.2 RB.drew.lt (by omega)
            have C8 := CC.drew.next C
            have e8 := K8.blk.at 7 rfl
            have e8a : (w8.alloc (.cells #[.int .i64 x] 3)).cell? ⟨q, 7, none⟩ = some (.slice va V.length vc) := (K8.blk.alloc K8.lt _).at 7 rfl
            go_wp2_with fail
            refine hK3.out _ _ ?_
            clear hK3 K
            try simp only [Act.put, List.setIfInBounds_toArray, List.set_cons_zero, List.set_cons_succ]
            refine wpAny_ready (rs := [4]) (by kernel_rfl) (by simp) ?_
            refine AllReady.cons (i := 4) rfl (fun K hK => ?_) AllReady.nil
            go_simp
            refine hK _ _ ?_
            clear hK K
            try simp only [Act.put, List.setIfInBounds_toArray, List.set_cons_zero, List.set_cons_succ]
            refine wpAny_ready (rs := [5]) (by kernel_rfl) (by simp) ?_
            refine AllReady.cons (i := 5) rfl (fun K hK => ?_) AllReady.nil
            refine step_own_at 41 rfl rfl _ _ 26 rfl (q + 1) 3 i0 (.int .i64 0) 1 8 Tryz.underlying26 hi hz0 hz1 hz2 rfl (by decide) (.slice va V.length vc) V.length (intV V) rfl (K8.ov.alloc _) ⟨w8.heap.size, 0, none⟩ 1 1 [.int .i64 x] rfl rfl (cell_one_new _ _ _) (by intro u hu; simp at hu; subst hu; rfl) (by unfold maxLen; omega) (by omega) (by have := K8.lt; simp; omega) ?_
            intro v' w9 hown hgrow hloc
            refine hK _ _ ?_
            clear hK K
            have AP := K8.apV hloc
            obtain ⟨n2, c2, rfl, KB, hb9, O1, B1, O2⟩ := K8.appV (ys := [x]) hown hgrow
            have k6 := KB.at 7 rfl
            have f6 := KB.fz 7 rfl
            have RN := R8.lower hb9 (by omega)
            have CN := Draw.Cu.down C8 hb9 (by omega) (by omega)
            have hyl : Hid ((V ++ [x]).length = V.length + 1) := by show _ = _; simp
            generalize V ++ [x] = Y at O1 B1 O2 hyl AP ⊢
            clear hloc hown hgrow K8 R8 C8 C e8 e8a
            try simp only [Act.put, List.setIfInBounds_toArray, List.set_cons_zero, List.set_cons_succ]
            refine take_any 6 42 (v := ?_) rfl rfl (by kernel_rfl) (by kernel_rfl) (by kernel_rfl) (fun _ _ _ h => h) (Or.inl ⟨by rfl, ?_⟩) ?_
            rotate_left
            · intro w'; go_simp; try with_reducible rfl
            try simp only [Act.put, List.setIfInBounds_toArray, List.set_cons_zero, List.set_cons_succ]
            refine wpAny_ready (rs := [7]) (by kernel_rfl) (by simp) ?_
            refine AllReady.cons (i := 7) rfl (fun K hK => ?_) AllReady.nil
            go_simp
            refine hK _ _ ?_
            clear hK K
            try simp only [Act.put, List.setIfInBounds_toArray, List.set_cons_zero, List.set_cons_succ]
            refine wpAny_done (by kernel_rfl) ?_ _
            have RT := RN.far (g' := q) (by omega) 7 (.slice n2 Y.length c2)
            have CT := Draw.Cu.set (q := q) CN (by omega) (by omega) 7 (.slice n2 Y.length c2)
            have KT2 : KT q c s k a b e pa pc P n2 c2 Y (w9.setCell ⟨q, 7, none⟩ (.slice n2 Y.length c2)) := ⟨B1, O2, O1, AP⟩
            clear KB hb9 O1 B1 O2 RN CN k6 f6 AP
            generalize w9.setCell ⟨q, 7, none⟩ (.slice n2 Y.length c2) = w10 at KT2 RT CT ⊢
            go_wp2
            go_roundw
            case rel => exact ⟨m, n2, c2, Y, by go_num, by omega, by have := hyl.out; omega, KT2, RT, CT⟩
            case measure => first | (simp [intOf]; done) | (simp [intOf]; omega)
          · have hK3 : Shut _ := hK
            clear hK
            go_simp
            refine (belowW 3 CC.drew.here (by omega) (by omega)).mono ?_
            rintro en w8 ⟨x, rfl, xa, xb, C⟩
            have K8 := KK.drew.draw C.2 (by omega)
            have R8 := RB.drew.only C.2 RB.drew.lt (by omega)
            have C8 := CC.drew.next C
            have e8 := K8.blk.at 7 rfl
            have e8a : (w8.alloc (.cells #[.int .i64 x] 3)).cell? ⟨q, 7, none⟩ = some (.slice va V.length vc) := (K8.blk.alloc K8.lt _).at 7 rfl
            go_wp2_with fail
            refine hK3.out _ _ ?_
            clear hK3 K
            try simp only [Act.put, List.setIfInBounds_toArray, List.set_cons_zero, List.set_cons_succ]
            refine wpAny_ready (rs := [1, 4]) (by kernel_rfl) (by simp) ?_
            refine AllReady.cons (i := 1) rfl (fun K hK => ?_) (AllReady.cons (i := 4) rfl (fun K hK => ?_) AllReady.nil)
            · go_simp
              refine hK _ _ ?_
              clear hK K
              try simp only [Act.put, List.setIfInBounds_toArray, List.set_cons_zero, List.set_cons_succ]
              refine wpAny_ready (rs := [4]) (by kernel_rfl) (by simp) ?_
              refine AllReady.cons (i := 4) rfl (fun K hK => ?_) AllReady.nil
              go_simp
              refine hK _ _ ?_
              clear hK K
              try simp only [Act.put, List.setIfInBounds_toArray, List.set_cons_zero, List.set_cons_succ]
              refine wpAny_ready (rs := [5]) (by kernel_rfl) (by simp) ?_
              refine AllReady.cons (i := 5) rfl (fun K hK => ?_) AllReady.nil
              refine step_own_at 41 rfl rfl _ _ 26 rfl (q + 1) 3 i0 (.int .i64 0) 1 8 Tryz.underlying26 hi hz0 hz1 hz2 rfl (by decide) (.slice va V.length vc) V.length (intV V) rfl (K8.ov.alloc _) ⟨w8.heap.size, 0, none⟩ 1 1 [.int .i64 x] rfl rfl (cell_one_new _ _ _) (by intro u hu; simp at hu; subst hu; rfl) (by unfold maxLen; omega) (by omega) (by have := K8.lt; simp; omega) ?_
              intro v' w9 hown hgrow hloc
              refine hK _ _ ?_
              clear hK K
              have AP := K8.apV hloc
              obtain ⟨n2, c2, rfl, KB, hb9, O1, B1, O2⟩ := K8.appV (ys := [x]) hown hgrow
              have k6 := KB.at 7 rfl
              have f6 := KB.fz 7 rfl
              have RN := R8.lower hb9 (by omega)
              have CN := Draw.Cu.down C8 hb9 (by omega) (by omega)
              have hyl : Hid ((V ++ [x]).length = V.length + 1) := by show _ = _; simp
              generalize V ++ [x] = Y at O1 B1 O2 hyl AP ⊢
              clear hloc hown hgrow K8 R8 C8 C e8 e8a
              try simp only [Act.put, List.setIfInBounds_toArray, List.set_cons_zero, List.set_cons_succ]
              refine take_any 6 42 (v := ?_) rfl rfl (by kernel_rfl) (by kernel_rfl) (by kernel_rfl) (fun _ _ _ h => h) (Or.inl ⟨by rfl, ?_⟩) ?_
              rotate_left
              · intro w'; go_simp; try with_reducible rfl
              try simp only [Act.put, List.setIfInBounds_toArray, List.set_cons_zero, List.set_cons_succ]
              refine wpAny_ready (rs := [7]) (by kernel_rfl) (by simp) ?_
              refine AllReady.cons (i := 7) rfl (fun K hK => ?_) AllReady.nil
              go_simp
              refine hK _ _ ?_
              clear hK K
              try simp only [Act.put, List.setIfInBounds_toArray, List.set_cons_zero, List.set_cons_succ]
              refine wpAny_done (by kernel_rfl) ?_ _
              have RT := RN.far (g' := q) (by omega) 7 (.slice n2 Y.length c2)
              have CT := Draw.Cu.set (q := q) CN (by omega) (by omega) 7 (.slice n2 Y.length c2)
              have KT2 : KT q c s k a b e pa pc P n2 c2 Y (w9.setCell ⟨q, 7, none⟩ (.slice n2 Y.length c2)) := ⟨B1, O2, O1, AP⟩
              clear KB hb9 O1 B1 O2 RN CN k6 f6 AP
              generalize w9.setCell ⟨q, 7, none⟩ (.slice n2 Y.length c2) = w10 at KT2 RT CT ⊢
              go_wp2
              go_roundw
              case rel => exact ⟨m, n2, c2, Y, by go_num, by omega, by have := hyl.out; omega, KT2, RT, CT⟩
              case measure => first | (simp [intOf]; done) | (simp [intOf]; omega)
            · go_simp
              refine hK _ _ ?_
              clear hK K
              try simp only [Act.put, List.setIfInBounds_toArray, List.set_cons_zero, List.set_cons_succ]
              refine wpAny_ready (rs := [1]) (by kernel_rfl) (by simp) ?_
              refine AllReady.cons (i := 1) rfl (fun K hK => ?_) AllReady.nil
              go_simp
              refine hK _ _ ?_
              clear hK K
              try simp only [Act.put, List.setIfInBounds_toArray, List.set_cons_zero, List.set_cons_succ]
              refine wpAny_ready (rs := [5]) (by kernel_rfl) (by simp) ?_
              refine AllReady.cons (i := 5) rfl (fun K hK => ?_) AllReady.nil
              refine step_own_at 41 rfl rfl _ _ 26 rfl (q + 1) 3 i0 (.int .i64 0) 1 8 Tryz.underlying26 hi hz0 hz1 hz2 rfl (by decide) (.slice va V.length vc) V.length (intV V) rfl (K8.ov.alloc _) ⟨w8.heap.size, 0, none⟩ 1 1 [.int .i64 x] rfl rfl (cell_one_new _ _ _) (by intro u hu; simp at hu; subst hu; rfl) (by unfold maxLen; omega) (by omega) (by have := K8.lt; simp; omega) ?_
              intro v' w9 hown hgrow hloc
              refine hK _ _ ?_
              clear hK K
              have AP := K8.apV hloc
              obtain ⟨n2, c2, rfl, KB, hb9, O1, B1, O2⟩ := K8.appV (ys := [x]) hown hgrow
              have k6 := KB.at 7 rfl
              have f6 := KB.fz 7 rfl
              have RN := R8.lower hb9 (by omega)
              have CN := Draw.Cu.down C8 hb9 (by omega) (by omega)
              have hyl : Hid ((V ++ [x]).length = V.length + 1) := by show _ = _; simp
              generalize V ++ [x] = Y at O1 B1 O2 hyl AP ⊢
              clear hloc hown hgrow K8 R8 C8 C e8 e8a
              try simp only [Act.put, List.setIfInBounds_toArray, List.set_cons_zero, List.set_cons_succ]
              refine take_any 6 42 (v := ?_) rfl rfl (by kernel_rfl) (by kernel_rfl) (by kernel_rfl) (fun _ _ _ h => h) (Or.inl ⟨by rfl, ?_⟩) ?_
              rotate_left
              · intro w'; go_simp; try with_reducible rfl
              try simp only [Act.put, List.setIfInBounds_toArray, List.set_cons_zero, List.set_cons_succ]
              refine wpAny_ready (rs := [7]) (by kernel_rfl) (by simp) ?_
              refine AllReady.cons (i := 7) rfl (fun K hK => ?_) AllReady.nil
              go_simp
              refine hK _ _ ?_
              clear hK K
              try simp only [Act.put, List.setIfInBounds_toArray, List.set_cons_zero, List.set_cons_succ]
              refine wpAny_done (by kernel_rfl) ?_ _
              have RT := RN.far (g' := q) (by omega) 7 (.slice n2 Y.length c2)
              have CT := Draw.Cu.set (q := q) CN (by omega) (by omega) 7 (.slice n2 Y.length c2)
              have KT2 : KT q c s k a b e pa pc P n2 c2 Y (w9.setCell ⟨q, 7, none⟩ (.slice n2 Y.length c2)) := ⟨B1, O2, O1, AP⟩
              clear KB hb9 O1 B1 O2 RN CN k6 f6 AP
              generalize w9.setCell ⟨q, 7, none⟩ (.slice n2 Y.length c2) = w10 at KT2 RT CT ⊢
              go_wp2
              go_roundw
              case rel => exact ⟨m, n2, c2, Y, by go_num, by omega, by have := hyl.out; omega, KT2, RT, CT⟩
              case measure => first | (simp [intOf]; done) | (simp [intOf]; omega)
    · obtain ⟨m, rfl⟩ : ∃ m', m = m' + 1 := ⟨m - 1, by omega⟩
      have hmp : (((m + 1 : Nat)) : Int) > 0 := by omega
      have hmd : decide ((((m + 1 : Nat)) : Int) > 0) = true := decide_eq_true hmp
      have e1 := KK.blk.at 6 rfl
      have e2 := KK.drew.blk.at 6 rfl
      go_wp2_with fail
      refine wp_region_any (by kernel_rfl) ?_
      show wpAny _ _ _ _ _ _ _ wr.drew
      refine take_any 0 23 (v := ?_) rfl rfl (by kernel_rfl) (by kernel_rfl) (by kernel_rfl) (fun _ _ _ h => h) (Or.inl ⟨by rfl, ?_⟩) ?_
      rotate_left
      · intro w'; go_simp; try with_reducible rfl
      try simp only [Act.put, List.setIfInBounds_toArray, List.set_cons_zero, List.set_cons_succ]
      refine take_any 2 25 (v := ?_) rfl rfl (by kernel_rfl) (by kernel_rfl) (by kernel_rfl) (fun _ _ _ h => h) (Or.inl ⟨by rfl, ?_⟩) ?_
      rotate_left
      · intro w'; go_simp; try with_reducible rfl
      try simp only [Act.put, List.setIfInBounds_toArray, List.set_cons_zero, List.set_cons_succ]
      refine wpAny_ready (rs := [1, 3]) (by kernel_rfl) (by simp) ?_
      refine AllReady.cons (i := 1) rfl (fun K hK => ?_) (AllReady.cons (i := 3) rfl (fun K hK => ?_) AllReady.nil)
      · go_simp
        refine hK _ _ ?_
        clear hK K
        try simp only [Act.put, List.setIfInBounds_toArray, List.set_cons_zero, List.set_cons_succ]
        refine wpAny_ready (rs := [3]) (by kernel_rfl) (by simp) ?_
        refine AllReady.cons (i := 3) rfl (fun K hK => ?_) AllReady.nil
        have hK3 : Shut _ := hK
        clear hK
        go_simp
        refine (belowW 3 CC.drew.here (by omega) (by omega)).mono ?_
        rintro en w8 ⟨x, rfl, xa, xb, C⟩
        have K8 := KK.drew.draw C.2 (by omega)
        have R8 := RB.drew.only C.2 RB.drew.lt (by omega)
        have C8 := CC.drew.next C
        have e8 := K8.blk.at 6 rfl
        have e8a : (w8.alloc (.cells #[.int .i64 x] 3)).cell? ⟨q, 6, none⟩ = some (.slice pa P.length pc) := (K8.blk.alloc K8.lt _).at 6 rfl
        go_wp2_with fail
        refine hK3.out _ _ ?_
        clear hK3 K
        try simp only [Act.put, List.setIfInBounds_toArray, List.set_cons_zero, List.set_cons_succ]
        refine wpAny_ready (rs := [4]) (by kernel_rfl) (by simp) ?_
        refine AllReady.cons (i := 4) rfl (fun K hK => ?_) AllReady.nil
        go_simp
        refine hK _ _ ?_
        clear hK K
        try simp only [Act.put, List.setIfInBounds_toArray, List.set_cons_zero, List.set_cons_succ]
        refine wpAny_ready (rs := [5]) (by kernel_rfl) (by simp) ?_
        refine AllReady.cons (i := 5) rfl (fun K hK => ?_) AllReady.nil
        refine step_own_at 28 rfl rfl _ _ 26 rfl (q + 1) 3 i0 (.int .i64 0) 1 8 Tryz.underlying26 hi hz0 hz1 hz2 rfl (by decide) (.slice pa P.length pc) P.length (intV P) rfl (K8.op.alloc _) ⟨w8.heap.size, 0, none⟩ 1 1 [.int .i64 x] rfl rfl (cell_one_new _ _ _) (by intro u hu; simp at hu; subst hu; rfl) (by unfold maxLen; omega) (by omega) (by have := K8.lt; simp; omega) ?_
        intro v' w9 hown hgrow hloc
        refine hK _ _ ?_
        clear hK K
        obtain ⟨n2, c2, rfl, KB, hb9, O1, B1, O2⟩ := K8.appP (ys := [x]) hown hgrow
        have k6 := KB.at 6 rfl
        have f6 := KB.fz 6 rfl
        have RN := R8.lower hb9 (by omega)
        have CN := Draw.Cu.down C8 hb9 (by omega) (by omega)
        have hyl : Hid ((P ++ [x]).length = P.length + 1) := by show _ = _; simp
        generalize P ++ [x] = Y at O1 B1 O2 hyl ⊢
        clear hloc hown hgrow K8 R8 C8 C e8 e8a
        try simp only [Act.put, List.setIfInBounds_toArray, List.set_cons_zero, List.set_cons_succ]
        refine take_any 6 29 (v := ?_) rfl rfl (by kernel_rfl) (by kernel_rfl) (by kernel_rfl) (fun _ _ _ h => h) (Or.inl ⟨by rfl, ?_⟩) ?_
        rotate_left
        · intro w'; go_simp; try with_reducible rfl
        try simp only [Act.put, List.setIfInBounds_toArray, List.set_cons_zero, List.set_cons_succ]
        refine wpAny_ready (rs := [7]) (by kernel_rfl) (by simp) ?_
        refine AllReady.cons (i := 7) rfl (fun K hK => ?_) AllReady.nil
        go_simp
        refine hK _ _ ?_
        clear hK K
        try simp only [Act.put, List.setIfInBounds_toArray, List.set_cons_zero, List.set_cons_succ]
        refine wpAny_done (by kernel_rfl) ?_ _
        have RT := RN.far (g' := q) (by omega) 6 (.slice n2 Y.length c2)
        have CT := Draw.Cu.set (q := q) CN (by omega) (by omega) 6 (.slice n2 Y.length c2)
        have KT2 : KT q c s k a b e n2 c2 Y none 0 [] (w9.setCell ⟨q, 6, none⟩ (.slice n2 Y.length c2)) := ⟨B1, O1, O2, (fun k _ h => by cases h)⟩
        clear KB hb9 O1 B1 O2 RN CN k6 f6
        generalize w9.setCell ⟨q, 6, none⟩ (.slice n2 Y.length c2) = w10 at KT2 RT CT ⊢
        go_wp2
        go_roundw
        case rel => exact ⟨m, n2, c2, Y, by go_num, by omega, by have := hyl.out; omega, KT2, RT, CT⟩
        case measure => first | (simp [intOf]; done) | (simp [intOf]; omega)
      · have hK3 : Shut _ := hK
        clear hK
        go_simp
        refine (belowW 3 CC.drew.here (by omega) (by omega)).mono ?_
        rintro en w8 ⟨x, rfl, xa, xb, C⟩
        have K8 := KK.drew.draw C.2 (by omega)
        have R8 := RB.drew.only C.2 RB.drew.lt (by omega)
        have C8 := CC.drew.next C
        have e8 := K8.blk.at 6 rfl
        have e8a : (w8.alloc (.cells #[.int .i64 x] 3)).cell? ⟨q, 6, none⟩ = some (.slice pa P.length pc) := (K8.blk.alloc K8.lt _).at 6 rfl
        go_wp2_with fail
        refine hK3.out _ _ ?_
        clear hK3 K
        try simp only [Act.put, List.setIfInBounds_toArray, List.set_cons_zero, List.set_cons_succ]
        refine wpAny_ready (rs := [1, 4]) (by kernel_rfl) (by simp) ?_
        refine AllReady.cons (i := 1) rfl (fun K hK => ?_) (AllReady.cons (i := 4) rfl (fun K hK => ?_) AllReady.nil)
        · go_simp
          refine hK _ _ ?_
          clear hK K
          try simp only [Act.put, List.setIfInBounds_toArray, List.set_cons_zero, List.set_cons_succ]
          refine wpAny_ready (rs := [4]) (by kernel_rfl) (by simp) ?_
          refine AllReady.cons (i := 4) rfl (fun K hK => ?_) AllReady.nil
          go_simp
          refine hK _ _ ?_
          clear hK K
          try simp only [Act.put, List.setIfInBounds_toArray, List.set_cons_zero, List.set_cons_succ]
          refine wpAny_ready (rs := [5]) (by kernel_rfl) (by simp) ?_
          refine AllReady.cons (i := 5) rfl (fun K hK => ?_) AllReady.nil
          refine step_own_at 28 rfl rfl _ _ 26 rfl (q + 1) 3 i0 (.int .i64 0) 1 8 Tryz.underlying26 hi hz0 hz1 hz2 rfl (by decide) (.slice pa P.length pc) P.length (intV P) rfl (K8.op.alloc _) ⟨w8.heap.size, 0, none⟩ 1 1 [.int .i64 x] rfl rfl (cell_one_new _ _ _) (by intro u hu; simp at hu; subst hu; rfl) (by unfold maxLen; omega) (by omega) (by have := K8.lt; simp; omega) ?_
          intro v' w9 hown hgrow hloc
          refine hK _ _ ?_
          clear hK K
          obtain ⟨n2, c2, rfl, KB, hb9, O1, B1, O2⟩ := K8.appP (ys := [x]) hown hgrow
          have k6 := KB.at 6 rfl
          have f6 := KB.fz 6 rfl
          have RN := R8.lower hb9 (by omega)
          have CN := Draw.Cu.down C8 hb9 (by omega) (by omega)
          have hyl : Hid ((P ++ [x]).length = P.length + 1) := by show _ = _; simp
          generalize P ++ [x] = Y at O1 B1 O2 hyl ⊢
          clear hloc hown hgrow K8 R8 C8 C e8 e8a
          try simp only [Act.put, List.setIfInBounds_toArray, List.set_cons_zero, List.set_cons_succ]
          refine take_any 6 29 (v := ?_) rfl rfl (by kernel_rfl) (by kernel_rfl) (by kernel_rfl) (fun _ _ _ h => h) (Or.inl ⟨by rfl, ?_⟩) ?_
          rotate_left
          · intro w'; go_simp; try with_reducible rfl
          try simp only [Act.put, List.setIfInBounds_toArray, List.set_cons_zero, List.set_cons_succ]
          refine wpAny_ready (rs := [7]) (by kernel_rfl) (by simp) ?_
          refine AllReady.cons (i := 7) rfl (fun K hK => ?_) AllReady.nil
          go_simp
          refine hK _ _ ?_
          clear hK K
          try simp only [Act.put, List.setIfInBounds_toArray, List.set_cons_zero, List.set_cons_succ]
          refine wpAny_done (by kernel_rfl) ?_ _
          have RT := RN.far (g' := q) (by omega) 6 (.slice n2 Y.length c2)
          have CT := Draw.Cu.set (q := q) CN (by omega) (by omega) 6 (.slice n2 Y.length c2)
          have KT2 : KT q c s k a b e n2 c2 Y none 0 [] (w9.setCell ⟨q, 6, none⟩ (.slice n2 Y.length c2)) := ⟨B1, O1, O2, (fun k _ h => by cases h)⟩
          clear KB hb9 O1 B1 O2 RN CN k6 f6
          generalize w9.setCell ⟨q, 6, none⟩ (.slice n2 Y.length c2) = w10 at KT2 RT CT ⊢
          go_wp2
          go_roundw
          case rel => exact ⟨m, n2, c2, Y, by go_num, by omega, by have := hyl.out; omega, KT2, RT, CT⟩
          case measure => first | (simp [intOf]; done) | (simp [intOf]; omega)
        · go_simp
          refine hK _ _ ?_
          clear hK K
          try simp only [Act.put, List.setIfInBounds_toArray, List.set_cons_zero, List.set_cons_succ]
          refine wpAny_ready (rs := [1]) (by kernel_rfl) (by simp) ?_
          refine AllReady.cons (i := 1) rfl (fun K hK => ?_) AllReady.nil
          go_simp
          refine hK _ _ ?_
          clear hK K
          try simp only [Act.put, List.setIfInBounds_toArray, List.set_cons_zero, List.set_cons_succ]
          refine wpAny_ready (rs := [5]) (by kernel_rfl) (by simp) ?_
          refine AllReady.cons (i := 5) rfl (fun K hK => ?_) AllReady.nil
          refine step_own_at 28 rfl rfl _ _ 26 rfl (q + 1) 3 i0 (.int .i64 0) 1 8 Tryz.underlying26 hi hz0 hz1 hz2 rfl (by decide) (.slice pa P.length pc) P.length (intV P) rfl (K8.op.alloc _) ⟨w8.heap.size, 0, none⟩ 1 1 [.int .i64 x] rfl rfl (cell_one_new _ _ _) (by intro u hu; simp at hu; subst hu; rfl) (by unfold maxLen; omega) (by omega) (by have := K8.lt; simp; omega) ?_
          intro v' w9 hown hgrow hloc
          refine hK _ _ ?_
          clear hK K
          obtain ⟨n2, c2, rfl, KB, hb9, O1, B1, O2⟩ := K8.appP (ys := [x]) hown hgrow
          have k6 := KB.at 6 rfl
          have f6 := KB.fz 6 rfl
          have RN := R8.lower hb9 (by omega)
          have CN := Draw.Cu.down C8 hb9 (by omega) (by omega)
          have hyl : Hid ((P ++ [x]).length = P.length + 1) := by show _ = _; simp
          generalize P ++ [x] = Y at O1 B1 O2 hyl ⊢
          clear hloc hown hgrow K8 R8 C8 C e8 e8a
          try simp only [Act.put, List.setIfInBounds_toArray, List.set_cons_zero, List.set_cons_succ]
          refine take_any 6 29 (v := ?_) rfl rfl (by kernel_rfl) (by kernel_rfl) (by kernel_rfl) (fun _ _ _ h => h) (Or.inl ⟨by rfl, ?_⟩) ?_
          rotate_left
          · intro w'; go_simp; try with_reducible rfl
          try simp only [Act.put, List.setIfInBounds_toArray, List.set_cons_zero, List.set_cons_succ]
          refine wpAny_ready (rs := [7]) (by kernel_rfl) (by simp) ?_
          refine AllReady.cons (i := 7) rfl (fun K hK => ?_) AllReady.nil
          go_simp
          refine hK _ _ ?_
          clear hK K
          try simp only [Act.put, List.setIfInBounds_toArray, List.set_cons_zero, List.set_cons_succ]
          refine wpAny_done (by kernel_rfl) ?_ _
          have RT := RN.far (g' := q) (by omega) 6 (.slice n2 Y.length c2)
          have CT := Draw.Cu.set (q := q) CN (by omega) (by omega) 6 (.slice n2 Y.length c2)
          have KT2 : KT q c s k a b e n2 c2 Y none 0 [] (w9.setCell ⟨q, 6, none⟩ (.slice n2 Y.length c2)) := ⟨B1, O1, O2, (fun k _ h => by cases h)⟩
          clear KB hb9 O1 B1 O2 RN CN k6 f6
          generalize w9.setCell ⟨q, 6, none⟩ (.slice n2 Y.length c2) = w10 at KT2 RT CT ⊢
          go_wp2
          go_roundw
          case rel => exact ⟨m, n2, c2, Y, by go_num, by omega, by have := hyl.out; omega, KT2, RT, CT⟩
          case measure => first | (simp [intOf]; done) | (simp [intOf]; omega)

end Go.Proofs.YtbkemhclncmicaaGreat
