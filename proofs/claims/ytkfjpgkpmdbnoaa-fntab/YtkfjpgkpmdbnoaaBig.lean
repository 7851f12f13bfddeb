/- Great structs: loaded and stored as wholes. -/
import Derived.Test.YtkfjpgkpmdbnoaaFl
import Derived.Lib.ReflectliteSwap
import Derived.Laws.ResultCell
set_option linter.unusedVariables false
set_option maxRecDepth 100000
namespace Go.Proofs.Ytkfjpgkpmdbnoaa
open Go Go.RowKit Own
theorem Blk.sets' {g : Nat} : ∀ (vs us xs : List Value) (W : World), Blk g (xs ++ us) W → vs.length ≤ us.length → Blk g (xs ++ vs ++ us.drop vs.length) (W.setCells g xs.length vs)
  | [], us, xs, W, h, e => by simpa [World.setCells] using h
  | v :: vs, [], xs, W, h, e => by simp at e
  | v :: vs, u :: us, xs, W, h, e => by
    have h1 := h.set xs.length v
    rw [show (xs ++ u :: us).set xs.length v = (xs ++ [v]) ++ us by simp] at h1
    have h2 := Blk.sets' vs us (xs ++ [v]) _ h1 (by simpa using e)
    rw [List.length_append] at h2
    simpa [World.setCells] using h2
theorem Blk.sets {g : Nat} {us : List Value} {W : World} (h : Blk g us W) (vs : List Value) (e : us.length = vs.length) : Blk g vs (W.setCells g 0 vs) := by
  have := Blk.sets' vs us [] W h (by omega)
  rw [List.drop_eq_nil_of_le (by omega)] at this
  simpa using this
/-- A part of a block's cells stored. -/
theorem Blk.part {g : Nat} {us : List Value} {W : World} (h : Blk g us W) (o : Nat) (vs ws : List Value) (e : o + vs.length ≤ us.length) (hw : us.take o ++ vs ++ us.drop (o + vs.length) = ws) : Blk g ws (W.setCells g o vs) := by
  have := Blk.sets' vs (us.drop o) (us.take o) W (by rw [List.take_append_drop]; exact h) (by rw [List.length_drop]; omega)
  rw [List.length_take, Nat.min_eq_left (by omega), List.drop_drop] at this
  rw [← hw]
  exact this
theorem Blk.farS {g q : Nat} {us : List Value} (hn : q ≠ g) : ∀ (vs : List Value) (i : Nat) (W : World), Blk g us W → Blk g us (W.setCells q i vs)
  | [], i, W, h => h
  | v :: vs, i, W, h => Blk.farS hn vs (i + 1) _ (h.far hn i v)
theorem below_sets {m g : Nat} {w : World} (hg : m ≤ g) : ∀ (vs : List Value) (i : Nat) (W : World), Below m w W → Below m w (W.setCells g i vs)
  | [], i, W, h => h
  | v :: vs, i, W, h => below_sets hg vs (i + 1) _ (h.setCell (by exact hg) v)
theorem ldB {P : Program} (ty : TypeId) (ie : TypeInfo) (hie : P.info? ty = some ie) (hagg : ∀ w, (isAgg ty).run P w = .ok true w) {g o : Nat} {us : List Value} (vs : List Value) {w : World} (h : Blk g us w) (hs : vs.length = ie.size) (hv : (us.drop o).take vs.length = vs) :
    (loadVar ty ⟨g, o, none⟩).run P w = .ok (.agg vs.toArray) w := by
  refine Go.Lib.rl_loadVar_cells ty ie hie hagg g o vs hs w ?_
  intro k v e
  rw [← hv] at e
  rw [List.getElem?_take] at e
  split at e
  · rw [List.getElem?_drop] at e
    exact (h.out (o + k) v e).1
  · cases e
theorem stB {P : Program} (ty : TypeId) (ie : TypeInfo) (hie : P.info? ty = some ie) {g o : Nat} {us : List Value} (vs : List Value) {w : World} (h : Blk g us w) (hs : vs.length = ie.size) (ho : o + vs.length ≤ us.length) (h1 : vs.all (·.oneCell') = true) :
    (storeVar ty ⟨g, o, none⟩ (.agg vs.toArray)).run P w = .ok () (w.setCells g o vs) := by
  refine Go.Lib.rl_storeVar_cells ty ie hie g o vs hs (List.all_eq_true.1 h1) w ?_ ?_
  · intro k hk
    rw [(h.out (o + k) us[o + k] (List.getElem?_eq_getElem (by omega))).1]
    rfl
  · intro k hk
    exact (h.out (o + k) us[o + k] (List.getElem?_eq_getElem (by omega))).2
theorem wpList_ldB {P : Program} {ops : Array Oper} {rest : List Oper} {o : Oper} {a : Act} {w : World} {Q : Exit → Act → World → Prop} (ty : TypeId) (x : Operand) (g off : Nat) (us vs : List Value) (ie : TypeInfo) (hie : P.info? ty = some ie) (hagg : ∀ w, (isAgg ty).run P w = .ok true w) (h : Blk g us w) (hs : vs.length = ie.size) (hv : (us.drop off).take vs.length = vs)
    (hgd : o.guard = none) (ho : o.op = .load ty x) (hx : a.eval x = .pointer (some ⟨g, off, none⟩))
    (hn : wpList P ops Q rest (a.put o.dst (.agg vs.toArray)) w) : wpList P ops Q (o :: rest) a w := by
  refine wpList_plain hgd fun K hK => ?_
  unfold Oper.wp execOp
  simp only [ho, hx, Instr.loadAt, Instr.sureAddr, Sem.run_bind, Sem.run_pure, Result.andThen_ok, ldB ty ie hie hagg vs h hs hv]
  exact hK _ _ hn
theorem wpList_stB {P : Program} {ops : Array Oper} {rest : List Oper} {o : Oper} {a : Act} {w : World} {Q : Exit → Act → World → Prop} (ty : TypeId) (x y : Operand) (g off : Nat) (us vs : List Value) (ie : TypeInfo) (hie : P.info? ty = some ie) (h : Blk g us w) (hs : vs.length = ie.size) (hl : off + vs.length ≤ us.length) (h1 : vs.all (·.oneCell') = true)
    (hgd : o.guard = none) (ho : o.op = .store ty x y) (hx : a.eval x = .pointer (some ⟨g, off, none⟩)) (hy : a.eval y = .agg vs.toArray)
    (hn : wpList P ops Q rest (a.put o.dst undef) (w.setCells g off vs)) : wpList P ops Q (o :: rest) a w := by
  refine wpList_plain hgd fun K hK => ?_
  unfold Oper.wp execOp
  simp only [ho, hx, hy, Instr.storeAt, Instr.sureAddr, Sem.run_bind, Sem.run_pure, Result.andThen_ok, stB ty ie hie vs h hs hl h1]
  exact hK _ _ hn
theorem res_B2 {P : Program} {fn : Func} {p x : Tmp} {ty : TypeId} (hres : fn.results = #[.cell p ty, .tmp x]) (tmps : Array Value) (w : World) (g : Nat) (vs : List Value) (u0 : Value) (ie : TypeInfo) (hie : P.info? ty = some ie) (hagg : ∀ w, (isAgg ty).run P w = .ok true w) (h : Blk g vs w) (hs : vs.length = ie.size) (hx : tmps.getD x undef = u0) (hp : tmps.getD p undef = .pointer (some ⟨g, 0, none⟩)) :
    (results fn tmps).run P w = .ok (.tuple #[.agg vs.toArray, u0]) w := by
  have hp' : tmps[p]?.getD undef = .pointer (some ⟨g, 0, none⟩) := by simpa using hp
  have hx' : tmps[x]?.getD undef = u0 := by simpa using hx
  have hl := ldB (P := P) ty ie hie hagg (o := 0) vs h hs (by simp)
  simp [results, hres, hp', hx', asAddr, hl]
theorem res_B1 {P : Program} {fn : Func} {p : Tmp} {ty : TypeId} (hres : fn.results = #[.cell p ty]) (tmps : Array Value) (w : World) (g : Nat) (vs : List Value) (ie : TypeInfo) (hie : P.info? ty = some ie) (hagg : ∀ w, (isAgg ty).run P w = .ok true w) (h : Blk g vs w) (hs : vs.length = ie.size) (hp : tmps.getD p undef = .pointer (some ⟨g, 0, none⟩)) :
    (results fn tmps).run P w = .ok (.agg vs.toArray) w := by
  have hp' : tmps[p]?.getD undef = .pointer (some ⟨g, 0, none⟩) := by simpa using hp
  have hl := ldB (P := P) ty ie hie hagg (o := 0) vs h hs (by simp)
  simp [results, hres, hp', asAddr, hl]
theorem wpList_st1 {P : Program} {ops : Array Oper} {rest : List Oper} {o : Oper} {a : Act} {w : World} {Q : Exit → Act → World → Prop} (ty : TypeId) (x y : Operand) (g off : Nat) (us : List Value) (v : Value) (ie : TypeInfo) (hie : P.info? ty = some ie) (h : Blk g us w) (hs : ie.size = 1) (hl : off < us.length) (h1 : v.oneCell' = true)
    (hgd : o.guard = none) (ho : o.op = .store ty x y) (hx : a.eval x = .pointer (some ⟨g, off, none⟩)) (hy : a.eval y = v)
    (hn : wpList P ops Q rest (a.put o.dst undef) (w.setCells g off [v])) : wpList P ops Q (o :: rest) a w := by
  have hst := Go.Lib.rl_storeVar_one (P := P) ty ie hie hs ⟨g, off, none⟩ v us[off] h1 w (h.out off us[off] (List.getElem?_eq_getElem hl)).1 (h.out off us[off] (List.getElem?_eq_getElem hl)).2
  refine wpList_plain hgd fun K hK => ?_
  unfold Oper.wp execOp
  simp only [ho, hx, hy, Instr.storeAt, Instr.sureAddr, Sem.run_bind, Sem.run_pure, Result.andThen_ok, hst]
  exact hK _ _ hn
theorem info_S : ∃ ie, Try.prog.info? 31 = some ie ∧ ie.size = 3 := by
  obtain ⟨i, h, _, h2, _⟩ := info_parts (by kernel_rfl : (Try.prog.info? 31).map (fun i => (i.zero, i.size, i.bytes)) = some (some (.agg #[.int .i64 0, .int .i64 0, .int .i64 0]), 3, 24))
  exact ⟨i, h, h2⟩
end Go.Proofs.Ytkfjpgkpmdbnoaa
