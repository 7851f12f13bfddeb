/- The view: a key is reached; was a term seen. -/
import Derived.Test.YtkekfogepdhjhaaView
import Derived.BigQuiet
import Derived.Deep.RegionHeld3
import Derived.Test.YtkekfogepdhjhaaReadNums
set_option linter.unusedVariables false
namespace Go.Proofs.Ytkekfogepdhjhaa
open Go.RowKit Own Var Term

namespace Vw
theorem unwanted {ops : Array Oper} {tmps : Array Value} {o : Oper} {j d : Nat} {b c : Bool} (hg : o.guard = some (j, b)) (hd : (ops[j]?).bind (·.dst) = some d) (ht : tmps[d]? = some (.bool c)) (hc : (c == b) = false) : Region.wanted o (yielded ops tmps) = false := by
  have hy : yielded ops tmps j = some c := by unfold yielded; rw [hd]; simp only [Option.bind_some, ht]
  unfold Region.wanted
  rw [hg]
  simp only [hy]
  simpa using hc
theorem unwanted_undef {ops : Array Oper} {tmps : Array Value} {o : Oper} {j d : Nat} {b : Bool} (hg : o.guard = some (j, b)) (hd : (ops[j]?).bind (·.dst) = some d) (ht : tmps[d]? = some undef) : Region.wanted o (yielded ops tmps) = false := by
  have hy : yielded ops tmps j = none := by unfold yielded; rw [hd]; simp only [Option.bind_some, ht]; rfl
  unfold Region.wanted
  rw [hg]
  simp only [hy]
  rfl
/-- An operation of a drawn region that yields its value wherever S holds is taken first. -/
theorem take_one {P : Program} {ops : Array Oper} {Q : Exit → Act → World → Prop} {md : Region.Mode} {S : World → Prop} (i d : Nat) {oi : Oper} {v : Value} {fuel : Nat} {listed : Array Bool} {a : Act} {w : World} (hi : ops[i]? = some oi) (hd : oi.dst = some d)
    (hs : Region.noSelect ops = true) (hf : Region.free md ops listed i = true) (hr : (Region.ready md ops listed).contains i = true) (hQ : ∀ c a w, Q (.panic c) (a.put (some d) v) w → Q (.panic c) a w)
    (hy : YieldsIf P ops S oi v a) (hS : S w) (h : wpAnyH P md ops Q S fuel (listed.setIfInBounds i true) (a.put (some d) v) w) : wpAnyH P md ops Q S (fuel + 1) listed a w :=
  wpAnyH_take hi hs hf hr (by rw [hd]; exact hQ) hy hS (by rw [hd]; exact h)
/-- An operation of a drawn region that its guard passes over is taken first. -/
theorem skip_one {P : Program} {ops : Array Oper} {Q : Exit → Act → World → Prop} {md : Region.Mode} {S : World → Prop} (i d : Nat) {oi : Oper} {fuel : Nat} {listed : Array Bool} {a : Act} {w : World} (hi : ops[i]? = some oi) (hd : oi.dst = some d)
    (hs : Region.noSelect ops = true) (hf : Region.free md ops listed i = true) (hr : (Region.ready md ops listed).contains i = true) (hQ : ∀ c a w, Q (.panic c) (a.put (some d) undef) w → Q (.panic c) a w)
    (hw : Region.wanted oi (yielded ops a.tmps) = false) (hS : S w) (h : wpAnyH P md ops Q S fuel (listed.setIfInBounds i true) (a.put (some d) undef) w) : wpAnyH P md ops Q S (fuel + 1) listed a w :=
  take_one i d hi hd hs hf hr hQ (Or.inr ⟨hw, rfl⟩) hS h


/-- A step of a drawn region: 'append', as it runs. -/
theorem step_append {P : Program} {ops : Array Oper} {o : Oper} {a : Act} {w w' : World} {K : Act → World → Prop} {Q : Exit → Act → World → Prop} {E : Prop} (d : Nat) (hd : o.dst = some d) (hgd : o.guard = none) (s x : Operand) (t : TypeId)
    (ho : o.op = .call { callee := .builtin .append, args := #[s, x], argTypes := #[t, t] }) (v xv v' : Value) (hs : a.eval s = v) (hx : a.eval x = xv) (hr : (Builtin.append_ #[t, t] o.type #[v, xv]).run P w = .ok v' w') (h : K (a.put (some d) v') w') :
    if Region.wanted o (yielded ops a.tmps) = true then Oper.wp P o a w K Q else E := by
  have hw : Region.wanted o (yielded ops a.tmps) = true := by simp [Region.wanted, hgd]
  rw [if_pos hw]
  unfold Oper.wp execOp
  simp only [ho, resolve, invoke, builtin, Sem.run_bind, Sem.run_pure, Result.andThen_ok, List.map_toArray, List.map_cons, List.map_nil, hs, hx, hr]
  rw [← hd] at h
  exact h
/-- 'append' at the operation, as it runs. -/
theorem wpList_append {P : Program} {ops : Array Oper} {rest : List Oper} {o : Oper} {a : Act} {w w' : World} {Q : Exit → Act → World → Prop} (hgd : o.guard = none) (s x : Operand) (t : TypeId)
    (ho : o.op = .call { callee := .builtin .append, args := #[s, x], argTypes := #[t, t] }) (v xv v' : Value) (hs : a.eval s = v) (hx : a.eval x = xv) (hr : (Builtin.append_ #[t, t] o.type #[v, xv]).run P w = .ok v' w') (h : wpList P ops Q rest (a.put o.dst v') w') :
    wpList P ops Q (o :: rest) a w := by
  refine wpList_plain hgd fun K hK => ?_
  unfold Oper.wp execOp
  simp only [ho, resolve, invoke, builtin, Sem.run_bind, Sem.run_pure, Result.andThen_ok, List.map_toArray, List.map_cons, List.map_nil, hs, hx, hr]
  exact hK _ _ h
/-- An operation of a drawn region that reads nothing is taken first. -/
theorem take_any {P : Program} {ops : Array Oper} {Q : Exit → Act → World → Prop} {md : Region.Mode} (i d : Nat) {oi : Oper} {v : Value} {fuel : Nat} {listed : Array Bool} {a : Act} {w : World} (hi : ops[i]? = some oi) (hd : oi.dst = some d)
    (hs : Region.noSelect ops = true) (hf : Region.free md ops listed i = true) (hr : (Region.ready md ops listed).contains i = true) (hQ : ∀ c a w, Q (.panic c) (a.put (some d) v) w → Q (.panic c) a w)
    (hy : Yields P ops oi v a) (h : wpAny P md ops Q fuel (listed.setIfInBounds i true) (a.put (some d) v) w) : wpAny P md ops Q (fuel + 1) listed a w :=
  wpAny_take hi hs hf hr (by rw [hd]; exact hQ) hy (by rw [hd]; exact h)
end Vw

theorem field_shut (a b : Value) (V : World) : (Instr.field 87 (.agg #[a, b]) 1).run Try.prog V = .ok b V := by simp [Instr.field, go_sem, asAgg]
theorem field_reached (a b : Value) (V : World) : (Instr.field 87 (.agg #[a, b]) 0).run Try.prog V = .ok a V := by simp [Instr.field, go_sem, asAgg]

section
variable {X : Nat → Prop} {p N mT mL : Nat} {DT DL : DataW Value} {rv : Option Int → Value} {s : VS} {w : World}
theorem ViewM.look_at (h : ViewM X p N mT mL DT DL rv s w) {k : Int} (hk : (Lit.int .i64 k).wf = true) {V : World} (hV : V.heap[mL]? = w.heap[mL]?) :
    (Instr.lookup 83 (.map (some mL)) (.int .i64 k) false).run Try.prog V = .ok (.agg #[.bool (s.F k).1, rv (some k)]) V := by
  have ho : V.ownsMap Try.prog 3 heldR mL N DL := by
    obtain ⟨es', clock, hb', F, hs', hD⟩ := h.ml
    exact ⟨es', clock, hV.trans hb', F, hs', hD⟩
  obtain ⟨v, ps, hrun, hv⟩ := ho.lookup keyed3 Try.underlying83 (Try.zeroValue87 V) (zd := .held lock0) (zp := []) rfl (Maps.keyOf_int_mk Try.underlying3 hk)
  rw [h.hl k hk] at hv
  have : v = .agg #[.bool (s.F k).1, rv (some k)] := by
    unfold heldR at hv
    simp only [Option.some.injEq, Prod.mk.injEq, DataW.held.injEq] at hv
    exact hv.1
  rw [← this]
  exact hrun
end

set_option maxRecDepth 100000 in
set_option maxHeartbeats 3200000 in
theorem reach_is {X : Nat → Prop} {p N : Nat} {s : VS} {w : World} (h : ViewAt X p N s w) (hN : N < 8589934592) {k : Int} (hk : (Lit.int .i64 k).wf = true) (hl : s.A.length + (s.F k).2.length ≤ 8589934592) :
    Calls Try.prog 89 #[.pointer (some ⟨p, 0, none⟩), .int .i64 k] w fun e w' => e = .returned (.tuple #[]) ∧ ViewAt X p (N + 1) (s.reach k) w' ∧ Keep X w w' := by
  obtain ⟨mT, mL, DT, DL, rv, hm⟩ := h
  obtain ⟨ar, cr, hrv, _, hrow⟩ := (hm.q (some k)).row
  have hD : ViewM X p N mT mL DT DL rv s w.drew := hm.below (Below.refl _ _).drew
  have hsrc : Src Try.prog 1 24 (rv (some k)) (s.F k).2.length (strV (s.F k).2) w.drew := by rw [hrv]; exact src_row _ _ _ _ (hrow.later (Below.refl _ _).drew)
  obtain ⟨v1, w1, hrun, hk1, hg1, ⟨a1, n1, cap1, hv1⟩, hm1⟩ := hD.ahead 24 hsrc hl
  obtain ⟨lp, lT, lL⟩ := hm.lt
  have ep : w1.heap[p]? = w.heap[p]? := hg1.block p lp (fun e => (hm.far none p e.symm).1 rfl)
  have eL : w1.heap[mL]? = w.heap[mL]? := hg1.block mL lL (fun e => (hm.far none mL e.symm).2.2.1 rfl)
  obtain ⟨W2, hW2⟩ : ∃ W2, w1.setCell ⟨p, 0, none⟩ (.slice a1 n1 cap1) = W2 := ⟨_, rfl⟩
  rw [hv1, hW2] at hm1 hk1
  obtain ⟨w3, hrun3, hk3, hv3⟩ := hm1.put hN hk true (.slice none 0 0) [] (QRow.nil _ _) (fun b hb => by cases hb)
  have c2 := hm1.c2
  have d0 := (World.cell?_of_block (a := ⟨p, 0, none⟩) ep).trans hm.c0
  have df := (World.frozen?_of_block (a := ⟨p, 0, none⟩) ep).trans hm.f0
  have HK : Hid (Keep X w w3) := (Keep.ofBelow (Below.refl w.heap.size w).drew hm.xlt).trans (hk1.trans hk3)
  have HV : Hid (ViewAt X p (N + 1) (s.reach k) w3) := hv3
  have fs := field_shut
  have e0 : w.drew.cell? ⟨p, 0, none⟩ = some (rv none) := hm.c0
  have e2 : w.drew.cell? ⟨p, 2, none⟩ = some (.map (some mL)) := hm.c2
  have e3 := hm.look_at hk (V := w.drew) rfl
  clear hrv hrow hsrc hv3 hk3 hk1
  go_enter Try.func89, Try.ntmps89
  go_wp2_with fail
  refine wp_region_any (by kernel_rfl) ?_
  show wpAny _ _ _ _ _ _ _ w.drew
  refine Vw.take_any 0 4 (v := ?_) rfl rfl (by kernel_rfl) (by kernel_rfl) (by kernel_rfl) (fun _ _ _ h => h) (Or.inl ⟨by rfl, ?_⟩) ?_
  rotate_left
  · intro w'; go_simp; try with_reducible rfl
  try simp only [Act.put, List.setIfInBounds_toArray, List.set_cons_zero, List.set_cons_succ]
  refine Vw.take_any 1 5 (v := ?_) rfl rfl (by kernel_rfl) (by kernel_rfl) (by kernel_rfl) (fun _ _ _ h => h) (Or.inl ⟨by rfl, ?_⟩) ?_
  rotate_left
  · intro w'; go_simp; try with_reducible rfl
  try simp only [Act.put, List.setIfInBounds_toArray, List.set_cons_zero, List.set_cons_succ]
  refine Vw.take_any 2 6 (v := ?_) rfl rfl (by kernel_rfl) (by kernel_rfl) (by kernel_rfl) (fun _ _ _ h => h) (Or.inl ⟨by rfl, ?_⟩) ?_
  rotate_left
  · intro w'; go_simp; try with_reducible rfl
  try simp only [Act.put, List.setIfInBounds_toArray, List.set_cons_zero, List.set_cons_succ]
  refine Vw.take_any 3 7 (v := ?_) rfl rfl (by kernel_rfl) (by kernel_rfl) (by kernel_rfl) (fun _ _ _ h => h) (Or.inl ⟨by rfl, ?_⟩) ?_
  rotate_left
  · intro w'; go_simp; try with_reducible rfl
  try simp only [Act.put, List.setIfInBounds_toArray, List.set_cons_zero, List.set_cons_succ]
  refine Vw.take_any 5 9 (v := ?_) rfl rfl (by kernel_rfl) (by kernel_rfl) (by kernel_rfl) (fun _ _ _ h => h) (Or.inl ⟨by rfl, ?_⟩) ?_
  rotate_left
  · intro w'; go_simp; try with_reducible rfl
  try simp only [Act.put, List.setIfInBounds_toArray, List.set_cons_zero, List.set_cons_succ]
  refine Vw.take_any 6 10 (v := ?_) rfl rfl (by kernel_rfl) (by kernel_rfl) (by kernel_rfl) (fun _ _ _ h => h) (Or.inl ⟨by rfl, ?_⟩) ?_
  rotate_left
  · intro w'; go_simp; try with_reducible rfl
  try simp only [Act.put, List.setIfInBounds_toArray, List.set_cons_zero, List.set_cons_succ]
  refine Vw.take_any 7 11 (v := ?_) rfl rfl (by kernel_rfl) (by kernel_rfl) (by kernel_rfl) (fun _ _ _ h => h) (Or.inl ⟨by rfl, ?_⟩) ?_
  rotate_left
  · intro w'; go_simp; try with_reducible rfl
  try simp only [Act.put, List.setIfInBounds_toArray, List.set_cons_zero, List.set_cons_succ]
  refine Vw.take_any 9 13 (v := ?_) rfl rfl (by kernel_rfl) (by kernel_rfl) (by kernel_rfl) (fun _ _ _ h => h) (Or.inl ⟨by rfl, ?_⟩) ?_
  rotate_left
  · intro w'; go_simp; try with_reducible rfl
  try simp only [Act.put, List.setIfInBounds_toArray, List.set_cons_zero, List.set_cons_succ]
  refine wpAny_ready (rs := [4, 8]) (by kernel_rfl) (by simp) ?_
  refine AllReady.cons (i := 4) rfl (fun K hK => ?_) (AllReady.cons (i := 8) rfl (fun K hK => ?_) AllReady.nil)
  ·
    go_simp
    refine hK _ _ ?_
    clear hK K
    try simp only [Act.put, List.setIfInBounds_toArray, List.set_cons_zero, List.set_cons_succ]
    refine wpAny_ready (rs := [8]) (by kernel_rfl) (by simp) ?_
    refine AllReady.cons (i := 8) rfl (fun K hK => ?_) AllReady.nil
    go_simp
    refine hK _ _ ?_
    clear hK K
    try simp only [Act.put, List.setIfInBounds_toArray, List.set_cons_zero, List.set_cons_succ]
    refine wpAny_ready (rs := [10]) (by kernel_rfl) (by simp) ?_
    refine AllReady.cons (i := 10) rfl (fun K hK => ?_) AllReady.nil
    go_simp
    refine hK _ _ ?_
    clear hK K
    try simp only [Act.put, List.setIfInBounds_toArray, List.set_cons_zero, List.set_cons_succ]
    refine Vw.take_any 11 15 (v := ?_) rfl rfl (by kernel_rfl) (by kernel_rfl) (by kernel_rfl) (fun _ _ _ h => h) (Or.inl ⟨by rfl, ?_⟩) ?_
    rotate_left
    · intro w'; go_simp; try with_reducible rfl
    try simp only [Act.put, List.setIfInBounds_toArray, List.set_cons_zero, List.set_cons_succ]
    refine wpAny_ready (rs := [12]) (by kernel_rfl) (by simp) ?_
    refine AllReady.cons (i := 12) rfl (fun K hK => ?_) AllReady.nil
    refine Vw.step_append 16 rfl rfl _ _ 24 rfl (rv none) (rv (some k)) v1 rfl rfl hrun ?_
    refine hK _ _ ?_
    clear hK K
    try simp only [Act.put, List.setIfInBounds_toArray, List.set_cons_zero, List.set_cons_succ]
    refine Vw.take_any 13 17 (v := ?_) rfl rfl (by kernel_rfl) (by kernel_rfl) (by kernel_rfl) (fun _ _ _ h => h) (Or.inl ⟨by rfl, ?_⟩) ?_
    rotate_left
    · intro w'; go_simp; try with_reducible rfl
    try simp only [Act.put, List.setIfInBounds_toArray, List.set_cons_zero, List.set_cons_succ]
    refine Vw.take_any 14 18 (v := ?_) rfl rfl (by kernel_rfl) (by kernel_rfl) (by kernel_rfl) (fun _ _ _ h => h) (Or.inl ⟨by rfl, ?_⟩) ?_
    rotate_left
    · intro w'; go_simp; try with_reducible rfl
    try simp only [Act.put, List.setIfInBounds_toArray, List.set_cons_zero, List.set_cons_succ]
    refine wpAny_ready (rs := [15]) (by kernel_rfl) (by simp) ?_
    refine AllReady.cons (i := 15) rfl (fun K hK => ?_) AllReady.nil
    rw [hv1]
    go_simp
    try rw [hW2]
    refine hK _ _ ?_
    clear hK K
    try simp only [Act.put, List.setIfInBounds_toArray, List.set_cons_zero, List.set_cons_succ]
    refine wpAny_done (by kernel_rfl) ?_ _
    clear hW2 hrun hm e0 e2 e3 d0 df ep eL hg1 hD
    go_wp2
    go_end0
    exact ⟨rfl, HV.out, HK.out⟩
  ·
    go_simp
    refine hK _ _ ?_
    clear hK K
    try simp only [Act.put, List.setIfInBounds_toArray, List.set_cons_zero, List.set_cons_succ]
    refine wpAny_ready (rs := [4, 10]) (by kernel_rfl) (by simp) ?_
    refine AllReady.cons (i := 4) rfl (fun K hK => ?_) (AllReady.cons (i := 10) rfl (fun K hK => ?_) AllReady.nil)
    ·
      go_simp
      refine hK _ _ ?_
      clear hK K
      try simp only [Act.put, List.setIfInBounds_toArray, List.set_cons_zero, List.set_cons_succ]
      refine wpAny_ready (rs := [10]) (by kernel_rfl) (by simp) ?_
      refine AllReady.cons (i := 10) rfl (fun K hK => ?_) AllReady.nil
      go_simp
      refine hK _ _ ?_
      clear hK K
      try simp only [Act.put, List.setIfInBounds_toArray, List.set_cons_zero, List.set_cons_succ]
      refine Vw.take_any 11 15 (v := ?_) rfl rfl (by kernel_rfl) (by kernel_rfl) (by kernel_rfl) (fun _ _ _ h => h) (Or.inl ⟨by rfl, ?_⟩) ?_
      rotate_left
      · intro w'; go_simp; try with_reducible rfl
      try simp only [Act.put, List.setIfInBounds_toArray, List.set_cons_zero, List.set_cons_succ]
      refine wpAny_ready (rs := [12]) (by kernel_rfl) (by simp) ?_
      refine AllReady.cons (i := 12) rfl (fun K hK => ?_) AllReady.nil
      refine Vw.step_append 16 rfl rfl _ _ 24 rfl (rv none) (rv (some k)) v1 rfl rfl hrun ?_
      refine hK _ _ ?_
      clear hK K
      try simp only [Act.put, List.setIfInBounds_toArray, List.set_cons_zero, List.set_cons_succ]
      refine Vw.take_any 13 17 (v := ?_) rfl rfl (by kernel_rfl) (by kernel_rfl) (by kernel_rfl) (fun _ _ _ h => h) (Or.inl ⟨by rfl, ?_⟩) ?_
      rotate_left
      · intro w'; go_simp; try with_reducible rfl
      try simp only [Act.put, List.setIfInBounds_toArray, List.set_cons_zero, List.set_cons_succ]
      refine Vw.take_any 14 18 (v := ?_) rfl rfl (by kernel_rfl) (by kernel_rfl) (by kernel_rfl) (fun _ _ _ h => h) (Or.inl ⟨by rfl, ?_⟩) ?_
      rotate_left
      · intro w'; go_simp; try with_reducible rfl
      try simp only [Act.put, List.setIfInBounds_toArray, List.set_cons_zero, List.set_cons_succ]
      refine wpAny_ready (rs := [15]) (by kernel_rfl) (by simp) ?_
      refine AllReady.cons (i := 15) rfl (fun K hK => ?_) AllReady.nil
      rw [hv1]
      go_simp
      try rw [hW2]
      refine hK _ _ ?_
      clear hK K
      try simp only [Act.put, List.setIfInBounds_toArray, List.set_cons_zero, List.set_cons_succ]
      refine wpAny_done (by kernel_rfl) ?_ _
      clear hW2 hrun hm e0 e2 e3 d0 df ep eL hg1 hD
      go_wp2
      go_end0
      exact ⟨rfl, HV.out, HK.out⟩
    ·
      go_simp
      refine hK _ _ ?_
      clear hK K
      try simp only [Act.put, List.setIfInBounds_toArray, List.set_cons_zero, List.set_cons_succ]
      refine Vw.take_any 11 15 (v := ?_) rfl rfl (by kernel_rfl) (by kernel_rfl) (by kernel_rfl) (fun _ _ _ h => h) (Or.inl ⟨by rfl, ?_⟩) ?_
      rotate_left
      · intro w'; go_simp; try with_reducible rfl
      try simp only [Act.put, List.setIfInBounds_toArray, List.set_cons_zero, List.set_cons_succ]
      refine wpAny_ready (rs := [4]) (by kernel_rfl) (by simp) ?_
      refine AllReady.cons (i := 4) rfl (fun K hK => ?_) AllReady.nil
      go_simp
      refine hK _ _ ?_
      clear hK K
      try simp only [Act.put, List.setIfInBounds_toArray, List.set_cons_zero, List.set_cons_succ]
      refine wpAny_ready (rs := [12]) (by kernel_rfl) (by simp) ?_
      refine AllReady.cons (i := 12) rfl (fun K hK => ?_) AllReady.nil
      refine Vw.step_append 16 rfl rfl _ _ 24 rfl (rv none) (rv (some k)) v1 rfl rfl hrun ?_
      refine hK _ _ ?_
      clear hK K
      try simp only [Act.put, List.setIfInBounds_toArray, List.set_cons_zero, List.set_cons_succ]
      refine Vw.take_any 13 17 (v := ?_) rfl rfl (by kernel_rfl) (by kernel_rfl) (by kernel_rfl) (fun _ _ _ h => h) (Or.inl ⟨by rfl, ?_⟩) ?_
      rotate_left
      · intro w'; go_simp; try with_reducible rfl
      try simp only [Act.put, List.setIfInBounds_toArray, List.set_cons_zero, List.set_cons_succ]
      refine Vw.take_any 14 18 (v := ?_) rfl rfl (by kernel_rfl) (by kernel_rfl) (by kernel_rfl) (fun _ _ _ h => h) (Or.inl ⟨by rfl, ?_⟩) ?_
      rotate_left
      · intro w'; go_simp; try with_reducible rfl
      try simp only [Act.put, List.setIfInBounds_toArray, List.set_cons_zero, List.set_cons_succ]
      refine wpAny_ready (rs := [15]) (by kernel_rfl) (by simp) ?_
      refine AllReady.cons (i := 15) rfl (fun K hK => ?_) AllReady.nil
      rw [hv1]
      go_simp
      try rw [hW2]
      refine hK _ _ ?_
      clear hK K
      try simp only [Act.put, List.setIfInBounds_toArray, List.set_cons_zero, List.set_cons_succ]
      refine wpAny_done (by kernel_rfl) ?_ _
      clear hW2 hrun hm e0 e2 e3 d0 df ep eL hg1 hD
      go_wp2
      go_end0
      exact ⟨rfl, HV.out, HK.out⟩

set_option maxRecDepth 100000 in
set_option maxHeartbeats 1600000 in
theorem saw_is {X : Nat → Prop} {p N : Nat} {s : VS} {w : World} (h : ViewAt X p N s w) {t : ByteArray} (ht : t.size ≤ 1048576) :
    Calls Try.prog 90 #[.pointer (some ⟨p, 0, none⟩), .string t] w fun e w' => ∃ b, e = .returned (.bool b) ∧ (b = true ↔ t ∈ s.T) ∧ ViewAt X p N s w' ∧ Below w.heap.size w w' := by
  obtain ⟨mT, mL, DT, DL, rv, hm⟩ := h
  obtain ⟨b, hrun, hb⟩ := hm.saw ht
  have c1 := hm.c1
  have hB : Below w.heap.size w (w.alloc (.cells #[] 116)) := (Below.refl _ _).alloc (Nat.le_refl _) _
  have HV : Hid (ViewAt X p N s (w.alloc (.cells #[] 116))) := ⟨mT, mL, DT, DL, rv, hm.below hB⟩
  have HB : Hid (b = true ↔ t ∈ s.T) := hb
  clear hm hb
  go_enter Try.func90, Try.ntmps90
  go_wp2
  go_ret
  exact ⟨b, rfl, HB.out, HV.out, hB⟩
end Go.Proofs.Ytkekfogepdhjhaa

set_option linter.unusedVariables false
namespace Go.Proofs.Ytkekfogepdhjhaa
open Go.RowKit Own Var Term

/-- What is seen because t is. -/
def VS.follow (s : VS) (t : ByteArray) : VS :=
  match rk t 107 with
  | some (n, _) => s.reach n
  | none => match rk t 115 with
    | some (n, r) => if (s.F n).1 = true then ⟨s.A ++ [r], s.T, s.F⟩ else ⟨s.A, s.T, fun j => if j = (n : Int) then ((s.F n).1, (s.F n).2 ++ [r]) else s.F j⟩
    | none => ⟨s.A ++ (partsR t).1, s.T, s.F⟩
theorem rk_kind {t r : ByteArray} {n c : Nat} (hT : isT t = true) (hc : cut t = some (n, r)) (h0 : at_ t 0 = c) (k : Nat) : rk t k = if c = k then some (n, r) else none := by
  unfold rk
  by_cases e : c = k
  · rw [if_pos ⟨hT, by rw [h0, e]⟩, if_pos e, hc]
  · rw [if_neg (fun h => e (by rw [← h0]; exact h.2)), if_neg e]
theorem parts_none {t : ByteArray} (h : rk t 108 = none) : (partsR t).1 = [] := by unfold partsR; rw [h]
theorem src_one (w : World) (r : ByteArray) : Src Try.prog 1 24 (.slice (some ⟨w.heap.size, 0, none⟩) 1 1) [r].length (strV [r]) (w.alloc (.cells #[.string r] 9)) := by
  refine Src.ofSlice _ Try.underlying24 ⟨w.heap.size, 0, none⟩ 1 1 (strV [r]) rfl (cell_one_new w (.string r) 9) (fun u hu => ?_)
  simp [strV] at hu
  subst hu
  rfl

section
variable {X : Nat → Prop} {p N : Nat} {s : VS} {w : World} {t r : ByteArray} {n : Nat}

set_option maxRecDepth 100000 in
set_option maxHeartbeats 3200000 in
theorem follow_key (h : ViewAt X p N s w) (hN : N < 8589934592) (hs : t.size ≤ 1048576) (hc : cut t = some (n, r)) (hn : n ≤ 1000000) (h0 : 0 < t.size) (e0 : t[0].toNat = 107) (hA : s.A.length + (s.F n).2.length ≤ 8589934592) :
    Calls Try.prog 109 #[.pointer (some ⟨p, 0, none⟩), .string t] w fun e w' => e = .returned (.tuple #[]) ∧ ViewAt X p (N + 1) (s.reach n) w' ∧ Keep X w w' := by
  have H1 := cutHead_yes t r n w hs hc
  have HX := h.xlt
  go_enter Try.func109, Try.ntmps109
  go_wp2_with fail
  refine H1.mono ?_
  rintro e w1 ⟨rfl, hb1⟩
  have H2 := reach_is (h.below hb1) hN (k := n) (by simp [Lit.wf, IntKind.min, IntKind.max, IntKind.signed, IntKind.bits]; omega) hA
  have K1 : Hid (Keep X w w1) := Keep.ofBelow hb1 HX
  clear H1 h hb1 HX
  go_wp2_with fail
  refine H2.mono ?_
  rintro e w2 ⟨rfl, hv, hk⟩
  have HV : Hid (ViewAt X p (N + 1) (s.reach n) w2) := hv
  have HK : Hid (Keep X w w2) := K1.out.trans hk
  clear H2 hv hk K1
  go_wp2
  go_end0
  exact ⟨rfl, HV.out, HK.out⟩

set_option maxRecDepth 100000 in
set_option maxHeartbeats 3200000 in
theorem follow_list (h : ViewAt X p N s w) (hs : t.size ≤ 1048576) (hc : cut t = some (n, r)) (h0 : 0 < t.size) (e0 : t[0].toNat = 108) (hA : s.A.length + (partsR t).1.length ≤ 8589934592) :
    Calls Try.prog 109 #[.pointer (some ⟨p, 0, none⟩), .string t] w fun e w' => e = .returned (.tuple #[]) ∧ ViewAt X p N ⟨s.A ++ (partsR t).1, s.T, s.F⟩ w' ∧ Keep X w w' := by
  have H1 := cutHead_yes t r n w hs hc
  have HX := h.xlt
  go_enter Try.func109, Try.ntmps109
  go_wp2_with fail
  refine H1.mono ?_
  rintro e w1 ⟨rfl, hb1⟩
  have H2 := impl_parts t w1 hs
  have h1 := h.below hb1
  clear H1 h
  go_wp2_with fail
  refine H2.mono ?_
  rintro e w2 ⟨v, rfl, ho, hb2⟩
  obtain ⟨a2, c2, rfl, _, hrow⟩ := own_row ho
  have h2 := h1.below hb2
  have hsrc := src_row w2 a2 c2 (partsR t).1 hrow
  have K2 := (Keep.ofBelow hb1 HX).trans (Keep.ofBelow hb2 h1.xlt)
  obtain ⟨mT, mL, DT, DL, rv, hm⟩ := h2
  obtain ⟨v1, w3, hrun, hk1, hg1, ⟨a1, n1, cap1, hv1⟩, hm1⟩ := hm.ahead 24 hsrc hA
  have d0 := hm.c0
  have ep : w3.heap[p]? = w2.heap[p]? := hg1.block p hm.lt.1 (fun e => (hm.far none p e.symm).1 rfl)
  have dd := (World.cell?_of_block (a := ⟨p, 0, none⟩) ep).trans hm.c0
  have df := (World.frozen?_of_block (a := ⟨p, 0, none⟩) ep).trans hm.f0
  subst hv1
  obtain ⟨W4, hW4⟩ : ∃ W4, w3.setCell ⟨p, 0, none⟩ (.slice a1 n1 cap1) = W4 := ⟨_, rfl⟩
  rw [hW4] at hm1 hk1
  have HV : Hid (ViewAt X p N ⟨s.A ++ (partsR t).1, s.T, s.F⟩ W4) := ⟨mT, mL, DT, DL, _, hm1⟩
  have HK : Hid (Keep X w W4) := K2.trans hk1
  clear H2 hm hm1 hk1 K2 hsrc ho hrow h1 hb1 hb2 ep hg1 HX
  go_wp2_with (first | (at_builtin; refine Vw.wpList_append rfl _ _ 24 rfl (rv none) _ (.slice a1 n1 cap1) rfl rfl hrun ?_) | go_in)
  go_wp2
  try rw [hW4]
  go_end0
  exact ⟨rfl, HV.out, HK.out⟩

set_option maxRecDepth 100000 in
set_option maxHeartbeats 3200000 in
theorem follow_none (h : ViewAt X p N s w) (hs : t.size ≤ 1048576) (hc : cut t = some (n, r)) (h0 : 0 < t.size) (e0 : ((t[0].toNat : Int) == 107) = false) (e1 : ((t[0].toNat : Int) == 108) = false) (e2 : ((t[0].toNat : Int) == 115) = false) :
    Calls Try.prog 109 #[.pointer (some ⟨p, 0, none⟩), .string t] w fun e w' => e = .returned (.tuple #[]) ∧ ViewAt X p N s w' ∧ Keep X w w' := by
  have H1 := cutHead_yes t r n w hs hc
  have HX := h.xlt
  go_enter Try.func109, Try.ntmps109
  go_wp2_with fail
  refine H1.mono ?_
  rintro e w1 ⟨rfl, hb1⟩
  have h1 := h.below hb1
  go_wp2
  go_end0
  exact ⟨rfl, h1, Keep.ofBelow hb1 HX⟩

set_option maxRecDepth 100000 in
set_option maxHeartbeats 3200000 in
theorem follow_open (h : ViewAt X p N s w) (hs : t.size ≤ 1048576) (hc : cut t = some (n, r)) (hn : n ≤ 1000000) (h0 : 0 < t.size) (e0 : t[0].toNat = 115) (hF : (s.F n).1 = true) (hA : s.A.length + 1 ≤ 8589934592) :
    Calls Try.prog 109 #[.pointer (some ⟨p, 0, none⟩), .string t] w fun e w' => e = .returned (.tuple #[]) ∧ ViewAt X p N ⟨s.A ++ [r], s.T, s.F⟩ w' ∧ Keep X w w' := by
  have H1 := cutHead_yes t r n w hs hc
  have HX := h.xlt
  have hk : (Lit.int .i64 (n : Int)).wf = true := by simp [Lit.wf, IntKind.min, IntKind.max, IntKind.signed, IntKind.bits]; omega
  go_enter Try.func109, Try.ntmps109
  go_wp2_with fail
  refine H1.mono ?_
  rintro e w1 ⟨rfl, hb1⟩
  have h1 := h.below hb1
  have K1 := Keep.ofBelow hb1 HX
  clear H1 h hb1 HX
  obtain ⟨mT, mL, DT, DL, rv, hm⟩ := h1
  have e3 := hm.look_at hk (V := w1) rfl
  obtain ⟨a5, n5, c5, hrv⟩ : ∃ a5 n5 c5, rv (some (n : Int)) = .slice a5 n5 c5 := by obtain ⟨a, c, e, _⟩ := (hm.q (some (n : Int))).shape; exact ⟨a, _, c, e⟩
  rw [hF, hrv] at e3
  have d2 := hm.c2
  obtain ⟨W2, hW2⟩ : ∃ W2, w1.alloc (.cells #[.bool true, .slice a5 n5 c5] 87) = W2 := ⟨_, rfl⟩
  have hb2 : Below w1.heap.size w1 W2 := by rw [← hW2]; exact (Below.refl _ _).alloc (Nat.le_refl _) _
  have g0 : W2.cell? ⟨w1.heap.size, 0, none⟩ = some (.bool true) := by rw [← hW2]; simp [go_sem]
  have hm2 := hm.below hb2
  have K2 := K1.trans (Keep.ofBelow hb2 hm.xlt)
  have c2 := hm2.c0
  have hb3 : Below W2.heap.size W2 (W2.alloc (.cells #[.string r] 9)) := (Below.refl _ _).alloc (Nat.le_refl _) _
  have hm3 := hm2.below hb3
  have K3 := K2.trans (Keep.ofBelow hb3 hm2.xlt)
  obtain ⟨v1, w3, hrun, hk1, hg1, ⟨a1, n1, cap1, hv1⟩, hm4⟩ := hm3.ahead 24 (src_one W2 r) hA
  have ep : w3.heap[p]? = (W2.alloc (.cells #[.string r] 9)).heap[p]? := hg1.block p hm3.lt.1 (fun e => (hm.far none p e.symm).1 rfl)
  have dd := (World.cell?_of_block (a := ⟨p, 0, none⟩) ep).trans hm3.c0
  have df := (World.frozen?_of_block (a := ⟨p, 0, none⟩) ep).trans hm3.f0
  subst hv1
  obtain ⟨W4, hW4⟩ : ∃ W4, w3.setCell ⟨p, 0, none⟩ (.slice a1 n1 cap1) = W4 := ⟨_, rfl⟩
  rw [hW4] at hm4 hk1
  have HV : Hid (ViewAt X p N ⟨s.A ++ [r], s.T, s.F⟩ W4) := ⟨mT, mL, DT, DL, _, hm4⟩
  have HK : Hid (Keep X w W4) := K3.trans hk1
  have LT : w1.heap.size < W2.heap.size := by rw [← hW2]; simp
  clear hm hm2 hm3 hm4 hk1 K1 K2 K3 ep hg1 hb2 hb3 hrv
  go_wp2_with (first | (at_builtin; refine Vw.wpList_append rfl _ _ 24 rfl (rv none) _ (.slice a1 n1 cap1) rfl rfl hrun ?_) | go_in)
  go_wp2
  try rw [hW4]
  exact bodyPost_ret (results_none rfl _ _ _) rfl ⟨rfl, HV.out, HK.out⟩

set_option maxRecDepth 100000 in
set_option maxHeartbeats 3200000 in
theorem follow_shut (h : ViewAt X p N s w) (hN : N < 8589934592) (hs : t.size ≤ 1048576) (hc : cut t = some (n, r)) (hn : n ≤ 1000000) (h0 : 0 < t.size) (e0 : t[0].toNat = 115) (hF : (s.F n).1 = false) (hA : (s.F n).2.length + 1 ≤ 8589934592) :
    Calls Try.prog 109 #[.pointer (some ⟨p, 0, none⟩), .string t] w fun e w' => e = .returned (.tuple #[]) ∧ ViewAt X p (N + 1) ⟨s.A, s.T, fun j => if j = (n : Int) then (false, (s.F n).2 ++ [r]) else s.F j⟩ w' ∧ Keep X w w' := by
  have H1 := cutHead_yes t r n w hs hc
  have HX := h.xlt
  have hk : (Lit.int .i64 (n : Int)).wf = true := by simp [Lit.wf, IntKind.min, IntKind.max, IntKind.signed, IntKind.bits]; omega
  go_enter Try.func109, Try.ntmps109
  go_wp2_with fail
  refine H1.mono ?_
  rintro e w1 ⟨rfl, hb1⟩
  have h1 := h.below hb1
  have K1 := Keep.ofBelow hb1 HX
  clear H1 h hb1 HX
  -- the lock that is copied lies apart
  obtain ⟨mT, mL, DT, DL, rv, hm⟩ := h1
  have e3 := hm.look_at hk (V := w1) rfl
  obtain ⟨a5, n5, c5, hrv⟩ : ∃ a5 n5 c5, rv (some (n : Int)) = .slice a5 n5 c5 := by obtain ⟨a, c, e, _⟩ := (hm.q (some (n : Int))).shape; exact ⟨a, _, c, e⟩
  rw [hF, hrv] at e3
  have d2 := hm.c2
  obtain ⟨W2, hW2⟩ : ∃ W2, w1.alloc (.cells #[.bool false, .slice a5 n5 c5] 87) = W2 := ⟨_, rfl⟩
  have hb2 : Below w1.heap.size w1 W2 := by rw [← hW2]; exact (Below.refl _ _).alloc (Nat.le_refl _) _
  have g0 : W2.cell? ⟨w1.heap.size, 0, none⟩ = some (.bool false) := by rw [← hW2]; simp [go_sem]
  have g1 : W2.cell? ⟨w1.heap.size, 1, none⟩ = some (.slice a5 n5 c5) := by rw [← hW2]; simp [go_sem]
  have g2 : W2.frozen? ⟨w1.heap.size, 1, none⟩ = false := by rw [← hW2]; simp [go_sem]
  have LT : w1.heap.size < W2.heap.size := by rw [← hW2]; simp
  have hm2 : ViewM (fun k => X k ∨ k = w1.heap.size) p N mT mL DT DL rv s W2 := hm.kept hb2.size (fun k hk _ => hb2.block k hk) (fun k hk => by
    rcases hk with hk | rfl
    · exact ⟨Nat.lt_trans (hm.xlt k hk) LT, Or.inl hk⟩
    · exact ⟨LT, Or.inr (Nat.le_refl _)⟩)
  have K2 := K1.trans (Keep.ofBelow hb2 hm.xlt)
  have hb3 : Below W2.heap.size W2 (W2.alloc (.cells #[.string r] 9)) := (Below.refl _ _).alloc (Nat.le_refl _) _
  have hm3 := hm2.below hb3
  have K3 := K2.trans (Keep.ofBelow hb3 (fun k hk => Nat.lt_trans (hm.xlt k hk) LT))
  obtain ⟨v1, w3, hrun, hk1, hm4, hq4, ⟨a1, n1, cap1, hv1⟩, hsv⟩ := hm3.shut (n : Int) 24 (src_one W2 r) hA
  rw [hrv] at hrun
  subst hv1
  have G0 : w3.cell? ⟨w1.heap.size, 0, none⟩ = some (.bool false) := (hk1.cell (Or.inr rfl) 0).trans ((hb3.cell (p := ⟨w1.heap.size, 0, none⟩) LT).trans g0)
  have G1 : w3.cell? ⟨w1.heap.size, 1, none⟩ = some (.slice a5 n5 c5) := (hk1.cell (Or.inr rfl) 1).trans ((hb3.cell (p := ⟨w1.heap.size, 1, none⟩) LT).trans g1)
  have G2 : w3.frozen? ⟨w1.heap.size, 1, none⟩ = false := (hk1.frozen (Or.inr rfl) 1).trans ((hb3.frozen (p := ⟨w1.heap.size, 1, none⟩) LT).trans g2)
  obtain ⟨W4, hW4⟩ : ∃ W4, w3.setCell ⟨w1.heap.size, 1, none⟩ (.slice a1 n1 cap1) = W4 := ⟨_, rfl⟩
  have L3 : w1.heap.size < w3.heap.size := Nat.lt_of_lt_of_le LT (Nat.le_trans hb3.size hk1.size)
  have es4 : ∀ k, k ≠ w1.heap.size → W4.heap[k]? = w3.heap[k]? := fun k hk => by rw [← hW4]; exact Below.heap_setCell w3 ⟨w1.heap.size, 1, none⟩ _ k (fun e => hk e)
  have z4 : W4.heap.size = w3.heap.size := by rw [← hW4]; simp
  have y0 : W4.cell? ⟨w1.heap.size, 0, none⟩ = some (.bool false) := by rw [← hW4, World.cell?_setCell_other _ _ _ _ (by simp)]; exact G0
  have y1 : W4.cell? ⟨w1.heap.size, 1, none⟩ = some (.slice a1 n1 cap1) := by rw [← hW4]; exact World.cell?_setCell_same' _ _ _ (by rw [G1]; rfl)
  have hm5 : ViewM (fun k => X k ∨ k = w1.heap.size) p N mT mL DT DL rv s W4 := hm4.kept (Nat.le_of_eq z4.symm) (fun k _ hk => es4 k (fun e => hk (Or.inr e))) (fun k hk => ⟨by rw [z4]; exact hm4.xlt k hk, Or.inl hk⟩)
  have hq5 : QRow 0 W4 (.slice a1 n1 cap1) ((s.F n).2 ++ [r]) := hq4.kept (Nat.le_of_eq z4.symm) fun k hk => es4 k (fun e => (hsv k hk).1.2.2.2 (Or.inr e))
  have hB4 := (Below.refl 0 w3).setCell (p := ⟨w1.heap.size, 1, none⟩) (Nat.zero_le _) (.slice a1 n1 cap1)
  rw [hW4] at hB4
  have K4 : Keep X w W4 := K3.trans ((hk1.mono (fun k hk => Or.inl hk)).trans ⟨hB4.os, hB4.tape, hB4.output, hB4.size, fun k hk => es4 k (fun e => Nat.lt_irrefl w1.heap.size (e ▸ hm.xlt k hk))⟩)
  have hm6 : ViewM (fun k => X k ∨ k = w1.heap.size) p N mT mL DT DL rv s W4.drew := hm5.below (Below.refl _ _).drew
  obtain ⟨w7, hrun7, hk7, hv7⟩ := hm6.put hN hk false (.slice a1 n1 cap1) ((s.F n).2 ++ [r]) (hq5.kept (Nat.le_refl _) fun _ _ => rfl) hsv
  have HV : Hid (ViewAt X p (N + 1) ⟨s.A, s.T, fun j => if j = (n : Int) then (false, (s.F n).2 ++ [r]) else s.F j⟩ w7) := hv7.less (fun k hk => Or.inl hk)
  have HK : Hid (Keep X w w7) := K4.trans ((Keep.ofBelow (Below.refl W4.heap.size W4).drew (fun k hk => by rw [z4]; exact Nat.lt_trans (hm.xlt k hk) L3)).trans (hk7.mono (fun k hk => Or.inl hk)))
  have m2 : W4.drew.cell? ⟨p, 2, none⟩ = some (.map (some mL)) := hm6.c2
  have y0' : W4.drew.cell? ⟨w1.heap.size, 0, none⟩ = some (.bool false) := y0
  have y1' : W4.drew.cell? ⟨w1.heap.size, 1, none⟩ = some (.slice a1 n1 cap1) := y1
  clear hm hm2 hm3 hm4 hm5 hm6 hk1 hk7 hv7 K1 K2 K3 K4 hb2 hb3 hrv hq4 hq5 hsv es4 hB4 y0 y1
  go_wp2_with (first | (at_builtin; refine Vw.wpList_append rfl _ _ 24 rfl (.slice a5 n5 c5) _ (.slice a1 n1 cap1) rfl rfl hrun ?_) | go_in)
  go_wp2_with fail
  try rw [hW4]
  refine wp_region_any (by kernel_rfl) ?_
  show wpAny _ _ _ _ _ _ _ W4.drew
  refine Vw.take_any 0 63 (v := ?_) rfl rfl (by kernel_rfl) (by kernel_rfl) (by kernel_rfl) (fun _ _ _ h => h) (Or.inl ⟨by rfl, ?_⟩) ?_
  rotate_left
  · intro w'; go_simp; try with_reducible rfl
  try simp only [Act.put, List.setIfInBounds_toArray, List.set_cons_zero, List.set_cons_succ]
  refine Vw.take_any 1 64 (v := ?_) rfl rfl (by kernel_rfl) (by kernel_rfl) (by kernel_rfl) (fun _ _ _ h => h) (Or.inl ⟨by rfl, ?_⟩) ?_
  rotate_left
  · intro w'; go_simp; try with_reducible rfl
  try simp only [Act.put, List.setIfInBounds_toArray, List.set_cons_zero, List.set_cons_succ]
  refine Vw.take_any 2 65 (v := ?_) rfl rfl (by kernel_rfl) (by kernel_rfl) (by kernel_rfl) (fun _ _ _ h => h) (Or.inl ⟨by rfl, ?_⟩) ?_
  rotate_left
  · intro w'; go_simp; try with_reducible rfl
  try simp only [Act.put, List.setIfInBounds_toArray, List.set_cons_zero, List.set_cons_succ]
  refine Vw.take_any 4 67 (v := ?_) rfl rfl (by kernel_rfl) (by kernel_rfl) (by kernel_rfl) (fun _ _ _ h => h) (Or.inl ⟨by rfl, ?_⟩) ?_
  rotate_left
  · intro w'; go_simp; try with_reducible rfl
  try simp only [Act.put, List.setIfInBounds_toArray, List.set_cons_zero, List.set_cons_succ]
  refine wpAny_ready (rs := [3, 5]) (by kernel_rfl) (by simp) ?_
  refine AllReady.cons (i := 3) rfl (fun K hK => ?_) (AllReady.cons (i := 5) rfl (fun K hK => ?_) AllReady.nil)
  ·
    go_simp
    refine hK _ _ ?_
    clear hK K
    try simp only [Act.put, List.setIfInBounds_toArray, List.set_cons_zero, List.set_cons_succ]
    refine wpAny_ready (rs := [5]) (by kernel_rfl) (by simp) ?_
    refine AllReady.cons (i := 5) rfl (fun K hK => ?_) AllReady.nil
    go_simp
    refine hK _ _ ?_
    clear hK K
    try simp only [Act.put, List.setIfInBounds_toArray, List.set_cons_zero, List.set_cons_succ]
    refine wpAny_ready (rs := [6]) (by kernel_rfl) (by simp) ?_
    refine AllReady.cons (i := 6) rfl (fun K hK => ?_) AllReady.nil
    go_simp
    refine hK _ _ ?_
    clear hK K
    try simp only [Act.put, List.setIfInBounds_toArray, List.set_cons_zero, List.set_cons_succ]
    refine wpAny_done (by kernel_rfl) ?_ _
    clear hW4 hW2
    go_wp2
    go_end0
    exact ⟨rfl, HV.out, HK.out⟩
  ·
    go_simp
    refine hK _ _ ?_
    clear hK K
    try simp only [Act.put, List.setIfInBounds_toArray, List.set_cons_zero, List.set_cons_succ]
    refine wpAny_ready (rs := [3]) (by kernel_rfl) (by simp) ?_
    refine AllReady.cons (i := 3) rfl (fun K hK => ?_) AllReady.nil
    go_simp
    refine hK _ _ ?_
    clear hK K
    try simp only [Act.put, List.setIfInBounds_toArray, List.set_cons_zero, List.set_cons_succ]
    refine wpAny_ready (rs := [6]) (by kernel_rfl) (by simp) ?_
    refine AllReady.cons (i := 6) rfl (fun K hK => ?_) AllReady.nil
    go_simp
    refine hK _ _ ?_
    clear hK K
    try simp only [Act.put, List.setIfInBounds_toArray, List.set_cons_zero, List.set_cons_succ]
    refine wpAny_done (by kernel_rfl) ?_ _
    clear hW4 hW2
    go_wp2
    go_end0
    exact ⟨rfl, HV.out, HK.out⟩

/-- What follows of a term is what the document says. -/
theorem follow_is (h : ViewAt X p N s w) (hN : N < 8589934592) (hT : isT t = true) (hA : ∀ k, s.A.length + (s.F k).2.length + 20 ≤ 8589934592) :
    Calls Try.prog 109 #[.pointer (some ⟨p, 0, none⟩), .string t] w fun e w' => e = .returned (.tuple #[]) ∧ ViewAt X p (N + 1) (s.follow t) w' ∧ Keep X w w' := by
  have hsz := ((isT_iff t).1 hT).1
  obtain ⟨n, r, hc⟩ := ((isT_iff t).1 hT).cut
  obtain ⟨g0, g1, _⟩ := cut_size hc
  have h0 : 0 < t.size := by omega
  have hat := at_eq t 0 h0
  have R := rk_kind hT hc hat.symm
  have hAn := hA n
  by_cases e1 : t[0].toNat = 107
  · have : s.follow t = s.reach n := by unfold VS.follow; rw [R 107, if_pos e1]
    rw [this]
    exact follow_key h hN (by omega) hc g1 h0 e1 (by omega)
  · by_cases e2 : t[0].toNat = 108
    · have : s.follow t = ⟨s.A ++ (partsR t).1, s.T, s.F⟩ := by
        unfold VS.follow
        rw [R 107, if_neg e1, R 115, if_neg (by omega)]
      rw [this]
      exact (follow_list h (by omega) hc h0 e2 (by have := parts_len t; omega)).mono fun e w' ⟨h1, h2, h3⟩ => ⟨h1, h2.more (Nat.le_succ _), h3⟩
    · by_cases e3 : t[0].toNat = 115
      · by_cases hF : (s.F n).1 = true
        · have : s.follow t = ⟨s.A ++ [r], s.T, s.F⟩ := by
            unfold VS.follow
            rw [R 107, if_neg e1, R 115, if_pos e3]
            simp only [if_pos hF]
          rw [this]
          exact (follow_open h (by omega) hc g1 h0 e3 hF (by omega)).mono fun e w' ⟨h1, h2, h3⟩ => ⟨h1, h2.more (Nat.le_succ _), h3⟩
        · have hF' : (s.F n).1 = false := by simpa using hF
          have : s.follow t = ⟨s.A, s.T, fun j => if j = (n : Int) then (false, (s.F n).2 ++ [r]) else s.F j⟩ := by
            unfold VS.follow
            rw [R 107, if_neg e1, R 115, if_pos e3]
            simp [hF']
          rw [this]
          exact follow_shut h hN (by omega) hc g1 h0 e3 hF' (by omega)
      · have : s.follow t = s := by
          unfold VS.follow
          rw [R 107, if_neg e1, R 115, if_neg e3, parts_none (by rw [R 108, if_neg e2])]
          simp
        rw [this]
        exact (follow_none h (by omega) hc h0 (by simp; omega) (by simp; omega) (by simp; omega)).mono fun e w' ⟨h1, h2, h3⟩ => ⟨h1, h2.more (Nat.le_succ _), h3⟩
end
end Go.Proofs.Ytkekfogepdhjhaa
