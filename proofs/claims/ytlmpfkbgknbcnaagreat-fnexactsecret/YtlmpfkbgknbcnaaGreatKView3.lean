/- The view: a key is reached; was a term seen. -/
import Derived.Test.YtlmpfkbgknbcnaaGreatAb
import Derived.Test.YtlmpfkbgknbcnaaGreatKQueue
import Derived.Test.YtlmpfkbgknbcnaaGreatKnow3
import Derived.BigQuiet
import Derived.Deep.RegionHeld3
set_option linter.unusedVariables false
namespace Go.Proofs.YtlmpfkbgknbcnaaGreat.Kn
open Go.RowKit _root_.Go.Proofs.YtlmpfkbgknbcnaaGreat.Own Var Term
namespace Vw
theorem unwanted {ops : Array Oper} {tmps : Array Value} {o : Oper} {j d : Nat} {b c : Bool} (hg : o.guard = some (j,b)) (hd : (ops[j]?).bind (·.dst) = some d) (ht : tmps[d]? = some (.bool c)) (hc : (c == b) = false) : Region.wanted o (yielded ops tmps) = false:=by
 have hy : yielded ops tmps j = some c:=by unfold yielded; rw [hd]; simp only [Option.bind_some,ht]
 unfold Region.wanted
 rw [hg]
 simp only [hy]
 simpa using hc
theorem unwanted_undef {ops : Array Oper} {tmps : Array Value} {o : Oper} {j d : Nat} {b : Bool} (hg : o.guard = some (j,b)) (hd : (ops[j]?).bind (·.dst) = some d) (ht : tmps[d]? = some undef) : Region.wanted o (yielded ops tmps) = false:=by
 have hy : yielded ops tmps j = none:=by unfold yielded; rw [hd]; simp only [Option.bind_some,ht]; rfl
 unfold Region.wanted
 rw [hg]
 simp only [hy]
 rfl
/-- An operation of a drawn region that yields its value wherever S holds is taken first. -/
theorem take_one {P : Program} {ops : Array Oper} {Q : Exit → Act → World → Prop} {md : Region.Mode} {S : World → Prop} (i d : Nat) {oi : Oper} {v : Value} {fuel : Nat} {listed : Array Bool} {a : Act} {w : World} (hi : ops[i]? = some oi) (hd : oi.dst = some d)
  (hs : Region.noSelect ops = true) (hf : Region.free md ops listed i = true) (hr : (Region.ready md ops listed).contains i = true) (hQ : ∀ c a w,Q (.panic c) (a.put (some d) v) w → Q (.panic c) a w)
  (hy : YieldsIf P ops S oi v a) (hS : S w) (h : wpAnyH P md ops Q S fuel (listed.setIfInBounds i true) (a.put (some d) v) w) : wpAnyH P md ops Q S (fuel + 1) listed a w :=
 wpAnyH_take hi hs hf hr (by rw [hd]; exact hQ) hy hS (by rw [hd]; exact h)
/-- An operation of a drawn region that its guard passes over is taken first. -/
theorem skip_one {P : Program} {ops : Array Oper} {Q : Exit → Act → World → Prop} {md : Region.Mode} {S : World → Prop} (i d : Nat) {oi : Oper} {fuel : Nat} {listed : Array Bool} {a : Act} {w : World} (hi : ops[i]? = some oi) (hd : oi.dst = some d)
  (hs : Region.noSelect ops = true) (hf : Region.free md ops listed i = true) (hr : (Region.ready md ops listed).contains i = true) (hQ : ∀ c a w,Q (.panic c) (a.put (some d) undef) w → Q (.panic c) a w)
  (hw : Region.wanted oi (yielded ops a.tmps) = false) (hS : S w) (h : wpAnyH P md ops Q S fuel (listed.setIfInBounds i true) (a.put (some d) undef) w) : wpAnyH P md ops Q S (fuel + 1) listed a w :=
 take_one i d hi hd hs hf hr hQ (Or.inr ⟨hw,rfl⟩) hS h
theorem pa {α : Type} (l : List α) (i : Nat) (v : α) : l.toArray.setIfInBounds i v = (l.set i v).toArray:=List.setIfInBounds_toArray _ _ _
theorem pb {α : Type} (x y : α) (l : List α) : (x :: l).set 0 y = y :: l:=List.set_cons_zero
theorem pc {α : Type} (x y : α) (l : List α) (i : Nat) : (x :: l).set (i + 1) y = x :: l.set i y:=List.set_cons_succ
theorem tk {P : Program} {ops : Array Oper} {Q : Exit → Act → World → Prop} {md : Region.Mode} {S : World → Prop} (i d : Nat) {oi : Oper} {fuel : Nat} {listed : Array Bool} {a : Act} {w : World} (hi : ops[i]? = some oi) (v : Value) (hS : S w)
  (hy : ∀ w,S w → (execOp a.eval oi).run P w = .ok (.value v) w) (h : wpAnyH P md ops Q S fuel (listed.setIfInBounds i true) (a.put (some d) v) w)
  (hd : oi.dst = some d:=by rfl) (hb : (Region.noSelect ops && (Region.free md ops listed i && (Region.ready md ops listed).contains i)) = true:=by kernel_rfl)
  (hQ : ∀ c a w,Q (.panic c) (a.put (some d) v) w → Q (.panic c) a w:=by exact fun _ _ _ h => h) (hw : Region.wanted oi (yielded ops a.tmps) = true:=by rfl) : wpAnyH P md ops Q S (fuel + 1) listed a w:=by
 simp only [Bool.and_eq_true] at hb
 exact take_one i d hi hd hb.1 hb.2.1 hb.2.2 hQ (Or.inl ⟨hw,hy⟩) hS h
theorem sk {P : Program} {ops : Array Oper} {Q : Exit → Act → World → Prop} {md : Region.Mode} {S : World → Prop} (i d : Nat) {oi : Oper} {fuel : Nat} {listed : Array Bool} {a : Act} {w : World} (hi : ops[i]? = some oi) (hS : S w) (hw : Region.wanted oi (yielded ops a.tmps) = false)
  (h : wpAnyH P md ops Q S fuel (listed.setIfInBounds i true) (a.put (some d) undef) w)
  (hd : oi.dst = some d:=by rfl) (hb : (Region.noSelect ops && (Region.free md ops listed i && (Region.ready md ops listed).contains i)) = true:=by kernel_rfl)
  (hQ : ∀ c a w,Q (.panic c) (a.put (some d) undef) w → Q (.panic c) a w:=by exact fun _ _ _ h => h) : wpAnyH P md ops Q S (fuel + 1) listed a w:=by
 simp only [Bool.and_eq_true] at hb
 exact skip_one i d hi hd hb.1 hb.2.1 hb.2.2 hQ hw hS h
/-- A step of a drawn region: 'append', as it runs. -/
theorem step_append {P : Program} {ops : Array Oper} {o : Oper} {a : Act} {w w' : World} {K : Act → World → Prop} {Q : Exit → Act → World → Prop} {E : Prop} (d : Nat) (hd : o.dst = some d) (hgd : o.guard = none) (s x : Operand) (t : TypeId)
  (ho : o.op = .call { callee:=.builtin .append,args:=#[s,x],argTypes:=#[t,t] }) (v xv v' : Value) (hs : a.eval s = v) (hx : a.eval x = xv) (hr : (Builtin.append_ #[t,t] o.type #[v,xv]).run P w = .ok v' w') (h : K (a.put (some d) v') w') :
  if Region.wanted o (yielded ops a.tmps) = true then Oper.wp P o a w K Q else E:=by
 have hw : Region.wanted o (yielded ops a.tmps) = true:=by simp [Region.wanted,hgd]
 rw [if_pos hw]
 unfold Oper.wp execOp
 simp only [ho,resolve,invoke,builtin,Sem.run_bind,Sem.run_pure,Result.andThen_ok,List.map_toArray,List.map_cons,List.map_nil,hs,hx,hr]
 rw [← hd] at h
 exact h
/-- 'append' at the operation, as it runs. -/
theorem wpList_append {P : Program} {ops : Array Oper} {rest : List Oper} {o : Oper} {a : Act} {w w' : World} {Q : Exit → Act → World → Prop} (hgd : o.guard = none) (s x : Operand) (t : TypeId)
  (ho : o.op = .call { callee:=.builtin .append,args:=#[s,x],argTypes:=#[t,t] }) (v xv v' : Value) (hs : a.eval s = v) (hx : a.eval x = xv) (hr : (Builtin.append_ #[t,t] o.type #[v,xv]).run P w = .ok v' w') (h : wpList P ops Q rest (a.put o.dst v') w') :
  wpList P ops Q (o :: rest) a w:=by
 refine wpList_plain hgd fun K hK => ?_
 unfold Oper.wp execOp
 simp only [ho,resolve,invoke,builtin,Sem.run_bind,Sem.run_pure,Result.andThen_ok,List.map_toArray,List.map_cons,List.map_nil,hs,hx,hr]
 exact hK _ _ h
/-- An operation of a drawn region that reads nothing is taken first. -/
theorem take_any {P : Program} {ops : Array Oper} {Q : Exit → Act → World → Prop} {md : Region.Mode} (i d : Nat) {oi : Oper} {v : Value} {fuel : Nat} {listed : Array Bool} {a : Act} {w : World} (hi : ops[i]? = some oi) (hd : oi.dst = some d)
  (hs : Region.noSelect ops = true) (hf : Region.free md ops listed i = true) (hr : (Region.ready md ops listed).contains i = true) (hQ : ∀ c a w,Q (.panic c) (a.put (some d) v) w → Q (.panic c) a w)
  (hy : Yields P ops oi v a) (h : wpAny P md ops Q fuel (listed.setIfInBounds i true) (a.put (some d) v) w) : wpAny P md ops Q (fuel + 1) listed a w :=
 wpAny_take hi hs hf hr (by rw [hd]; exact hQ) hy (by rw [hd]; exact h)
end Vw
theorem field_shut (a b : Value) (V : World) : (Instr.field 165 (.agg #[a,b]) 1).run Tryz.prog V = .ok b V:=by simp [Instr.field,go_sem,asAgg]
section
variable {X : Nat → Prop} {p N mT mL : Nat} {DT DL : DataW Value} {rv : Option Int → Value} {s : VS} {w : World}
theorem ViewM.look_at (h : ViewM X p N mT mL DT DL rv s w) {k : Int} (hk : (Lit.int .i64 k).wf = true) {V : World} (hV : V.heap[mL]? = w.heap[mL]?) :
  (Instr.lookup 161 (.map (some mL)) (I k) false).run Tryz.prog V = .ok (.agg #[.bool (s.F k).1,rv (some k)]) V:=by
 have ho : V.ownsMap Tryz.prog 3 heldR mL N DL:=by
  obtain ⟨es',clock,hb',F,hs',hD⟩:=h.ml
  exact ⟨es',clock,hV.trans hb',F,hs',hD⟩
 obtain ⟨v,ps,hrun,hv⟩:=ho.lookup keyed3 Tryz.underlying161 (Tryz.zeroValue165 V) (zd:=.held lock0) (zp:=[]) rfl (Maps.keyOf_int_mk Tryz.underlying3 hk)
 rw [h.hl k hk] at hv
 have : v = .agg #[.bool (s.F k).1,rv (some k)]:=by
  unfold heldR at hv
  simp only [Option.some.injEq,Prod.mk.injEq,DataW.held.injEq] at hv
  exact hv.1
 rw [← this]
 exact hrun
end
set_option maxRecDepth 100000 in
set_option maxHeartbeats 3200000 in
theorem reach_is {X : Nat → Prop} {p N : Nat} {s : VS} {w : World} (h : ViewAt X p N s w) (hN : N < 8589934592) {k : Int} (hk : (Lit.int .i64 k).wf = true) (hl : s.A.length + (s.F k).2.length ≤ 8589934592) :
  Calls Tryz.prog 144 #[.pointer (some ⟨p,0,none⟩),I k] w fun e w' => e = .returned (.tuple #[]) ∧ ViewAt X p (N + 1) (s.reach k) w' ∧ Keep X w w':=by
 obtain ⟨mT,mL,DT,DL,rv,hm⟩:=h
 obtain ⟨ar,cr,hrv,_,hrow⟩:=(hm.q (some k)).row
 have hD : ViewM X p N mT mL DT DL rv s w.drew:=hm.below (Below.refl _ _).drew
 have hsrc : Src Tryz.prog 1 26 (rv (some k)) (s.F k).2.length (strV (s.F k).2) w.drew:=by rw [hrv]; exact src_row _ _ _ _ (hrow.later (Below.refl _ _).drew)
 obtain ⟨v1,w1,hrun,hk1,hg1,⟨a1,n1,cap1,hv1⟩,hm1⟩:=hD.ahead 26 hsrc hl
 obtain ⟨lp,lT,lL⟩:=hm.lt
 have ep : w1.heap[p]? = w.heap[p]?:=hg1.block p lp (fun e => (hm.far none p e.symm).1 rfl)
 have eL : w1.heap[mL]? = w.heap[mL]?:=hg1.block mL lL (fun e => (hm.far none mL e.symm).2.2.1 rfl)
 obtain ⟨W2,hW2⟩ : ∃ W2,w1.setCell ⟨p,0,none⟩ (.slice a1 n1 cap1) = W2:=⟨_,rfl⟩
 rw [hv1,hW2] at hm1 hk1
 obtain ⟨w3,hrun3,hk3,hv3⟩:=hm1.put hN hk true (.slice none 0 0) [] (QRow.nil _ _) (fun b hb => by cases hb)
 have c2:=hm1.c2
 have d0:=(World.cell?_of_block (a:=⟨p,0,none⟩) ep).trans hm.c0
 have df:=(World.frozen?_of_block (a:=⟨p,0,none⟩) ep).trans hm.f0
 have HK : Hid (Keep X w w3):=(Keep.ofBelow (Below.refl w.heap.size w).drew hm.xlt).trans (hk1.trans hk3)
 have HV : Hid (ViewAt X p (N + 1) (s.reach k) w3):=hv3
 have fs:=field_shut
 have e0 : w.drew.cell? ⟨p,0,none⟩ = some (rv none):=hm.c0
 have e2 : w.drew.cell? ⟨p,2,none⟩ = some (.map (some mL)):=hm.c2
 have e3:=hm.look_at hk (V:=w.drew) rfl
 clear hrv hrow hsrc hv3 hk3 hk1
 go_enter Tryz.func144,Tryz.ntmps144
 go_wp2_with fail
 refine wp_region_any (by kernel_rfl) ?_
 show wpAny _ _ _ _ _ _ _ w.drew
 refine Vw.take_any 0 4 (v:=?_) rfl rfl (by kernel_rfl) (by kernel_rfl) (by kernel_rfl) (fun _ _ _ h => h) (Or.inl ⟨by rfl,?_⟩) ?_
 rotate_left
 ·intro w'; go_simp; try with_reducible rfl
 try simp only [Act.put,pa,pb,pc]
 refine Vw.take_any 1 5 (v:=?_) rfl rfl (by kernel_rfl) (by kernel_rfl) (by kernel_rfl) (fun _ _ _ h => h) (Or.inl ⟨by rfl,?_⟩) ?_
 rotate_left
 ·intro w'; go_simp; try with_reducible rfl
 try simp only [Act.put,pa,pb,pc]
 refine Vw.take_any 2 6 (v:=?_) rfl rfl (by kernel_rfl) (by kernel_rfl) (by kernel_rfl) (fun _ _ _ h => h) (Or.inl ⟨by rfl,?_⟩) ?_
 rotate_left
 ·intro w'; go_simp; try with_reducible rfl
 try simp only [Act.put,pa,pb,pc]
 refine Vw.take_any 3 7 (v:=?_) rfl rfl (by kernel_rfl) (by kernel_rfl) (by kernel_rfl) (fun _ _ _ h => h) (Or.inl ⟨by rfl,?_⟩) ?_
 rotate_left
 ·intro w'; go_simp; try with_reducible rfl
 try simp only [Act.put,pa,pb,pc]
 refine Vw.take_any 5 9 (v:=?_) rfl rfl (by kernel_rfl) (by kernel_rfl) (by kernel_rfl) (fun _ _ _ h => h) (Or.inl ⟨by rfl,?_⟩) ?_
 rotate_left
 ·intro w'; go_simp; try with_reducible rfl
 try simp only [Act.put,pa,pb,pc]
 refine Vw.take_any 6 10 (v:=?_) rfl rfl (by kernel_rfl) (by kernel_rfl) (by kernel_rfl) (fun _ _ _ h => h) (Or.inl ⟨by rfl,?_⟩) ?_
 rotate_left
 ·intro w'; go_simp; try with_reducible rfl
 try simp only [Act.put,pa,pb,pc]
 refine Vw.take_any 7 11 (v:=?_) rfl rfl (by kernel_rfl) (by kernel_rfl) (by kernel_rfl) (fun _ _ _ h => h) (Or.inl ⟨by rfl,?_⟩) ?_
 rotate_left
 ·intro w'; go_simp; try with_reducible rfl
 try simp only [Act.put,pa,pb,pc]
 refine Vw.take_any 9 13 (v:=?_) rfl rfl (by kernel_rfl) (by kernel_rfl) (by kernel_rfl) (fun _ _ _ h => h) (Or.inl ⟨by rfl,?_⟩) ?_
 rotate_left
 ·intro w'; go_simp; try with_reducible rfl
 try simp only [Act.put,pa,pb,pc]
 refine wpAny_ready (rs:=[4,8]) (by kernel_rfl) (by simp) ?_
 refine AllReady.cons (i:=4) rfl (fun K hK => ?_) (AllReady.cons (i:=8) rfl (fun K hK => ?_) AllReady.nil)
 ·
  go_simp
  refine hK _ _ ?_
  clear hK K
  try simp only [Act.put,pa,pb,pc]
  refine wpAny_ready (rs:=[8]) (by kernel_rfl) (by simp) ?_
  refine AllReady.cons (i:=8) rfl (fun K hK => ?_) AllReady.nil
  go_simp
  refine hK _ _ ?_
  clear hK K
  try simp only [Act.put,pa,pb,pc]
  refine wpAny_ready (rs:=[10]) (by kernel_rfl) (by simp) ?_
  refine AllReady.cons (i:=10) rfl (fun K hK => ?_) AllReady.nil
  go_simp
  refine hK _ _ ?_
  clear hK K
  try simp only [Act.put,pa,pb,pc]
  refine Vw.take_any 11 15 (v:=?_) rfl rfl (by kernel_rfl) (by kernel_rfl) (by kernel_rfl) (fun _ _ _ h => h) (Or.inl ⟨by rfl,?_⟩) ?_
  rotate_left
  ·intro w'; go_simp; try with_reducible rfl
  try simp only [Act.put,pa,pb,pc]
  refine wpAny_ready (rs:=[12]) (by kernel_rfl) (by simp) ?_
  refine AllReady.cons (i:=12) rfl (fun K hK => ?_) AllReady.nil
  refine Vw.step_append 16 rfl rfl _ _ 26 rfl (rv none) (rv (some k)) v1 rfl rfl hrun ?_
  refine hK _ _ ?_
  clear hK K
  try simp only [Act.put,pa,pb,pc]
  refine Vw.take_any 13 17 (v:=?_) rfl rfl (by kernel_rfl) (by kernel_rfl) (by kernel_rfl) (fun _ _ _ h => h) (Or.inl ⟨by rfl,?_⟩) ?_
  rotate_left
  ·intro w'; go_simp; try with_reducible rfl
  try simp only [Act.put,pa,pb,pc]
  refine Vw.take_any 14 18 (v:=?_) rfl rfl (by kernel_rfl) (by kernel_rfl) (by kernel_rfl) (fun _ _ _ h => h) (Or.inl ⟨by rfl,?_⟩) ?_
  rotate_left
  ·intro w'; go_simp; try with_reducible rfl
  try simp only [Act.put,pa,pb,pc]
  refine wpAny_ready (rs:=[15]) (by kernel_rfl) (by simp) ?_
  refine AllReady.cons (i:=15) rfl (fun K hK => ?_) AllReady.nil
  rw [hv1]
  go_simp
  try rw [hW2]
  refine hK _ _ ?_
  clear hK K
  try simp only [Act.put,pa,pb,pc]
  refine wpAny_done (by kernel_rfl) ?_ _
  clear hW2 hrun hm e0 e2 e3 d0 df ep eL hg1 hD
  go_wp2
  go_end0
  exact ⟨rfl,HV.out,HK.out⟩
 ·
  go_simp
  refine hK _ _ ?_
  clear hK K
  try simp only [Act.put,pa,pb,pc]
  refine wpAny_ready (rs:=[4,10]) (by kernel_rfl) (by simp) ?_
  refine AllReady.cons (i:=4) rfl (fun K hK => ?_) (AllReady.cons (i:=10) rfl (fun K hK => ?_) AllReady.nil)
  ·
   go_simp
   refine hK _ _ ?_
   clear hK K
   try simp only [Act.put,pa,pb,pc]
   refine wpAny_ready (rs:=[10]) (by kernel_rfl) (by simp) ?_
   refine AllReady.cons (i:=10) rfl (fun K hK => ?_) AllReady.nil
   go_simp
   refine hK _ _ ?_
   clear hK K
   try simp only [Act.put,pa,pb,pc]
   refine Vw.take_any 11 15 (v:=?_) rfl rfl (by kernel_rfl) (by kernel_rfl) (by kernel_rfl) (fun _ _ _ h => h) (Or.inl ⟨by rfl,?_⟩) ?_
   rotate_left
   ·intro w'; go_simp; try with_reducible rfl
   try simp only [Act.put,pa,pb,pc]
   refine wpAny_ready (rs:=[12]) (by kernel_rfl) (by simp) ?_
   refine AllReady.cons (i:=12) rfl (fun K hK => ?_) AllReady.nil
   refine Vw.step_append 16 rfl rfl _ _ 26 rfl (rv none) (rv (some k)) v1 rfl rfl hrun ?_
   refine hK _ _ ?_
   clear hK K
   try simp only [Act.put,pa,pb,pc]
   refine Vw.take_any 13 17 (v:=?_) rfl rfl (by kernel_rfl) (by kernel_rfl) (by kernel_rfl) (fun _ _ _ h => h) (Or.inl ⟨by rfl,?_⟩) ?_
   rotate_left
   ·intro w'; go_simp; try with_reducible rfl
   try simp only [Act.put,pa,pb,pc]
   refine Vw.take_any 14 18 (v:=?_) rfl rfl (by kernel_rfl) (by kernel_rfl) (by kernel_rfl) (fun _ _ _ h => h) (Or.inl ⟨by rfl,?_⟩) ?_
   rotate_left
   ·intro w'; go_simp; try with_reducible rfl
   try simp only [Act.put,pa,pb,pc]
   refine wpAny_ready (rs:=[15]) (by kernel_rfl) (by simp) ?_
   refine AllReady.cons (i:=15) rfl (fun K hK => ?_) AllReady.nil
   rw [hv1]
   go_simp
   try rw [hW2]
   refine hK _ _ ?_
   clear hK K
   try simp only [Act.put,pa,pb,pc]
   refine wpAny_done (by kernel_rfl) ?_ _
   clear hW2 hrun hm e0 e2 e3 d0 df ep eL hg1 hD
   go_wp2
   go_end0
   exact ⟨rfl,HV.out,HK.out⟩
  ·
   go_simp
   refine hK _ _ ?_
   clear hK K
   try simp only [Act.put,pa,pb,pc]
   refine Vw.take_any 11 15 (v:=?_) rfl rfl (by kernel_rfl) (by kernel_rfl) (by kernel_rfl) (fun _ _ _ h => h) (Or.inl ⟨by rfl,?_⟩) ?_
   rotate_left
   ·intro w'; go_simp; try with_reducible rfl
   try simp only [Act.put,pa,pb,pc]
   refine wpAny_ready (rs:=[4]) (by kernel_rfl) (by simp) ?_
   refine AllReady.cons (i:=4) rfl (fun K hK => ?_) AllReady.nil
   go_simp
   refine hK _ _ ?_
   clear hK K
   try simp only [Act.put,pa,pb,pc]
   refine wpAny_ready (rs:=[12]) (by kernel_rfl) (by simp) ?_
   refine AllReady.cons (i:=12) rfl (fun K hK => ?_) AllReady.nil
   refine Vw.step_append 16 rfl rfl _ _ 26 rfl (rv none) (rv (some k)) v1 rfl rfl hrun ?_
   refine hK _ _ ?_
   clear hK K
   try simp only [Act.put,pa,pb,pc]
   refine Vw.take_any 13 17 (v:=?_) rfl rfl (by kernel_rfl) (by kernel_rfl) (by kernel_rfl) (fun _ _ _ h => h) (Or.inl ⟨by rfl,?_⟩) ?_
   rotate_left
   ·intro w'; go_simp; try with_reducible rfl
   try simp only [Act.put,pa,pb,pc]
   refine Vw.take_any 14 18 (v:=?_) rfl rfl (by kernel_rfl) (by kernel_rfl) (by kernel_rfl) (fun _ _ _ h => h) (Or.inl ⟨by rfl,?_⟩) ?_
   rotate_left
   ·intro w'; go_simp; try with_reducible rfl
   try simp only [Act.put,pa,pb,pc]
   refine wpAny_ready (rs:=[15]) (by kernel_rfl) (by simp) ?_
   refine AllReady.cons (i:=15) rfl (fun K hK => ?_) AllReady.nil
   rw [hv1]
   go_simp
   try rw [hW2]
   refine hK _ _ ?_
   clear hK K
   try simp only [Act.put,pa,pb,pc]
   refine wpAny_done (by kernel_rfl) ?_ _
   clear hW2 hrun hm e0 e2 e3 d0 df ep eL hg1 hD
   go_wp2
   go_end0
   exact ⟨rfl,HV.out,HK.out⟩
set_option maxRecDepth 100000 in
set_option maxHeartbeats 1600000 in
theorem saw_is {X : Nat → Prop} {p N : Nat} {s : VS} {w : World} (h : ViewAt X p N s w) {t : ByteArray} (ht : t.size ≤ 1048576) :
  Calls Tryz.prog 184 #[.pointer (some ⟨p,0,none⟩),.string t] w fun e w' => ∃ b,e = .returned (.bool b) ∧ (b = true ↔ t ∈ s.T) ∧ ViewAt X p N s w' ∧ Below w.heap.size w w':=by
 obtain ⟨mT,mL,DT,DL,rv,hm⟩:=h
 obtain ⟨b,hrun,hb⟩:=hm.saw ht
 have c1:=hm.c1
 have hB : Below w.heap.size w (w.alloc (.cells #[] 222)):=(Below.refl _ _).alloc (Nat.le_refl _) _
 have HV : Hid (ViewAt X p N s (w.alloc (.cells #[] 222))):=⟨mT,mL,DT,DL,rv,hm.below hB⟩
 have HB : Hid (b = true ↔ t ∈ s.T):=hb
 clear hm hb
 go_enter Tryz.func184,Tryz.ntmps184
 go_wp2
 go_ret
 exact ⟨b,rfl,HB.out,HV.out,hB⟩
end Go.Proofs.YtlmpfkbgknbcnaaGreat.Kn
