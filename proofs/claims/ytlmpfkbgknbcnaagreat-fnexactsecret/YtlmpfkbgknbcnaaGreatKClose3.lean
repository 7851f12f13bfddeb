/- All that is seen and reached: the model's rounds. -/
import Derived.Test.YtlmpfkbgknbcnaaGreatKWide
import Derived.Test.YtlmpfkbgknbcnaaGreatKnow3
import Derived.Test.YtlmpfkbgknbcnaaGreatKPass
import Derived.Shelf.Abstract
import Derived.Test.YtlmpfkbgknbcnaaGreatShelf
import Derived.Test.YtlmpfkbgknbcnaaGreatKKeys
import Derived.Maps.RangeWalk
import Derived.Maps.AppendAt
import Derived.Sort.OwnSortedInts
set_option linter.unusedVariables false
namespace Go.Proofs.YtlmpfkbgknbcnaaGreat.Kn
open Go.RowKit _root_.Go.Proofs.YtlmpfkbgknbcnaaGreat.Own Var Term
def lenV : Value → Nat
 | .slice _ n _ => n
 | _ => 0
theorem row_grown {α : Type} {f : α → Value} {w w' : World} {row : Option Nat} {a : Option Addr} {xs : List α} (hg : w.grownBy w' row) (hr : RowAt f w a xs) (hne : ∀ q : Addr,a = some q → row ≠ some q.block) : RowAt f w' a xs:=by
 intro j hj
 obtain ⟨b,off,e,hlt,hc⟩:=hr j hj
 refine ⟨b,off,e,Nat.lt_of_lt_of_le hlt hg.size,?_⟩
 rw [World.cell?_of_block (w:=w) (a:=⟨b,off + j,none⟩) (hg.block b hlt (fun h => hne _ e h.symm))]
 exact hc
theorem open_cases {xs : List ByteArray} {ks : List Int} {tt : ByteArray} {y : Int} (hs : SeenT xs ks tt) (hy : ReachT xs ks y) :
  ∃ ou ob,openR tt y = (ou,ob) ∧ Hid ((ob = true → SeenT xs ks ou ∧ ou.size ≤ 1048576 ∧ ∀ (n : Nat) u,rk tt 115 = some (n,u) → (n : Int) = y → u = ou) ∧ (ob = false → ∀ (n : Nat) u,rk tt 115 = some (n,u) → ¬ (n : Int) = y)):=by
 unfold openR
 cases hr : rk tt 115 with
 | none => exact ⟨_,_,rfl,by simp,fun _ n u h => by cases h⟩
 | some q =>
  obtain ⟨n,u⟩:=q
  by_cases h : (n : Int) = y
  ·refine ⟨u,true,by simp [h],fun _ => ⟨(closed_least xs ks).2.2.2.1 tt n u hs hr (h ▸ hy),by have:=((isT_iff u).1 (inside_isT hr)).1; omega,fun m v e _ => by cases e; rfl⟩,fun c => by cases c⟩
  ·refine ⟨⟨#[]⟩,false,by simp [h],fun c => (by cases c),fun _ m v e => by cases e; exact h⟩
theorem kOk_keys' {xs : List ByteArray} {ks : List Int} (h : kOk xs ks = true) : kKeys ks = true:=by
 unfold kOk at h
 simp at h
 exact h.2
theorem pair_of' {ks : List Int} (h : kKeys ks = true) : ks.Pairwise (· < ·):=by
 unfold kKeys at h
 rw [List.all_eq_true] at h
 have adj : ∀ j (hj : j + 1 < ks.length),ks[j] < ks[j + 1]:=by
  intro j hj
  have:=h (j + 1) (List.mem_range.2 hj)
  unfold goodK at this
  simp only [Nat.add_sub_cancel,Bool.and_eq_true,Bool.or_eq_true,decide_eq_true_eq] at this
  rcases this.2 with c | c
  ·simp at c
  ·rwa [getD_at (by omega),getD_at hj] at c
 rw [List.pairwise_iff_getElem]
 intro i j hi hj hij
 induction j with
 | zero => omega
 | succ j ih =>
  by_cases e : i = j
  ·subst e; exact adj i hj
  ·exact Int.lt_trans (ih (by omega) (by omega)) (adj j hj)
theorem kOk_facts {xs : List ByteArray} {ks : List Int} (h : kOk xs ks = true) : (∀ x,x ∈ xs → isT x = true) ∧ xs.Nodup ∧ (∀ k,k ∈ ks → 1 ≤ k ∧ k ≤ 1000000):=by
 have hk:=kOk_keys' h
 unfold kOk at h
 simp only [Bool.and_eq_true,decide_eq_true_eq] at h
 have ht:=h.1.1.2
 unfold kTerms at ht
 rw [List.all_eq_true] at ht
 have hg : ∀ j (hj : j < xs.length),isT xs[j] = true ∧ inB (xs.take j) xs[j] = false:=by
  intro j hj
  have:=ht j (List.mem_range.2 hj)
  rw [goodT_at hj] at this
  simpa using this
 refine ⟨fun x hx => ?_,?_,fun k hk2 => ?_⟩
 ·obtain ⟨j,hj,rfl⟩:=List.getElem_of_mem hx
  exact (hg j hj).1
 ·rw [List.nodup_iff_pairwise_ne,List.pairwise_iff_getElem]
  intro i j hi hj hij e
  have h1:=(hg j hj).2
  have h2 : xs[j] ∈ xs.take j:=by rw [← e]; exact List.mem_take_iff_getElem.2 ⟨i,by omega,rfl⟩
  rw [(inB_iff _ _).2 h2] at h1
  cases h1
 ·obtain ⟨j,hj,rfl⟩:=List.getElem_of_mem hk2
  unfold kKeys at hk
  rw [List.all_eq_true] at hk
  have:=hk j (List.mem_range.2 hj)
  rw [goodK_at hj] at this
  simp only [Bool.and_eq_true,decide_eq_true_eq] at this
  exact this.1
end Go.Proofs.YtlmpfkbgknbcnaaGreat.Kn

set_option linter.unusedVariables false
namespace Go.Proofs.YtlmpfkbgknbcnaaGreat.Kn
open Go.RowKit _root_.Go.Proofs.YtlmpfkbgknbcnaaGreat.Own Var Term
end Go.Proofs.YtlmpfkbgknbcnaaGreat.Kn
namespace Go.Proofs.YtlmpfkbgknbcnaaGreat.Kn
open Go.RowKit _root_.Go.Proofs.YtlmpfkbgknbcnaaGreat.Own Var Term
end Go.Proofs.YtlmpfkbgknbcnaaGreat.Kn

set_option linter.unusedVariables false
namespace Go.Proofs.YtlmpfkbgknbcnaaGreat.Kn
open Go.RowKit _root_.Go.Proofs.YtlmpfkbgknbcnaaGreat.Own Var Term
theorem run_clear (w : World) (b : Nat) (es : Array MapEntry) (clock : Nat) (ty : TypeId) (h : w.heap[b]? = some (.map es clock)) : (Builtin.clear_ #[160] ty #[.map (some b)]).run Tryz.prog w = .ok (.tuple #[]) (w.putObj b (.map #[] clock)):=by
 have h1 : (getObj b).run Tryz.prog w = .ok (.map es clock) w:=by simp [getObj,Sem.run,h]
 have h2 : ∀ o,(setObj b o).run Tryz.prog w = .ok () (w.putObj b o):=fun o => by simp [setObj,Sem.run,h,World.putObj]
 simp [Builtin.clear_,go_sem,run_underlying Tryz.underlying160,h1,h2]
section
variable {P : Program}
/-- A deferred call of a builtin, on the way out. -/
theorem step_builtin {fr : Frame} {cs : List Frame} {w w' : World} {ds : List Deferred} {v : Value} {b : Builtin} {ats : Array TypeId} {ty : TypeId} {cn : Array Bool} {da : Array Value}
  (hm : fr.mode = .returning) (hd : fr.defers = { target:=.builtin b ats ty cn,args:=da } :: ds) (hi : (invoke (.builtin b ats ty cn) da).run P w = .ok (.value v) w') :
  step P (lone fr cs w) = .next (lone { fr with defers:=ds } cs w'):=by
 refine step_lone_go ?_
 simp [stepG,unwind,callDeferred,hm,hd,Sem.runT_eq,hi,GStep.bare_after]
/-- How a body that defers one call of a builtin, at most, is left. -/
def bodyPostB (P : Program) (fn : Func) (R : Ending → World → Prop) : Exit → Act → World → Prop
 | .normal,a,w | .ret,a,w => (a.defers = [] ∧ ∃ v,(results fn a.tmps).run P w = .ok v w ∧ R (.returned v) w) ∨
   (∃ b ats ty cn da u w',a.defers = [{ target:=.builtin b ats ty cn,args:=da }] ∧ (invoke (.builtin b ats ty cn) da).run P w = .ok (.value u) w' ∧ ∃ v,(results fn a.tmps).run P w' = .ok v w' ∧ R (.returned v) w')
 | _,_,_ => False
theorem leaves_b {f : FuncId} {fn : Func} {R : Ending → World → Prop} (hf : P.funcs[f]? = some fn) (fr : Frame) (cs : List Frame) (a : Act) (w : World) (h1 : fr.mode = .returning) (h2 : fr.defers = a.defers) (h3 : fr.tmps = a.tmps) (h4 : fr.fn = f) (h5 : fr.kind = .normal)
  (h : bodyPostB P fn R .ret a w) : ∃ e w' fr',R e w' ∧ Comes P (lone fr cs w) (lone fr' cs w') e ∧ fr'.fn = f ∧ fr'.leaving P w' e:=by
 rcases h with ⟨hd,v,hr,hR⟩ | ⟨b,ats,ty,cn,da,u,w',hd,hi,v,hr,hR⟩
 ·exact ⟨.returned v,w,fr,hR,Steps.refl P _,h4,h1,h2.trans hd,h5,fn,by rw [h4]; exact hf,by rw [h3]; exact hr⟩
 ·have hs:=step_builtin (cs:=cs) h1 (h2.trans hd) hi
  exact ⟨.returned v,w',{ fr with defers:=[] },hR,Steps.one hs,h4,h1,rfl,h5,fn,by rw [← hf]; show P.funcs[fr.fn]? = _; rw [h4],by show (results fn fr.tmps).run P w' = _; rw [h3]; exact hr⟩
theorem calls_of_wp_builtin {f : FuncId} {fn : Func} {c : Code} {args : Array Value} {w : World} {R : Ending → World → Prop}
  (hf : P.funcs[f]? = some fn) (hb : fn.body = some c)
  (h : c.wp P (bodyPostB P fn R) { tmps:=args ++ Array.replicate (fn.ntmps - args.size) undef,defers:=[] } w) : Calls P f args w R:=by
 intro cs
 let b : Frame:={ (default : Frame) with fn:=f,kind:=.normal }
 have henter : Frame.enter P f args .normal =
   b.at { tmps:=args ++ Array.replicate (fn.ntmps - args.size) undef,defers:=[] } [.code c]:=by
  simp [Frame.enter,Frame.at,hf,hb,b]
 obtain ⟨e,a',w',hq,harr⟩:=h b [] cs
 rw [← henter] at harr
 cases e with
 | normal =>
  obtain ⟨e',w'',fr',hR,hs,hfn,hl⟩:=leaves_b hf { b.at a' [] with mode:=.returning } cs a' w' rfl rfl rfl rfl rfl hq
  exact ⟨e',w'',fr',hR,Comes.of_steps (Steps.trans harr (.one step_end)) hs,hfn,hl⟩
 | ret =>
  obtain ⟨todo,hs₀⟩:=harr
  obtain ⟨e',w'',fr',hR,hs,hfn,hl⟩:=leaves_b hf { b.at a' todo with mode:=.returning } cs a' w' rfl rfl rfl rfl rfl hq
  exact ⟨e',w'',fr',hR,Comes.of_steps hs₀ hs,hfn,hl⟩
 | panic chain => exact hq.elim
 | exit id => exact hq.elim
 | goto l => exact hq.elim
 | outgrown => exact hq.elim
end
set_option maxRecDepth 100000 in
set_option maxHeartbeats 800000 in
theorem cloneS_is (a : Option Addr) (cap : Nat) (xs : List ByteArray) (w : World) (hr : RowAt Value.string w a xs) (hl : xs.length ≤ 1048576) :
  Calls Tryz.prog 143 #[.slice a xs.length cap] w fun e w' => ∃ v,e = .returned v ∧ QRow w.heap.size w' v xs ∧ Below w.heap.size w w':=by
 have q24 : ∀ (w : World) (a : Option Addr) (n c n' c' : Nat),(binOp .eql 26 (.slice a n c) (.slice none n' c')).run Tryz.prog w = .ok (.bool a.isNone) w:=fun w a n c n' c' => Lib.run_eql_slice_nil w _ _ a n c n' c' Tryz.underlying26
 cases a with
 | none =>
  have : xs = []:=by
   cases xs with
   | nil => rfl
   | cons x xs => obtain ⟨b,off,e,_⟩:=hr 0 (by simp); cases e
  subst this
  go_enter Tryz.func143,Tryz.ntmps143
  go_wp2
  go_ret
  exact ⟨_,rfl,QRow.nil _ _,Below.refl _ _⟩
 | some ad =>
  have hb0 : Below w.heap.size w (w.alloc (.cells #[] 9)):=(Below.refl _ _).alloc (Nat.le_refl _) _
  have hlit : (w.alloc (.cells #[] 9)).ownsRow w.heap.size 9 1 (.slice (some ⟨w.heap.size,0,none⟩) 0 0) 0 (strV []):=World.ownsRow_lit _ _ _ (Nat.le_refl _) (by unfold maxLen; omega) rfl
  obtain ⟨v1,w1,hrun,hq,hg,hat,_⟩:=(QRow.own hlit).append (by simp) 26 (src_row _ (some ad) cap xs (hr.later hb0)) (by simp; omega)
  have hb1:=hb0.grown hg (by simp) (by intro k hk; simp [Value.ownBlock] at hk; omega)
  simp only [List.nil_append] at hrun hq
  go_enter Tryz.func143,Tryz.ntmps143
  go_wp2_with (first | (at_builtin; refine Vw.wpList_append rfl _ _ 26 rfl _ _ v1 rfl rfl hrun ?_) | go_in)
  go_wp2
  go_ret
  exact ⟨_,rfl,hq,hb1⟩
set_option linter.unusedVariables false
end Go.Proofs.YtlmpfkbgknbcnaaGreat.Kn
namespace Go.Proofs.YtlmpfkbgknbcnaaGreat.Kn
open Go.RowKit _root_.Go.Proofs.YtlmpfkbgknbcnaaGreat.Own Var Term
theorem QRow.base {B : Nat} {w : World} {v : Value} {xs : List ByteArray} (h : QRow B w v xs) : QRow 0 w v xs:=by
 obtain ⟨cap,h1,h2,h | ⟨b,off,hv,hb,hlt,hc,hf⟩⟩:=h
 ·exact ⟨cap,h1,h2,.inl h⟩
 ·exact ⟨cap,h1,h2,.inr ⟨b,off,hv,Nat.zero_le _,hlt,hc,hf⟩⟩
end Go.Proofs.YtlmpfkbgknbcnaaGreat.Kn
namespace Go.Proofs.YtlmpfkbgknbcnaaGreat.Kn
open Go.RowKit _root_.Go.Proofs.YtlmpfkbgknbcnaaGreat.Own Var Term
theorem inf_bound {xs : List ByteArray} {ks : List Int} (h : kOk xs ks = true) : (allInf xs).length ≤ 50000000:=by
 obtain ⟨hT,_,_⟩:=kOk_facts h
 have h1:=allInf_len xs (fun x hx => ((isT_iff x).1 (hT x hx)).1)
 have h2:=(kOk_len h).1
 have h3 : xs.length * 811801 ≤ 60 * 811801:=Nat.mul_le_mul_right _ h2
 omega
end Go.Proofs.YtlmpfkbgknbcnaaGreat.Kn

set_option linter.unusedVariables false
namespace Go.Proofs.YtlmpfkbgknbcnaaGreat.Kn
open Go.RowKit Go.Sort Var Term _root_.Go.Proofs.YtlmpfkbgknbcnaaGreat.Own
attribute [local go_sem] Oper.semAt_some
/-- The keys that the range has given so far. -/
def Got (DL : DataW Value) (F : Int → Bool) (left : Lit → Bool) (K : List Int) : Prop :=
 K.Nodup ∧ ∀ k,k ∈ K ↔ (Lit.int .i64 k).wf = true ∧ Maps.has DL (.int .i64 k) = true ∧ left (.int .i64 k) = false ∧ F k = true
theorem Got.start (DL : DataW Value) (F : Int → Bool) : Got DL F (Maps.has DL) []:=⟨List.nodup_nil,fun x => by cases Maps.has DL (.int .i64 x) <;> simp⟩
theorem Got.yes {DL : DataW Value} {F : Int → Bool} {left : Lit → Bool} {K : List Int} (h : Got DL F left K) {x : Int} {y : DataW Value} (hw : (Lit.int .i64 x).wf = true) (hlk : left (.int .i64 x) = true) (hat : ∀ zd,DL.atKey (.int .i64 x) zd = y) (hF : F x = true) :
  Got DL F (fun z => left z && !z.sameKey (.int .i64 x)) (K ++ [x]):=by
 have hhas : Maps.has DL (.int .i64 x) = true:=Maps.has_true_of_atKey hat
 have hnew : x ∉ K:=fun hx => by have:=((h.2 x).1 hx).2.2.1; rw [hlk] at this; cases this
 refine ⟨List.nodup_append.2 ⟨h.1,by simp,fun a ha b hb => by simp at hb; subst hb; exact fun e => hnew (e ▸ ha)⟩,fun y => ?_⟩
 by_cases hy : y = x
 ·subst hy; simp [hhas,hw,hF,Lit.sameKey]
 ·simp [h.2 y,hy,Lit.sameKey]
theorem Got.no {DL : DataW Value} {F : Int → Bool} {left : Lit → Bool} {K : List Int} (h : Got DL F left K) {x : Int} (hlk : left (.int .i64 x) = true) (hF : F x = false) :
  Got DL F (fun z => left z && !z.sameKey (.int .i64 x)) K:=by
 refine ⟨h.1,fun y => ?_⟩
 rw [h.2 y]
 by_cases hy : y = x
 ·subst hy; simp [hF]
 ·simp [hy,Lit.sameKey]
theorem Got.len {DL : DataW Value} {F : Int → Bool} {left : Lit → Bool} {K : List Int} (h : Got DL F left K) (hF : ∀ k,F k = true → 1 ≤ k ∧ k ≤ 1000000) : K.length ≤ 1000001:=by
 have:=nodup_le K ((List.range 1000001).map Int.ofNat) h.1 (fun k hk => by
  have:=hF k ((h.2 k).1 hk).2.2.2
  rw [List.mem_map]
  exact ⟨k.toNat,by rw [List.mem_range]; omega,by show (k.toNat : Int) = k; omega⟩)
 simpa using this
theorem pair_of_sort (K : List Int) (h : K.Nodup) : (K.mergeSort fun x y => decide (x ≤ y)).Pairwise (· < ·):=by
 have h1 : (K.mergeSort fun x y => decide (x ≤ y)).Pairwise (fun x y => decide (x ≤ y) = true):=List.pairwise_mergeSort (fun a b c h1 h2 => by simp at *; omega) (fun a b => by simp; omega) K
 have h2 : (K.mergeSort fun x y => decide (x ≤ y)).Nodup:=(List.mergeSort_perm K _).nodup_iff.2 h
 refine (h1.and h2).imp_of_mem ?_
 intro a b _ _ hab
 have:=hab.1
 have h3:=hab.2
 simp at this
 omega
set_option maxRecDepth 100000 in
set_option maxHeartbeats 3200000 in
theorem reach1_is {X : Nat → Prop} {p N0 M : Nat} {xs : List ByteArray} {ks kd0 : List Int} {s0 : VS} {w : World} (hxs : ∀ x,x ∈ xs → isT x = true) (hM : (allInf xs).length ≤ M) (hM2 : M ≤ 50000000) (hx60 : xs.length ≤ 60) (hN0 : N0 ≤ 1000000) (hT0 : s0.T = []) (h0 : AI xs ks kd0 s0) (hkd0 : ∀ k,k ∈ ks → k ∈ kd0) (hv : ViewAt X p N0 s0 w)
  (hks : ∀ k,k ∈ ks → 1 ≤ k ∧ k ≤ 1000000) :
  Calls Tryz.prog 99 #[.pointer (some ⟨p,0,none⟩)] w fun e w' => ∃ (b : Option Addr) (cap : Nat) (K : List Int),e = .returned (.slice b K.length cap) ∧ w'.ownsRow w.heap.size 3 1 (.slice b K.length cap) K.length (intV K) ∧
   Hid ((∀ k,k ∈ K ↔ ReachT xs ks k) ∧ K.Pairwise (· < ·)) ∧ Keep X w w' ∧ ∃ s N,ViewAt X p N s w':=by
 obtain ⟨i0,hi,hz0,hz1,hz2⟩:=info_parts infoInt
 have hS:=seeAll_is hxs hM hM2 hx60 hN0 hT0 h0 hv
 go_enter Tryz.func99,Tryz.ntmps99
 go_wp2_with fail
 refine hS.mono ?_
 clear hS
 rintro e w1 ⟨rfl,T,F,kd,N,hkd,hAI,hV,hk⟩
 have hsF:=(hAI.done (fun k hk => hkd k (hkd0 k hk))).2
 have hFr : ∀ k,(F k).1 = true → 1 ≤ k ∧ k ≤ 1000000:=fun k h => reach_range hks ((hsF k).1 h)
 obtain ⟨mT,mL,DT,DL,rv,hm⟩:=hV
 have d2:=hm.c2
 have hml:=hm.ml
 clear hAI h0 hv
 have HM:=show Hid _ from hm
 clear hm
 go_wp2_with (first | (at_range; refine wpList_range_own _ rfl _ 161 rfl 3 165 keyed3 Tryz.underlying161 heldR mL N DL rfl hml ?_; intro wr0 hrg0 hg0 hs0) | go_in)
 go_frame
 have hb0 : Below w1.heap.size w1 wr0:=⟨hg0.os,hg0.tape,hg0.output,hg0.size,fun k hk => hg0.block k hk (by simp)⟩
 have hml1 : mL < w1.heap.size:=HM.out.lt.2.2
 go_loopw [3] (fun v wr => ∃ (b : Option Addr) (cap : Nat) (K : List Int) (left : Lit → Bool) (cnt : Nat),v = .slice b K.length cap ∧ wr.ownsRow (w1.heap.size + 1) 3 1 (.slice b K.length cap) K.length (intV K) ∧ Hid (Got DL (fun k => (F k).1) left K) ∧ wr.ranges Tryz.prog 3 heldR mL w1.heap.size N DL left cnt ∧ Below w1.heap.size w1 wr ∧ w1.heap.size < wr.heap.size) (fun v wr => wr.rangeLeft mL w1.heap.size)
 case atStart => exact ⟨none,0,[],_,_,rfl,World.ownsRow_nil _ _ _ _,Got.start _ _,hrg0,hb0,by omega⟩
 case round =>
  obtain ⟨b,cap,K,left,cnt,rfl,hown,HG,hrg,hbw,hzw⟩:=hrel
  have hlen:=HG.out.len hFr
  go_wp2_with (first | (at_next; refine wpList_next_ranges _ rfl _ rfl 3 keyed3 heldR (Value.int .i64) (fun v : Value => v) ?iK ?iV mL w1.heap.size N DL left cnt rfl hrg ?dn ?mo) | go_in)
  case iK => intro key kl hkey; obtain ⟨x,rfl,_⟩:=Maps.keyOf_int_inv Tryz.underlying3 hkey; exact ⟨x,rfl⟩
  case iV => exact fun v y _ => ⟨v,rfl⟩
  case dn =>
   intro hc0 hl0
   have hKR : ∀ k,k ∈ K ↔ ReachT xs ks k:=fun k => by
    rw [HG.out.2 k,← hsF k]
    constructor
    ·exact fun h => h.2.2.2
    ·intro h
     have hr:=hFr k h
     have hwf : (Lit.int .i64 k).wf = true:=by simp [Lit.wf,IntKind.min,IntKind.max,IntKind.signed,IntKind.bits]; omega
     refine ⟨hwf,?_,hl0 _,h⟩
     cases hh : Maps.has DL (.int .i64 k) with
     | true => rfl
     | false =>
      have e1:=HM.out.hl k hwf
      rw [Maps.atKey_of_not_has hh] at e1
      simp [lock0] at e1
      rw [h] at e1
      simp at e1
   have HF : Hid ((∀ k,k ∈ (K.mergeSort fun x y => decide (x ≤ y)) ↔ ReachT xs ks k) ∧ (K.mergeSort fun x y => decide (x ≤ y)).Pairwise (· < ·)):=⟨fun k => by rw [List.mem_mergeSort]; exact hKR k,pair_of_sort K HG.out.1⟩
   have hlm : (K.mergeSort fun x y => decide (x ≤ y)).length = K.length:=List.length_mergeSort K
   generalize hms : (K.mergeSort fun x y => decide (x ≤ y)) = Z at HF hlm
   have hle : w.heap.size ≤ w1.heap.size + 1:=by have:=hk.size; omega
   clear hFr hsF hKR HG hrg0 hb0 hg0
   rcases hown.2 with ⟨hv0,hn0⟩ | ⟨g,cap',cur,hv1,hbg,hblk,hnc,hcm,hcs,htk⟩
   ·have hK0 : K = []:=List.eq_nil_of_length_eq_zero hn0
    subst hK0
    have hZ : Z = []:=by rw [← hms]; simp
    subst hZ
    simp only [List.length_nil,Value.slice.injEq,true_and] at hv0
    obtain ⟨rfl,rfl⟩:=hv0
    have HKW : Hid (Keep X w wr):=hk.trans (Keep.ofBelow hbw HM.out.xlt)
    have HVW : Hid (ViewAt X p N ⟨[],T,F⟩ wr):=⟨mT,mL,DT,DL,rv,HM.out.below hbw⟩
    have HS:=Tryz.slices_Sort_int_none none 0 wr
    clear HM hbw hk hrg hown
    go_wp2_with fail
    refine HS.mono ?_
    rintro e w5 ⟨rfl,rfl⟩
    go_wp2
    go_ret
    exact ⟨none,0,[],rfl,World.ownsRow_nil _ _ _ _,HF,HKW.out,_,N,HVW.out⟩
   ·simp only [Value.slice.injEq,true_and] at hv1
    obtain ⟨rfl,rfl⟩:=hv1
    have HS:=Tryz.slices_Sort_int g 0 cap K wr (holds_of_blockI hblk (by simpa [intV] using htk)) (Array.getElem?_eq_some_iff.1 hblk).1 (by omega)
    rw [hms] at HS
    have H5 : Hid (∀ n os,wr.grownBy (grow (putRow (Value.int .i64) (Sort.ahead wr n) g 0 Z.toArray) os) (some g) ∧ (grow (putRow (Value.int .i64) (Sort.ahead wr n) g 0 Z.toArray) os).ownsRow (w1.heap.size + 1) 3 1 (.slice (some ⟨g,0,none⟩) K.length cap) K.length (Z.map (Value.int .i64))) :=
     fun n os => ⟨grownBy_sortedI _,ownsRow_sortedI hlm hbg hblk hnc hcm hcs⟩
    have HB : Hid (Below w1.heap.size w1 wr):=hbw
    have HK:=show Hid _ from hk
    clear hbw hk hrg hown hblk htk hcs
    go_wp2_with fail
    refine HS.mono ?_
    clear HS
    rintro e w5 ⟨rfl,n5,os5,hw5⟩
    obtain ⟨hg5,ho5⟩:=H5.out n5 os5
    rw [← hw5] at hg5 ho5
    have hb5 : Below w1.heap.size wr w5:=⟨hg5.os,hg5.tape,hg5.output,hg5.size,fun k hk => hg5.block k (by omega) (by simp; omega)⟩
    have HB5 : Hid (Below w1.heap.size w1 w5):=HB.out.trans hb5
    have HO5 : Hid (w5.ownsRow w.heap.size 3 1 (.slice (some ⟨g,0,none⟩) Z.length cap) Z.length (intV Z)):=by rw [hlm]; exact own_base ho5 hle
    have HE : Hid (Value.slice (some ⟨g,0,none⟩) K.length cap = .slice (some ⟨g,0,none⟩) Z.length cap):=by show _ = _; rw [hlm]
    clear hw5 hg5 ho5 hb5 H5 HB
    go_wp2
    go_ret
    exact ⟨some ⟨g,0,none⟩,cap,Z,congrArg Ending.returned HE.out,HO5.out,HF,HK.out.trans (Keep.ofBelow HB5.out HM.out.xlt),_,N,mT,mL,DT,DL,rv,HM.out.below HB5.out⟩
  case mo =>
   intro x c kl y yp w2 cnt2 hkey hlk hR hat hrg2 hlt hg2 hs2 hen
   obtain ⟨x',hx',rfl,hwx⟩:=Maps.keyOf_int_inv Tryz.underlying3 hkey
   cases hx'
   have hy : y = .held c:=by have:=hR; simp [heldR] at this; exact this.1.symm
   have hat0:=hat (.held lock0)
   rw [HM.out.hl x hwx,hy] at hat0
   have hc : c = .agg #[.bool (F x).1,rv (some x)]:=by simpa using hat0.symm
   obtain ⟨av,cv,hsl,_⟩:=(HM.out.q (some x)).shape
   rw [hsl] at hc
   subst hc
   generalize (VS.row ⟨[],T,F⟩ (some x)).length = nv at hen hR hat
   have hb2 : Below w1.heap.size w1 w2:=hbw.trans ⟨hg2.os,hg2.tape,hg2.output,by omega,fun k hk => hg2.block k (by omega) (by simp; omega)⟩
   have hob : ∀ g,(Value.slice b K.length cap).ownBlock = some g → w1.heap.size + 1 ≤ g:=fun g hg => (hown.lt g hg).1
   have hown2:=hown.kept hg2 (by
    cases ho : (Value.slice b K.length cap).ownBlock with
    | none => exact Or.inl rfl
    | some g => exact Or.inr (by have:=hob g ho; intro e; cases e; omega))
   have HS2 : Hid (w2.heap.size = wr.heap.size):=hs2
   have HLT : Hid (cnt2 < cnt):=hlt
   clear hs2 hlt hbw hown
   cases hfx : (F x).1 with
   | false =>
    rw [hfx] at hen
    have HG2 : Hid (Got DL (fun k => (F k).1) (fun z => left z && !z.sameKey (.int .i64 x)) K):=HG.out.no (x:=x) hlk hfx
    have hsw : w1.heap.size ≤ w2.heap.size:=hb2.size
    clear hFr
    go_wp2
    go_roundw
    case rel =>
     have R : ∃ (b' : Option Addr) (cap' : Nat) (K' : List Int) (left' : Lit → Bool) (cnt' : Nat),Value.slice b K.length cap = .slice b' K'.length cap' ∧ (w2.alloc (.cells #[.bool false,.slice av nv cv] 165)).ownsRow (w1.heap.size + 1) 3 1 (.slice b' K'.length cap') K'.length (intV K') ∧ Hid (Got DL (fun k => (F k).1) left' K') ∧ (w2.alloc (.cells #[.bool false,.slice av nv cv] 165)).ranges Tryz.prog 3 heldR mL w1.heap.size N DL left' cnt' ∧ Below w1.heap.size w1 (w2.alloc (.cells #[.bool false,.slice av nv cv] 165)) ∧ w1.heap.size < (w2.alloc (.cells #[.bool false,.slice av nv cv] 165)).heap.size :=
      ⟨b,cap,K,_,cnt2,rfl,hown2.alloc _,HG2,hrg2.alloc _,hb2.alloc hsw _,by simp; omega⟩
     first | exact R | ((repeat apply Exists.intro); exact ⟨R,rfl⟩)
    case measure =>
     have h1:=(hrg2.alloc (.cells #[.bool false,.slice av nv cv] 165)).left_eq
     have h2:=hrg.left_eq
     have h3:=HLT.out
     omega
   | true =>
    rw [hfx] at hen
    have HG2 : Hid (Got DL (fun k => (F k).1) (fun z => left z && !z.sameKey (.int .i64 x)) (K ++ [x])):=HG.out.yes (x:=x) hwx hlk hat hfx
    have hsw : w1.heap.size ≤ w2.heap.size:=hb2.size
    have HO : Hid (((w2.alloc (.cells #[.bool true,.slice av nv cv] 165)).alloc (.cells #[.int .i64 x] 3)).ownsRow (w1.heap.size + 1) 3 1 (.slice b K.length cap) K.length (intV K)):=(hown2.alloc _).alloc _
    clear hFr hown2
    go_wp2_with (first | (at_builtin; refine wpList_append_own_at _ rfl _ _ 22 rfl (w1.heap.size + 1) 3 i0 (.int .i64 0) 1 8 Tryz.underlying22 hi hz0 hz1 hz2 rfl (by decide) _ _ _ rfl HO.out ⟨w2.heap.size + 1,0,none⟩ 1 1 [.int .i64 x] rfl rfl ?cn ?c2 ?c3 ?c4 ?c5 ?_) | go_in)
    case c2 => first | rfl | (intro u hu; simp at hu; subst hu; rfl)
    case c3 => unfold maxLen; omega
    case c4 => omega
    case c5 => first | omega | (simp; omega)
    intro v' w4 hown' hgrow _ hloc
    rw [intV_snoc] at hown'
    obtain ⟨g',cap',rfl⟩:=ownsRow_succ hown'
    have hlx : K.length + 1 = (K ++ [x]).length:=by simp
    rw [hlx] at hown'
    have hrg4 : w4.ranges Tryz.prog 3 heldR mL w1.heap.size N DL (fun z => left z && !z.sameKey (.int .i64 x)) cnt2:=((hrg2.alloc _).alloc _).kept hgrow (fun e => by have:=hob mL e.symm; omega) (fun e => by have:=hob _ e.symm; omega)
    have hb4 : Below w1.heap.size w1 w4:=((hb2.alloc hsw _).alloc (by simp; omega) _).trans ⟨hgrow.os,hgrow.tape,hgrow.output,hgrow.size,fun k hk => hgrow.block k (by simp; omega) (fun e => by have:=hob k e.symm; omega)⟩
    have hz4 : w1.heap.size < w4.heap.size:=by have:=hgrow.size; simp at this; omega
    clear HO hgrow hloc hb2 hrg2 hen
    go_wp2
    go_roundw
    case rel =>
     have R : ∃ (b' : Option Addr) (cap'' : Nat) (K' : List Int) (left' : Lit → Bool) (cnt' : Nat),Value.slice (some ⟨g',0,none⟩) (K.length + 1) cap' = .slice b' K'.length cap'' ∧ w4.ownsRow (w1.heap.size + 1) 3 1 (.slice b' K'.length cap'') K'.length (intV K') ∧ Hid (Got DL (fun k => (F k).1) left' K') ∧ w4.ranges Tryz.prog 3 heldR mL w1.heap.size N DL left' cnt' ∧ Below w1.heap.size w1 w4 ∧ w1.heap.size < w4.heap.size :=
      ⟨some ⟨g',0,none⟩,cap',K ++ [x],_,cnt2,by rw [hlx],hown',HG2,hrg4,hb4,hz4⟩
     first | exact R | ((repeat apply Exists.intro); exact ⟨R,rfl⟩)
    case measure =>
     have h1:=hrg4.left_eq
     have h2:=hrg.left_eq
     have h3:=HLT.out
     omega
end Go.Proofs.YtlmpfkbgknbcnaaGreat.Kn
