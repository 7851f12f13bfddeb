/- A range over a function that itself ranges over another one: what a round keeps is said of all blocks but some. -/
import Derived.Test.YtkfjpgkpmdbnoaaFl
import Derived.RangeFuncNested
import Derived.RangeFuncBound
import Derived.RangeFuncCalls
import Derived.RangeFuncLeaves
import Derived.WalkKit
import Derived.OwnWalkIn
import Derived.TacticsInMore
import Derived.LoopNIn
import Derived.LoopIn
import Derived.Shelf.Abstract
set_option linter.unusedVariables false
set_option maxRecDepth 100000
namespace Go.Proofs.Ytkfjpgkpmdbnoaa
open Go Go.RowKit Go.Joins Go.Shelf Own

/-- All blocks but those that s names lie as they did. -/
structure KS (s : Nat → Prop) (w w' : World) : Prop where
  os : w'.os = w.os
  tape : w'.tape = w.tape
  output : w'.output = w.output
  size : w.heap.size ≤ w'.heap.size
  block : ∀ k, k < w.heap.size → ¬ s k → w'.heap[k]? = w.heap[k]?
theorem KS.refl (s : Nat → Prop) (w : World) : KS s w w := ⟨rfl, rfl, rfl, Nat.le_refl _, fun _ _ _ => rfl⟩
theorem KS.trans {s : Nat → Prop} {x y z : World} (h : KS s x y) (k : KS s y z) : KS s x z :=
  ⟨k.os.trans h.os, k.tape.trans h.tape, k.output.trans h.output, Nat.le_trans h.size k.size, fun i hi hn => (k.block i (Nat.lt_of_lt_of_le hi h.size) hn).trans (h.block i hi hn)⟩
theorem KS.mono {s t : Nat → Prop} {w w' : World} (h : KS s w w') (hst : ∀ k, s k → t k) : KS t w w' := ⟨h.os, h.tape, h.output, h.size, fun k hk hn => h.block k hk (fun c => hn (hst k c))⟩
theorem KS.of {s : Nat → Prop} {w w' : World} (h : Below w.heap.size w w') : KS s w w' := ⟨h.os, h.tape, h.output, h.size, fun k hk _ => h.block k hk⟩
theorem KS.below {s : Nat → Prop} {m : Nat} {w w' : World} (h : KS s w w') (hm : m ≤ w.heap.size) (hs : ∀ k, k < m → ¬ s k) : Below m w w' := ⟨h.os, h.tape, h.output, h.size, fun k hk => h.block k (by omega) (hs k hk)⟩
theorem KS.cell {s : Nat → Prop} {w w' : World} (h : KS s w w') {p : Addr} (hp : p.block < w.heap.size) (hn : ¬ s p.block) : w'.cell? p = w.cell? p := World.cell?_of_block (w := w) (h.block p.block hp hn)
theorem KS.frozen {s : Nat → Prop} {w w' : World} (h : KS s w w') {p : Addr} (hp : p.block < w.heap.size) (hn : ¬ s p.block) : w'.frozen? p = w.frozen? p := World.frozen?_of_block (w := w) (h.block p.block hp hn)
theorem KS.grown {s : Nat → Prop} {v w w' : World} {row : Option Nat} (h : KS s v w) (hg : w.grownBy w' row) (hr : ∀ k, row = some k → v.heap.size ≤ k ∨ s k) : KS s v w' :=
  ⟨hg.os.trans h.os, hg.tape.trans h.tape, hg.output.trans h.output, Nat.le_trans h.size hg.size, fun k hk hn => (hg.block k (Nat.lt_of_lt_of_le hk h.size) (fun e => (hr k e.symm).elim (fun c => by omega) hn)).trans (h.block k hk hn)⟩
theorem KS.one {s : Nat → Prop} {w w' : World} {row : Option Nat} (hg : w.grownBy w' row) (hr : ∀ k, row = some k → s k) : KS s w w' := (KS.refl s w).grown hg (fun k e => Or.inr (hr k e))
theorem KS.putO {s : Nat → Prop} (W : World) (l : Nat) (o : Obj) (hs : s l) : KS s W (W.putObj l o) := KS.one (grownBy_putObj' W l o) (fun k e => by cases e; exact hs)
theorem KS.keeps {s : Nat → Prop} {w w' : World} {B : Nat} (h : KS s w w') (hs : ∀ k, s k → k < B) : KeepsFrom B w w' :=
  ⟨h.size, fun k o hB hk ho => (h.block k (Array.getElem?_eq_some_iff.1 hk).1 (fun c => by have := hs k c; omega)).trans hk⟩
theorem KS.obj {s : Nat → Prop} {w w' : World} {k : Nat} {o : Obj} (h : KS s w w') (hk : w.heap[k]? = some o) (hn : ¬ s k) : w'.heap[k]? = some o := (h.block k (Array.getElem?_eq_some_iff.1 hk).1 hn).trans hk
theorem ownFrom_ks {β : Type} {s : Nat → Prop} {B : Nat} {w : World} (hw : w.heap.size ≤ B) : OwnFrom B (fun (_ : β) W => KS s w W) := fun _ X Y row h hg hr =>
  h.grown hg (fun k e => Or.inl (Nat.le_trans hw (hr k e).1))
/-- What an iterator promises whose rounds may change the blocks that s names. -/
def SeqO {α : Type} (n : Nat) (P : Program) (g : Nat) (lb : Array Value) (encs : α → Array Value) (s : Nat → Prop) (S Sp : List α → Prop) (N : Nat) (w : World) : Prop :=
  ∀ (l : Nat) (J Jx : List α → World → Prop) (W : World), Below w.heap.size w W → (∀ k, s k → k < W.heap.size) → OwnFrom W.heap.size J → OwnFrom W.heap.size Jx →
    (∀ pre x W1, J pre W1 → W.heap.size ≤ W1.heap.size → pre.length < N → YieldAt Fence.wide (n - 1) P l (encs x) W1 fun e W' =>
      (e = .returned (.bool true) ∧ J (pre ++ [x]) W' ∧ KS s W1 W') ∨ (e = .returned (.bool false) ∧ Jx (pre ++ [x]) W' ∧ KS s W1 W')) →
    J [] W →
    CallsIn Fence.wide n P g (#[.func (.yield l) #[] #[]] ++ lb) W fun e W' => (∃ v, e = .returned v) ∧ ((∃ xs, S xs ∧ J xs W') ∨ (∃ pre, Sp pre ∧ Jx pre W'))
/-- How a round's body is left. -/
def postO {α : Type} (s : Nat → Prop) (I : List α → World → Prop) (Ix : Code → List α → World → Prop) (xs : List α) (W : World) : Exit → Act → World → Prop
  | .normal, _, W' => KS s W W' ∧ I xs W'
  | .ret, _, W' => KS s W W' ∧ Ix .ret xs W'
  | .exit id, _, W' => KS s W W' ∧ Ix (.exit id) xs W'
  | .goto t, _, W' => KS s W W' ∧ Ix (.goto t) xs W'
  | .panic _, _, _ => False
  | .outgrown, _, _ => False
theorem rangeO {α : Type} {P : Program} {n : Nat} {g : Operand} {ps : Array Tmp} {assign body : Code} {Q : Exit → Act → World → Prop} {a : Act} {w : World}
    {gf : Nat} {lb : Array Value} (hg : a.eval g = .func (.func gf) #[] lb) (eg : ∀ args w, (callFunc gf args).run P w = .ok (.enter gf args) w)
    {encs : α → Array Value} {s : Nat → Prop} {S Sp : List α → Prop} {N : Nat} {w0 : World} (hseq : SeqO (n - 1) P gf lb encs (fun k => s k ∨ k = w.heap.size ∨ k = w.heap.size + 1) S Sp N w0)
    (hb0 : Below w0.heap.size w0 w) (hs : ∀ k, s k → k < w.heap.size) (hps : ∀ x, (encs x).size = ps.size)
    (I : List α → World → Prop) (Ix : Code → List α → World → Prop) (hI : OwnFrom w.heap.size I) (hIx : ∀ c, OwnFrom w.heap.size (Ix c)) (h0 : I [] w)
    (Ax : α → Act → World → Prop) (hAx : ∀ x a', OwnFrom w.heap.size (fun (_ : Unit) W => Ax x a' W))
    (hassign : ∀ (l : Nat) (pre : List α) (x : α) (W : World) (K : Act → World → Prop), I pre W → w.heap.size ≤ W.heap.size → (∀ a' W', KS s W W' → I pre W' → Ax x a' W' → K a' W') →
      assign.wpIn (Fence.wide.inRound l) (n - 1 - 1) P (Exit.then K (fun _ _ _ => False)) { tmps := (ps.zip (encs x)).foldl (fun t (p, v) => t.setIfInBounds p v) a.tmps, defers := [] } W)
    (hbody : ∀ (l : Nat) (pre : List α) (x : α) (a' : Act) (W : World), I pre W → w.heap.size ≤ W.heap.size → Ax x a' W → pre.length < N → body.wpIn (Fence.wide.inRound l) (n - 1 - 1) P (postO s I Ix (pre ++ [x]) W) a' W)
    (hdone : ∀ (D : Nat) (xs : List α) (W : World), w.heap.size ≤ D → S xs → I xs W → W.heap[D]? = some (.deferred (some [])) → Q .normal { a with defers := { target := .collected D, args := #[] } :: a.defers } W)
    (hstop : ∀ (D : Nat) (c : Code) (pre : List α) (W : World), w.heap.size ≤ D → Sp pre → Ix c pre W → W.heap[D]? = some (.deferred (some [])) → c.wpIn Fence.wide n P Q { a with defers := { target := .collected D, args := #[] } :: a.defers } W) :
    (Code.rangeFunc g ps assign body).wpIn Fence.wide n P Q a w := by
  refine wpIn_rangeFunc fun fn hfn => ?_
  have hro : Fence.wide.round = none := rfl
  rw [hro]
  let B := w.heap.size
  let rc : LoopState → Option Code → Obj := fun st pe => .loop { state := st, pending := pe, fn, tmps := a.tmps, params := ps, assign, body, defers := B }
  let s2 : Nat → Prop := fun k => s k ∨ k = w.heap.size ∨ k = w.heap.size + 1
  have e1 := run_enterLoop_outer (P := P) (w := w) fn a.tmps ps assign body
  let V := (w.alloc (.deferred (some []))).alloc (rc .ready none)
  have zV : V.heap.size = B + 2 := by simp [V, B]
  have vL : V.heap[B + 1]? = some (rc .ready none) := by have := World.alloc_heap_new (w.alloc (.deferred (some []))) (rc .ready none); rwa [World.size_alloc] at this
  have vD : V.heap[B]? = some (.deferred (some [])) := (Below.heap_alloc _ _ _ (by simp [B])).trans (World.alloc_heap_new w _)
  have vI : I [] V := hI.alloc _ (hI.alloc _ h0)
  have vB : Below w0.heap.size w0 V := hb0.trans ((((Below.refl _ w).alloc (Nat.le_refl _) _).alloc (by simp) _).mono hb0.size)
  have hn0 : ∀ k, B ≤ k → ¬ s k := fun k hk c => by have := hs k c; omega
  refine ⟨B + 1, [{ target := .collected B, args := #[] }], V, { target := .fn (.func gf) lb, args := #[.func (.yield (B + 1)) #[] #[]] }, V, gf, #[.func (.yield (B + 1)) #[] #[]] ++ lb, V, e1, ?_, ?_, ?_, fun c => (by cases c), ?_⟩
  · simp only [resolve, hg]
    simp [go_sem]
  · intro f' _; trivial
  · simp [invoke, go_sem, eg]
  let J : List α → World → Prop := fun pre W => I pre W ∧ W.heap[B + 1]? = some (rc .ready none) ∧ W.heap[B]? = some (.deferred (some []))
  let Jx : List α → World → Prop := fun pre W => ∃ c, Ix c pre W ∧ W.heap[B + 1]? = some (rc .done (some c)) ∧ W.heap[B]? = some (.deferred (some []))
  have far : ∀ {X Y : World} {row : Option Nat} {k : Nat} {o : Obj}, X.grownBy Y row → (∀ r, row = some r → V.heap.size ≤ r ∧ ∃ o : Obj, X.heap[r]? = some o ∧ o.isCells = false) → k < B + 2 → X.heap[k]? = some o → Y.heap[k]? = some o := fun hg hr hk ho =>
    (hg.block _ (Array.getElem?_eq_some_iff.1 ho).1 (fun e => by have := (hr _ e.symm).1; omega)).trans ho
  have low : ∀ {X : World} {row : Option Nat}, (∀ r, row = some r → V.heap.size ≤ r ∧ ∃ o : Obj, X.heap[r]? = some o ∧ o.isCells = false) → (∀ r, row = some r → w.heap.size ≤ r ∧ ∃ o : Obj, X.heap[r]? = some o ∧ o.isCells = false) := fun hr r e => ⟨by have := (hr r e).1; omega, (hr r e).2⟩
  have oJ : OwnFrom V.heap.size J := fun pre X Y row h hg hr => ⟨hI _ _ _ _ h.1 hg (low hr), far hg hr (by omega) h.2.1, far hg hr (by omega) h.2.2⟩
  have oX : OwnFrom V.heap.size Jx := fun pre X Y row ⟨c, h1, h2, h3⟩ hg hr => ⟨c, hIx c _ _ _ _ h1 hg (low hr), far hg hr (by omega) h2, far hg hr (by omega) h3⟩
  refine (hseq (B + 1) J Jx V vB (fun k hk => hk.elim (fun c => by have := hs k c; omega) (fun c => by omega)) oJ oX ?_ ⟨vI, vL, vD⟩).mono ?_
  · -- a round
    rintro pre x W ⟨hi, hl, hd⟩ hsz hlen
    have hy := run_yield (P := P) (args := encs x) hl (hps x)
    refine ⟨fn, _, assign, body, hy, roundIn_of_wpIn hfn (hassign _ pre x W _ hi (by omega) fun a' Wa ka ia xa => ?_)⟩
    have hl2 := ka.obj hl (hn0 _ (by omega))
    have hd2 := ka.obj hd (hn0 _ (by omega))
    have hlt : B + 1 < Wa.heap.size := (Array.getElem?_eq_some_iff.1 hl2).1
    refine ⟨_, run_beginRound hl2 rfl, ?_⟩
    let X := Wa.putObj (B + 1) (rc .busy none)
    have xl : X.heap[B + 1]? = some (rc .busy none) := World.putObj_heap_same hlt
    have xd : X.heap[B]? = some (.deferred (some [])) := (World.putObj_heap_other (by omega)).trans hd2
    have kx : KS s2 Wa X := KS.putO _ _ _ (Or.inr (Or.inr rfl))
    have zX : w.heap.size ≤ X.heap.size := by have := ka.size; have := kx.size; omega
    refine wpIn_mono (hbody _ pre x a' X (hI.putObj _ ia (by omega) hl2 rfl) zX ((hAx x a').putObj (s := ()) _ xa (by omega) hl2 rfl) hlen) ?_
    have tail : ∀ (j : Option Code) (Y : World), KS s X Y → (Instr.endRound (B + 1) j).run P Y = .ok (.bool j.isNone) (Y.putObj (B + 1) (rc (if j.isNone then .ready else .done) j)) ∧
        Y.heap[B + 1]? = some (rc .busy none) ∧ (Y.putObj (B + 1) (rc (if j.isNone then .ready else .done) j)).heap[B + 1]? = some (rc (if j.isNone then .ready else .done) j) ∧ (Y.putObj (B + 1) (rc (if j.isNone then .ready else .done) j)).heap[B]? = some (.deferred (some [])) := fun j Y ky => by
      have yl := ky.obj xl (hn0 _ (by omega))
      have yd := ky.obj xd (hn0 _ (by omega))
      exact ⟨run_endRound (P := P) j yl, yl, World.putObj_heap_same (Array.getElem?_eq_some_iff.1 yl).1, (World.putObj_heap_other (by omega)).trans yd⟩
    have sum : ∀ (Y : World) (o : Obj), KS s X Y → KS s2 W (Y.putObj (B + 1) o) := fun Y o ky =>
      (((ka.mono (fun _ => Or.inl)).trans kx).trans (ky.mono (fun _ => Or.inl))).trans (KS.putO _ _ _ (Or.inr (Or.inr rfl)))
    rintro e a3 Y hp
    cases e with
    | normal =>
      obtain ⟨r1, r2, r3, r4⟩ := tail none Y hp.1
      exact ⟨_, _, r1, .inl ⟨rfl, ⟨hI.putObj _ hp.2 (by omega) r2 rfl, r3, r4⟩, sum Y _ hp.1⟩⟩
    | ret =>
      obtain ⟨r1, r2, r3, r4⟩ := tail (some .ret) Y hp.1
      exact ⟨_, _, r1, .inr ⟨rfl, ⟨.ret, (hIx _).putObj _ hp.2 (by omega) r2 rfl, r3, r4⟩, sum Y _ hp.1⟩⟩
    | exit id =>
      obtain ⟨r1, r2, r3, r4⟩ := tail (some (.exit id)) Y hp.1
      exact ⟨_, _, r1, .inr ⟨rfl, ⟨.exit id, (hIx _).putObj _ hp.2 (by omega) r2 rfl, r3, r4⟩, sum Y _ hp.1⟩⟩
    | goto t =>
      obtain ⟨r1, r2, r3, r4⟩ := tail (some (.goto t)) Y hp.1
      exact ⟨_, _, r1, .inr ⟨rfl, ⟨.goto t, (hIx _).putObj _ hp.2 (by omega) r2 rfl, r3, r4⟩, sum Y _ hp.1⟩⟩
    | panic ch => exact hp.elim
    | outgrown => exact hp.elim
  · -- behind the iterator
    rintro e Y ⟨⟨v, rfl⟩, (⟨xs, hS, hi, hl, hd⟩ | ⟨pre, hS, c, hi, hl, hd⟩)⟩
    · exact ⟨none, _, run_endLoop (P := P) hl (by simp), hdone B xs _ (Nat.le_refl _) hS (hI.putObj _ hi (by omega) hl rfl) ((World.putObj_heap_other (by omega)).trans hd)⟩
    · exact ⟨some c, _, run_endLoop (P := P) hl (by simp), hstop B c pre _ (Nat.le_refl _) hS ((hIx c).putObj _ hi (by omega) hl rfl) ((World.putObj_heap_other (by omega)).trans hd)⟩
theorem round_any {m m' : Nat} {P : Program} {l : Nat} {f : FuncId} {tmps : Array Value} {assign body : Code} {w : World} {R : Ending → World → Prop} (h : RoundIn Fence.wide m P l f tmps assign body w R) (l2 : Nat) : RoundIn (Fence.wide.inRound l2) m' P l f tmps assign body w R :=
  ⟨trivial, fun c cs _ => h.2 c cs (room_wide _)⟩
theorem OwnFrom.up {β : Type} {B B' : Nat} {I : β → World → Prop} (h : OwnFrom B I) (hB : B ≤ B') : OwnFrom B' I := fun s X Y row hi hg hr => h s X Y row hi hg (fun r e => ⟨Nat.le_trans hB (hr r e).1, (hr r e).2⟩)
theorem OwnFrom.map {β γ : Type} {B : Nat} {I : β → World → Prop} (h : OwnFrom B I) (f : γ → β) : OwnFrom B (fun s W => I (f s) W) := fun s X Y row hi hg hr => h (f s) X Y row hi hg hr
theorem Blk.keptO {g : Nat} {vs : List Value} {A B : World} {row : Option Nat} (h : Blk g vs A) (hg : A.grownBy B row) (hq : ∀ r, row = some r → ∃ o : Obj, A.heap[r]? = some o ∧ o.isCells = false) : Blk g vs B :=
  ⟨fun i v e => ⟨cell_kept (h.out i v e).1 hg hq, (frozen_kept (h.out i v e).1 hg hq).trans (h.out i v e).2⟩⟩
theorem Blk.ks {g : Nat} {v : Value} {vs : List Value} {s : Nat → Prop} {A B : World} (h : Blk g (v :: vs) A) (hk : KS s A B) (hn : ¬ s g) : Blk g (v :: vs) B :=
  ⟨fun i u e => ⟨(hk.cell (p := ⟨g, i, none⟩) h.lt hn).trans (h.out i u e).1, (hk.frozen (p := ⟨g, i, none⟩) h.lt hn).trans (h.out i u e).2⟩⟩
theorem set_grown (W : World) (g i : Nat) (v : Value) : W.grownBy (W.setCell ⟨g, i, none⟩ v) (some g) := ⟨rfl, rfl, rfl, by simp, fun k _ hk => Below.heap_setCell W ⟨g, i, none⟩ v k (fun e => hk (by rw [e]))⟩
theorem sets_grown (g : Nat) : ∀ (vs : List Value) (i : Nat) (W : World), W.grownBy (W.setCells g i vs) (some g)
  | [], i, W => World.grownBy.refl _ _
  | v :: vs, i, W => grown_to (set_grown W g i v) (sets_grown g vs (i + 1) _)
theorem KS.set {s : Nat → Prop} (W : World) (g i : Nat) (v : Value) (hs : s g) : KS s W (W.setCell ⟨g, i, none⟩ v) := KS.one (set_grown W g i v) (fun k e => by injection e with e; rw [← e]; exact hs)
end Go.Proofs.Ytkfjpgkpmdbnoaa
