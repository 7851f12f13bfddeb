/- What marks leave alone. -/
import Derived.Test.YtflajkbbggmdjaaNw4
import Derived.Test.YtflajkbbggmdjaaNm2
import Derived.Test.YtflajkbbggmdjaaMk
set_option linter.unusedVariables false
set_option maxRecDepth 100000
namespace Go.Proofs.Ytflajkbbggmdjaa.Nd
open Go Go.RowKit Go.Joins Own Draw

/-- Only the blocks of these rows changed. -/
structure Chg (vs : List Value) (w w' : World) : Prop where
  os : w'.os = w.os
  tape : w'.tape = w.tape
  output : w'.output = w.output
  size : w.heap.size ≤ w'.heap.size
  block : ∀ k, k < w.heap.size → (∀ c ∈ vs, ¬ c.ownBlock = some k) → w'.heap[k]? = w.heap[k]?
theorem Chg.grown {vs : List Value} {c : Value} {w w' : World} (h : w.grownBy w' c.ownBlock) (hc : c ∈ vs) : Chg vs w w' := ⟨h.os, h.tape, h.output, h.size, fun k hk ho => h.block k hk (fun e => ho c hc e.symm)⟩
theorem Chg.of {vs : List Value} {w w' : World} (h : Below w.heap.size w w') : Chg vs w w' := ⟨h.os, h.tape, h.output, h.size, fun k hk _ => h.block k hk⟩
theorem Chg.trans {vs : List Value} {w w1 w2 : World} (h : Chg vs w w1) (k : Chg vs w1 w2) : Chg vs w w2 :=
  ⟨k.os.trans h.os, k.tape.trans h.tape, k.output.trans h.output, Nat.le_trans h.size k.size, fun j hj ho => (k.block j (Nat.lt_of_lt_of_le hj h.size) ho).trans (h.block j hj ho)⟩
theorem Chg.mono {vs us : List Value} {w w' : World} (h : Chg vs w w') (hs : ∀ c ∈ vs, c ∈ us) : Chg us w w' := ⟨h.os, h.tape, h.output, h.size, fun k hk ho => h.block k hk (fun c hc => ho c (hs c hc))⟩
theorem Chg.own {vs us : List Value} {w w' : World} {B e s n : Nat} {v : Value} (h : Chg vs w w') (ho : w.ownsRow B e s v n us) (hv : ∀ c ∈ vs, Ap v c) : w'.ownsRow B e s v n us := by
  refine ⟨ho.1, ?_⟩
  rcases ho.2 with h0 | ⟨g, cap, cur, e1, e2, e3, e4⟩
  · exact Or.inl h0
  · exact Or.inr ⟨g, cap, cur, e1, e2, (h.block g (by subst e1; exact (ho.lt g rfl).2) (fun c hc => hv c hc g (by subst e1; rfl))).trans e3, e4⟩
theorem Chg.blk {vs us : List Value} {w w' : World} {g : Nat} (h : Chg vs w w') (hb : Blk g us w) (hg : g < w.heap.size) (hv : ∀ c ∈ vs, ¬ c.ownBlock = some g) : Blk g us w' :=
  ⟨fun i v e => ⟨(World.cell?_of_block (a := ⟨g, i, none⟩) (h.block g hg hv)).trans (hb.out i v e).1, (World.frozen?_of_block (a := ⟨g, i, none⟩) (h.block g hg hv)).trans (hb.out i v e).2⟩⟩
theorem Chg.below {vs : List Value} {a w w' : World} {n : Nat} (h : Chg vs w w') (hb : Below n a w) (hn : n ≤ w.heap.size) (hv : ∀ c ∈ vs, ∀ k, c.ownBlock = some k → n ≤ k) : Below n a w' :=
  hb.trans ⟨h.os, h.tape, h.output, h.size, fun k hk => h.block k (by omega) (fun c hc e => by have := hv c hc k e; omega)⟩
end Go.Proofs.Ytflajkbbggmdjaa.Nd
