/- What is drawn as known: the cursor, and a block of two rows. -/
import Derived.Test.YtkekfogepdhjhaaGreatDrawK
import Derived.Maps.AppendAt
set_option linter.unusedVariables false
namespace Go.Proofs.YtkekfogepdhjhaaGreat
open Go.RowKit Go.Proofs.YtkekfogepdhjhaaGreat.Own Var Term Draw

/-- Block q holds two rows, and they are the call's own. -/
def KP (q : Nat) (a1 b1 : Option Addr) (c1 d1 : Nat) (xs : List ByteArray) (ks : List Int) (w : World) : Prop :=
  (w.cell? ⟨q, 0, none⟩ = some (.slice a1 xs.length c1) ∧ w.cell? ⟨q, 1, none⟩ = some (.slice b1 ks.length d1) ∧ ∀ o, w.frozen? ⟨q, o, none⟩ = false) ∧
  w.ownsRow (q + 1) 9 1 (.slice a1 xs.length c1) xs.length (strV xs) ∧ w.ownsRow (q + 1) 3 1 (.slice b1 ks.length d1) ks.length (intV ks)

section
variable {p q : Nat} {a1 b1 : Option Addr} {c1 d1 : Nat} {xs : List ByteArray} {ks : List Int} {w w' : World}
theorem KP.lt (h : KP q a1 b1 c1 d1 xs ks w) : q < w.heap.size := World.block_lt_of_cell? w _ h.1.1
theorem KP.draw (h : KP q a1 b1 c1 d1 xs ks w) (ho : Only p w w') (hp : p < q) : KP q a1 b1 c1 d1 xs ks w' := by
  have hl := h.lt
  exact ⟨⟨(ho.cell (q := ⟨q, 0, none⟩) hl (by show q ≠ p; omega)).trans h.1.1, (ho.cell (q := ⟨q, 1, none⟩) hl (by show q ≠ p; omega)).trans h.1.2.1, fun o => (ho.frozen (q := ⟨q, o, none⟩) hl (by show q ≠ p; omega)).trans (h.1.2.2 o)⟩, own_only h.2.1 ho (by omega), own_only h.2.2 ho (by omega)⟩
theorem KP.below (h : KP q a1 b1 c1 d1 xs ks w) (hb : Below w.heap.size w w') : KP q a1 b1 c1 d1 xs ks w' := by
  have hl := h.lt
  exact ⟨⟨(hb.cell (p := ⟨q, 0, none⟩) hl).trans h.1.1, (hb.cell (p := ⟨q, 1, none⟩) hl).trans h.1.2.1, fun o => (hb.frozen (p := ⟨q, o, none⟩) hl).trans (h.1.2.2 o)⟩, own_later h.2.1 hb, own_later h.2.2 hb⟩
theorem set0 (W : World) (q o : Nat) (v : Value) (o' : Nat) : (W.setCell ⟨q, o, none⟩ v).frozen? ⟨q, o', none⟩ = W.frozen? ⟨q, o', none⟩ := by simp
/-- A row put in place of the second one. -/
theorem KP.put1 (h : KP q a1 b1 c1 d1 xs ks w) {b2 : Option Addr} {d2 : Nat} {ks2 : List Int} (ho : w.ownsRow (q + 1) 3 1 (.slice b2 ks2.length d2) ks2.length (intV ks2)) : KP q a1 b2 c1 d2 xs ks2 (w.setCell ⟨q, 1, none⟩ (.slice b2 ks2.length d2)) := by
  refine ⟨⟨?_, ?_, fun o => ?_⟩, ownsRow_setCell_below h.2.1 (by show q < q + 1; omega) _, ownsRow_setCell_below ho (by show q < q + 1; omega) _⟩
  · rw [set_other w q 1 0 _ (by omega)]; exact h.1.1
  · exact set_same w q 1 _ _ h.1.2.1
  · rw [set0]; exact h.1.2.2 o
theorem KP.put0 (h : KP q a1 b1 c1 d1 xs ks w) {a2 : Option Addr} {c2 : Nat} {xs2 : List ByteArray} (ho : w.ownsRow (q + 1) 9 1 (.slice a2 xs2.length c2) xs2.length (strV xs2)) : KP q a2 b1 c2 d1 xs2 ks (w.setCell ⟨q, 0, none⟩ (.slice a2 xs2.length c2)) := by
  refine ⟨⟨?_, ?_, fun o => ?_⟩, ownsRow_setCell_below ho (by show q < q + 1; omega) _, ownsRow_setCell_below h.2.2 (by show q < q + 1; omega) _⟩
  · exact set_same w q 0 _ _ h.1.1
  · rw [set_other w q 0 1 _ (by omega)]; exact h.1.2.1
  · rw [set0]; exact h.1.2.2 o
end

section
variable {p q B : Nat} {a : Option Addr} {len cap : Nat} {zs : List Int} {W w w' : World}
theorem Cu.set (h : Cu p a len cap zs W w) (hq : W.heap.size ≤ q) (hp : p < q) (o : Nat) (v : Value) : Cu p a len cap zs W (w.setCell ⟨q, o, none⟩ v) := by
  obtain ⟨⟨s, h⟩, k⟩ := h
  have hg : w.grownBy (w.setCell ⟨q, o, none⟩ v) (some q) := ⟨rfl, rfl, rfl, by simp, fun j _ hn => Below.heap_setCell w ⟨q, o, none⟩ v j (fun e => hn (by rw [e]))⟩
  refine ⟨⟨s, h.grown hg (fun j hj => by simp at hj; omega)⟩, k.os, k.tape, k.output, by have := k.size; simpa using this, fun j hj hn => (Below.heap_setCell w ⟨q, o, none⟩ v j (fun e => ?_)).trans (k.block j hj hn)⟩
  have e2 : j = q := e
  omega
theorem Cu.down (h : Cu p a len cap zs W w) (hb : Below B w w') (hB : W.heap.size ≤ B) (hp : p < B) : Cu p a len cap zs W w' := by
  obtain ⟨⟨s, h⟩, k⟩ := h
  refine ⟨⟨s, ⟨(hb.cell (p := ⟨p, 0, none⟩) hp).trans h.cur.b, (hb.cell (p := ⟨p, 1, none⟩) hp).trans h.cur.i, (hb.cell (p := ⟨p, 2, none⟩) hp).trans h.cur.h, fun o => (hb.frozen (p := ⟨p, o, none⟩) hp).trans (h.cur.f o)⟩, h.code.below (hb.mono (Nat.le_of_lt hp)), h.le⟩, ?_⟩
  exact ⟨hb.os.trans k.os, hb.tape.trans k.tape, hb.output.trans k.output, Nat.le_trans k.size hb.size, fun j hj hn => (hb.block j (by omega)).trans (k.block j hj hn)⟩
end
end Go.Proofs.YtkekfogepdhjhaaGreat
