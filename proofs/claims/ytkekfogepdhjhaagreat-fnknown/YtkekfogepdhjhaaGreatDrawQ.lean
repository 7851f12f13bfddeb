/- A block of two rows while things are drawn. -/
import Derived.Test.YtkekfogepdhjhaaGreatDrawP
import Derived.Deep.RegionWith
import Derived.Test.YtkekfogepdhjhaaGreatView3
import Derived.Test.YtkekfogepdhjhaaGreatLearn2
import Derived.Test.YtkekfogepdhjhaaGreatLearn3
set_option linter.unusedVariables false
namespace Go.Proofs.YtkekfogepdhjhaaGreat
open Go.RowKit Go.Proofs.YtkekfogepdhjhaaGreat.Own Var Term Draw

/-- A block of two rows of no memory. -/
def RZ (r : Nat) (w : World) : Prop := w.cell? ⟨r, 0, none⟩ = some (.slice none 0 0) ∧ w.cell? ⟨r, 1, none⟩ = some (.slice none 0 0) ∧ ∀ o, w.frozen? ⟨r, o, none⟩ = false
theorem RZ.lt {r : Nat} {w : World} (h : RZ r w) : r < w.heap.size := World.block_lt_of_cell? w _ h.1
theorem RZ.draw {p r : Nat} {w w' : World} (h : RZ r w) (ho : Only p w w') (hp : r ≠ p) : RZ r w' :=
  ⟨(ho.cell (q := ⟨r, 0, none⟩) h.lt hp).trans h.1, (ho.cell (q := ⟨r, 1, none⟩) h.lt hp).trans h.2.1, fun o => (ho.frozen (q := ⟨r, o, none⟩) h.lt hp).trans (h.2.2 o)⟩
theorem RZ.below {B r : Nat} {w w' : World} (h : RZ r w) (hb : Below B w w') (hp : r < B) : RZ r w' :=
  ⟨(hb.cell (p := ⟨r, 0, none⟩) hp).trans h.1, (hb.cell (p := ⟨r, 1, none⟩) hp).trans h.2.1, fun o => (hb.frozen (p := ⟨r, o, none⟩) hp).trans (h.2.2 o)⟩
theorem RZ.set {q r : Nat} {w : World} (h : RZ r w) (hq : r ≠ q) (o : Nat) (v : Value) : RZ r (w.setCell ⟨q, o, none⟩ v) := by
  have e : ∀ o', (w.setCell ⟨q, o, none⟩ v).cell? ⟨r, o', none⟩ = w.cell? ⟨r, o', none⟩ := fun o' => World.cell?_of_block (a := ⟨r, o', none⟩) (Below.heap_setCell w ⟨q, o, none⟩ v r (fun e => hq e))
  have f : ∀ o', (w.setCell ⟨q, o, none⟩ v).frozen? ⟨r, o', none⟩ = w.frozen? ⟨r, o', none⟩ := fun o' => World.frozen?_of_block (a := ⟨r, o', none⟩) (Below.heap_setCell w ⟨q, o, none⟩ v r (fun e => hq e))
  exact ⟨(e 0).trans h.1, (e 1).trans h.2.1, fun o' => (f o').trans (h.2.2 o')⟩
theorem KP.drew {q : Nat} {a1 b1 : Option Addr} {c1 d1 : Nat} {xs : List ByteArray} {ks : List Int} {w : World} (h : KP q a1 b1 c1 d1 xs ks w) : KP q a1 b1 c1 d1 xs ks w.drew := h.below (Below.drew (Below.refl _ _))
theorem KP.both {q : Nat} {a2 b2 : Option Addr} {c2 d2 : Nat} {xs2 : List ByteArray} {ks2 : List Int} {w : World} {u0 u1 : Value} (h0 : w.cell? ⟨q, 0, none⟩ = some u0) (h1 : w.cell? ⟨q, 1, none⟩ = some u1) (hf : ∀ o, w.frozen? ⟨q, o, none⟩ = false)
    (ho : w.ownsRow (q + 1) 9 1 (.slice a2 xs2.length c2) xs2.length (strV xs2)) (hk : w.ownsRow (q + 1) 3 1 (.slice b2 ks2.length d2) ks2.length (intV ks2)) :
    KP q a2 b2 c2 d2 xs2 ks2 ((w.setCell ⟨q, 0, none⟩ (.slice a2 xs2.length c2)).setCell ⟨q, 1, none⟩ (.slice b2 ks2.length d2)) := by
  have l : ∀ o, (⟨q, o, none⟩ : Addr).block < q + 1 := fun _ => by show q < q + 1; omega
  refine ⟨⟨?_, ?_, fun o => ?_⟩, ownsRow_setCell_below (ownsRow_setCell_below ho (l 0) _) (l 1) _, ownsRow_setCell_below (ownsRow_setCell_below hk (l 0) _) (l 1) _⟩
  · rw [set_other _ q 1 0 _ (by omega)]; exact set_same w q 0 _ _ h0
  · exact set_same _ q 1 _ _ (by rw [set_other w q 0 1 _ (by omega)]; exact h1)
  · rw [set0, set0]; exact hf o
theorem KP.grown9 {q : Nat} {a1 b1 : Option Addr} {c1 d1 : Nat} {xs : List ByteArray} {ks : List Int} {w w' : World} {o : Obj} (h : KP q a1 b1 c1 d1 xs ks w) (hg : (w.alloc o).grownBy w' (Value.slice a1 xs.length c1).ownBlock) : Below (q + 1) w w' := by
  have hl := h.lt
  refine ⟨hg.os, hg.tape, hg.output, by have := hg.size; simp at this; omega, fun k hk => (hg.block k (by simp; omega) (fun e => ?_)).trans (Below.heap_alloc w o k (by omega))⟩
  have := (h.2.1.lt k e.symm).1
  omega
theorem KP.grown3 {q : Nat} {a1 b1 : Option Addr} {c1 d1 : Nat} {xs : List ByteArray} {ks : List Int} {w w' : World} {o : Obj} (h : KP q a1 b1 c1 d1 xs ks w) (hg : (w.alloc o).grownBy w' (Value.slice b1 ks.length d1).ownBlock) : Below (q + 1) w w' := by
  have hl := h.lt
  refine ⟨hg.os, hg.tape, hg.output, by have := hg.size; simp at this; omega, fun k hk => (hg.block k (by simp; omega) (fun e => ?_)).trans (Below.heap_alloc w o k (by omega))⟩
  have := (h.2.2.lt k e.symm).1
  omega
/-- One more text behind the first row. -/
theorem KP.app0 {q : Nat} {a1 b1 : Option Addr} {c1 d1 : Nat} {xs : List ByteArray} {ks : List Int} {w w' : World} {v : Value} {t : ByteArray} (h : KP q a1 b1 c1 d1 xs ks w) (ho : w'.ownsRow (q + 1) 9 1 v (xs.length + 1) (strV xs ++ [.string t])) (hg : (w.alloc (.cells #[.string t] 9)).grownBy w' (Value.slice a1 xs.length c1).ownBlock) :
    ∃ a2 c2, v = .slice a2 (xs ++ [t]).length c2 ∧ (w'.cell? ⟨q, 0, none⟩ = some (.slice a1 xs.length c1) ∧ w'.frozen? ⟨q, 0, none⟩ = false) ∧ KP q a2 b1 c2 d1 (xs ++ [t]) ks (w'.setCell ⟨q, 0, none⟩ (.slice a2 (xs ++ [t]).length c2)) := by
  have hb := h.grown9 hg
  have lq : ∀ o, (⟨q, o, none⟩ : Addr).block < q + 1 := fun _ => by show q < q + 1; omega
  have hlx : xs.length + 1 = (xs ++ [t]).length := by simp
  rw [strV_snoc, hlx] at ho
  obtain ⟨a2, c2, rfl, _, _⟩ := own_row ho
  have h3 : w'.ownsRow (q + 1) 3 1 (.slice b1 ks.length d1) ks.length (intV ks) := World.ownsRow.kept (h.2.2.alloc _) hg (own_ne' h.2.1 h.2.2)
  have k0 := (hb.cell (lq 0)).trans h.1.1
  refine ⟨a2, c2, rfl, ⟨k0, (hb.frozen (lq 0)).trans (h.1.2.2 0)⟩, ⟨?_, ?_, fun o => ?_⟩, ownsRow_setCell_below ho (lq 0) _, ownsRow_setCell_below h3 (lq 0) _⟩
  · exact set_same w' q 0 _ _ k0
  · rw [set_other w' q 0 1 _ (by omega)]; exact (hb.cell (lq 1)).trans h.1.2.1
  · rw [set0]; exact (hb.frozen (lq o)).trans (h.1.2.2 o)
theorem KP.app1 {q : Nat} {a1 b1 : Option Addr} {c1 d1 : Nat} {xs : List ByteArray} {ks : List Int} {w w' : World} {v : Value} {t : Int} (h : KP q a1 b1 c1 d1 xs ks w) (ho : w'.ownsRow (q + 1) 3 1 v (ks.length + 1) (intV ks ++ [.int .i64 t])) (hg : (w.alloc (.cells #[.int .i64 t] 3)).grownBy w' (Value.slice b1 ks.length d1).ownBlock) :
    ∃ b2 d2, v = .slice b2 (ks ++ [t]).length d2 ∧ (w'.cell? ⟨q, 1, none⟩ = some (.slice b1 ks.length d1) ∧ w'.frozen? ⟨q, 1, none⟩ = false) ∧ KP q a1 b2 c1 d2 xs (ks ++ [t]) (w'.setCell ⟨q, 1, none⟩ (.slice b2 (ks ++ [t]).length d2)) := by
  have hb := h.grown3 hg
  have lq : ∀ o, (⟨q, o, none⟩ : Addr).block < q + 1 := fun _ => by show q < q + 1; omega
  have hlx : ks.length + 1 = (ks ++ [t]).length := by simp
  rw [intV_snoc, hlx] at ho
  obtain ⟨b2, d2, rfl, _, _⟩ := own_row ho
  have h9 : w'.ownsRow (q + 1) 9 1 (.slice a1 xs.length c1) xs.length (strV xs) := World.ownsRow.kept (h.2.1.alloc _) hg (own_ne h.2.1 h.2.2)
  have k1 := (hb.cell (lq 1)).trans h.1.2.1
  refine ⟨b2, d2, rfl, ⟨k1, (hb.frozen (lq 1)).trans (h.1.2.2 1)⟩, ⟨?_, ?_, fun o => ?_⟩, ownsRow_setCell_below h9 (lq 1) _, ownsRow_setCell_below ho (lq 1) _⟩
  · rw [set_other w' q 1 0 _ (by omega)]; exact (hb.cell (lq 0)).trans h.1.1
  · exact set_same w' q 1 _ _ k1
  · rw [set0]; exact (hb.frozen (lq o)).trans (h.1.2.2 o)
theorem sizes_snoc {xs : List ByteArray} {t : ByteArray} (h : ∀ x ∈ xs, x.size ≤ 930) (ht : t.size ≤ 930) : ∀ x ∈ xs ++ [t], x.size ≤ 930 := by
  intro x hx
  rcases List.mem_append.1 hx with e | e
  · exact h x e
  · simp at e; subst e; exact ht
theorem sizes_putT {xs : List ByteArray} {t : ByteArray} (h : ∀ x ∈ xs, x.size ≤ 930) (ht : t.size ≤ 930) : ∀ x ∈ putT xs t, x.size ≤ 930 := by
  unfold putT
  split
  · intro x hx
    rcases List.mem_append.1 hx with e | e
    · exact h x e
    · simp at e; subst e; exact ht
  · exact h
theorem putT_len (xs : List ByteArray) (t : ByteArray) : (putT xs t).length ≤ xs.length + 1 := by
  unfold putT
  split
  · simp
  · omega
end Go.Proofs.YtkekfogepdhjhaaGreat
