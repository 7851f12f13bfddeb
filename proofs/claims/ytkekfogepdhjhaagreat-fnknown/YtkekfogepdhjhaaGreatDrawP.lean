/- What is drawn as known: the cursor, and a block of two rows. -/
import Derived.Test.YtkekfogepdhjhaaGreatDrawK
import Derived.Maps.AppendAt
import Derived.Deep.RegionWith
import Derived.Test.YtkekfogepdhjhaaGreatView3
import Derived.Test.YtkekfogepdhjhaaGreatLearn1
import Derived.Test.YtkekfogepdhjhaaGreatLearn3
set_option linter.unusedVariables false
namespace Go.Proofs.YtkekfogepdhjhaaGreat
open Go.RowKit Go.Proofs.YtkekfogepdhjhaaGreat.Own Var Term Draw

/-- Block q holds two rows, and they are the call's own. -/
def KP (q : Nat) (a1 b1 : Option Addr) (c1 d1 : Nat) (xs : List ByteArray) (ks : List Int) (w : World) : Prop :=
  (w.cell? ⟨q, 0, none⟩ = some (.slice a1 xs.length c1) ∧ w.cell? ⟨q, 1, none⟩ = some (.slice b1 ks.length d1) ∧ ∀ o, w.frozen? ⟨q, o, none⟩ = false) ∧
  w.ownsRow (q + 1) 9 1 (.slice a1 xs.length c1) xs.length (strV xs) ∧ w.ownsRow (q + 1) 3 1 (.slice b1 ks.length d1) ks.length (intV ks)

section
variable {p q : Nat} {a1 b1 : Option Addr} {c1 d1 : Nat} {xs : List ByteArray} {ks : List Int} {w w' : World}
theorem KP.lt (h : KP q a1 b1 c1 d1 xs ks w) : q < w.heap.size := World.block_lt_of_cell? w _ h.1.1
theorem KP.draw (h : KP q a1 b1 c1 d1 xs ks w) (ho : Only p w w') (hp : p < q) : KP q a1 b1 c1 d1 xs ks w' := by
  have hl := h.lt
  exact ⟨⟨(ho.cell (q := ⟨q, 0, none⟩) hl (by show q ≠ p; omega)).trans h.1.1, (ho.cell (q := ⟨q, 1, none⟩) hl (by show q ≠ p; omega)).trans h.1.2.1, fun o => (ho.frozen (q := ⟨q, o, none⟩) hl (by show q ≠ p; omega)).trans (h.1.2.2 o)⟩, own_only h.2.1 ho (by omega), own_only h.2.2 ho (by omega)⟩
theorem KP.below (h : KP q a1 b1 c1 d1 xs ks w) (hb : Below w.heap.size w w') : KP q a1 b1 c1 d1 xs ks w' := by
  have hl := h.lt
  exact ⟨⟨(hb.cell (p := ⟨q, 0, none⟩) hl).trans h.1.1, (hb.cell (p := ⟨q, 1, none⟩) hl).trans h.1.2.1, fun o => (hb.frozen (p := ⟨q, o, none⟩) hl).trans (h.1.2.2 o)⟩, own_later h.2.1 hb, own_later h.2.2 hb⟩
theorem set0 (W : World) (q o : Nat) (v : Value) (o' : Nat) : (W.setCell ⟨q, o, none⟩ v).frozen? ⟨q, o', none⟩ = W.frozen? ⟨q, o', none⟩ := by simp
/-- A row put in place of the second one. -/
theorem KP.put1 (h : KP q a1 b1 c1 d1 xs ks w) {b2 : Option Addr} {d2 : Nat} {ks2 : List Int} (ho : w.ownsRow (q + 1) 3 1 (.slice b2 ks2.length d2) ks2.length (intV ks2)) : KP q a1 b2 c1 d2 xs ks2 (w.setCell ⟨q, 1, none⟩ (.slice b2 ks2.length d2)) := by
  refine ⟨⟨?_, ?_, fun o => ?_⟩, ownsRow_setCell_below h.2.1 (by show q < q + 1; omega) _, ownsRow_setCell_below ho (by show q < q + 1; omega) _⟩
  · rw [set_other w q 1 0 _ (by omega)]; exact h.1.1
  · exact set_same w q 1 _ _ h.1.2.1
  · rw [set0]; exact h.1.2.2 o
theorem KP.put0 (h : KP q a1 b1 c1 d1 xs ks w) {a2 : Option Addr} {c2 : Nat} {xs2 : List ByteArray} (ho : w.ownsRow (q + 1) 9 1 (.slice a2 xs2.length c2) xs2.length (strV xs2)) : KP q a2 b1 c2 d1 xs2 ks (w.setCell ⟨q, 0, none⟩ (.slice a2 xs2.length c2)) := by
  refine ⟨⟨?_, ?_, fun o => ?_⟩, ownsRow_setCell_below ho (by show q < q + 1; omega) _, ownsRow_setCell_below h.2.2 (by show q < q + 1; omega) _⟩
  · exact set_same w q 0 _ _ h.1.1
  · rw [set_other w q 0 1 _ (by omega)]; exact h.1.2.1
  · rw [set0]; exact h.1.2.2 o
end

section
variable {p q B : Nat} {a : Option Addr} {len cap : Nat} {zs : List Int} {W w w' : World}
theorem Cu.set (h : Cu p a len cap zs W w) (hq : W.heap.size ≤ q) (hp : p < q) (o : Nat) (v : Value) : Cu p a len cap zs W (w.setCell ⟨q, o, none⟩ v) := by
  obtain ⟨⟨s, h⟩, k⟩ := h
  have hg : w.grownBy (w.setCell ⟨q, o, none⟩ v) (some q) := ⟨rfl, rfl, rfl, by simp, fun j _ hn => Below.heap_setCell w ⟨q, o, none⟩ v j (fun e => hn (by rw [e]))⟩
  refine ⟨⟨s, h.grown hg (fun j hj => by simp at hj; omega)⟩, k.os, k.tape, k.output, by have := k.size; simpa using this, fun j hj hn => (Below.heap_setCell w ⟨q, o, none⟩ v j (fun e => ?_)).trans (k.block j hj hn)⟩
  have e2 : j = q := e
  omega
theorem Cu.down (h : Cu p a len cap zs W w) (hb : Below B w w') (hB : W.heap.size ≤ B) (hp : p < B) : Cu p a len cap zs W w' := by
  obtain ⟨⟨s, h⟩, k⟩ := h
  refine ⟨⟨s, ⟨(hb.cell (p := ⟨p, 0, none⟩) hp).trans h.cur.b, (hb.cell (p := ⟨p, 1, none⟩) hp).trans h.cur.i, (hb.cell (p := ⟨p, 2, none⟩) hp).trans h.cur.h, fun o => (hb.frozen (p := ⟨p, o, none⟩) hp).trans (h.cur.f o)⟩, h.code.below (hb.mono (Nat.le_of_lt hp)), h.le⟩, ?_⟩
  exact ⟨hb.os.trans k.os, hb.tape.trans k.tape, hb.output.trans k.output, Nat.le_trans k.size hb.size, fun j hj hn => (hb.block j (by omega)).trans (k.block j hj hn)⟩
end
end Go.Proofs.YtkekfogepdhjhaaGreat

set_option linter.unusedVariables false
namespace Go.Proofs.YtkekfogepdhjhaaGreat
open Go.RowKit Go.Proofs.YtkekfogepdhjhaaGreat.Own Var Term Draw

/-- A block of two rows of no memory. -/
def RZ (r : Nat) (w : World) : Prop := w.cell? ⟨r, 0, none⟩ = some (.slice none 0 0) ∧ w.cell? ⟨r, 1, none⟩ = some (.slice none 0 0) ∧ ∀ o, w.frozen? ⟨r, o, none⟩ = false
theorem RZ.lt {r : Nat} {w : World} (h : RZ r w) : r < w.heap.size := World.block_lt_of_cell? w _ h.1
theorem RZ.draw {p r : Nat} {w w' : World} (h : RZ r w) (ho : Only p w w') (hp : r ≠ p) : RZ r w' :=
  ⟨(ho.cell (q := ⟨r, 0, none⟩) h.lt hp).trans h.1, (ho.cell (q := ⟨r, 1, none⟩) h.lt hp).trans h.2.1, fun o => (ho.frozen (q := ⟨r, o, none⟩) h.lt hp).trans (h.2.2 o)⟩
theorem RZ.below {B r : Nat} {w w' : World} (h : RZ r w) (hb : Below B w w') (hp : r < B) : RZ r w' :=
  ⟨(hb.cell (p := ⟨r, 0, none⟩) hp).trans h.1, (hb.cell (p := ⟨r, 1, none⟩) hp).trans h.2.1, fun o => (hb.frozen (p := ⟨r, o, none⟩) hp).trans (h.2.2 o)⟩
theorem RZ.set {q r : Nat} {w : World} (h : RZ r w) (hq : r ≠ q) (o : Nat) (v : Value) : RZ r (w.setCell ⟨q, o, none⟩ v) := by
  have e : ∀ o', (w.setCell ⟨q, o, none⟩ v).cell? ⟨r, o', none⟩ = w.cell? ⟨r, o', none⟩ := fun o' => World.cell?_of_block (a := ⟨r, o', none⟩) (Below.heap_setCell w ⟨q, o, none⟩ v r (fun e => hq e))
  have f : ∀ o', (w.setCell ⟨q, o, none⟩ v).frozen? ⟨r, o', none⟩ = w.frozen? ⟨r, o', none⟩ := fun o' => World.frozen?_of_block (a := ⟨r, o', none⟩) (Below.heap_setCell w ⟨q, o, none⟩ v r (fun e => hq e))
  exact ⟨(e 0).trans h.1, (e 1).trans h.2.1, fun o' => (f o').trans (h.2.2 o')⟩
theorem KP.drew {q : Nat} {a1 b1 : Option Addr} {c1 d1 : Nat} {xs : List ByteArray} {ks : List Int} {w : World} (h : KP q a1 b1 c1 d1 xs ks w) : KP q a1 b1 c1 d1 xs ks w.drew := h.below (Below.drew (Below.refl _ _))
theorem KP.both {q : Nat} {a2 b2 : Option Addr} {c2 d2 : Nat} {xs2 : List ByteArray} {ks2 : List Int} {w : World} {u0 u1 : Value} (h0 : w.cell? ⟨q, 0, none⟩ = some u0) (h1 : w.cell? ⟨q, 1, none⟩ = some u1) (hf : ∀ o, w.frozen? ⟨q, o, none⟩ = false)
    (ho : w.ownsRow (q + 1) 9 1 (.slice a2 xs2.length c2) xs2.length (strV xs2)) (hk : w.ownsRow (q + 1) 3 1 (.slice b2 ks2.length d2) ks2.length (intV ks2)) :
    KP q a2 b2 c2 d2 xs2 ks2 ((w.setCell ⟨q, 0, none⟩ (.slice a2 xs2.length c2)).setCell ⟨q, 1, none⟩ (.slice b2 ks2.length d2)) := by
  have l : ∀ o, (⟨q, o, none⟩ : Addr).block < q + 1 := fun _ => by show q < q + 1; omega
  refine ⟨⟨?_, ?_, fun o => ?_⟩, ownsRow_setCell_below (ownsRow_setCell_below ho (l 0) _) (l 1) _, ownsRow_setCell_below (ownsRow_setCell_below hk (l 0) _) (l 1) _⟩
  · rw [set_other _ q 1 0 _ (by omega)]; exact set_same w q 0 _ _ h0
  · exact set_same _ q 1 _ _ (by rw [set_other w q 0 1 _ (by omega)]; exact h1)
  · rw [set0, set0]; exact hf o
theorem KP.grown9 {q : Nat} {a1 b1 : Option Addr} {c1 d1 : Nat} {xs : List ByteArray} {ks : List Int} {w w' : World} {o : Obj} (h : KP q a1 b1 c1 d1 xs ks w) (hg : (w.alloc o).grownBy w' (Value.slice a1 xs.length c1).ownBlock) : Below (q + 1) w w' := by
  have hl := h.lt
  refine ⟨hg.os, hg.tape, hg.output, by have := hg.size; simp at this; omega, fun k hk => (hg.block k (by simp; omega) (fun e => ?_)).trans (Below.heap_alloc w o k (by omega))⟩
  have := (h.2.1.lt k e.symm).1
  omega
theorem KP.grown3 {q : Nat} {a1 b1 : Option Addr} {c1 d1 : Nat} {xs : List ByteArray} {ks : List Int} {w w' : World} {o : Obj} (h : KP q a1 b1 c1 d1 xs ks w) (hg : (w.alloc o).grownBy w' (Value.slice b1 ks.length d1).ownBlock) : Below (q + 1) w w' := by
  have hl := h.lt
  refine ⟨hg.os, hg.tape, hg.output, by have := hg.size; simp at this; omega, fun k hk => (hg.block k (by simp; omega) (fun e => ?_)).trans (Below.heap_alloc w o k (by omega))⟩
  have := (h.2.2.lt k e.symm).1
  omega
/-- One more text behind the first row. -/
theorem KP.app0 {q : Nat} {a1 b1 : Option Addr} {c1 d1 : Nat} {xs : List ByteArray} {ks : List Int} {w w' : World} {v : Value} {t : ByteArray} (h : KP q a1 b1 c1 d1 xs ks w) (ho : w'.ownsRow (q + 1) 9 1 v (xs.length + 1) (strV xs ++ [.string t])) (hg : (w.alloc (.cells #[.string t] 9)).grownBy w' (Value.slice a1 xs.length c1).ownBlock) :
    ∃ a2 c2, v = .slice a2 (xs ++ [t]).length c2 ∧ (w'.cell? ⟨q, 0, none⟩ = some (.slice a1 xs.length c1) ∧ w'.frozen? ⟨q, 0, none⟩ = false) ∧ KP q a2 b1 c2 d1 (xs ++ [t]) ks (w'.setCell ⟨q, 0, none⟩ (.slice a2 (xs ++ [t]).length c2)) := by
  have hb := h.grown9 hg
  have lq : ∀ o, (⟨q, o, none⟩ : Addr).block < q + 1 := fun _ => by show q < q + 1; omega
  have hlx : xs.length + 1 = (xs ++ [t]).length := by simp
  rw [strV_snoc, hlx] at ho
  obtain ⟨a2, c2, rfl, _, _⟩ := own_row ho
  have h3 : w'.ownsRow (q + 1) 3 1 (.slice b1 ks.length d1) ks.length (intV ks) := World.ownsRow.kept (h.2.2.alloc _) hg (own_ne' h.2.1 h.2.2)
  have k0 := (hb.cell (lq 0)).trans h.1.1
  refine ⟨a2, c2, rfl, ⟨k0, (hb.frozen (lq 0)).trans (h.1.2.2 0)⟩, ⟨?_, ?_, fun o => ?_⟩, ownsRow_setCell_below ho (lq 0) _, ownsRow_setCell_below h3 (lq 0) _⟩
  · exact set_same w' q 0 _ _ k0
  · rw [set_other w' q 0 1 _ (by omega)]; exact (hb.cell (lq 1)).trans h.1.2.1
  · rw [set0]; exact (hb.frozen (lq o)).trans (h.1.2.2 o)
theorem KP.app1 {q : Nat} {a1 b1 : Option Addr} {c1 d1 : Nat} {xs : List ByteArray} {ks : List Int} {w w' : World} {v : Value} {t : Int} (h : KP q a1 b1 c1 d1 xs ks w) (ho : w'.ownsRow (q + 1) 3 1 v (ks.length + 1) (intV ks ++ [.int .i64 t])) (hg : (w.alloc (.cells #[.int .i64 t] 3)).grownBy w' (Value.slice b1 ks.length d1).ownBlock) :
    ∃ b2 d2, v = .slice b2 (ks ++ [t]).length d2 ∧ (w'.cell? ⟨q, 1, none⟩ = some (.slice b1 ks.length d1) ∧ w'.frozen? ⟨q, 1, none⟩ = false) ∧ KP q a1 b2 c1 d2 xs (ks ++ [t]) (w'.setCell ⟨q, 1, none⟩ (.slice b2 (ks ++ [t]).length d2)) := by
  have hb := h.grown3 hg
  have lq : ∀ o, (⟨q, o, none⟩ : Addr).block < q + 1 := fun _ => by show q < q + 1; omega
  have hlx : ks.length + 1 = (ks ++ [t]).length := by simp
  rw [intV_snoc, hlx] at ho
  obtain ⟨b2, d2, rfl, _, _⟩ := own_row ho
  have h9 : w'.ownsRow (q + 1) 9 1 (.slice a1 xs.length c1) xs.length (strV xs) := World.ownsRow.kept (h.2.1.alloc _) hg (own_ne h.2.1 h.2.2)
  have k1 := (hb.cell (lq 1)).trans h.1.2.1
  refine ⟨b2, d2, rfl, ⟨k1, (hb.frozen (lq 1)).trans (h.1.2.2 1)⟩, ⟨?_, ?_, fun o => ?_⟩, ownsRow_setCell_below h9 (lq 1) _, ownsRow_setCell_below ho (lq 1) _⟩
  · rw [set_other w' q 1 0 _ (by omega)]; exact (hb.cell (lq 0)).trans h.1.1
  · exact set_same w' q 1 _ _ k1
  · rw [set0]; exact (hb.frozen (lq o)).trans (h.1.2.2 o)
theorem sizes_snoc {xs : List ByteArray} {t : ByteArray} (h : ∀ x ∈ xs, x.size ≤ 930) (ht : t.size ≤ 930) : ∀ x ∈ xs ++ [t], x.size ≤ 930 := by
  intro x hx
  rcases List.mem_append.1 hx with e | e
  · exact h x e
  · simp at e; subst e; exact ht
theorem sizes_putT {xs : List ByteArray} {t : ByteArray} (h : ∀ x ∈ xs, x.size ≤ 930) (ht : t.size ≤ 930) : ∀ x ∈ putT xs t, x.size ≤ 930 := by
  unfold putT
  split
  · intro x hx
    rcases List.mem_append.1 hx with e | e
    · exact h x e
    · simp at e; subst e; exact ht
  · exact h
theorem putT_len (xs : List ByteArray) (t : ByteArray) : (putT xs t).length ≤ xs.length + 1 := by
  unfold putT
  split
  · simp
  · omega
end Go.Proofs.YtkekfogepdhjhaaGreat

set_option linter.unusedVariables false
namespace Go.Proofs.YtkekfogepdhjhaaGreat
open Go.RowKit Go.Proofs.YtkekfogepdhjhaaGreat.Own Var Term Draw

theorem pick3W {p : Nat} {a : Option Addr} {len cap : Nat} {zs : List Int} {w : World} (g : Nat) (h : Cu p a len cap zs w w) (hg : p < g) (hgs : g < w.heap.size) (hL : ∀ j, j < 3 → w.cell? ⟨g, j, none⟩ = some (.int .i64 (([0, 1, 1000001] : List Int).getD j 0))) :
    Calls Tryz.prog 48 #[.pointer (some ⟨p, 0, none⟩), .slice (some ⟨g, 0, none⟩) 3 3] w fun e w' => ∃ y : Int, e = .returned (.int .i64 y) ∧ Cu p a len cap zs w w' := by
  obtain ⟨⟨s, hD⟩, _⟩ := h
  exact (pickIntD p a len cap zs s w g 3 [0, 1, 1000001] hD (by omega) (by omega) hg hgs hL).mono (by rintro e w' ⟨rfl, D, O⟩; exact ⟨_, rfl, ⟨_, D⟩, O⟩)
def KnPost (p : Nat) (a : Option Addr) (len cap : Nat) (zs : List Int) (W : World) (e : Ending) (w' : World) : Prop :=
  ∃ (a1 b1 : Option Addr) (c1 d1 : Nat) (xs : List ByteArray) (ks : List Int), e = .returned (.agg #[.slice a1 xs.length c1, .slice b1 ks.length d1]) ∧ w'.ownsRow W.heap.size 9 1 (.slice a1 xs.length c1) xs.length (strV xs) ∧ w'.ownsRow W.heap.size 3 1 (.slice b1 ks.length d1) ks.length (intV ks) ∧
    xs.length ≤ 16 ∧ ks.length ≤ 16 ∧ (∀ x ∈ xs, x.size ≤ 930) ∧ Cu p a len cap zs W w'

set_option maxRecDepth 100000 in
set_option maxHeartbeats 800000 in
theorem l3Known_is (p : Nat) (a : Option Addr) (len cap : Nat) (zs : List Int) (L : Int) (W : World) (h2 : 2 ≤ L) (h15 : L ≤ 15) (hC : Cu p a len cap zs W W) :
    Calls Tryz.prog 17 #[.pointer (some ⟨p, 0, none⟩), .int .i64 L] W (KnPost p a len cap zs W) := by
  obtain ⟨i0, hi, hz0, hz1, hz2⟩ := info_parts infoStr
  obtain ⟨j0, hj0, hy0, hy1, hy2⟩ := info_parts infoInt
  obtain ⟨W2, hW2⟩ : ∃ W2, (W.alloc (.cells #[.slice none 0 0, .slice none 0 0] 27)).alloc (.cells #[.slice none 0 0, .slice none 0 0] 27) = W2 := ⟨_, rfl⟩
  obtain ⟨r, hr⟩ : ∃ r, W.heap.size = r := ⟨_, rfl⟩
  obtain ⟨q, hq⟩ : ∃ q, r + 1 = q := ⟨_, rfl⟩
  have hpr : p < r := by rw [← hr]; exact hC.lt
  have C0 : Cu p a len cap zs W W2 := by rw [← hW2]; exact (hC.alloc _).alloc _
  have Z0 : RZ r W2 := by rw [← hW2, ← hr]; exact ⟨by simp [go_sem], by simp [go_sem], fun o => by simp [go_sem]⟩
  have K0 : KP q none none 0 0 [] [] W2 := by
    rw [← hW2, ← hq, ← hr]
    exact ⟨⟨by simp [go_sem], by simp [go_sem], fun o => by simp [go_sem]⟩, World.ownsRow_nil _ _ _ _, World.ownsRow_nil _ _ _ _⟩
  have HW2 := show Hid _ from hW2
  have HR := show Hid _ from hr
  have HQ := show Hid _ from hq
  have HZ : Hid (RZ r W2) := Z0
  have HK : Hid (KP q none none 0 0 [] [] W2) := K0
  have HC : Hid (Cu p a len cap zs W W) := hC
  clear hW2 hr hq Z0 K0 hC
  go_enter Tryz.func17, Tryz.ntmps17
  go_wp2_with fail
  rw [HW2.out]
  simp only [HR.out, HQ.out]
  refine (belowW L C0.here (by omega) (by omega)).mono ?_
  rintro e w1 ⟨x0, rfl, hx0, hx1, C1⟩
  have hpq : p < q := by have := HQ.out; omega
  have hrq : r < q := by have := HQ.out; omega
  have hWq : W.heap.size ≤ q := by have := HQ.out; have := HR.out; omega
  have K1 := HK.out.draw C1.2 hpq
  have Z1 := HZ.out.draw C1.2 (by omega)
  have C01 := C0.next C1
  obtain ⟨m0, rfl⟩ := Int.eq_ofNat_of_zero_le hx0
  clear C0 C1 HK HZ HC
  go_wp2
  go_loopw [6] (fun v wr => ∃ (mm : Nat) (a1 b1 : Option Addr) (c1 d1 : Nat) (xx : List ByteArray) (kk : List Int), v = .int .i64 (mm : Int) ∧ mm ≤ 15 ∧ xx.length + kk.length + mm ≤ 15 ∧ Hid (∀ x ∈ xx, x.size ≤ 930) ∧ KP q a1 b1 c1 d1 xx kk wr ∧ RZ r wr ∧ Cu p a len cap zs W wr) (fun v _ => (intOf v).toNat)
  case atStart => exact ⟨m0, none, none, 0, 0, [], [], rfl, by omega, by simp; omega, by simp [Hid], K1, Z1, C01⟩
  case round =>
    clear K1 Z1 C01 hx0 hx1
    obtain ⟨m, a1, b1, c1, d1, xs, ks, rfl, hm15, hlen, HS, K, Z, C⟩ := hrel
    by_cases hm0 : m = 0
    · subst hm0
      have hmd : decide (((0 : Nat) : Int) > 0) = false := by simp
      have HO := onceW 10 C.here (by omega)
      go_wp2_with fail
      refine HO.mono ?_
      clear HO
      rintro e w2 ⟨bb, rfl, C2⟩
      have K2 := K.draw C2.2 hpq
      have Z2 := Z.draw C2.2 (by omega)
      have C02 := C.next C2
      clear K Z C C2
      cases bb with
      | false =>
        have HO9 := show Hid _ from K2.2.1
        have HO3 := show Hid _ from K2.2.2
        have hCC : Hid (Cu p a len cap zs W w2) := C02
        obtain ⟨⟨e0, e1, ef⟩, _, _⟩ := K2
        obtain ⟨z0, z1, zf⟩ := Z2
        have zf0 := zf 0
        have zf1 := zf 1
        clear C02
        obtain ⟨WF, hWF⟩ : ∃ WF, (w2.setCell ⟨r, 0, none⟩ (.slice a1 xs.length c1)).setCell ⟨r, 1, none⟩ (.slice b1 ks.length d1) = WF := ⟨_, rfl⟩
        have y0 : WF.cell? ⟨r, 0, none⟩ = some (.slice a1 xs.length c1) := by rw [← hWF, set_other _ r 1 0 _ (by omega)]; exact set_same w2 r 0 _ _ z0
        have y1 : WF.cell? ⟨r, 1, none⟩ = some (.slice b1 ks.length d1) := by rw [← hWF]; exact set_same _ r 1 _ _ (by rw [set_other w2 r 0 1 _ (by omega)]; exact z1)
        have lr : ∀ o, (⟨r, o, none⟩ : Addr).block < q + 1 := fun _ => by show r < q + 1; omega
        have HF : Hid (KnPost p a len cap zs W (.returned (.agg #[.slice a1 xs.length c1, .slice b1 ks.length d1])) WF) := by
          rw [← hWF]
          exact ⟨a1, b1, c1, d1, xs, ks, rfl, own_base (ownsRow_setCell_below (ownsRow_setCell_below HO9.out (lr 0) _) (lr 1) _) (by omega), own_base (ownsRow_setCell_below (ownsRow_setCell_below HO3.out (lr 0) _) (lr 1) _) (by omega), by omega, by omega, HS.out, Cu.set (Cu.set hCC.out (Nat.le_of_eq HR.out) hpr 0 _) (Nat.le_of_eq HR.out) hpr 1 _⟩
        clear HO9 HO3 hCC
        go_wp2
        try rw [hWF]
        refine bodyPost_ret (res_two rfl _ WF r _ _ rfl y0 y1) rfl HF.out
      | true =>
        have HB := belowW 3 C02.here (by omega) (by omega)
        go_wp2_with fail
        refine HB.mono ?_
        clear HB
        rintro e w3 ⟨x, rfl, hxa, hxb, C3⟩
        have K3 := K2.draw C3.2 hpq
        have Z3 := Z2.draw C3.2 (by omega)
        have C03 := C02.next C3
        clear K2 Z2 C02 C3
        obtain rfl | rfl | rfl : x = 0 ∨ x = 1 ∨ x = 2 := by omega
        ·
          have HK3 : Hid (KP q a1 b1 c1 d1 xs ks w3) := K3
          obtain ⟨⟨e0, e1, ef⟩, _, _⟩ := K3
          have bA : Below w3.heap.size w3 (w3.drew.alloc (.cells #[.int .i64 0, .int .i64 1, .int .i64 1000001] 3)) := ((Below.refl _ w3).drew).alloc (Nat.le_refl _) _
          have KA := HK3.out.below bA
          have e1a : (w3.alloc (.cells #[.int .i64 0, .int .i64 1, .int .i64 1000001] 3)).cell? ⟨q, 1, none⟩ = some (.slice b1 ks.length d1) := KA.1.2.1
          have ZA := Z3.below bA Z3.lt
          have CA : Cu p a len cap zs W (w3.drew.alloc (.cells #[.int .i64 0, .int .i64 1, .int .i64 1000001] 3)) := C03.drew.alloc _
          have HKA : Hid (KP q a1 b1 c1 d1 xs ks (w3.drew.alloc (.cells #[.int .i64 0, .int .i64 1, .int .i64 1000001] 3))) := KA
          clear KA
          go_wp2_with fail
          refine wp_region_any (by kernel_rfl) ?_
          show wpAny _ _ _ _ _ _ _ w3.drew
          refine Vw.take_any 0 47 (v := ?_) rfl rfl (by kernel_rfl) (by kernel_rfl) (by kernel_rfl) (fun _ _ _ h => h) (Or.inl ⟨by rfl, ?_⟩) ?_
          rotate_left
          · intro w'; go_simp; try with_reducible rfl
          try simp only [Act.put, List.setIfInBounds_toArray, List.set_cons_zero, List.set_cons_succ]
          refine Vw.take_any 2 49 (v := ?_) rfl rfl (by kernel_rfl) (by kernel_rfl) (by kernel_rfl) (fun _ _ _ h => h) (Or.inl ⟨by rfl, ?_⟩) ?_
          rotate_left
          · intro w'; go_simp; try with_reducible rfl
          try simp only [Act.put, List.setIfInBounds_toArray, List.set_cons_zero, List.set_cons_succ]
          refine wpAny_ready (rs := [1, 3]) (by kernel_rfl) (by simp) ?_
          refine AllReady.cons (i := 1) rfl (fun K hK => ?_) (AllReady.cons (i := 3) rfl (fun K hK => ?_) AllReady.nil)
          · go_simp
            refine hK _ _ ?_
            clear hK K
            try simp only [Act.put, List.setIfInBounds_toArray, List.set_cons_zero, List.set_cons_succ]
            refine wpAny_ready (rs := [3]) (by kernel_rfl) (by simp) ?_
            refine AllReady.cons (i := 3) rfl (fun K hK => ?_) AllReady.nil
            go_simp
            refine hK _ _ ?_
            clear hK K
            try simp only [Act.put, List.setIfInBounds_toArray, List.set_cons_zero, List.set_cons_succ]
            refine wpAny_ready (rs := [4]) (by kernel_rfl) (by simp) ?_
            refine AllReady.cons (i := 4) rfl (fun K hK => ?_) AllReady.nil
            have hK3 : Shut _ := hK
            clear hK
            go_simp
            refine (pick3W w3.heap.size CA.here (by have := C03.lt; omega) (by simp) (by intro j hj; rcases (by omega : j = 0 ∨ j = 1 ∨ j = 2) with rfl | rfl | rfl <;> simp [go_sem])).mono ?_
            rintro e w4 ⟨yy, rfl, C4⟩
            have K4 := HKA.out.draw C4.2 hpq
            have e41 := K4.1.2.1
            have e4a : (w4.alloc (.cells #[.int .i64 yy] 3)).cell? ⟨q, 1, none⟩ = some (.slice b1 ks.length d1) := (((Below.refl _ w4).alloc (Nat.le_refl _) _).cell (p := ⟨q, 1, none⟩) K4.lt).trans e41
            have Z4 := ZA.draw C4.2 (by omega)
            have C04 := CA.next C4
            go_wp2_with fail
            refine hK3.out _ _ ?_
            clear hK3 K
            try simp only [Act.put, List.setIfInBounds_toArray, List.set_cons_zero, List.set_cons_succ]
            refine wpAny_ready (rs := [5]) (by kernel_rfl) (by simp) ?_
            refine AllReady.cons (i := 5) rfl (fun K hK => ?_) AllReady.nil
            go_simp
            refine hK _ _ ?_
            clear hK K
            try simp only [Act.put, List.setIfInBounds_toArray, List.set_cons_zero, List.set_cons_succ]
            refine wpAny_ready (rs := [6]) (by kernel_rfl) (by simp) ?_
            refine AllReady.cons (i := 6) rfl (fun K hK => ?_) AllReady.nil
            refine step_own_at 53 rfl rfl _ _ 25 rfl (q + 1) 3 j0 (.int .i64 0) 1 8 Tryz.underlying25 hj0 hy0 hy1 hy2 rfl (by decide) (.slice b1 ks.length d1) ks.length (intV ks) rfl (K4.2.2.alloc _) ⟨w4.heap.size, 0, none⟩ 1 1 [.int .i64 yy] rfl rfl (cell_one_new _ _ _) (by intro u hu; simp at hu; subst hu; rfl) (by unfold maxLen; omega) (by omega) (by have := K4.lt; simp; omega) ?_
            intro v' w5 hown' hgrow hloc
            refine hK _ _ ?_
            clear hK K
            obtain ⟨b2, d2, rfl, ⟨k0, f0⟩, K5⟩ := K4.app1 hown' hgrow
            have hb5 := K4.grown3 hgrow
            have Z5 := (Z4.below hb5 (by omega)).set (q := q) (by omega) 1 (.slice b2 (ks ++ [yy]).length d2)
            have C05 := Cu.set (q := q) (Cu.down C04 hb5 (by omega) (by omega)) hWq hpq 1 (.slice b2 (ks ++ [yy]).length d2)
            have hyl : (ks ++ [yy]).length ≤ 16 := by simp; omega
            generalize ks ++ [yy] = ys at K5 Z5 C05 hyl ⊢
            try simp only [Act.put, List.setIfInBounds_toArray, List.set_cons_zero, List.set_cons_succ]
            refine Vw.take_any 7 54 (v := ?_) rfl rfl (by kernel_rfl) (by kernel_rfl) (by kernel_rfl) (fun _ _ _ h => h) (Or.inl ⟨by rfl, ?_⟩) ?_
            rotate_left
            · intro w'; go_simp; try with_reducible rfl
            try simp only [Act.put, List.setIfInBounds_toArray, List.set_cons_zero, List.set_cons_succ]
            refine wpAny_ready (rs := [8]) (by kernel_rfl) (by simp) ?_
            refine AllReady.cons (i := 8) rfl (fun K hK => ?_) AllReady.nil
            go_simp
            refine hK _ _ ?_
            clear hK K
            try simp only [Act.put, List.setIfInBounds_toArray, List.set_cons_zero, List.set_cons_succ]
            refine wpAny_done (by kernel_rfl) ?_ _
            generalize w5.setCell ⟨q, 1, none⟩ (.slice b2 ys.length d2) = w6 at K5 Z5 C05 ⊢
            clear hown' hgrow hloc hb5 e0 e1 ef k0 f0
            have HO9 := show Hid _ from K5.2.1
            have HO3 := show Hid _ from K5.2.2
            have hCC : Hid (Cu p a len cap zs W w6) := C05
            obtain ⟨⟨e0, e1, ef⟩, _, _⟩ := K5
            obtain ⟨z0, z1, zf⟩ := Z5
            have zf0 := zf 0
            have zf1 := zf 1
            clear C05
            obtain ⟨WF, hWF⟩ : ∃ WF, (w6.setCell ⟨r, 0, none⟩ (.slice a1 xs.length c1)).setCell ⟨r, 1, none⟩ (.slice b2 ys.length d2) = WF := ⟨_, rfl⟩
            have y0 : WF.cell? ⟨r, 0, none⟩ = some (.slice a1 xs.length c1) := by rw [← hWF, set_other _ r 1 0 _ (by omega)]; exact set_same w6 r 0 _ _ z0
            have y1 : WF.cell? ⟨r, 1, none⟩ = some (.slice b2 ys.length d2) := by rw [← hWF]; exact set_same _ r 1 _ _ (by rw [set_other w6 r 0 1 _ (by omega)]; exact z1)
            have lr : ∀ o, (⟨r, o, none⟩ : Addr).block < q + 1 := fun _ => by show r < q + 1; omega
            have HF : Hid (KnPost p a len cap zs W (.returned (.agg #[.slice a1 xs.length c1, .slice b2 ys.length d2])) WF) := by
              rw [← hWF]
              exact ⟨a1, b2, c1, d2, xs, ys, rfl, own_base (ownsRow_setCell_below (ownsRow_setCell_below HO9.out (lr 0) _) (lr 1) _) (by omega), own_base (ownsRow_setCell_below (ownsRow_setCell_below HO3.out (lr 0) _) (lr 1) _) (by omega), by omega, by omega, HS.out, Cu.set (Cu.set hCC.out (Nat.le_of_eq HR.out) hpr 0 _) (Nat.le_of_eq HR.out) hpr 1 _⟩
            clear HO9 HO3 hCC
            go_wp2
            try rw [hWF]
            refine bodyPost_ret (res_two rfl _ WF r _ _ rfl y0 y1) rfl HF.out
          · go_simp
            refine hK _ _ ?_
            clear hK K
            try simp only [Act.put, List.setIfInBounds_toArray, List.set_cons_zero, List.set_cons_succ]
            refine wpAny_ready (rs := [1, 4]) (by kernel_rfl) (by simp) ?_
            refine AllReady.cons (i := 1) rfl (fun K hK => ?_) (AllReady.cons (i := 4) rfl (fun K hK => ?_) AllReady.nil)
            · go_simp
              refine hK _ _ ?_
              clear hK K
              try simp only [Act.put, List.setIfInBounds_toArray, List.set_cons_zero, List.set_cons_succ]
              refine wpAny_ready (rs := [4]) (by kernel_rfl) (by simp) ?_
              refine AllReady.cons (i := 4) rfl (fun K hK => ?_) AllReady.nil
              have hK3 : Shut _ := hK
              clear hK
              go_simp
              refine (pick3W w3.heap.size CA.here (by have := C03.lt; omega) (by simp) (by intro j hj; rcases (by omega : j = 0 ∨ j = 1 ∨ j = 2) with rfl | rfl | rfl <;> simp [go_sem])).mono ?_
              rintro e w4 ⟨yy, rfl, C4⟩
              have K4 := HKA.out.draw C4.2 hpq
              have e41 := K4.1.2.1
              have e4a : (w4.alloc (.cells #[.int .i64 yy] 3)).cell? ⟨q, 1, none⟩ = some (.slice b1 ks.length d1) := (((Below.refl _ w4).alloc (Nat.le_refl _) _).cell (p := ⟨q, 1, none⟩) K4.lt).trans e41
              have Z4 := ZA.draw C4.2 (by omega)
              have C04 := CA.next C4
              go_wp2_with fail
              refine hK3.out _ _ ?_
              clear hK3 K
              try simp only [Act.put, List.setIfInBounds_toArray, List.set_cons_zero, List.set_cons_succ]
              refine wpAny_ready (rs := [5]) (by kernel_rfl) (by simp) ?_
              refine AllReady.cons (i := 5) rfl (fun K hK => ?_) AllReady.nil
              go_simp
              refine hK _ _ ?_
              clear hK K
              try simp only [Act.put, List.setIfInBounds_toArray, List.set_cons_zero, List.set_cons_succ]
              refine wpAny_ready (rs := [6]) (by kernel_rfl) (by simp) ?_
              refine AllReady.cons (i := 6) rfl (fun K hK => ?_) AllReady.nil
              refine step_own_at 53 rfl rfl _ _ 25 rfl (q + 1) 3 j0 (.int .i64 0) 1 8 Tryz.underlying25 hj0 hy0 hy1 hy2 rfl (by decide) (.slice b1 ks.length d1) ks.length (intV ks) rfl (K4.2.2.alloc _) ⟨w4.heap.size, 0, none⟩ 1 1 [.int .i64 yy] rfl rfl (cell_one_new _ _ _) (by intro u hu; simp at hu; subst hu; rfl) (by unfold maxLen; omega) (by omega) (by have := K4.lt; simp; omega) ?_
              intro v' w5 hown' hgrow hloc
              refine hK _ _ ?_
              clear hK K
              obtain ⟨b2, d2, rfl, ⟨k0, f0⟩, K5⟩ := K4.app1 hown' hgrow
              have hb5 := K4.grown3 hgrow
              have Z5 := (Z4.below hb5 (by omega)).set (q := q) (by omega) 1 (.slice b2 (ks ++ [yy]).length d2)
              have C05 := Cu.set (q := q) (Cu.down C04 hb5 (by omega) (by omega)) hWq hpq 1 (.slice b2 (ks ++ [yy]).length d2)
              have hyl : (ks ++ [yy]).length ≤ 16 := by simp; omega
              generalize ks ++ [yy] = ys at K5 Z5 C05 hyl ⊢
              try simp only [Act.put, List.setIfInBounds_toArray, List.set_cons_zero, List.set_cons_succ]
              refine Vw.take_any 7 54 (v := ?_) rfl rfl (by kernel_rfl) (by kernel_rfl) (by kernel_rfl) (fun _ _ _ h => h) (Or.inl ⟨by rfl, ?_⟩) ?_
              rotate_left
              · intro w'; go_simp; try with_reducible rfl
              try simp only [Act.put, List.setIfInBounds_toArray, List.set_cons_zero, List.set_cons_succ]
              refine wpAny_ready (rs := [8]) (by kernel_rfl) (by simp) ?_
              refine AllReady.cons (i := 8) rfl (fun K hK => ?_) AllReady.nil
              go_simp
              refine hK _ _ ?_
              clear hK K
              try simp only [Act.put, List.setIfInBounds_toArray, List.set_cons_zero, List.set_cons_succ]
              refine wpAny_done (by kernel_rfl) ?_ _
              generalize w5.setCell ⟨q, 1, none⟩ (.slice b2 ys.length d2) = w6 at K5 Z5 C05 ⊢
              clear hown' hgrow hloc hb5 e0 e1 ef k0 f0
              have HO9 := show Hid _ from K5.2.1
              have HO3 := show Hid _ from K5.2.2
              have hCC : Hid (Cu p a len cap zs W w6) := C05
              obtain ⟨⟨e0, e1, ef⟩, _, _⟩ := K5
              obtain ⟨z0, z1, zf⟩ := Z5
              have zf0 := zf 0
              have zf1 := zf 1
              clear C05
              obtain ⟨WF, hWF⟩ : ∃ WF, (w6.setCell ⟨r, 0, none⟩ (.slice a1 xs.length c1)).setCell ⟨r, 1, none⟩ (.slice b2 ys.length d2) = WF := ⟨_, rfl⟩
              have y0 : WF.cell? ⟨r, 0, none⟩ = some (.slice a1 xs.length c1) := by rw [← hWF, set_other _ r 1 0 _ (by omega)]; exact set_same w6 r 0 _ _ z0
              have y1 : WF.cell? ⟨r, 1, none⟩ = some (.slice b2 ys.length d2) := by rw [← hWF]; exact set_same _ r 1 _ _ (by rw [set_other w6 r 0 1 _ (by omega)]; exact z1)
              have lr : ∀ o, (⟨r, o, none⟩ : Addr).block < q + 1 := fun _ => by show r < q + 1; omega
              have HF : Hid (KnPost p a len cap zs W (.returned (.agg #[.slice a1 xs.length c1, .slice b2 ys.length d2])) WF) := by
                rw [← hWF]
                exact ⟨a1, b2, c1, d2, xs, ys, rfl, own_base (ownsRow_setCell_below (ownsRow_setCell_below HO9.out (lr 0) _) (lr 1) _) (by omega), own_base (ownsRow_setCell_below (ownsRow_setCell_below HO3.out (lr 0) _) (lr 1) _) (by omega), by omega, by omega, HS.out, Cu.set (Cu.set hCC.out (Nat.le_of_eq HR.out) hpr 0 _) (Nat.le_of_eq HR.out) hpr 1 _⟩
              clear HO9 HO3 hCC
              go_wp2
              try rw [hWF]
              refine bodyPost_ret (res_two rfl _ WF r _ _ rfl y0 y1) rfl HF.out
            · have hK3 : Shut _ := hK
              clear hK
              go_simp
              refine (pick3W w3.heap.size CA.here (by have := C03.lt; omega) (by simp) (by intro j hj; rcases (by omega : j = 0 ∨ j = 1 ∨ j = 2) with rfl | rfl | rfl <;> simp [go_sem])).mono ?_
              rintro e w4 ⟨yy, rfl, C4⟩
              have K4 := HKA.out.draw C4.2 hpq
              have e41 := K4.1.2.1
              have e4a : (w4.alloc (.cells #[.int .i64 yy] 3)).cell? ⟨q, 1, none⟩ = some (.slice b1 ks.length d1) := (((Below.refl _ w4).alloc (Nat.le_refl _) _).cell (p := ⟨q, 1, none⟩) K4.lt).trans e41
              have Z4 := ZA.draw C4.2 (by omega)
              have C04 := CA.next C4
              go_wp2_with fail
              refine hK3.out _ _ ?_
              clear hK3 K
              try simp only [Act.put, List.setIfInBounds_toArray, List.set_cons_zero, List.set_cons_succ]
              refine wpAny_ready (rs := [1, 5]) (by kernel_rfl) (by simp) ?_
              refine AllReady.cons (i := 1) rfl (fun K hK => ?_) (AllReady.cons (i := 5) rfl (fun K hK => ?_) AllReady.nil)
              · go_simp
                refine hK _ _ ?_
                clear hK K
                try simp only [Act.put, List.setIfInBounds_toArray, List.set_cons_zero, List.set_cons_succ]
                refine wpAny_ready (rs := [5]) (by kernel_rfl) (by simp) ?_
                refine AllReady.cons (i := 5) rfl (fun K hK => ?_) AllReady.nil
                go_simp
                refine hK _ _ ?_
                clear hK K
                try simp only [Act.put, List.setIfInBounds_toArray, List.set_cons_zero, List.set_cons_succ]
                refine wpAny_ready (rs := [6]) (by kernel_rfl) (by simp) ?_
                refine AllReady.cons (i := 6) rfl (fun K hK => ?_) AllReady.nil
                refine step_own_at 53 rfl rfl _ _ 25 rfl (q + 1) 3 j0 (.int .i64 0) 1 8 Tryz.underlying25 hj0 hy0 hy1 hy2 rfl (by decide) (.slice b1 ks.length d1) ks.length (intV ks) rfl (K4.2.2.alloc _) ⟨w4.heap.size, 0, none⟩ 1 1 [.int .i64 yy] rfl rfl (cell_one_new _ _ _) (by intro u hu; simp at hu; subst hu; rfl) (by unfold maxLen; omega) (by omega) (by have := K4.lt; simp; omega) ?_
                intro v' w5 hown' hgrow hloc
                refine hK _ _ ?_
                clear hK K
                obtain ⟨b2, d2, rfl, ⟨k0, f0⟩, K5⟩ := K4.app1 hown' hgrow
                have hb5 := K4.grown3 hgrow
                have Z5 := (Z4.below hb5 (by omega)).set (q := q) (by omega) 1 (.slice b2 (ks ++ [yy]).length d2)
                have C05 := Cu.set (q := q) (Cu.down C04 hb5 (by omega) (by omega)) hWq hpq 1 (.slice b2 (ks ++ [yy]).length d2)
                have hyl : (ks ++ [yy]).length ≤ 16 := by simp; omega
                generalize ks ++ [yy] = ys at K5 Z5 C05 hyl ⊢
                try simp only [Act.put, List.setIfInBounds_toArray, List.set_cons_zero, List.set_cons_succ]
                refine Vw.take_any 7 54 (v := ?_) rfl rfl (by kernel_rfl) (by kernel_rfl) (by kernel_rfl) (fun _ _ _ h => h) (Or.inl ⟨by rfl, ?_⟩) ?_
                rotate_left
                · intro w'; go_simp; try with_reducible rfl
                try simp only [Act.put, List.setIfInBounds_toArray, List.set_cons_zero, List.set_cons_succ]
                refine wpAny_ready (rs := [8]) (by kernel_rfl) (by simp) ?_
                refine AllReady.cons (i := 8) rfl (fun K hK => ?_) AllReady.nil
                go_simp
                refine hK _ _ ?_
                clear hK K
                try simp only [Act.put, List.setIfInBounds_toArray, List.set_cons_zero, List.set_cons_succ]
                refine wpAny_done (by kernel_rfl) ?_ _
                generalize w5.setCell ⟨q, 1, none⟩ (.slice b2 ys.length d2) = w6 at K5 Z5 C05 ⊢
                clear hown' hgrow hloc hb5 e0 e1 ef k0 f0
                have HO9 := show Hid _ from K5.2.1
                have HO3 := show Hid _ from K5.2.2
                have hCC : Hid (Cu p a len cap zs W w6) := C05
                obtain ⟨⟨e0, e1, ef⟩, _, _⟩ := K5
                obtain ⟨z0, z1, zf⟩ := Z5
                have zf0 := zf 0
                have zf1 := zf 1
                clear C05
                obtain ⟨WF, hWF⟩ : ∃ WF, (w6.setCell ⟨r, 0, none⟩ (.slice a1 xs.length c1)).setCell ⟨r, 1, none⟩ (.slice b2 ys.length d2) = WF := ⟨_, rfl⟩
                have y0 : WF.cell? ⟨r, 0, none⟩ = some (.slice a1 xs.length c1) := by rw [← hWF, set_other _ r 1 0 _ (by omega)]; exact set_same w6 r 0 _ _ z0
                have y1 : WF.cell? ⟨r, 1, none⟩ = some (.slice b2 ys.length d2) := by rw [← hWF]; exact set_same _ r 1 _ _ (by rw [set_other w6 r 0 1 _ (by omega)]; exact z1)
                have lr : ∀ o, (⟨r, o, none⟩ : Addr).block < q + 1 := fun _ => by show r < q + 1; omega
                have HF : Hid (KnPost p a len cap zs W (.returned (.agg #[.slice a1 xs.length c1, .slice b2 ys.length d2])) WF) := by
                  rw [← hWF]
                  exact ⟨a1, b2, c1, d2, xs, ys, rfl, own_base (ownsRow_setCell_below (ownsRow_setCell_below HO9.out (lr 0) _) (lr 1) _) (by omega), own_base (ownsRow_setCell_below (ownsRow_setCell_below HO3.out (lr 0) _) (lr 1) _) (by omega), by omega, by omega, HS.out, Cu.set (Cu.set hCC.out (Nat.le_of_eq HR.out) hpr 0 _) (Nat.le_of_eq HR.out) hpr 1 _⟩
                clear HO9 HO3 hCC
                go_wp2
                try rw [hWF]
                refine bodyPost_ret (res_two rfl _ WF r _ _ rfl y0 y1) rfl HF.out
              · go_simp
                refine hK _ _ ?_
                clear hK K
                try simp only [Act.put, List.setIfInBounds_toArray, List.set_cons_zero, List.set_cons_succ]
                refine wpAny_ready (rs := [1]) (by kernel_rfl) (by simp) ?_
                refine AllReady.cons (i := 1) rfl (fun K hK => ?_) AllReady.nil
                go_simp
                refine hK _ _ ?_
                clear hK K
                try simp only [Act.put, List.setIfInBounds_toArray, List.set_cons_zero, List.set_cons_succ]
                refine wpAny_ready (rs := [6]) (by kernel_rfl) (by simp) ?_
                refine AllReady.cons (i := 6) rfl (fun K hK => ?_) AllReady.nil
                refine step_own_at 53 rfl rfl _ _ 25 rfl (q + 1) 3 j0 (.int .i64 0) 1 8 Tryz.underlying25 hj0 hy0 hy1 hy2 rfl (by decide) (.slice b1 ks.length d1) ks.length (intV ks) rfl (K4.2.2.alloc _) ⟨w4.heap.size, 0, none⟩ 1 1 [.int .i64 yy] rfl rfl (cell_one_new _ _ _) (by intro u hu; simp at hu; subst hu; rfl) (by unfold maxLen; omega) (by omega) (by have := K4.lt; simp; omega) ?_
                intro v' w5 hown' hgrow hloc
                refine hK _ _ ?_
                clear hK K
                obtain ⟨b2, d2, rfl, ⟨k0, f0⟩, K5⟩ := K4.app1 hown' hgrow
                have hb5 := K4.grown3 hgrow
                have Z5 := (Z4.below hb5 (by omega)).set (q := q) (by omega) 1 (.slice b2 (ks ++ [yy]).length d2)
                have C05 := Cu.set (q := q) (Cu.down C04 hb5 (by omega) (by omega)) hWq hpq 1 (.slice b2 (ks ++ [yy]).length d2)
                have hyl : (ks ++ [yy]).length ≤ 16 := by simp; omega
                generalize ks ++ [yy] = ys at K5 Z5 C05 hyl ⊢
                try simp only [Act.put, List.setIfInBounds_toArray, List.set_cons_zero, List.set_cons_succ]
                refine Vw.take_any 7 54 (v := ?_) rfl rfl (by kernel_rfl) (by kernel_rfl) (by kernel_rfl) (fun _ _ _ h => h) (Or.inl ⟨by rfl, ?_⟩) ?_
                rotate_left
                · intro w'; go_simp; try with_reducible rfl
                try simp only [Act.put, List.setIfInBounds_toArray, List.set_cons_zero, List.set_cons_succ]
                refine wpAny_ready (rs := [8]) (by kernel_rfl) (by simp) ?_
                refine AllReady.cons (i := 8) rfl (fun K hK => ?_) AllReady.nil
                go_simp
                refine hK _ _ ?_
                clear hK K
                try simp only [Act.put, List.setIfInBounds_toArray, List.set_cons_zero, List.set_cons_succ]
                refine wpAny_done (by kernel_rfl) ?_ _
                generalize w5.setCell ⟨q, 1, none⟩ (.slice b2 ys.length d2) = w6 at K5 Z5 C05 ⊢
                clear hown' hgrow hloc hb5 e0 e1 ef k0 f0
                have HO9 := show Hid _ from K5.2.1
                have HO3 := show Hid _ from K5.2.2
                have hCC : Hid (Cu p a len cap zs W w6) := C05
                obtain ⟨⟨e0, e1, ef⟩, _, _⟩ := K5
                obtain ⟨z0, z1, zf⟩ := Z5
                have zf0 := zf 0
                have zf1 := zf 1
                clear C05
                obtain ⟨WF, hWF⟩ : ∃ WF, (w6.setCell ⟨r, 0, none⟩ (.slice a1 xs.length c1)).setCell ⟨r, 1, none⟩ (.slice b2 ys.length d2) = WF := ⟨_, rfl⟩
                have y0 : WF.cell? ⟨r, 0, none⟩ = some (.slice a1 xs.length c1) := by rw [← hWF, set_other _ r 1 0 _ (by omega)]; exact set_same w6 r 0 _ _ z0
                have y1 : WF.cell? ⟨r, 1, none⟩ = some (.slice b2 ys.length d2) := by rw [← hWF]; exact set_same _ r 1 _ _ (by rw [set_other w6 r 0 1 _ (by omega)]; exact z1)
                have lr : ∀ o, (⟨r, o, none⟩ : Addr).block < q + 1 := fun _ => by show r < q + 1; omega
                have HF : Hid (KnPost p a len cap zs W (.returned (.agg #[.slice a1 xs.length c1, .slice b2 ys.length d2])) WF) := by
                  rw [← hWF]
                  exact ⟨a1, b2, c1, d2, xs, ys, rfl, own_base (ownsRow_setCell_below (ownsRow_setCell_below HO9.out (lr 0) _) (lr 1) _) (by omega), own_base (ownsRow_setCell_below (ownsRow_setCell_below HO3.out (lr 0) _) (lr 1) _) (by omega), by omega, by omega, HS.out, Cu.set (Cu.set hCC.out (Nat.le_of_eq HR.out) hpr 0 _) (Nat.le_of_eq HR.out) hpr 1 _⟩
                clear HO9 HO3 hCC
                go_wp2
                try rw [hWF]
                refine bodyPost_ret (res_two rfl _ WF r _ _ rfl y0 y1) rfl HF.out
        ·
          have HK3 : Hid (KP q a1 b1 c1 d1 xs ks w3) := K3
          obtain ⟨⟨e0, e1, ef⟩, _, _⟩ := K3
          go_wp2_with fail
          refine wp_region_any (by kernel_rfl) ?_
          show wpAny _ _ _ _ _ _ _ w3.drew
          refine Vw.take_any 0 57 (v := ?_) rfl rfl (by kernel_rfl) (by kernel_rfl) (by kernel_rfl) (fun _ _ _ h => h) (Or.inl ⟨by rfl, ?_⟩) ?_
          rotate_left
          · intro w'; go_simp; try with_reducible rfl
          try simp only [Act.put, List.setIfInBounds_toArray, List.set_cons_zero, List.set_cons_succ]
          refine Vw.take_any 2 59 (v := ?_) rfl rfl (by kernel_rfl) (by kernel_rfl) (by kernel_rfl) (fun _ _ _ h => h) (Or.inl ⟨by rfl, ?_⟩) ?_
          rotate_left
          · intro w'; go_simp; try with_reducible rfl
          try simp only [Act.put, List.setIfInBounds_toArray, List.set_cons_zero, List.set_cons_succ]
          refine wpAny_ready (rs := [1, 3]) (by kernel_rfl) (by simp) ?_
          refine AllReady.cons (i := 1) rfl (fun K hK => ?_) (AllReady.cons (i := 3) rfl (fun K hK => ?_) AllReady.nil)
          · go_simp
            refine hK _ _ ?_
            clear hK K
            try simp only [Act.put, List.setIfInBounds_toArray, List.set_cons_zero, List.set_cons_succ]
            refine wpAny_ready (rs := [3]) (by kernel_rfl) (by simp) ?_
            refine AllReady.cons (i := 3) rfl (fun K hK => ?_) AllReady.nil
            have hK3 : Shut _ := hK
            clear hK
            go_simp
            refine (anyW p a len cap zs w3.drew C03.drew.here).mono ?_
            rintro e w4 ⟨tt, rfl, htt, C4⟩
            have K4 := HK3.out.drew.draw C4.2 hpq
            have e40 := K4.1.1
            have e4a : (w4.alloc (.cells #[.string tt] 9)).cell? ⟨q, 0, none⟩ = some (.slice a1 xs.length c1) := (((Below.refl _ w4).alloc (Nat.le_refl _) _).cell (p := ⟨q, 0, none⟩) K4.lt).trans e40
            have Z4 := (Z3.below (Below.drew (Below.refl _ _)) Z3.lt).draw C4.2 (by omega)
            have C04 := C03.drew.next C4
            go_wp2_with fail
            refine hK3.out _ _ ?_
            clear hK3 K
            try simp only [Act.put, List.setIfInBounds_toArray, List.set_cons_zero, List.set_cons_succ]
            refine wpAny_ready (rs := [4]) (by kernel_rfl) (by simp) ?_
            refine AllReady.cons (i := 4) rfl (fun K hK => ?_) AllReady.nil
            go_simp
            refine hK _ _ ?_
            clear hK K
            try simp only [Act.put, List.setIfInBounds_toArray, List.set_cons_zero, List.set_cons_succ]
            refine wpAny_ready (rs := [5]) (by kernel_rfl) (by simp) ?_
            refine AllReady.cons (i := 5) rfl (fun K hK => ?_) AllReady.nil
            refine step_own_at 62 rfl rfl _ _ 24 rfl (q + 1) 9 i0 (.string ⟨#[]⟩) 1 16 Tryz.underlying24 hi hz0 hz1 hz2 rfl (by decide) (.slice a1 xs.length c1) xs.length (strV xs) rfl (K4.2.1.alloc _) ⟨w4.heap.size, 0, none⟩ 1 1 [.string tt] rfl rfl (cell_one_new _ _ _) (by intro u hu; simp at hu; subst hu; rfl) (by unfold maxLen; omega) (by omega) (by have := K4.lt; simp; omega) ?_
            intro v' w5 hown' hgrow hloc
            refine hK _ _ ?_
            clear hK K
            obtain ⟨a2, c2, rfl, ⟨k0, f0⟩, K5⟩ := K4.app0 hown' hgrow
            have hb5 := K4.grown9 hgrow
            have Z5 := (Z4.below hb5 (by omega)).set (q := q) (by omega) 0 (.slice a2 (xs ++ [tt]).length c2)
            have C05 := Cu.set (q := q) (Cu.down C04 hb5 (by omega) (by omega)) hWq hpq 0 (.slice a2 (xs ++ [tt]).length c2)
            have HS5 : Hid (∀ x ∈ xs ++ [tt], x.size ≤ 930) := sizes_snoc HS.out htt
            have hyl : (xs ++ [tt]).length ≤ 16 := by simp; omega
            generalize xs ++ [tt] = ys at K5 Z5 C05 HS5 hyl ⊢
            try simp only [Act.put, List.setIfInBounds_toArray, List.set_cons_zero, List.set_cons_succ]
            refine Vw.take_any 6 63 (v := ?_) rfl rfl (by kernel_rfl) (by kernel_rfl) (by kernel_rfl) (fun _ _ _ h => h) (Or.inl ⟨by rfl, ?_⟩) ?_
            rotate_left
            · intro w'; go_simp; try with_reducible rfl
            try simp only [Act.put, List.setIfInBounds_toArray, List.set_cons_zero, List.set_cons_succ]
            refine wpAny_ready (rs := [7]) (by kernel_rfl) (by simp) ?_
            refine AllReady.cons (i := 7) rfl (fun K hK => ?_) AllReady.nil
            go_simp
            refine hK _ _ ?_
            clear hK K
            try simp only [Act.put, List.setIfInBounds_toArray, List.set_cons_zero, List.set_cons_succ]
            refine wpAny_done (by kernel_rfl) ?_ _
            generalize w5.setCell ⟨q, 0, none⟩ (.slice a2 ys.length c2) = w6 at K5 Z5 C05 ⊢
            clear hown' hgrow hloc hb5 e0 e1 ef k0 f0
            have HO9 := show Hid _ from K5.2.1
            have HO3 := show Hid _ from K5.2.2
            have hCC : Hid (Cu p a len cap zs W w6) := C05
            obtain ⟨⟨e0, e1, ef⟩, _, _⟩ := K5
            obtain ⟨z0, z1, zf⟩ := Z5
            have zf0 := zf 0
            have zf1 := zf 1
            clear C05
            obtain ⟨WF, hWF⟩ : ∃ WF, (w6.setCell ⟨r, 0, none⟩ (.slice a2 ys.length c2)).setCell ⟨r, 1, none⟩ (.slice b1 ks.length d1) = WF := ⟨_, rfl⟩
            have y0 : WF.cell? ⟨r, 0, none⟩ = some (.slice a2 ys.length c2) := by rw [← hWF, set_other _ r 1 0 _ (by omega)]; exact set_same w6 r 0 _ _ z0
            have y1 : WF.cell? ⟨r, 1, none⟩ = some (.slice b1 ks.length d1) := by rw [← hWF]; exact set_same _ r 1 _ _ (by rw [set_other w6 r 0 1 _ (by omega)]; exact z1)
            have lr : ∀ o, (⟨r, o, none⟩ : Addr).block < q + 1 := fun _ => by show r < q + 1; omega
            have HF : Hid (KnPost p a len cap zs W (.returned (.agg #[.slice a2 ys.length c2, .slice b1 ks.length d1])) WF) := by
              rw [← hWF]
              exact ⟨a2, b1, c2, d1, ys, ks, rfl, own_base (ownsRow_setCell_below (ownsRow_setCell_below HO9.out (lr 0) _) (lr 1) _) (by omega), own_base (ownsRow_setCell_below (ownsRow_setCell_below HO3.out (lr 0) _) (lr 1) _) (by omega), by omega, by omega, HS5.out, Cu.set (Cu.set hCC.out (Nat.le_of_eq HR.out) hpr 0 _) (Nat.le_of_eq HR.out) hpr 1 _⟩
            clear HO9 HO3 hCC
            go_wp2
            try rw [hWF]
            refine bodyPost_ret (res_two rfl _ WF r _ _ rfl y0 y1) rfl HF.out
          · have hK3 : Shut _ := hK
            clear hK
            go_simp
            refine (anyW p a len cap zs w3.drew C03.drew.here).mono ?_
            rintro e w4 ⟨tt, rfl, htt, C4⟩
            have K4 := HK3.out.drew.draw C4.2 hpq
            have e40 := K4.1.1
            have e4a : (w4.alloc (.cells #[.string tt] 9)).cell? ⟨q, 0, none⟩ = some (.slice a1 xs.length c1) := (((Below.refl _ w4).alloc (Nat.le_refl _) _).cell (p := ⟨q, 0, none⟩) K4.lt).trans e40
            have Z4 := (Z3.below (Below.drew (Below.refl _ _)) Z3.lt).draw C4.2 (by omega)
            have C04 := C03.drew.next C4
            go_wp2_with fail
            refine hK3.out _ _ ?_
            clear hK3 K
            try simp only [Act.put, List.setIfInBounds_toArray, List.set_cons_zero, List.set_cons_succ]
            refine wpAny_ready (rs := [1, 4]) (by kernel_rfl) (by simp) ?_
            refine AllReady.cons (i := 1) rfl (fun K hK => ?_) (AllReady.cons (i := 4) rfl (fun K hK => ?_) AllReady.nil)
            · go_simp
              refine hK _ _ ?_
              clear hK K
              try simp only [Act.put, List.setIfInBounds_toArray, List.set_cons_zero, List.set_cons_succ]
              refine wpAny_ready (rs := [4]) (by kernel_rfl) (by simp) ?_
              refine AllReady.cons (i := 4) rfl (fun K hK => ?_) AllReady.nil
              go_simp
              refine hK _ _ ?_
              clear hK K
              try simp only [Act.put, List.setIfInBounds_toArray, List.set_cons_zero, List.set_cons_succ]
              refine wpAny_ready (rs := [5]) (by kernel_rfl) (by simp) ?_
              refine AllReady.cons (i := 5) rfl (fun K hK => ?_) AllReady.nil
              refine step_own_at 62 rfl rfl _ _ 24 rfl (q + 1) 9 i0 (.string ⟨#[]⟩) 1 16 Tryz.underlying24 hi hz0 hz1 hz2 rfl (by decide) (.slice a1 xs.length c1) xs.length (strV xs) rfl (K4.2.1.alloc _) ⟨w4.heap.size, 0, none⟩ 1 1 [.string tt] rfl rfl (cell_one_new _ _ _) (by intro u hu; simp at hu; subst hu; rfl) (by unfold maxLen; omega) (by omega) (by have := K4.lt; simp; omega) ?_
              intro v' w5 hown' hgrow hloc
              refine hK _ _ ?_
              clear hK K
              obtain ⟨a2, c2, rfl, ⟨k0, f0⟩, K5⟩ := K4.app0 hown' hgrow
              have hb5 := K4.grown9 hgrow
              have Z5 := (Z4.below hb5 (by omega)).set (q := q) (by omega) 0 (.slice a2 (xs ++ [tt]).length c2)
              have C05 := Cu.set (q := q) (Cu.down C04 hb5 (by omega) (by omega)) hWq hpq 0 (.slice a2 (xs ++ [tt]).length c2)
              have HS5 : Hid (∀ x ∈ xs ++ [tt], x.size ≤ 930) := sizes_snoc HS.out htt
              have hyl : (xs ++ [tt]).length ≤ 16 := by simp; omega
              generalize xs ++ [tt] = ys at K5 Z5 C05 HS5 hyl ⊢
              try simp only [Act.put, List.setIfInBounds_toArray, List.set_cons_zero, List.set_cons_succ]
              refine Vw.take_any 6 63 (v := ?_) rfl rfl (by kernel_rfl) (by kernel_rfl) (by kernel_rfl) (fun _ _ _ h => h) (Or.inl ⟨by rfl, ?_⟩) ?_
              rotate_left
              · intro w'; go_simp; try with_reducible rfl
              try simp only [Act.put, List.setIfInBounds_toArray, List.set_cons_zero, List.set_cons_succ]
              refine wpAny_ready (rs := [7]) (by kernel_rfl) (by simp) ?_
              refine AllReady.cons (i := 7) rfl (fun K hK => ?_) AllReady.nil
              go_simp
              refine hK _ _ ?_
              clear hK K
              try simp only [Act.put, List.setIfInBounds_toArray, List.set_cons_zero, List.set_cons_succ]
              refine wpAny_done (by kernel_rfl) ?_ _
              generalize w5.setCell ⟨q, 0, none⟩ (.slice a2 ys.length c2) = w6 at K5 Z5 C05 ⊢
              clear hown' hgrow hloc hb5 e0 e1 ef k0 f0
              have HO9 := show Hid _ from K5.2.1
              have HO3 := show Hid _ from K5.2.2
              have hCC : Hid (Cu p a len cap zs W w6) := C05
              obtain ⟨⟨e0, e1, ef⟩, _, _⟩ := K5
              obtain ⟨z0, z1, zf⟩ := Z5
              have zf0 := zf 0
              have zf1 := zf 1
              clear C05
              obtain ⟨WF, hWF⟩ : ∃ WF, (w6.setCell ⟨r, 0, none⟩ (.slice a2 ys.length c2)).setCell ⟨r, 1, none⟩ (.slice b1 ks.length d1) = WF := ⟨_, rfl⟩
              have y0 : WF.cell? ⟨r, 0, none⟩ = some (.slice a2 ys.length c2) := by rw [← hWF, set_other _ r 1 0 _ (by omega)]; exact set_same w6 r 0 _ _ z0
              have y1 : WF.cell? ⟨r, 1, none⟩ = some (.slice b1 ks.length d1) := by rw [← hWF]; exact set_same _ r 1 _ _ (by rw [set_other w6 r 0 1 _ (by omega)]; exact z1)
              have lr : ∀ o, (⟨r, o, none⟩ : Addr).block < q + 1 := fun _ => by show r < q + 1; omega
              have HF : Hid (KnPost p a len cap zs W (.returned (.agg #[.slice a2 ys.length c2, .slice b1 ks.length d1])) WF) := by
                rw [← hWF]
                exact ⟨a2, b1, c2, d1, ys, ks, rfl, own_base (ownsRow_setCell_below (ownsRow_setCell_below HO9.out (lr 0) _) (lr 1) _) (by omega), own_base (ownsRow_setCell_below (ownsRow_setCell_below HO3.out (lr 0) _) (lr 1) _) (by omega), by omega, by omega, HS5.out, Cu.set (Cu.set hCC.out (Nat.le_of_eq HR.out) hpr 0 _) (Nat.le_of_eq HR.out) hpr 1 _⟩
              clear HO9 HO3 hCC
              go_wp2
              try rw [hWF]
              refine bodyPost_ret (res_two rfl _ WF r _ _ rfl y0 y1) rfl HF.out
            · go_simp
              refine hK _ _ ?_
              clear hK K
              try simp only [Act.put, List.setIfInBounds_toArray, List.set_cons_zero, List.set_cons_succ]
              refine wpAny_ready (rs := [1]) (by kernel_rfl) (by simp) ?_
              refine AllReady.cons (i := 1) rfl (fun K hK => ?_) AllReady.nil
              go_simp
              refine hK _ _ ?_
              clear hK K
              try simp only [Act.put, List.setIfInBounds_toArray, List.set_cons_zero, List.set_cons_succ]
              refine wpAny_ready (rs := [5]) (by kernel_rfl) (by simp) ?_
              refine AllReady.cons (i := 5) rfl (fun K hK => ?_) AllReady.nil
              refine step_own_at 62 rfl rfl _ _ 24 rfl (q + 1) 9 i0 (.string ⟨#[]⟩) 1 16 Tryz.underlying24 hi hz0 hz1 hz2 rfl (by decide) (.slice a1 xs.length c1) xs.length (strV xs) rfl (K4.2.1.alloc _) ⟨w4.heap.size, 0, none⟩ 1 1 [.string tt] rfl rfl (cell_one_new _ _ _) (by intro u hu; simp at hu; subst hu; rfl) (by unfold maxLen; omega) (by omega) (by have := K4.lt; simp; omega) ?_
              intro v' w5 hown' hgrow hloc
              refine hK _ _ ?_
              clear hK K
              obtain ⟨a2, c2, rfl, ⟨k0, f0⟩, K5⟩ := K4.app0 hown' hgrow
              have hb5 := K4.grown9 hgrow
              have Z5 := (Z4.below hb5 (by omega)).set (q := q) (by omega) 0 (.slice a2 (xs ++ [tt]).length c2)
              have C05 := Cu.set (q := q) (Cu.down C04 hb5 (by omega) (by omega)) hWq hpq 0 (.slice a2 (xs ++ [tt]).length c2)
              have HS5 : Hid (∀ x ∈ xs ++ [tt], x.size ≤ 930) := sizes_snoc HS.out htt
              have hyl : (xs ++ [tt]).length ≤ 16 := by simp; omega
              generalize xs ++ [tt] = ys at K5 Z5 C05 HS5 hyl ⊢
              try simp only [Act.put, List.setIfInBounds_toArray, List.set_cons_zero, List.set_cons_succ]
              refine Vw.take_any 6 63 (v := ?_) rfl rfl (by kernel_rfl) (by kernel_rfl) (by kernel_rfl) (fun _ _ _ h => h) (Or.inl ⟨by rfl, ?_⟩) ?_
              rotate_left
              · intro w'; go_simp; try with_reducible rfl
              try simp only [Act.put, List.setIfInBounds_toArray, List.set_cons_zero, List.set_cons_succ]
              refine wpAny_ready (rs := [7]) (by kernel_rfl) (by simp) ?_
              refine AllReady.cons (i := 7) rfl (fun K hK => ?_) AllReady.nil
              go_simp
              refine hK _ _ ?_
              clear hK K
              try simp only [Act.put, List.setIfInBounds_toArray, List.set_cons_zero, List.set_cons_succ]
              refine wpAny_done (by kernel_rfl) ?_ _
              generalize w5.setCell ⟨q, 0, none⟩ (.slice a2 ys.length c2) = w6 at K5 Z5 C05 ⊢
              clear hown' hgrow hloc hb5 e0 e1 ef k0 f0
              have HO9 := show Hid _ from K5.2.1
              have HO3 := show Hid _ from K5.2.2
              have hCC : Hid (Cu p a len cap zs W w6) := C05
              obtain ⟨⟨e0, e1, ef⟩, _, _⟩ := K5
              obtain ⟨z0, z1, zf⟩ := Z5
              have zf0 := zf 0
              have zf1 := zf 1
              clear C05
              obtain ⟨WF, hWF⟩ : ∃ WF, (w6.setCell ⟨r, 0, none⟩ (.slice a2 ys.length c2)).setCell ⟨r, 1, none⟩ (.slice b1 ks.length d1) = WF := ⟨_, rfl⟩
              have y0 : WF.cell? ⟨r, 0, none⟩ = some (.slice a2 ys.length c2) := by rw [← hWF, set_other _ r 1 0 _ (by omega)]; exact set_same w6 r 0 _ _ z0
              have y1 : WF.cell? ⟨r, 1, none⟩ = some (.slice b1 ks.length d1) := by rw [← hWF]; exact set_same _ r 1 _ _ (by rw [set_other w6 r 0 1 _ (by omega)]; exact z1)
              have lr : ∀ o, (⟨r, o, none⟩ : Addr).block < q + 1 := fun _ => by show r < q + 1; omega
              have HF : Hid (KnPost p a len cap zs W (.returned (.agg #[.slice a2 ys.length c2, .slice b1 ks.length d1])) WF) := by
                rw [← hWF]
                exact ⟨a2, b1, c2, d1, ys, ks, rfl, own_base (ownsRow_setCell_below (ownsRow_setCell_below HO9.out (lr 0) _) (lr 1) _) (by omega), own_base (ownsRow_setCell_below (ownsRow_setCell_below HO3.out (lr 0) _) (lr 1) _) (by omega), by omega, by omega, HS5.out, Cu.set (Cu.set hCC.out (Nat.le_of_eq HR.out) hpr 0 _) (Nat.le_of_eq HR.out) hpr 1 _⟩
              clear HO9 HO3 hCC
              go_wp2
              try rw [hWF]
              refine bodyPost_ret (res_two rfl _ WF r _ _ rfl y0 y1) rfl HF.out
        · by_cases hx0 : xs.length = 0
          · have hxd : decide ((xs.length : Int) > 0) = false := by simp [hx0]
            have hxn : ¬ (xs.length : Int) > 0 := by omega
            have hxm : ¬ 0 < xs.length := by omega
            clear hx0
            have HO9 := show Hid _ from K3.2.1
            have HO3 := show Hid _ from K3.2.2
            have hCC : Hid (Cu p a len cap zs W w3) := C03
            obtain ⟨⟨e0, e1, ef⟩, _, _⟩ := K3
            obtain ⟨z0, z1, zf⟩ := Z3
            have zf0 := zf 0
            have zf1 := zf 1
            clear C03
            obtain ⟨WF, hWF⟩ : ∃ WF, (w3.setCell ⟨r, 0, none⟩ (.slice a1 xs.length c1)).setCell ⟨r, 1, none⟩ (.slice b1 ks.length d1) = WF := ⟨_, rfl⟩
            have y0 : WF.cell? ⟨r, 0, none⟩ = some (.slice a1 xs.length c1) := by rw [← hWF, set_other _ r 1 0 _ (by omega)]; exact set_same w3 r 0 _ _ z0
            have y1 : WF.cell? ⟨r, 1, none⟩ = some (.slice b1 ks.length d1) := by rw [← hWF]; exact set_same _ r 1 _ _ (by rw [set_other w3 r 0 1 _ (by omega)]; exact z1)
            have lr : ∀ o, (⟨r, o, none⟩ : Addr).block < q + 1 := fun _ => by show r < q + 1; omega
            have HF : Hid (KnPost p a len cap zs W (.returned (.agg #[.slice a1 xs.length c1, .slice b1 ks.length d1])) WF) := by
              rw [← hWF]
              exact ⟨a1, b1, c1, d1, xs, ks, rfl, own_base (ownsRow_setCell_below (ownsRow_setCell_below HO9.out (lr 0) _) (lr 1) _) (by omega), own_base (ownsRow_setCell_below (ownsRow_setCell_below HO3.out (lr 0) _) (lr 1) _) (by omega), by omega, by omega, HS.out, Cu.set (Cu.set hCC.out (Nat.le_of_eq HR.out) hpr 0 _) (Nat.le_of_eq HR.out) hpr 1 _⟩
            clear HO9 HO3 hCC
            go_wp2
            try rw [hWF]
            refine bodyPost_ret (res_two rfl _ WF r _ _ rfl y0 y1) rfl HF.out
          ·
            have HK3 : Hid (KP q a1 b1 c1 d1 xs ks w3) := K3
            obtain ⟨⟨e0, e1, ef⟩, _, _⟩ := K3
            obtain ⟨tb, to, ha1, hbl, hcell⟩ := row_own9 HK3.out.2.1 0 (by omega)
            have hcell' : w3.cell? ⟨tb, to, none⟩ = some (.string (xs[0]'(by omega))) := hcell
            have ht0 : (xs[0]'(by omega)).size ≤ 930 := HS.out _ (List.getElem_mem _)
            generalize xs[0]'(by omega) = t0 at hcell' ht0
            have hx1 : (0 : Int) < (xs.length : Int) := by omega
            have hx2 : 0 < xs.length := by omega
            have hxd : decide ((xs.length : Int) > 0) = true := by simpa using hx1
            have e0a : (w3.alloc (.cells #[.string t0] 9)).cell? ⟨q, 0, none⟩ = some (.slice a1 xs.length c1) := (((Below.refl _ w3).alloc (Nat.le_refl _) _).cell (p := ⟨q, 0, none⟩) HK3.out.lt).trans e0
            subst ha1
            clear hcell hx0
            go_wp2_with fail
            refine wp_region_any (by kernel_rfl) ?_
            show wpAny _ _ _ _ _ _ _ w3.drew
            refine Vw.take_any 0 36 (v := ?_) rfl rfl (by kernel_rfl) (by kernel_rfl) (by kernel_rfl) (fun _ _ _ h => h) (Or.inl ⟨by rfl, ?_⟩) ?_
            rotate_left
            · intro w'; go_simp; try with_reducible rfl
            try simp only [Act.put, List.setIfInBounds_toArray, List.set_cons_zero, List.set_cons_succ]
            refine Vw.take_any 2 38 (v := ?_) rfl rfl (by kernel_rfl) (by kernel_rfl) (by kernel_rfl) (fun _ _ _ h => h) (Or.inl ⟨by rfl, ?_⟩) ?_
            rotate_left
            · intro w'; go_simp; try with_reducible rfl
            try simp only [Act.put, List.setIfInBounds_toArray, List.set_cons_zero, List.set_cons_succ]
            refine wpAny_ready (rs := [1, 3]) (by kernel_rfl) (by simp) ?_
            refine AllReady.cons (i := 1) rfl (fun K hK => ?_) (AllReady.cons (i := 3) rfl (fun K hK => ?_) AllReady.nil)
            · go_simp
              refine hK _ _ ?_
              clear hK K
              try simp only [Act.put, List.setIfInBounds_toArray, List.set_cons_zero, List.set_cons_succ]
              refine wpAny_ready (rs := [3]) (by kernel_rfl) (by simp) ?_
              refine AllReady.cons (i := 3) rfl (fun K hK => ?_) AllReady.nil
              go_simp
              refine hK _ _ ?_
              clear hK K
              try simp only [Act.put, List.setIfInBounds_toArray, List.set_cons_zero, List.set_cons_succ]
              refine Vw.take_any 4 40 (v := ?_) rfl rfl (by kernel_rfl) (by kernel_rfl) (by kernel_rfl) (fun _ _ _ h => h) (Or.inl ⟨by rfl, ?_⟩) ?_
              rotate_left
              · intro w'; go_simp; try with_reducible rfl
              try simp only [Act.put, List.setIfInBounds_toArray, List.set_cons_zero, List.set_cons_succ]
              refine wpAny_ready (rs := [5]) (by kernel_rfl) (by simp) ?_
              refine AllReady.cons (i := 5) rfl (fun K hK => ?_) AllReady.nil
              go_simp
              refine hK _ _ ?_
              clear hK K
              try simp only [Act.put, List.setIfInBounds_toArray, List.set_cons_zero, List.set_cons_succ]
              refine wpAny_ready (rs := [6]) (by kernel_rfl) (by simp) ?_
              refine AllReady.cons (i := 6) rfl (fun K hK => ?_) AllReady.nil
              go_simp
              refine hK _ _ ?_
              clear hK K
              try simp only [Act.put, List.setIfInBounds_toArray, List.set_cons_zero, List.set_cons_succ]
              refine wpAny_ready (rs := [7]) (by kernel_rfl) (by simp) ?_
              refine AllReady.cons (i := 7) rfl (fun K hK => ?_) AllReady.nil
              refine step_own_at 43 rfl rfl _ _ 24 rfl (q + 1) 9 i0 (.string ⟨#[]⟩) 1 16 Tryz.underlying24 hi hz0 hz1 hz2 rfl (by decide) (.slice (some ⟨tb, to, none⟩) xs.length c1) xs.length (strV xs) rfl (HK3.out.drew.2.1.alloc _) ⟨w3.drew.heap.size, 0, none⟩ 1 1 [.string t0] rfl rfl (cell_one_new _ _ _) (by intro u hu; simp at hu; subst hu; rfl) (by unfold maxLen; omega) (by omega) (by have := HK3.out.lt; simp; omega) ?_
              intro v' w5 hown' hgrow hloc
              refine hK _ _ ?_
              clear hK K
              obtain ⟨a2, c2, rfl, ⟨k0, f0⟩, K5⟩ := HK3.out.drew.app0 hown' hgrow
              have hb5 := HK3.out.drew.grown9 hgrow
              have Z5 := ((Z3.below (Below.drew (Below.refl _ _)) Z3.lt).below hb5 (by omega)).set (q := q) (by omega) 0 (.slice a2 (xs ++ [t0]).length c2)
              have C05 := Cu.set (q := q) (Cu.down C03.drew hb5 (by omega) (by omega)) hWq hpq 0 (.slice a2 (xs ++ [t0]).length c2)
              have HS5 : Hid (∀ x ∈ xs ++ [t0], x.size ≤ 930) := sizes_snoc HS.out ht0
              have hyl : (xs ++ [t0]).length ≤ 16 := by simp; omega
              generalize xs ++ [t0] = ys at K5 Z5 C05 HS5 hyl ⊢
              try simp only [Act.put, List.setIfInBounds_toArray, List.set_cons_zero, List.set_cons_succ]
              refine Vw.take_any 8 44 (v := ?_) rfl rfl (by kernel_rfl) (by kernel_rfl) (by kernel_rfl) (fun _ _ _ h => h) (Or.inl ⟨by rfl, ?_⟩) ?_
              rotate_left
              · intro w'; go_simp; try with_reducible rfl
              try simp only [Act.put, List.setIfInBounds_toArray, List.set_cons_zero, List.set_cons_succ]
              refine wpAny_ready (rs := [9]) (by kernel_rfl) (by simp) ?_
              refine AllReady.cons (i := 9) rfl (fun K hK => ?_) AllReady.nil
              go_simp
              refine hK _ _ ?_
              clear hK K
              try simp only [Act.put, List.setIfInBounds_toArray, List.set_cons_zero, List.set_cons_succ]
              refine wpAny_done (by kernel_rfl) ?_ _
              generalize w5.setCell ⟨q, 0, none⟩ (.slice a2 ys.length c2) = w6 at K5 Z5 C05 ⊢
              clear hown' hgrow hloc hb5 e0 e1 ef k0 f0
              have HO9 := show Hid _ from K5.2.1
              have HO3 := show Hid _ from K5.2.2
              have hCC : Hid (Cu p a len cap zs W w6) := C05
              obtain ⟨⟨e0, e1, ef⟩, _, _⟩ := K5
              obtain ⟨z0, z1, zf⟩ := Z5
              have zf0 := zf 0
              have zf1 := zf 1
              clear C05
              obtain ⟨WF, hWF⟩ : ∃ WF, (w6.setCell ⟨r, 0, none⟩ (.slice a2 ys.length c2)).setCell ⟨r, 1, none⟩ (.slice b1 ks.length d1) = WF := ⟨_, rfl⟩
              have y0 : WF.cell? ⟨r, 0, none⟩ = some (.slice a2 ys.length c2) := by rw [← hWF, set_other _ r 1 0 _ (by omega)]; exact set_same w6 r 0 _ _ z0
              have y1 : WF.cell? ⟨r, 1, none⟩ = some (.slice b1 ks.length d1) := by rw [← hWF]; exact set_same _ r 1 _ _ (by rw [set_other w6 r 0 1 _ (by omega)]; exact z1)
              have lr : ∀ o, (⟨r, o, none⟩ : Addr).block < q + 1 := fun _ => by show r < q + 1; omega
              have HF : Hid (KnPost p a len cap zs W (.returned (.agg #[.slice a2 ys.length c2, .slice b1 ks.length d1])) WF) := by
                rw [← hWF]
                exact ⟨a2, b1, c2, d1, ys, ks, rfl, own_base (ownsRow_setCell_below (ownsRow_setCell_below HO9.out (lr 0) _) (lr 1) _) (by omega), own_base (ownsRow_setCell_below (ownsRow_setCell_below HO3.out (lr 0) _) (lr 1) _) (by omega), by omega, by omega, HS5.out, Cu.set (Cu.set hCC.out (Nat.le_of_eq HR.out) hpr 0 _) (Nat.le_of_eq HR.out) hpr 1 _⟩
              clear HO9 HO3 hCC
              go_wp2
              try rw [hWF]
              refine bodyPost_ret (res_two rfl _ WF r _ _ rfl y0 y1) rfl HF.out
            · go_simp
              refine hK _ _ ?_
              clear hK K
              try simp only [Act.put, List.setIfInBounds_toArray, List.set_cons_zero, List.set_cons_succ]
              refine Vw.take_any 4 40 (v := ?_) rfl rfl (by kernel_rfl) (by kernel_rfl) (by kernel_rfl) (fun _ _ _ h => h) (Or.inl ⟨by rfl, ?_⟩) ?_
              rotate_left
              · intro w'; go_simp; try with_reducible rfl
              try simp only [Act.put, List.setIfInBounds_toArray, List.set_cons_zero, List.set_cons_succ]
              refine wpAny_ready (rs := [1, 5]) (by kernel_rfl) (by simp) ?_
              refine AllReady.cons (i := 1) rfl (fun K hK => ?_) (AllReady.cons (i := 5) rfl (fun K hK => ?_) AllReady.nil)
              · go_simp
                refine hK _ _ ?_
                clear hK K
                try simp only [Act.put, List.setIfInBounds_toArray, List.set_cons_zero, List.set_cons_succ]
                refine wpAny_ready (rs := [5]) (by kernel_rfl) (by simp) ?_
                refine AllReady.cons (i := 5) rfl (fun K hK => ?_) AllReady.nil
                go_simp
                refine hK _ _ ?_
                clear hK K
                try simp only [Act.put, List.setIfInBounds_toArray, List.set_cons_zero, List.set_cons_succ]
                refine wpAny_ready (rs := [6]) (by kernel_rfl) (by simp) ?_
                refine AllReady.cons (i := 6) rfl (fun K hK => ?_) AllReady.nil
                go_simp
                refine hK _ _ ?_
                clear hK K
                try simp only [Act.put, List.setIfInBounds_toArray, List.set_cons_zero, List.set_cons_succ]
                refine wpAny_ready (rs := [7]) (by kernel_rfl) (by simp) ?_
                refine AllReady.cons (i := 7) rfl (fun K hK => ?_) AllReady.nil
                refine step_own_at 43 rfl rfl _ _ 24 rfl (q + 1) 9 i0 (.string ⟨#[]⟩) 1 16 Tryz.underlying24 hi hz0 hz1 hz2 rfl (by decide) (.slice (some ⟨tb, to, none⟩) xs.length c1) xs.length (strV xs) rfl (HK3.out.drew.2.1.alloc _) ⟨w3.drew.heap.size, 0, none⟩ 1 1 [.string t0] rfl rfl (cell_one_new _ _ _) (by intro u hu; simp at hu; subst hu; rfl) (by unfold maxLen; omega) (by omega) (by have := HK3.out.lt; simp; omega) ?_
                intro v' w5 hown' hgrow hloc
                refine hK _ _ ?_
                clear hK K
                obtain ⟨a2, c2, rfl, ⟨k0, f0⟩, K5⟩ := HK3.out.drew.app0 hown' hgrow
                have hb5 := HK3.out.drew.grown9 hgrow
                have Z5 := ((Z3.below (Below.drew (Below.refl _ _)) Z3.lt).below hb5 (by omega)).set (q := q) (by omega) 0 (.slice a2 (xs ++ [t0]).length c2)
                have C05 := Cu.set (q := q) (Cu.down C03.drew hb5 (by omega) (by omega)) hWq hpq 0 (.slice a2 (xs ++ [t0]).length c2)
                have HS5 : Hid (∀ x ∈ xs ++ [t0], x.size ≤ 930) := sizes_snoc HS.out ht0
                have hyl : (xs ++ [t0]).length ≤ 16 := by simp; omega
                generalize xs ++ [t0] = ys at K5 Z5 C05 HS5 hyl ⊢
                try simp only [Act.put, List.setIfInBounds_toArray, List.set_cons_zero, List.set_cons_succ]
                refine Vw.take_any 8 44 (v := ?_) rfl rfl (by kernel_rfl) (by kernel_rfl) (by kernel_rfl) (fun _ _ _ h => h) (Or.inl ⟨by rfl, ?_⟩) ?_
                rotate_left
                · intro w'; go_simp; try with_reducible rfl
                try simp only [Act.put, List.setIfInBounds_toArray, List.set_cons_zero, List.set_cons_succ]
                refine wpAny_ready (rs := [9]) (by kernel_rfl) (by simp) ?_
                refine AllReady.cons (i := 9) rfl (fun K hK => ?_) AllReady.nil
                go_simp
                refine hK _ _ ?_
                clear hK K
                try simp only [Act.put, List.setIfInBounds_toArray, List.set_cons_zero, List.set_cons_succ]
                refine wpAny_done (by kernel_rfl) ?_ _
                generalize w5.setCell ⟨q, 0, none⟩ (.slice a2 ys.length c2) = w6 at K5 Z5 C05 ⊢
                clear hown' hgrow hloc hb5 e0 e1 ef k0 f0
                have HO9 := show Hid _ from K5.2.1
                have HO3 := show Hid _ from K5.2.2
                have hCC : Hid (Cu p a len cap zs W w6) := C05
                obtain ⟨⟨e0, e1, ef⟩, _, _⟩ := K5
                obtain ⟨z0, z1, zf⟩ := Z5
                have zf0 := zf 0
                have zf1 := zf 1
                clear C05
                obtain ⟨WF, hWF⟩ : ∃ WF, (w6.setCell ⟨r, 0, none⟩ (.slice a2 ys.length c2)).setCell ⟨r, 1, none⟩ (.slice b1 ks.length d1) = WF := ⟨_, rfl⟩
                have y0 : WF.cell? ⟨r, 0, none⟩ = some (.slice a2 ys.length c2) := by rw [← hWF, set_other _ r 1 0 _ (by omega)]; exact set_same w6 r 0 _ _ z0
                have y1 : WF.cell? ⟨r, 1, none⟩ = some (.slice b1 ks.length d1) := by rw [← hWF]; exact set_same _ r 1 _ _ (by rw [set_other w6 r 0 1 _ (by omega)]; exact z1)
                have lr : ∀ o, (⟨r, o, none⟩ : Addr).block < q + 1 := fun _ => by show r < q + 1; omega
                have HF : Hid (KnPost p a len cap zs W (.returned (.agg #[.slice a2 ys.length c2, .slice b1 ks.length d1])) WF) := by
                  rw [← hWF]
                  exact ⟨a2, b1, c2, d1, ys, ks, rfl, own_base (ownsRow_setCell_below (ownsRow_setCell_below HO9.out (lr 0) _) (lr 1) _) (by omega), own_base (ownsRow_setCell_below (ownsRow_setCell_below HO3.out (lr 0) _) (lr 1) _) (by omega), by omega, by omega, HS5.out, Cu.set (Cu.set hCC.out (Nat.le_of_eq HR.out) hpr 0 _) (Nat.le_of_eq HR.out) hpr 1 _⟩
                clear HO9 HO3 hCC
                go_wp2
                try rw [hWF]
                refine bodyPost_ret (res_two rfl _ WF r _ _ rfl y0 y1) rfl HF.out
              · go_simp
                refine hK _ _ ?_
                clear hK K
                try simp only [Act.put, List.setIfInBounds_toArray, List.set_cons_zero, List.set_cons_succ]
                refine wpAny_ready (rs := [1, 6]) (by kernel_rfl) (by simp) ?_
                refine AllReady.cons (i := 1) rfl (fun K hK => ?_) (AllReady.cons (i := 6) rfl (fun K hK => ?_) AllReady.nil)
                · go_simp
                  refine hK _ _ ?_
                  clear hK K
                  try simp only [Act.put, List.setIfInBounds_toArray, List.set_cons_zero, List.set_cons_succ]
                  refine wpAny_ready (rs := [6]) (by kernel_rfl) (by simp) ?_
                  refine AllReady.cons (i := 6) rfl (fun K hK => ?_) AllReady.nil
                  go_simp
                  refine hK _ _ ?_
                  clear hK K
                  try simp only [Act.put, List.setIfInBounds_toArray, List.set_cons_zero, List.set_cons_succ]
                  refine wpAny_ready (rs := [7]) (by kernel_rfl) (by simp) ?_
                  refine AllReady.cons (i := 7) rfl (fun K hK => ?_) AllReady.nil
                  refine step_own_at 43 rfl rfl _ _ 24 rfl (q + 1) 9 i0 (.string ⟨#[]⟩) 1 16 Tryz.underlying24 hi hz0 hz1 hz2 rfl (by decide) (.slice (some ⟨tb, to, none⟩) xs.length c1) xs.length (strV xs) rfl (HK3.out.drew.2.1.alloc _) ⟨w3.drew.heap.size, 0, none⟩ 1 1 [.string t0] rfl rfl (cell_one_new _ _ _) (by intro u hu; simp at hu; subst hu; rfl) (by unfold maxLen; omega) (by omega) (by have := HK3.out.lt; simp; omega) ?_
                  intro v' w5 hown' hgrow hloc
                  refine hK _ _ ?_
                  clear hK K
                  obtain ⟨a2, c2, rfl, ⟨k0, f0⟩, K5⟩ := HK3.out.drew.app0 hown' hgrow
                  have hb5 := HK3.out.drew.grown9 hgrow
                  have Z5 := ((Z3.below (Below.drew (Below.refl _ _)) Z3.lt).below hb5 (by omega)).set (q := q) (by omega) 0 (.slice a2 (xs ++ [t0]).length c2)
                  have C05 := Cu.set (q := q) (Cu.down C03.drew hb5 (by omega) (by omega)) hWq hpq 0 (.slice a2 (xs ++ [t0]).length c2)
                  have HS5 : Hid (∀ x ∈ xs ++ [t0], x.size ≤ 930) := sizes_snoc HS.out ht0
                  have hyl : (xs ++ [t0]).length ≤ 16 := by simp; omega
                  generalize xs ++ [t0] = ys at K5 Z5 C05 HS5 hyl ⊢
                  try simp only [Act.put, List.setIfInBounds_toArray, List.set_cons_zero, List.set_cons_succ]
                  refine Vw.take_any 8 44 (v := ?_) rfl rfl (by kernel_rfl) (by kernel_rfl) (by kernel_rfl) (fun _ _ _ h => h) (Or.inl ⟨by rfl, ?_⟩) ?_
                  rotate_left
                  · intro w'; go_simp; try with_reducible rfl
                  try simp only [Act.put, List.setIfInBounds_toArray, List.set_cons_zero, List.set_cons_succ]
                  refine wpAny_ready (rs := [9]) (by kernel_rfl) (by simp) ?_
                  refine AllReady.cons (i := 9) rfl (fun K hK => ?_) AllReady.nil
                  go_simp
                  refine hK _ _ ?_
                  clear hK K
                  try simp only [Act.put, List.setIfInBounds_toArray, List.set_cons_zero, List.set_cons_succ]
                  refine wpAny_done (by kernel_rfl) ?_ _
                  generalize w5.setCell ⟨q, 0, none⟩ (.slice a2 ys.length c2) = w6 at K5 Z5 C05 ⊢
                  clear hown' hgrow hloc hb5 e0 e1 ef k0 f0
                  have HO9 := show Hid _ from K5.2.1
                  have HO3 := show Hid _ from K5.2.2
                  have hCC : Hid (Cu p a len cap zs W w6) := C05
                  obtain ⟨⟨e0, e1, ef⟩, _, _⟩ := K5
                  obtain ⟨z0, z1, zf⟩ := Z5
                  have zf0 := zf 0
                  have zf1 := zf 1
                  clear C05
                  obtain ⟨WF, hWF⟩ : ∃ WF, (w6.setCell ⟨r, 0, none⟩ (.slice a2 ys.length c2)).setCell ⟨r, 1, none⟩ (.slice b1 ks.length d1) = WF := ⟨_, rfl⟩
                  have y0 : WF.cell? ⟨r, 0, none⟩ = some (.slice a2 ys.length c2) := by rw [← hWF, set_other _ r 1 0 _ (by omega)]; exact set_same w6 r 0 _ _ z0
                  have y1 : WF.cell? ⟨r, 1, none⟩ = some (.slice b1 ks.length d1) := by rw [← hWF]; exact set_same _ r 1 _ _ (by rw [set_other w6 r 0 1 _ (by omega)]; exact z1)
                  have lr : ∀ o, (⟨r, o, none⟩ : Addr).block < q + 1 := fun _ => by show r < q + 1; omega
                  have HF : Hid (KnPost p a len cap zs W (.returned (.agg #[.slice a2 ys.length c2, .slice b1 ks.length d1])) WF) := by
                    rw [← hWF]
                    exact ⟨a2, b1, c2, d1, ys, ks, rfl, own_base (ownsRow_setCell_below (ownsRow_setCell_below HO9.out (lr 0) _) (lr 1) _) (by omega), own_base (ownsRow_setCell_below (ownsRow_setCell_below HO3.out (lr 0) _) (lr 1) _) (by omega), by omega, by omega, HS5.out, Cu.set (Cu.set hCC.out (Nat.le_of_eq HR.out) hpr 0 _) (Nat.le_of_eq HR.out) hpr 1 _⟩
                  clear HO9 HO3 hCC
                  go_wp2
                  try rw [hWF]
                  refine bodyPost_ret (res_two rfl _ WF r _ _ rfl y0 y1) rfl HF.out
                · go_simp
                  refine hK _ _ ?_
                  clear hK K
                  try simp only [Act.put, List.setIfInBounds_toArray, List.set_cons_zero, List.set_cons_succ]
                  refine wpAny_ready (rs := [1]) (by kernel_rfl) (by simp) ?_
                  refine AllReady.cons (i := 1) rfl (fun K hK => ?_) AllReady.nil
                  go_simp
                  refine hK _ _ ?_
                  clear hK K
                  try simp only [Act.put, List.setIfInBounds_toArray, List.set_cons_zero, List.set_cons_succ]
                  refine wpAny_ready (rs := [7]) (by kernel_rfl) (by simp) ?_
                  refine AllReady.cons (i := 7) rfl (fun K hK => ?_) AllReady.nil
                  refine step_own_at 43 rfl rfl _ _ 24 rfl (q + 1) 9 i0 (.string ⟨#[]⟩) 1 16 Tryz.underlying24 hi hz0 hz1 hz2 rfl (by decide) (.slice (some ⟨tb, to, none⟩) xs.length c1) xs.length (strV xs) rfl (HK3.out.drew.2.1.alloc _) ⟨w3.drew.heap.size, 0, none⟩ 1 1 [.string t0] rfl rfl (cell_one_new _ _ _) (by intro u hu; simp at hu; subst hu; rfl) (by unfold maxLen; omega) (by omega) (by have := HK3.out.lt; simp; omega) ?_
                  intro v' w5 hown' hgrow hloc
                  refine hK _ _ ?_
                  clear hK K
                  obtain ⟨a2, c2, rfl, ⟨k0, f0⟩, K5⟩ := HK3.out.drew.app0 hown' hgrow
                  have hb5 := HK3.out.drew.grown9 hgrow
                  have Z5 := ((Z3.below (Below.drew (Below.refl _ _)) Z3.lt).below hb5 (by omega)).set (q := q) (by omega) 0 (.slice a2 (xs ++ [t0]).length c2)
                  have C05 := Cu.set (q := q) (Cu.down C03.drew hb5 (by omega) (by omega)) hWq hpq 0 (.slice a2 (xs ++ [t0]).length c2)
                  have HS5 : Hid (∀ x ∈ xs ++ [t0], x.size ≤ 930) := sizes_snoc HS.out ht0
                  have hyl : (xs ++ [t0]).length ≤ 16 := by simp; omega
                  generalize xs ++ [t0] = ys at K5 Z5 C05 HS5 hyl ⊢
                  try simp only [Act.put, List.setIfInBounds_toArray, List.set_cons_zero, List.set_cons_succ]
                  refine Vw.take_any 8 44 (v := ?_) rfl rfl (by kernel_rfl) (by kernel_rfl) (by kernel_rfl) (fun _ _ _ h => h) (Or.inl ⟨by rfl, ?_⟩) ?_
                  rotate_left
                  · intro w'; go_simp; try with_reducible rfl
                  try simp only [Act.put, List.setIfInBounds_toArray, List.set_cons_zero, List.set_cons_succ]
                  refine wpAny_ready (rs := [9]) (by kernel_rfl) (by simp) ?_
                  refine AllReady.cons (i := 9) rfl (fun K hK => ?_) AllReady.nil
                  go_simp
                  refine hK _ _ ?_
                  clear hK K
                  try simp only [Act.put, List.setIfInBounds_toArray, List.set_cons_zero, List.set_cons_succ]
                  refine wpAny_done (by kernel_rfl) ?_ _
                  generalize w5.setCell ⟨q, 0, none⟩ (.slice a2 ys.length c2) = w6 at K5 Z5 C05 ⊢
                  clear hown' hgrow hloc hb5 e0 e1 ef k0 f0
                  have HO9 := show Hid _ from K5.2.1
                  have HO3 := show Hid _ from K5.2.2
                  have hCC : Hid (Cu p a len cap zs W w6) := C05
                  obtain ⟨⟨e0, e1, ef⟩, _, _⟩ := K5
                  obtain ⟨z0, z1, zf⟩ := Z5
                  have zf0 := zf 0
                  have zf1 := zf 1
                  clear C05
                  obtain ⟨WF, hWF⟩ : ∃ WF, (w6.setCell ⟨r, 0, none⟩ (.slice a2 ys.length c2)).setCell ⟨r, 1, none⟩ (.slice b1 ks.length d1) = WF := ⟨_, rfl⟩
                  have y0 : WF.cell? ⟨r, 0, none⟩ = some (.slice a2 ys.length c2) := by rw [← hWF, set_other _ r 1 0 _ (by omega)]; exact set_same w6 r 0 _ _ z0
                  have y1 : WF.cell? ⟨r, 1, none⟩ = some (.slice b1 ks.length d1) := by rw [← hWF]; exact set_same _ r 1 _ _ (by rw [set_other w6 r 0 1 _ (by omega)]; exact z1)
                  have lr : ∀ o, (⟨r, o, none⟩ : Addr).block < q + 1 := fun _ => by show r < q + 1; omega
                  have HF : Hid (KnPost p a len cap zs W (.returned (.agg #[.slice a2 ys.length c2, .slice b1 ks.length d1])) WF) := by
                    rw [← hWF]
                    exact ⟨a2, b1, c2, d1, ys, ks, rfl, own_base (ownsRow_setCell_below (ownsRow_setCell_below HO9.out (lr 0) _) (lr 1) _) (by omega), own_base (ownsRow_setCell_below (ownsRow_setCell_below HO3.out (lr 0) _) (lr 1) _) (by omega), by omega, by omega, HS5.out, Cu.set (Cu.set hCC.out (Nat.le_of_eq HR.out) hpr 0 _) (Nat.le_of_eq HR.out) hpr 1 _⟩
                  clear HO9 HO3 hCC
                  go_wp2
                  try rw [hWF]
                  refine bodyPost_ret (res_two rfl _ WF r _ _ rfl y0 y1) rfl HF.out
    · have hmp : (m : Int) > 0 := by omega
      have hmd : decide ((m : Int) > 0) = true := by simpa using hmp
      have HO := onceW 4 C.here (by omega)
      go_wp2_with fail
      refine HO.mono ?_
      clear HO
      rintro e w2 ⟨bb, rfl, C2⟩
      have K2 := K.draw C2.2 hpq
      have Z2 := Z.draw C2.2 (by omega)
      have C02 := C.next C2
      clear K Z C C2
      cases bb with
      | true =>
        have HK2 : Hid (KP q a1 b1 c1 d1 xs ks w2) := K2
        obtain ⟨⟨e0, e1, ef⟩, _, _⟩ := K2
        go_wp2_with fail
        refine wp_region_any (by kernel_rfl) ?_
        show wpAny _ _ _ _ _ _ _ w2.drew
        refine Vw.take_any 0 17 (v := ?_) rfl rfl (by kernel_rfl) (by kernel_rfl) (by kernel_rfl) (fun _ _ _ h => h) (Or.inl ⟨by rfl, ?_⟩) ?_
        rotate_left
        · intro w'; go_simp; try with_reducible rfl
        try simp only [Act.put, List.setIfInBounds_toArray, List.set_cons_zero, List.set_cons_succ]
        refine Vw.take_any 2 19 (v := ?_) rfl rfl (by kernel_rfl) (by kernel_rfl) (by kernel_rfl) (fun _ _ _ h => h) (Or.inl ⟨by rfl, ?_⟩) ?_
        rotate_left
        · intro w'; go_simp; try with_reducible rfl
        try simp only [Act.put, List.setIfInBounds_toArray, List.set_cons_zero, List.set_cons_succ]
        refine wpAny_ready (rs := [1, 3]) (by kernel_rfl) (by simp) ?_
        refine AllReady.cons (i := 1) rfl (fun K hK => ?_) (AllReady.cons (i := 3) rfl (fun K hK => ?_) AllReady.nil)
        · go_simp
          refine hK _ _ ?_
          clear hK K
          try simp only [Act.put, List.setIfInBounds_toArray, List.set_cons_zero, List.set_cons_succ]
          refine wpAny_ready (rs := [3]) (by kernel_rfl) (by simp) ?_
          refine AllReady.cons (i := 3) rfl (fun K hK => ?_) AllReady.nil
          have hK3 : Shut _ := hK
          clear hK
          go_simp
          refine (belowW 6 C02.drew.here (by omega) (by omega)).mono ?_
          rintro e w3 ⟨x, rfl, hxa, hxb, C3⟩
          have K3 := HK2.out.drew.draw C3.2 hpq
          have e3 := K3.1.2.1
          have Z3 := (Z2.below (Below.drew (Below.refl _ _)) Z2.lt).draw C3.2 (by omega)
          have C03 := C02.drew.next C3
          go_wp2_with fail
          refine hK3.out _ _ ?_
          clear hK3 K
          try simp only [Act.put, List.setIfInBounds_toArray, List.set_cons_zero, List.set_cons_succ]
          refine Vw.take_any 4 21 (v := ?_) rfl rfl (by kernel_rfl) (by kernel_rfl) (by kernel_rfl) (fun _ _ _ h => h) (Or.inl ⟨by rfl, ?_⟩) ?_
          rotate_left
          · intro w'; go_simp; try with_reducible rfl
          try simp only [Act.put, List.setIfInBounds_toArray, List.set_cons_zero, List.set_cons_succ]
          refine wpAny_ready (rs := [5]) (by kernel_rfl) (by simp) ?_
          refine AllReady.cons (i := 5) rfl (fun K hK => ?_) AllReady.nil
          have hK3 : Shut _ := hK
          clear hK
          go_simp
          generalize IntKind.i64.wrap (1 + x) = y at hK3 ⊢
          refine (l3PutW (q + 1) b1 d1 ks y w3 K3.2.2 (by omega) K3.lt).mono ?_
          rintro e w4 ⟨v, rfl, ho4, hb4⟩
          obtain ⟨b2, d2, rfl, _, _⟩ := own_row ho4
          have K4 := K3.below hb4
          have f4 := K4.1.2.2 1
          have c4 := K4.1.2.1
          have Z4 := Z3.below hb4 Z3.lt
          have C04 := C03.under hb4
          go_wp2_with fail
          refine hK3.out _ _ ?_
          clear hK3 K
          try simp only [Act.put, List.setIfInBounds_toArray, List.set_cons_zero, List.set_cons_succ]
          refine Vw.take_any 6 23 (v := ?_) rfl rfl (by kernel_rfl) (by kernel_rfl) (by kernel_rfl) (fun _ _ _ h => h) (Or.inl ⟨by rfl, ?_⟩) ?_
          rotate_left
          · intro w'; go_simp; try with_reducible rfl
          try simp only [Act.put, List.setIfInBounds_toArray, List.set_cons_zero, List.set_cons_succ]
          refine wpAny_ready (rs := [7]) (by kernel_rfl) (by simp) ?_
          refine AllReady.cons (i := 7) rfl (fun K hK => ?_) AllReady.nil
          go_simp
          refine hK _ _ ?_
          clear hK K
          try simp only [Act.put, List.setIfInBounds_toArray, List.set_cons_zero, List.set_cons_succ]
          refine wpAny_done (by kernel_rfl) ?_ _
          have K5 := K4.put1 ho4
          have Z5 := Z4.set (q := q) (by omega) 1 (.slice b2 (putI ks y).length d2)
          have C05 := Cu.set (q := q) C04 hWq hpq 1 (.slice b2 (putI ks y).length d2)
          have hpl := putI_len ks y
          generalize w4.setCell ⟨q, 1, none⟩ (.slice b2 (putI ks y).length d2) = w5 at *
          clear K4 K3 C03 C04 Z3 Z4 ho4 hb4
          go_wp2
          go_roundw
          case rel =>
            have R : ∃ (mm : Nat) (a1 b1 : Option Addr) (c1 d1 : Nat) (xx : List ByteArray) (kk : List Int), Value.int .i64 ((m : Int) - 1) = .int .i64 (mm : Int) ∧ mm ≤ 15 ∧ xx.length + kk.length + mm ≤ 15 ∧ Hid (∀ x ∈ xx, x.size ≤ 930) ∧ KP q a1 b1 c1 d1 xx kk w5 ∧ RZ r w5 ∧ Cu p a len cap zs W w5 :=
              ⟨m - 1, a1, b2, c1, d2, xs, (putI ks y), by first | rfl | go_num, by omega, by omega, HS, K5, Z5, C05⟩
            first | exact R | ((repeat apply Exists.intro); exact ⟨R, rfl⟩)
          case measure => simp [intOf]; omega
        · have hK3 : Shut _ := hK
          clear hK
          go_simp
          refine (belowW 6 C02.drew.here (by omega) (by omega)).mono ?_
          rintro e w3 ⟨x, rfl, hxa, hxb, C3⟩
          have K3 := HK2.out.drew.draw C3.2 hpq
          have e3 := K3.1.2.1
          have Z3 := (Z2.below (Below.drew (Below.refl _ _)) Z2.lt).draw C3.2 (by omega)
          have C03 := C02.drew.next C3
          go_wp2_with fail
          refine hK3.out _ _ ?_
          clear hK3 K
          try simp only [Act.put, List.setIfInBounds_toArray, List.set_cons_zero, List.set_cons_succ]
          refine Vw.take_any 4 21 (v := ?_) rfl rfl (by kernel_rfl) (by kernel_rfl) (by kernel_rfl) (fun _ _ _ h => h) (Or.inl ⟨by rfl, ?_⟩) ?_
          rotate_left
          · intro w'; go_simp; try with_reducible rfl
          try simp only [Act.put, List.setIfInBounds_toArray, List.set_cons_zero, List.set_cons_succ]
          refine wpAny_ready (rs := [1]) (by kernel_rfl) (by simp) ?_
          refine AllReady.cons (i := 1) rfl (fun K hK => ?_) AllReady.nil
          go_simp
          refine hK _ _ ?_
          clear hK K
          try simp only [Act.put, List.setIfInBounds_toArray, List.set_cons_zero, List.set_cons_succ]
          refine wpAny_ready (rs := [5]) (by kernel_rfl) (by simp) ?_
          refine AllReady.cons (i := 5) rfl (fun K hK => ?_) AllReady.nil
          have hK3 : Shut _ := hK
          clear hK
          go_simp
          generalize IntKind.i64.wrap (1 + x) = y at hK3 ⊢
          refine (l3PutW (q + 1) b1 d1 ks y w3 K3.2.2 (by omega) K3.lt).mono ?_
          rintro e w4 ⟨v, rfl, ho4, hb4⟩
          obtain ⟨b2, d2, rfl, _, _⟩ := own_row ho4
          have K4 := K3.below hb4
          have f4 := K4.1.2.2 1
          have c4 := K4.1.2.1
          have Z4 := Z3.below hb4 Z3.lt
          have C04 := C03.under hb4
          go_wp2_with fail
          refine hK3.out _ _ ?_
          clear hK3 K
          try simp only [Act.put, List.setIfInBounds_toArray, List.set_cons_zero, List.set_cons_succ]
          refine Vw.take_any 6 23 (v := ?_) rfl rfl (by kernel_rfl) (by kernel_rfl) (by kernel_rfl) (fun _ _ _ h => h) (Or.inl ⟨by rfl, ?_⟩) ?_
          rotate_left
          · intro w'; go_simp; try with_reducible rfl
          try simp only [Act.put, List.setIfInBounds_toArray, List.set_cons_zero, List.set_cons_succ]
          refine wpAny_ready (rs := [7]) (by kernel_rfl) (by simp) ?_
          refine AllReady.cons (i := 7) rfl (fun K hK => ?_) AllReady.nil
          go_simp
          refine hK _ _ ?_
          clear hK K
          try simp only [Act.put, List.setIfInBounds_toArray, List.set_cons_zero, List.set_cons_succ]
          refine wpAny_done (by kernel_rfl) ?_ _
          have K5 := K4.put1 ho4
          have Z5 := Z4.set (q := q) (by omega) 1 (.slice b2 (putI ks y).length d2)
          have C05 := Cu.set (q := q) C04 hWq hpq 1 (.slice b2 (putI ks y).length d2)
          have hpl := putI_len ks y
          generalize w4.setCell ⟨q, 1, none⟩ (.slice b2 (putI ks y).length d2) = w5 at *
          clear K4 K3 C03 C04 Z3 Z4 ho4 hb4
          go_wp2
          go_roundw
          case rel =>
            have R : ∃ (mm : Nat) (a1 b1 : Option Addr) (c1 d1 : Nat) (xx : List ByteArray) (kk : List Int), Value.int .i64 ((m : Int) - 1) = .int .i64 (mm : Int) ∧ mm ≤ 15 ∧ xx.length + kk.length + mm ≤ 15 ∧ Hid (∀ x ∈ xx, x.size ≤ 930) ∧ KP q a1 b1 c1 d1 xx kk w5 ∧ RZ r w5 ∧ Cu p a len cap zs W w5 :=
              ⟨m - 1, a1, b2, c1, d2, xs, (putI ks y), by first | rfl | go_num, by omega, by omega, HS, K5, Z5, C05⟩
            first | exact R | ((repeat apply Exists.intro); exact ⟨R, rfl⟩)
          case measure => simp [intOf]; omega
      | false =>
        have HK2 : Hid (KP q a1 b1 c1 d1 xs ks w2) := K2
        obtain ⟨⟨e0, e1, ef⟩, _, _⟩ := K2
        go_wp2_with fail
        refine wp_region_any (by kernel_rfl) ?_
        show wpAny _ _ _ _ _ _ _ w2.drew
        refine Vw.take_any 1 25 (v := ?_) rfl rfl (by kernel_rfl) (by kernel_rfl) (by kernel_rfl) (fun _ _ _ h => h) (Or.inl ⟨by rfl, ?_⟩) ?_
        rotate_left
        · intro w'; go_simp; try with_reducible rfl
        try simp only [Act.put, List.setIfInBounds_toArray, List.set_cons_zero, List.set_cons_succ]
        refine wpAny_ready (rs := [0, 2]) (by kernel_rfl) (by simp) ?_
        refine AllReady.cons (i := 0) rfl (fun K hK => ?_) (AllReady.cons (i := 2) rfl (fun K hK => ?_) AllReady.nil)
        · go_simp
          refine hK _ _ ?_
          clear hK K
          try simp only [Act.put, List.setIfInBounds_toArray, List.set_cons_zero, List.set_cons_succ]
          refine wpAny_ready (rs := [2]) (by kernel_rfl) (by simp) ?_
          refine AllReady.cons (i := 2) rfl (fun K hK => ?_) AllReady.nil
          have hK3 : Shut _ := hK
          clear hK
          go_simp
          refine (someW p a len cap zs 4 4 w2.drew rfl (by omega) C02.drew.here).mono ?_
          rintro e w3 ⟨tt, rfl, htt, C3⟩
          have K3 := HK2.out.drew.draw C3.2 hpq
          have e30 := K3.1.1
          have e31 := K3.1.2.1
          have Z3 := (Z2.below (Below.drew (Below.refl _ _)) Z2.lt).draw C3.2 (by omega)
          have C03 := C02.drew.next C3
          go_wp2_with fail
          refine hK3.out _ _ ?_
          clear hK3 K
          try simp only [Act.put, List.setIfInBounds_toArray, List.set_cons_zero, List.set_cons_succ]
          refine wpAny_ready (rs := [3]) (by kernel_rfl) (by simp) ?_
          refine AllReady.cons (i := 3) rfl (fun K hK => ?_) AllReady.nil
          have hK3 : Shut _ := hK
          clear hK
          go_simp
          refine (l3Learn_is (q + 1) a1 b1 c1 d1 xs ks tt w3 K3.2.1 K3.2.2 K3.lt (by omega) (by omega)).mono ?_
          rintro e w4 ⟨v, rfl, ⟨a2, b2, c2, d2, rfl, h9, h3⟩, hb4⟩
          have lq : ∀ o, (⟨q, o, none⟩ : Addr).block < q + 1 := fun _ => by show q < q + 1; omega
          have c40 := (hb4.cell (lq 0)).trans K3.1.1
          have c41 := (hb4.cell (lq 1)).trans K3.1.2.1
          have f4 : ∀ o, w4.frozen? ⟨q, o, none⟩ = false := fun o => (hb4.frozen (lq o)).trans (K3.1.2.2 o)
          have f40 := f4 0
          have f41 := f4 1
          have Z4 := Z3.below hb4 (by omega)
          have C04 := Cu.down C03 hb4 (by omega) (by omega)
          go_wp2_with fail
          refine hK3.out _ _ ?_
          clear hK3 K
          try simp only [Act.put, List.setIfInBounds_toArray, List.set_cons_zero, List.set_cons_succ]
          refine wpAny_ready (rs := [4]) (by kernel_rfl) (by simp) ?_
          refine AllReady.cons (i := 4) rfl (fun K hK => ?_) AllReady.nil
          go_simp
          refine hK _ _ ?_
          clear hK K
          try simp only [Act.put, List.setIfInBounds_toArray, List.set_cons_zero, List.set_cons_succ]
          refine wpAny_done (by kernel_rfl) ?_ _
          have K5 := KP.both c40 c41 f4 h9 h3
          have Z5 := (Z4.set (q := q) (by omega) 0 (.slice a2 (putT xs tt).length c2)).set (q := q) (by omega) 1 (.slice b2 ks.length d2)
          have C05 := Cu.set (q := q) (Cu.set (q := q) C04 hWq hpq 0 (.slice a2 (putT xs tt).length c2)) hWq hpq 1 (.slice b2 ks.length d2)
          have hpl := putT_len xs tt
          have HS5 : Hid (∀ x ∈ putT xs tt, x.size ≤ 930) := sizes_putT HS.out (by omega)
          generalize (w4.setCell ⟨q, 0, none⟩ (.slice a2 (putT xs tt).length c2)).setCell ⟨q, 1, none⟩ (.slice b2 ks.length d2) = w5 at *
          clear K3 C03 C04 Z3 Z4 h9 h3 hb4 c40 c41 f4 f40 f41
          go_wp2
          go_roundw
          case rel =>
            have R : ∃ (mm : Nat) (a1 b1 : Option Addr) (c1 d1 : Nat) (xx : List ByteArray) (kk : List Int), Value.int .i64 ((m : Int) - 1) = .int .i64 (mm : Int) ∧ mm ≤ 15 ∧ xx.length + kk.length + mm ≤ 15 ∧ Hid (∀ x ∈ xx, x.size ≤ 930) ∧ KP q a1 b1 c1 d1 xx kk w5 ∧ RZ r w5 ∧ Cu p a len cap zs W w5 :=
              ⟨m - 1, a2, b2, c2, d2, (putT xs tt), ks, by first | rfl | go_num, by omega, by omega, HS5, K5, Z5, C05⟩
            first | exact R | ((repeat apply Exists.intro); exact ⟨R, rfl⟩)
          case measure => simp [intOf]; omega
        · have hK3 : Shut _ := hK
          clear hK
          go_simp
          refine (someW p a len cap zs 4 4 w2.drew rfl (by omega) C02.drew.here).mono ?_
          rintro e w3 ⟨tt, rfl, htt, C3⟩
          have K3 := HK2.out.drew.draw C3.2 hpq
          have e30 := K3.1.1
          have e31 := K3.1.2.1
          have Z3 := (Z2.below (Below.drew (Below.refl _ _)) Z2.lt).draw C3.2 (by omega)
          have C03 := C02.drew.next C3
          go_wp2_with fail
          refine hK3.out _ _ ?_
          clear hK3 K
          try simp only [Act.put, List.setIfInBounds_toArray, List.set_cons_zero, List.set_cons_succ]
          refine wpAny_ready (rs := [0]) (by kernel_rfl) (by simp) ?_
          refine AllReady.cons (i := 0) rfl (fun K hK => ?_) AllReady.nil
          go_simp
          refine hK _ _ ?_
          clear hK K
          try simp only [Act.put, List.setIfInBounds_toArray, List.set_cons_zero, List.set_cons_succ]
          refine wpAny_ready (rs := [3]) (by kernel_rfl) (by simp) ?_
          refine AllReady.cons (i := 3) rfl (fun K hK => ?_) AllReady.nil
          have hK3 : Shut _ := hK
          clear hK
          go_simp
          refine (l3Learn_is (q + 1) a1 b1 c1 d1 xs ks tt w3 K3.2.1 K3.2.2 K3.lt (by omega) (by omega)).mono ?_
          rintro e w4 ⟨v, rfl, ⟨a2, b2, c2, d2, rfl, h9, h3⟩, hb4⟩
          have lq : ∀ o, (⟨q, o, none⟩ : Addr).block < q + 1 := fun _ => by show q < q + 1; omega
          have c40 := (hb4.cell (lq 0)).trans K3.1.1
          have c41 := (hb4.cell (lq 1)).trans K3.1.2.1
          have f4 : ∀ o, w4.frozen? ⟨q, o, none⟩ = false := fun o => (hb4.frozen (lq o)).trans (K3.1.2.2 o)
          have f40 := f4 0
          have f41 := f4 1
          have Z4 := Z3.below hb4 (by omega)
          have C04 := Cu.down C03 hb4 (by omega) (by omega)
          go_wp2_with fail
          refine hK3.out _ _ ?_
          clear hK3 K
          try simp only [Act.put, List.setIfInBounds_toArray, List.set_cons_zero, List.set_cons_succ]
          refine wpAny_ready (rs := [4]) (by kernel_rfl) (by simp) ?_
          refine AllReady.cons (i := 4) rfl (fun K hK => ?_) AllReady.nil
          go_simp
          refine hK _ _ ?_
          clear hK K
          try simp only [Act.put, List.setIfInBounds_toArray, List.set_cons_zero, List.set_cons_succ]
          refine wpAny_done (by kernel_rfl) ?_ _
          have K5 := KP.both c40 c41 f4 h9 h3
          have Z5 := (Z4.set (q := q) (by omega) 0 (.slice a2 (putT xs tt).length c2)).set (q := q) (by omega) 1 (.slice b2 ks.length d2)
          have C05 := Cu.set (q := q) (Cu.set (q := q) C04 hWq hpq 0 (.slice a2 (putT xs tt).length c2)) hWq hpq 1 (.slice b2 ks.length d2)
          have hpl := putT_len xs tt
          have HS5 : Hid (∀ x ∈ putT xs tt, x.size ≤ 930) := sizes_putT HS.out (by omega)
          generalize (w4.setCell ⟨q, 0, none⟩ (.slice a2 (putT xs tt).length c2)).setCell ⟨q, 1, none⟩ (.slice b2 ks.length d2) = w5 at *
          clear K3 C03 C04 Z3 Z4 h9 h3 hb4 c40 c41 f4 f40 f41
          go_wp2
          go_roundw
          case rel =>
            have R : ∃ (mm : Nat) (a1 b1 : Option Addr) (c1 d1 : Nat) (xx : List ByteArray) (kk : List Int), Value.int .i64 ((m : Int) - 1) = .int .i64 (mm : Int) ∧ mm ≤ 15 ∧ xx.length + kk.length + mm ≤ 15 ∧ Hid (∀ x ∈ xx, x.size ≤ 930) ∧ KP q a1 b1 c1 d1 xx kk w5 ∧ RZ r w5 ∧ Cu p a len cap zs W w5 :=
              ⟨m - 1, a2, b2, c2, d2, (putT xs tt), ks, by first | rfl | go_num, by omega, by omega, HS5, K5, Z5, C05⟩
            first | exact R | ((repeat apply Exists.intro); exact ⟨R, rfl⟩)
          case measure => simp [intOf]; omega
end Go.Proofs.YtkekfogepdhjhaaGreat
