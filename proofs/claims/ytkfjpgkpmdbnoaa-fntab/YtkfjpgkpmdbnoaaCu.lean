/- What the laws draw, told by bounds alone. -/
import Derived.Test.YtkfjpgkpmdbnoaaDrawNum
import Derived.Test.YtkfjpgkpmdbnoaaBase
set_option linter.unusedVariables false
namespace Go.Proofs.Ytkfjpgkpmdbnoaa.Draw
open Go Go.RowKit

theorem only_app {p : Nat} {W w1 w2 : World} {o : Obj} {row : Option Nat} (h : Only p W w1) (hg : (w1.alloc o).grownBy w2 row) (hr : ∀ k, row = some k → W.heap.size ≤ k) : Only p W w2 :=
  ⟨hg.os.trans h.os, hg.tape.trans h.tape, hg.output.trans h.output, by have h1 := h.size; have h2 := hg.size; simp at h2; omega,
    fun j hj hn => (hg.block j (by have := h.size; simp; omega) (fun e => by have := hr j e.symm; omega)).trans ((Below.heap_alloc w1 o j (Nat.lt_of_lt_of_le hj h.size)).trans (h.block j hj hn))⟩
theorem Dr.grown {W w' : World} {p : Nat} {a : Option Addr} {len cap : Nat} {zs : List Int} {s : St} {row : Option Nat} (h : Dr W p a len cap zs s) (hg : W.grownBy w' row) (hr : ∀ k, row = some k → p < k) : Dr w' p a len cap zs s := by
  have hl := h.cur.lt
  have e : ∀ q : Addr, q.block = p → w'.cell? q = W.cell? q := fun q hq => World.cell?_of_block (by rw [hq]; exact hg.block p hl (fun e => by have := hr p e.symm; omega))
  have ef : ∀ q : Addr, q.block = p → w'.frozen? q = W.frozen? q := fun q hq => World.frozen?_of_block (by rw [hq]; exact hg.block p hl (fun e => by have := hr p e.symm; omega))
  refine ⟨⟨(e _ rfl).trans h.cur.b, (e _ rfl).trans h.cur.i, (e _ rfl).trans h.cur.h, fun k => (ef _ rfl).trans (h.cur.f k)⟩, h.code.below ⟨hg.os, hg.tape, hg.output, hg.size, fun j hj => hg.block j (by omega) (fun e => by have := hr j e.symm; omega)⟩, h.le⟩
theorem Dr.under {W w' : World} {p : Nat} {a : Option Addr} {len cap : Nat} {zs : List Int} {s : St} (h : Dr W p a len cap zs s) (hb : Below W.heap.size W w') : Dr w' p a len cap zs s :=
  h.grown (row := none) ⟨hb.os, hb.tape, hb.output, hb.size, fun j hj _ => hb.block j hj⟩ (fun _ h => by cases h)
theorem Only.under {p : Nat} {W w' : World} (hb : Below W.heap.size W w') : Only p W w' := ⟨hb.os, hb.tape, hb.output, hb.size, fun j hj _ => hb.block j hj⟩

/-- The cursor stands somewhere, its code can be read, and nothing else was written into since W. -/
def Cu (p : Nat) (a : Option Addr) (len cap : Nat) (zs : List Int) (W w : World) : Prop := (∃ s, Dr w p a len cap zs s) ∧ Only p W w
theorem Cu.start {p : Nat} {a : Option Addr} {len cap : Nat} {zs : List Int} {w : World} {s : St} (h : Dr w p a len cap zs s) : Cu p a len cap zs w w := ⟨⟨s, h⟩, Only.refl _ _⟩
theorem Cu.lt {p : Nat} {a : Option Addr} {len cap : Nat} {zs : List Int} {W w : World} (h : Cu p a len cap zs W w) : p < w.heap.size := by obtain ⟨⟨s, h⟩, _⟩ := h; exact h.cur.lt
theorem Cu.here {p : Nat} {a : Option Addr} {len cap : Nat} {zs : List Int} {W w : World} (h : Cu p a len cap zs W w) : Cu p a len cap zs w w := ⟨h.1, Only.refl _ _⟩
theorem Cu.next {p : Nat} {a : Option Addr} {len cap : Nat} {zs : List Int} {W w w' : World} (h : Cu p a len cap zs W w) (k : Cu p a len cap zs w w') : Cu p a len cap zs W w' := ⟨k.1, h.2.trans k.2⟩
theorem Cu.under {p : Nat} {a : Option Addr} {len cap : Nat} {zs : List Int} {W w w' : World} (h : Cu p a len cap zs W w) (hb : Below w.heap.size w w') : Cu p a len cap zs W w' := by
  obtain ⟨⟨s, h⟩, o⟩ := h
  exact ⟨⟨s, h.under hb⟩, o.trans (Only.under hb)⟩
theorem Cu.alloc {p : Nat} {a : Option Addr} {len cap : Nat} {zs : List Int} {W w : World} (h : Cu p a len cap zs W w) (o : Obj) : Cu p a len cap zs W (w.alloc o) := by
  obtain ⟨⟨s, h⟩, k⟩ := h
  exact ⟨⟨s, h.alloc o⟩, k.alloc o⟩
theorem Cu.drew {p : Nat} {a : Option Addr} {len cap : Nat} {zs : List Int} {W w : World} (h : Cu p a len cap zs W w) : Cu p a len cap zs W w.drew := by
  obtain ⟨⟨s, h⟩, k⟩ := h
  exact ⟨⟨s, h.drewN 1⟩, k.drewN 1⟩
theorem Cu.app {p : Nat} {a : Option Addr} {len cap : Nat} {zs : List Int} {W w w' : World} {o : Obj} {row : Option Nat} (h : Cu p a len cap zs W w) (hp : p < W.heap.size) (hg : (w.alloc o).grownBy w' row) (hr : ∀ k, row = some k → W.heap.size ≤ k) : Cu p a len cap zs W w' := by
  obtain ⟨⟨s, h⟩, k⟩ := h
  exact ⟨⟨s, (h.alloc o).grown hg (fun j hj => by have := hr j hj; omega)⟩, only_app k hg hr⟩

theorem belowW {p : Nat} {a : Option Addr} {len cap : Nat} {zs : List Int} {w : World} (n : Int) (h : Cu p a len cap zs w w) (h0 : 0 < n) (hn : n ≤ 9223372036854775807) :
    Calls Try.prog 58 #[.pointer (some ⟨p, 0, none⟩), .int .i64 n] w fun e w' => ∃ x : Int, e = .returned (.int .i64 x) ∧ 0 ≤ x ∧ x < n ∧ Cu p a len cap zs w w' := by
  obtain ⟨⟨s, h⟩, _⟩ := h
  refine (belowD p a len cap zs s w n h hn).mono ?_
  rintro e w' ⟨rfl, d, o⟩
  have := belowV_bd zs len n s h0
  exact ⟨_, rfl, this.1, this.2, ⟨_, d⟩, o⟩
theorem onceW {p : Nat} {a : Option Addr} {len cap : Nat} {zs : List Int} {w : World} (n : Int) (h : Cu p a len cap zs w w) (hn : n ≤ 9223372036854775807) :
    Calls Try.prog 49 #[.pointer (some ⟨p, 0, none⟩), .int .i64 n] w fun e w' => ∃ b : Bool, e = .returned (.bool b) ∧ Cu p a len cap zs w w' := by
  obtain ⟨⟨s, h⟩, _⟩ := h
  refine (onceD p a len cap zs s w n h hn).mono ?_
  rintro e w' ⟨rfl, d, o⟩
  exact ⟨_, rfl, ⟨_, d⟩, o⟩
theorem Cu.setCell {p : Nat} {a : Option Addr} {len cap : Nat} {zs : List Int} {W w : World} (h : Cu p a len cap zs W w) (hp : p < W.heap.size) {g : Nat} (hg : W.heap.size ≤ g) (o : Nat) (v : Value) : Cu p a len cap zs W (w.setCell ⟨g, o, none⟩ v) := by
  obtain ⟨⟨s, h⟩, k⟩ := h
  refine ⟨⟨s, h.grown (row := some g) ⟨rfl, rfl, rfl, by simp, fun j hj hn => Below.heap_setCell w ⟨g, o, none⟩ v j (fun e => hn (by rw [e]))⟩ (fun k hk => by cases hk; omega)⟩, ⟨k.os, k.tape, k.output, by have := k.size; simpa using this, fun j hj hn => (Below.heap_setCell w ⟨g, o, none⟩ v j (fun e => by have : j = g := e; omega)).trans (k.block j hj hn)⟩⟩
theorem Cu.cell {p : Nat} {a : Option Addr} {len cap : Nat} {zs : List Int} {W w : World} (h : Cu p a len cap zs W w) {g : Nat} (hg : g < W.heap.size) (hn : p < g) (o : Nat) : w.cell? ⟨g, o, none⟩ = W.cell? ⟨g, o, none⟩ := h.2.cell (q := ⟨g, o, none⟩) hg (by show g ≠ p; omega)
theorem Cu.frozen {p : Nat} {a : Option Addr} {len cap : Nat} {zs : List Int} {W w : World} (h : Cu p a len cap zs W w) {g : Nat} (hg : g < W.heap.size) (hn : p < g) (o : Nat) : w.frozen? ⟨g, o, none⟩ = W.frozen? ⟨g, o, none⟩ := h.2.frozen (q := ⟨g, o, none⟩) hg (by show g ≠ p; omega)
theorem Cu.size {p : Nat} {a : Option Addr} {len cap : Nat} {zs : List Int} {W w : World} (h : Cu p a len cap zs W w) : W.heap.size ≤ w.heap.size := h.2.size
theorem pickW {p : Nat} {a : Option Addr} {len cap : Nat} {zs : List Int} {w : World} (g m : Nat) (L : List Int) (h : Cu p a len cap zs w w) (hm : 0 < m) (hm2 : m ≤ 1000) (hg : p < g) (hgs : g < w.heap.size) (hL : ∀ j, j < m → w.cell? ⟨g, j, none⟩ = some (.int .i64 (L.getD j 0))) :
    Calls Try.prog 37 #[.pointer (some ⟨p, 0, none⟩), .slice (some ⟨g, 0, none⟩) m m] w fun e w' => ∃ x : Int, e = .returned (.int .i64 x) ∧ Cu p a len cap zs w w' := by
  obtain ⟨⟨s, h⟩, _⟩ := h
  refine (pickIntD p a len cap zs s w g m L h hm hm2 hg hgs hL).mono ?_
  rintro e w' ⟨rfl, d, o⟩
  exact ⟨_, rfl, ⟨_, d⟩, o⟩
end Go.Proofs.Ytkfjpgkpmdbnoaa.Draw
