/- The cursor of the draws: its state, what a byte drawn from it is, and the walk of l1Byte. -/
import Derived.Test.YtjcmbbnklfemcaaGreatRows
import Derived.WalkKit
import Derived.WalkSpells
import Derived.WalkLawsBesides
import Derived.Deep.QuietTactic
import Derived.BigQuiet
import Derived.WalkSmall
import Derived.Laws.IdiomStrings
import Derived.Test.YtjcmbbnklfemcaaGreatRest
set_option linter.unusedVariables false
namespace Go.Proofs.YtjcmbbnklfemcaaGreat.Draw
open Go Go.RowKit

/-- The state of a cursor: how many bytes are taken, and the number that is mixed in. -/
structure St where
  i : Nat
  h : Int

/-- The cursor lies in block p and stands so. -/
structure CurAt (W : World) (p : Nat) (a : Option Addr) (len cap : Nat) (s : St) : Prop where
  b : W.cell? ⟨p, 0, none⟩ = some (.slice a len cap)
  i : W.cell? ⟨p, 1, none⟩ = some (.int .i64 (s.i : Int))
  h : W.cell? ⟨p, 2, none⟩ = some (.int .i64 s.h)
  f : ∀ o, W.frozen? ⟨p, o, none⟩ = false

/-- The bytes of the code lie below block p. -/
def CodeAt (W : World) (p : Nat) (a : Option Addr) (len : Nat) (zs : List Int) : Prop :=
  len ≤ 1048576 ∧ ∀ j, j < len → (0 ≤ zs.getD j 0 ∧ zs.getD j 0 ≤ 255) ∧ ∃ b off, a = some ⟨b, off, none⟩ ∧ b < p ∧ W.cell? ⟨b, off + j, none⟩ = some (.int .u8 (zs.getD j 0))

theorem CodeAt.lt {W : World} {p : Nat} {a : Option Addr} {len : Nat} {zs : List Int} (h : CodeAt W p a len zs) {q : Nat} (hq : p ≤ q) : CodeAt W q a len zs := by
  refine ⟨h.1, fun j hj => ?_⟩
  obtain ⟨h1, b, off, e, hp, hc⟩ := h.2 j hj
  exact ⟨h1, b, off, e, by omega, hc⟩
theorem CodeAt.below {W W' : World} {p : Nat} {a : Option Addr} {len : Nat} {zs : List Int} (h : CodeAt W p a len zs) (hb : Below p W W') : CodeAt W' p a len zs := by
  refine ⟨h.1, fun j hj => ?_⟩
  obtain ⟨h1, b, off, e, hp, hc⟩ := h.2 j hj
  exact ⟨h1, b, off, e, hp, by rw [hb.cell (p := ⟨b, off + j, none⟩) hp]; exact hc⟩

theorem set_other (W : World) (p o o' : Nat) (v : Value) (h : o ≠ o') : (W.setCell ⟨p, o, none⟩ v).cell? ⟨p, o', none⟩ = W.cell? ⟨p, o', none⟩ := by
  apply World.cell?_setCell_other
  exact fun e => h (by injection e)
theorem set_same (W : World) (p o : Nat) (u v : Value) (h : W.cell? ⟨p, o, none⟩ = some u) : (W.setCell ⟨p, o, none⟩ v).cell? ⟨p, o, none⟩ = some v := by
  apply World.cell?_setCell_same
  exact h
/-- w' is W but for what block p holds, and for new blocks. -/
def Only (p : Nat) (W w' : World) : Prop := W.grownBy w' (some p)
theorem Only.refl (p : Nat) (W : World) : Only p W W := World.grownBy.refl W _
theorem Only.trans {p : Nat} {a b c : World} (h : Only p a b) (k : Only p b c) : Only p a c :=
  ⟨k.os.trans h.os, k.tape.trans h.tape, k.output.trans h.output, Nat.le_trans h.size k.size, fun j hj hn => (k.block j (Nat.lt_of_lt_of_le hj h.size) hn).trans (h.block j hj hn)⟩
theorem Only.setCell {p : Nat} {a w : World} (h : Only p a w) (o : Nat) (v : Value) : Only p a (w.setCell ⟨p, o, none⟩ v) :=
  ⟨h.os, h.tape, h.output, by have := h.size; simpa using this, fun j hj hn => (Below.heap_setCell w ⟨p, o, none⟩ v j (fun e => hn (by rw [e]))).trans (h.block j hj hn)⟩
theorem Only.drewN {p : Nat} {a w : World} (h : Only p a w) (n : Nat) : Only p a (w.drewN n) := ⟨h.os, h.tape, h.output, h.size, h.block⟩
theorem Only.alloc {p : Nat} {a w : World} (h : Only p a w) (o : Obj) : Only p a (w.alloc o) :=
  ⟨h.os, h.tape, h.output, by have := h.size; simp; omega, fun j hj hn => (Below.heap_alloc w o j (Nat.lt_of_lt_of_le hj h.size)).trans (h.block j hj hn)⟩
theorem Only.below {p B : Nat} {W w' : World} (h : Only p W w') (hB : B ≤ p) (hp : p < W.heap.size) : Below B W w' :=
  ⟨h.os, h.tape, h.output, h.size, fun j hj => h.block j (by omega) (by simp; omega)⟩
theorem Only.cell {p : Nat} {W w' : World} (h : Only p W w') {q : Addr} (hq : q.block < W.heap.size) (hn : q.block ≠ p) : w'.cell? q = W.cell? q :=
  World.cell?_of_block (h.block q.block hq (by simp; exact hn))
theorem Only.frozen {p : Nat} {W w' : World} (h : Only p W w') {q : Addr} (hq : q.block < W.heap.size) (hn : q.block ≠ p) : w'.frozen? q = W.frozen? q :=
  World.frozen?_of_block (h.block q.block hq (by simp; exact hn))
theorem CurAt.lt {W : World} {p : Nat} {a : Option Addr} {len cap : Nat} {s : St} (h : CurAt W p a len cap s) : p < W.heap.size := World.block_lt_of_cell? W _ h.b

end Go.Proofs.YtjcmbbnklfemcaaGreat.Draw

set_option linter.unusedVariables false
namespace Go.Proofs.YtjcmbbnklfemcaaGreat.Draw
open Go Go.RowKit
/-- The cursor stands so, and its code can be read. -/
structure Dr (W : World) (p : Nat) (a : Option Addr) (len cap : Nat) (zs : List Int) (s : St) : Prop where
  cur : CurAt W p a len cap s
  code : CodeAt W p a len zs
  le : s.i ≤ len
theorem Dr.next {W w' : World} {p : Nat} {a : Option Addr} {len cap : Nat} {zs : List Int} {s s' : St} (h : Dr W p a len cap zs s) (c : CurAt w' p a len cap s') (b : Only p W w') (le : s'.i ≤ len) : Dr w' p a len cap zs s' :=
  ⟨c, h.code.below (b.below (Nat.le_refl _) h.cur.lt), le⟩
theorem Dr.alloc {W : World} {p : Nat} {a : Option Addr} {len cap : Nat} {zs : List Int} {s : St} (h : Dr W p a len cap zs s) (o : Obj) : Dr (W.alloc o) p a len cap zs s := by
  have hl := h.cur.lt
  have e : ∀ q : Addr, q.block < W.heap.size → (W.alloc o).cell? q = W.cell? q := fun q hq => World.cell?_of_block (Below.heap_alloc W o q.block hq)
  have ef : ∀ q : Addr, q.block < W.heap.size → (W.alloc o).frozen? q = W.frozen? q := fun q hq => World.frozen?_of_block (Below.heap_alloc W o q.block hq)
  exact ⟨⟨(e _ hl).trans h.cur.b, (e _ hl).trans h.cur.i, (e _ hl).trans h.cur.h, fun k => (ef _ hl).trans (h.cur.f k)⟩, h.code.below ((Below.refl p W).alloc (Nat.le_of_lt hl) o), h.le⟩
theorem Dr.drewN {W : World} {p : Nat} {a : Option Addr} {len cap : Nat} {zs : List Int} {s : St} (h : Dr W p a len cap zs s) (n : Nat) : Dr (W.drewN n) p a len cap zs s :=
  ⟨⟨h.cur.b, h.cur.i, h.cur.h, h.cur.f⟩, h.code, h.le⟩

end Go.Proofs.YtjcmbbnklfemcaaGreat.Draw

set_option linter.unusedVariables false
namespace Go.Proofs.YtjcmbbnklfemcaaGreat.Draw
open Go Go.RowKit
theorem Dr.grown {W w' : World} {p : Nat} {a : Option Addr} {len cap : Nat} {zs : List Int} {s : St} {row : Option Nat} (h : Dr W p a len cap zs s) (hg : W.grownBy w' row) (hr : ∀ k, row = some k → p < k) : Dr w' p a len cap zs s := by
  have hl := h.cur.lt
  have e : ∀ q : Addr, q.block = p → w'.cell? q = W.cell? q := fun q hq => World.cell?_of_block (by rw [hq]; exact hg.block p hl (fun e => by have := hr p e.symm; omega))
  have ef : ∀ q : Addr, q.block = p → w'.frozen? q = W.frozen? q := fun q hq => World.frozen?_of_block (by rw [hq]; exact hg.block p hl (fun e => by have := hr p e.symm; omega))
  refine ⟨⟨(e _ rfl).trans h.cur.b, (e _ rfl).trans h.cur.i, (e _ rfl).trans h.cur.h, fun k => (ef _ rfl).trans (h.cur.f k)⟩, h.code.below ⟨hg.os, hg.tape, hg.output, hg.size, fun j hj => hg.block j (by omega) (fun e => by have := hr j e.symm; omega)⟩, h.le⟩
/-- The cursor stands somewhere, its code can be read, and nothing else was written into since W. -/
def Cu (p : Nat) (a : Option Addr) (len cap : Nat) (zs : List Int) (W w : World) : Prop := (∃ s, Dr w p a len cap zs s) ∧ Only p W w
theorem Cu.start {p : Nat} {a : Option Addr} {len cap : Nat} {zs : List Int} {w : World} {s : St} (h : Dr w p a len cap zs s) : Cu p a len cap zs w w := ⟨⟨s, h⟩, Only.refl _ _⟩
theorem Cu.lt {p : Nat} {a : Option Addr} {len cap : Nat} {zs : List Int} {W w : World} (h : Cu p a len cap zs W w) : p < w.heap.size := by obtain ⟨⟨s, h⟩, _⟩ := h; exact h.cur.lt
theorem Cu.next {p : Nat} {a : Option Addr} {len cap : Nat} {zs : List Int} {W w w' : World} (h : Cu p a len cap zs W w) (k : Cu p a len cap zs w w') : Cu p a len cap zs W w' := ⟨k.1, h.2.trans k.2⟩
theorem Cu.alloc {p : Nat} {a : Option Addr} {len cap : Nat} {zs : List Int} {W w : World} (h : Cu p a len cap zs W w) (o : Obj) : Cu p a len cap zs W (w.alloc o) := by
  obtain ⟨⟨s, h⟩, k⟩ := h
  exact ⟨⟨s, h.alloc o⟩, k.alloc o⟩
theorem Cu.drew {p : Nat} {a : Option Addr} {len cap : Nat} {zs : List Int} {W w : World} (h : Cu p a len cap zs W w) : Cu p a len cap zs W w.drew := by
  obtain ⟨⟨s, h⟩, k⟩ := h
  exact ⟨⟨s, h.drewN 1⟩, k.drewN 1⟩
theorem Cu.setCell {p : Nat} {a : Option Addr} {len cap : Nat} {zs : List Int} {W w : World} (h : Cu p a len cap zs W w) (hp : p < W.heap.size) {g : Nat} (hg : W.heap.size ≤ g) (o : Nat) (v : Value) : Cu p a len cap zs W (w.setCell ⟨g, o, none⟩ v) := by
  obtain ⟨⟨s, h⟩, k⟩ := h
  refine ⟨⟨s, h.grown (row := some g) ⟨rfl, rfl, rfl, by simp, fun j hj hn => Below.heap_setCell w ⟨g, o, none⟩ v j (fun e => hn (by rw [e]))⟩ (fun k hk => by cases hk; omega)⟩, ⟨k.os, k.tape, k.output, by have := k.size; simpa using this, fun j hj hn => (Below.heap_setCell w ⟨g, o, none⟩ v j (fun e => by have : j = g := e; omega)).trans (k.block j hj hn)⟩⟩
theorem Cu.cell {p : Nat} {a : Option Addr} {len cap : Nat} {zs : List Int} {W w : World} (h : Cu p a len cap zs W w) {g : Nat} (hg : g < W.heap.size) (hn : p < g) (o : Nat) : w.cell? ⟨g, o, none⟩ = W.cell? ⟨g, o, none⟩ := h.2.cell (q := ⟨g, o, none⟩) hg (by show g ≠ p; omega)
theorem Cu.frozen {p : Nat} {a : Option Addr} {len cap : Nat} {zs : List Int} {W w : World} (h : Cu p a len cap zs W w) {g : Nat} (hg : g < W.heap.size) (hn : p < g) (o : Nat) : w.frozen? ⟨g, o, none⟩ = W.frozen? ⟨g, o, none⟩ := h.2.frozen (q := ⟨g, o, none⟩) hg (by show g ≠ p; omega)
theorem Cu.size {p : Nat} {a : Option Addr} {len cap : Nat} {zs : List Int} {W w : World} (h : Cu p a len cap zs W w) : W.heap.size ≤ w.heap.size := h.2.size
end Go.Proofs.YtjcmbbnklfemcaaGreat.Draw
