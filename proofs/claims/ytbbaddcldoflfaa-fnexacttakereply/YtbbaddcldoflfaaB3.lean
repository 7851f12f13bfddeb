/- Blocks of three numbers. -/
import Derived.Test.YtbbaddcldoflfaaRest2
set_option linter.unusedVariables false
namespace Go.Proofs.Ytbbaddcldoflfaa.Draw
open Go Go.RowKit

/-- A block of three numbers. -/
structure B3 (g : Nat) (x y z : Int) (W : World) : Prop where
  c0 : W.cell? ⟨g, 0, none⟩ = some (.int .i64 x)
  c1 : W.cell? ⟨g, 1, none⟩ = some (.int .i64 y)
  c2 : W.cell? ⟨g, 2, none⟩ = some (.int .i64 z)
  f0 : W.frozen? ⟨g, 0, none⟩ = false
  f1 : W.frozen? ⟨g, 1, none⟩ = false
  f2 : W.frozen? ⟨g, 2, none⟩ = false
theorem B3.new (w : World) (x y z : Int) (t : TypeId) : B3 w.heap.size x y z (w.alloc (.cells #[.int .i64 x, .int .i64 y, .int .i64 z] t)) := by constructor <;> simp [go_sem]

theorem B3.set0 {g : Nat} {x y z : Int} {W : World} (h : B3 g x y z W) (v : Int) : B3 g v y z (W.setCell ⟨g, 0, none⟩ (.int .i64 v)) :=
  ⟨World.cell?_setCell_same' _ _ _ (by rw [h.c0]; rfl), by rw [World.cell?_setCell_other _ _ _ _ (by simp)]; exact h.c1, by rw [World.cell?_setCell_other _ _ _ _ (by simp)]; exact h.c2, by simpa using h.f0, by simpa using h.f1, by simpa using h.f2⟩
theorem B3.set1 {g : Nat} {x y z : Int} {W : World} (h : B3 g x y z W) (v : Int) : B3 g x v z (W.setCell ⟨g, 1, none⟩ (.int .i64 v)) :=
  ⟨by rw [World.cell?_setCell_other _ _ _ _ (by simp)]; exact h.c0, World.cell?_setCell_same' _ _ _ (by rw [h.c1]; rfl), by rw [World.cell?_setCell_other _ _ _ _ (by simp)]; exact h.c2, by simpa using h.f0, by simpa using h.f1, by simpa using h.f2⟩
theorem B3.set2 {g : Nat} {x y z : Int} {W : World} (h : B3 g x y z W) (v : Int) : B3 g x y v (W.setCell ⟨g, 2, none⟩ (.int .i64 v)) :=
  ⟨by rw [World.cell?_setCell_other _ _ _ _ (by simp)]; exact h.c0, by rw [World.cell?_setCell_other _ _ _ _ (by simp)]; exact h.c1, World.cell?_setCell_same' _ _ _ (by rw [h.c2]; rfl), by simpa using h.f0, by simpa using h.f1, by simpa using h.f2⟩
theorem B3.other {g g' : Nat} {x y z : Int} {W : World} (h : B3 g x y z W) (o : Nat) (v : Value) (hn : g' ≠ g) : B3 g x y z (W.setCell ⟨g', o, none⟩ v) :=
  ⟨by rw [World.cell?_setCell_other _ _ _ _ (by simp)]; exact h.c0, by rw [World.cell?_setCell_other _ _ _ _ (by simp)]; exact h.c1, by rw [World.cell?_setCell_other _ _ _ _ (by simp)]; exact h.c2, by simpa using h.f0, by simpa using h.f1, by simpa using h.f2⟩
theorem B3.alloc {g : Nat} {x y z : Int} {W : World} (h : B3 g x y z W) (hg : g < W.heap.size) (o : Obj) : B3 g x y z (W.alloc o) := by
  have X := (Below.refl W.heap.size W).alloc (Nat.le_refl _) o
  exact ⟨(X.cell (p := ⟨g, 0, none⟩) hg).trans h.c0, (X.cell (p := ⟨g, 1, none⟩) hg).trans h.c1, (X.cell (p := ⟨g, 2, none⟩) hg).trans h.c2, (X.frozen (p := ⟨g, 0, none⟩) hg).trans h.f0, (X.frozen (p := ⟨g, 1, none⟩) hg).trans h.f1, (X.frozen (p := ⟨g, 2, none⟩) hg).trans h.f2⟩
theorem B3.below {g : Nat} {x y z : Int} {W w : World} (h : B3 g x y z W) (hb : Below W.heap.size W w) (hg : g < W.heap.size) : B3 g x y z w :=
  ⟨(hb.cell (p := ⟨g, 0, none⟩) hg).trans h.c0, (hb.cell (p := ⟨g, 1, none⟩) hg).trans h.c1, (hb.cell (p := ⟨g, 2, none⟩) hg).trans h.c2, (hb.frozen (p := ⟨g, 0, none⟩) hg).trans h.f0, (hb.frozen (p := ⟨g, 1, none⟩) hg).trans h.f1, (hb.frozen (p := ⟨g, 2, none⟩) hg).trans h.f2⟩
theorem B3.drew {g : Nat} {x y z : Int} {W : World} (h : B3 g x y z W) : B3 g x y z W.drew := ⟨by simpa using h.c0, by simpa using h.c1, by simpa using h.c2, by simpa using h.f0, by simpa using h.f1, by simpa using h.f2⟩
theorem B3.put3 {g : Nat} {x y z : Int} {W : World} (h : B3 g x y z W) (u v t : Int) : B3 g u v t (set3 W g (.int .i64 u) (.int .i64 v) (.int .i64 t)) := ((h.set0 u).set1 v).set2 t
theorem B3.far {g s : Nat} {x y z : Int} {W : World} (h : B3 g x y z W) (hn : s ≠ g) (u v t : Value) : B3 g x y z (set3 W s u v t) := ((h.other 0 u hn).other 1 v hn).other 2 t hn
end Go.Proofs.Ytbbaddcldoflfaa.Draw
