/- Rests: Meet of the model, Entails and Permits of both, and what the laws compare by. -/
import Derived.Test.YtbbaddcldoflfaaRest
import Derived.Deep.RegionHeld3
set_option linter.unusedVariables false
namespace Go.Proofs.Ytbbaddcldoflfaa
open Go Go.RowKit

theorem Two.six {s : Nat} {a b c x y z : Int} {W : World} (h : Two s a b c x y z W) : W.cell? ⟨s, 0, none⟩ = some (.int .i64 a) ∧ W.cell? ⟨s, 1, none⟩ = some (.int .i64 b) ∧ W.cell? ⟨s, 2, none⟩ = some (.int .i64 c) ∧ W.cell? ⟨s + 1, 0, none⟩ = some (.int .i64 x) ∧ W.cell? ⟨s + 1, 1, none⟩ = some (.int .i64 y) ∧ W.cell? ⟨s + 1, 2, none⟩ = some (.int .i64 z) := ⟨h.a, h.b, h.c, h.x, h.y, h.z⟩
theorem Two.drew {s : Nat} {a b c x y z : Int} {W : World} (h : Two s a b c x y z W) : Two s a b c x y z W.drew := ⟨by simpa using h.a, by simpa using h.b, by simpa using h.c, by simpa using h.x, by simpa using h.y, by simpa using h.z⟩

theorem set3_more {n g : Nat} {w W : World} {p q r : Value} (h : Below n w (set3 W g p q r) ∧ (set3 W g p q r).cell? ⟨g, 0, none⟩ = some p ∧ (set3 W g p q r).cell? ⟨g, 1, none⟩ = some q ∧ (set3 W g p q r).cell? ⟨g, 2, none⟩ = some r) (hg : g < W.heap.size) (hn : n ≤ g) (o : Obj) :
    Below n w ((set3 W g p q r).alloc o) ∧ ((set3 W g p q r).alloc o).cell? ⟨g, 0, none⟩ = some p ∧ ((set3 W g p q r).alloc o).cell? ⟨g, 1, none⟩ = some q ∧ ((set3 W g p q r).alloc o).cell? ⟨g, 2, none⟩ = some r := by
  have hs : g < (set3 W g p q r).heap.size := by simpa [set3] using hg
  have X := (Below.refl (set3 W g p q r).heap.size (set3 W g p q r)).alloc (Nat.le_refl _) o
  refine ⟨?_, (X.cell (p := ⟨g, 0, none⟩) hs).trans h.2.1, (X.cell (p := ⟨g, 1, none⟩) hs).trans h.2.2.1, (X.cell (p := ⟨g, 2, none⟩) hs).trans h.2.2.2⟩
  exact h.1.alloc (by omega) o

set_option maxRecDepth 100000 in
set_option maxHeartbeats 1600000 in
theorem eqRest_is (a b c : Int) (w : World) : Calls Try.prog 30 #[rv a b c, rv a b c] w fun e w' => e = .returned (.bool true) ∧ Below w.heap.size w w' := by
  have hb0 : Below w.heap.size w ((w.alloc (.cells #[.int .i64 a, .int .i64 b, .int .i64 c] 28)).alloc (.cells #[.int .i64 a, .int .i64 b, .int .i64 c] 28)) := ((Below.refl _ _).alloc (Nat.le_refl _) _).alloc (by simp) _
  go_enter Try.func30, Try.ntmps30
  go_wp2
  go_ret
  exact ⟨rfl, hb0⟩

/-- What a rest permits. -/
def perB (a b c s o n : Int) : Bool := hasB a s && (hasB b o && inB n c)

/-- What the model says a rest permits. -/
def perS (a b c s o n : Int) : Bool := rOk a b c && (inB s 2 && (inB o 7 && (hasB a s && (hasB b o && inB n c))))
end Go.Proofs.Ytbbaddcldoflfaa
