/- Rests: Entails, of the model. -/
import Derived.Test.YthhodbpliaiglaaRest2
import Derived.Deep.RegionHeld3
set_option linter.unusedVariables false
namespace Go.Proofs.Ythhodbpliaiglaa
open Go Go.RowKit


/-- A rest is within another one. -/
def entB (a b c x y z : Int) : Bool := rOk a b c && (rOk x y z && (andI a x == a && (andI b y == b && decide (c ≤ z))))

set_option maxRecDepth 100000 in
set_option maxHeartbeats 3200000 in
theorem specEntails_is (a b c x y z : Int) (w : World) : Calls Try.prog 21 #[rv a b c, rv x y z] w fun e w' => e = .returned (.bool (entB a b c x y z)) ∧ Below w.heap.size w w' := by
  obtain ⟨W2, hW2⟩ : ∃ W2, (w.alloc (.cells #[.int .i64 a, .int .i64 b, .int .i64 c] 25)).alloc (.cells #[.int .i64 x, .int .i64 y, .int .i64 z] 25) = W2 := ⟨_, rfl⟩
  have hb0 : Below w.heap.size w W2 := by rw [← hW2]; exact ((Below.refl _ _).alloc (Nat.le_refl _) _).alloc (by simp) _
  have hz : Hid (W2.heap.size = w.heap.size + 2) := by show W2.heap.size = w.heap.size + 2; rw [← hW2]; simp
  have T0 : Two w.heap.size a b c x y z W2 := by rw [← hW2]; constructor <;> simp [go_sem]
  have Z : Hid (w.heap.size + 2 ≤ W2.heap.size) := by have := hz.out; show w.heap.size + 2 ≤ W2.heap.size; omega
  have R1 : Hid (∀ w, Calls Try.prog 13 #[rv a b c] w fun e w' => e = .returned (.bool (rOk a b c)) ∧ Below w.heap.size w w') := specOk_is a b c
  have R2 : Hid (∀ w, Calls Try.prog 13 #[rv x y z] w fun e w' => e = .returned (.bool (rOk x y z)) ∧ Below w.heap.size w w') := specOk_is x y z
  obtain ⟨d0, d1, d2, d3, d4, d5⟩ := T0
  have TT : Two w.heap.size a b c x y z W2 := ⟨d0, d1, d2, d3, d4, d5⟩
  go_enter Try.func21, Try.ntmps21
  go_wp2_with fail
  try rw [hW2]
  refine (R1.out _).mono ?_
  rintro e w1 ⟨rfl, hb1⟩
  clear hW2 d0 d1 d2 d3 d4 d5
  by_cases h0 : rOk a b c = true
  · rw [h0]
    obtain ⟨e0, e1, e2, e3, e4, e5⟩ := TT.later hb1 Z.out
    go_wp2_with fail
    refine (R2.out _).mono ?_
    rintro e w2 ⟨rfl, hb2⟩
    have B2 := hb1.trans (hb2.mono hb1.size)
    have BB := hb0.trans (B2.mono hb0.size)
    clear e0 e1 e2 e3 e4 e5
    by_cases h1 : rOk x y z = true
    · rw [h1]
      obtain ⟨e0, e1, e2, e3, e4, e5⟩ := TT.later B2 Z.out
      by_cases g0 : andI a x = a
      · have g0' : (bits .and .i64 a x == a) = true := by simpa [andI] using g0
        by_cases g1 : andI b y = b
        · have g1' : (bits .and .i64 b y == b) = true := by simpa [andI] using g1
          go_wp2
          go_ret
          exact ⟨by unfold entB; rw [h0, h1, g0, g1]; simp, BB⟩
        · have g1' : (bits .and .i64 b y == b) = false := by simpa [andI] using g1
          go_wp2
          go_ret
          exact ⟨by unfold entB; rw [h0, h1, g0]; unfold andI; rw [g1']; simp, BB⟩
      · have g0' : (bits .and .i64 a x == a) = false := by simpa [andI] using g0
        go_wp2
        go_ret
        exact ⟨by unfold entB; rw [h0, h1]; unfold andI; rw [g0']; rfl, BB⟩
    · rw [Bool.not_eq_true] at h1
      rw [h1]
      go_wp2
      go_ret
      exact ⟨by unfold entB; rw [h0, h1]; rfl, BB⟩
  · rw [Bool.not_eq_true] at h0
    rw [h0]
    have BB := hb0.trans (hb1.mono hb0.size)
    go_wp2
    go_ret
    exact ⟨by unfold entB; rw [h0]; rfl, BB⟩
end Go.Proofs.Ythhodbpliaiglaa
