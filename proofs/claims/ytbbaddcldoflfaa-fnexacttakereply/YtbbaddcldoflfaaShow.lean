/- Rests as texts: ShowRest, of the program and of the model, and its law. -/
import Derived.Test.YtbbaddcldoflfaaWalks
import Derived.Test.YtbbaddcldoflfaaNums
set_option linter.unusedVariables false
namespace Go.Proofs.Ytbbaddcldoflfaa
open Go.RowKit Own Var Term

/-- What a rest is shown as. -/
def shR (a b c : Int) : ByteArray := if rOk a b c then numsT [a, b, c] else ⟨#[]⟩
theorem row3 (w : World) (a b c : Int) : RowAt (Value.int .i64) (w.alloc (.cells #[.int .i64 a, .int .i64 b, .int .i64 c] 3)) (some ⟨w.heap.size, 0, none⟩) [a, b, c] := by
  intro j hj
  simp only [List.length_cons, List.length_nil] at hj
  refine ⟨w.heap.size, 0, rfl, by simp, ?_⟩
  have : j = 0 ∨ j = 1 ∨ j = 2 := by omega
  rcases this with rfl | rfl | rfl <;> simp [go_sem]

set_option maxRecDepth 100000 in
set_option maxHeartbeats 1600000 in
theorem implShow_is (a b c : Int) (w : World) : Calls Try.prog 82 #[rv a b c] w fun e w' => e = .returned (.string (shR a b c)) ∧ Below w.heap.size w w' := by
  obtain ⟨W1, hW1⟩ : ∃ W1, w.alloc (.cells #[.int .i64 a, .int .i64 b, .int .i64 c] 28) = W1 := ⟨_, rfl⟩
  have hb0 : Below w.heap.size w W1 := by rw [← hW1]; exact (Below.refl _ _).alloc (Nat.le_refl _) _
  have Z : w.heap.size + 1 ≤ W1.heap.size := by rw [← hW1]; simp
  have T0 : One w.heap.size a b c W1 := by rw [← hW1]; constructor <;> simp [go_sem]
  have ZH := show Hid (w.heap.size + 1 ≤ W1.heap.size) from Z
  clear Z
  obtain ⟨d0, d1, d2⟩ := T0
  go_enter Try.func82, Try.ntmps82
  go_wp2_with fail
  try rw [hW1]
  refine (right_is a b c _).mono ?_
  clear hW1
  rintro e w1 ⟨rfl, hb1⟩
  have T0 : One w.heap.size a b c W1 := ⟨d0, d1, d2⟩
  clear d0 d1 d2
  obtain ⟨d0, d1, d2⟩ := T0.later hb1 ZH.out
  have B1 := hb0.trans (hb1.mono hb0.size)
  clear T0 ZH
  by_cases h0 : rOk a b c = true
  · rw [h0]
    have X2 := (Below.refl w1.heap.size w1).alloc (Nat.le_refl _) (.cells #[.int .i64 a, .int .i64 b, .int .i64 c] 3)
    have B2 := B1.trans (X2.mono B1.size)
    have HN := impl_nums (some ⟨w1.heap.size, 0, none⟩) 3 [a, b, c] _ (row3 w1 a b c) (by simp)
    go_wp2_with fail
    refine HN.mono ?_
    rintro e w3 ⟨rfl, hb3⟩
    have B3 := B2.trans (hb3.mono B2.size)
    clear HN d0 d1 d2
    go_wp2
    go_ret
    exact ⟨by unfold shR; rw [h0]; rfl, B3⟩
  · rw [Bool.not_eq_true] at h0
    rw [h0]
    go_wp2
    go_ret
    exact ⟨by unfold shR; rw [h0]; rfl, B1⟩
end Go.Proofs.Ytbbaddcldoflfaa
