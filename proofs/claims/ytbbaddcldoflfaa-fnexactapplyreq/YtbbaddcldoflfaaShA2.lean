/- Authenticators as texts: both sides, and the law. -/
import Derived.Test.YtbbaddcldoflfaaShA
import Derived.Test.YtbbaddcldoflfaaRes5
set_option linter.unusedVariables false
namespace Go.Proofs.Ytbbaddcldoflfaa
open Go Go.RowKit Own Var Term

set_option maxRecDepth 100000 in
set_option maxHeartbeats 800000 in
theorem toAuth_is (c t q : Int) (w : World) : Calls Try.prog 14 #[.agg #[.int .i64 c, .int .i64 t, .int .i64 q]] w fun en w' => en = .returned (.agg #[.int .i64 c, .int .i64 t, .int .i64 q]) ∧ Below w.heap.size w w' := by
  have hb0 : Below w.heap.size w (((w.alloc (.cells #[.int .i64 c, .int .i64 t, .int .i64 q] 38)).alloc (.cells #[.int .i64 c, .int .i64 t, .int .i64 q] 40)).alloc (.cells #[.int .i64 c, .int .i64 t, .int .i64 q] 40)) :=
    (((Below.refl _ _).alloc (Nat.le_refl _) _).alloc (by simp) _).alloc (by simp; omega) _
  go_enter Try.func14, Try.ntmps14
  go_wp2
  exact bodyPost_ret (res_a rfl _ _ (w.heap.size + 1) _ _ _ rfl (by simp [go_sem]) (by simp [go_sem]) (by simp [go_sem])) rfl ⟨rfl, hb0⟩

set_option maxRecDepth 100000 in
set_option maxHeartbeats 800000 in
theorem implShowA_is (c t q : Int) (key : Int) (w : World) : Calls Try.prog 36 #[.agg #[.int .i64 c, .int .i64 t, .int .i64 q], .int .i64 key] w fun en w' => en = .returned (.string (shA c t q key)) ∧ Below w.heap.size w w' := by
  have B0 : Below w.heap.size w (w.alloc (.cells #[.int .i64 c, .int .i64 t, .int .i64 q] 40)) := (Below.refl _ _).alloc (Nat.le_refl _) _
  go_enter Try.func36, Try.ntmps36
  go_wp2_with fail
  refine (showA_is c t q key _).mono ?_
  rintro en w1 ⟨rfl, hb1⟩
  have B1 := B0.trans (hb1.mono B0.size)
  clear B0 hb1
  go_wp2
  go_ret
  exact ⟨rfl, B1⟩

set_option maxRecDepth 100000 in
set_option maxHeartbeats 1600000 in
theorem specShowA_is (c t q key : Int) (w : World) : Calls Try.prog 33 #[.agg #[.int .i64 c, .int .i64 t, .int .i64 q], .int .i64 key] w fun en w' => en = .returned (.string (shA c t q key)) ∧ Below w.heap.size w w' := by
  obtain ⟨W1, hW1⟩ : ∃ W1, w.alloc (.cells #[.int .i64 c, .int .i64 t, .int .i64 q] 40) = W1 := ⟨_, rfl⟩
  have B1 : Below w.heap.size w W1 := by rw [← hW1]; exact (Below.refl _ _).alloc (Nat.le_refl _) _
  have T1 : Blk w.heap.size [.int .i64 c, .int .i64 t, .int .i64 q] W1 := by rw [← hW1]; exact Blk.new _ _ _
  have Z1 : Hid (w.heap.size < W1.heap.size) := by show _ < _; rw [← hW1]; simp
  have d0 := T1.at 0 rfl
  have d1 := T1.at 1 rfl
  have d2 := T1.at 2 rfl
  go_enter Try.func33, Try.ntmps33
  go_wp2_with fail
  try rw [hW1]
  refine (spec_authOk c t q _).mono ?_
  clear hW1
  rintro en w2 ⟨rfl, hb2⟩
  have T2 := T1.later hb2 Z1.out
  have B2 := B1.trans (hb2.mono B1.size)
  clear T1 Z1 B1 hb2 d0 d1 d2
  by_cases h0 : aOk c t q = true
  · rw [h0]
    have d0 := T2.at 0 rfl
    have d1 := T2.at 1 rfl
    have d2 := T2.at 2 rfl
    have X3 := (Below.refl w2.heap.size w2).alloc (Nat.le_refl _) (.cells #[.int .i64 7, .int .i64 c, .int .i64 t, .int .i64 q] 3)
    have B3 := B2.trans (X3.mono B2.size)
    have HN := spec_nums (some ⟨w2.heap.size, 0, none⟩) 4 [7, c, t, q] _ (row_new (Value.int .i64) w2 [7, c, t, q] 3) (by simp)
    go_wp2_with fail
    refine HN.mono ?_
    rintro en w4 ⟨rfl, hb4⟩
    have B4 := B3.trans (hb4.mono B3.size)
    clear HN d0 d1 d2 T2 X3 B3 B2 hb4
    go_wp2_with fail
    refine (spec_seal key (numsT [7, c, t, q]) _ (Nat.le_trans (listT_size _) (by omega))).mono ?_
    rintro en w5 ⟨rfl, hb5⟩
    have B5 := B4.trans (hb5.mono B4.size)
    clear B4 hb5
    go_wp2
    go_ret
    exact ⟨by unfold shA; rw [h0]; rfl, B5⟩
  · rw [Bool.not_eq_true] at h0
    rw [h0]
    go_wp2
    go_ret
    exact ⟨by unfold shA; rw [h0]; rfl, B2⟩
end Go.Proofs.Ytbbaddcldoflfaa
