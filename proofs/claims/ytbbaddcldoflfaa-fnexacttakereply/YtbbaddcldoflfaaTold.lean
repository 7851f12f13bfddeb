/- What is told of what was shown. -/
import Derived.Test.YtbbaddcldoflfaaTickMath
import Derived.Test.YtbbaddcldoflfaaRes5
set_option linter.unusedVariables false
namespace Go.Proofs.Ytbbaddcldoflfaa
open Go Go.RowKit Own Var Term

theorem ne_text {x s : ByteArray} (h : ¬ x = s) : (x.toList == s.toList) = false := by
  rw [beq_eq_false_iff_ne]
  intro e
  apply h
  apply ext_list
  simpa [ByteArray.toList_eq] using e
def toldB (x s : ByteArray) : Bool := decide (x.size ≠ 0) && decide (x = s)
set_option maxRecDepth 100000 in
set_option maxHeartbeats 3200000 in
theorem toldG_is (k s0 n a b e : Int) (key : Int) (x s : ByteArray) (w : World) : Calls Try.prog 53 #[.agg #[.int .i64 k, .int .i64 s0, .int .i64 n, .int .i64 a, .int .i64 b, .int .i64 e, .int .i64 key], .string x, .string s] w fun en w' => en = .returned (.tuple #[.agg #[if toldB x s then .int .i64 k else .int .i64 0, if toldB x s then .int .i64 s0 else .int .i64 0, if toldB x s then .int .i64 n else .int .i64 0, if toldB x s then .int .i64 a else .int .i64 0, if toldB x s then .int .i64 b else .int .i64 0, if toldB x s then .int .i64 e else .int .i64 0], .bool (toldB x s)]) ∧ Below w.heap.size w w' := by
  have B2 : Below w.heap.size w ((w.alloc (.cells #[.int .i64 k, .int .i64 s0, .int .i64 n, .int .i64 a, .int .i64 b, .int .i64 e, .int .i64 key] 78)).alloc (.cells #[.int .i64 k, .int .i64 s0, .int .i64 n, .int .i64 a, .int .i64 b, .int .i64 e] 56)) := ((Below.refl _ _).alloc (Nat.le_refl _) _).alloc (by simp) _
  have B3 : Below w.heap.size w (((w.alloc (.cells #[.int .i64 k, .int .i64 s0, .int .i64 n, .int .i64 a, .int .i64 b, .int .i64 e, .int .i64 key] 78)).alloc (.cells #[.int .i64 0, .int .i64 0, .int .i64 0, .int .i64 0, .int .i64 0, .int .i64 0] 56)).alloc (.cells #[.int .i64 0, .int .i64 0, .int .i64 0, .int .i64 0, .int .i64 0, .int .i64 0] 56)) := (((Below.refl _ _).alloc (Nat.le_refl _) _).alloc (by simp) _).alloc (by simp; omega) _
  by_cases h0 : x = ⟨#[]⟩
  · have ht : toldB x s = false := by unfold toldB; rw [h0]; rfl
    rw [ht]
    subst h0
    go_enter Try.func53, Try.ntmps53
    go_wp2
    exact bodyPost_ret (res_gb rfl _ _ (w.heap.size + 1) _ _ _ _ _ _ (.bool false) rfl rfl (by simp [go_sem]) (by simp [go_sem]) (by simp [go_sem]) (by simp [go_sem]) (by simp [go_sem]) (by simp [go_sem])) rfl ⟨rfl, B3⟩
  · have q2 := ne_nil x (by rcases Nat.eq_zero_or_pos x.size with h | h; exact absurd (empty_of x h) h0; exact h)
    by_cases h1 : x = s
    · have ht : toldB x s = true := by unfold toldB; simp [h1]; intro h; exact h0 (h1.trans h)
      rw [ht]
      subst h1
      go_enter Try.func53, Try.ntmps53
      go_wp2
      exact bodyPost_ret (res_gb rfl _ _ (w.heap.size + 1) _ _ _ _ _ _ (.bool true) rfl rfl (by simp [go_sem]) (by simp [go_sem]) (by simp [go_sem]) (by simp [go_sem]) (by simp [go_sem]) (by simp [go_sem])) rfl ⟨rfl, B2⟩
    · have ht : toldB x s = false := by unfold toldB; simp [h1]
      have q4 := ne_text h1
      rw [ht]
      go_enter Try.func53, Try.ntmps53
      go_wp2
      exact bodyPost_ret (res_gb rfl _ _ (w.heap.size + 1) _ _ _ _ _ _ (.bool false) rfl rfl (by simp [go_sem]) (by simp [go_sem]) (by simp [go_sem]) (by simp [go_sem]) (by simp [go_sem]) (by simp [go_sem])) rfl ⟨rfl, B3⟩
end Go.Proofs.Ytbbaddcldoflfaa
