/- The chain of a key. -/
import Derived.Test.YthmompnlkclfaaaCh
import Derived.Test.YthmompnlkclfaaaPl
set_option linter.unusedVariables false
set_option maxRecDepth 100000
namespace Go.Proofs.Ythmompnlkclfaaa
open Go Go.RowKit Go.Joins Own Draw

/-- What comes ahead of an event: the key of the ticket that was asked with, and of the one that is handed on. -/
def awV (p : TE) : Int × Bool := if kdE p = 2 ∨ kdE p = 3 ∨ kdE p = 4 then (paE p, true) else (0, false)
def hoV (p : TE) : Int × Bool := if kdE p = 4 then (evE p, true) else awV p
set_option maxRecDepth 100000 in
set_option maxHeartbeats 1600000 in
theorem asked_is (p : TE) (w : World) :
    Calls Try.prog 41 #[vE p] w fun e w' => e = .returned (.tuple #[.int .i64 (awV p).1, .bool (awV p).2]) ∧ Below w.heap.size w w' := by
  obtain ⟨p0, p1, p2, p3, p4, p5, p6, p7, p8, p9, p10⟩ := p
  obtain ⟨V, hV⟩ : ∃ V, w.alloc (.cells #[.int .i64 p0, .int .i64 p1, .int .i64 p2, .int .i64 p3, .int .i64 p4, .int .i64 p5, .int .i64 p6, .int .i64 p7, .int .i64 p8, .int .i64 p9, .int .i64 p10] 48) = V := ⟨_, rfl⟩
  have TV : Blk w.heap.size [.int .i64 p0, .int .i64 p1, .int .i64 p2, .int .i64 p3, .int .i64 p4, .int .i64 p5, .int .i64 p6, .int .i64 p7, .int .i64 p8, .int .i64 p9, .int .i64 p10] V := by rw [← hV]; exact Blk.new _ _ _
  have bV : Below w.heap.size w V := by rw [← hV]; exact (Below.refl _ _).alloc (Nat.le_refl _) _
  have d0 := TV.at 0 rfl
  have d6 := TV.at 6 rfl
  have d7 := TV.at 7 rfl
  unfold awV kdE paE
  simp only
  go_enter Try.func41, Try.ntmps41
  by_cases e2 : p0 = 2
  · subst e2
    rw [if_pos (by omega)]
    go_wp2
    go_ret2
    exact ⟨rfl, bV⟩
  by_cases e3 : p0 = 3
  · subst e3
    rw [if_pos (by omega)]
    go_wp2
    go_ret2
    exact ⟨rfl, bV⟩
  by_cases e4 : p0 = 4
  · subst e4
    rw [if_pos (by omega)]
    go_wp2
    go_ret2
    exact ⟨rfl, bV⟩
  rw [if_neg (by omega)]
  have q2 : (p0 == 2) = false := beq_eq_false_iff_ne.2 e2
  have q3 : (p0 == 3) = false := beq_eq_false_iff_ne.2 e3
  have q4 : (p0 == 4) = false := beq_eq_false_iff_ne.2 e4
  clear e2 e3 e4
  go_wp2
  go_ret2
  exact ⟨rfl, bV⟩
set_option maxRecDepth 100000 in
set_option maxHeartbeats 1600000 in
theorem handed_is (p : TE) (w : World) :
    Calls Try.prog 29 #[vE p] w fun e w' => e = .returned (.tuple #[.int .i64 (hoV p).1, .bool (hoV p).2]) ∧ Below w.heap.size w w' := by
  have A := fun w => asked_is p w
  by_cases e4 : kdE p = 4
  · have HH : hoV p = (evE p, true) := if_pos e4
    rw [HH]
    clear HH A
    obtain ⟨p0, p1, p2, p3, p4, p5, p6, p7, p8, p9, p10⟩ := p
    have q4 : (p0 == 4) = true := beq_iff_eq.2 e4
    clear e4
    obtain ⟨V, hV⟩ : ∃ V, w.alloc (.cells #[.int .i64 p0, .int .i64 p1, .int .i64 p2, .int .i64 p3, .int .i64 p4, .int .i64 p5, .int .i64 p6, .int .i64 p7, .int .i64 p8, .int .i64 p9, .int .i64 p10] 48) = V := ⟨_, rfl⟩
    have TV : Blk w.heap.size [.int .i64 p0, .int .i64 p1, .int .i64 p2, .int .i64 p3, .int .i64 p4, .int .i64 p5, .int .i64 p6, .int .i64 p7, .int .i64 p8, .int .i64 p9, .int .i64 p10] V := by rw [← hV]; exact Blk.new _ _ _
    have bV : Below w.heap.size w V := by rw [← hV]; exact (Below.refl _ _).alloc (Nat.le_refl _) _
    have d0 := TV.at 0 rfl
    have d6 := TV.at 6 rfl
    have d7 := TV.at 7 rfl
    go_enter Try.func29, Try.ntmps29
    go_wp2
    go_ret2
    exact ⟨rfl, bV⟩
  · have HH : hoV p = awV p := if_neg e4
    rw [HH]
    clear HH
    generalize awV p = v at A
    obtain ⟨v1, v2⟩ := v
    obtain ⟨p0, p1, p2, p3, p4, p5, p6, p7, p8, p9, p10⟩ := p
    have q4 : (p0 == 4) = false := beq_eq_false_iff_ne.2 e4
    clear e4
    obtain ⟨V, hV⟩ : ∃ V, w.alloc (.cells #[.int .i64 p0, .int .i64 p1, .int .i64 p2, .int .i64 p3, .int .i64 p4, .int .i64 p5, .int .i64 p6, .int .i64 p7, .int .i64 p8, .int .i64 p9, .int .i64 p10] 48) = V := ⟨_, rfl⟩
    have TV : Blk w.heap.size [.int .i64 p0, .int .i64 p1, .int .i64 p2, .int .i64 p3, .int .i64 p4, .int .i64 p5, .int .i64 p6, .int .i64 p7, .int .i64 p8, .int .i64 p9, .int .i64 p10] V := by rw [← hV]; exact Blk.new _ _ _
    have bV : Below w.heap.size w V := by rw [← hV]; exact (Below.refl _ _).alloc (Nat.le_refl _) _
    have d0 := TV.at 0 rfl
    have d6 := TV.at 6 rfl
    have d7 := TV.at 7 rfl
    have d1 := TV.at 1 rfl
    have d2 := TV.at 2 rfl
    have d3 := TV.at 3 rfl
    have d4 := TV.at 4 rfl
    have d5 := TV.at 5 rfl
    have d8 := TV.at 8 rfl
    have d9 := TV.at 9 rfl
    have d10 := TV.at 10 rfl
    have A1 := A V
    clear A
    go_enter Try.func29, Try.ntmps29
    go_wp2_with fail
    refine A1.mono ?_
    clear A1
    rintro en w2 ⟨rfl, hb2⟩
    replace bV := bV.trans (hb2.mono bV.size)
    clear hb2
    go_wp2
    go_ret2
    exact ⟨rfl, bV⟩
end Go.Proofs.Ythmompnlkclfaaa
