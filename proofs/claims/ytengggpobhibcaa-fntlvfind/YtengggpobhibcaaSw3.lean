/- The program: is a node right? -/
import Derived.Test.YtengggpobhibcaaSw2
set_option linter.unusedVariables false
set_option maxRecDepth 100000
namespace Go.Proofs.Ytengggpobhibcaa.Nd
open Go Go.RowKit Go.Joins Own Draw Var

theorem ne_nil (s : ByteArray) (h : 1 ≤ s.size) : (s.toList == []) = false := by
  rw [Bool.eq_false_iff]; intro hh; simp at hh
  rw [ByteArray.toList_eq] at hh
  have h1 := congrArg List.length hh
  have h2 : s.data.toList.length = s.size := rfl
  rw [h2] at h1
  simp at h1
  rw [h1] at h
  exact absurd h (by decide)
theorem nil_is {s : ByteArray} (h : s = ⟨#[]⟩) : (s.toList == []) = true := by
  rw [h, ByteArray.toList_eq]; rfl
theorem sz_pos {s : ByteArray} (h : ¬ s = ⟨#[]⟩) : 1 ≤ s.size := by
  rcases Nat.eq_zero_or_pos s.size with h0 | h0
  · exact absurd (ba_ext (by rw [List.eq_nil_of_length_eq_zero (show s.data.toList.length = 0 from h0)])) h
  · exact h0
set_option maxRecDepth 100000 in
set_option maxHeartbeats 3200000 in
theorem rig_is (x : TT) (w : World) (hk : x.2.2.2.2.2.length ≤ 1048576) (hd : x.2.2.1.size ≤ 1048576) : Calls Try.prog 27 #[.agg #[.int .i64 x.1, .bool x.2.1, .string x.2.2.1, .slice x.2.2.2.1 x.2.2.2.2.2.length x.2.2.2.2.1]] w fun e w' => BiF (riS (stT x)) e ∧ Below w.heap.size w w' := by
  obtain ⟨A1, hA1⟩ : ∃ Y, w.alloc (.cells #[.int .i64 x.1, .bool x.2.1, .string x.2.2.1, .slice x.2.2.2.1 x.2.2.2.2.2.length x.2.2.2.2.1] 31) = Y := ⟨_, rfl⟩
  have TX1 : Blk w.heap.size [.int .i64 x.1, .bool x.2.1, .string x.2.2.1, .slice x.2.2.2.1 x.2.2.2.2.2.length x.2.2.2.2.1] A1 := by rw [← hA1]; exact Blk.new _ _ _
  have B1 : Below w.heap.size w A1 := by rw [← hA1]; exact (Below.refl _ _).alloc (Nat.le_refl _) _
  have p0 := TX1.at 0 rfl
  have p1 := TX1.at 1 rfl
  have p2 := TX1.at 2 rfl
  have p3 := TX1.at 3 rfl
  have KT := tag_is x.1 A1
  go_enter Try.func27, Try.ntmps27
  cases hl : x.2.1 with
  | true =>
    have HR : Hid (riS (stT x) ↔ (decide (1 ≤ x.1) && decide (x.1 ≤ 100)) = true ∧ x.2.2.2.2.2.length = 0 ∧ x.2.2.1.size ≤ 900) := by
      show _ ↔ _
      unfold riS
      rw [if_pos (show (stT x).2.1 = true from hl)]
      exact Iff.rfl
    rw [hl] at p1 hA1
    go_wp2_with fail
    try rw [hA1]
    refine KT.mono ?_
    clear KT
    rintro ex ux ⟨rfl, rfl⟩
    cases hb : (decide (1 ≤ x.1) && decide (x.1 ≤ 100)) with
    | false =>
      have HN : Hid (¬ riS (stT x)) := fun c => by have := (HR.out.1 c).1; rw [hb] at this; cases this
      clear HR hb
      go_wp2
      go_ret
      exact ⟨⟨false, rfl, ⟨fun c => (by cases c), fun c => absurd c HN.out⟩⟩, B1⟩
    | true =>
      by_cases h0 : x.2.2.2.2.2.length = 0
      · have c0 : ((x.2.2.2.2.2.length : Int) == 0) = true := by rw [h0]; rfl
        have HB : Hid ((decide (1 ≤ x.1) && decide (x.1 ≤ 100)) = true) := hb
        have H0 : Hid (x.2.2.2.2.2.length = 0) := h0
        clear hb h0
        go_wp2
        go_ret
        exact ⟨⟨decide ((x.2.2.1.size : Int) ≤ 900), rfl, ⟨fun c => HR.out.2 ⟨HB.out, H0.out, by have := of_decide_eq_true c; omega⟩, fun c => decide_eq_true (by have := (HR.out.1 c).2.2; omega)⟩⟩, B1⟩
      · have c0 : ((x.2.2.2.2.2.length : Int) == 0) = false := by rw [beq_eq_false_iff_ne]; omega
        have HN : Hid (¬ riS (stT x)) := fun c => h0 (HR.out.1 c).2.1
        clear HR hb h0
        go_wp2
        go_ret
        exact ⟨⟨false, rfl, ⟨fun c => (by cases c), fun c => absurd c HN.out⟩⟩, B1⟩
  | false =>
    have HR : Hid (riS (stT x) ↔ (decide (1 ≤ x.1) && decide (x.1 ≤ 100)) = true ∧ x.2.2.1 = ⟨#[]⟩) := by
      show _ ↔ _
      unfold riS
      rw [if_neg (show ¬ (stT x).2.1 = true by rw [show (stT x).2.1 = false from hl]; simp)]
      exact Iff.rfl
    rw [hl] at p1 hA1
    go_wp2_with fail
    try rw [hA1]
    refine KT.mono ?_
    clear KT
    rintro ex ux ⟨rfl, rfl⟩
    cases hb : (decide (1 ≤ x.1) && decide (x.1 ≤ 100)) with
    | false =>
      have HN : Hid (¬ riS (stT x)) := fun c => by have := (HR.out.1 c).1; rw [hb] at this; cases this
      clear HR hb
      go_wp2
      go_ret
      exact ⟨⟨false, rfl, ⟨fun c => (by cases c), fun c => absurd c HN.out⟩⟩, B1⟩
    | true =>
      by_cases h0 : x.2.2.1 = ⟨#[]⟩
      · have c0 := nil_is h0
        have HY : Hid (riS (stT x)) := HR.out.2 ⟨hb, h0⟩
        clear HR hb h0
        go_wp2
        go_ret
        exact ⟨⟨true, rfl, ⟨fun _ => HY.out, fun _ => rfl⟩⟩, B1⟩
      · have c0 := ne_nil _ (sz_pos h0)
        have HN : Hid (¬ riS (stT x)) := fun c => h0 (HR.out.1 c).2
        clear HR hb h0
        go_wp2
        go_ret
        exact ⟨⟨false, rfl, ⟨fun c => (by cases c), fun c => absurd c HN.out⟩⟩, B1⟩
end Go.Proofs.Ytengggpobhibcaa.Nd
