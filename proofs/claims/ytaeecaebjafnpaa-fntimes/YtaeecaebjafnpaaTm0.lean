/- Chapter 16: Times, what is right, of the program and the model. -/
import Derived.Test.YtaeecaebjafnpaaBig
import Derived.Lib.MinMax
set_option linter.unusedVariables false
set_option maxRecDepth 100000
namespace Go.Proofs.Ytaeecaebjafnpaa
open Go Go.RowKit

abbrev tv (a b c d : Int) : Value := .agg #[.int .i64 a, .int .i64 b, .int .i64 c, .int .i64 d]
/-- Are Times right? -/
def tmOk (a b c d : Int) : Bool := decide (0 ≤ a) && (decide (a ≤ b) && (decide (b ≤ c) && (decide (c ≤ d) && decide (d ≤ 100000))))
theorem tmOk_iff (a b c d : Int) : tmOk a b c d = true ↔ 0 ≤ a ∧ a ≤ b ∧ b ≤ c ∧ c ≤ d ∧ d ≤ 100000 := by unfold tmOk; simp
/-- Each the lesser one of two, that it is the first of both, each by each. -/
theorem tmOk_min (a b c d : Int) (h : 0 ≤ a) : (decide (min b a = a) && (decide (min c b = b) && (decide (min d c = c) && decide (min 100000 d = d)))) = tmOk a b c d := by
  unfold tmOk
  rw [decide_eq_true h, Bool.true_and]
  have e : ∀ x y : Int, decide (min x y = y) = decide (y ≤ x) := by
    intro x y
    rw [decide_eq_decide]
    omega
  rw [e, e, e, e]
set_option maxHeartbeats 1600000 in
theorem bounds_is (a b c d : Int) (w : World) : Calls Try.prog 49 #[tv a b c d] w fun en w' => en = .returned (tv b c d 100000) ∧ Below w.heap.size w w' := by
  obtain ⟨ie, hie, hsz⟩ := info_times
  have BC : Below w.heap.size w ((w.alloc (.cells #[.int .i64 a, .int .i64 b, .int .i64 c, .int .i64 d] 25)).alloc (.cells #[.int .i64 0, .int .i64 0, .int .i64 0, .int .i64 0] 25)) := ((Below.refl _ _).alloc (by simp <;> omega) _).alloc (by simp <;> omega) _
  have TC : Blk w.heap.size [.int .i64 a, .int .i64 b, .int .i64 c, .int .i64 d] ((w.alloc (.cells #[.int .i64 a, .int .i64 b, .int .i64 c, .int .i64 d] 25)).alloc (.cells #[.int .i64 0, .int .i64 0, .int .i64 0, .int .i64 0] 25)) := by have h_ := ((Blk.new w #[.int .i64 a, .int .i64 b, .int .i64 c, .int .i64 d] 25).alloc (by simp <;> omega) (.cells #[.int .i64 0, .int .i64 0, .int .i64 0, .int .i64 0] 25)); simpa using h_
  have UC : Blk (w.heap.size + 1) [.int .i64 0, .int .i64 0, .int .i64 0, .int .i64 0] ((w.alloc (.cells #[.int .i64 a, .int .i64 b, .int .i64 c, .int .i64 d] 25)).alloc (.cells #[.int .i64 0, .int .i64 0, .int .i64 0, .int .i64 0] 25)) := by have h_ := (Blk.new (w.alloc (.cells #[.int .i64 a, .int .i64 b, .int .i64 c, .int .i64 d] 25)) #[.int .i64 0, .int .i64 0, .int .i64 0, .int .i64 0] 25); simpa using h_
  go_enter Try.func49, Try.ntmps49
  have q1_ := TC.at 0 rfl
  have q2_ := TC.at 1 rfl
  have q3_ := TC.at 2 rfl
  have q4_ := TC.at 3 rfl
  have FU := UC.sets [.int .i64 b, .int .i64 c, .int .i64 d, .int .i64 100000] rfl
  have FB := below_sets (m := w.heap.size) (g := (w.heap.size + 1)) (by omega) [.int .i64 b, .int .i64 c, .int .i64 d, .int .i64 100000] 0 _ BC
  go_wp2_with (refine wpList_stB 25 _ _ (w.heap.size + 1) 0 [.int .i64 0, .int .i64 0, .int .i64 0, .int .i64 0] [.int .i64 b, .int .i64 c, .int .i64 d, .int .i64 100000] ie hie UC (by rw [hsz]; rfl) (by simp) rfl rfl rfl rfl rfl ?_; try simp only [Act.put])
  exact bodyPost_ret (res_B1 rfl _ _ (w.heap.size + 1) _ ie hie ag25 FU (by rw [hsz]; rfl) rfl) rfl ⟨rfl, FB⟩

set_option maxHeartbeats 1600000 in
theorem lesser_is (a b c d x y z q : Int) (w : World) : Calls Try.prog 38 #[tv a b c d, tv x y z q] w fun en w' => en = .returned (tv (min a x) (min b y) (min c z) (min d q)) ∧ Below w.heap.size w w' := by
  obtain ⟨ie, hie, hsz⟩ := info_times
  have BC : Below w.heap.size w (((w.alloc (.cells #[.int .i64 a, .int .i64 b, .int .i64 c, .int .i64 d] 25)).alloc (.cells #[.int .i64 x, .int .i64 y, .int .i64 z, .int .i64 q] 25)).alloc (.cells #[.int .i64 0, .int .i64 0, .int .i64 0, .int .i64 0] 25)) := (((Below.refl _ _).alloc (by simp <;> omega) _).alloc (by simp <;> omega) _).alloc (by simp <;> omega) _
  have TC : Blk w.heap.size [.int .i64 a, .int .i64 b, .int .i64 c, .int .i64 d] (((w.alloc (.cells #[.int .i64 a, .int .i64 b, .int .i64 c, .int .i64 d] 25)).alloc (.cells #[.int .i64 x, .int .i64 y, .int .i64 z, .int .i64 q] 25)).alloc (.cells #[.int .i64 0, .int .i64 0, .int .i64 0, .int .i64 0] 25)) := by have h_ := (((Blk.new w #[.int .i64 a, .int .i64 b, .int .i64 c, .int .i64 d] 25).alloc (by simp <;> omega) (.cells #[.int .i64 x, .int .i64 y, .int .i64 z, .int .i64 q] 25)).alloc (by simp <;> omega) (.cells #[.int .i64 0, .int .i64 0, .int .i64 0, .int .i64 0] 25)); simpa using h_
  have XC : Blk (w.heap.size + 1) [.int .i64 x, .int .i64 y, .int .i64 z, .int .i64 q] (((w.alloc (.cells #[.int .i64 a, .int .i64 b, .int .i64 c, .int .i64 d] 25)).alloc (.cells #[.int .i64 x, .int .i64 y, .int .i64 z, .int .i64 q] 25)).alloc (.cells #[.int .i64 0, .int .i64 0, .int .i64 0, .int .i64 0] 25)) := by have h_ := ((Blk.new (w.alloc (.cells #[.int .i64 a, .int .i64 b, .int .i64 c, .int .i64 d] 25)) #[.int .i64 x, .int .i64 y, .int .i64 z, .int .i64 q] 25).alloc (by simp <;> omega) (.cells #[.int .i64 0, .int .i64 0, .int .i64 0, .int .i64 0] 25)); simpa using h_
  have UC : Blk (w.heap.size + 1 + 1) [.int .i64 0, .int .i64 0, .int .i64 0, .int .i64 0] (((w.alloc (.cells #[.int .i64 a, .int .i64 b, .int .i64 c, .int .i64 d] 25)).alloc (.cells #[.int .i64 x, .int .i64 y, .int .i64 z, .int .i64 q] 25)).alloc (.cells #[.int .i64 0, .int .i64 0, .int .i64 0, .int .i64 0] 25)) := by have h_ := (Blk.new ((w.alloc (.cells #[.int .i64 a, .int .i64 b, .int .i64 c, .int .i64 d] 25)).alloc (.cells #[.int .i64 x, .int .i64 y, .int .i64 z, .int .i64 q] 25)) #[.int .i64 0, .int .i64 0, .int .i64 0, .int .i64 0] 25); simpa using h_
  go_enter Try.func38, Try.ntmps38
  have q1_ := TC.at 0 rfl
  have q2_ := TC.at 1 rfl
  have q3_ := TC.at 2 rfl
  have q4_ := TC.at 3 rfl
  have q5_ := XC.at 0 rfl
  have q6_ := XC.at 1 rfl
  have q7_ := XC.at 2 rfl
  have q8_ := XC.at 3 rfl
  have FU := UC.sets [.int .i64 (min a x), .int .i64 (min b y), .int .i64 (min c z), .int .i64 (min d q)] rfl
  have FB := below_sets (m := w.heap.size) (g := (w.heap.size + 1 + 1)) (by omega) [.int .i64 (min a x), .int .i64 (min b y), .int .i64 (min c z), .int .i64 (min d q)] 0 _ BC
  go_wp2_with (refine wpList_stB 25 _ _ (w.heap.size + 1 + 1) 0 [.int .i64 0, .int .i64 0, .int .i64 0, .int .i64 0] [.int .i64 (min a x), .int .i64 (min b y), .int .i64 (min c z), .int .i64 (min d q)] ie hie UC (by rw [hsz]; rfl) (by simp) rfl rfl rfl rfl rfl ?_; try simp only [Act.put])
  exact bodyPost_ret (res_B1 rfl _ _ (w.heap.size + 1 + 1) _ ie hie ag25 FU (by rw [hsz]; rfl) rfl) rfl ⟨rfl, FB⟩

set_option maxHeartbeats 1600000 in
theorem toTimes_is (a b c d : Int) (w : World) : Calls Try.prog 28 #[tv a b c d] w fun en w' => en = .returned (tv a b c d) ∧ Below w.heap.size w w' := by
  obtain ⟨ie, hie, hsz⟩ := info_times
  obtain ⟨i1, hi1, hz1⟩ := info_int
  have BC : Below w.heap.size w (((w.alloc (.cells #[.int .i64 a, .int .i64 b, .int .i64 c, .int .i64 d] 40)).alloc (.cells #[.int .i64 0, .int .i64 0, .int .i64 0, .int .i64 0] 25)).alloc (.cells #[.int .i64 0, .int .i64 0, .int .i64 0, .int .i64 0] 25)) := (((Below.refl _ _).alloc (by simp <;> omega) _).alloc (by simp <;> omega) _).alloc (by simp <;> omega) _
  have TC : Blk w.heap.size [.int .i64 a, .int .i64 b, .int .i64 c, .int .i64 d] (((w.alloc (.cells #[.int .i64 a, .int .i64 b, .int .i64 c, .int .i64 d] 40)).alloc (.cells #[.int .i64 0, .int .i64 0, .int .i64 0, .int .i64 0] 25)).alloc (.cells #[.int .i64 0, .int .i64 0, .int .i64 0, .int .i64 0] 25)) := by have h_ := (((Blk.new w #[.int .i64 a, .int .i64 b, .int .i64 c, .int .i64 d] 40).alloc (by simp <;> omega) (.cells #[.int .i64 0, .int .i64 0, .int .i64 0, .int .i64 0] 25)).alloc (by simp <;> omega) (.cells #[.int .i64 0, .int .i64 0, .int .i64 0, .int .i64 0] 25)); simpa using h_
  have UC : Blk (w.heap.size + 1) [.int .i64 0, .int .i64 0, .int .i64 0, .int .i64 0] (((w.alloc (.cells #[.int .i64 a, .int .i64 b, .int .i64 c, .int .i64 d] 40)).alloc (.cells #[.int .i64 0, .int .i64 0, .int .i64 0, .int .i64 0] 25)).alloc (.cells #[.int .i64 0, .int .i64 0, .int .i64 0, .int .i64 0] 25)) := by have h_ := ((Blk.new (w.alloc (.cells #[.int .i64 a, .int .i64 b, .int .i64 c, .int .i64 d] 40)) #[.int .i64 0, .int .i64 0, .int .i64 0, .int .i64 0] 25).alloc (by simp <;> omega) (.cells #[.int .i64 0, .int .i64 0, .int .i64 0, .int .i64 0] 25)); simpa using h_
  have OC : Blk (w.heap.size + 1 + 1) [.int .i64 0, .int .i64 0, .int .i64 0, .int .i64 0] (((w.alloc (.cells #[.int .i64 a, .int .i64 b, .int .i64 c, .int .i64 d] 40)).alloc (.cells #[.int .i64 0, .int .i64 0, .int .i64 0, .int .i64 0] 25)).alloc (.cells #[.int .i64 0, .int .i64 0, .int .i64 0, .int .i64 0] 25)) := by have h_ := (Blk.new ((w.alloc (.cells #[.int .i64 a, .int .i64 b, .int .i64 c, .int .i64 d] 40)).alloc (.cells #[.int .i64 0, .int .i64 0, .int .i64 0, .int .i64 0] 25)) #[.int .i64 0, .int .i64 0, .int .i64 0, .int .i64 0] 25); simpa using h_
  have q1_ := TC.at 0 rfl
  obtain ⟨A0, hA0⟩ : ∃ Wz, (World.setCells (((w.alloc (.cells #[.int .i64 a, .int .i64 b, .int .i64 c, .int .i64 d] 40)).alloc (.cells #[.int .i64 0, .int .i64 0, .int .i64 0, .int .i64 0] 25)).alloc (.cells #[.int .i64 0, .int .i64 0, .int .i64 0, .int .i64 0] 25)) (w.heap.size + 1 + 1) 0 [.int .i64 a]) = Wz := ⟨_, rfl⟩
  have OC_ : Blk (w.heap.size + 1 + 1) [.int .i64 a, .int .i64 0, .int .i64 0, .int .i64 0] A0 := by rw [← hA0]; exact OC.part 0 [.int .i64 a] _ (by simp) rfl
  have TC_ : Blk w.heap.size [.int .i64 a, .int .i64 b, .int .i64 c, .int .i64 d] A0 := by rw [← hA0]; exact Blk.farS (q := (w.heap.size + 1 + 1)) (by omega) [.int .i64 a] 0 _ TC
  have UC_ : Blk (w.heap.size + 1) [.int .i64 0, .int .i64 0, .int .i64 0, .int .i64 0] A0 := by rw [← hA0]; exact Blk.farS (q := (w.heap.size + 1 + 1)) (by omega) [.int .i64 a] 0 _ UC
  have BC_ : Below w.heap.size w A0 := by rw [← hA0]; exact below_sets (g := (w.heap.size + 1 + 1)) (by omega) [.int .i64 a] 0 _ BC
  have OC0A0 := OC
  clear TC UC OC BC
  have TC := TC_
  have UC := UC_
  have OC := OC_
  have BC := BC_
  clear TC_ UC_ OC_ BC_
  have q2_ := TC.at 1 rfl
  obtain ⟨A1, hA1⟩ : ∃ Wz, (World.setCells A0 (w.heap.size + 1 + 1) 1 [.int .i64 b]) = Wz := ⟨_, rfl⟩
  have OC_ : Blk (w.heap.size + 1 + 1) [.int .i64 a, .int .i64 b, .int .i64 0, .int .i64 0] A1 := by rw [← hA1]; exact OC.part 1 [.int .i64 b] _ (by simp) rfl
  have TC_ : Blk w.heap.size [.int .i64 a, .int .i64 b, .int .i64 c, .int .i64 d] A1 := by rw [← hA1]; exact Blk.farS (q := (w.heap.size + 1 + 1)) (by omega) [.int .i64 b] 1 _ TC
  have UC_ : Blk (w.heap.size + 1) [.int .i64 0, .int .i64 0, .int .i64 0, .int .i64 0] A1 := by rw [← hA1]; exact Blk.farS (q := (w.heap.size + 1 + 1)) (by omega) [.int .i64 b] 1 _ UC
  have BC_ : Below w.heap.size w A1 := by rw [← hA1]; exact below_sets (g := (w.heap.size + 1 + 1)) (by omega) [.int .i64 b] 1 _ BC
  have OC0A1 := OC
  clear TC UC OC BC
  have TC := TC_
  have UC := UC_
  have OC := OC_
  have BC := BC_
  clear TC_ UC_ OC_ BC_
  have q3_ := TC.at 2 rfl
  obtain ⟨A2, hA2⟩ : ∃ Wz, (World.setCells A1 (w.heap.size + 1 + 1) 2 [.int .i64 c]) = Wz := ⟨_, rfl⟩
  have OC_ : Blk (w.heap.size + 1 + 1) [.int .i64 a, .int .i64 b, .int .i64 c, .int .i64 0] A2 := by rw [← hA2]; exact OC.part 2 [.int .i64 c] _ (by simp) rfl
  have TC_ : Blk w.heap.size [.int .i64 a, .int .i64 b, .int .i64 c, .int .i64 d] A2 := by rw [← hA2]; exact Blk.farS (q := (w.heap.size + 1 + 1)) (by omega) [.int .i64 c] 2 _ TC
  have UC_ : Blk (w.heap.size + 1) [.int .i64 0, .int .i64 0, .int .i64 0, .int .i64 0] A2 := by rw [← hA2]; exact Blk.farS (q := (w.heap.size + 1 + 1)) (by omega) [.int .i64 c] 2 _ UC
  have BC_ : Below w.heap.size w A2 := by rw [← hA2]; exact below_sets (g := (w.heap.size + 1 + 1)) (by omega) [.int .i64 c] 2 _ BC
  have OC0A2 := OC
  clear TC UC OC BC
  have TC := TC_
  have UC := UC_
  have OC := OC_
  have BC := BC_
  clear TC_ UC_ OC_ BC_
  have q4_ := TC.at 3 rfl
  obtain ⟨A3, hA3⟩ : ∃ Wz, (World.setCells A2 (w.heap.size + 1 + 1) 3 [.int .i64 d]) = Wz := ⟨_, rfl⟩
  have OC_ : Blk (w.heap.size + 1 + 1) [.int .i64 a, .int .i64 b, .int .i64 c, .int .i64 d] A3 := by rw [← hA3]; exact OC.part 3 [.int .i64 d] _ (by simp) rfl
  have TC_ : Blk w.heap.size [.int .i64 a, .int .i64 b, .int .i64 c, .int .i64 d] A3 := by rw [← hA3]; exact Blk.farS (q := (w.heap.size + 1 + 1)) (by omega) [.int .i64 d] 3 _ TC
  have UC_ : Blk (w.heap.size + 1) [.int .i64 0, .int .i64 0, .int .i64 0, .int .i64 0] A3 := by rw [← hA3]; exact Blk.farS (q := (w.heap.size + 1 + 1)) (by omega) [.int .i64 d] 3 _ UC
  have BC_ : Below w.heap.size w A3 := by rw [← hA3]; exact below_sets (g := (w.heap.size + 1 + 1)) (by omega) [.int .i64 d] 3 _ BC
  have OC0A3 := OC
  clear TC UC OC BC
  have TC := TC_
  have UC := UC_
  have OC := OC_
  have BC := BC_
  clear TC_ UC_ OC_ BC_
  go_enter Try.func28, Try.ntmps28
  have FU := UC.sets [.int .i64 a, .int .i64 b, .int .i64 c, .int .i64 d] rfl
  have FB := below_sets (m := w.heap.size) (g := (w.heap.size + 1)) (by omega) [.int .i64 a, .int .i64 b, .int .i64 c, .int .i64 d] 0 _ BC
  go_wp2_with (first | (refine wpList_st1 3 _ _ (w.heap.size + 1 + 1) 0 [.int .i64 0, .int .i64 0, .int .i64 0, .int .i64 0] (.int .i64 a) i1 hi1 OC0A0 hz1 (by simp) rfl rfl rfl rfl rfl ?_; try simp only [Act.put]; rw [hA0]) | (refine wpList_st1 3 _ _ (w.heap.size + 1 + 1) 1 [.int .i64 a, .int .i64 0, .int .i64 0, .int .i64 0] (.int .i64 b) i1 hi1 OC0A1 hz1 (by simp) rfl rfl rfl rfl rfl ?_; try simp only [Act.put]; rw [hA1]) | (refine wpList_st1 3 _ _ (w.heap.size + 1 + 1) 2 [.int .i64 a, .int .i64 b, .int .i64 0, .int .i64 0] (.int .i64 c) i1 hi1 OC0A2 hz1 (by simp) rfl rfl rfl rfl rfl ?_; try simp only [Act.put]; rw [hA2]) | (refine wpList_st1 3 _ _ (w.heap.size + 1 + 1) 3 [.int .i64 a, .int .i64 b, .int .i64 c, .int .i64 0] (.int .i64 d) i1 hi1 OC0A3 hz1 (by simp) rfl rfl rfl rfl rfl ?_; try simp only [Act.put]; rw [hA3]) | (refine wpList_ldB 25 _ (w.heap.size + 1 + 1) 0 [.int .i64 a, .int .i64 b, .int .i64 c, .int .i64 d] [.int .i64 a, .int .i64 b, .int .i64 c, .int .i64 d] ie hie ag25 OC (by rw [hsz]; rfl) rfl rfl rfl rfl ?_; try simp only [Act.put]) | (refine wpList_stB 25 _ _ (w.heap.size + 1) 0 [.int .i64 0, .int .i64 0, .int .i64 0, .int .i64 0] [.int .i64 a, .int .i64 b, .int .i64 c, .int .i64 d] ie hie UC (by rw [hsz]; rfl) (by simp) rfl rfl rfl rfl rfl ?_; try simp only [Act.put]))
  exact bodyPost_ret (res_B1 rfl _ _ (w.heap.size + 1) _ ie hie ag25 FU (by rw [hsz]; rfl) rfl) rfl ⟨rfl, FB⟩

set_option maxHeartbeats 1600000 in
theorem eqTimes_is (a b c d : Int) (w : World) : Calls Try.prog 30 #[tv a b c d, tv a b c d] w fun en w' => en = .returned (.bool true) ∧ Below w.heap.size w w' := by
  have BC : Below w.heap.size w ((w.alloc (.cells #[.int .i64 a, .int .i64 b, .int .i64 c, .int .i64 d] 25)).alloc (.cells #[.int .i64 a, .int .i64 b, .int .i64 c, .int .i64 d] 25)) := ((Below.refl _ _).alloc (by simp <;> omega) _).alloc (by simp <;> omega) _
  have TC : Blk w.heap.size [.int .i64 a, .int .i64 b, .int .i64 c, .int .i64 d] ((w.alloc (.cells #[.int .i64 a, .int .i64 b, .int .i64 c, .int .i64 d] 25)).alloc (.cells #[.int .i64 a, .int .i64 b, .int .i64 c, .int .i64 d] 25)) := by have h_ := ((Blk.new w #[.int .i64 a, .int .i64 b, .int .i64 c, .int .i64 d] 25).alloc (by simp <;> omega) (.cells #[.int .i64 a, .int .i64 b, .int .i64 c, .int .i64 d] 25)); simpa using h_
  have XC : Blk (w.heap.size + 1) [.int .i64 a, .int .i64 b, .int .i64 c, .int .i64 d] ((w.alloc (.cells #[.int .i64 a, .int .i64 b, .int .i64 c, .int .i64 d] 25)).alloc (.cells #[.int .i64 a, .int .i64 b, .int .i64 c, .int .i64 d] 25)) := by have h_ := (Blk.new (w.alloc (.cells #[.int .i64 a, .int .i64 b, .int .i64 c, .int .i64 d] 25)) #[.int .i64 a, .int .i64 b, .int .i64 c, .int .i64 d] 25); simpa using h_
  go_enter Try.func30, Try.ntmps30
  have q1_ := TC.at 0 rfl
  have q2_ := TC.at 1 rfl
  have q3_ := TC.at 2 rfl
  have q4_ := TC.at 3 rfl
  have q5_ := XC.at 0 rfl
  have q6_ := XC.at 1 rfl
  have q7_ := XC.at 2 rfl
  have q8_ := XC.at 3 rfl
  go_wp2
  go_ret
  exact ⟨rfl, BC⟩

set_option maxHeartbeats 1600000 in
theorem least_is (x y : Int) (w : World) : Calls Try.prog 40 #[.int .i64 x, .int .i64 y] w fun en w' => en = .returned (.int .i64 (min x y)) ∧ w = w' := by
  by_cases h : x < y
  · go_enter Try.func40, Try.ntmps40
    go_wp2
    go_ret
    exact ⟨by rw [Int.min_eq_left (by omega)]; rfl, rfl⟩
  · go_enter Try.func40, Try.ntmps40
    go_wp2
    go_ret
    exact ⟨by rw [Int.min_eq_right (by omega)]; rfl, rfl⟩

set_option maxHeartbeats 1600000 in
theorem specOk_is (a b c d : Int) (w : World) : Calls Try.prog 15 #[tv a b c d] w fun en w' => en = .returned (.bool (tmOk a b c d)) ∧ Below w.heap.size w w' := by
  have BC : Below w.heap.size w (w.alloc (.cells #[.int .i64 a, .int .i64 b, .int .i64 c, .int .i64 d] 25)) := (Below.refl _ _).alloc (by simp <;> omega) _
  have TC : Blk w.heap.size [.int .i64 a, .int .i64 b, .int .i64 c, .int .i64 d] (w.alloc (.cells #[.int .i64 a, .int .i64 b, .int .i64 c, .int .i64 d] 25)) := by have h_ := (Blk.new w #[.int .i64 a, .int .i64 b, .int .i64 c, .int .i64 d] 25); simpa using h_
  have q1_ := TC.at 0 rfl
  have q2_ := TC.at 1 rfl
  have q3_ := TC.at 2 rfl
  have q4_ := TC.at 3 rfl
  by_cases h0 : 0 ≤ a
  · by_cases h1 : a ≤ b
    · by_cases h2 : b ≤ c
      · by_cases h3 : c ≤ d
        · by_cases h4 : d ≤ 100000
          · go_enter Try.func15, Try.ntmps15
            go_wp2
            go_ret
            exact ⟨by unfold tmOk; rw [show decide (0 ≤ a) = true from decide_eq_true (by omega), show decide (a ≤ b) = true from decide_eq_true (by omega), show decide (b ≤ c) = true from decide_eq_true (by omega), show decide (c ≤ d) = true from decide_eq_true (by omega), show decide (d ≤ 100000) = true from decide_eq_true (by omega)]; rfl, BC⟩
          · go_enter Try.func15, Try.ntmps15
            go_wp2
            go_ret
            exact ⟨by unfold tmOk; rw [show decide (0 ≤ a) = true from decide_eq_true (by omega), show decide (a ≤ b) = true from decide_eq_true (by omega), show decide (b ≤ c) = true from decide_eq_true (by omega), show decide (c ≤ d) = true from decide_eq_true (by omega), show decide (d ≤ 100000) = false from decide_eq_false (by omega)]; rfl, BC⟩
        · go_enter Try.func15, Try.ntmps15
          go_wp2
          go_ret
          exact ⟨by unfold tmOk; rw [show decide (0 ≤ a) = true from decide_eq_true (by omega), show decide (a ≤ b) = true from decide_eq_true (by omega), show decide (b ≤ c) = true from decide_eq_true (by omega), show decide (c ≤ d) = false from decide_eq_false (by omega)]; rfl, BC⟩
      · go_enter Try.func15, Try.ntmps15
        go_wp2
        go_ret
        exact ⟨by unfold tmOk; rw [show decide (0 ≤ a) = true from decide_eq_true (by omega), show decide (a ≤ b) = true from decide_eq_true (by omega), show decide (b ≤ c) = false from decide_eq_false (by omega)]; rfl, BC⟩
    · go_enter Try.func15, Try.ntmps15
      go_wp2
      go_ret
      exact ⟨by unfold tmOk; rw [show decide (0 ≤ a) = true from decide_eq_true (by omega), show decide (a ≤ b) = false from decide_eq_false (by omega)]; rfl, BC⟩
  · go_enter Try.func15, Try.ntmps15
    go_wp2
    go_ret
    exact ⟨by unfold tmOk; rw [show decide (0 ≤ a) = false from decide_eq_false (by omega)]; rfl, BC⟩

end Go.Proofs.Ytaeecaebjafnpaa
