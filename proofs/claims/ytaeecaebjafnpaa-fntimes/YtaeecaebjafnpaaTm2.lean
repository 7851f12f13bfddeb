/- Chapter 16: what is renewed. -/
import Derived.Test.YtaeecaebjafnpaaTm1
set_option linter.unusedVariables false
set_option maxRecDepth 100000
namespace Go.Proofs.Ytaeecaebjafnpaa
open Go Go.RowKit

/-- May Times be renewed? -/
def rnOk (a b c d n l : Int) : Bool := tmOk a b c d && (decide (b ≤ n) && (decide (n ≤ c) && decide (1 ≤ l)))
/-- What is renewed. -/
def rnV (a b c d n l : Int) : Value := tmIf (rnOk a b c d n l) a n (n + min l (d - n)) d
theorem rnV_no (a b c d n l : Int) (h : rnOk a b c d n l = false) : .tuple #[tv 0 0 0 0, .bool false] = rnV a b c d n l := by
  unfold rnV
  rw [h]
  rfl
theorem rnV_yes (a b c d n l : Int) (h0 : tmOk a b c d = true) (h1 : b ≤ n) (h2 : n ≤ c) (h3 : 1 ≤ l) : .tuple #[tv a n (n + min l (d - n)) d, .bool true] = rnV a b c d n l := by
  unfold rnV rnOk
  rw [h0, decide_eq_true h1, decide_eq_true h2, decide_eq_true h3]
  rfl
set_option maxHeartbeats 3200000 in
theorem implRenewed_is (a b c d n l : Int) (w : World) : Calls Try.prog 13 #[tv a b c d, .int .i64 n, .int .i64 l] w fun en w' => en = .returned (rnV a b c d n l) ∧ Below w.heap.size w w' := by
  obtain ⟨ie, hie, hsz⟩ := info_times
  have BC : Below w.heap.size w ((w.alloc (.cells #[.int .i64 a, .int .i64 b, .int .i64 c, .int .i64 d] 25)).alloc (.cells #[.int .i64 0, .int .i64 0, .int .i64 0, .int .i64 0] 25)) := ((Below.refl _ _).alloc (by simp <;> omega) _).alloc (by simp <;> omega) _
  have TC : Blk w.heap.size [.int .i64 a, .int .i64 b, .int .i64 c, .int .i64 d] ((w.alloc (.cells #[.int .i64 a, .int .i64 b, .int .i64 c, .int .i64 d] 25)).alloc (.cells #[.int .i64 0, .int .i64 0, .int .i64 0, .int .i64 0] 25)) := by have h_ := ((Blk.new w #[.int .i64 a, .int .i64 b, .int .i64 c, .int .i64 d] 25).alloc (by simp <;> omega) (.cells #[.int .i64 0, .int .i64 0, .int .i64 0, .int .i64 0] 25)); simpa using h_
  have UC : Blk (w.heap.size + 1) [.int .i64 0, .int .i64 0, .int .i64 0, .int .i64 0] ((w.alloc (.cells #[.int .i64 a, .int .i64 b, .int .i64 c, .int .i64 d] 25)).alloc (.cells #[.int .i64 0, .int .i64 0, .int .i64 0, .int .i64 0] 25)) := by have h_ := (Blk.new (w.alloc (.cells #[.int .i64 a, .int .i64 b, .int .i64 c, .int .i64 d] 25)) #[.int .i64 0, .int .i64 0, .int .i64 0, .int .i64 0] 25); simpa using h_
  have q1_ := TC.at 0 rfl
  have q2_ := TC.at 1 rfl
  have q3_ := TC.at 2 rfl
  have q4_ := TC.at 3 rfl
  go_enter Try.func13, Try.ntmps13
  go_wp2_with fail
  refine (right_is a b c d _).mono ?_
  rintro en w1 ⟨rfl, hb⟩
  replace TC := TC.later hb TC.lt
  replace UC := UC.later hb UC.lt
  replace BC := BC.trans (hb.mono BC.size)
  clear hb
  clear q1_ q2_ q3_ q4_
  by_cases hk : tmOk a b c d = true
  · rw [hk]
    obtain ⟨k0, k1, k2, k3, k4⟩ := (tmOk_iff a b c d).1 hk
    have q5_ := TC.at 0 rfl
    have q6_ := TC.at 1 rfl
    have q7_ := TC.at 2 rfl
    have q8_ := TC.at 3 rfl
    by_cases h1 : b ≤ n
    · by_cases h2 : n ≤ c
      · by_cases h3 : 1 ≤ l
        · skip
          obtain ⟨m, hm⟩ : ∃ m, min l (d - n) = m := ⟨_, rfl⟩
          have m0 : 0 ≤ m := by omega
          have m1 : m ≤ 100000 := by omega
          have HM : Hid (min l (d - n) = m) := hm
          clear hm
          have FU := UC.sets [.int .i64 a, .int .i64 n, .int .i64 (n + m), .int .i64 d] rfl
          have FB := below_sets (m := w.heap.size) (g := (w.heap.size + 1)) (by omega) [.int .i64 a, .int .i64 n, .int .i64 (n + m), .int .i64 d] 0 _ BC
          have hm := HM.out
          go_wp2_with (refine wpList_stB 25 _ _ (w.heap.size + 1) 0 [.int .i64 0, .int .i64 0, .int .i64 0, .int .i64 0] [.int .i64 a, .int .i64 n, .int .i64 (n + m), .int .i64 d] ie hie UC (by rw [hsz]; rfl) (by simp) rfl rfl rfl rfl rfl ?_; try simp only [Act.put])
          exact bodyPost_ret (res_B2 rfl _ _ (w.heap.size + 1) _ (.bool true) ie hie ag25 FU (by rw [hsz]; rfl) rfl rfl) rfl ⟨by rw [← HM.out, rnV_yes a b c d n l hk h1 h2 h3], FB⟩
        · skip
          have FU := UC.sets [.int .i64 0, .int .i64 0, .int .i64 0, .int .i64 0] rfl
          have FB := below_sets (m := w.heap.size) (g := (w.heap.size + 1)) (by omega) [.int .i64 0, .int .i64 0, .int .i64 0, .int .i64 0] 0 _ BC
          go_wp2_with (refine wpList_stB 25 _ _ (w.heap.size + 1) 0 [.int .i64 0, .int .i64 0, .int .i64 0, .int .i64 0] [.int .i64 0, .int .i64 0, .int .i64 0, .int .i64 0] ie hie UC (by rw [hsz]; rfl) (by simp) rfl rfl rfl rfl rfl ?_; try simp only [Act.put])
          exact bodyPost_ret (res_B2 rfl _ _ (w.heap.size + 1) _ (.bool false) ie hie ag25 FU (by rw [hsz]; rfl) rfl rfl) rfl ⟨by rw [rnV_no a b c d n l (by unfold rnOk; rw [hk, decide_eq_true (show b ≤ n by omega), decide_eq_true (show n ≤ c by omega), decide_eq_false (show ¬ 1 ≤ l by omega)]; rfl)], FB⟩
      · skip
        have FU := UC.sets [.int .i64 0, .int .i64 0, .int .i64 0, .int .i64 0] rfl
        have FB := below_sets (m := w.heap.size) (g := (w.heap.size + 1)) (by omega) [.int .i64 0, .int .i64 0, .int .i64 0, .int .i64 0] 0 _ BC
        go_wp2_with (refine wpList_stB 25 _ _ (w.heap.size + 1) 0 [.int .i64 0, .int .i64 0, .int .i64 0, .int .i64 0] [.int .i64 0, .int .i64 0, .int .i64 0, .int .i64 0] ie hie UC (by rw [hsz]; rfl) (by simp) rfl rfl rfl rfl rfl ?_; try simp only [Act.put])
        exact bodyPost_ret (res_B2 rfl _ _ (w.heap.size + 1) _ (.bool false) ie hie ag25 FU (by rw [hsz]; rfl) rfl rfl) rfl ⟨by rw [rnV_no a b c d n l (by unfold rnOk; rw [hk, decide_eq_true (show b ≤ n by omega), decide_eq_false (show ¬ n ≤ c by omega)]; rfl)], FB⟩
    · skip
      have FU := UC.sets [.int .i64 0, .int .i64 0, .int .i64 0, .int .i64 0] rfl
      have FB := below_sets (m := w.heap.size) (g := (w.heap.size + 1)) (by omega) [.int .i64 0, .int .i64 0, .int .i64 0, .int .i64 0] 0 _ BC
      go_wp2_with (refine wpList_stB 25 _ _ (w.heap.size + 1) 0 [.int .i64 0, .int .i64 0, .int .i64 0, .int .i64 0] [.int .i64 0, .int .i64 0, .int .i64 0, .int .i64 0] ie hie UC (by rw [hsz]; rfl) (by simp) rfl rfl rfl rfl rfl ?_; try simp only [Act.put])
      exact bodyPost_ret (res_B2 rfl _ _ (w.heap.size + 1) _ (.bool false) ie hie ag25 FU (by rw [hsz]; rfl) rfl rfl) rfl ⟨by rw [rnV_no a b c d n l (by unfold rnOk; rw [hk, decide_eq_false (show ¬ b ≤ n by omega)]; rfl)], FB⟩
  · rw [Bool.not_eq_true] at hk
    rw [hk]
    have FU := UC.sets [.int .i64 0, .int .i64 0, .int .i64 0, .int .i64 0] rfl
    have FB := below_sets (m := w.heap.size) (g := (w.heap.size + 1)) (by omega) [.int .i64 0, .int .i64 0, .int .i64 0, .int .i64 0] 0 _ BC
    go_wp2_with (refine wpList_stB 25 _ _ (w.heap.size + 1) 0 [.int .i64 0, .int .i64 0, .int .i64 0, .int .i64 0] [.int .i64 0, .int .i64 0, .int .i64 0, .int .i64 0] ie hie UC (by rw [hsz]; rfl) (by simp) rfl rfl rfl rfl rfl ?_; try simp only [Act.put])
    exact bodyPost_ret (res_B2 rfl _ _ (w.heap.size + 1) _ (.bool false) ie hie ag25 FU (by rw [hsz]; rfl) rfl rfl) rfl ⟨by rw [rnV_no a b c d n l (by unfold rnOk; rw [hk]; rfl)], FB⟩

set_option maxHeartbeats 3200000 in
theorem specRenewed_is (a b c d n l : Int) (w : World) : Calls Try.prog 14 #[tv a b c d, .int .i64 n, .int .i64 l] w fun en w' => en = .returned (rnV a b c d n l) ∧ Below w.heap.size w w' := by
  obtain ⟨ie, hie, hsz⟩ := info_times
  have BC : Below w.heap.size w ((w.alloc (.cells #[.int .i64 a, .int .i64 b, .int .i64 c, .int .i64 d] 25)).alloc (.cells #[.int .i64 0, .int .i64 0, .int .i64 0, .int .i64 0] 25)) := ((Below.refl _ _).alloc (by simp <;> omega) _).alloc (by simp <;> omega) _
  have TC : Blk w.heap.size [.int .i64 a, .int .i64 b, .int .i64 c, .int .i64 d] ((w.alloc (.cells #[.int .i64 a, .int .i64 b, .int .i64 c, .int .i64 d] 25)).alloc (.cells #[.int .i64 0, .int .i64 0, .int .i64 0, .int .i64 0] 25)) := by have h_ := ((Blk.new w #[.int .i64 a, .int .i64 b, .int .i64 c, .int .i64 d] 25).alloc (by simp <;> omega) (.cells #[.int .i64 0, .int .i64 0, .int .i64 0, .int .i64 0] 25)); simpa using h_
  have UC : Blk (w.heap.size + 1) [.int .i64 0, .int .i64 0, .int .i64 0, .int .i64 0] ((w.alloc (.cells #[.int .i64 a, .int .i64 b, .int .i64 c, .int .i64 d] 25)).alloc (.cells #[.int .i64 0, .int .i64 0, .int .i64 0, .int .i64 0] 25)) := by have h_ := (Blk.new (w.alloc (.cells #[.int .i64 a, .int .i64 b, .int .i64 c, .int .i64 d] 25)) #[.int .i64 0, .int .i64 0, .int .i64 0, .int .i64 0] 25); simpa using h_
  have q1_ := TC.at 0 rfl
  have q2_ := TC.at 1 rfl
  have q3_ := TC.at 2 rfl
  have q4_ := TC.at 3 rfl
  go_enter Try.func14, Try.ntmps14
  go_wp2_with fail
  refine (specOk_is a b c d _).mono ?_
  rintro en w1 ⟨rfl, hb⟩
  replace TC := TC.later hb TC.lt
  replace UC := UC.later hb UC.lt
  replace BC := BC.trans (hb.mono BC.size)
  clear hb
  clear q1_ q2_ q3_ q4_
  by_cases hk : tmOk a b c d = true
  · rw [hk]
    obtain ⟨k0, k1, k2, k3, k4⟩ := (tmOk_iff a b c d).1 hk
    have q5_ := TC.at 0 rfl
    have q6_ := TC.at 1 rfl
    have q7_ := TC.at 2 rfl
    have q8_ := TC.at 3 rfl
    go_wp2_with fail
    refine (in_is n b c _).mono ?_
    rintro en w_ ⟨rfl, rfl⟩
    by_cases h12 : (decide (b ≤ n) && decide (n ≤ c)) = true
    · rw [h12]
      obtain ⟨h1, h2⟩ : b ≤ n ∧ n ≤ c := by simpa using h12
      by_cases h3 : 1 ≤ l
      · by_cases h4 : l ≤ d - n
        · skip
          have hm : min l (d - n) = l := Int.min_eq_left h4
          have HM : Hid (min l (d - n) = l) := hm
          clear hm
          have FU := UC.sets [.int .i64 a, .int .i64 n, .int .i64 (n + l), .int .i64 d] rfl
          have FB := below_sets (m := w.heap.size) (g := (w.heap.size + 1)) (by omega) [.int .i64 a, .int .i64 n, .int .i64 (n + l), .int .i64 d] 0 _ BC
          go_wp2_with (refine wpList_stB 25 _ _ (w.heap.size + 1) 0 [.int .i64 0, .int .i64 0, .int .i64 0, .int .i64 0] [.int .i64 a, .int .i64 n, .int .i64 (n + l), .int .i64 d] ie hie UC (by rw [hsz]; rfl) (by simp) rfl rfl rfl rfl rfl ?_; try simp only [Act.put])
          exact bodyPost_ret (res_B2 rfl _ _ (w.heap.size + 1) _ (.bool true) ie hie ag25 FU (by rw [hsz]; rfl) rfl rfl) rfl ⟨by have h_ := rnV_yes a b c d n l hk h1 h2 h3; rw [HM.out] at h_; rw [h_], FB⟩
        · skip
          have hm : n + min l (d - n) = d := by omega
          have HM : Hid (n + min l (d - n) = d) := hm
          clear hm
          have FU := UC.sets [.int .i64 a, .int .i64 n, .int .i64 d, .int .i64 d] rfl
          have FB := below_sets (m := w.heap.size) (g := (w.heap.size + 1)) (by omega) [.int .i64 a, .int .i64 n, .int .i64 d, .int .i64 d] 0 _ BC
          go_wp2_with (refine wpList_stB 25 _ _ (w.heap.size + 1) 0 [.int .i64 0, .int .i64 0, .int .i64 0, .int .i64 0] [.int .i64 a, .int .i64 n, .int .i64 d, .int .i64 d] ie hie UC (by rw [hsz]; rfl) (by simp) rfl rfl rfl rfl rfl ?_; try simp only [Act.put])
          exact bodyPost_ret (res_B2 rfl _ _ (w.heap.size + 1) _ (.bool true) ie hie ag25 FU (by rw [hsz]; rfl) rfl rfl) rfl ⟨by have h_ := rnV_yes a b c d n l hk h1 h2 h3; rw [HM.out] at h_; rw [h_], FB⟩
      · skip
        have FU := UC.sets [.int .i64 0, .int .i64 0, .int .i64 0, .int .i64 0] rfl
        have FB := below_sets (m := w.heap.size) (g := (w.heap.size + 1)) (by omega) [.int .i64 0, .int .i64 0, .int .i64 0, .int .i64 0] 0 _ BC
        go_wp2_with (refine wpList_stB 25 _ _ (w.heap.size + 1) 0 [.int .i64 0, .int .i64 0, .int .i64 0, .int .i64 0] [.int .i64 0, .int .i64 0, .int .i64 0, .int .i64 0] ie hie UC (by rw [hsz]; rfl) (by simp) rfl rfl rfl rfl rfl ?_; try simp only [Act.put])
        exact bodyPost_ret (res_B2 rfl _ _ (w.heap.size + 1) _ (.bool false) ie hie ag25 FU (by rw [hsz]; rfl) rfl rfl) rfl ⟨by rw [rnV_no a b c d n l (by unfold rnOk; rw [hk, decide_eq_true (show b ≤ n by omega), decide_eq_true (show n ≤ c by omega), decide_eq_false (show ¬ 1 ≤ l by omega)]; rfl)], FB⟩
    · rw [Bool.not_eq_true] at h12
      rw [h12]
      have FU := UC.sets [.int .i64 0, .int .i64 0, .int .i64 0, .int .i64 0] rfl
      have FB := below_sets (m := w.heap.size) (g := (w.heap.size + 1)) (by omega) [.int .i64 0, .int .i64 0, .int .i64 0, .int .i64 0] 0 _ BC
      go_wp2_with (refine wpList_stB 25 _ _ (w.heap.size + 1) 0 [.int .i64 0, .int .i64 0, .int .i64 0, .int .i64 0] [.int .i64 0, .int .i64 0, .int .i64 0, .int .i64 0] ie hie UC (by rw [hsz]; rfl) (by simp) rfl rfl rfl rfl rfl ?_; try simp only [Act.put])
      exact bodyPost_ret (res_B2 rfl _ _ (w.heap.size + 1) _ (.bool false) ie hie ag25 FU (by rw [hsz]; rfl) rfl rfl) rfl ⟨by rw [rnV_no a b c d n l (by unfold rnOk; rw [hk, Bool.true_and, ← Bool.and_assoc, h12]; rfl)], FB⟩
  · rw [Bool.not_eq_true] at hk
    rw [hk]
    have FU := UC.sets [.int .i64 0, .int .i64 0, .int .i64 0, .int .i64 0] rfl
    have FB := below_sets (m := w.heap.size) (g := (w.heap.size + 1)) (by omega) [.int .i64 0, .int .i64 0, .int .i64 0, .int .i64 0] 0 _ BC
    go_wp2_with (refine wpList_stB 25 _ _ (w.heap.size + 1) 0 [.int .i64 0, .int .i64 0, .int .i64 0, .int .i64 0] [.int .i64 0, .int .i64 0, .int .i64 0, .int .i64 0] ie hie UC (by rw [hsz]; rfl) (by simp) rfl rfl rfl rfl rfl ?_; try simp only [Act.put])
    exact bodyPost_ret (res_B2 rfl _ _ (w.heap.size + 1) _ (.bool false) ie hie ag25 FU (by rw [hsz]; rfl) rfl rfl) rfl ⟨by rw [rnV_no a b c d n l (by unfold rnOk; rw [hk]; rfl)], FB⟩

end Go.Proofs.Ytaeecaebjafnpaa
