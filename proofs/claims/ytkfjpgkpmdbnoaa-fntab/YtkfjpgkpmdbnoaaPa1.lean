/- A slot right, two compared, a row rising: the program. -/
import Derived.Test.YtkfjpgkpmdbnoaaPa0
import Derived.Test.YtkfjpgkpmdbnoaaTb1
import Derived.Test.YtkfjpgkpmdbnoaaBig
import Derived.Test.YtkfjpgkpmdbnoaaRg1
set_option linter.unusedVariables false
set_option maxRecDepth 100000
namespace Go.Proofs.Ytkfjpgkpmdbnoaa
open Go Go.RowKit Go.Joins Own Draw

theorem within_is (n g : Int) (w : World) : Calls Try.prog 71 #[.int .i64 n, .int .i64 g] w fun e w' => e = .returned (.bool (btw n 0 g)) ∧ w' = w := by
  unfold btw
  by_cases h0 : 0 ≤ n
  · have e0 : decide ((0 : Int) ≤ n) = true := decide_eq_true h0
    by_cases h1 : n ≤ g
    · have e1 : decide (n ≤ g) = true := decide_eq_true h1
      rw [e0, e1]
      go_enter Try.func71, Try.ntmps71
      go_wp2
      go_ret
      exact ⟨rfl, rfl⟩
    · have e1 : decide (n ≤ g) = false := decide_eq_false h1
      rw [e0, e1]
      go_enter Try.func71, Try.ntmps71
      go_wp2
      go_ret
      exact ⟨rfl, rfl⟩
  · have e0 : decide ((0 : Int) ≤ n) = false := decide_eq_false h0
    rw [e0]
    go_enter Try.func71, Try.ntmps71
    go_wp2
    go_ret
    exact ⟨rfl, rfl⟩
theorem keyOk_is (n : Int) (w : World) : Calls Try.prog 72 #[.int .i64 n] w fun e w' => e = .returned (.bool (btw n 1 1000000)) ∧ w' = w := by
  unfold btw
  by_cases h0 : 1 ≤ n
  · have e0 : decide ((1 : Int) ≤ n) = true := decide_eq_true h0
    by_cases h1 : n ≤ 1000000
    · have e1 : decide (n ≤ 1000000) = true := decide_eq_true h1
      rw [e0, e1]
      go_enter Try.func72, Try.ntmps72
      go_wp2
      go_ret
      exact ⟨rfl, rfl⟩
    · have e1 : decide (n ≤ 1000000) = false := decide_eq_false h1
      rw [e0, e1]
      go_enter Try.func72, Try.ntmps72
      go_wp2
      go_ret
      exact ⟨rfl, rfl⟩
  · have e0 : decide ((1 : Int) ≤ n) = false := decide_eq_false h0
    rw [e0]
    go_enter Try.func72, Try.ntmps72
    go_wp2
    go_ret
    exact ⟨rfl, rfl⟩
set_option maxHeartbeats 3200000 in
theorem right_is (x0 x1 x2 : Int) (w : World) : Calls Try.prog 55 #[.agg #[.int .i64 x0, .int .i64 x1, .int .i64 x2]] w fun e w' => e = .returned (.bool (slA (x0, x1, x2))) ∧ Below w.heap.size w w' := by
  obtain ⟨V, hV⟩ : ∃ V, w.alloc (.cells #[.int .i64 x0, .int .i64 x1, .int .i64 x2] 31) = V := ⟨_, rfl⟩
  have TV : Blk w.heap.size [.int .i64 x0, .int .i64 x1, .int .i64 x2] V := by rw [← hV]; exact Blk.new _ _ _
  have BC : Below w.heap.size w V := by rw [← hV]; exact (Below.refl _ _).alloc (Nat.le_refl _) _
  have d0 := TV.at 0 rfl
  have d1 := TV.at 1 rfl
  have d2 := TV.at 2 rfl
  have K0 := within_is x0 99 V
  have K1 := keyOk_is x2 V
  have hE : slA (x0, x1, x2) = (btw x0 0 99 && ((decide (1 ≤ x1) && decide (x1 ≤ 1000)) && btw x2 1 1000000)) := rfl
  generalize slA (x0, x1, x2) = ans at hE ⊢
  generalize btw x0 0 99 = b0 at K0 hE
  generalize btw x2 1 1000000 = b2 at K1 hE
  cases b0 with
  | false =>
    have HE : Hid (ans = false) := hE
    clear hE K1
    go_enter Try.func55, Try.ntmps55
    go_wp2_with fail
    try rw [hV]
    refine K0.mono ?_
    clear K0
    rintro en w1 ⟨rfl, rfl⟩
    go_wp2
    go_ret
    exact ⟨by first | (rw [HE.out]; rfl) | rw [HE.out], BC⟩
  | true =>
    by_cases c1 : 1 ≤ x1
    · by_cases c2 : x1 ≤ 1000
      · have HE : Hid (ans = b2) := by show _ = _; rw [hE, decide_eq_true c1, decide_eq_true c2]; simp
        clear hE
        cases b2 with
        | true =>
          go_enter Try.func55, Try.ntmps55
          go_wp2_with fail
          try rw [hV]
          refine K0.mono ?_
          clear K0
          rintro en w1 ⟨rfl, rfl⟩
          go_wp2_with fail
          refine K1.mono ?_
          clear K1
          rintro en w1 ⟨rfl, rfl⟩
          go_wp2
          go_ret
          exact ⟨by first | (rw [HE.out]; rfl) | rw [HE.out], BC⟩
        | false =>
          go_enter Try.func55, Try.ntmps55
          go_wp2_with fail
          try rw [hV]
          refine K0.mono ?_
          clear K0
          rintro en w1 ⟨rfl, rfl⟩
          go_wp2_with fail
          refine K1.mono ?_
          clear K1
          rintro en w1 ⟨rfl, rfl⟩
          go_wp2
          go_ret
          exact ⟨by first | (rw [HE.out]; rfl) | rw [HE.out], BC⟩
      · have HE : Hid (ans = false) := by show _ = _; rw [hE, decide_eq_false c2]; simp
        clear hE K1
        go_enter Try.func55, Try.ntmps55
        go_wp2_with fail
        try rw [hV]
        refine K0.mono ?_
        clear K0
        rintro en w1 ⟨rfl, rfl⟩
        go_wp2
        go_ret
        exact ⟨by first | (rw [HE.out]; rfl) | rw [HE.out], BC⟩
    · have HE : Hid (ans = false) := by show _ = _; rw [hE, decide_eq_false c1]; simp
      clear hE K1
      go_enter Try.func55, Try.ntmps55
      go_wp2_with fail
      try rw [hV]
      refine K0.mono ?_
      clear K0
      rintro en w1 ⟨rfl, rfl⟩
      go_wp2
      go_ret
      exact ⟨by first | (rw [HE.out]; rfl) | rw [HE.out], BC⟩
theorem nan_is (n : Int) (w : World) : Calls Try.prog 76 #[.int .i64 n] w fun e w' => e = .returned (.bool false) ∧ w' = w := by
  have h : (n == n) = true := beq_self_eq_true n
  go_enter Try.func76, Try.ntmps76
  go_wp2
  go_ret
  exact ⟨rfl, rfl⟩
theorem cmp_is (a b : Int) (w : World) : Calls Try.prog 62 #[.int .i64 a, .int .i64 b] w fun e w' => e = .returned (.int .i64 (cmpI a b)) ∧ w' = w := by
  have K0 := nan_is a w
  have K1 := nan_is b w
  have hE : cmpI a b = if a < b then -1 else if a > b then 1 else 0 := rfl
  generalize cmpI a b = ans at hE ⊢
  by_cases c0 : a < b
  · have HE : Hid (ans = -1) := by show _ = _; rw [hE, if_pos c0]
    clear hE
    go_enter Try.func62, Try.ntmps62
    go_wp2_with fail
    refine K0.mono ?_
    clear K0
    rintro en w1 ⟨rfl, rfl⟩
    go_wp2_with fail
    refine K1.mono ?_
    clear K1
    rintro en w1 ⟨rfl, rfl⟩
    go_wp2
    go_ret
    exact ⟨by first | (rw [HE.out]; rfl) | rw [HE.out], rfl⟩
  · by_cases c1 : a > b
    · have HE : Hid (ans = 1) := by show _ = _; rw [hE, if_neg c0, if_pos c1]
      clear hE
      go_enter Try.func62, Try.ntmps62
      go_wp2_with fail
      refine K0.mono ?_
      clear K0
      rintro en w1 ⟨rfl, rfl⟩
      go_wp2_with fail
      refine K1.mono ?_
      clear K1
      rintro en w1 ⟨rfl, rfl⟩
      go_wp2
      go_ret
      exact ⟨by first | (rw [HE.out]; rfl) | rw [HE.out], rfl⟩
    · have HE : Hid (ans = 0) := by show _ = _; rw [hE, if_neg c0, if_neg c1]
      clear hE
      go_enter Try.func62, Try.ntmps62
      go_wp2_with fail
      refine K0.mono ?_
      clear K0
      rintro en w1 ⟨rfl, rfl⟩
      go_wp2_with fail
      refine K1.mono ?_
      clear K1
      rintro en w1 ⟨rfl, rfl⟩
      go_wp2
      go_ret
      exact ⟨by first | (rw [HE.out]; rfl) | rw [HE.out], rfl⟩
set_option maxHeartbeats 3200000 in
theorem or_is (g : Nat) (a b : Int) (w : World) (hb : Blk g [.int .i64 a, .int .i64 b] w) : Calls Try.prog 61 #[.slice (some ⟨g, 0, none⟩) 2 2] w fun e w' => e = .returned (.int .i64 (if a = 0 then b else a)) ∧ Below w.heap.size w w' := by
  have b0 := hb.at 0 rfl
  have b1 := hb.at 1 rfl
  by_cases c0 : a = 0
  · subst c0
    rw [if_pos rfl]
    by_cases c1 : b = 0
    · subst c1
      go_enter Try.func61, Try.ntmps61
      go_wp2
      go_loopw [8] (fun iv wr => wr = w ∧ (iv = .int .i64 0 ∨ iv = .int .i64 1 ∨ iv = .int .i64 2)) (fun iv _ => 3 - (intOf iv).toNat)
      case atStart => exact ⟨rfl, Or.inl rfl⟩
      case round =>
        obtain ⟨rfl, hrel⟩ := hrel
        rcases hrel with rfl | rfl | rfl
        · go_wp2
          go_roundw
          case rel => exact ⟨trivial, Or.inr (Or.inl rfl)⟩
          case measure => simp [intOf]
        · go_wp2
          go_roundw
          case rel => exact ⟨trivial, Or.inr (Or.inr rfl)⟩
          case measure => simp [intOf]
        · go_wp2
          go_ret
          exact ⟨rfl, Below.refl _ _⟩
    · have e1 : (b == 0) = false := beq_eq_false_iff_ne.2 c1
      go_enter Try.func61, Try.ntmps61
      go_wp2
      go_loopw [8] (fun iv wr => wr = w ∧ (iv = .int .i64 0 ∨ iv = .int .i64 1)) (fun iv _ => 3 - (intOf iv).toNat)
      case atStart => exact ⟨rfl, Or.inl rfl⟩
      case round =>
        obtain ⟨rfl, hrel⟩ := hrel
        rcases hrel with rfl | rfl
        · go_wp2
          go_roundw
          case rel => exact ⟨trivial, Or.inr rfl⟩
          case measure => simp [intOf]
        · go_wp2
          go_ret
          exact ⟨rfl, Below.refl _ _⟩
  · rw [if_neg c0]
    have e1 : (a == 0) = false := beq_eq_false_iff_ne.2 c0
    go_enter Try.func61, Try.ntmps61
    go_wp2
    go_loopw [8] (fun iv wr => wr = w ∧ iv = .int .i64 0) (fun iv _ => 3 - (intOf iv).toNat)
    case atStart => exact ⟨rfl, rfl⟩
    case round =>
      obtain ⟨rfl, rfl⟩ := hrel
      go_wp2
      go_ret
      exact ⟨rfl, Below.refl _ _⟩
end Go.Proofs.Ytkfjpgkpmdbnoaa
