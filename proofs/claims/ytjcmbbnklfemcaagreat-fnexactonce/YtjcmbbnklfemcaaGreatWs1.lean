/- Waits that are right. -/
import Derived.Test.YtjcmbbnklfemcaaGreatNd0
import Derived.Test.YtjcmbbnklfemcaaGreatTick1
import Derived.Test.YtjcmbbnklfemcaaGreatCr1
import Derived.Test.YtjcmbbnklfemcaaGreatKnow3
import Derived.Test.YtjcmbbnklfemcaaGreatSpecOk
import Derived.Test.YtjcmbbnklfemcaaGreatConf2
set_option linter.unusedVariables false
set_option maxRecDepth 100000
namespace Go.Proofs.YtjcmbbnklfemcaaGreat.Nd
open Go Go.RowKit Go.Joins Own Draw Term

theorem prow_of {w : World} {a : Option Addr} {xs : List TP} (h : FRow 2 cP w a xs) : PRow w a xs := by
  intro j hj
  obtain ⟨b, o, e, hb, hc⟩ := h j hj
  exact ⟨b, o, e, hb, hc 0 _ rfl, hc 1 _ rfl⟩
theorem arow_of {w : World} {a : Option Addr} {xs : List TA} (h : FRow 3 cA w a xs) : Ch.ARow w a xs := by
  intro j hj
  obtain ⟨b, o, e, hb, hc⟩ := h j hj
  exact ⟨b, o, e, hb, hc 0 _ rfl, hc 1 _ rfl, hc 2 _ rfl⟩
theorem own_cap {w : World} {B t s n c : Nat} {a : Option Addr} {xs : List Value} (h : w.ownsRow B t s (.slice a n c) n xs) : n ≤ c := by
  rcases h.2 with ⟨e, h0⟩ | ⟨g, cap, cur, e, _, _, hc, _⟩
  · omega
  · injection e with _ _ e3; omega
theorem within_b (n g : Int) (w : World) : Calls Tryz.prog 79 #[.int .i64 n, .int .i64 g] w fun e w' => e = .returned (.bool (btw n 0 g)) ∧ w = w' := within_is n g w
theorem in_b (n l g : Int) (w : World) : Calls Tryz.prog 28 #[.int .i64 n, .int .i64 l, .int .i64 g] w fun e w' => e = .returned (.bool (btw n l g)) ∧ w = w' := in_is n l g w
theorem key_b (n : Int) (w : World) : Calls Tryz.prog 80 #[.int .i64 n] w fun e w' => e = .returned (.bool (btw n 1 1000000)) ∧ w = w' := keyOk_is n w
def waitB (p : TW) : Bool := if p.1 then btw p.2.1 0 1000000 && (btw p.2.2.1 1 1000000 && btw p.2.2.2 0 5) else decide (p.2.1 = 0) && (decide (p.2.2.1 = 0) && decide (p.2.2.2 = 0))
set_option maxRecDepth 100000 in
set_option maxHeartbeats 3200000 in
theorem waitRight_is (p : TW) (w : World) : Calls Tryz.prog 118 #[vW p] w fun e w' => e = .returned (.bool (waitB p)) ∧ Below w.heap.size w w' := by
  obtain ⟨on, x, y, z⟩ := p
  obtain ⟨V, hV⟩ : ∃ V, w.alloc (.cells #[.bool on, .int .i64 x, .int .i64 y, .int .i64 z] 69) = V := ⟨_, rfl⟩
  have TV : Blk w.heap.size [.bool on, .int .i64 x, .int .i64 y, .int .i64 z] V := by rw [← hV]; exact Blk.new _ _ _
  have BC : Below w.heap.size w V := by rw [← hV]; exact (Below.refl _ _).alloc (Nat.le_refl _) _
  have d0 := TV.at 0 rfl
  have d1 := TV.at 1 rfl
  have d2 := TV.at 2 rfl
  have d3 := TV.at 3 rfl
  cases on with
  | false =>
    have HE : Hid (waitB (false, x, y, z) = (decide (x = 0) && (decide (y = 0) && decide (z = 0)))) := (rfl : waitB (false, x, y, z) = _)
    go_enter Tryz.func118, Tryz.ntmps118
    by_cases ex : x = 0
    · have qx : (x == 0) = true := beq_iff_eq.2 ex
      by_cases ey : y = 0
      · have qy : (y == 0) = true := beq_iff_eq.2 ey
        by_cases ez : z = 0
        · have qz : (z == 0) = true := beq_iff_eq.2 ez
          have HR : Hid (waitB (false, x, y, z) = true) := by show _ = _; rw [HE.out]; simp [ex, ey, ez]
          clear ex ey ez
          go_wp2
          go_ret
          exact ⟨by rw [HR.out]; rfl, BC⟩
        · have qz : (z == 0) = false := beq_eq_false_iff_ne.2 ez
          have HR : Hid (waitB (false, x, y, z) = false) := by show _ = _; rw [HE.out]; simp [ez]
          clear ex ey ez
          go_wp2
          go_ret
          exact ⟨by rw [HR.out]; rfl, BC⟩
      · have qy : (y == 0) = false := beq_eq_false_iff_ne.2 ey
        have HR : Hid (waitB (false, x, y, z) = false) := by show _ = _; rw [HE.out]; simp [ey]
        clear ex ey
        go_wp2
        go_ret
        exact ⟨by rw [HR.out]; rfl, BC⟩
    · have qx : (x == 0) = false := beq_eq_false_iff_ne.2 ex
      have HR : Hid (waitB (false, x, y, z) = false) := by show _ = _; rw [HE.out]; simp [ex]
      clear ex
      go_wp2
      go_ret
      exact ⟨by rw [HR.out]; rfl, BC⟩
  | true =>
    have HE : Hid (waitB (true, x, y, z) = (btw x 0 1000000 && (btw y 1 1000000 && btw z 0 5))) := (rfl : waitB (true, x, y, z) = _)
    go_enter Tryz.func118, Tryz.ntmps118
    go_wp2_with fail
    try rw [hV]
    refine (within_b x 1000000 _).mono ?_
    rintro en v0 ⟨rfl, rfl⟩
    by_cases h0 : btw x 0 1000000 = true
    · rw [h0]
      go_wp2_with fail
      try rw [hV]
      refine (key_b y _).mono ?_
      rintro en v1 ⟨rfl, rfl⟩
      by_cases h1 : btw y 1 1000000 = true
      · rw [h1]
        go_wp2_with fail
        try rw [hV]
        refine (prin_is z _).mono ?_
        rintro en v2 ⟨rfl, rfl⟩
        by_cases h2 : btw z 0 5 = true
        · rw [h2]
          go_wp2
          go_ret
          exact ⟨by rw [HE.out, h0, h1, h2]; rfl, BC⟩
        · rw [Bool.not_eq_true] at h2
          rw [h2]
          go_wp2
          go_ret
          exact ⟨by rw [HE.out, h0, h1, h2]; rfl, BC⟩
      · rw [Bool.not_eq_true] at h1
        rw [h1]
        go_wp2
        go_ret
        exact ⟨by rw [HE.out, h0, h1]; rfl, BC⟩
    · rw [Bool.not_eq_true] at h0
      rw [h0]
      go_wp2
      go_ret
      exact ⟨by rw [HE.out, h0]; rfl, BC⟩
set_option maxRecDepth 100000 in
set_option maxHeartbeats 3200000 in
theorem waitSpec_is (p : TW) (w : World) : Calls Tryz.prog 31 #[vW p] w fun e w' => e = .returned (.bool (waitB p)) ∧ Below w.heap.size w w' := by
  obtain ⟨on, x, y, z⟩ := p
  obtain ⟨V, hV⟩ : ∃ V, w.alloc (.cells #[.bool on, .int .i64 x, .int .i64 y, .int .i64 z] 69) = V := ⟨_, rfl⟩
  have TV : Blk w.heap.size [.bool on, .int .i64 x, .int .i64 y, .int .i64 z] V := by rw [← hV]; exact Blk.new _ _ _
  have BC : Below w.heap.size w V := by rw [← hV]; exact (Below.refl _ _).alloc (Nat.le_refl _) _
  have d0 := TV.at 0 rfl
  have d1 := TV.at 1 rfl
  have d2 := TV.at 2 rfl
  have d3 := TV.at 3 rfl
  cases on with
  | false =>
    have HE : Hid (waitB (false, x, y, z) = (decide (x = 0) && (decide (y = 0) && decide (z = 0)))) := (rfl : waitB (false, x, y, z) = _)
    go_enter Tryz.func31, Tryz.ntmps31
    by_cases ex : x = 0
    · have qx : (x == 0) = true := beq_iff_eq.2 ex
      by_cases ey : y = 0
      · have qy : (y == 0) = true := beq_iff_eq.2 ey
        by_cases ez : z = 0
        · have qz : (z == 0) = true := beq_iff_eq.2 ez
          have HR : Hid (waitB (false, x, y, z) = true) := by show _ = _; rw [HE.out]; simp [ex, ey, ez]
          clear ex ey ez
          go_wp2
          go_ret
          exact ⟨by rw [HR.out]; rfl, BC⟩
        · have qz : (z == 0) = false := beq_eq_false_iff_ne.2 ez
          have HR : Hid (waitB (false, x, y, z) = false) := by show _ = _; rw [HE.out]; simp [ez]
          clear ex ey ez
          go_wp2
          go_ret
          exact ⟨by rw [HR.out]; rfl, BC⟩
      · have qy : (y == 0) = false := beq_eq_false_iff_ne.2 ey
        have HR : Hid (waitB (false, x, y, z) = false) := by show _ = _; rw [HE.out]; simp [ey]
        clear ex ey
        go_wp2
        go_ret
        exact ⟨by rw [HR.out]; rfl, BC⟩
    · have qx : (x == 0) = false := beq_eq_false_iff_ne.2 ex
      have HR : Hid (waitB (false, x, y, z) = false) := by show _ = _; rw [HE.out]; simp [ex]
      clear ex
      go_wp2
      go_ret
      exact ⟨by rw [HR.out]; rfl, BC⟩
  | true =>
    have HE : Hid (waitB (true, x, y, z) = (btw x 0 1000000 && (btw y 1 1000000 && btw z 0 5))) := (rfl : waitB (true, x, y, z) = _)
    go_enter Tryz.func31, Tryz.ntmps31
    go_wp2_with fail
    try rw [hV]
    refine (in_b x 0 1000000 _).mono ?_
    rintro en v0 ⟨rfl, rfl⟩
    by_cases h0 : btw x 0 1000000 = true
    · rw [h0]
      go_wp2_with fail
      try rw [hV]
      refine (in_b y 1 1000000 _).mono ?_
      rintro en v1 ⟨rfl, rfl⟩
      by_cases h1 : btw y 1 1000000 = true
      · rw [h1]
        go_wp2_with fail
        try rw [hV]
        refine (spec_prin z _).mono ?_
        rintro en v2 ⟨rfl, rfl⟩
        by_cases h2 : btw z 0 5 = true
        · rw [h2]
          go_wp2
          go_ret
          exact ⟨by rw [HE.out, h0, h1, h2]; rfl, BC⟩
        · rw [Bool.not_eq_true] at h2
          rw [h2]
          go_wp2
          go_ret
          exact ⟨by rw [HE.out, h0, h1, h2]; rfl, BC⟩
      · rw [Bool.not_eq_true] at h1
        rw [h1]
        go_wp2
        go_ret
        exact ⟨by rw [HE.out, h0, h1]; rfl, BC⟩
    · rw [Bool.not_eq_true] at h0
      rw [h0]
      go_wp2
      go_ret
      exact ⟨by rw [HE.out, h0]; rfl, BC⟩
end Go.Proofs.YtjcmbbnklfemcaaGreat.Nd
