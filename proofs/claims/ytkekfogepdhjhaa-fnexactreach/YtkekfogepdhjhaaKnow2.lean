/- What is known, as one value of two rows: is it right? The program and the model. -/
import Derived.Test.YtkekfogepdhjhaaKnow
import Derived.Deep.RegionHeld3
set_option linter.unusedVariables false
namespace Go.Proofs.Ytkekfogepdhjhaa
open Go.RowKit Own Var Term

/-- Two rows in one value. -/
def kV (a : Option Addr) (la ca : Nat) (b : Option Addr) (lb cb : Nat) : Value := .agg #[.slice a la ca, .slice b lb cb]
def kOk (xs : List ByteArray) (ks : List Int) : Bool := ((decide (xs.length ≤ 60) && kTerms xs) && decide (ks.length ≤ 40)) && kKeys ks

set_option maxRecDepth 100000 in
set_option maxHeartbeats 800000 in
theorem impl_knownOk (a b : Option Addr) (ca cb : Nat) (xs : List ByteArray) (ks : List Int) (w : World) (hr : RowAt Value.string w a xs) (hq : RowAt (Value.int .i64) w b ks)
    (hl : xs.length ≤ 1048576) (hl2 : ks.length ≤ 1048576) (hcap : xs.length ≤ ca) (hs : ∀ x ∈ xs, x.size ≤ 1048576) :
    Calls Try.prog 24 #[.agg #[.slice a xs.length ca, .slice b ks.length cb]] w fun e w' => e = .returned (.bool (kOk xs ks)) ∧ Below w.heap.size w w' := by
  have hb0 : Below w.heap.size w (w.alloc (.cells #[.slice a xs.length ca, .slice b ks.length cb] 27)) := (Below.refl _ _).alloc (Nat.le_refl _) _
  have hU := unlike_is a ca xs _ (hr.later hb0) hl hcap hs
  have hR := fun w' (hb : Below w.heap.size w w') => rising_is b cb ks w' (hq.later hb) hl2
  unfold kOk
  by_cases h1 : xs.length ≤ 60
  · have h1' : decide ((xs.length : Int) ≤ 60) = true := by simp; omega
    rw [decide_eq_true h1]
    cases hT : kTerms xs with
    | false =>
      rw [hT] at hU
      go_enter Try.func24, Try.ntmps24
      go_wp2_with fail
      refine hU.mono ?_
      rintro e w1 ⟨rfl, hb1⟩
      have hb2 := hb0.trans (hb1.mono hb0.size)
      go_wp2
      go_ret
      exact ⟨rfl, hb2⟩
    | true =>
      rw [hT] at hU
      by_cases h2 : ks.length ≤ 40
      · have h2' : decide ((ks.length : Int) ≤ 40) = true := by simp; omega
        rw [decide_eq_true h2]
        go_enter Try.func24, Try.ntmps24
        go_wp2_with fail
        refine hU.mono ?_
        rintro e w1 ⟨rfl, hb1⟩
        have hb2 := hb0.trans (hb1.mono hb0.size)
        have hc1 : w1.cell? ⟨w.heap.size, 1, none⟩ = some (.slice b ks.length cb) := (hb1.cell (p := ⟨w.heap.size, 1, none⟩) (by simp)).trans (by simp [go_sem])
        go_wp2_with fail
        refine (hR _ hb2).mono ?_
        rintro e w2 ⟨rfl, rfl⟩
        go_wp2
        go_ret
        exact ⟨by simp, hb2⟩
      · have h2' : decide ((ks.length : Int) ≤ 40) = false := by simp; omega
        rw [decide_eq_false h2]
        go_enter Try.func24, Try.ntmps24
        go_wp2_with fail
        refine hU.mono ?_
        rintro e w1 ⟨rfl, hb1⟩
        have hb2 := hb0.trans (hb1.mono hb0.size)
        have hc1 : w1.cell? ⟨w.heap.size, 1, none⟩ = some (.slice b ks.length cb) := (hb1.cell (p := ⟨w.heap.size, 1, none⟩) (by simp)).trans (by simp [go_sem])
        go_wp2
        go_ret
        exact ⟨rfl, hb2⟩
  · have h1' : decide ((xs.length : Int) ≤ 60) = false := by simp; omega
    rw [decide_eq_false h1]
    go_enter Try.func24, Try.ntmps24
    go_wp2
    go_ret
    exact ⟨rfl, hb0⟩
end Go.Proofs.Ytkekfogepdhjhaa
