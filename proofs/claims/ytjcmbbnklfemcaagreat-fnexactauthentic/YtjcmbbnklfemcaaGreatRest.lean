/- Rests: what is right, what two meet in, what entails and permits: the program and the model. -/
import Derived.Test.YtjcmbbnklfemcaaGreatRows
import Derived.WalkKit
import Derived.WalkSpells
import Derived.WalkLawsBesides
import Derived.Deep.QuietTactic
import Derived.Deep.RegionHeld3
import Derived.BigQuiet
import Derived.WalkSmall
import Derived.Below
set_option linter.unusedVariables false
namespace Go.Proofs.YtjcmbbnklfemcaaGreat
open Go Go.RowKit

/-- A number lies between none and g. -/
def inB (n g : Int) : Bool := decide (0 ≤ n) && decide (n ≤ g)
/-- A rest is right. -/
def rOk (a b c : Int) : Bool := inB a 7 && (inB b 255 && inB c 100000)
abbrev rv (a b c : Int) : Value := .agg #[.int .i64 a, .int .i64 b, .int .i64 c]

theorem within_is (n g : Int) (w : World) : Calls Tryz.prog 79 #[.int .i64 n, .int .i64 g] w fun e w' => e = .returned (.bool (inB n g)) ∧ w = w' := by
  by_cases h0 : 0 ≤ n
  · by_cases h1 : n ≤ g
    · go_enter Tryz.func79, Tryz.ntmps79
      go_wp2
      go_ret
      exact ⟨by simp [inB, h0, h1], rfl⟩
    · go_enter Tryz.func79, Tryz.ntmps79
      go_wp2
      go_ret
      exact ⟨by simp [inB, h0, h1], rfl⟩
  · go_enter Tryz.func79, Tryz.ntmps79
    go_wp2
    go_ret
    exact ⟨by unfold inB; rw [show decide (0 ≤ n) = false by simp; omega]; rfl, rfl⟩
theorem in_is (n l g : Int) (w : World) : Calls Tryz.prog 28 #[.int .i64 n, .int .i64 l, .int .i64 g] w fun e w' => e = .returned (.bool (decide (l ≤ n) && decide (n ≤ g))) ∧ w = w' := by
  by_cases h0 : l ≤ n
  · by_cases h1 : n ≤ g
    · go_enter Tryz.func28, Tryz.ntmps28
      go_wp2
      go_ret
      exact ⟨by simp [h0, h1], rfl⟩
    · go_enter Tryz.func28, Tryz.ntmps28
      go_wp2
      go_ret
      exact ⟨by simp [h1], rfl⟩
  · go_enter Tryz.func28, Tryz.ntmps28
    go_wp2
    go_ret
    exact ⟨by rw [show decide (l ≤ n) = false by simp; omega]; rfl, rfl⟩

set_option maxRecDepth 100000 in
set_option maxHeartbeats 800000 in
theorem right_is (a b c : Int) (w : World) : Calls Tryz.prog 166 #[rv a b c] w fun e w' => e = .returned (.bool (rOk a b c)) ∧ Below w.heap.size w w' := by
  have hb0 : Below w.heap.size w (w.alloc (.cells #[.int .i64 a, .int .i64 b, .int .i64 c] 72)) := (Below.refl _ _).alloc (Nat.le_refl _) _
  go_enter Tryz.func166, Tryz.ntmps166
  go_wp2_with fail
  refine (within_is a 7 _).mono ?_
  rintro e w1 ⟨rfl, rfl⟩
  by_cases h0 : inB a 7 = true
  · rw [h0]
    go_wp2_with fail
    refine (within_is b 255 _).mono ?_
    rintro e w1 ⟨rfl, rfl⟩
    by_cases h1 : inB b 255 = true
    · rw [h1]
      go_wp2_with fail
      refine (within_is c 100000 _).mono ?_
      rintro e w1 ⟨rfl, rfl⟩
      go_wp2
      go_ret
      exact ⟨by simp [rOk, h0, h1], hb0⟩
    · rw [Bool.not_eq_true] at h1
      rw [h1]
      go_wp2
      go_ret
      exact ⟨by simp [rOk, h0, h1], hb0⟩
  · rw [Bool.not_eq_true] at h0
    rw [h0]
    go_wp2
    go_ret
    exact ⟨by simp [rOk, h0], hb0⟩

set_option maxRecDepth 100000 in
set_option maxHeartbeats 800000 in
theorem specOk_is (a b c : Int) (w : World) : Calls Tryz.prog 69 #[rv a b c] w fun e w' => e = .returned (.bool (rOk a b c)) ∧ Below w.heap.size w w' := by
  have hb0 : Below w.heap.size w (w.alloc (.cells #[.int .i64 a, .int .i64 b, .int .i64 c] 72)) := (Below.refl _ _).alloc (Nat.le_refl _) _
  go_enter Tryz.func69, Tryz.ntmps69
  go_wp2_with fail
  refine (in_is a 0 7 _).mono ?_
  rintro e w1 ⟨rfl, rfl⟩
  rw [show (decide (0 ≤ a) && decide (a ≤ 7)) = inB a 7 from rfl]
  by_cases h0 : inB a 7 = true
  · rw [h0]
    go_wp2_with fail
    refine (in_is b 0 255 _).mono ?_
    rintro e w1 ⟨rfl, rfl⟩
    rw [show (decide (0 ≤ b) && decide (b ≤ 255)) = inB b 255 from rfl]
    by_cases h1 : inB b 255 = true
    · rw [h1]
      go_wp2_with fail
      refine (in_is c 0 100000 _).mono ?_
      rintro e w1 ⟨rfl, rfl⟩
      go_wp2
      go_ret
      exact ⟨by unfold rOk; rw [h0, h1]; rfl, hb0⟩
    · rw [Bool.not_eq_true] at h1
      rw [h1]
      go_wp2
      go_ret
      exact ⟨by simp [rOk, h0, h1], hb0⟩
  · rw [Bool.not_eq_true] at h0
    rw [h0]
    go_wp2
    go_ret
    exact ⟨by simp [rOk, h0], hb0⟩

/-- The bit at a place is there. -/
def hasB (n i : Int) : Bool := decide (0 ≤ i) && (bits .and .i64 (n / 2 ^ min i.toNat 64) 1 == 1)

/-- The boxes of two rests, and behind them one more block. -/
structure Two (s : Nat) (a b c x y z : Int) (W : World) : Prop where
  a : W.cell? ⟨s, 0, none⟩ = some (.int .i64 a)
  b : W.cell? ⟨s, 1, none⟩ = some (.int .i64 b)
  c : W.cell? ⟨s, 2, none⟩ = some (.int .i64 c)
  x : W.cell? ⟨s + 1, 0, none⟩ = some (.int .i64 x)
  y : W.cell? ⟨s + 1, 1, none⟩ = some (.int .i64 y)
  z : W.cell? ⟨s + 1, 2, none⟩ = some (.int .i64 z)
theorem Two.later {s : Nat} {a b c x y z : Int} {W W' : World} (h : Two s a b c x y z W) (hb : Below W.heap.size W W') (hs : s + 2 ≤ W.heap.size) : Two s a b c x y z W' :=
  ⟨(hb.cell (p := ⟨s, 0, none⟩) (show s < _ by omega)).trans h.a, (hb.cell (p := ⟨s, 1, none⟩) (show s < _ by omega)).trans h.b, (hb.cell (p := ⟨s, 2, none⟩) (show s < _ by omega)).trans h.c,
   (hb.cell (p := ⟨s + 1, 0, none⟩) (show s + 1 < _ by omega)).trans h.x, (hb.cell (p := ⟨s + 1, 1, none⟩) (show s + 1 < _ by omega)).trans h.y, (hb.cell (p := ⟨s + 1, 2, none⟩) (show s + 1 < _ by omega)).trans h.z⟩
/-- A block of three cells that may be written. -/
structure Out3 (g : Nat) (W : World) : Prop where
  c0 : ∃ v, W.cell? ⟨g, 0, none⟩ = some v
  c1 : ∃ v, W.cell? ⟨g, 1, none⟩ = some v
  c2 : ∃ v, W.cell? ⟨g, 2, none⟩ = some v
  f0 : W.frozen? ⟨g, 0, none⟩ = false
  f1 : W.frozen? ⟨g, 1, none⟩ = false
  f2 : W.frozen? ⟨g, 2, none⟩ = false
theorem Out3.later {g : Nat} {W W' : World} (h : Out3 g W) (hb : Below W.heap.size W W') (hg : g < W.heap.size) : Out3 g W' := by
  obtain ⟨⟨v0, h0⟩, ⟨v1, h1⟩, ⟨v2, h2⟩, f0, f1, f2⟩ := h
  exact ⟨⟨v0, (hb.cell (p := ⟨g, 0, none⟩) hg).trans h0⟩, ⟨v1, (hb.cell (p := ⟨g, 1, none⟩) hg).trans h1⟩, ⟨v2, (hb.cell (p := ⟨g, 2, none⟩) hg).trans h2⟩,
    (hb.frozen (p := ⟨g, 0, none⟩) hg).trans f0, (hb.frozen (p := ⟨g, 1, none⟩) hg).trans f1, (hb.frozen (p := ⟨g, 2, none⟩) hg).trans f2⟩
end Go.Proofs.YtjcmbbnklfemcaaGreat

namespace Go.Proofs.YtjcmbbnklfemcaaGreat
open Go Go.RowKit

/-! What is right. -/
/-- A number from 0 to a last one, or from a first one on. -/
def btw (n lo hi : Int) : Bool := decide (lo ≤ n) && decide (n ≤ hi)
def svOk (s : Int) : Bool := btw s 0 2 || btw s 10 12
def allB (l : List Int) (m : Nat) : Bool := decide (l.length ≤ m) && l.all fun n => btw n 0 2
def aOk (c t q : Int) : Bool := btw c 0 5 && (btw t 0 100000 && btw q 0 1000000)
theorem btw_iff (n lo hi : Int) : btw n lo hi = true ↔ lo ≤ n ∧ n ≤ hi := by unfold btw; simp
end Go.Proofs.YtjcmbbnklfemcaaGreat

set_option linter.unusedVariables false
namespace Go.Proofs.YtjcmbbnklfemcaaGreat
open Go Go.RowKit

theorem Two.six {s : Nat} {a b c x y z : Int} {W : World} (h : Two s a b c x y z W) : W.cell? ⟨s, 0, none⟩ = some (.int .i64 a) ∧ W.cell? ⟨s, 1, none⟩ = some (.int .i64 b) ∧ W.cell? ⟨s, 2, none⟩ = some (.int .i64 c) ∧ W.cell? ⟨s + 1, 0, none⟩ = some (.int .i64 x) ∧ W.cell? ⟨s + 1, 1, none⟩ = some (.int .i64 y) ∧ W.cell? ⟨s + 1, 2, none⟩ = some (.int .i64 z) := ⟨h.a, h.b, h.c, h.x, h.y, h.z⟩
theorem Two.drew {s : Nat} {a b c x y z : Int} {W : World} (h : Two s a b c x y z W) : Two s a b c x y z W.drew := ⟨by simpa using h.a, by simpa using h.b, by simpa using h.c, by simpa using h.x, by simpa using h.y, by simpa using h.z⟩

end Go.Proofs.YtjcmbbnklfemcaaGreat

set_option linter.unusedVariables false
namespace Go.Proofs.YtjcmbbnklfemcaaGreat
open Go Go.RowKit
end Go.Proofs.YtjcmbbnklfemcaaGreat

set_option linter.unusedVariables false
namespace Go.Proofs.YtjcmbbnklfemcaaGreat
open Go Go.RowKit

theorem unwanted {ops : Array Oper} {tmps : Array Value} {o : Oper} {j d : Nat} {b c : Bool} (hg : o.guard = some (j, b)) (hd : (ops[j]?).bind (·.dst) = some d) (ht : tmps[d]? = some (.bool c)) (hc : (c == b) = false) : Region.wanted o (yielded ops tmps) = false := by
  have hy : yielded ops tmps j = some c := by unfold yielded; rw [hd]; simp only [Option.bind_some, ht]
  unfold Region.wanted
  rw [hg]
  simp only [hy]
  simpa using hc
theorem unwanted_undef {ops : Array Oper} {tmps : Array Value} {o : Oper} {j d : Nat} {b : Bool} (hg : o.guard = some (j, b)) (hd : (ops[j]?).bind (·.dst) = some d) (ht : tmps[d]? = some undef) : Region.wanted o (yielded ops tmps) = false := by
  have hy : yielded ops tmps j = none := by unfold yielded; rw [hd]; simp only [Option.bind_some, ht]; rfl
  unfold Region.wanted
  rw [hg]
  simp only [hy]
  rfl
/-- An operation of a drawn region that yields its value wherever S holds is taken first. -/
theorem take_one {P : Program} {ops : Array Oper} {Q : Exit → Act → World → Prop} {md : Region.Mode} {S : World → Prop} (i d : Nat) {oi : Oper} {v : Value} {fuel : Nat} {listed : Array Bool} {a : Act} {w : World} (hi : ops[i]? = some oi) (hd : oi.dst = some d)
    (hs : Region.noSelect ops = true) (hf : Region.free md ops listed i = true) (hr : (Region.ready md ops listed).contains i = true) (hQ : ∀ c a w, Q (.panic c) (a.put (some d) v) w → Q (.panic c) a w)
    (hy : YieldsIf P ops S oi v a) (hS : S w) (h : wpAnyH P md ops Q S fuel (listed.setIfInBounds i true) (a.put (some d) v) w) : wpAnyH P md ops Q S (fuel + 1) listed a w :=
  wpAnyH_take hi hs hf hr (by rw [hd]; exact hQ) hy hS (by rw [hd]; exact h)
/-- An operation of a drawn region that its guard passes over is taken first. -/
theorem skip_one {P : Program} {ops : Array Oper} {Q : Exit → Act → World → Prop} {md : Region.Mode} {S : World → Prop} (i d : Nat) {oi : Oper} {fuel : Nat} {listed : Array Bool} {a : Act} {w : World} (hi : ops[i]? = some oi) (hd : oi.dst = some d)
    (hs : Region.noSelect ops = true) (hf : Region.free md ops listed i = true) (hr : (Region.ready md ops listed).contains i = true) (hQ : ∀ c a w, Q (.panic c) (a.put (some d) undef) w → Q (.panic c) a w)
    (hw : Region.wanted oi (yielded ops a.tmps) = false) (hS : S w) (h : wpAnyH P md ops Q S fuel (listed.setIfInBounds i true) (a.put (some d) undef) w) : wpAnyH P md ops Q S (fuel + 1) listed a w :=
  take_one i d hi hd hs hf hr hQ (Or.inr ⟨hw, rfl⟩) hS h
end Go.Proofs.YtjcmbbnklfemcaaGreat

set_option linter.unusedVariables false
namespace Go.Proofs.YtjcmbbnklfemcaaGreat
open Go Go.RowKit

/-- The box of one rest. -/
structure One (s : Nat) (a b c : Int) (W : World) : Prop where
  a : W.cell? ⟨s, 0, none⟩ = some (.int .i64 a)
  b : W.cell? ⟨s, 1, none⟩ = some (.int .i64 b)
  c : W.cell? ⟨s, 2, none⟩ = some (.int .i64 c)
theorem One.later {s : Nat} {a b c : Int} {W W' : World} (h : One s a b c W) (hb : Below W.heap.size W W') (hs : s + 1 ≤ W.heap.size) : One s a b c W' :=
  ⟨(hb.cell (p := ⟨s, 0, none⟩) (show s < _ by omega)).trans h.a, (hb.cell (p := ⟨s, 1, none⟩) (show s < _ by omega)).trans h.b, (hb.cell (p := ⟨s, 2, none⟩) (show s < _ by omega)).trans h.c⟩

theorem inB_iff (n g : Int) : inB n g = true ↔ 0 ≤ n ∧ n ≤ g := by unfold inB; simp
end Go.Proofs.YtjcmbbnklfemcaaGreat
