/- Rests: what is right, what two meet in, what entails and permits: the program and the model. -/
import Derived.Test.YtbbaddcldoflfaaRows
import Derived.WalkKit
import Derived.WalkSpells
import Derived.WalkLawsBesides
import Derived.Deep.QuietTactic

import Derived.BigQuiet
import Derived.WalkSmall
import Derived.Below
set_option linter.unusedVariables false
namespace Go.Proofs.Ytbbaddcldoflfaa
open Go Go.RowKit

/-- A number lies between none and g. -/
def inB (n g : Int) : Bool := decide (0 ≤ n) && decide (n ≤ g)
/-- A rest is right. -/
def rOk (a b c : Int) : Bool := inB a 7 && (inB b 255 && inB c 100000)
abbrev rv (a b c : Int) : Value := .agg #[.int .i64 a, .int .i64 b, .int .i64 c]

theorem within_is (n g : Int) (w : World) : Calls Try.prog 55 #[.int .i64 n, .int .i64 g] w fun e w' => e = .returned (.bool (inB n g)) ∧ w = w' := by
  by_cases h0 : 0 ≤ n
  · by_cases h1 : n ≤ g
    · go_enter Try.func55, Try.ntmps55
      go_wp2
      go_ret
      exact ⟨by simp [inB, h0, h1], rfl⟩
    · go_enter Try.func55, Try.ntmps55
      go_wp2
      go_ret
      exact ⟨by simp [inB, h0, h1], rfl⟩
  · go_enter Try.func55, Try.ntmps55
    go_wp2
    go_ret
    exact ⟨by unfold inB; rw [show decide (0 ≤ n) = false by simp; omega]; rfl, rfl⟩
theorem in_is (n l g : Int) (w : World) : Calls Try.prog 18 #[.int .i64 n, .int .i64 l, .int .i64 g] w fun e w' => e = .returned (.bool (decide (l ≤ n) && decide (n ≤ g))) ∧ w = w' := by
  by_cases h0 : l ≤ n
  · by_cases h1 : n ≤ g
    · go_enter Try.func18, Try.ntmps18
      go_wp2
      go_ret
      exact ⟨by simp [h0, h1], rfl⟩
    · go_enter Try.func18, Try.ntmps18
      go_wp2
      go_ret
      exact ⟨by simp [h1], rfl⟩
  · go_enter Try.func18, Try.ntmps18
    go_wp2
    go_ret
    exact ⟨by rw [show decide (l ≤ n) = false by simp; omega]; rfl, rfl⟩

set_option maxRecDepth 100000 in
set_option maxHeartbeats 800000 in
theorem right_is (a b c : Int) (w : World) : Calls Try.prog 40 #[rv a b c] w fun e w' => e = .returned (.bool (rOk a b c)) ∧ Below w.heap.size w w' := by
  have hb0 : Below w.heap.size w (w.alloc (.cells #[.int .i64 a, .int .i64 b, .int .i64 c] 28)) := (Below.refl _ _).alloc (Nat.le_refl _) _
  go_enter Try.func40, Try.ntmps40
  go_wp2_with fail
  refine (within_is a 7 _).mono ?_
  rintro e w1 ⟨rfl, rfl⟩
  by_cases h0 : inB a 7 = true
  · rw [h0]
    go_wp2_with fail
    refine (within_is b 255 _).mono ?_
    rintro e w1 ⟨rfl, rfl⟩
    by_cases h1 : inB b 255 = true
    · rw [h1]
      go_wp2_with fail
      refine (within_is c 100000 _).mono ?_
      rintro e w1 ⟨rfl, rfl⟩
      go_wp2
      go_ret
      exact ⟨by simp [rOk, h0, h1], hb0⟩
    · rw [Bool.not_eq_true] at h1
      rw [h1]
      go_wp2
      go_ret
      exact ⟨by simp [rOk, h0, h1], hb0⟩
  · rw [Bool.not_eq_true] at h0
    rw [h0]
    go_wp2
    go_ret
    exact ⟨by simp [rOk, h0], hb0⟩

set_option maxRecDepth 100000 in
set_option maxHeartbeats 800000 in
theorem specOk_is (a b c : Int) (w : World) : Calls Try.prog 19 #[rv a b c] w fun e w' => e = .returned (.bool (rOk a b c)) ∧ Below w.heap.size w w' := by
  have hb0 : Below w.heap.size w (w.alloc (.cells #[.int .i64 a, .int .i64 b, .int .i64 c] 28)) := (Below.refl _ _).alloc (Nat.le_refl _) _
  go_enter Try.func19, Try.ntmps19
  go_wp2_with fail
  refine (in_is a 0 7 _).mono ?_
  rintro e w1 ⟨rfl, rfl⟩
  rw [show (decide (0 ≤ a) && decide (a ≤ 7)) = inB a 7 from rfl]
  by_cases h0 : inB a 7 = true
  · rw [h0]
    go_wp2_with fail
    refine (in_is b 0 255 _).mono ?_
    rintro e w1 ⟨rfl, rfl⟩
    rw [show (decide (0 ≤ b) && decide (b ≤ 255)) = inB b 255 from rfl]
    by_cases h1 : inB b 255 = true
    · rw [h1]
      go_wp2_with fail
      refine (in_is c 0 100000 _).mono ?_
      rintro e w1 ⟨rfl, rfl⟩
      go_wp2
      go_ret
      exact ⟨by unfold rOk; rw [h0, h1]; rfl, hb0⟩
    · rw [Bool.not_eq_true] at h1
      rw [h1]
      go_wp2
      go_ret
      exact ⟨by simp [rOk, h0, h1], hb0⟩
  · rw [Bool.not_eq_true] at h0
    rw [h0]
    go_wp2
    go_ret
    exact ⟨by simp [rOk, h0], hb0⟩

theorem res_three {fn : Func} {p : Tmp} (hres : fn.results = #[.cell p 28]) (tmps : Array Value) (w : World) (g : Nat) (v0 v1 v2 : Value) (hp : tmps.getD p undef = .pointer (some ⟨g, 0, none⟩)) (h0 : w.cell? ⟨g, 0, none⟩ = some v0) (h1 : w.cell? ⟨g, 1, none⟩ = some v1) (h2 : w.cell? ⟨g, 2, none⟩ = some v2) :
    (results fn tmps).run Try.prog w = .ok (.agg #[v0, v1, v2]) w := by
  have hp' : tmps[p]?.getD undef = .pointer (some ⟨g, 0, none⟩) := by simpa using hp
  simp [results, hres, hp', asAddr, go_sem, h0, h1, h2, loadVar, Try.isAgg28, Try.sizeOf28]

/-- Three cells of a block are written. -/
def set3 (W : World) (g : Nat) (a b c : Value) : World := ((W.setCell ⟨g, 0, none⟩ a).setCell ⟨g, 1, none⟩ b).setCell ⟨g, 2, none⟩ c
theorem set3_0 {W : World} {g : Nat} {x : Value} (a b c : Value) (h : W.cell? ⟨g, 0, none⟩ = some x) : (set3 W g a b c).cell? ⟨g, 0, none⟩ = some a := by
  unfold set3
  rw [World.cell?_setCell_other _ _ _ _ (by simp), World.cell?_setCell_other _ _ _ _ (by simp)]
  exact World.cell?_setCell_same' _ _ _ (by rw [h]; rfl)
theorem set3_1 {W : World} {g : Nat} {x : Value} (a b c : Value) (h : W.cell? ⟨g, 1, none⟩ = some x) : (set3 W g a b c).cell? ⟨g, 1, none⟩ = some b := by
  unfold set3
  rw [World.cell?_setCell_other _ _ _ _ (by simp)]
  exact World.cell?_setCell_same' _ _ _ (by rw [World.cell?_setCell_other _ _ _ _ (by simp), h]; rfl)
theorem set3_2 {W : World} {g : Nat} {x : Value} (a b c : Value) (h : W.cell? ⟨g, 2, none⟩ = some x) : (set3 W g a b c).cell? ⟨g, 2, none⟩ = some c := by
  unfold set3
  exact World.cell?_setCell_same' _ _ _ (by rw [World.cell?_setCell_other _ _ _ _ (by simp), World.cell?_setCell_other _ _ _ _ (by simp), h]; rfl)
theorem set3_below {n g : Nat} {w W : World} (hb : Below n w W) (hg : n ≤ g) (a b c : Value) : Below n w (set3 W g a b c) :=
  ((hb.setCell (by exact hg) _).setCell (by exact hg) _).setCell (by exact hg) _

set_option maxRecDepth 100000 in
set_option maxHeartbeats 800000 in
theorem toRest_is (a b c : Int) (w : World) : Calls Try.prog 21 #[rv a b c] w fun e w' => e = .returned (rv a b c) ∧ Below w.heap.size w w' := by
  have hb0 : Below w.heap.size w (((w.alloc (.cells #[.int .i64 a, .int .i64 b, .int .i64 c] 23)).alloc (.cells #[.int .i64 a, .int .i64 b, .int .i64 c] 28)).alloc (.cells #[.int .i64 a, .int .i64 b, .int .i64 c] 28)) :=
    (((Below.refl _ _).alloc (Nat.le_refl _) _).alloc (by simp) _).alloc (by simp; omega) _
  go_enter Try.func21, Try.ntmps21
  go_wp2
  exact bodyPost_ret (res_three rfl _ _ (w.heap.size + 1) _ _ _ rfl (by simp [go_sem]) (by simp [go_sem]) (by simp [go_sem])) rfl ⟨rfl, hb0⟩

/-- What two numbers have in common, as sets of bits. -/
def andI (x y : Int) : Int := bits .and .i64 x y

/-- The bit at a place is there. -/
def hasB (n i : Int) : Bool := decide (0 ≤ i) && (bits .and .i64 (n / 2 ^ min i.toNat 64) 1 == 1)

/-- What two rests meet in. -/
def mA (a b c x y z : Int) : Int := if rOk a b c && rOk x y z then andI a x else 0
def mB (a b c x y z : Int) : Int := if rOk a b c && rOk x y z then andI b y else 0
def mC (a b c x y z : Int) : Int := if rOk a b c && rOk x y z then min c z else 0

/-- The boxes of two rests, and behind them one more block. -/
structure Two (s : Nat) (a b c x y z : Int) (W : World) : Prop where
  a : W.cell? ⟨s, 0, none⟩ = some (.int .i64 a)
  b : W.cell? ⟨s, 1, none⟩ = some (.int .i64 b)
  c : W.cell? ⟨s, 2, none⟩ = some (.int .i64 c)
  x : W.cell? ⟨s + 1, 0, none⟩ = some (.int .i64 x)
  y : W.cell? ⟨s + 1, 1, none⟩ = some (.int .i64 y)
  z : W.cell? ⟨s + 1, 2, none⟩ = some (.int .i64 z)
theorem Two.later {s : Nat} {a b c x y z : Int} {W W' : World} (h : Two s a b c x y z W) (hb : Below W.heap.size W W') (hs : s + 2 ≤ W.heap.size) : Two s a b c x y z W' :=
  ⟨(hb.cell (p := ⟨s, 0, none⟩) (show s < _ by omega)).trans h.a, (hb.cell (p := ⟨s, 1, none⟩) (show s < _ by omega)).trans h.b, (hb.cell (p := ⟨s, 2, none⟩) (show s < _ by omega)).trans h.c,
   (hb.cell (p := ⟨s + 1, 0, none⟩) (show s + 1 < _ by omega)).trans h.x, (hb.cell (p := ⟨s + 1, 1, none⟩) (show s + 1 < _ by omega)).trans h.y, (hb.cell (p := ⟨s + 1, 2, none⟩) (show s + 1 < _ by omega)).trans h.z⟩
/-- A block of three cells that may be written. -/
structure Out3 (g : Nat) (W : World) : Prop where
  c0 : ∃ v, W.cell? ⟨g, 0, none⟩ = some v
  c1 : ∃ v, W.cell? ⟨g, 1, none⟩ = some v
  c2 : ∃ v, W.cell? ⟨g, 2, none⟩ = some v
  f0 : W.frozen? ⟨g, 0, none⟩ = false
  f1 : W.frozen? ⟨g, 1, none⟩ = false
  f2 : W.frozen? ⟨g, 2, none⟩ = false
theorem Out3.later {g : Nat} {W W' : World} (h : Out3 g W) (hb : Below W.heap.size W W') (hg : g < W.heap.size) : Out3 g W' := by
  obtain ⟨⟨v0, h0⟩, ⟨v1, h1⟩, ⟨v2, h2⟩, f0, f1, f2⟩ := h
  exact ⟨⟨v0, (hb.cell (p := ⟨g, 0, none⟩) hg).trans h0⟩, ⟨v1, (hb.cell (p := ⟨g, 1, none⟩) hg).trans h1⟩, ⟨v2, (hb.cell (p := ⟨g, 2, none⟩) hg).trans h2⟩,
    (hb.frozen (p := ⟨g, 0, none⟩) hg).trans f0, (hb.frozen (p := ⟨g, 1, none⟩) hg).trans f1, (hb.frozen (p := ⟨g, 2, none⟩) hg).trans f2⟩
end Go.Proofs.Ytbbaddcldoflfaa
