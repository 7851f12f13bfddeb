/- What the law on rests draws. -/
import Derived.Test.YthhodbpliaiglaaCu
import Derived.Test.YthhodbpliaiglaaRest2
set_option linter.unusedVariables false
namespace Go.Proofs.Ythhodbpliaiglaa.Draw
open Go Go.RowKit

/-- A block of three numbers. -/
structure B3 (g : Nat) (x y z : Int) (W : World) : Prop where
  c0 : W.cell? ⟨g, 0, none⟩ = some (.int .i64 x)
  c1 : W.cell? ⟨g, 1, none⟩ = some (.int .i64 y)
  c2 : W.cell? ⟨g, 2, none⟩ = some (.int .i64 z)
  f0 : W.frozen? ⟨g, 0, none⟩ = false
  f1 : W.frozen? ⟨g, 1, none⟩ = false
  f2 : W.frozen? ⟨g, 2, none⟩ = false
theorem B3.cu {p : Nat} {a : Option Addr} {len cap : Nat} {zs : List Int} {W w : World} {g : Nat} {x y z : Int} (h : B3 g x y z W) (c : Cu p a len cap zs W w) (hg : g < W.heap.size) (hn : p < g) : B3 g x y z w :=
  ⟨(c.cell hg hn 0).trans h.c0, (c.cell hg hn 1).trans h.c1, (c.cell hg hn 2).trans h.c2, (c.frozen hg hn 0).trans h.f0, (c.frozen hg hn 1).trans h.f1, (c.frozen hg hn 2).trans h.f2⟩
theorem B3.new (w : World) (x y z : Int) (t : TypeId) : B3 w.heap.size x y z (w.alloc (.cells #[.int .i64 x, .int .i64 y, .int .i64 z] t)) := by constructor <;> simp [go_sem]

theorem B3.set0 {g : Nat} {x y z : Int} {W : World} (h : B3 g x y z W) (v : Int) : B3 g v y z (W.setCell ⟨g, 0, none⟩ (.int .i64 v)) :=
  ⟨World.cell?_setCell_same' _ _ _ (by rw [h.c0]; rfl), by rw [World.cell?_setCell_other _ _ _ _ (by simp)]; exact h.c1, by rw [World.cell?_setCell_other _ _ _ _ (by simp)]; exact h.c2, by simpa using h.f0, by simpa using h.f1, by simpa using h.f2⟩
theorem B3.set1 {g : Nat} {x y z : Int} {W : World} (h : B3 g x y z W) (v : Int) : B3 g x v z (W.setCell ⟨g, 1, none⟩ (.int .i64 v)) :=
  ⟨by rw [World.cell?_setCell_other _ _ _ _ (by simp)]; exact h.c0, World.cell?_setCell_same' _ _ _ (by rw [h.c1]; rfl), by rw [World.cell?_setCell_other _ _ _ _ (by simp)]; exact h.c2, by simpa using h.f0, by simpa using h.f1, by simpa using h.f2⟩
theorem B3.set2 {g : Nat} {x y z : Int} {W : World} (h : B3 g x y z W) (v : Int) : B3 g x y v (W.setCell ⟨g, 2, none⟩ (.int .i64 v)) :=
  ⟨by rw [World.cell?_setCell_other _ _ _ _ (by simp)]; exact h.c0, by rw [World.cell?_setCell_other _ _ _ _ (by simp)]; exact h.c1, World.cell?_setCell_same' _ _ _ (by rw [h.c2]; rfl), by simpa using h.f0, by simpa using h.f1, by simpa using h.f2⟩
theorem B3.other {g g' : Nat} {x y z : Int} {W : World} (h : B3 g x y z W) (o : Nat) (v : Value) (hn : g' ≠ g) : B3 g x y z (W.setCell ⟨g', o, none⟩ v) :=
  ⟨by rw [World.cell?_setCell_other _ _ _ _ (by simp)]; exact h.c0, by rw [World.cell?_setCell_other _ _ _ _ (by simp)]; exact h.c1, by rw [World.cell?_setCell_other _ _ _ _ (by simp)]; exact h.c2, by simpa using h.f0, by simpa using h.f1, by simpa using h.f2⟩
theorem B3.alloc {g : Nat} {x y z : Int} {W : World} (h : B3 g x y z W) (hg : g < W.heap.size) (o : Obj) : B3 g x y z (W.alloc o) := by
  have X := (Below.refl W.heap.size W).alloc (Nat.le_refl _) o
  exact ⟨(X.cell (p := ⟨g, 0, none⟩) hg).trans h.c0, (X.cell (p := ⟨g, 1, none⟩) hg).trans h.c1, (X.cell (p := ⟨g, 2, none⟩) hg).trans h.c2, (X.frozen (p := ⟨g, 0, none⟩) hg).trans h.f0, (X.frozen (p := ⟨g, 1, none⟩) hg).trans h.f1, (X.frozen (p := ⟨g, 2, none⟩) hg).trans h.f2⟩
theorem Cu.set3 {p : Nat} {a : Option Addr} {len cap : Nat} {zs : List Int} {W w : World} (h : Cu p a len cap zs W w) (hp : p < W.heap.size) {g : Nat} (hg : W.heap.size ≤ g) (u v t : Value) : Cu p a len cap zs W (set3 w g u v t) :=
  ((h.setCell hp hg 0 u).setCell hp hg 1 v).setCell hp hg 2 t

set_option maxRecDepth 100000 in
set_option maxHeartbeats 3200000 in
theorem restW {p : Nat} {a : Option Addr} {len cap : Nat} {zs : List Int} {W : World} (hC : Cu p a len cap zs W W) :
    Calls Try.prog 39 #[.pointer (some ⟨p, 0, none⟩)] W fun e w' => ∃ x y z : Int, e = .returned (rv x y z) ∧ Cu p a len cap zs W w' := by
  obtain ⟨W1, hW1⟩ : ∃ W1, W.alloc (.cells #[.int .i64 0, .int .i64 0, .int .i64 0] 25) = W1 := ⟨_, rfl⟩
  have C1 : Cu p a len cap zs W W1 := by rw [← hW1]; exact hC.alloc _
  have b1 : B3 W.heap.size 0 0 0 W1 := by rw [← hW1]; exact B3.new _ _ _ _ _
  have hp := hC.lt
  have Z1 : W.heap.size < W1.heap.size := by rw [← hW1]; simp
  clear hC
  have F : ∀ {wl : World} (x y z : Int), Cu p a len cap zs W wl → B3 W.heap.size 0 0 0 wl → Cu p a len cap zs W (set3 wl W.heap.size (.int .i64 x) (.int .i64 y) (.int .i64 z)) ∧ (set3 wl W.heap.size (.int .i64 x) (.int .i64 y) (.int .i64 z)).cell? ⟨W.heap.size, 0, none⟩ = some (.int .i64 x) ∧ (set3 wl W.heap.size (.int .i64 x) (.int .i64 y) (.int .i64 z)).cell? ⟨W.heap.size, 1, none⟩ = some (.int .i64 y) ∧ (set3 wl W.heap.size (.int .i64 x) (.int .i64 y) (.int .i64 z)).cell? ⟨W.heap.size, 2, none⟩ = some (.int .i64 z) :=
    fun x y z c b => ⟨c.set3 hp (Nat.le_refl _) _ _ _, set3_0 _ _ _ b.c0, set3_1 _ _ _ b.c1, set3_2 _ _ _ b.c2⟩
  have FH : Hid (∀ {wl : World} (x y z : Int), Cu p a len cap zs W wl → B3 W.heap.size 0 0 0 wl → Cu p a len cap zs W (set3 wl W.heap.size (.int .i64 x) (.int .i64 y) (.int .i64 z)) ∧ (set3 wl W.heap.size (.int .i64 x) (.int .i64 y) (.int .i64 z)).cell? ⟨W.heap.size, 0, none⟩ = some (.int .i64 x) ∧ (set3 wl W.heap.size (.int .i64 x) (.int .i64 y) (.int .i64 z)).cell? ⟨W.heap.size, 1, none⟩ = some (.int .i64 y) ∧ (set3 wl W.heap.size (.int .i64 x) (.int .i64 y) (.int .i64 z)).cell? ⟨W.heap.size, 2, none⟩ = some (.int .i64 z)) := F
  clear F
  go_enter Try.func39, Try.ntmps39
  go_wp2_with fail
  try rw [hW1]
  refine (belowW 8 C1.here (by omega) (by omega)).mono ?_
  clear hW1
  rintro e w1 ⟨x, rfl, _, _, c1⟩
  go_wp2_with fail
  refine (belowW 256 c1.here (by omega) (by omega)).mono ?_
  rintro e w2 ⟨y, rfl, _, _, c2⟩
  go_wp2_with fail
  refine (belowW 90 c2.here (by omega) (by omega)).mono ?_
  rintro e w3 ⟨z, rfl, _, _, c3⟩
  have c13 := (c1.next c2).next c3
  have C3 := C1.next c13
  have b3 := b1.cu c13 Z1 hp
  have Z3 : W.heap.size < w3.heap.size := Nat.lt_of_lt_of_le Z1 c13.size
  clear c1 c2 c3 c13 b1 Z1 C1
  obtain ⟨W4, hW4⟩ : ∃ W4, w3.alloc (.cells #[.int .i64 x, .int .i64 y, .int .i64 z] 25) = W4 := ⟨_, rfl⟩
  have C4 : Cu p a len cap zs W W4 := by rw [← hW4]; exact C3.alloc _
  have b4 : B3 W.heap.size 0 0 0 W4 := by rw [← hW4]; exact b3.alloc Z3 _
  have d4 : B3 w3.heap.size x y z W4 := by rw [← hW4]; exact B3.new _ _ _ _ _
  have Z4 : w3.heap.size < W4.heap.size := by rw [← hW4]; simp
  clear b3
  go_wp2_with fail
  try rw [hW4]
  refine (onceW 3 C4.here (by omega)).mono ?_
  clear hW4
  rintro e w5 ⟨t, rfl, c5⟩
  have C5 := C4.next c5
  have b5 := b4.cu c5 (Nat.lt_trans Z3 Z4) hp
  have d5 := d4.cu c5 Z4 (Nat.lt_trans hp Z3)
  have Z5 : w3.heap.size < w5.heap.size := Nat.lt_of_lt_of_le Z4 c5.size
  clear C4 b4 d4 Z4 c5
  cases t with
  | false =>
    have D5 := d5
    have E5 := b5
    have G5 := C5
    have Y5 := Z5
    clear d5 b5 C5 Z5
    go_wp2_with fail
    refine (onceW 3 G5.here (by omega)).mono ?_
    rintro e w6 ⟨u, rfl, c6⟩
    have C6 := G5.next c6
    have b6 := E5.cu c6 (Nat.lt_trans Z3 Y5) hp
    have d6 := D5.cu c6 Y5 (Nat.lt_trans hp Z3)
    have Z6 : w3.heap.size < w6.heap.size := Nat.lt_of_lt_of_le Y5 c6.size
    clear D5 E5 G5 Y5 c6
    obtain ⟨k0, k1, k2, k3, k4, k5⟩ := b6
    obtain ⟨j0, j1, j2, j3, j4, j5⟩ := d6
    cases u with
    | false =>
      have G := FH.out x y z C6 ⟨k0, k1, k2, k3, k4, k5⟩
      clear FH
      have GH := show Hid _ from G
      clear G
      go_wp2
      have G := GH.out
      exact bodyPost_ret (res_three rfl _ _ W.heap.size _ _ _ rfl G.2.1 G.2.2.1 G.2.2.2) rfl ⟨x, y, z, rfl, G.1⟩
    | true =>
      have G := FH.out x 255 z (C6.setCell hp (Nat.le_of_lt Z3) 1 (.int .i64 255)) (B3.other ⟨k0, k1, k2, k3, k4, k5⟩ _ _ (by omega))
      have N1 : ¬ w3.heap.size = W.heap.size := by omega
      have N2 : ¬ W.heap.size = w3.heap.size := by omega
      clear FH
      have GH := show Hid _ from G
      clear G
      go_wp2
      have G := GH.out
      exact bodyPost_ret (res_three rfl _ _ W.heap.size _ _ _ rfl G.2.1 G.2.2.1 G.2.2.2) rfl ⟨x, 255, z, rfl, G.1⟩
  | true =>
    have q0 := d5.c0
    have q1 := d5.f0
    obtain ⟨V5, hV5⟩ : ∃ V5, w5.setCell ⟨w3.heap.size, 0, none⟩ (.int .i64 7) = V5 := ⟨_, rfl⟩
    have D5 : B3 w3.heap.size 7 y z V5 := by rw [← hV5]; exact d5.set0 7
    have E5 : B3 W.heap.size 0 0 0 V5 := by rw [← hV5]; exact b5.other _ _ (by omega)
    have G5 : Cu p a len cap zs W V5 := by rw [← hV5]; exact C5.setCell hp (Nat.le_of_lt Z3) _ _
    have Y5 : w3.heap.size < V5.heap.size := by rw [← hV5]; simpa using Z5
    clear d5 b5 C5 Z5
    go_wp2_with fail
    try rw [hV5]
    refine (onceW 3 G5.here (by omega)).mono ?_
    clear hV5 q0 q1
    rintro e w6 ⟨u, rfl, c6⟩
    have C6 := G5.next c6
    have b6 := E5.cu c6 (Nat.lt_trans Z3 Y5) hp
    have d6 := D5.cu c6 Y5 (Nat.lt_trans hp Z3)
    have Z6 : w3.heap.size < w6.heap.size := Nat.lt_of_lt_of_le Y5 c6.size
    clear D5 E5 G5 Y5 c6
    obtain ⟨k0, k1, k2, k3, k4, k5⟩ := b6
    obtain ⟨j0, j1, j2, j3, j4, j5⟩ := d6
    cases u with
    | false =>
      have G := FH.out 7 y z C6 ⟨k0, k1, k2, k3, k4, k5⟩
      clear FH
      have GH := show Hid _ from G
      clear G
      go_wp2
      have G := GH.out
      exact bodyPost_ret (res_three rfl _ _ W.heap.size _ _ _ rfl G.2.1 G.2.2.1 G.2.2.2) rfl ⟨7, y, z, rfl, G.1⟩
    | true =>
      have G := FH.out 7 255 z (C6.setCell hp (Nat.le_of_lt Z3) 1 (.int .i64 255)) (B3.other ⟨k0, k1, k2, k3, k4, k5⟩ _ _ (by omega))
      have N1 : ¬ w3.heap.size = W.heap.size := by omega
      have N2 : ¬ W.heap.size = w3.heap.size := by omega
      clear FH
      have GH := show Hid _ from G
      clear G
      go_wp2
      have G := GH.out
      exact bodyPost_ret (res_three rfl _ _ W.heap.size _ _ _ rfl G.2.1 G.2.2.1 G.2.2.2) rfl ⟨7, 255, z, rfl, G.1⟩
end Go.Proofs.Ythhodbpliaiglaa.Draw
