/- What the law on rests draws: any rest, two of them, and what is asked. -/
import Derived.Test.YthhodbpliaiglaaRestDraw
set_option linter.unusedVariables false
namespace Go.Proofs.Ythhodbpliaiglaa.Draw
open Go Go.RowKit

set_option maxRecDepth 100000 in
set_option maxHeartbeats 3200000 in
theorem anyW {p : Nat} {a : Option Addr} {len cap : Nat} {zs : List Int} {W : World} (hC : Cu p a len cap zs W W) :
    Calls Try.prog 28 #[.pointer (some ⟨p, 0, none⟩)] W fun e w' => ∃ x y z : Int, e = .returned (rv x y z) ∧ Cu p a len cap zs W w' := by
  obtain ⟨W1, hW1⟩ : ∃ W1, W.alloc (.cells #[.int .i64 0, .int .i64 0, .int .i64 0] 25) = W1 := ⟨_, rfl⟩
  have C1 : Cu p a len cap zs W W1 := by rw [← hW1]; exact hC.alloc _
  have b1 : B3 W.heap.size 0 0 0 W1 := by rw [← hW1]; exact B3.new _ _ _ _ _
  have hp := hC.lt
  have Z1 : W.heap.size < W1.heap.size := by rw [← hW1]; simp
  clear hC
  have FH : Hid (∀ {wl : World} (x y z : Int), Cu p a len cap zs W wl → B3 W.heap.size 0 0 0 wl → Cu p a len cap zs W (set3 wl W.heap.size (.int .i64 x) (.int .i64 y) (.int .i64 z)) ∧ (set3 wl W.heap.size (.int .i64 x) (.int .i64 y) (.int .i64 z)).cell? ⟨W.heap.size, 0, none⟩ = some (.int .i64 x) ∧ (set3 wl W.heap.size (.int .i64 x) (.int .i64 y) (.int .i64 z)).cell? ⟨W.heap.size, 1, none⟩ = some (.int .i64 y) ∧ (set3 wl W.heap.size (.int .i64 x) (.int .i64 y) (.int .i64 z)).cell? ⟨W.heap.size, 2, none⟩ = some (.int .i64 z)) :=
    fun x y z c b => ⟨c.set3 hp (Nat.le_refl _) _ _ _, set3_0 _ _ _ b.c0, set3_1 _ _ _ b.c1, set3_2 _ _ _ b.c2⟩
  go_enter Try.func28, Try.ntmps28
  go_wp2_with fail
  try rw [hW1]
  refine (restW C1.here).mono ?_
  clear hW1
  rintro e w3 ⟨x, y, z, rfl, c3⟩
  have C3 := C1.next c3
  have b3 := b1.cu c3 Z1 hp
  have Z3 : W.heap.size < w3.heap.size := Nat.lt_of_lt_of_le Z1 c3.size
  clear c3 b1 Z1 C1
  obtain ⟨W4, hW4⟩ : ∃ W4, w3.alloc (.cells #[.int .i64 x, .int .i64 y, .int .i64 z] 25) = W4 := ⟨_, rfl⟩
  have C4 : Cu p a len cap zs W W4 := by rw [← hW4]; exact C3.alloc _
  have b4 : B3 W.heap.size 0 0 0 W4 := by rw [← hW4]; exact b3.alloc Z3 _
  have d4 : B3 w3.heap.size x y z W4 := by rw [← hW4]; exact B3.new _ _ _ _ _
  have Z4 : w3.heap.size < W4.heap.size := by rw [← hW4]; simp
  clear b3
  go_wp2_with fail
  try rw [hW4]
  refine (onceW 8 C4.here (by omega)).mono ?_
  clear hW4
  rintro e w5 ⟨t, rfl, c5⟩
  have C5 := C4.next c5
  have b5 := b4.cu c5 (Nat.lt_trans Z3 Z4) hp
  have d5 := d4.cu c5 Z4 (Nat.lt_trans hp Z3)
  have Z5 : w3.heap.size < w5.heap.size := Nat.lt_of_lt_of_le Z4 c5.size
  clear C4 b4 d4 Z4 c5
  cases t with
  | false =>
    obtain ⟨k0, k1, k2, k3, k4, k5⟩ := b5
    obtain ⟨j0, j1, j2, j3, j4, j5⟩ := d5
    have GH := show Hid _ from FH.out x y z C5 ⟨k0, k1, k2, k3, k4, k5⟩
    clear FH
    go_wp2
    have G := GH.out
    exact bodyPost_ret (res_three rfl _ _ W.heap.size _ _ _ rfl G.2.1 G.2.2.1 G.2.2.2) rfl ⟨x, y, z, rfl, G.1⟩
  | true =>
    go_wp2_with fail
    refine (belowW 3 C5.here (by omega) (by omega)).mono ?_
    rintro e w6 ⟨k, rfl, k0, k3, c6⟩
    have C6 := C5.next c6
    have b6 := b5.cu c6 (Nat.lt_trans Z3 Z5) hp
    have d6 := d5.cu c6 Z5 (Nat.lt_trans hp Z3)
    have Z6 : w3.heap.size < w6.heap.size := Nat.lt_of_lt_of_le Z5 c6.size
    clear C5 b5 d5 Z5 c6
    have hk : k = 0 ∨ k = 1 ∨ k = 2 := by omega
    rcases hk with rfl | rfl | rfl
    · obtain ⟨W7, hW7⟩ : ∃ W7, w6.alloc (.cells #[.int .i64 (-1), .int .i64 8] 3) = W7 := ⟨_, rfl⟩
      have C7 : Cu p a len cap zs W W7 := by rw [← hW7]; exact C6.alloc _
      have b7 : B3 W.heap.size 0 0 0 W7 := by rw [← hW7]; exact b6.alloc (Nat.lt_trans Z3 Z6) _
      have d7 : B3 w3.heap.size x y z W7 := by rw [← hW7]; exact d6.alloc Z6 _
      have Z7 : w6.heap.size < W7.heap.size := by rw [← hW7]; simp
      have L7 : ∀ j, j < 2 → W7.cell? ⟨w6.heap.size, j, none⟩ = some (.int .i64 (([(-1), 8] : List Int).getD j 0)) := by
        rw [← hW7]
        intro j hj
        have : j = 0 ∨ j = 1 := by omega
        rcases this with rfl | rfl <;> simp [go_sem]
      have LH := show Hid (∀ j, j < 2 → W7.cell? ⟨w6.heap.size, j, none⟩ = some (.int .i64 (([(-1), 8] : List Int).getD j 0))) from L7
      clear L7 C6 b6 d6
      go_wp2_with fail
      try rw [hW7]
      refine (pickW w6.heap.size 2 [(-1), 8] C7.here (by omega) (by omega) (Nat.lt_trans hp (Nat.lt_trans Z3 Z6)) Z7 LH.out).mono ?_
      clear hW7 LH
      rintro e w8 ⟨v, rfl, c8⟩
      have C8 := C7.next c8
      have b8 := b7.cu c8 (Nat.lt_trans Z3 (Nat.lt_trans Z6 Z7)) hp
      have d8 := d7.cu c8 (Nat.lt_trans Z6 Z7) (Nat.lt_trans hp Z3)
      clear C7 b7 d7 c8
      obtain ⟨k0, k1, k2, k3, k4, k5⟩ := b8
      obtain ⟨j0, j1, j2, j3, j4, j5⟩ := d8
      have GH := show Hid _ from FH.out v y z (C8.setCell hp (Nat.le_of_lt Z3) 0 (.int .i64 v)) (B3.other ⟨k0, k1, k2, k3, k4, k5⟩ _ _ (by omega))
      have N1 : ¬ w3.heap.size = W.heap.size := by omega
      have N2 : ¬ W.heap.size = w3.heap.size := by omega
      clear FH
      go_wp2
      have G := GH.out
      exact bodyPost_ret (res_three rfl _ _ W.heap.size _ _ _ rfl G.2.1 G.2.2.1 G.2.2.2) rfl ⟨v, y, z, rfl, G.1⟩
    · obtain ⟨W7, hW7⟩ : ∃ W7, w6.alloc (.cells #[.int .i64 (-1), .int .i64 256] 3) = W7 := ⟨_, rfl⟩
      have C7 : Cu p a len cap zs W W7 := by rw [← hW7]; exact C6.alloc _
      have b7 : B3 W.heap.size 0 0 0 W7 := by rw [← hW7]; exact b6.alloc (Nat.lt_trans Z3 Z6) _
      have d7 : B3 w3.heap.size x y z W7 := by rw [← hW7]; exact d6.alloc Z6 _
      have Z7 : w6.heap.size < W7.heap.size := by rw [← hW7]; simp
      have L7 : ∀ j, j < 2 → W7.cell? ⟨w6.heap.size, j, none⟩ = some (.int .i64 (([(-1), 256] : List Int).getD j 0)) := by
        rw [← hW7]
        intro j hj
        have : j = 0 ∨ j = 1 := by omega
        rcases this with rfl | rfl <;> simp [go_sem]
      have LH := show Hid (∀ j, j < 2 → W7.cell? ⟨w6.heap.size, j, none⟩ = some (.int .i64 (([(-1), 256] : List Int).getD j 0))) from L7
      clear L7 C6 b6 d6
      go_wp2_with fail
      try rw [hW7]
      refine (pickW w6.heap.size 2 [(-1), 256] C7.here (by omega) (by omega) (Nat.lt_trans hp (Nat.lt_trans Z3 Z6)) Z7 LH.out).mono ?_
      clear hW7 LH
      rintro e w8 ⟨v, rfl, c8⟩
      have C8 := C7.next c8
      have b8 := b7.cu c8 (Nat.lt_trans Z3 (Nat.lt_trans Z6 Z7)) hp
      have d8 := d7.cu c8 (Nat.lt_trans Z6 Z7) (Nat.lt_trans hp Z3)
      clear C7 b7 d7 c8
      obtain ⟨k0, k1, k2, k3, k4, k5⟩ := b8
      obtain ⟨j0, j1, j2, j3, j4, j5⟩ := d8
      have GH := show Hid _ from FH.out x v z (C8.setCell hp (Nat.le_of_lt Z3) 1 (.int .i64 v)) (B3.other ⟨k0, k1, k2, k3, k4, k5⟩ _ _ (by omega))
      have N1 : ¬ w3.heap.size = W.heap.size := by omega
      have N2 : ¬ W.heap.size = w3.heap.size := by omega
      clear FH
      go_wp2
      have G := GH.out
      exact bodyPost_ret (res_three rfl _ _ W.heap.size _ _ _ rfl G.2.1 G.2.2.1 G.2.2.2) rfl ⟨x, v, z, rfl, G.1⟩
    · obtain ⟨W7, hW7⟩ : ∃ W7, w6.alloc (.cells #[.int .i64 (-1), .int .i64 100000, .int .i64 100001] 3) = W7 := ⟨_, rfl⟩
      have C7 : Cu p a len cap zs W W7 := by rw [← hW7]; exact C6.alloc _
      have b7 : B3 W.heap.size 0 0 0 W7 := by rw [← hW7]; exact b6.alloc (Nat.lt_trans Z3 Z6) _
      have d7 : B3 w3.heap.size x y z W7 := by rw [← hW7]; exact d6.alloc Z6 _
      have Z7 : w6.heap.size < W7.heap.size := by rw [← hW7]; simp
      have L7 : ∀ j, j < 3 → W7.cell? ⟨w6.heap.size, j, none⟩ = some (.int .i64 (([(-1), 100000, 100001] : List Int).getD j 0)) := by
        rw [← hW7]
        intro j hj
        have : j = 0 ∨ j = 1 ∨ j = 2 := by omega
        rcases this with rfl | rfl | rfl <;> simp [go_sem]
      have LH := show Hid (∀ j, j < 3 → W7.cell? ⟨w6.heap.size, j, none⟩ = some (.int .i64 (([(-1), 100000, 100001] : List Int).getD j 0))) from L7
      clear L7 C6 b6 d6
      go_wp2_with fail
      try rw [hW7]
      refine (pickW w6.heap.size 3 [(-1), 100000, 100001] C7.here (by omega) (by omega) (Nat.lt_trans hp (Nat.lt_trans Z3 Z6)) Z7 LH.out).mono ?_
      clear hW7 LH
      rintro e w8 ⟨v, rfl, c8⟩
      have C8 := C7.next c8
      have b8 := b7.cu c8 (Nat.lt_trans Z3 (Nat.lt_trans Z6 Z7)) hp
      have d8 := d7.cu c8 (Nat.lt_trans Z6 Z7) (Nat.lt_trans hp Z3)
      clear C7 b7 d7 c8
      obtain ⟨k0, k1, k2, k3, k4, k5⟩ := b8
      obtain ⟨j0, j1, j2, j3, j4, j5⟩ := d8
      have GH := show Hid _ from FH.out x y v (C8.setCell hp (Nat.le_of_lt Z3) 2 (.int .i64 v)) (B3.other ⟨k0, k1, k2, k3, k4, k5⟩ _ _ (by omega))
      have N1 : ¬ w3.heap.size = W.heap.size := by omega
      have N2 : ¬ W.heap.size = w3.heap.size := by omega
      clear FH
      go_wp2
      have G := GH.out
      exact bodyPost_ret (res_three rfl _ _ W.heap.size _ _ _ rfl G.2.1 G.2.2.1 G.2.2.2) rfl ⟨x, y, v, rfl, G.1⟩
end Go.Proofs.Ythhodbpliaiglaa.Draw
