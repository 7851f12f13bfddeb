/- What the law on tickets draws from the code. -/
import Derived.Lib.SmallJoins
import Derived.Test.YtbkemhclncmicaaGreatZDraw
import Derived.Test.YtbkemhclncmicaaGreatTkD0
import Derived.Test.YtbkemhclncmicaaGreatJust
set_option linter.unusedVariables false
namespace Go.Proofs.YtbkemhclncmicaaGreat
open Go Go.RowKit Go.Joins Own Var Term Draw

set_option maxRecDepth 100000 in
set_option maxHeartbeats 3200000 in
theorem drawA (ad : Option Addr) (len cap : Nat) (zs : List Int) (W : World) (hz : CodeAt W W.heap.size ad len zs) :
    Calls Tryz.prog 10 #[.slice ad len cap] W fun en w' => ∃ (c t q : Int) (key : Int), en = .returned (.tuple #[.agg #[.int .i64 c, .int .i64 t, .int .i64 q], .int .i64 key]) ∧ i64 key ∧ Below W.heap.size W w' := by
  obtain ⟨W1, hW1⟩ : ∃ W1, W.alloc (.cells #[.int .i64 0, .int .i64 0, .int .i64 0] 36) = W1 := ⟨_, rfl⟩
  have RB : Blk W.heap.size [.int .i64 0, .int .i64 0, .int .i64 0] W1 := by rw [← hW1]; exact Blk.new _ _ _
  have B1 : Below W.heap.size W W1 := by rw [← hW1]; exact (Below.refl _ _).alloc (Nat.le_refl _) _
  have HC : Hid (CodeAt W1 W1.heap.size ad len zs) := (hz.below B1).lt B1.size
  have lW : W.heap.size < W1.heap.size := RB.lt
  clear hz
  go_enter Tryz.func10, Tryz.ntmps10
  go_wp2_with fail
  try rw [hW1]
  refine (new_go ad len cap zs W1 HC.out).mono ?_
  clear hW1
  rintro en w2 ⟨rfl, cur, hb2, Z2⟩
  have D2 : Dr w2 W1.heap.size ad len cap zs (newS zs len) := ⟨cur, HC.out.below hb2, Nat.zero_le _⟩
  have C2 := Cu.start D2
  have B2 := B1.trans (hb2.mono B1.size)
  have RBN := RB.later hb2 RB.lt
  clear cur HC hb2 B1 D2 RB Z2
  have RB := RBN
  clear RBN
  generalize W1.heap.size = p at *
  go_wp2_with fail
  refine (keyW C2).mono ?_
  rintro en w3 ⟨key, rfl, ki, C⟩
  have RBN := RB.only C.2 RB.lt (by omega)
  have B3 := B2.trans (C.2.below (by omega) C2.lt)
  have C3 := C.here
  clear RB B2 C2 C
  have RB := RBN
  clear RBN
  go_wp2_with fail
  refine (authW C3).mono ?_
  rintro en w4 ⟨c, t, q, rfl, C⟩
  have RBN := RB.only C.2 RB.lt (by omega)
  have B4 := B3.trans (C.2.below (by omega) C3.lt)
  have l3 : W.heap.size < w3.heap.size := RB.lt
  clear RB B3 C3 C
  have RB := RBN
  clear RBN
  have F := show Hid _ from (show Blk W.heap.size [.int .i64 c, .int .i64 t, .int .i64 q] ((((w4).setCell ⟨W.heap.size, 0, none⟩ (.int .i64 c)).setCell ⟨W.heap.size, 1, none⟩ (.int .i64 t)).setCell ⟨W.heap.size, 2, none⟩ (.int .i64 q)) ∧ Below W.heap.size W ((((w4).setCell ⟨W.heap.size, 0, none⟩ (.int .i64 c)).setCell ⟨W.heap.size, 1, none⟩ (.int .i64 t)).setCell ⟨W.heap.size, 2, none⟩ (.int .i64 q)) from ⟨(((RB.set 0 (.int .i64 c)).set 1 (.int .i64 t)).set 2 (.int .i64 q)), (((B4.setCell (by dsimp only; omega) (.int .i64 c)).setCell (by dsimp only; omega) (.int .i64 t)).setCell (by dsimp only; omega) (.int .i64 q))⟩)
  have r0 := RB.at 0 rfl
  have g0 := RB.fz 0 rfl
  have r1 := RB.at 1 rfl
  have g1 := RB.fz 1 rfl
  have r2 := RB.at 2 rfl
  have g2 := RB.fz 2 rfl
  clear RB B4
  go_wp2
  have G := F.out
  exact bodyPost_ret (res_ab rfl _ _ W.heap.size _ _ _ (.int .i64 key) rfl rfl (G.1.at 0 rfl) (G.1.at 1 rfl) (G.1.at 2 rfl)) rfl ⟨c, t, q, key, rfl, ki, G.2⟩

set_option maxRecDepth 100000 in
set_option maxHeartbeats 3200000 in
theorem drawG (ad : Option Addr) (len cap : Nat) (zs : List Int) (W : World) (hz : CodeAt W W.heap.size ad len zs) :
    Calls Tryz.prog 14 #[.slice ad len cap] W fun en w' => ∃ (k s n a b e : Int) (key : Int), en = .returned (.tuple #[.agg #[.int .i64 k, .int .i64 s, .int .i64 n, .int .i64 a, .int .i64 b, .int .i64 e], .int .i64 key]) ∧ i64 s ∧ i64 key ∧ Below W.heap.size W w' := by
  obtain ⟨W1, hW1⟩ : ∃ W1, W.alloc (.cells #[.int .i64 0, .int .i64 0, .int .i64 0, .int .i64 0, .int .i64 0, .int .i64 0] 43) = W1 := ⟨_, rfl⟩
  have RB : Blk W.heap.size [.int .i64 0, .int .i64 0, .int .i64 0, .int .i64 0, .int .i64 0, .int .i64 0] W1 := by rw [← hW1]; exact Blk.new _ _ _
  have B1 : Below W.heap.size W W1 := by rw [← hW1]; exact (Below.refl _ _).alloc (Nat.le_refl _) _
  have HC : Hid (CodeAt W1 W1.heap.size ad len zs) := (hz.below B1).lt B1.size
  have lW : W.heap.size < W1.heap.size := RB.lt
  clear hz
  go_enter Tryz.func14, Tryz.ntmps14
  go_wp2_with fail
  try rw [hW1]
  refine (new_go ad len cap zs W1 HC.out).mono ?_
  clear hW1
  rintro en w2 ⟨rfl, cur, hb2, Z2⟩
  have D2 : Dr w2 W1.heap.size ad len cap zs (newS zs len) := ⟨cur, HC.out.below hb2, Nat.zero_le _⟩
  have C2 := Cu.start D2
  have B2 := B1.trans (hb2.mono B1.size)
  have RBN := RB.later hb2 RB.lt
  clear cur HC hb2 B1 D2 RB Z2
  have RB := RBN
  clear RBN
  generalize W1.heap.size = p at *
  go_wp2_with fail
  refine (keyW C2).mono ?_
  rintro en w3 ⟨key, rfl, ki, C⟩
  have RBN := RB.only C.2 RB.lt (by omega)
  have B3 := B2.trans (C.2.below (by omega) C2.lt)
  have C3 := C.here
  clear RB B2 C2 C
  have RB := RBN
  clear RBN
  go_wp2_with fail
  refine (grantW C3).mono ?_
  rintro en w4 ⟨k, s, n, a, b, e, rfl, si, C⟩
  have RBN := RB.only C.2 RB.lt (by omega)
  have B4 := B3.trans (C.2.below (by omega) C3.lt)
  have l3 : W.heap.size < w3.heap.size := RB.lt
  clear RB B3 C3 C
  have RB := RBN
  clear RBN
  have F := show Hid _ from (show Blk W.heap.size [.int .i64 k, .int .i64 s, .int .i64 n, .int .i64 a, .int .i64 b, .int .i64 e] (((((((w4).setCell ⟨W.heap.size, 0, none⟩ (.int .i64 k)).setCell ⟨W.heap.size, 1, none⟩ (.int .i64 s)).setCell ⟨W.heap.size, 2, none⟩ (.int .i64 n)).setCell ⟨W.heap.size, 3, none⟩ (.int .i64 a)).setCell ⟨W.heap.size, 4, none⟩ (.int .i64 b)).setCell ⟨W.heap.size, 5, none⟩ (.int .i64 e)) ∧ Below W.heap.size W (((((((w4).setCell ⟨W.heap.size, 0, none⟩ (.int .i64 k)).setCell ⟨W.heap.size, 1, none⟩ (.int .i64 s)).setCell ⟨W.heap.size, 2, none⟩ (.int .i64 n)).setCell ⟨W.heap.size, 3, none⟩ (.int .i64 a)).setCell ⟨W.heap.size, 4, none⟩ (.int .i64 b)).setCell ⟨W.heap.size, 5, none⟩ (.int .i64 e)) from ⟨((((((RB.set 0 (.int .i64 k)).set 1 (.int .i64 s)).set 2 (.int .i64 n)).set 3 (.int .i64 a)).set 4 (.int .i64 b)).set 5 (.int .i64 e)), ((((((B4.setCell (by dsimp only; omega) (.int .i64 k)).setCell (by dsimp only; omega) (.int .i64 s)).setCell (by dsimp only; omega) (.int .i64 n)).setCell (by dsimp only; omega) (.int .i64 a)).setCell (by dsimp only; omega) (.int .i64 b)).setCell (by dsimp only; omega) (.int .i64 e))⟩)
  have r0 := RB.at 0 rfl
  have g0 := RB.fz 0 rfl
  have r1 := RB.at 1 rfl
  have g1 := RB.fz 1 rfl
  have r2 := RB.at 2 rfl
  have g2 := RB.fz 2 rfl
  have r3 := RB.at 3 rfl
  have g3 := RB.fz 3 rfl
  have r4 := RB.at 4 rfl
  have g4 := RB.fz 4 rfl
  have r5 := RB.at 5 rfl
  have g5 := RB.fz 5 rfl
  clear RB B4
  go_wp2
  have G := F.out
  exact bodyPost_ret (res_gb rfl _ _ W.heap.size _ _ _ _ _ _ (.int .i64 key) rfl rfl (G.1.at 0 rfl) (G.1.at 1 rfl) (G.1.at 2 rfl) (G.1.at 3 rfl) (G.1.at 4 rfl) (G.1.at 5 rfl)) rfl ⟨k, s, n, a, b, e, key, rfl, si, ki, G.2⟩

set_option maxRecDepth 100000 in
set_option maxHeartbeats 3200000 in
theorem drawT (ad : Option Addr) (len cap : Nat) (zs : List Int) (W : World) (hz : CodeAt W W.heap.size ad len zs) :
    Calls Tryz.prog 5 #[.slice ad len cap] W fun en w' => ∃ (c s k a b e : Int) (pa : Option Addr) (P : List Int) (pc : Nat) (va : Option Addr) (V : List Int) (vc : Nat) (key : Int), en = .returned (.tuple #[.agg #[.int .i64 c, .int .i64 s, .int .i64 k, .int .i64 a, .int .i64 b, .int .i64 e, .slice pa P.length pc, .slice va V.length vc], .int .i64 key]) ∧ i64 s ∧ i64 key ∧ RowAt (Value.int .i64) w' pa P ∧ RowAt (Value.int .i64) w' va V ∧ P.length ≤ 10 ∧ V.length ≤ 10 ∧ Below W.heap.size W w' := by
  obtain ⟨W1, hW1⟩ : ∃ W1, W.alloc (.cells #[.int .i64 0, .int .i64 0, .int .i64 0, .int .i64 0, .int .i64 0, .int .i64 0, .slice none 0 0, .slice none 0 0] 28) = W1 := ⟨_, rfl⟩
  have RB : Blk W.heap.size [.int .i64 0, .int .i64 0, .int .i64 0, .int .i64 0, .int .i64 0, .int .i64 0, .slice none 0 0, .slice none 0 0] W1 := by rw [← hW1]; exact Blk.new _ _ _
  have B1 : Below W.heap.size W W1 := by rw [← hW1]; exact (Below.refl _ _).alloc (Nat.le_refl _) _
  have HC : Hid (CodeAt W1 W1.heap.size ad len zs) := (hz.below B1).lt B1.size
  have lW : W.heap.size < W1.heap.size := RB.lt
  clear hz
  go_enter Tryz.func5, Tryz.ntmps5
  go_wp2_with fail
  try rw [hW1]
  refine (new_go ad len cap zs W1 HC.out).mono ?_
  clear hW1
  rintro en w2 ⟨rfl, cur, hb2, Z2⟩
  have D2 : Dr w2 W1.heap.size ad len cap zs (newS zs len) := ⟨cur, HC.out.below hb2, Nat.zero_le _⟩
  have C2 := Cu.start D2
  have B2 := B1.trans (hb2.mono B1.size)
  have RBN := RB.later hb2 RB.lt
  clear cur HC hb2 B1 D2 RB Z2
  have RB := RBN
  clear RBN
  generalize W1.heap.size = p at *
  go_wp2_with fail
  refine (keyW C2).mono ?_
  rintro en w3 ⟨key, rfl, ki, C⟩
  have RBN := RB.only C.2 RB.lt (by omega)
  have B3 := B2.trans (C.2.below (by omega) C2.lt)
  have C3 := C.here
  clear RB B2 C2 C
  have RB := RBN
  clear RBN
  go_wp2_with fail
  refine (ticketW C3).mono ?_
  rintro en w4 ⟨c, s, k, a, b, e, pa, P, pc, va, V, vc, rfl, si, OP, OV, lP, lV, C⟩
  have RBN := RB.only C.2 RB.lt (by omega)
  have B4 := B3.trans (C.2.below (by omega) C3.lt)
  have l3 : W.heap.size < w3.heap.size := RB.lt
  clear RB B3 C3 C
  have RB := RBN
  clear RBN
  have F := show Hid _ from (show Blk W.heap.size [.int .i64 c, .int .i64 s, .int .i64 k, .int .i64 a, .int .i64 b, .int .i64 e, .slice pa P.length pc, .slice va V.length vc] (((((((((w4).setCell ⟨W.heap.size, 0, none⟩ (.int .i64 c)).setCell ⟨W.heap.size, 1, none⟩ (.int .i64 s)).setCell ⟨W.heap.size, 2, none⟩ (.int .i64 k)).setCell ⟨W.heap.size, 3, none⟩ (.int .i64 a)).setCell ⟨W.heap.size, 4, none⟩ (.int .i64 b)).setCell ⟨W.heap.size, 5, none⟩ (.int .i64 e)).setCell ⟨W.heap.size, 6, none⟩ (.slice pa P.length pc)).setCell ⟨W.heap.size, 7, none⟩ (.slice va V.length vc)) ∧ Below W.heap.size W (((((((((w4).setCell ⟨W.heap.size, 0, none⟩ (.int .i64 c)).setCell ⟨W.heap.size, 1, none⟩ (.int .i64 s)).setCell ⟨W.heap.size, 2, none⟩ (.int .i64 k)).setCell ⟨W.heap.size, 3, none⟩ (.int .i64 a)).setCell ⟨W.heap.size, 4, none⟩ (.int .i64 b)).setCell ⟨W.heap.size, 5, none⟩ (.int .i64 e)).setCell ⟨W.heap.size, 6, none⟩ (.slice pa P.length pc)).setCell ⟨W.heap.size, 7, none⟩ (.slice va V.length vc)) ∧ (((((((((w4).setCell ⟨W.heap.size, 0, none⟩ (.int .i64 c)).setCell ⟨W.heap.size, 1, none⟩ (.int .i64 s)).setCell ⟨W.heap.size, 2, none⟩ (.int .i64 k)).setCell ⟨W.heap.size, 3, none⟩ (.int .i64 a)).setCell ⟨W.heap.size, 4, none⟩ (.int .i64 b)).setCell ⟨W.heap.size, 5, none⟩ (.int .i64 e)).setCell ⟨W.heap.size, 6, none⟩ (.slice pa P.length pc)).setCell ⟨W.heap.size, 7, none⟩ (.slice va V.length vc)).ownsRow w3.heap.size 3 1 (.slice pa P.length pc) P.length (intV P) ∧ (((((((((w4).setCell ⟨W.heap.size, 0, none⟩ (.int .i64 c)).setCell ⟨W.heap.size, 1, none⟩ (.int .i64 s)).setCell ⟨W.heap.size, 2, none⟩ (.int .i64 k)).setCell ⟨W.heap.size, 3, none⟩ (.int .i64 a)).setCell ⟨W.heap.size, 4, none⟩ (.int .i64 b)).setCell ⟨W.heap.size, 5, none⟩ (.int .i64 e)).setCell ⟨W.heap.size, 6, none⟩ (.slice pa P.length pc)).setCell ⟨W.heap.size, 7, none⟩ (.slice va V.length vc)).ownsRow w3.heap.size 3 1 (.slice va V.length vc) V.length (intV V) from ⟨((((((((RB.set 0 (.int .i64 c)).set 1 (.int .i64 s)).set 2 (.int .i64 k)).set 3 (.int .i64 a)).set 4 (.int .i64 b)).set 5 (.int .i64 e)).set 6 (.slice pa P.length pc)).set 7 (.slice va V.length vc)), ((((((((B4.setCell (by dsimp only; omega) (.int .i64 c)).setCell (by dsimp only; omega) (.int .i64 s)).setCell (by dsimp only; omega) (.int .i64 k)).setCell (by dsimp only; omega) (.int .i64 a)).setCell (by dsimp only; omega) (.int .i64 b)).setCell (by dsimp only; omega) (.int .i64 e)).setCell (by dsimp only; omega) (.slice pa P.length pc)).setCell (by dsimp only; omega) (.slice va V.length vc)), (ownsRow_setCell_below (ownsRow_setCell_below (ownsRow_setCell_below (ownsRow_setCell_below (ownsRow_setCell_below (ownsRow_setCell_below (ownsRow_setCell_below (ownsRow_setCell_below OP (a := ⟨W.heap.size, 0, none⟩) (by dsimp only; omega) (.int .i64 c)) (a := ⟨W.heap.size, 1, none⟩) (by dsimp only; omega) (.int .i64 s)) (a := ⟨W.heap.size, 2, none⟩) (by dsimp only; omega) (.int .i64 k)) (a := ⟨W.heap.size, 3, none⟩) (by dsimp only; omega) (.int .i64 a)) (a := ⟨W.heap.size, 4, none⟩) (by dsimp only; omega) (.int .i64 b)) (a := ⟨W.heap.size, 5, none⟩) (by dsimp only; omega) (.int .i64 e)) (a := ⟨W.heap.size, 6, none⟩) (by dsimp only; omega) (.slice pa P.length pc)) (a := ⟨W.heap.size, 7, none⟩) (by dsimp only; omega) (.slice va V.length vc)), (ownsRow_setCell_below (ownsRow_setCell_below (ownsRow_setCell_below (ownsRow_setCell_below (ownsRow_setCell_below (ownsRow_setCell_below (ownsRow_setCell_below (ownsRow_setCell_below OV (a := ⟨W.heap.size, 0, none⟩) (by dsimp only; omega) (.int .i64 c)) (a := ⟨W.heap.size, 1, none⟩) (by dsimp only; omega) (.int .i64 s)) (a := ⟨W.heap.size, 2, none⟩) (by dsimp only; omega) (.int .i64 k)) (a := ⟨W.heap.size, 3, none⟩) (by dsimp only; omega) (.int .i64 a)) (a := ⟨W.heap.size, 4, none⟩) (by dsimp only; omega) (.int .i64 b)) (a := ⟨W.heap.size, 5, none⟩) (by dsimp only; omega) (.int .i64 e)) (a := ⟨W.heap.size, 6, none⟩) (by dsimp only; omega) (.slice pa P.length pc)) (a := ⟨W.heap.size, 7, none⟩) (by dsimp only; omega) (.slice va V.length vc))⟩)
  have r0 := RB.at 0 rfl
  have g0 := RB.fz 0 rfl
  have r1 := RB.at 1 rfl
  have g1 := RB.fz 1 rfl
  have r2 := RB.at 2 rfl
  have g2 := RB.fz 2 rfl
  have r3 := RB.at 3 rfl
  have g3 := RB.fz 3 rfl
  have r4 := RB.at 4 rfl
  have g4 := RB.fz 4 rfl
  have r5 := RB.at 5 rfl
  have g5 := RB.fz 5 rfl
  have r6 := RB.at 6 rfl
  have g6 := RB.fz 6 rfl
  have r7 := RB.at 7 rfl
  have g7 := RB.fz 7 rfl
  clear RB B4 OP OV
  go_wp2
  have G := F.out
  exact bodyPost_ret (res_tb rfl _ _ W.heap.size _ _ _ _ _ _ _ _ (.int .i64 key) rfl rfl (G.1.at 0 rfl) (G.1.at 1 rfl) (G.1.at 2 rfl) (G.1.at 3 rfl) (G.1.at 4 rfl) (G.1.at 5 rfl) (G.1.at 6 rfl) (G.1.at 7 rfl)) rfl ⟨c, s, k, a, b, e, pa, P, pc, va, V, vc, key, rfl, si, ki, own_rowAt (f := Value.int .i64) G.2.2.1, own_rowAt (f := Value.int .i64) G.2.2.2, lP, lV, G.2.1⟩

set_option maxRecDepth 100000 in
set_option maxHeartbeats 3200000 in
theorem drawR (ad : Option Addr) (len cap : Nat) (zs : List Int) (W : World) (hz : CodeAt W W.heap.size ad len zs) :
    Calls Tryz.prog 18 #[.slice ad len cap] W fun en w' => ∃ (x y z : Int), en = .returned (.agg #[.int .i64 x, .int .i64 y, .int .i64 z]) ∧ Below W.heap.size W w' := by
  obtain ⟨W1, hW1⟩ : ∃ W1, W.alloc (.cells #[.int .i64 0, .int .i64 0, .int .i64 0] 25) = W1 := ⟨_, rfl⟩
  have RB : Blk W.heap.size [.int .i64 0, .int .i64 0, .int .i64 0] W1 := by rw [← hW1]; exact Blk.new _ _ _
  have B1 : Below W.heap.size W W1 := by rw [← hW1]; exact (Below.refl _ _).alloc (Nat.le_refl _) _
  have HC : Hid (CodeAt W1 W1.heap.size ad len zs) := (hz.below B1).lt B1.size
  have lW : W.heap.size < W1.heap.size := RB.lt
  clear hz
  go_enter Tryz.func18, Tryz.ntmps18
  go_wp2_with fail
  try rw [hW1]
  refine (new_go ad len cap zs W1 HC.out).mono ?_
  clear hW1
  rintro en w2 ⟨rfl, cur, hb2, Z2⟩
  have D2 : Dr w2 W1.heap.size ad len cap zs (newS zs len) := ⟨cur, HC.out.below hb2, Nat.zero_le _⟩
  have C2 := Cu.start D2
  have B2 := B1.trans (hb2.mono B1.size)
  have RBN := RB.later hb2 RB.lt
  clear cur HC hb2 B1 D2 RB Z2
  have RB := RBN
  clear RBN
  generalize W1.heap.size = p at *
  obtain ⟨w3, hw3⟩ : ∃ w3, w2 = w3 := ⟨_, rfl⟩
  subst hw3
  have B3 := B2
  have C3 := C2
  clear B2 C2
  go_wp2_with fail
  refine (anyW C3).mono ?_
  rintro en w4 ⟨x, y, z, rfl, C⟩
  have RBN := RB.only C.2 RB.lt (by omega)
  have B4 := B3.trans (C.2.below (by omega) C3.lt)
  have l3 : W.heap.size < w2.heap.size := RB.lt
  clear RB B3 C3 C
  have RB := RBN
  clear RBN
  have F := show Hid _ from (show Blk W.heap.size [.int .i64 x, .int .i64 y, .int .i64 z] ((((w4).setCell ⟨W.heap.size, 0, none⟩ (.int .i64 x)).setCell ⟨W.heap.size, 1, none⟩ (.int .i64 y)).setCell ⟨W.heap.size, 2, none⟩ (.int .i64 z)) ∧ Below W.heap.size W ((((w4).setCell ⟨W.heap.size, 0, none⟩ (.int .i64 x)).setCell ⟨W.heap.size, 1, none⟩ (.int .i64 y)).setCell ⟨W.heap.size, 2, none⟩ (.int .i64 z)) from ⟨(((RB.set 0 (.int .i64 x)).set 1 (.int .i64 y)).set 2 (.int .i64 z)), (((B4.setCell (by dsimp only; omega) (.int .i64 x)).setCell (by dsimp only; omega) (.int .i64 y)).setCell (by dsimp only; omega) (.int .i64 z))⟩)
  have r0 := RB.at 0 rfl
  have g0 := RB.fz 0 rfl
  have r1 := RB.at 1 rfl
  have g1 := RB.fz 1 rfl
  have r2 := RB.at 2 rfl
  have g2 := RB.fz 2 rfl
  clear RB B4
  go_wp2
  have G := F.out
  exact bodyPost_ret (res_three rfl _ _ W.heap.size _ _ _ rfl (G.1.at 0 rfl) (G.1.at 1 rfl) (G.1.at 2 rfl)) rfl ⟨x, y, z, rfl, G.2⟩

end Go.Proofs.YtbkemhclncmicaaGreat
