/- Tickets: what the laws copy. -/
import Derived.Test.YtbkemhclncmicaaRes5
import Derived.Test.YtbkemhclncmicaaRest2
import Derived.Test.YtbkemhclncmicaaRd0
import Derived.Test.YtbkemhclncmicaaTickOk
set_option linter.unusedVariables false
namespace Go.Proofs.Ytbkemhclncmicaa
open Go Go.RowKit Own Var Term

theorem RowAt.set {α : Type} {f : α → Value} {w : World} {a : Option Addr} {xs : List α} (h : RowAt f w a xs) (q i : Nat) (u : Value) (hn : ∀ p : Addr, a = some p → p.block ≠ q) : RowAt f (w.setCell ⟨q, i, none⟩ u) a xs := by
  intro j hj
  obtain ⟨b, off, e, hlt, hc⟩ := h j hj
  refine ⟨b, off, e, by simpa using hlt, ?_⟩
  have := hn _ e
  rw [World.cell?_setCell_other _ _ _ _ (by intro he; simp only [Addr.mk.injEq] at he; exact this he.1.symm)]
  exact hc

theorem fill8_row {α : Type} {f : α → Value} {W : World} {a : Option Addr} {xs : List α} {q : Nat} (h : RowAt f W a xs) (hn : ∀ p : Addr, a = some p → p.block ≠ q) (v0 v1 v2 v3 v4 v5 v6 v7 : Value) : RowAt f (((((((((W).setCell ⟨q, 0, none⟩ (v0)).setCell ⟨q, 1, none⟩ (v1)).setCell ⟨q, 2, none⟩ (v2)).setCell ⟨q, 3, none⟩ (v3)).setCell ⟨q, 4, none⟩ (v4)).setCell ⟨q, 5, none⟩ (v5)).setCell ⟨q, 6, none⟩ (v6)).setCell ⟨q, 7, none⟩ (v7)) a xs := (RowAt.set (RowAt.set (RowAt.set (RowAt.set (RowAt.set (RowAt.set (RowAt.set (RowAt.set h q 0 v0 hn) q 1 v1 hn) q 2 v2 hn) q 3 v3 hn) q 4 v4 hn) q 5 v5 hn) q 6 v6 hn) q 7 v7 hn)

set_option maxRecDepth 100000 in
set_option maxHeartbeats 6400000 in
theorem toTicket_is (c s k a b e : Int) (pa : Option Addr) (P : List Int) (pc : Nat) (va : Option Addr) (V : List Int) (vc : Nat) (w : World) (hp : RowAt (Value.int .i64) w pa P) (hv : RowAt (Value.int .i64) w va V) (hpl : P.length ≤ 1048576) (hvl : V.length ≤ 1048576) :
    Calls Try.prog 11 #[.agg #[.int .i64 c, .int .i64 s, .int .i64 k, .int .i64 a, .int .i64 b, .int .i64 e, .slice pa P.length pc, .slice va V.length vc]] w fun en w' => ∃ gp gv, en = .returned (.agg #[.int .i64 c, .int .i64 s, .int .i64 k, .int .i64 a, .int .i64 b, .int .i64 e, .slice (some ⟨gp, 0, none⟩) P.length P.length, .slice (some ⟨gv, 0, none⟩) V.length V.length]) ∧ RowAt (Value.int .i64) w' (some ⟨gp, 0, none⟩) P ∧ RowAt (Value.int .i64) w' (some ⟨gv, 0, none⟩) V ∧ gp < w'.heap.size ∧ gv < w'.heap.size ∧ Below w.heap.size w w' := by
  obtain ⟨W3, hW3⟩ : ∃ W3, ((w.alloc (.cells #[.int .i64 c, .int .i64 s, .int .i64 k, .int .i64 a, .int .i64 b, .int .i64 e, .slice pa P.length pc, .slice va V.length vc] 26)).alloc (.cells #[.int .i64 0, .int .i64 0, .int .i64 0, .int .i64 0, .int .i64 0, .int .i64 0, .slice none 0 0, .slice none 0 0] 31)).alloc (.cells #[.int .i64 c, .int .i64 s, .int .i64 k, .int .i64 0, .int .i64 0, .int .i64 0, .slice none 0 0, .slice none 0 0] 31) = W3 := ⟨_, rfl⟩
  have B3 : Below w.heap.size w W3 := by rw [← hW3]; exact (((Below.refl _ _).alloc (Nat.le_refl _) _).alloc (by simp) _).alloc (by simp; omega) _
  have TT : Blk w.heap.size [.int .i64 c, .int .i64 s, .int .i64 k, .int .i64 a, .int .i64 b, .int .i64 e, .slice pa P.length pc, .slice va V.length vc] W3 := by rw [← hW3]; exact ((Blk.new w #[.int .i64 c, .int .i64 s, .int .i64 k, .int .i64 a, .int .i64 b, .int .i64 e, .slice pa P.length pc, .slice va V.length vc] 26).alloc (by simp) _).alloc (by simp; omega) _
  have RR : Blk (w.heap.size + 1) [.int .i64 0, .int .i64 0, .int .i64 0, .int .i64 0, .int .i64 0, .int .i64 0, .slice none 0 0, .slice none 0 0] W3 := by rw [← hW3]; have := (Blk.new (w.alloc (.cells #[.int .i64 c, .int .i64 s, .int .i64 k, .int .i64 a, .int .i64 b, .int .i64 e, .slice pa P.length pc, .slice va V.length vc] 26)) #[.int .i64 0, .int .i64 0, .int .i64 0, .int .i64 0, .int .i64 0, .int .i64 0, .slice none 0 0, .slice none 0 0] 31).alloc (by simp) (.cells #[.int .i64 c, .int .i64 s, .int .i64 k, .int .i64 0, .int .i64 0, .int .i64 0, .slice none 0 0, .slice none 0 0] 31); simpa using this
  have OO : Blk (w.heap.size + 1 + 1) [.int .i64 c, .int .i64 s, .int .i64 k, .int .i64 0, .int .i64 0, .int .i64 0, .slice none 0 0, .slice none 0 0] W3 := by rw [← hW3]; have := Blk.new ((w.alloc (.cells #[.int .i64 c, .int .i64 s, .int .i64 k, .int .i64 a, .int .i64 b, .int .i64 e, .slice pa P.length pc, .slice va V.length vc] 26)).alloc (.cells #[.int .i64 0, .int .i64 0, .int .i64 0, .int .i64 0, .int .i64 0, .int .i64 0, .slice none 0 0, .slice none 0 0] 31)) #[.int .i64 c, .int .i64 s, .int .i64 k, .int .i64 0, .int .i64 0, .int .i64 0, .slice none 0 0, .slice none 0 0] 31; simpa using this
  have Z3 : Hid (w.heap.size + 3 ≤ W3.heap.size) := by show _ ≤ _; rw [← hW3]; simp
  have d0 := TT.at 0 rfl
  have d1 := TT.at 1 rfl
  have d2 := TT.at 2 rfl
  have d3 := TT.at 3 rfl
  have d4 := TT.at 4 rfl
  have d5 := TT.at 5 rfl
  have d6 := TT.at 6 rfl
  have d7 := TT.at 7 rfl
  go_enter Try.func11, Try.ntmps11
  go_wp2_with fail
  try rw [hW3]
  refine (toRest_is a b e _).mono ?_
  clear hW3 d0 d1 d2 d3 d4 d5 d6 d7
  rintro en w4 ⟨rfl, hb4⟩
  have T4 := TT.later hb4 (by have := Z3.out; omega)
  have R4 := RR.later hb4 (by have := Z3.out; omega)
  have O4 := OO.later hb4 (by have := Z3.out; omega)
  have B4 := B3.trans (hb4.mono B3.size)
  have Z4 : w.heap.size + 3 ≤ w4.heap.size := Nat.le_trans Z3.out hb4.size
  clear TT RR OO Z3 B3 hb4
  obtain ⟨V5, hV5⟩ : ∃ V, (((w4).setCell ⟨w.heap.size + 1 + 1, 3, none⟩ (.int .i64 a)).setCell ⟨w.heap.size + 1 + 1, 4, none⟩ (.int .i64 b)).setCell ⟨w.heap.size + 1 + 1, 5, none⟩ (.int .i64 e) = V := ⟨_, rfl⟩
  have O5 : Blk (w.heap.size + 1 + 1) [.int .i64 c, .int .i64 s, .int .i64 k, .int .i64 a, .int .i64 b, .int .i64 e, .slice none 0 0, .slice none 0 0] V5 := by rw [← hV5]; exact ((O4.set 3 _).set 4 _).set 5 _
  have T5 : Blk w.heap.size [.int .i64 c, .int .i64 s, .int .i64 k, .int .i64 a, .int .i64 b, .int .i64 e, .slice pa P.length pc, .slice va V.length vc] V5 := by rw [← hV5]; exact ((T4.far (by omega) 3 _).far (by omega) 4 _).far (by omega) 5 _
  have R5 : Blk (w.heap.size + 1) [.int .i64 0, .int .i64 0, .int .i64 0, .int .i64 0, .int .i64 0, .int .i64 0, .slice none 0 0, .slice none 0 0] V5 := by rw [← hV5]; exact ((R4.far (by omega) 3 _).far (by omega) 4 _).far (by omega) 5 _
  have B5 : Below w.heap.size w V5 := by rw [← hV5]; exact (((B4.setCell (by dsimp only; omega) _).setCell (by dsimp only; omega) _).setCell (by dsimp only; omega) _)
  have Z5 : Hid (w.heap.size + 3 ≤ V5.heap.size) := by show _ ≤ _; rw [← hV5]; simpa using Z4
  have o3 := O4.at 3 rfl
  have o4 := O4.at 4 rfl
  have o5 := O4.at 5 rfl
  have f3 := O4.fz 3 rfl
  have f4 := O4.fz 4 rfl
  have f5 := O4.fz 5 rfl
  have d6 := T5.at 6 rfl
  have hc6 := T4.at 6 rfl
  have HP5 := hp.later B5
  go_wp2_with fail
  try rw [hV5]
  refine (toI_is pa pc P V5 HP5 hpl).mono ?_
  clear hV5 o3 o4 o5 f3 f4 f5 d6 hc6 O4 T4 R4 B4 Z4 HP5
  rintro en w6 ⟨rfl, ho6, hb6⟩
  have A6 := RowAt.own ho6
  have T6 := T5.later hb6 (by have := Z5.out; omega)
  have R6 := R5.later hb6 (by have := Z5.out; omega)
  have O6 := O5.later hb6 (by have := Z5.out; omega)
  have B6 := B5.trans (hb6.mono B5.size)
  have Z6 : w.heap.size + 3 ≤ w6.heap.size := Nat.le_trans Z5.out hb6.size
  have L6 : V5.heap.size < w6.heap.size := (ho6.lt _ rfl).2
  have G6 : w.heap.size + 3 ≤ V5.heap.size := Z5.out
  clear T5 R5 O5 B5 hb6 Z5 ho6
  generalize V5.heap.size = gp at *
  obtain ⟨V7, hV7⟩ : ∃ V, w6.setCell ⟨w.heap.size + 1 + 1, 6, none⟩ (.slice (some ⟨gp, 0, none⟩) P.length P.length) = V := ⟨_, rfl⟩
  have O7 : Blk (w.heap.size + 1 + 1) [.int .i64 c, .int .i64 s, .int .i64 k, .int .i64 a, .int .i64 b, .int .i64 e, .slice (some ⟨gp, 0, none⟩) P.length P.length, .slice none 0 0] V7 := by rw [← hV7]; exact O6.set 6 _
  have T7 : Blk w.heap.size [.int .i64 c, .int .i64 s, .int .i64 k, .int .i64 a, .int .i64 b, .int .i64 e, .slice pa P.length pc, .slice va V.length vc] V7 := by rw [← hV7]; exact T6.far (by omega) 6 _
  have R7 : Blk (w.heap.size + 1) [.int .i64 0, .int .i64 0, .int .i64 0, .int .i64 0, .int .i64 0, .int .i64 0, .slice none 0 0, .slice none 0 0] V7 := by rw [← hV7]; exact R6.far (by omega) 6 _
  have A7 : RowAt (Value.int .i64) V7 (some ⟨gp, 0, none⟩) P := by rw [← hV7]; exact A6.set _ _ _ (by intro p e; simp only [Option.some.injEq] at e; subst e; show gp ≠ _; omega)
  have B7 : Below w.heap.size w V7 := by rw [← hV7]; exact B6.setCell (by dsimp only; omega) _
  have Z7 : Hid (w.heap.size + 3 ≤ V7.heap.size) := by show _ ≤ _; rw [← hV7]; simpa using Z6
  have L7 : Hid (gp < V7.heap.size) := by show _ < _; rw [← hV7]; simpa using L6
  have GH : Hid (w.heap.size + 3 ≤ gp) := G6
  have o6 := O6.at 6 rfl
  have f6 := O6.fz 6 rfl
  have d7 := T7.at 7 rfl
  have HV7 := hv.later B7
  clear G6 L6
  go_wp2_with fail
  try rw [hV7]
  refine (toI_is va vc V V7 HV7 hvl).mono ?_
  clear hV7 o6 f6 d7 O6 T6 R6 B6 Z6 A6 HV7
  rintro en w8 ⟨rfl, ho8, hb8⟩
  have C8 := RowAt.own ho8
  have A8 := A7.later hb8
  have R8 := R7.later hb8 (by have := Z7.out; omega)
  have O8 := O7.later hb8 (by have := Z7.out; omega)
  have B8 := B7.trans (hb8.mono B7.size)
  have Z8 : w.heap.size + 3 ≤ w8.heap.size := Nat.le_trans Z7.out hb8.size
  have L8 : V7.heap.size < w8.heap.size := (ho8.lt _ rfl).2
  have K8 : gp < w8.heap.size := Nat.lt_of_lt_of_le L7.out hb8.size
  have G8 : w.heap.size + 3 ≤ V7.heap.size := Z7.out
  have G6 := GH.out
  clear T7 R7 O7 B7 hb8 Z7 ho8 A7 L7 GH
  generalize V7.heap.size = gv at *
  have O9 : Blk (w.heap.size + 1 + 1) [.int .i64 c, .int .i64 s, .int .i64 k, .int .i64 a, .int .i64 b, .int .i64 e, .slice (some ⟨gp, 0, none⟩) P.length P.length, .slice (some ⟨gv, 0, none⟩) V.length V.length] (w8.setCell ⟨w.heap.size + 1 + 1, 7, none⟩ (.slice (some ⟨gv, 0, none⟩) V.length V.length)) := O8.set 7 _
  have R9 : Blk (w.heap.size + 1) [.int .i64 0, .int .i64 0, .int .i64 0, .int .i64 0, .int .i64 0, .int .i64 0, .slice none 0 0, .slice none 0 0] (w8.setCell ⟨w.heap.size + 1 + 1, 7, none⟩ (.slice (some ⟨gv, 0, none⟩) V.length V.length)) := R8.far (by omega) 7 _
  have A9 : RowAt (Value.int .i64) (w8.setCell ⟨w.heap.size + 1 + 1, 7, none⟩ (.slice (some ⟨gv, 0, none⟩) V.length V.length)) (some ⟨gp, 0, none⟩) P := A8.set _ _ _ (by intro p e; simp only [Option.some.injEq] at e; subst e; show gp ≠ _; omega)
  have C9 : RowAt (Value.int .i64) (w8.setCell ⟨w.heap.size + 1 + 1, 7, none⟩ (.slice (some ⟨gv, 0, none⟩) V.length V.length)) (some ⟨gv, 0, none⟩) V := C8.set _ _ _ (by intro p e; simp only [Option.some.injEq] at e; subst e; show gv ≠ _; omega)
  have F := show Hid _ from And.intro (R9.fill8 (B8.setCell (p := ⟨w.heap.size + 1 + 1, 7, none⟩) (by dsimp only; omega) (.slice (some ⟨gv, 0, none⟩) V.length V.length)) (by omega) (.int .i64 c) (.int .i64 s) (.int .i64 k) (.int .i64 a) (.int .i64 b) (.int .i64 e) (.slice (some ⟨gp, 0, none⟩) P.length P.length) (.slice (some ⟨gv, 0, none⟩) V.length V.length))
    (And.intro (fill8_row A9 (by intro p e; simp only [Option.some.injEq] at e; subst e; show gp ≠ w.heap.size + 1; omega) (.int .i64 c) (.int .i64 s) (.int .i64 k) (.int .i64 a) (.int .i64 b) (.int .i64 e) (.slice (some ⟨gp, 0, none⟩) P.length P.length) (.slice (some ⟨gv, 0, none⟩) V.length V.length)) (fill8_row C9 (by intro p e; simp only [Option.some.injEq] at e; subst e; show gv ≠ w.heap.size + 1; omega) (.int .i64 c) (.int .i64 s) (.int .i64 k) (.int .i64 a) (.int .i64 b) (.int .i64 e) (.slice (some ⟨gp, 0, none⟩) P.length P.length) (.slice (some ⟨gv, 0, none⟩) V.length V.length)))
  have o0 := O8.at 0 rfl
  have o1 := O8.at 1 rfl
  have o2 := O8.at 2 rfl
  have o3 := O8.at 3 rfl
  have o4 := O8.at 4 rfl
  have o5 := O8.at 5 rfl
  have o6 := O8.at 6 rfl
  have o7 := O8.at 7 rfl
  have q7 := O8.fz 7 rfl
  have r0 := R8.at 0 rfl
  have r1 := R8.at 1 rfl
  have r2 := R8.at 2 rfl
  have r3 := R8.at 3 rfl
  have r4 := R8.at 4 rfl
  have r5 := R8.at 5 rfl
  have r6 := R8.at 6 rfl
  have r7 := R8.at 7 rfl
  have g0 := R8.fz 0 rfl
  have g1 := R8.fz 1 rfl
  have g2 := R8.fz 2 rfl
  have g3 := R8.fz 3 rfl
  have g4 := R8.fz 4 rfl
  have g5 := R8.fz 5 rfl
  have g6 := R8.fz 6 rfl
  have g7 := R8.fz 7 rfl
  have LH : Hid (gp < w8.heap.size ∧ gv < w8.heap.size) := ⟨K8, L8⟩
  clear O8 R8 A8 C8 O9 R9 A9 C9 B8 Z8 L8 K8 G8 G6
  go_wp2
  have G := F.out
  refine bodyPost_ret (res_t rfl _ _ (w.heap.size + 1) _ _ _ _ _ _ _ _ rfl (G.1.1.at 0 rfl) (G.1.1.at 1 rfl) (G.1.1.at 2 rfl) (G.1.1.at 3 rfl) (G.1.1.at 4 rfl) (G.1.1.at 5 rfl) (G.1.1.at 6 rfl) (G.1.1.at 7 rfl)) rfl ⟨gp, gv, rfl, G.2.1, G.2.2, ?_, ?_, G.1.2⟩
  · simpa using LH.out.1
  · simpa using LH.out.2

end Go.Proofs.Ytbkemhclncmicaa
