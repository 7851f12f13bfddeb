/- Grants: what the laws copy. -/
import Derived.Test.YtbkemhclncmicaaRes5
import Derived.Test.YtbkemhclncmicaaRest2
set_option linter.unusedVariables false
namespace Go.Proofs.Ytbkemhclncmicaa
open Go Go.RowKit Own Var Term

set_option maxRecDepth 100000 in
set_option maxHeartbeats 3200000 in
theorem toGrant_is (k s n a b e : Int) (w : World) : Calls Try.prog 25 #[.agg #[.int .i64 k, .int .i64 s, .int .i64 n, .int .i64 a, .int .i64 b, .int .i64 e]] w fun en w' => en = .returned (.agg #[.int .i64 k, .int .i64 s, .int .i64 n, .int .i64 a, .int .i64 b, .int .i64 e]) ∧ Below w.heap.size w w' := by
  obtain ⟨W3, hW3⟩ : ∃ W3, ((w.alloc (.cells #[.int .i64 k, .int .i64 s, .int .i64 n, .int .i64 a, .int .i64 b, .int .i64 e] 49)).alloc (.cells #[.int .i64 0, .int .i64 0, .int .i64 0, .int .i64 0, .int .i64 0, .int .i64 0] 52)).alloc (.cells #[.int .i64 k, .int .i64 s, .int .i64 n, .int .i64 0, .int .i64 0, .int .i64 0] 52) = W3 := ⟨_, rfl⟩
  have B3 : Below w.heap.size w W3 := by rw [← hW3]; exact (((Below.refl _ _).alloc (Nat.le_refl _) _).alloc (by simp) _).alloc (by simp; omega) _
  have RR : Blk (w.heap.size + 1) [.int .i64 0, .int .i64 0, .int .i64 0, .int .i64 0, .int .i64 0, .int .i64 0] W3 := by rw [← hW3]; have := (Blk.new (w.alloc (.cells #[.int .i64 k, .int .i64 s, .int .i64 n, .int .i64 a, .int .i64 b, .int .i64 e] 49)) #[.int .i64 0, .int .i64 0, .int .i64 0, .int .i64 0, .int .i64 0, .int .i64 0] 52).alloc (by simp) (.cells #[.int .i64 k, .int .i64 s, .int .i64 n, .int .i64 0, .int .i64 0, .int .i64 0] 52); simpa using this
  have OO : Blk (w.heap.size + 1 + 1) [.int .i64 k, .int .i64 s, .int .i64 n, .int .i64 0, .int .i64 0, .int .i64 0] W3 := by rw [← hW3]; have := Blk.new ((w.alloc (.cells #[.int .i64 k, .int .i64 s, .int .i64 n, .int .i64 a, .int .i64 b, .int .i64 e] 49)).alloc (.cells #[.int .i64 0, .int .i64 0, .int .i64 0, .int .i64 0, .int .i64 0, .int .i64 0] 52)) #[.int .i64 k, .int .i64 s, .int .i64 n, .int .i64 0, .int .i64 0, .int .i64 0] 52; simpa using this
  have Z3 : Hid (w.heap.size + 3 ≤ W3.heap.size) := by show _ ≤ _; rw [← hW3]; simp
  have TT : Blk w.heap.size [.int .i64 k, .int .i64 s, .int .i64 n, .int .i64 a, .int .i64 b, .int .i64 e] W3 := by rw [← hW3]; exact ((Blk.new w #[.int .i64 k, .int .i64 s, .int .i64 n, .int .i64 a, .int .i64 b, .int .i64 e] 49).alloc (by simp) _).alloc (by simp; omega) _
  have d0 := TT.at 0 rfl
  have d1 := TT.at 1 rfl
  have d2 := TT.at 2 rfl
  have d3 := TT.at 3 rfl
  have d4 := TT.at 4 rfl
  have d5 := TT.at 5 rfl
  go_enter Try.func25, Try.ntmps25
  go_wp2_with fail
  try rw [hW3]
  refine (toRest_is a b e _).mono ?_
  clear hW3 TT d0 d1 d2 d3 d4 d5
  rintro en w4 ⟨rfl, hb4⟩
  have RC := RR.later hb4 (by have := Z3.out; omega)
  have OC := OO.later hb4 (by have := Z3.out; omega)
  have B4 := B3.trans (hb4.mono B3.size)
  clear RR OO Z3 B3 hb4
  have O2 : Blk (w.heap.size + 1 + 1) [.int .i64 k, .int .i64 s, .int .i64 n, .int .i64 a, .int .i64 b, .int .i64 e] (((w4.setCell ⟨w.heap.size + 1 + 1, 3, none⟩ (.int .i64 a)).setCell ⟨w.heap.size + 1 + 1, 4, none⟩ (.int .i64 b)).setCell ⟨w.heap.size + 1 + 1, 5, none⟩ (.int .i64 e)) := ((OC.set 3 (.int .i64 a)).set 4 (.int .i64 b)).set 5 (.int .i64 e)
  have R2 := ((RC.far (g' := w.heap.size + 1 + 1) (by omega) 3 (.int .i64 a)).far (g' := w.heap.size + 1 + 1) (by omega) 4 (.int .i64 b)).far (g' := w.heap.size + 1 + 1) (by omega) 5 (.int .i64 e)
  have F : Hid (Blk (w.heap.size + 1) [.int .i64 k, .int .i64 s, .int .i64 n, .int .i64 a, .int .i64 b, .int .i64 e] (((((((((w4.setCell ⟨w.heap.size + 1 + 1, 3, none⟩ (.int .i64 a)).setCell ⟨w.heap.size + 1 + 1, 4, none⟩ (.int .i64 b)).setCell ⟨w.heap.size + 1 + 1, 5, none⟩ (.int .i64 e)).setCell ⟨w.heap.size + 1, 0, none⟩ (.int .i64 k)).setCell ⟨w.heap.size + 1, 1, none⟩ (.int .i64 s)).setCell ⟨w.heap.size + 1, 2, none⟩ (.int .i64 n)).setCell ⟨w.heap.size + 1, 3, none⟩ (.int .i64 a)).setCell ⟨w.heap.size + 1, 4, none⟩ (.int .i64 b)).setCell ⟨w.heap.size + 1, 5, none⟩ (.int .i64 e)) ∧ Below w.heap.size w (((((((((w4.setCell ⟨w.heap.size + 1 + 1, 3, none⟩ (.int .i64 a)).setCell ⟨w.heap.size + 1 + 1, 4, none⟩ (.int .i64 b)).setCell ⟨w.heap.size + 1 + 1, 5, none⟩ (.int .i64 e)).setCell ⟨w.heap.size + 1, 0, none⟩ (.int .i64 k)).setCell ⟨w.heap.size + 1, 1, none⟩ (.int .i64 s)).setCell ⟨w.heap.size + 1, 2, none⟩ (.int .i64 n)).setCell ⟨w.heap.size + 1, 3, none⟩ (.int .i64 a)).setCell ⟨w.heap.size + 1, 4, none⟩ (.int .i64 b)).setCell ⟨w.heap.size + 1, 5, none⟩ (.int .i64 e))) :=
    ⟨(((((R2.set 0 (.int .i64 k)).set 1 (.int .i64 s)).set 2 (.int .i64 n)).set 3 (.int .i64 a)).set 4 (.int .i64 b)).set 5 (.int .i64 e),
     (((((((((B4.setCell (by dsimp only; omega) _).setCell (by dsimp only; omega) _).setCell (by dsimp only; omega) _).setCell (by dsimp only; omega) _).setCell (by dsimp only; omega) _).setCell (by dsimp only; omega) _).setCell (by dsimp only; omega) _).setCell (by dsimp only; omega) _).setCell (by dsimp only; omega) _)⟩
  have o0 := OC.at 0 rfl
  have o1 := OC.at 1 rfl
  have o2 := OC.at 2 rfl
  have o3 := OC.at 3 rfl
  have o4 := OC.at 4 rfl
  have o5 := OC.at 5 rfl
  have r0 := RC.at 0 rfl
  have r1 := RC.at 1 rfl
  have r2 := RC.at 2 rfl
  have r3 := RC.at 3 rfl
  have r4 := RC.at 4 rfl
  have r5 := RC.at 5 rfl
  have fo3 := OC.fz 3 rfl
  have fo4 := OC.fz 4 rfl
  have fo5 := OC.fz 5 rfl
  have fr0 := RC.fz 0 rfl
  have fr1 := RC.fz 1 rfl
  have fr2 := RC.fz 2 rfl
  have fr3 := RC.fz 3 rfl
  have fr4 := RC.fz 4 rfl
  have fr5 := RC.fz 5 rfl
  clear OC RC O2 R2
  go_wp2
  have G := F.out
  exact bodyPost_ret (res_g rfl _ _ (w.heap.size + 1) _ _ _ _ _ _ rfl (G.1.at 0 rfl) (G.1.at 1 rfl) (G.1.at 2 rfl) (G.1.at 3 rfl) (G.1.at 4 rfl) (G.1.at 5 rfl)) rfl ⟨rfl, G.2⟩

end Go.Proofs.Ytbkemhclncmicaa
