/- An Ask copied and compared. -/
import Derived.Test.YtjbbhegijlnndaaNc1
set_option linter.unusedVariables false
set_option maxRecDepth 100000
namespace Go.Proofs.Ytjbbhegijlnndaa.Nd
open Go Go.RowKit Go.Joins Own Draw

set_option maxRecDepth 100000 in
set_option maxHeartbeats 6400000 in
theorem toA_is (p : TA) (w : World) (hd : DpA w p) (hl : totA p ≤ 1048576) : Calls Try.prog 35 #[vA p] w fun en w' => ∃ y : TA, en = .returned (vA y) ∧ stA y = stA p ∧ OwA w.heap.size w' y ∧ Below w.heap.size w w' := by
  obtain ⟨ie, hie, his⟩ := info_A
  obtain ⟨f0, f1, f2, f3, f4⟩ := p
  unfold totA at hl
  unfold DpA at hd
  dsimp only at hl hd
  have hd2 := hd
  obtain ⟨V0, hV0⟩ : ∃ V, ((w.alloc (.cells #[.int .i64 f0, .int .i64 f1, .slice f2.1 f2.2.2.length f2.2.1, .int .i64 f3, .int .i64 f4] 47)).alloc (.cells #[.int .i64 0, .int .i64 0, .slice none 0 0, .int .i64 0, .int .i64 0] 34)).alloc (.cells #[.int .i64 f0, .int .i64 f1, .slice none 0 0, .int .i64 0, .int .i64 0] 34) = V := ⟨_, rfl⟩
  have BC : Below w.heap.size w V0 := by rw [← hV0]; exact (((Below.refl _ _).alloc (Nat.le_refl _) _).alloc (by simp) _).alloc (by simp; omega) _
  have TA : Blk w.heap.size [.int .i64 f0, .int .i64 f1, .slice f2.1 f2.2.2.length f2.2.1, .int .i64 f3, .int .i64 f4] V0 := by rw [← hV0]; exact ((Blk.new w #[.int .i64 f0, .int .i64 f1, .slice f2.1 f2.2.2.length f2.2.1, .int .i64 f3, .int .i64 f4] 47).alloc (by simp) _).alloc (by simp; omega) _
  have TR : Blk (w.heap.size + 1) [.int .i64 0, .int .i64 0, .slice none 0 0, .int .i64 0, .int .i64 0] V0 := by rw [← hV0]; have := (Blk.new (w.alloc (.cells #[.int .i64 f0, .int .i64 f1, .slice f2.1 f2.2.2.length f2.2.1, .int .i64 f3, .int .i64 f4] 47)) #[.int .i64 0, .int .i64 0, .slice none 0 0, .int .i64 0, .int .i64 0] 34).alloc (by simp) (.cells #[.int .i64 f0, .int .i64 f1, .slice none 0 0, .int .i64 0, .int .i64 0] 34); simpa using this
  have TO : Blk (w.heap.size + 1 + 1) [.int .i64 f0, .int .i64 f1, .slice none 0 0, .int .i64 0, .int .i64 0] V0 := by rw [← hV0]; have := Blk.new ((w.alloc (.cells #[.int .i64 f0, .int .i64 f1, .slice f2.1 f2.2.2.length f2.2.1, .int .i64 f3, .int .i64 f4] 47)).alloc (.cells #[.int .i64 0, .int .i64 0, .slice none 0 0, .int .i64 0, .int .i64 0] 34)) #[.int .i64 f0, .int .i64 f1, .slice none 0 0, .int .i64 0, .int .i64 0] 34; simpa using this
  have ZS : Hid (w.heap.size + 3 ≤ V0.heap.size) := by show _ ≤ _; rw [← hV0]; simp
  have a0 := TA.at 0 rfl
  have a1 := TA.at 1 rfl
  have a2 := TA.at 2 rfl
  go_enter Try.func35, Try.ntmps35
  go_wp2_with fail
  try rw [hV0]
  refine (toSI_u f2 V0 (hd2.later BC) (by omega)).mono ?_
  clear hV0 a0 a1 a2
  rintro en v2 ⟨y2, rfl, hs2, ho2, hb⟩
  replace ho2 := ho2.le ZS.out
  replace TA := TA.later hb (by have := ZS.out; omega)
  replace TR := TR.later hb (by have := ZS.out; omega)
  replace TO := TO.later hb (by have := ZS.out; omega)
  replace BC := BC.trans (hb.mono BC.size)
  replace ZS : Hid (w.heap.size + 3 ≤ v2.heap.size) := Nat.le_trans ZS.out hb.size
  clear hb
  have a3 := TA.at 3 rfl
  have a4 := TA.at 4 rfl
  have o2 := TO.at 2 rfl
  have z2 := TO.fz 2 rfl
  have o3 := TO.at 3 rfl
  have z3 := TO.fz 3 rfl
  have o4 := TO.at 4 rfl
  have z4 := TO.fz 4 rfl
  obtain ⟨V1, hV1⟩ : ∃ V, (((v2.setCell ⟨(w.heap.size + 1 + 1), 2, none⟩ (.slice y2.1 y2.2.2.length y2.2.1)).setCell ⟨(w.heap.size + 1 + 1), 3, none⟩ (.int .i64 f3)).setCell ⟨(w.heap.size + 1 + 1), 4, none⟩ (.int .i64 f4)) = V := ⟨_, rfl⟩
  have hV1_ : v2.setCells (w.heap.size + 1 + 1) 2 [.slice y2.1 y2.2.2.length y2.2.1, .int .i64 f3, .int .i64 f4] = V1 := hV1
  have BC_ : Below w.heap.size w V1 := by rw [← hV1_]; exact below_sets (by omega) _ _ _ BC
  have TA_ : Blk w.heap.size [.int .i64 f0, .int .i64 f1, .slice f2.1 f2.2.2.length f2.2.1, .int .i64 f3, .int .i64 f4] V1 := by rw [← hV1_]; exact Blk.farS (by omega) _ _ _ TA
  have TR_ : Blk (w.heap.size + 1) [.int .i64 0, .int .i64 0, .slice none 0 0, .int .i64 0, .int .i64 0] V1 := by rw [← hV1_]; exact Blk.farS (by omega) _ _ _ TR
  have TO_ : Blk (w.heap.size + 1 + 1) [.int .i64 f0, .int .i64 f1, .slice y2.1 y2.2.2.length y2.2.1, .int .i64 f3, .int .i64 f4] V1 := by rw [← hV1_]; exact TO.part 2 [.slice y2.1 y2.2.2.length y2.2.1, .int .i64 f3, .int .i64 f4] _ (by simp) rfl
  have ho2_ := ho2.far (sets_grown (w.heap.size + 1 + 1) [.slice y2.1 y2.2.2.length y2.2.1, .int .i64 f3, .int .i64 f4] 2 v2) (by omega)
  rw [hV1_] at ho2_
  have ZS_ : Hid (w.heap.size + 3 ≤ V1.heap.size) := Nat.le_trans ZS.out (by rw [← hV1_]; exact (sets_grown (w.heap.size + 1 + 1) _ _ _).size)
  obtain ⟨VF, hVF⟩ : ∃ V, V1.setCells (w.heap.size + 1) 0 [.int .i64 f0, .int .i64 f1, .slice y2.1 y2.2.2.length y2.2.1, .int .i64 f3, .int .i64 f4] = V := ⟨_, rfl⟩
  have TF : Blk (w.heap.size + 1) [.int .i64 f0, .int .i64 f1, .slice y2.1 y2.2.2.length y2.2.1, .int .i64 f3, .int .i64 f4] VF := by rw [← hVF]; exact TR_.sets _ rfl
  have BF : Below w.heap.size w VF := by rw [← hVF]; exact below_sets (by omega) _ _ _ BC_
  have hw2 := (ho2_.far (sets_grown (w.heap.size + 1) [.int .i64 f0, .int .i64 f1, .slice y2.1 y2.2.2.length y2.2.1, .int .i64 f3, .int .i64 f4] 0 V1) (by omega)).le (by omega : w.heap.size ≤ w.heap.size + 3)
  rw [hVF] at hw2
  clear TA TR TO BC ZS hV1_ TA_ BC_ ZS_ ho2 ho2_
  go_wp2_with (first | (refine wpList_ldB 34 _ (w.heap.size + 1 + 1) 0 _ [.int .i64 f0, .int .i64 f1, .slice y2.1 y2.2.2.length y2.2.1, .int .i64 f3, .int .i64 f4] ie hie (Try.isAgg34) TO_ his.symm rfl rfl rfl rfl ?_) | (refine wpList_stB 34 _ _ (w.heap.size + 1) 0 _ [.int .i64 f0, .int .i64 f1, .slice y2.1 y2.2.2.length y2.2.1, .int .i64 f3, .int .i64 f4] ie hie TR_ his.symm (by simp) rfl rfl rfl rfl rfl ?_; rw [hVF]) | go_in)
  exact bodyPost_ret (res_B1 rfl _ _ (w.heap.size + 1) [.int .i64 f0, .int .i64 f1, .slice y2.1 y2.2.2.length y2.2.1, .int .i64 f3, .int .i64 f4] ie hie (Try.isAgg34) TF his.symm rfl) rfl ⟨(f0, f1, y2, f3, f4), rfl, by unfold stA; dsimp only; rw [hs2], hw2, BF⟩
set_option maxRecDepth 100000 in
set_option maxHeartbeats 6400000 in
theorem eqA_is (x y : TA) (w : World) (hx : DpA w x) (hy : DpA w y) (hs : stA x = stA y) (hl : totA x ≤ 1048576) : Calls Try.prog 36 #[vA x, vA y] w fun en w' => en = .returned (.bool true) ∧ Below w.heap.size w w' := by
  obtain ⟨f0, f1, f2, f3, f4⟩ := x
  obtain ⟨g0, g1, g2, g3, g4⟩ := y
  unfold stA at hs
  unfold DpA at hx hy
  unfold totA at hl
  dsimp only at hx hy hl
  simp only [Prod.mk.injEq] at hs
  obtain ⟨e0, e1, e2, e3, e4⟩ := hs
  have hx2 := hx
  have hy2 := hy
  subst e0
  subst e1
  subst e3
  subst e4
  obtain ⟨V, hV⟩ : ∃ V, (w.alloc (.cells #[.int .i64 f0, .int .i64 f1, .slice f2.1 f2.2.2.length f2.2.1, .int .i64 f3, .int .i64 f4] 34)).alloc (.cells #[.int .i64 f0, .int .i64 f1, .slice g2.1 g2.2.2.length g2.2.1, .int .i64 f3, .int .i64 f4] 34) = V := ⟨_, rfl⟩
  have BC : Below w.heap.size w V := by rw [← hV]; exact ((Below.refl _ _).alloc (Nat.le_refl _) _).alloc (by simp) _
  have TA : Blk w.heap.size [.int .i64 f0, .int .i64 f1, .slice f2.1 f2.2.2.length f2.2.1, .int .i64 f3, .int .i64 f4] V := by rw [← hV]; exact (Blk.new w #[.int .i64 f0, .int .i64 f1, .slice f2.1 f2.2.2.length f2.2.1, .int .i64 f3, .int .i64 f4] 34).alloc (by simp) _
  have TB : Blk (w.heap.size + 1) [.int .i64 f0, .int .i64 f1, .slice g2.1 g2.2.2.length g2.2.1, .int .i64 f3, .int .i64 f4] V := by rw [← hV]; have := Blk.new (w.alloc (.cells #[.int .i64 f0, .int .i64 f1, .slice f2.1 f2.2.2.length f2.2.1, .int .i64 f3, .int .i64 f4] 34)) #[.int .i64 f0, .int .i64 f1, .slice g2.1 g2.2.2.length g2.2.1, .int .i64 f3, .int .i64 f4] 34; simpa using this
  have p0 := TA.at 0 rfl
  have q0 := TB.at 0 rfl
  have p1 := TA.at 1 rfl
  have q1 := TB.at 1 rfl
  have p2 := TA.at 2 rfl
  have q2 := TB.at 2 rfl
  go_enter Try.func36, Try.ntmps36
  go_wp2_with fail
  try rw [hV]
  refine (eqSI_u f2 g2 _ (hx2.later BC) (hy2.later BC) e2 (by omega)).mono ?_
  clear hV p0 q0 p1 q1 p2 q2
  rintro en v2 ⟨rfl, hb⟩
  replace TA := TA.later hb (World.block_lt_of_cell? _ _ (TA.at 0 rfl))
  replace TB := TB.later hb (World.block_lt_of_cell? _ _ (TB.at 0 rfl))
  replace BC := BC.trans (hb.mono BC.size)
  clear hb
  have p3 := TA.at 3 rfl
  have q3 := TB.at 3 rfl
  have p4 := TA.at 4 rfl
  have q4 := TB.at 4 rfl
  go_wp2
  go_ret
  exact ⟨rfl, BC⟩
end Go.Proofs.Ytjbbhegijlnndaa.Nd
