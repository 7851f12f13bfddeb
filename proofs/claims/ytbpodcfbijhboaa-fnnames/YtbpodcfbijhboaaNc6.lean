/- Names copied and compared. -/
import Derived.Test.YtbpodcfbijhboaaNc1
set_option linter.unusedVariables false
set_option maxRecDepth 100000
namespace Go.Proofs.Ytbpodcfbijhboaa.Nd
open Go Go.RowKit Go.Joins Own Draw

set_option maxRecDepth 100000 in
set_option maxHeartbeats 6400000 in
theorem toT_is (p : TT) (w : World) (hd : DpT w p) (hl : totT p ≤ 1048576) : Calls Try.prog 24 #[vT p] w fun en w' => ∃ y : TT, en = .returned (vT y) ∧ stT y = stT p ∧ OwT w.heap.size w' y ∧ Below w.heap.size w w' := by
  obtain ⟨ie, hie, his⟩ := info_T
  obtain ⟨f0, f1⟩ := p
  unfold totT at hl
  unfold DpT at hd
  dsimp only at hl hd
  have hd0 := hd
  obtain ⟨V0, hV0⟩ : ∃ V, ((w.alloc (.cells #[.slice f0.1 f0.2.2.length f0.2.1, .string f1] 37)).alloc (.cells #[.slice none 0 0, .string ⟨#[]⟩] 26)).alloc (.cells #[.slice none 0 0, .string ⟨#[]⟩] 26) = V := ⟨_, rfl⟩
  have BC : Below w.heap.size w V0 := by rw [← hV0]; exact (((Below.refl _ _).alloc (Nat.le_refl _) _).alloc (by simp) _).alloc (by simp; omega) _
  have TA : Blk w.heap.size [.slice f0.1 f0.2.2.length f0.2.1, .string f1] V0 := by rw [← hV0]; exact ((Blk.new w #[.slice f0.1 f0.2.2.length f0.2.1, .string f1] 37).alloc (by simp) _).alloc (by simp; omega) _
  have TR : Blk (w.heap.size + 1) [.slice none 0 0, .string ⟨#[]⟩] V0 := by rw [← hV0]; have := (Blk.new (w.alloc (.cells #[.slice f0.1 f0.2.2.length f0.2.1, .string f1] 37)) #[.slice none 0 0, .string ⟨#[]⟩] 26).alloc (by simp) (.cells #[.slice none 0 0, .string ⟨#[]⟩] 26); simpa using this
  have TO : Blk (w.heap.size + 1 + 1) [.slice none 0 0, .string ⟨#[]⟩] V0 := by rw [← hV0]; have := Blk.new ((w.alloc (.cells #[.slice f0.1 f0.2.2.length f0.2.1, .string f1] 37)).alloc (.cells #[.slice none 0 0, .string ⟨#[]⟩] 26)) #[.slice none 0 0, .string ⟨#[]⟩] 26; simpa using this
  have ZS : Hid (w.heap.size + 3 ≤ V0.heap.size) := by show _ ≤ _; rw [← hV0]; simp
  have a0 := TA.at 0 rfl
  go_enter Try.func24, Try.ntmps24
  go_wp2_with fail
  try rw [hV0]
  refine (toSS_u f0 V0 (hd0.later BC) (by omega)).mono ?_
  clear hV0 a0
  rintro en v0 ⟨y0, rfl, hs0, ho0, hb⟩
  replace ho0 := ho0.le ZS.out
  replace TA := TA.later hb (by have := ZS.out; omega)
  replace TR := TR.later hb (by have := ZS.out; omega)
  replace TO := TO.later hb (by have := ZS.out; omega)
  replace BC := BC.trans (hb.mono BC.size)
  replace ZS : Hid (w.heap.size + 3 ≤ v0.heap.size) := Nat.le_trans ZS.out hb.size
  clear hb
  have a1 := TA.at 1 rfl
  have o0 := TO.at 0 rfl
  have z0 := TO.fz 0 rfl
  have o1 := TO.at 1 rfl
  have z1 := TO.fz 1 rfl
  obtain ⟨V1, hV1⟩ : ∃ V, ((v0.setCell ⟨(w.heap.size + 1 + 1), 0, none⟩ (.slice y0.1 y0.2.2.length y0.2.1)).setCell ⟨(w.heap.size + 1 + 1), 1, none⟩ (.string f1)) = V := ⟨_, rfl⟩
  have hV1_ : v0.setCells (w.heap.size + 1 + 1) 0 [.slice y0.1 y0.2.2.length y0.2.1, .string f1] = V1 := hV1
  have BC_ : Below w.heap.size w V1 := by rw [← hV1_]; exact below_sets (by omega) _ _ _ BC
  have TA_ : Blk w.heap.size [.slice f0.1 f0.2.2.length f0.2.1, .string f1] V1 := by rw [← hV1_]; exact Blk.farS (by omega) _ _ _ TA
  have TR_ : Blk (w.heap.size + 1) [.slice none 0 0, .string ⟨#[]⟩] V1 := by rw [← hV1_]; exact Blk.farS (by omega) _ _ _ TR
  have TO_ : Blk (w.heap.size + 1 + 1) [.slice y0.1 y0.2.2.length y0.2.1, .string f1] V1 := by rw [← hV1_]; exact TO.part 0 [.slice y0.1 y0.2.2.length y0.2.1, .string f1] _ (by simp) rfl
  have ho0_ := ho0.far (sets_grown (w.heap.size + 1 + 1) [.slice y0.1 y0.2.2.length y0.2.1, .string f1] 0 v0) (by omega)
  rw [hV1_] at ho0_
  have ZS_ : Hid (w.heap.size + 3 ≤ V1.heap.size) := Nat.le_trans ZS.out (by rw [← hV1_]; exact (sets_grown (w.heap.size + 1 + 1) _ _ _).size)
  obtain ⟨VF, hVF⟩ : ∃ V, V1.setCells (w.heap.size + 1) 0 [.slice y0.1 y0.2.2.length y0.2.1, .string f1] = V := ⟨_, rfl⟩
  have TF : Blk (w.heap.size + 1) [.slice y0.1 y0.2.2.length y0.2.1, .string f1] VF := by rw [← hVF]; exact TR_.sets _ rfl
  have BF : Below w.heap.size w VF := by rw [← hVF]; exact below_sets (by omega) _ _ _ BC_
  have hw0 := (ho0_.far (sets_grown (w.heap.size + 1) [.slice y0.1 y0.2.2.length y0.2.1, .string f1] 0 V1) (by omega)).le (by omega : w.heap.size ≤ w.heap.size + 3)
  rw [hVF] at hw0
  clear TA TR TO BC ZS hV1_ TA_ BC_ ZS_ ho0 ho0_
  go_wp2_with (first | (refine wpList_ldB 26 _ (w.heap.size + 1 + 1) 0 _ [.slice y0.1 y0.2.2.length y0.2.1, .string f1] ie hie (Try.isAgg26) TO_ his.symm rfl rfl rfl rfl ?_) | (refine wpList_stB 26 _ _ (w.heap.size + 1) 0 _ [.slice y0.1 y0.2.2.length y0.2.1, .string f1] ie hie TR_ his.symm (by simp) rfl rfl rfl rfl rfl ?_; rw [hVF]) | go_in)
  exact bodyPost_ret (res_B1 rfl _ _ (w.heap.size + 1) [.slice y0.1 y0.2.2.length y0.2.1, .string f1] ie hie (Try.isAgg26) TF his.symm rfl) rfl ⟨(y0, f1), rfl, by unfold stT; dsimp only; rw [hs0], hw0, BF⟩
set_option maxRecDepth 100000 in
set_option maxHeartbeats 6400000 in
theorem eqT_is (x y : TT) (w : World) (hx : DpT w x) (hy : DpT w y) (hs : stT x = stT y) (hl : totT x ≤ 1048576) : Calls Try.prog 26 #[vT x, vT y] w fun en w' => en = .returned (.bool true) ∧ Below w.heap.size w w' := by
  obtain ⟨f0, f1⟩ := x
  obtain ⟨g0, g1⟩ := y
  unfold stT at hs
  unfold DpT at hx hy
  unfold totT at hl
  dsimp only at hx hy hl
  simp only [Prod.mk.injEq] at hs
  obtain ⟨e0, e1⟩ := hs
  have hx0 := hx
  have hy0 := hy
  subst e1
  obtain ⟨V, hV⟩ : ∃ V, (w.alloc (.cells #[.slice f0.1 f0.2.2.length f0.2.1, .string f1] 26)).alloc (.cells #[.slice g0.1 g0.2.2.length g0.2.1, .string f1] 26) = V := ⟨_, rfl⟩
  have BC : Below w.heap.size w V := by rw [← hV]; exact ((Below.refl _ _).alloc (Nat.le_refl _) _).alloc (by simp) _
  have TA : Blk w.heap.size [.slice f0.1 f0.2.2.length f0.2.1, .string f1] V := by rw [← hV]; exact (Blk.new w #[.slice f0.1 f0.2.2.length f0.2.1, .string f1] 26).alloc (by simp) _
  have TB : Blk (w.heap.size + 1) [.slice g0.1 g0.2.2.length g0.2.1, .string f1] V := by rw [← hV]; have := Blk.new (w.alloc (.cells #[.slice f0.1 f0.2.2.length f0.2.1, .string f1] 26)) #[.slice g0.1 g0.2.2.length g0.2.1, .string f1] 26; simpa using this
  have p0 := TA.at 0 rfl
  have q0 := TB.at 0 rfl
  go_enter Try.func26, Try.ntmps26
  go_wp2_with fail
  try rw [hV]
  refine (eqSS_u f0 g0 _ (hx0.later BC) (hy0.later BC) e0 (by omega)).mono ?_
  clear hV p0 q0
  rintro en v0 ⟨rfl, hb⟩
  replace TA := TA.later hb (World.block_lt_of_cell? _ _ (TA.at 0 rfl))
  replace TB := TB.later hb (World.block_lt_of_cell? _ _ (TB.at 0 rfl))
  replace BC := BC.trans (hb.mono BC.size)
  clear hb
  have p1 := TA.at 1 rfl
  have q1 := TB.at 1 rfl
  go_wp2
  go_ret
  exact ⟨rfl, BC⟩
end Go.Proofs.Ytbpodcfbijhboaa.Nd
