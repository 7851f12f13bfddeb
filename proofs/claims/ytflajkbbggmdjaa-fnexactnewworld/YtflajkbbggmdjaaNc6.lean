/- A Config copied and compared. -/
import Derived.Test.YtflajkbbggmdjaaNc1
set_option linter.unusedVariables false
set_option maxRecDepth 100000
namespace Go.Proofs.Ytflajkbbggmdjaa.Nd
open Go Go.RowKit Go.Joins Own Draw

set_option maxRecDepth 100000 in
set_option maxHeartbeats 6400000 in
theorem toF_is (p : TF) (w : World) (hd : DpF w p) (hl : totF p ≤ 1048576) : Calls Try.prog 8 #[vF p] w fun en w' => ∃ y : TF, en = .returned (vF y) ∧ stF y = stF p ∧ OwF w.heap.size w' y ∧ Below w.heap.size w w' := by
  obtain ⟨ie, hie, his⟩ := info_F
  obtain ⟨f0, f1, f2, f3, f4⟩ := p
  unfold totF at hl
  unfold DpF at hd
  dsimp only at hl hd
  obtain ⟨hd0, hd1, hd2, hd3⟩ := hd
  obtain ⟨V0, hV0⟩ : ∃ V, ((w.alloc (.cells #[.slice f0.1 f0.2.2.length f0.2.1, .slice f1.1 f1.2.2.length f1.2.1, .slice f2.1 f2.2.2.length f2.2.1, .slice f3.1 f3.2.2.length f3.2.1, .int .i64 f4] 25)).alloc (.cells #[.slice none 0 0, .slice none 0 0, .slice none 0 0, .slice none 0 0, .int .i64 0] 30)).alloc (.cells #[.slice none 0 0, .slice none 0 0, .slice none 0 0, .slice none 0 0, .int .i64 0] 30) = V := ⟨_, rfl⟩
  have BC : Below w.heap.size w V0 := by rw [← hV0]; exact (((Below.refl _ _).alloc (Nat.le_refl _) _).alloc (by simp) _).alloc (by simp; omega) _
  have TA : Blk w.heap.size [.slice f0.1 f0.2.2.length f0.2.1, .slice f1.1 f1.2.2.length f1.2.1, .slice f2.1 f2.2.2.length f2.2.1, .slice f3.1 f3.2.2.length f3.2.1, .int .i64 f4] V0 := by rw [← hV0]; exact ((Blk.new w #[.slice f0.1 f0.2.2.length f0.2.1, .slice f1.1 f1.2.2.length f1.2.1, .slice f2.1 f2.2.2.length f2.2.1, .slice f3.1 f3.2.2.length f3.2.1, .int .i64 f4] 25).alloc (by simp) _).alloc (by simp; omega) _
  have TR : Blk (w.heap.size + 1) [.slice none 0 0, .slice none 0 0, .slice none 0 0, .slice none 0 0, .int .i64 0] V0 := by rw [← hV0]; have := (Blk.new (w.alloc (.cells #[.slice f0.1 f0.2.2.length f0.2.1, .slice f1.1 f1.2.2.length f1.2.1, .slice f2.1 f2.2.2.length f2.2.1, .slice f3.1 f3.2.2.length f3.2.1, .int .i64 f4] 25)) #[.slice none 0 0, .slice none 0 0, .slice none 0 0, .slice none 0 0, .int .i64 0] 30).alloc (by simp) (.cells #[.slice none 0 0, .slice none 0 0, .slice none 0 0, .slice none 0 0, .int .i64 0] 30); simpa using this
  have TO : Blk (w.heap.size + 1 + 1) [.slice none 0 0, .slice none 0 0, .slice none 0 0, .slice none 0 0, .int .i64 0] V0 := by rw [← hV0]; have := Blk.new ((w.alloc (.cells #[.slice f0.1 f0.2.2.length f0.2.1, .slice f1.1 f1.2.2.length f1.2.1, .slice f2.1 f2.2.2.length f2.2.1, .slice f3.1 f3.2.2.length f3.2.1, .int .i64 f4] 25)).alloc (.cells #[.slice none 0 0, .slice none 0 0, .slice none 0 0, .slice none 0 0, .int .i64 0] 30)) #[.slice none 0 0, .slice none 0 0, .slice none 0 0, .slice none 0 0, .int .i64 0] 30; simpa using this
  have ZS : Hid (w.heap.size + 3 ≤ V0.heap.size) := by show _ ≤ _; rw [← hV0]; simp
  have a0 := TA.at 0 rfl
  go_enter Try.func8, Try.ntmps8
  go_wp2_with fail
  try rw [hV0]
  refine (toSI_u f0 V0 (hd0.later BC) (by omega)).mono ?_
  clear hV0 a0
  rintro en v0 ⟨y0, rfl, hs0, ho0, hb⟩
  replace ho0 := ho0.le ZS.out
  replace TA := TA.later hb (by have := ZS.out; omega)
  replace TR := TR.later hb (by have := ZS.out; omega)
  replace TO := TO.later hb (by have := ZS.out; omega)
  replace BC := BC.trans (hb.mono BC.size)
  replace ZS : Hid (w.heap.size + 3 ≤ v0.heap.size) := Nat.le_trans ZS.out hb.size
  clear hb
  have o0 := TO.at 0 rfl
  have z0 := TO.fz 0 rfl
  obtain ⟨V1, hV1⟩ : ∃ V, (v0.setCell ⟨(w.heap.size + 1 + 1), 0, none⟩ (.slice y0.1 y0.2.2.length y0.2.1)) = V := ⟨_, rfl⟩
  have hV1_ : v0.setCells (w.heap.size + 1 + 1) 0 [.slice y0.1 y0.2.2.length y0.2.1] = V1 := hV1
  have BC_ : Below w.heap.size w V1 := by rw [← hV1_]; exact below_sets (by omega) _ _ _ BC
  have TA_ : Blk w.heap.size [.slice f0.1 f0.2.2.length f0.2.1, .slice f1.1 f1.2.2.length f1.2.1, .slice f2.1 f2.2.2.length f2.2.1, .slice f3.1 f3.2.2.length f3.2.1, .int .i64 f4] V1 := by rw [← hV1_]; exact Blk.farS (by omega) _ _ _ TA
  have TR_ : Blk (w.heap.size + 1) [.slice none 0 0, .slice none 0 0, .slice none 0 0, .slice none 0 0, .int .i64 0] V1 := by rw [← hV1_]; exact Blk.farS (by omega) _ _ _ TR
  have TO_ : Blk (w.heap.size + 1 + 1) [.slice y0.1 y0.2.2.length y0.2.1, .slice none 0 0, .slice none 0 0, .slice none 0 0, .int .i64 0] V1 := by rw [← hV1_]; exact TO.part 0 [.slice y0.1 y0.2.2.length y0.2.1] _ (by simp) rfl
  have ho0_ := ho0.far (sets_grown (w.heap.size + 1 + 1) [.slice y0.1 y0.2.2.length y0.2.1] 0 v0) (by omega)
  rw [hV1_] at ho0_
  have ZS_ : Hid (w.heap.size + 3 ≤ V1.heap.size) := Nat.le_trans ZS.out (by rw [← hV1_]; exact (sets_grown (w.heap.size + 1 + 1) _ _ _).size)
  clear TA TR TO BC ZS hV1_ ho0
  have TA := TA_
  have TR := TR_
  have TO := TO_
  have BC := BC_
  have ZS := ZS_
  have ho0 := ho0_
  clear TA_ TR_ TO_ BC_ ZS_ ho0_
  have b1 := TA.at 1 rfl
  go_wp2_with fail
  try rw [hV1]
  refine (toSI_u f1 V1 (hd1.later BC) (by omega)).mono ?_
  clear hV1 o0 z0 b1
  rintro en v1 ⟨y1, rfl, hs1, ho1, hb⟩
  replace ho1 := ho1.le ZS.out
  replace TA := TA.later hb (by have := ZS.out; omega)
  replace TR := TR.later hb (by have := ZS.out; omega)
  replace TO := TO.later hb (by have := ZS.out; omega)
  replace BC := BC.trans (hb.mono BC.size)
  replace ho0 := ho0.later hb
  replace ZS : Hid (w.heap.size + 3 ≤ v1.heap.size) := Nat.le_trans ZS.out hb.size
  clear hb
  have o1 := TO.at 1 rfl
  have z1 := TO.fz 1 rfl
  obtain ⟨V2, hV2⟩ : ∃ V, (v1.setCell ⟨(w.heap.size + 1 + 1), 1, none⟩ (.slice y1.1 y1.2.2.length y1.2.1)) = V := ⟨_, rfl⟩
  have hV2_ : v1.setCells (w.heap.size + 1 + 1) 1 [.slice y1.1 y1.2.2.length y1.2.1] = V2 := hV2
  have BC_ : Below w.heap.size w V2 := by rw [← hV2_]; exact below_sets (by omega) _ _ _ BC
  have TA_ : Blk w.heap.size [.slice f0.1 f0.2.2.length f0.2.1, .slice f1.1 f1.2.2.length f1.2.1, .slice f2.1 f2.2.2.length f2.2.1, .slice f3.1 f3.2.2.length f3.2.1, .int .i64 f4] V2 := by rw [← hV2_]; exact Blk.farS (by omega) _ _ _ TA
  have TR_ : Blk (w.heap.size + 1) [.slice none 0 0, .slice none 0 0, .slice none 0 0, .slice none 0 0, .int .i64 0] V2 := by rw [← hV2_]; exact Blk.farS (by omega) _ _ _ TR
  have TO_ : Blk (w.heap.size + 1 + 1) [.slice y0.1 y0.2.2.length y0.2.1, .slice y1.1 y1.2.2.length y1.2.1, .slice none 0 0, .slice none 0 0, .int .i64 0] V2 := by rw [← hV2_]; exact TO.part 1 [.slice y1.1 y1.2.2.length y1.2.1] _ (by simp) rfl
  have ho0_ := ho0.far (sets_grown (w.heap.size + 1 + 1) [.slice y1.1 y1.2.2.length y1.2.1] 1 v1) (by omega)
  rw [hV2_] at ho0_
  have ho1_ := ho1.far (sets_grown (w.heap.size + 1 + 1) [.slice y1.1 y1.2.2.length y1.2.1] 1 v1) (by omega)
  rw [hV2_] at ho1_
  have ZS_ : Hid (w.heap.size + 3 ≤ V2.heap.size) := Nat.le_trans ZS.out (by rw [← hV2_]; exact (sets_grown (w.heap.size + 1 + 1) _ _ _).size)
  clear TA TR TO BC ZS hV2_ ho0 ho1
  have TA := TA_
  have TR := TR_
  have TO := TO_
  have BC := BC_
  have ZS := ZS_
  have ho0 := ho0_
  have ho1 := ho1_
  clear TA_ TR_ TO_ BC_ ZS_ ho0_ ho1_
  have b2 := TA.at 2 rfl
  go_wp2_with fail
  try rw [hV2]
  refine (toSP_u f2 V2 (hd2.later BC) (by omega)).mono ?_
  clear hV2 o1 z1 b2
  rintro en v2 ⟨y2, rfl, hs2, ho2, hb⟩
  replace ho2 := ho2.le ZS.out
  replace TA := TA.later hb (by have := ZS.out; omega)
  replace TR := TR.later hb (by have := ZS.out; omega)
  replace TO := TO.later hb (by have := ZS.out; omega)
  replace BC := BC.trans (hb.mono BC.size)
  replace ho0 := ho0.later hb
  replace ho1 := ho1.later hb
  replace ZS : Hid (w.heap.size + 3 ≤ v2.heap.size) := Nat.le_trans ZS.out hb.size
  clear hb
  have o2 := TO.at 2 rfl
  have z2 := TO.fz 2 rfl
  obtain ⟨V3, hV3⟩ : ∃ V, (v2.setCell ⟨(w.heap.size + 1 + 1), 2, none⟩ (.slice y2.1 y2.2.2.length y2.2.1)) = V := ⟨_, rfl⟩
  have hV3_ : v2.setCells (w.heap.size + 1 + 1) 2 [.slice y2.1 y2.2.2.length y2.2.1] = V3 := hV3
  have BC_ : Below w.heap.size w V3 := by rw [← hV3_]; exact below_sets (by omega) _ _ _ BC
  have TA_ : Blk w.heap.size [.slice f0.1 f0.2.2.length f0.2.1, .slice f1.1 f1.2.2.length f1.2.1, .slice f2.1 f2.2.2.length f2.2.1, .slice f3.1 f3.2.2.length f3.2.1, .int .i64 f4] V3 := by rw [← hV3_]; exact Blk.farS (by omega) _ _ _ TA
  have TR_ : Blk (w.heap.size + 1) [.slice none 0 0, .slice none 0 0, .slice none 0 0, .slice none 0 0, .int .i64 0] V3 := by rw [← hV3_]; exact Blk.farS (by omega) _ _ _ TR
  have TO_ : Blk (w.heap.size + 1 + 1) [.slice y0.1 y0.2.2.length y0.2.1, .slice y1.1 y1.2.2.length y1.2.1, .slice y2.1 y2.2.2.length y2.2.1, .slice none 0 0, .int .i64 0] V3 := by rw [← hV3_]; exact TO.part 2 [.slice y2.1 y2.2.2.length y2.2.1] _ (by simp) rfl
  have ho0_ := ho0.far (sets_grown (w.heap.size + 1 + 1) [.slice y2.1 y2.2.2.length y2.2.1] 2 v2) (by omega)
  rw [hV3_] at ho0_
  have ho1_ := ho1.far (sets_grown (w.heap.size + 1 + 1) [.slice y2.1 y2.2.2.length y2.2.1] 2 v2) (by omega)
  rw [hV3_] at ho1_
  have ho2_ := ho2.far (sets_grown (w.heap.size + 1 + 1) [.slice y2.1 y2.2.2.length y2.2.1] 2 v2) (by omega)
  rw [hV3_] at ho2_
  have ZS_ : Hid (w.heap.size + 3 ≤ V3.heap.size) := Nat.le_trans ZS.out (by rw [← hV3_]; exact (sets_grown (w.heap.size + 1 + 1) _ _ _).size)
  clear TA TR TO BC ZS hV3_ ho0 ho1 ho2
  have TA := TA_
  have TR := TR_
  have TO := TO_
  have BC := BC_
  have ZS := ZS_
  have ho0 := ho0_
  have ho1 := ho1_
  have ho2 := ho2_
  clear TA_ TR_ TO_ BC_ ZS_ ho0_ ho1_ ho2_
  have b3 := TA.at 3 rfl
  go_wp2_with fail
  try rw [hV3]
  refine (toSP_u f3 V3 (hd3.later BC) (by omega)).mono ?_
  clear hV3 o2 z2 b3
  rintro en v3 ⟨y3, rfl, hs3, ho3, hb⟩
  replace ho3 := ho3.le ZS.out
  replace TA := TA.later hb (by have := ZS.out; omega)
  replace TR := TR.later hb (by have := ZS.out; omega)
  replace TO := TO.later hb (by have := ZS.out; omega)
  replace BC := BC.trans (hb.mono BC.size)
  replace ho0 := ho0.later hb
  replace ho1 := ho1.later hb
  replace ho2 := ho2.later hb
  replace ZS : Hid (w.heap.size + 3 ≤ v3.heap.size) := Nat.le_trans ZS.out hb.size
  clear hb
  have a4 := TA.at 4 rfl
  have o3 := TO.at 3 rfl
  have z3 := TO.fz 3 rfl
  have o4 := TO.at 4 rfl
  have z4 := TO.fz 4 rfl
  obtain ⟨V4, hV4⟩ : ∃ V, ((v3.setCell ⟨(w.heap.size + 1 + 1), 3, none⟩ (.slice y3.1 y3.2.2.length y3.2.1)).setCell ⟨(w.heap.size + 1 + 1), 4, none⟩ (.int .i64 f4)) = V := ⟨_, rfl⟩
  have hV4_ : v3.setCells (w.heap.size + 1 + 1) 3 [.slice y3.1 y3.2.2.length y3.2.1, .int .i64 f4] = V4 := hV4
  have BC_ : Below w.heap.size w V4 := by rw [← hV4_]; exact below_sets (by omega) _ _ _ BC
  have TA_ : Blk w.heap.size [.slice f0.1 f0.2.2.length f0.2.1, .slice f1.1 f1.2.2.length f1.2.1, .slice f2.1 f2.2.2.length f2.2.1, .slice f3.1 f3.2.2.length f3.2.1, .int .i64 f4] V4 := by rw [← hV4_]; exact Blk.farS (by omega) _ _ _ TA
  have TR_ : Blk (w.heap.size + 1) [.slice none 0 0, .slice none 0 0, .slice none 0 0, .slice none 0 0, .int .i64 0] V4 := by rw [← hV4_]; exact Blk.farS (by omega) _ _ _ TR
  have TO_ : Blk (w.heap.size + 1 + 1) [.slice y0.1 y0.2.2.length y0.2.1, .slice y1.1 y1.2.2.length y1.2.1, .slice y2.1 y2.2.2.length y2.2.1, .slice y3.1 y3.2.2.length y3.2.1, .int .i64 f4] V4 := by rw [← hV4_]; exact TO.part 3 [.slice y3.1 y3.2.2.length y3.2.1, .int .i64 f4] _ (by simp) rfl
  have ho0_ := ho0.far (sets_grown (w.heap.size + 1 + 1) [.slice y3.1 y3.2.2.length y3.2.1, .int .i64 f4] 3 v3) (by omega)
  rw [hV4_] at ho0_
  have ho1_ := ho1.far (sets_grown (w.heap.size + 1 + 1) [.slice y3.1 y3.2.2.length y3.2.1, .int .i64 f4] 3 v3) (by omega)
  rw [hV4_] at ho1_
  have ho2_ := ho2.far (sets_grown (w.heap.size + 1 + 1) [.slice y3.1 y3.2.2.length y3.2.1, .int .i64 f4] 3 v3) (by omega)
  rw [hV4_] at ho2_
  have ho3_ := ho3.far (sets_grown (w.heap.size + 1 + 1) [.slice y3.1 y3.2.2.length y3.2.1, .int .i64 f4] 3 v3) (by omega)
  rw [hV4_] at ho3_
  have ZS_ : Hid (w.heap.size + 3 ≤ V4.heap.size) := Nat.le_trans ZS.out (by rw [← hV4_]; exact (sets_grown (w.heap.size + 1 + 1) _ _ _).size)
  obtain ⟨VF, hVF⟩ : ∃ V, V4.setCells (w.heap.size + 1) 0 [.slice y0.1 y0.2.2.length y0.2.1, .slice y1.1 y1.2.2.length y1.2.1, .slice y2.1 y2.2.2.length y2.2.1, .slice y3.1 y3.2.2.length y3.2.1, .int .i64 f4] = V := ⟨_, rfl⟩
  have TF : Blk (w.heap.size + 1) [.slice y0.1 y0.2.2.length y0.2.1, .slice y1.1 y1.2.2.length y1.2.1, .slice y2.1 y2.2.2.length y2.2.1, .slice y3.1 y3.2.2.length y3.2.1, .int .i64 f4] VF := by rw [← hVF]; exact TR_.sets _ rfl
  have BF : Below w.heap.size w VF := by rw [← hVF]; exact below_sets (by omega) _ _ _ BC_
  have hw0 := (ho0_.far (sets_grown (w.heap.size + 1) [.slice y0.1 y0.2.2.length y0.2.1, .slice y1.1 y1.2.2.length y1.2.1, .slice y2.1 y2.2.2.length y2.2.1, .slice y3.1 y3.2.2.length y3.2.1, .int .i64 f4] 0 V4) (by omega)).le (by omega : w.heap.size ≤ w.heap.size + 3)
  rw [hVF] at hw0
  have hw1 := (ho1_.far (sets_grown (w.heap.size + 1) [.slice y0.1 y0.2.2.length y0.2.1, .slice y1.1 y1.2.2.length y1.2.1, .slice y2.1 y2.2.2.length y2.2.1, .slice y3.1 y3.2.2.length y3.2.1, .int .i64 f4] 0 V4) (by omega)).le (by omega : w.heap.size ≤ w.heap.size + 3)
  rw [hVF] at hw1
  have hw2 := (ho2_.far (sets_grown (w.heap.size + 1) [.slice y0.1 y0.2.2.length y0.2.1, .slice y1.1 y1.2.2.length y1.2.1, .slice y2.1 y2.2.2.length y2.2.1, .slice y3.1 y3.2.2.length y3.2.1, .int .i64 f4] 0 V4) (by omega)).le (by omega : w.heap.size ≤ w.heap.size + 3)
  rw [hVF] at hw2
  have hw3 := (ho3_.far (sets_grown (w.heap.size + 1) [.slice y0.1 y0.2.2.length y0.2.1, .slice y1.1 y1.2.2.length y1.2.1, .slice y2.1 y2.2.2.length y2.2.1, .slice y3.1 y3.2.2.length y3.2.1, .int .i64 f4] 0 V4) (by omega)).le (by omega : w.heap.size ≤ w.heap.size + 3)
  rw [hVF] at hw3
  clear TA TR TO BC ZS hV4_ TA_ BC_ ZS_ ho0 ho0_ ho1 ho1_ ho2 ho2_ ho3 ho3_
  go_wp2_with (first | (refine wpList_ldB 30 _ (w.heap.size + 1 + 1) 0 _ [.slice y0.1 y0.2.2.length y0.2.1, .slice y1.1 y1.2.2.length y1.2.1, .slice y2.1 y2.2.2.length y2.2.1, .slice y3.1 y3.2.2.length y3.2.1, .int .i64 f4] ie hie (Try.isAgg30) TO_ his.symm rfl rfl rfl rfl ?_) | (refine wpList_stB 30 _ _ (w.heap.size + 1) 0 _ [.slice y0.1 y0.2.2.length y0.2.1, .slice y1.1 y1.2.2.length y1.2.1, .slice y2.1 y2.2.2.length y2.2.1, .slice y3.1 y3.2.2.length y3.2.1, .int .i64 f4] ie hie TR_ his.symm (by simp) rfl rfl rfl rfl rfl ?_; rw [hVF]) | go_in)
  exact bodyPost_ret (res_B1 rfl _ _ (w.heap.size + 1) [.slice y0.1 y0.2.2.length y0.2.1, .slice y1.1 y1.2.2.length y1.2.1, .slice y2.1 y2.2.2.length y2.2.1, .slice y3.1 y3.2.2.length y3.2.1, .int .i64 f4] ie hie (Try.isAgg30) TF his.symm rfl) rfl ⟨(y0, y1, y2, y3, f4), rfl, by unfold stF; dsimp only; rw [hs0, hs1, hs2, hs3], ⟨hw0, hw1, hw2, hw3⟩, BF⟩
set_option maxRecDepth 100000 in
set_option maxHeartbeats 6400000 in
theorem eqF_is (x y : TF) (w : World) (hx : DpF w x) (hy : DpF w y) (hs : stF x = stF y) (hl : totF x ≤ 1048576) : Calls Try.prog 10 #[vF x, vF y] w fun en w' => en = .returned (.bool true) ∧ Below w.heap.size w w' := by
  obtain ⟨f0, f1, f2, f3, f4⟩ := x
  obtain ⟨g0, g1, g2, g3, g4⟩ := y
  unfold stF at hs
  unfold DpF at hx hy
  unfold totF at hl
  dsimp only at hx hy hl
  simp only [Prod.mk.injEq] at hs
  obtain ⟨e0, e1, e2, e3, e4⟩ := hs
  obtain ⟨hx0, hx1, hx2, hx3⟩ := hx
  obtain ⟨hy0, hy1, hy2, hy3⟩ := hy
  subst e4
  obtain ⟨V, hV⟩ : ∃ V, (w.alloc (.cells #[.slice f0.1 f0.2.2.length f0.2.1, .slice f1.1 f1.2.2.length f1.2.1, .slice f2.1 f2.2.2.length f2.2.1, .slice f3.1 f3.2.2.length f3.2.1, .int .i64 f4] 30)).alloc (.cells #[.slice g0.1 g0.2.2.length g0.2.1, .slice g1.1 g1.2.2.length g1.2.1, .slice g2.1 g2.2.2.length g2.2.1, .slice g3.1 g3.2.2.length g3.2.1, .int .i64 f4] 30) = V := ⟨_, rfl⟩
  have BC : Below w.heap.size w V := by rw [← hV]; exact ((Below.refl _ _).alloc (Nat.le_refl _) _).alloc (by simp) _
  have TA : Blk w.heap.size [.slice f0.1 f0.2.2.length f0.2.1, .slice f1.1 f1.2.2.length f1.2.1, .slice f2.1 f2.2.2.length f2.2.1, .slice f3.1 f3.2.2.length f3.2.1, .int .i64 f4] V := by rw [← hV]; exact (Blk.new w #[.slice f0.1 f0.2.2.length f0.2.1, .slice f1.1 f1.2.2.length f1.2.1, .slice f2.1 f2.2.2.length f2.2.1, .slice f3.1 f3.2.2.length f3.2.1, .int .i64 f4] 30).alloc (by simp) _
  have TB : Blk (w.heap.size + 1) [.slice g0.1 g0.2.2.length g0.2.1, .slice g1.1 g1.2.2.length g1.2.1, .slice g2.1 g2.2.2.length g2.2.1, .slice g3.1 g3.2.2.length g3.2.1, .int .i64 f4] V := by rw [← hV]; have := Blk.new (w.alloc (.cells #[.slice f0.1 f0.2.2.length f0.2.1, .slice f1.1 f1.2.2.length f1.2.1, .slice f2.1 f2.2.2.length f2.2.1, .slice f3.1 f3.2.2.length f3.2.1, .int .i64 f4] 30)) #[.slice g0.1 g0.2.2.length g0.2.1, .slice g1.1 g1.2.2.length g1.2.1, .slice g2.1 g2.2.2.length g2.2.1, .slice g3.1 g3.2.2.length g3.2.1, .int .i64 f4] 30; simpa using this
  have p0 := TA.at 0 rfl
  have q0 := TB.at 0 rfl
  go_enter Try.func10, Try.ntmps10
  go_wp2_with fail
  try rw [hV]
  refine (eqSI_u f0 g0 _ (hx0.later BC) (hy0.later BC) e0 (by omega)).mono ?_
  clear hV p0 q0
  rintro en v0 ⟨rfl, hb⟩
  replace TA := TA.later hb (World.block_lt_of_cell? _ _ (TA.at 0 rfl))
  replace TB := TB.later hb (World.block_lt_of_cell? _ _ (TB.at 0 rfl))
  replace BC := BC.trans (hb.mono BC.size)
  clear hb
  have p1 := TA.at 1 rfl
  have q1 := TB.at 1 rfl
  go_wp2_with fail
  try rw [hV]
  refine (eqSI_u f1 g1 _ (hx1.later BC) (hy1.later BC) e1 (by omega)).mono ?_
  clear p1 q1
  rintro en v1 ⟨rfl, hb⟩
  replace TA := TA.later hb (World.block_lt_of_cell? _ _ (TA.at 0 rfl))
  replace TB := TB.later hb (World.block_lt_of_cell? _ _ (TB.at 0 rfl))
  replace BC := BC.trans (hb.mono BC.size)
  clear hb
  have p2 := TA.at 2 rfl
  have q2 := TB.at 2 rfl
  go_wp2_with fail
  try rw [hV]
  refine (eqSP_u f2 g2 _ (hx2.later BC) (hy2.later BC) e2 (by omega)).mono ?_
  clear p2 q2
  rintro en v2 ⟨rfl, hb⟩
  replace TA := TA.later hb (World.block_lt_of_cell? _ _ (TA.at 0 rfl))
  replace TB := TB.later hb (World.block_lt_of_cell? _ _ (TB.at 0 rfl))
  replace BC := BC.trans (hb.mono BC.size)
  clear hb
  have p3 := TA.at 3 rfl
  have q3 := TB.at 3 rfl
  go_wp2_with fail
  try rw [hV]
  refine (eqSP_u f3 g3 _ (hx3.later BC) (hy3.later BC) e3 (by omega)).mono ?_
  clear p3 q3
  rintro en v3 ⟨rfl, hb⟩
  replace TA := TA.later hb (World.block_lt_of_cell? _ _ (TA.at 0 rfl))
  replace TB := TB.later hb (World.block_lt_of_cell? _ _ (TB.at 0 rfl))
  replace BC := BC.trans (hb.mono BC.size)
  clear hb
  have p4 := TA.at 4 rfl
  have q4 := TB.at 4 rfl
  go_wp2
  go_ret
  exact ⟨rfl, BC⟩
end Go.Proofs.Ytflajkbbggmdjaa.Nd
