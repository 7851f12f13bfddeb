/- A world copied. -/
import Derived.Test.YtlmpfkbgknbcnaaGreatAb
import Derived.Test.YtlmpfkbgknbcnaaGreatNc3
import Derived.Test.YtlmpfkbgknbcnaaGreatNc5
import Derived.Test.YtlmpfkbgknbcnaaGreatNc6
set_option linter.unusedVariables false
set_option maxRecDepth 100000
namespace Go.Proofs.YtlmpfkbgknbcnaaGreat.Nd
open Go Go.RowKit Go.Joins Own Draw
set_option maxRecDepth 100000 in
set_option maxHeartbeats 6400000 in
theorem toD_is (p : TD) (w : World) (hd : DpD w p) (hl : totD p ≤ 1048576) : Calls Tryz.prog 7 #[vD p] w fun en w' => ∃ y : TD,en = .returned (vD y) ∧ stD y = stD p ∧ OwD w.heap.size w' y ∧ Below w.heap.size w w':=by
 obtain ⟨ie,hie,his⟩:=info_D
 obtain ⟨f0,f1,f2,f3,f4,f5,f6,f7,f8,f9,f10⟩:=p
 unfold totD at hl
 unfold DpD at hd
 dsimp only at hl hd
 obtain ⟨hd0,hd3,hd4,hd5,hd6,hd7,hd8,hd9,hd10⟩:=hd
 obtain ⟨V0,hV0⟩ : ∃ V,((w.alloc (.cells #[.slice f0.1.1 f0.1.2.2.length f0.1.2.1,.slice f0.2.1.1 f0.2.1.2.2.length f0.2.1.2.1,.slice f0.2.2.1.1 f0.2.2.1.2.2.length f0.2.2.1.2.1,.slice f0.2.2.2.1.1 f0.2.2.2.1.2.2.length f0.2.2.2.1.2.1,I f0.2.2.2.2,I f1,I f2,.slice f3.1 f3.2.2.length f3.2.1,.slice f4.1.1 f4.1.2.2.length f4.1.2.1,.slice f4.2.1 f4.2.2.2.length f4.2.2.1,.slice f5.1 f5.2.2.length f5.2.1,.slice f6.1 f6.2.2.length f6.2.1,.slice f7.1 f7.2.2.length f7.2.1,.slice f8.1 f8.2.2.length f8.2.1,.slice f9.1 f9.2.2.length f9.2.1,.slice f10.1 f10.2.2.length f10.2.1] 35)).alloc (.cells #[.slice none 0 0,.slice none 0 0,.slice none 0 0,.slice none 0 0,I 0,I 0,I 0,.slice none 0 0,.slice none 0 0,.slice none 0 0,.slice none 0 0,.slice none 0 0,.slice none 0 0,.slice none 0 0,.slice none 0 0,.slice none 0 0] 48)).alloc (.cells #[.slice none 0 0,.slice none 0 0,.slice none 0 0,.slice none 0 0,I 0,I 0,I 0,.slice none 0 0,.slice none 0 0,.slice none 0 0,.slice none 0 0,.slice none 0 0,.slice none 0 0,.slice none 0 0,.slice none 0 0,.slice none 0 0] 48) = V:=⟨_,rfl⟩
 have BC : Below w.heap.size w V0:=by rw [← hV0]; exact (((Below.refl _ _).alloc (Nat.le_refl _) _).alloc (by simp) _).alloc (by simp; omega) _
 have TA : Blk w.heap.size [.slice f0.1.1 f0.1.2.2.length f0.1.2.1,.slice f0.2.1.1 f0.2.1.2.2.length f0.2.1.2.1,.slice f0.2.2.1.1 f0.2.2.1.2.2.length f0.2.2.1.2.1,.slice f0.2.2.2.1.1 f0.2.2.2.1.2.2.length f0.2.2.2.1.2.1,I f0.2.2.2.2,I f1,I f2,.slice f3.1 f3.2.2.length f3.2.1,.slice f4.1.1 f4.1.2.2.length f4.1.2.1,.slice f4.2.1 f4.2.2.2.length f4.2.2.1,.slice f5.1 f5.2.2.length f5.2.1,.slice f6.1 f6.2.2.length f6.2.1,.slice f7.1 f7.2.2.length f7.2.1,.slice f8.1 f8.2.2.length f8.2.1,.slice f9.1 f9.2.2.length f9.2.1,.slice f10.1 f10.2.2.length f10.2.1] V0:=by rw [← hV0]; exact ((Blk.new w #[.slice f0.1.1 f0.1.2.2.length f0.1.2.1,.slice f0.2.1.1 f0.2.1.2.2.length f0.2.1.2.1,.slice f0.2.2.1.1 f0.2.2.1.2.2.length f0.2.2.1.2.1,.slice f0.2.2.2.1.1 f0.2.2.2.1.2.2.length f0.2.2.2.1.2.1,I f0.2.2.2.2,I f1,I f2,.slice f3.1 f3.2.2.length f3.2.1,.slice f4.1.1 f4.1.2.2.length f4.1.2.1,.slice f4.2.1 f4.2.2.2.length f4.2.2.1,.slice f5.1 f5.2.2.length f5.2.1,.slice f6.1 f6.2.2.length f6.2.1,.slice f7.1 f7.2.2.length f7.2.1,.slice f8.1 f8.2.2.length f8.2.1,.slice f9.1 f9.2.2.length f9.2.1,.slice f10.1 f10.2.2.length f10.2.1] 35).alloc (by simp) _).alloc (by simp; omega) _
 have TR : Blk (w.heap.size + 1) [.slice none 0 0,.slice none 0 0,.slice none 0 0,.slice none 0 0,I 0,I 0,I 0,.slice none 0 0,.slice none 0 0,.slice none 0 0,.slice none 0 0,.slice none 0 0,.slice none 0 0,.slice none 0 0,.slice none 0 0,.slice none 0 0] V0:=by rw [← hV0]; have:=(Blk.new (w.alloc (.cells #[.slice f0.1.1 f0.1.2.2.length f0.1.2.1,.slice f0.2.1.1 f0.2.1.2.2.length f0.2.1.2.1,.slice f0.2.2.1.1 f0.2.2.1.2.2.length f0.2.2.1.2.1,.slice f0.2.2.2.1.1 f0.2.2.2.1.2.2.length f0.2.2.2.1.2.1,I f0.2.2.2.2,I f1,I f2,.slice f3.1 f3.2.2.length f3.2.1,.slice f4.1.1 f4.1.2.2.length f4.1.2.1,.slice f4.2.1 f4.2.2.2.length f4.2.2.1,.slice f5.1 f5.2.2.length f5.2.1,.slice f6.1 f6.2.2.length f6.2.1,.slice f7.1 f7.2.2.length f7.2.1,.slice f8.1 f8.2.2.length f8.2.1,.slice f9.1 f9.2.2.length f9.2.1,.slice f10.1 f10.2.2.length f10.2.1] 35)) #[.slice none 0 0,.slice none 0 0,.slice none 0 0,.slice none 0 0,I 0,I 0,I 0,.slice none 0 0,.slice none 0 0,.slice none 0 0,.slice none 0 0,.slice none 0 0,.slice none 0 0,.slice none 0 0,.slice none 0 0,.slice none 0 0] 48).alloc (by simp) (.cells #[.slice none 0 0,.slice none 0 0,.slice none 0 0,.slice none 0 0,I 0,I 0,I 0,.slice none 0 0,.slice none 0 0,.slice none 0 0,.slice none 0 0,.slice none 0 0,.slice none 0 0,.slice none 0 0,.slice none 0 0,.slice none 0 0] 48); simpa using this
 have TO : Blk (w.heap.size + 1 + 1) [.slice none 0 0,.slice none 0 0,.slice none 0 0,.slice none 0 0,I 0,I 0,I 0,.slice none 0 0,.slice none 0 0,.slice none 0 0,.slice none 0 0,.slice none 0 0,.slice none 0 0,.slice none 0 0,.slice none 0 0,.slice none 0 0] V0:=by rw [← hV0]; have:=Blk.new ((w.alloc (.cells #[.slice f0.1.1 f0.1.2.2.length f0.1.2.1,.slice f0.2.1.1 f0.2.1.2.2.length f0.2.1.2.1,.slice f0.2.2.1.1 f0.2.2.1.2.2.length f0.2.2.1.2.1,.slice f0.2.2.2.1.1 f0.2.2.2.1.2.2.length f0.2.2.2.1.2.1,I f0.2.2.2.2,I f1,I f2,.slice f3.1 f3.2.2.length f3.2.1,.slice f4.1.1 f4.1.2.2.length f4.1.2.1,.slice f4.2.1 f4.2.2.2.length f4.2.2.1,.slice f5.1 f5.2.2.length f5.2.1,.slice f6.1 f6.2.2.length f6.2.1,.slice f7.1 f7.2.2.length f7.2.1,.slice f8.1 f8.2.2.length f8.2.1,.slice f9.1 f9.2.2.length f9.2.1,.slice f10.1 f10.2.2.length f10.2.1] 35)).alloc (.cells #[.slice none 0 0,.slice none 0 0,.slice none 0 0,.slice none 0 0,I 0,I 0,I 0,.slice none 0 0,.slice none 0 0,.slice none 0 0,.slice none 0 0,.slice none 0 0,.slice none 0 0,.slice none 0 0,.slice none 0 0,.slice none 0 0] 48)) #[.slice none 0 0,.slice none 0 0,.slice none 0 0,.slice none 0 0,I 0,I 0,I 0,.slice none 0 0,.slice none 0 0,.slice none 0 0,.slice none 0 0,.slice none 0 0,.slice none 0 0,.slice none 0 0,.slice none 0 0,.slice none 0 0] 48; simpa using this
 have ZS : Hid (w.heap.size + 3 ≤ V0.heap.size):=by show _ ≤ _; rw [← hV0]; simp
 have a0:=TA.at 0 rfl
 have a1:=TA.at 1 rfl
 have a2:=TA.at 2 rfl
 have a3:=TA.at 3 rfl
 have a4:=TA.at 4 rfl
 go_enter Tryz.func7,Tryz.ntmps7
 go_wp2_with fail
 try rw [hV0]
 refine (toF_is f0 V0 (hd0.later BC) (by omega)).mono ?_
 clear hV0 a0 a1 a2 a3 a4
 rintro en v0 ⟨y0,rfl,hs0,ho0,hb⟩
 replace ho0:=ho0.le ZS.out
 replace TA:=TA.later hb (by have:=ZS.out; omega)
 replace TR:=TR.later hb (by have:=ZS.out; omega)
 replace TO:=TO.later hb (by have:=ZS.out; omega)
 replace BC:=BC.trans (hb.mono BC.size)
 replace ZS : Hid (w.heap.size + 3 ≤ v0.heap.size):=Nat.le_trans ZS.out hb.size
 clear hb
 have a5:=TA.at 5 rfl
 have a6:=TA.at 6 rfl
 have o0:=TO.at 0 rfl
 have z0:=TO.fz 0 rfl
 have o1:=TO.at 1 rfl
 have z1:=TO.fz 1 rfl
 have o2:=TO.at 2 rfl
 have z2:=TO.fz 2 rfl
 have o3:=TO.at 3 rfl
 have z3:=TO.fz 3 rfl
 have o4:=TO.at 4 rfl
 have z4:=TO.fz 4 rfl
 have o5:=TO.at 5 rfl
 have z5:=TO.fz 5 rfl
 have o6:=TO.at 6 rfl
 have z6:=TO.fz 6 rfl
 obtain ⟨V1,hV1⟩ : ∃ V,(((((((v0.setCell ⟨(w.heap.size + 1 + 1),0,none⟩ (.slice y0.1.1 y0.1.2.2.length y0.1.2.1)).setCell ⟨(w.heap.size + 1 + 1),1,none⟩ (.slice y0.2.1.1 y0.2.1.2.2.length y0.2.1.2.1)).setCell ⟨(w.heap.size + 1 + 1),2,none⟩ (.slice y0.2.2.1.1 y0.2.2.1.2.2.length y0.2.2.1.2.1)).setCell ⟨(w.heap.size + 1 + 1),3,none⟩ (.slice y0.2.2.2.1.1 y0.2.2.2.1.2.2.length y0.2.2.2.1.2.1)).setCell ⟨(w.heap.size + 1 + 1),4,none⟩ (I y0.2.2.2.2)).setCell ⟨(w.heap.size + 1 + 1),5,none⟩ (I f1)).setCell ⟨(w.heap.size + 1 + 1),6,none⟩ (I f2)) = V:=⟨_,rfl⟩
 have hV1_ : v0.setCells (w.heap.size + 1 + 1) 0 [.slice y0.1.1 y0.1.2.2.length y0.1.2.1,.slice y0.2.1.1 y0.2.1.2.2.length y0.2.1.2.1,.slice y0.2.2.1.1 y0.2.2.1.2.2.length y0.2.2.1.2.1,.slice y0.2.2.2.1.1 y0.2.2.2.1.2.2.length y0.2.2.2.1.2.1,I y0.2.2.2.2,I f1,I f2] = V1:=hV1
 have BC_ : Below w.heap.size w V1:=by rw [← hV1_]; exact below_sets (by omega) _ _ _ BC
 have TA_ : Blk w.heap.size [.slice f0.1.1 f0.1.2.2.length f0.1.2.1,.slice f0.2.1.1 f0.2.1.2.2.length f0.2.1.2.1,.slice f0.2.2.1.1 f0.2.2.1.2.2.length f0.2.2.1.2.1,.slice f0.2.2.2.1.1 f0.2.2.2.1.2.2.length f0.2.2.2.1.2.1,I f0.2.2.2.2,I f1,I f2,.slice f3.1 f3.2.2.length f3.2.1,.slice f4.1.1 f4.1.2.2.length f4.1.2.1,.slice f4.2.1 f4.2.2.2.length f4.2.2.1,.slice f5.1 f5.2.2.length f5.2.1,.slice f6.1 f6.2.2.length f6.2.1,.slice f7.1 f7.2.2.length f7.2.1,.slice f8.1 f8.2.2.length f8.2.1,.slice f9.1 f9.2.2.length f9.2.1,.slice f10.1 f10.2.2.length f10.2.1] V1:=by rw [← hV1_]; exact Blk.farS (by omega) _ _ _ TA
 have TR_ : Blk (w.heap.size + 1) [.slice none 0 0,.slice none 0 0,.slice none 0 0,.slice none 0 0,I 0,I 0,I 0,.slice none 0 0,.slice none 0 0,.slice none 0 0,.slice none 0 0,.slice none 0 0,.slice none 0 0,.slice none 0 0,.slice none 0 0,.slice none 0 0] V1:=by rw [← hV1_]; exact Blk.farS (by omega) _ _ _ TR
 have TO_ : Blk (w.heap.size + 1 + 1) [.slice y0.1.1 y0.1.2.2.length y0.1.2.1,.slice y0.2.1.1 y0.2.1.2.2.length y0.2.1.2.1,.slice y0.2.2.1.1 y0.2.2.1.2.2.length y0.2.2.1.2.1,.slice y0.2.2.2.1.1 y0.2.2.2.1.2.2.length y0.2.2.2.1.2.1,I y0.2.2.2.2,I f1,I f2,.slice none 0 0,.slice none 0 0,.slice none 0 0,.slice none 0 0,.slice none 0 0,.slice none 0 0,.slice none 0 0,.slice none 0 0,.slice none 0 0] V1:=by rw [← hV1_]; exact TO.part 0 [.slice y0.1.1 y0.1.2.2.length y0.1.2.1,.slice y0.2.1.1 y0.2.1.2.2.length y0.2.1.2.1,.slice y0.2.2.1.1 y0.2.2.1.2.2.length y0.2.2.1.2.1,.slice y0.2.2.2.1.1 y0.2.2.2.1.2.2.length y0.2.2.2.1.2.1,I y0.2.2.2.2,I f1,I f2] _ (by simp) rfl
 have ho0_:=ho0.far (sets_grown (w.heap.size + 1 + 1) [.slice y0.1.1 y0.1.2.2.length y0.1.2.1,.slice y0.2.1.1 y0.2.1.2.2.length y0.2.1.2.1,.slice y0.2.2.1.1 y0.2.2.1.2.2.length y0.2.2.1.2.1,.slice y0.2.2.2.1.1 y0.2.2.2.1.2.2.length y0.2.2.2.1.2.1,I y0.2.2.2.2,I f1,I f2] 0 v0) (by omega)
 rw [hV1_] at ho0_
 have ZS_ : Hid (w.heap.size + 3 ≤ V1.heap.size):=Nat.le_trans ZS.out (by rw [← hV1_]; exact (sets_grown (w.heap.size + 1 + 1) _ _ _).size)
 clear TA TR TO BC ZS hV1_ ho0
 have TA:=TA_
 have TR:=TR_
 have TO:=TO_
 have BC:=BC_
 have ZS:=ZS_
 have ho0:=ho0_
 clear TA_ TR_ TO_ BC_ ZS_ ho0_
 have b7:=TA.at 7 rfl
 go_wp2_with fail
 try rw [hV1]
 refine (toSS_u f3 V1 (hd3.later BC) (by omega)).mono ?_
 clear hV1 a5 a6 o0 z0 o1 z1 o2 z2 o3 z3 o4 z4 o5 z5 o6 z6 b7
 rintro en v3 ⟨y3,rfl,hs3,ho3,hb⟩
 replace ho3:=ho3.le ZS.out
 replace TA:=TA.later hb (by have:=ZS.out; omega)
 replace TR:=TR.later hb (by have:=ZS.out; omega)
 replace TO:=TO.later hb (by have:=ZS.out; omega)
 replace BC:=BC.trans (hb.mono BC.size)
 replace ho0:=ho0.later hb
 replace ZS : Hid (w.heap.size + 3 ≤ v3.heap.size):=Nat.le_trans ZS.out hb.size
 clear hb
 have o7:=TO.at 7 rfl
 have z7:=TO.fz 7 rfl
 obtain ⟨V2,hV2⟩ : ∃ V,(v3.setCell ⟨(w.heap.size + 1 + 1),7,none⟩ (.slice y3.1 y3.2.2.length y3.2.1)) = V:=⟨_,rfl⟩
 have hV2_ : v3.setCells (w.heap.size + 1 + 1) 7 [.slice y3.1 y3.2.2.length y3.2.1] = V2:=hV2
 have BC_ : Below w.heap.size w V2:=by rw [← hV2_]; exact below_sets (by omega) _ _ _ BC
 have TA_ : Blk w.heap.size [.slice f0.1.1 f0.1.2.2.length f0.1.2.1,.slice f0.2.1.1 f0.2.1.2.2.length f0.2.1.2.1,.slice f0.2.2.1.1 f0.2.2.1.2.2.length f0.2.2.1.2.1,.slice f0.2.2.2.1.1 f0.2.2.2.1.2.2.length f0.2.2.2.1.2.1,I f0.2.2.2.2,I f1,I f2,.slice f3.1 f3.2.2.length f3.2.1,.slice f4.1.1 f4.1.2.2.length f4.1.2.1,.slice f4.2.1 f4.2.2.2.length f4.2.2.1,.slice f5.1 f5.2.2.length f5.2.1,.slice f6.1 f6.2.2.length f6.2.1,.slice f7.1 f7.2.2.length f7.2.1,.slice f8.1 f8.2.2.length f8.2.1,.slice f9.1 f9.2.2.length f9.2.1,.slice f10.1 f10.2.2.length f10.2.1] V2:=by rw [← hV2_]; exact Blk.farS (by omega) _ _ _ TA
 have TR_ : Blk (w.heap.size + 1) [.slice none 0 0,.slice none 0 0,.slice none 0 0,.slice none 0 0,I 0,I 0,I 0,.slice none 0 0,.slice none 0 0,.slice none 0 0,.slice none 0 0,.slice none 0 0,.slice none 0 0,.slice none 0 0,.slice none 0 0,.slice none 0 0] V2:=by rw [← hV2_]; exact Blk.farS (by omega) _ _ _ TR
 have TO_ : Blk (w.heap.size + 1 + 1) [.slice y0.1.1 y0.1.2.2.length y0.1.2.1,.slice y0.2.1.1 y0.2.1.2.2.length y0.2.1.2.1,.slice y0.2.2.1.1 y0.2.2.1.2.2.length y0.2.2.1.2.1,.slice y0.2.2.2.1.1 y0.2.2.2.1.2.2.length y0.2.2.2.1.2.1,I y0.2.2.2.2,I f1,I f2,.slice y3.1 y3.2.2.length y3.2.1,.slice none 0 0,.slice none 0 0,.slice none 0 0,.slice none 0 0,.slice none 0 0,.slice none 0 0,.slice none 0 0,.slice none 0 0] V2:=by rw [← hV2_]; exact TO.part 7 [.slice y3.1 y3.2.2.length y3.2.1] _ (by simp) rfl
 have ho0_:=ho0.far (sets_grown (w.heap.size + 1 + 1) [.slice y3.1 y3.2.2.length y3.2.1] 7 v3) (by omega)
 rw [hV2_] at ho0_
 have ho3_:=ho3.far (sets_grown (w.heap.size + 1 + 1) [.slice y3.1 y3.2.2.length y3.2.1] 7 v3) (by omega)
 rw [hV2_] at ho3_
 have ZS_ : Hid (w.heap.size + 3 ≤ V2.heap.size):=Nat.le_trans ZS.out (by rw [← hV2_]; exact (sets_grown (w.heap.size + 1 + 1) _ _ _).size)
 clear TA TR TO BC ZS hV2_ ho0 ho3
 have TA:=TA_
 have TR:=TR_
 have TO:=TO_
 have BC:=BC_
 have ZS:=ZS_
 have ho0:=ho0_
 have ho3:=ho3_
 clear TA_ TR_ TO_ BC_ ZS_ ho0_ ho3_
 have b8:=TA.at 8 rfl
 have b9:=TA.at 9 rfl
 go_wp2_with fail
 try rw [hV2]
 refine (toN_is f4 V2 (hd4.later BC) (by omega)).mono ?_
 clear hV2 o7 z7 b8 b9
 rintro en v4 ⟨y4,rfl,hs4,ho4,hb⟩
 replace ho4:=ho4.le ZS.out
 replace TA:=TA.later hb (by have:=ZS.out; omega)
 replace TR:=TR.later hb (by have:=ZS.out; omega)
 replace TO:=TO.later hb (by have:=ZS.out; omega)
 replace BC:=BC.trans (hb.mono BC.size)
 replace ho0:=ho0.later hb
 replace ho3:=ho3.later hb
 replace ZS : Hid (w.heap.size + 3 ≤ v4.heap.size):=Nat.le_trans ZS.out hb.size
 clear hb
 have o8:=TO.at 8 rfl
 have z8:=TO.fz 8 rfl
 have o9:=TO.at 9 rfl
 have z9:=TO.fz 9 rfl
 obtain ⟨V3,hV3⟩ : ∃ V,((v4.setCell ⟨(w.heap.size + 1 + 1),8,none⟩ (.slice y4.1.1 y4.1.2.2.length y4.1.2.1)).setCell ⟨(w.heap.size + 1 + 1),9,none⟩ (.slice y4.2.1 y4.2.2.2.length y4.2.2.1)) = V:=⟨_,rfl⟩
 have hV3_ : v4.setCells (w.heap.size + 1 + 1) 8 [.slice y4.1.1 y4.1.2.2.length y4.1.2.1,.slice y4.2.1 y4.2.2.2.length y4.2.2.1] = V3:=hV3
 have BC_ : Below w.heap.size w V3:=by rw [← hV3_]; exact below_sets (by omega) _ _ _ BC
 have TA_ : Blk w.heap.size [.slice f0.1.1 f0.1.2.2.length f0.1.2.1,.slice f0.2.1.1 f0.2.1.2.2.length f0.2.1.2.1,.slice f0.2.2.1.1 f0.2.2.1.2.2.length f0.2.2.1.2.1,.slice f0.2.2.2.1.1 f0.2.2.2.1.2.2.length f0.2.2.2.1.2.1,I f0.2.2.2.2,I f1,I f2,.slice f3.1 f3.2.2.length f3.2.1,.slice f4.1.1 f4.1.2.2.length f4.1.2.1,.slice f4.2.1 f4.2.2.2.length f4.2.2.1,.slice f5.1 f5.2.2.length f5.2.1,.slice f6.1 f6.2.2.length f6.2.1,.slice f7.1 f7.2.2.length f7.2.1,.slice f8.1 f8.2.2.length f8.2.1,.slice f9.1 f9.2.2.length f9.2.1,.slice f10.1 f10.2.2.length f10.2.1] V3:=by rw [← hV3_]; exact Blk.farS (by omega) _ _ _ TA
 have TR_ : Blk (w.heap.size + 1) [.slice none 0 0,.slice none 0 0,.slice none 0 0,.slice none 0 0,I 0,I 0,I 0,.slice none 0 0,.slice none 0 0,.slice none 0 0,.slice none 0 0,.slice none 0 0,.slice none 0 0,.slice none 0 0,.slice none 0 0,.slice none 0 0] V3:=by rw [← hV3_]; exact Blk.farS (by omega) _ _ _ TR
 have TO_ : Blk (w.heap.size + 1 + 1) [.slice y0.1.1 y0.1.2.2.length y0.1.2.1,.slice y0.2.1.1 y0.2.1.2.2.length y0.2.1.2.1,.slice y0.2.2.1.1 y0.2.2.1.2.2.length y0.2.2.1.2.1,.slice y0.2.2.2.1.1 y0.2.2.2.1.2.2.length y0.2.2.2.1.2.1,I y0.2.2.2.2,I f1,I f2,.slice y3.1 y3.2.2.length y3.2.1,.slice y4.1.1 y4.1.2.2.length y4.1.2.1,.slice y4.2.1 y4.2.2.2.length y4.2.2.1,.slice none 0 0,.slice none 0 0,.slice none 0 0,.slice none 0 0,.slice none 0 0,.slice none 0 0] V3:=by rw [← hV3_]; exact TO.part 8 [.slice y4.1.1 y4.1.2.2.length y4.1.2.1,.slice y4.2.1 y4.2.2.2.length y4.2.2.1] _ (by simp) rfl
 have ho0_:=ho0.far (sets_grown (w.heap.size + 1 + 1) [.slice y4.1.1 y4.1.2.2.length y4.1.2.1,.slice y4.2.1 y4.2.2.2.length y4.2.2.1] 8 v4) (by omega)
 rw [hV3_] at ho0_
 have ho3_:=ho3.far (sets_grown (w.heap.size + 1 + 1) [.slice y4.1.1 y4.1.2.2.length y4.1.2.1,.slice y4.2.1 y4.2.2.2.length y4.2.2.1] 8 v4) (by omega)
 rw [hV3_] at ho3_
 have ho4_:=ho4.far (sets_grown (w.heap.size + 1 + 1) [.slice y4.1.1 y4.1.2.2.length y4.1.2.1,.slice y4.2.1 y4.2.2.2.length y4.2.2.1] 8 v4) (by omega)
 rw [hV3_] at ho4_
 have ZS_ : Hid (w.heap.size + 3 ≤ V3.heap.size):=Nat.le_trans ZS.out (by rw [← hV3_]; exact (sets_grown (w.heap.size + 1 + 1) _ _ _).size)
 clear TA TR TO BC ZS hV3_ ho0 ho3 ho4
 have TA:=TA_
 have TR:=TR_
 have TO:=TO_
 have BC:=BC_
 have ZS:=ZS_
 have ho0:=ho0_
 have ho3:=ho3_
 have ho4:=ho4_
 clear TA_ TR_ TO_ BC_ ZS_ ho0_ ho3_ ho4_
 have b10:=TA.at 10 rfl
 go_wp2_with fail
 try rw [hV3]
 refine (toSW_u f5 V3 (hd5.later BC) (by omega)).mono ?_
 clear hV3 o8 z8 o9 z9 b10
 rintro en v5 ⟨y5,rfl,hs5,ho5,hb⟩
 replace ho5:=ho5.le ZS.out
 replace TA:=TA.later hb (by have:=ZS.out; omega)
 replace TR:=TR.later hb (by have:=ZS.out; omega)
 replace TO:=TO.later hb (by have:=ZS.out; omega)
 replace BC:=BC.trans (hb.mono BC.size)
 replace ho0:=ho0.later hb
 replace ho3:=ho3.later hb
 replace ho4:=ho4.later hb
 replace ZS : Hid (w.heap.size + 3 ≤ v5.heap.size):=Nat.le_trans ZS.out hb.size
 clear hb
 have o10:=TO.at 10 rfl
 have z10:=TO.fz 10 rfl
 obtain ⟨V4,hV4⟩ : ∃ V,(v5.setCell ⟨(w.heap.size + 1 + 1),10,none⟩ (.slice y5.1 y5.2.2.length y5.2.1)) = V:=⟨_,rfl⟩
 have hV4_ : v5.setCells (w.heap.size + 1 + 1) 10 [.slice y5.1 y5.2.2.length y5.2.1] = V4:=hV4
 have BC_ : Below w.heap.size w V4:=by rw [← hV4_]; exact below_sets (by omega) _ _ _ BC
 have TA_ : Blk w.heap.size [.slice f0.1.1 f0.1.2.2.length f0.1.2.1,.slice f0.2.1.1 f0.2.1.2.2.length f0.2.1.2.1,.slice f0.2.2.1.1 f0.2.2.1.2.2.length f0.2.2.1.2.1,.slice f0.2.2.2.1.1 f0.2.2.2.1.2.2.length f0.2.2.2.1.2.1,I f0.2.2.2.2,I f1,I f2,.slice f3.1 f3.2.2.length f3.2.1,.slice f4.1.1 f4.1.2.2.length f4.1.2.1,.slice f4.2.1 f4.2.2.2.length f4.2.2.1,.slice f5.1 f5.2.2.length f5.2.1,.slice f6.1 f6.2.2.length f6.2.1,.slice f7.1 f7.2.2.length f7.2.1,.slice f8.1 f8.2.2.length f8.2.1,.slice f9.1 f9.2.2.length f9.2.1,.slice f10.1 f10.2.2.length f10.2.1] V4:=by rw [← hV4_]; exact Blk.farS (by omega) _ _ _ TA
 have TR_ : Blk (w.heap.size + 1) [.slice none 0 0,.slice none 0 0,.slice none 0 0,.slice none 0 0,I 0,I 0,I 0,.slice none 0 0,.slice none 0 0,.slice none 0 0,.slice none 0 0,.slice none 0 0,.slice none 0 0,.slice none 0 0,.slice none 0 0,.slice none 0 0] V4:=by rw [← hV4_]; exact Blk.farS (by omega) _ _ _ TR
 have TO_ : Blk (w.heap.size + 1 + 1) [.slice y0.1.1 y0.1.2.2.length y0.1.2.1,.slice y0.2.1.1 y0.2.1.2.2.length y0.2.1.2.1,.slice y0.2.2.1.1 y0.2.2.1.2.2.length y0.2.2.1.2.1,.slice y0.2.2.2.1.1 y0.2.2.2.1.2.2.length y0.2.2.2.1.2.1,I y0.2.2.2.2,I f1,I f2,.slice y3.1 y3.2.2.length y3.2.1,.slice y4.1.1 y4.1.2.2.length y4.1.2.1,.slice y4.2.1 y4.2.2.2.length y4.2.2.1,.slice y5.1 y5.2.2.length y5.2.1,.slice none 0 0,.slice none 0 0,.slice none 0 0,.slice none 0 0,.slice none 0 0] V4:=by rw [← hV4_]; exact TO.part 10 [.slice y5.1 y5.2.2.length y5.2.1] _ (by simp) rfl
 have ho0_:=ho0.far (sets_grown (w.heap.size + 1 + 1) [.slice y5.1 y5.2.2.length y5.2.1] 10 v5) (by omega)
 rw [hV4_] at ho0_
 have ho3_:=ho3.far (sets_grown (w.heap.size + 1 + 1) [.slice y5.1 y5.2.2.length y5.2.1] 10 v5) (by omega)
 rw [hV4_] at ho3_
 have ho4_:=ho4.far (sets_grown (w.heap.size + 1 + 1) [.slice y5.1 y5.2.2.length y5.2.1] 10 v5) (by omega)
 rw [hV4_] at ho4_
 have ho5_:=ho5.far (sets_grown (w.heap.size + 1 + 1) [.slice y5.1 y5.2.2.length y5.2.1] 10 v5) (by omega)
 rw [hV4_] at ho5_
 have ZS_ : Hid (w.heap.size + 3 ≤ V4.heap.size):=Nat.le_trans ZS.out (by rw [← hV4_]; exact (sets_grown (w.heap.size + 1 + 1) _ _ _).size)
 clear TA TR TO BC ZS hV4_ ho0 ho3 ho4 ho5
 have TA:=TA_
 have TR:=TR_
 have TO:=TO_
 have BC:=BC_
 have ZS:=ZS_
 have ho0:=ho0_
 have ho3:=ho3_
 have ho4:=ho4_
 have ho5:=ho5_
 clear TA_ TR_ TO_ BC_ ZS_ ho0_ ho3_ ho4_ ho5_
 have b11:=TA.at 11 rfl
 go_wp2_with fail
 try rw [hV4]
 refine (toSC_u f6 V4 (hd6.later BC) (by omega)).mono ?_
 clear hV4 o10 z10 b11
 rintro en v6 ⟨y6,rfl,hs6,ho6,hb⟩
 replace ho6:=ho6.le ZS.out
 replace TA:=TA.later hb (by have:=ZS.out; omega)
 replace TR:=TR.later hb (by have:=ZS.out; omega)
 replace TO:=TO.later hb (by have:=ZS.out; omega)
 replace BC:=BC.trans (hb.mono BC.size)
 replace ho0:=ho0.later hb
 replace ho3:=ho3.later hb
 replace ho4:=ho4.later hb
 replace ho5:=ho5.later hb
 replace ZS : Hid (w.heap.size + 3 ≤ v6.heap.size):=Nat.le_trans ZS.out hb.size
 clear hb
 have o11:=TO.at 11 rfl
 have z11:=TO.fz 11 rfl
 obtain ⟨V5,hV5⟩ : ∃ V,(v6.setCell ⟨(w.heap.size + 1 + 1),11,none⟩ (.slice y6.1 y6.2.2.length y6.2.1)) = V:=⟨_,rfl⟩
 have hV5_ : v6.setCells (w.heap.size + 1 + 1) 11 [.slice y6.1 y6.2.2.length y6.2.1] = V5:=hV5
 have BC_ : Below w.heap.size w V5:=by rw [← hV5_]; exact below_sets (by omega) _ _ _ BC
 have TA_ : Blk w.heap.size [.slice f0.1.1 f0.1.2.2.length f0.1.2.1,.slice f0.2.1.1 f0.2.1.2.2.length f0.2.1.2.1,.slice f0.2.2.1.1 f0.2.2.1.2.2.length f0.2.2.1.2.1,.slice f0.2.2.2.1.1 f0.2.2.2.1.2.2.length f0.2.2.2.1.2.1,I f0.2.2.2.2,I f1,I f2,.slice f3.1 f3.2.2.length f3.2.1,.slice f4.1.1 f4.1.2.2.length f4.1.2.1,.slice f4.2.1 f4.2.2.2.length f4.2.2.1,.slice f5.1 f5.2.2.length f5.2.1,.slice f6.1 f6.2.2.length f6.2.1,.slice f7.1 f7.2.2.length f7.2.1,.slice f8.1 f8.2.2.length f8.2.1,.slice f9.1 f9.2.2.length f9.2.1,.slice f10.1 f10.2.2.length f10.2.1] V5:=by rw [← hV5_]; exact Blk.farS (by omega) _ _ _ TA
 have TR_ : Blk (w.heap.size + 1) [.slice none 0 0,.slice none 0 0,.slice none 0 0,.slice none 0 0,I 0,I 0,I 0,.slice none 0 0,.slice none 0 0,.slice none 0 0,.slice none 0 0,.slice none 0 0,.slice none 0 0,.slice none 0 0,.slice none 0 0,.slice none 0 0] V5:=by rw [← hV5_]; exact Blk.farS (by omega) _ _ _ TR
 have TO_ : Blk (w.heap.size + 1 + 1) [.slice y0.1.1 y0.1.2.2.length y0.1.2.1,.slice y0.2.1.1 y0.2.1.2.2.length y0.2.1.2.1,.slice y0.2.2.1.1 y0.2.2.1.2.2.length y0.2.2.1.2.1,.slice y0.2.2.2.1.1 y0.2.2.2.1.2.2.length y0.2.2.2.1.2.1,I y0.2.2.2.2,I f1,I f2,.slice y3.1 y3.2.2.length y3.2.1,.slice y4.1.1 y4.1.2.2.length y4.1.2.1,.slice y4.2.1 y4.2.2.2.length y4.2.2.1,.slice y5.1 y5.2.2.length y5.2.1,.slice y6.1 y6.2.2.length y6.2.1,.slice none 0 0,.slice none 0 0,.slice none 0 0,.slice none 0 0] V5:=by rw [← hV5_]; exact TO.part 11 [.slice y6.1 y6.2.2.length y6.2.1] _ (by simp) rfl
 have ho0_:=ho0.far (sets_grown (w.heap.size + 1 + 1) [.slice y6.1 y6.2.2.length y6.2.1] 11 v6) (by omega)
 rw [hV5_] at ho0_
 have ho3_:=ho3.far (sets_grown (w.heap.size + 1 + 1) [.slice y6.1 y6.2.2.length y6.2.1] 11 v6) (by omega)
 rw [hV5_] at ho3_
 have ho4_:=ho4.far (sets_grown (w.heap.size + 1 + 1) [.slice y6.1 y6.2.2.length y6.2.1] 11 v6) (by omega)
 rw [hV5_] at ho4_
 have ho5_:=ho5.far (sets_grown (w.heap.size + 1 + 1) [.slice y6.1 y6.2.2.length y6.2.1] 11 v6) (by omega)
 rw [hV5_] at ho5_
 have ho6_:=ho6.far (sets_grown (w.heap.size + 1 + 1) [.slice y6.1 y6.2.2.length y6.2.1] 11 v6) (by omega)
 rw [hV5_] at ho6_
 have ZS_ : Hid (w.heap.size + 3 ≤ V5.heap.size):=Nat.le_trans ZS.out (by rw [← hV5_]; exact (sets_grown (w.heap.size + 1 + 1) _ _ _).size)
 clear TA TR TO BC ZS hV5_ ho0 ho3 ho4 ho5 ho6
 have TA:=TA_
 have TR:=TR_
 have TO:=TO_
 have BC:=BC_
 have ZS:=ZS_
 have ho0:=ho0_
 have ho3:=ho3_
 have ho4:=ho4_
 have ho5:=ho5_
 have ho6:=ho6_
 clear TA_ TR_ TO_ BC_ ZS_ ho0_ ho3_ ho4_ ho5_ ho6_
 have b12:=TA.at 12 rfl
 go_wp2_with fail
 try rw [hV5]
 refine (toSK_is f7 V5 (hd7.later BC) (by omega)).mono ?_
 clear hV5 o11 z11 b12
 rintro en v7 ⟨y7,rfl,hs7,ho7,hb⟩
 replace ho7:=ho7.le ZS.out
 replace TA:=TA.later hb (by have:=ZS.out; omega)
 replace TR:=TR.later hb (by have:=ZS.out; omega)
 replace TO:=TO.later hb (by have:=ZS.out; omega)
 replace BC:=BC.trans (hb.mono BC.size)
 replace ho0:=ho0.later hb
 replace ho3:=ho3.later hb
 replace ho4:=ho4.later hb
 replace ho5:=ho5.later hb
 replace ho6:=ho6.later hb
 replace ZS : Hid (w.heap.size + 3 ≤ v7.heap.size):=Nat.le_trans ZS.out hb.size
 clear hb
 have o12:=TO.at 12 rfl
 have z12:=TO.fz 12 rfl
 obtain ⟨V6,hV6⟩ : ∃ V,(v7.setCell ⟨(w.heap.size + 1 + 1),12,none⟩ (.slice y7.1 y7.2.2.length y7.2.1)) = V:=⟨_,rfl⟩
 have hV6_ : v7.setCells (w.heap.size + 1 + 1) 12 [.slice y7.1 y7.2.2.length y7.2.1] = V6:=hV6
 have BC_ : Below w.heap.size w V6:=by rw [← hV6_]; exact below_sets (by omega) _ _ _ BC
 have TA_ : Blk w.heap.size [.slice f0.1.1 f0.1.2.2.length f0.1.2.1,.slice f0.2.1.1 f0.2.1.2.2.length f0.2.1.2.1,.slice f0.2.2.1.1 f0.2.2.1.2.2.length f0.2.2.1.2.1,.slice f0.2.2.2.1.1 f0.2.2.2.1.2.2.length f0.2.2.2.1.2.1,I f0.2.2.2.2,I f1,I f2,.slice f3.1 f3.2.2.length f3.2.1,.slice f4.1.1 f4.1.2.2.length f4.1.2.1,.slice f4.2.1 f4.2.2.2.length f4.2.2.1,.slice f5.1 f5.2.2.length f5.2.1,.slice f6.1 f6.2.2.length f6.2.1,.slice f7.1 f7.2.2.length f7.2.1,.slice f8.1 f8.2.2.length f8.2.1,.slice f9.1 f9.2.2.length f9.2.1,.slice f10.1 f10.2.2.length f10.2.1] V6:=by rw [← hV6_]; exact Blk.farS (by omega) _ _ _ TA
 have TR_ : Blk (w.heap.size + 1) [.slice none 0 0,.slice none 0 0,.slice none 0 0,.slice none 0 0,I 0,I 0,I 0,.slice none 0 0,.slice none 0 0,.slice none 0 0,.slice none 0 0,.slice none 0 0,.slice none 0 0,.slice none 0 0,.slice none 0 0,.slice none 0 0] V6:=by rw [← hV6_]; exact Blk.farS (by omega) _ _ _ TR
 have TO_ : Blk (w.heap.size + 1 + 1) [.slice y0.1.1 y0.1.2.2.length y0.1.2.1,.slice y0.2.1.1 y0.2.1.2.2.length y0.2.1.2.1,.slice y0.2.2.1.1 y0.2.2.1.2.2.length y0.2.2.1.2.1,.slice y0.2.2.2.1.1 y0.2.2.2.1.2.2.length y0.2.2.2.1.2.1,I y0.2.2.2.2,I f1,I f2,.slice y3.1 y3.2.2.length y3.2.1,.slice y4.1.1 y4.1.2.2.length y4.1.2.1,.slice y4.2.1 y4.2.2.2.length y4.2.2.1,.slice y5.1 y5.2.2.length y5.2.1,.slice y6.1 y6.2.2.length y6.2.1,.slice y7.1 y7.2.2.length y7.2.1,.slice none 0 0,.slice none 0 0,.slice none 0 0] V6:=by rw [← hV6_]; exact TO.part 12 [.slice y7.1 y7.2.2.length y7.2.1] _ (by simp) rfl
 have ho0_:=ho0.far (sets_grown (w.heap.size + 1 + 1) [.slice y7.1 y7.2.2.length y7.2.1] 12 v7) (by omega)
 rw [hV6_] at ho0_
 have ho3_:=ho3.far (sets_grown (w.heap.size + 1 + 1) [.slice y7.1 y7.2.2.length y7.2.1] 12 v7) (by omega)
 rw [hV6_] at ho3_
 have ho4_:=ho4.far (sets_grown (w.heap.size + 1 + 1) [.slice y7.1 y7.2.2.length y7.2.1] 12 v7) (by omega)
 rw [hV6_] at ho4_
 have ho5_:=ho5.far (sets_grown (w.heap.size + 1 + 1) [.slice y7.1 y7.2.2.length y7.2.1] 12 v7) (by omega)
 rw [hV6_] at ho5_
 have ho6_:=ho6.far (sets_grown (w.heap.size + 1 + 1) [.slice y7.1 y7.2.2.length y7.2.1] 12 v7) (by omega)
 rw [hV6_] at ho6_
 have ho7_:=ho7.far (sets_grown (w.heap.size + 1 + 1) [.slice y7.1 y7.2.2.length y7.2.1] 12 v7) (by omega)
 rw [hV6_] at ho7_
 have ZS_ : Hid (w.heap.size + 3 ≤ V6.heap.size):=Nat.le_trans ZS.out (by rw [← hV6_]; exact (sets_grown (w.heap.size + 1 + 1) _ _ _).size)
 clear TA TR TO BC ZS hV6_ ho0 ho3 ho4 ho5 ho6 ho7
 have TA:=TA_
 have TR:=TR_
 have TO:=TO_
 have BC:=BC_
 have ZS:=ZS_
 have ho0:=ho0_
 have ho3:=ho3_
 have ho4:=ho4_
 have ho5:=ho5_
 have ho6:=ho6_
 have ho7:=ho7_
 clear TA_ TR_ TO_ BC_ ZS_ ho0_ ho3_ ho4_ ho5_ ho6_ ho7_
 have b13:=TA.at 13 rfl
 go_wp2_with fail
 try rw [hV6]
 refine (toSE_u f8 V6 (hd8.later BC) (by omega)).mono ?_
 clear hV6 o12 z12 b13
 rintro en v8 ⟨y8,rfl,hs8,ho8,hb⟩
 replace ho8:=ho8.le ZS.out
 replace TA:=TA.later hb (by have:=ZS.out; omega)
 replace TR:=TR.later hb (by have:=ZS.out; omega)
 replace TO:=TO.later hb (by have:=ZS.out; omega)
 replace BC:=BC.trans (hb.mono BC.size)
 replace ho0:=ho0.later hb
 replace ho3:=ho3.later hb
 replace ho4:=ho4.later hb
 replace ho5:=ho5.later hb
 replace ho6:=ho6.later hb
 replace ho7:=ho7.later hb
 replace ZS : Hid (w.heap.size + 3 ≤ v8.heap.size):=Nat.le_trans ZS.out hb.size
 clear hb
 have o13:=TO.at 13 rfl
 have z13:=TO.fz 13 rfl
 obtain ⟨V7,hV7⟩ : ∃ V,(v8.setCell ⟨(w.heap.size + 1 + 1),13,none⟩ (.slice y8.1 y8.2.2.length y8.2.1)) = V:=⟨_,rfl⟩
 have hV7_ : v8.setCells (w.heap.size + 1 + 1) 13 [.slice y8.1 y8.2.2.length y8.2.1] = V7:=hV7
 have BC_ : Below w.heap.size w V7:=by rw [← hV7_]; exact below_sets (by omega) _ _ _ BC
 have TA_ : Blk w.heap.size [.slice f0.1.1 f0.1.2.2.length f0.1.2.1,.slice f0.2.1.1 f0.2.1.2.2.length f0.2.1.2.1,.slice f0.2.2.1.1 f0.2.2.1.2.2.length f0.2.2.1.2.1,.slice f0.2.2.2.1.1 f0.2.2.2.1.2.2.length f0.2.2.2.1.2.1,I f0.2.2.2.2,I f1,I f2,.slice f3.1 f3.2.2.length f3.2.1,.slice f4.1.1 f4.1.2.2.length f4.1.2.1,.slice f4.2.1 f4.2.2.2.length f4.2.2.1,.slice f5.1 f5.2.2.length f5.2.1,.slice f6.1 f6.2.2.length f6.2.1,.slice f7.1 f7.2.2.length f7.2.1,.slice f8.1 f8.2.2.length f8.2.1,.slice f9.1 f9.2.2.length f9.2.1,.slice f10.1 f10.2.2.length f10.2.1] V7:=by rw [← hV7_]; exact Blk.farS (by omega) _ _ _ TA
 have TR_ : Blk (w.heap.size + 1) [.slice none 0 0,.slice none 0 0,.slice none 0 0,.slice none 0 0,I 0,I 0,I 0,.slice none 0 0,.slice none 0 0,.slice none 0 0,.slice none 0 0,.slice none 0 0,.slice none 0 0,.slice none 0 0,.slice none 0 0,.slice none 0 0] V7:=by rw [← hV7_]; exact Blk.farS (by omega) _ _ _ TR
 have TO_ : Blk (w.heap.size + 1 + 1) [.slice y0.1.1 y0.1.2.2.length y0.1.2.1,.slice y0.2.1.1 y0.2.1.2.2.length y0.2.1.2.1,.slice y0.2.2.1.1 y0.2.2.1.2.2.length y0.2.2.1.2.1,.slice y0.2.2.2.1.1 y0.2.2.2.1.2.2.length y0.2.2.2.1.2.1,I y0.2.2.2.2,I f1,I f2,.slice y3.1 y3.2.2.length y3.2.1,.slice y4.1.1 y4.1.2.2.length y4.1.2.1,.slice y4.2.1 y4.2.2.2.length y4.2.2.1,.slice y5.1 y5.2.2.length y5.2.1,.slice y6.1 y6.2.2.length y6.2.1,.slice y7.1 y7.2.2.length y7.2.1,.slice y8.1 y8.2.2.length y8.2.1,.slice none 0 0,.slice none 0 0] V7:=by rw [← hV7_]; exact TO.part 13 [.slice y8.1 y8.2.2.length y8.2.1] _ (by simp) rfl
 have ho0_:=ho0.far (sets_grown (w.heap.size + 1 + 1) [.slice y8.1 y8.2.2.length y8.2.1] 13 v8) (by omega)
 rw [hV7_] at ho0_
 have ho3_:=ho3.far (sets_grown (w.heap.size + 1 + 1) [.slice y8.1 y8.2.2.length y8.2.1] 13 v8) (by omega)
 rw [hV7_] at ho3_
 have ho4_:=ho4.far (sets_grown (w.heap.size + 1 + 1) [.slice y8.1 y8.2.2.length y8.2.1] 13 v8) (by omega)
 rw [hV7_] at ho4_
 have ho5_:=ho5.far (sets_grown (w.heap.size + 1 + 1) [.slice y8.1 y8.2.2.length y8.2.1] 13 v8) (by omega)
 rw [hV7_] at ho5_
 have ho6_:=ho6.far (sets_grown (w.heap.size + 1 + 1) [.slice y8.1 y8.2.2.length y8.2.1] 13 v8) (by omega)
 rw [hV7_] at ho6_
 have ho7_:=ho7.far (sets_grown (w.heap.size + 1 + 1) [.slice y8.1 y8.2.2.length y8.2.1] 13 v8) (by omega)
 rw [hV7_] at ho7_
 have ho8_:=ho8.far (sets_grown (w.heap.size + 1 + 1) [.slice y8.1 y8.2.2.length y8.2.1] 13 v8) (by omega)
 rw [hV7_] at ho8_
 have ZS_ : Hid (w.heap.size + 3 ≤ V7.heap.size):=Nat.le_trans ZS.out (by rw [← hV7_]; exact (sets_grown (w.heap.size + 1 + 1) _ _ _).size)
 clear TA TR TO BC ZS hV7_ ho0 ho3 ho4 ho5 ho6 ho7 ho8
 have TA:=TA_
 have TR:=TR_
 have TO:=TO_
 have BC:=BC_
 have ZS:=ZS_
 have ho0:=ho0_
 have ho3:=ho3_
 have ho4:=ho4_
 have ho5:=ho5_
 have ho6:=ho6_
 have ho7:=ho7_
 have ho8:=ho8_
 clear TA_ TR_ TO_ BC_ ZS_ ho0_ ho3_ ho4_ ho5_ ho6_ ho7_ ho8_
 have b14:=TA.at 14 rfl
 go_wp2_with fail
 try rw [hV7]
 refine (toSQ_is f9 V7 (hd9.later BC) (by omega)).mono ?_
 clear hV7 o13 z13 b14
 rintro en v9 ⟨y9,rfl,hs9,ho9,hb⟩
 replace ho9:=ho9.le ZS.out
 replace TA:=TA.later hb (by have:=ZS.out; omega)
 replace TR:=TR.later hb (by have:=ZS.out; omega)
 replace TO:=TO.later hb (by have:=ZS.out; omega)
 replace BC:=BC.trans (hb.mono BC.size)
 replace ho0:=ho0.later hb
 replace ho3:=ho3.later hb
 replace ho4:=ho4.later hb
 replace ho5:=ho5.later hb
 replace ho6:=ho6.later hb
 replace ho7:=ho7.later hb
 replace ho8:=ho8.later hb
 replace ZS : Hid (w.heap.size + 3 ≤ v9.heap.size):=Nat.le_trans ZS.out hb.size
 clear hb
 have o14:=TO.at 14 rfl
 have z14:=TO.fz 14 rfl
 obtain ⟨V8,hV8⟩ : ∃ V,(v9.setCell ⟨(w.heap.size + 1 + 1),14,none⟩ (.slice y9.1 y9.2.2.length y9.2.1)) = V:=⟨_,rfl⟩
 have hV8_ : v9.setCells (w.heap.size + 1 + 1) 14 [.slice y9.1 y9.2.2.length y9.2.1] = V8:=hV8
 have BC_ : Below w.heap.size w V8:=by rw [← hV8_]; exact below_sets (by omega) _ _ _ BC
 have TA_ : Blk w.heap.size [.slice f0.1.1 f0.1.2.2.length f0.1.2.1,.slice f0.2.1.1 f0.2.1.2.2.length f0.2.1.2.1,.slice f0.2.2.1.1 f0.2.2.1.2.2.length f0.2.2.1.2.1,.slice f0.2.2.2.1.1 f0.2.2.2.1.2.2.length f0.2.2.2.1.2.1,I f0.2.2.2.2,I f1,I f2,.slice f3.1 f3.2.2.length f3.2.1,.slice f4.1.1 f4.1.2.2.length f4.1.2.1,.slice f4.2.1 f4.2.2.2.length f4.2.2.1,.slice f5.1 f5.2.2.length f5.2.1,.slice f6.1 f6.2.2.length f6.2.1,.slice f7.1 f7.2.2.length f7.2.1,.slice f8.1 f8.2.2.length f8.2.1,.slice f9.1 f9.2.2.length f9.2.1,.slice f10.1 f10.2.2.length f10.2.1] V8:=by rw [← hV8_]; exact Blk.farS (by omega) _ _ _ TA
 have TR_ : Blk (w.heap.size + 1) [.slice none 0 0,.slice none 0 0,.slice none 0 0,.slice none 0 0,I 0,I 0,I 0,.slice none 0 0,.slice none 0 0,.slice none 0 0,.slice none 0 0,.slice none 0 0,.slice none 0 0,.slice none 0 0,.slice none 0 0,.slice none 0 0] V8:=by rw [← hV8_]; exact Blk.farS (by omega) _ _ _ TR
 have TO_ : Blk (w.heap.size + 1 + 1) [.slice y0.1.1 y0.1.2.2.length y0.1.2.1,.slice y0.2.1.1 y0.2.1.2.2.length y0.2.1.2.1,.slice y0.2.2.1.1 y0.2.2.1.2.2.length y0.2.2.1.2.1,.slice y0.2.2.2.1.1 y0.2.2.2.1.2.2.length y0.2.2.2.1.2.1,I y0.2.2.2.2,I f1,I f2,.slice y3.1 y3.2.2.length y3.2.1,.slice y4.1.1 y4.1.2.2.length y4.1.2.1,.slice y4.2.1 y4.2.2.2.length y4.2.2.1,.slice y5.1 y5.2.2.length y5.2.1,.slice y6.1 y6.2.2.length y6.2.1,.slice y7.1 y7.2.2.length y7.2.1,.slice y8.1 y8.2.2.length y8.2.1,.slice y9.1 y9.2.2.length y9.2.1,.slice none 0 0] V8:=by rw [← hV8_]; exact TO.part 14 [.slice y9.1 y9.2.2.length y9.2.1] _ (by simp) rfl
 have ho0_:=ho0.far (sets_grown (w.heap.size + 1 + 1) [.slice y9.1 y9.2.2.length y9.2.1] 14 v9) (by omega)
 rw [hV8_] at ho0_
 have ho3_:=ho3.far (sets_grown (w.heap.size + 1 + 1) [.slice y9.1 y9.2.2.length y9.2.1] 14 v9) (by omega)
 rw [hV8_] at ho3_
 have ho4_:=ho4.far (sets_grown (w.heap.size + 1 + 1) [.slice y9.1 y9.2.2.length y9.2.1] 14 v9) (by omega)
 rw [hV8_] at ho4_
 have ho5_:=ho5.far (sets_grown (w.heap.size + 1 + 1) [.slice y9.1 y9.2.2.length y9.2.1] 14 v9) (by omega)
 rw [hV8_] at ho5_
 have ho6_:=ho6.far (sets_grown (w.heap.size + 1 + 1) [.slice y9.1 y9.2.2.length y9.2.1] 14 v9) (by omega)
 rw [hV8_] at ho6_
 have ho7_:=ho7.far (sets_grown (w.heap.size + 1 + 1) [.slice y9.1 y9.2.2.length y9.2.1] 14 v9) (by omega)
 rw [hV8_] at ho7_
 have ho8_:=ho8.far (sets_grown (w.heap.size + 1 + 1) [.slice y9.1 y9.2.2.length y9.2.1] 14 v9) (by omega)
 rw [hV8_] at ho8_
 have ho9_:=ho9.far (sets_grown (w.heap.size + 1 + 1) [.slice y9.1 y9.2.2.length y9.2.1] 14 v9) (by omega)
 rw [hV8_] at ho9_
 have ZS_ : Hid (w.heap.size + 3 ≤ V8.heap.size):=Nat.le_trans ZS.out (by rw [← hV8_]; exact (sets_grown (w.heap.size + 1 + 1) _ _ _).size)
 clear TA TR TO BC ZS hV8_ ho0 ho3 ho4 ho5 ho6 ho7 ho8 ho9
 have TA:=TA_
 have TR:=TR_
 have TO:=TO_
 have BC:=BC_
 have ZS:=ZS_
 have ho0:=ho0_
 have ho3:=ho3_
 have ho4:=ho4_
 have ho5:=ho5_
 have ho6:=ho6_
 have ho7:=ho7_
 have ho8:=ho8_
 have ho9:=ho9_
 clear TA_ TR_ TO_ BC_ ZS_ ho0_ ho3_ ho4_ ho5_ ho6_ ho7_ ho8_ ho9_
 have b15:=TA.at 15 rfl
 go_wp2_with fail
 try rw [hV8]
 refine (toSI_u f10 V8 (hd10.later BC) (by omega)).mono ?_
 clear hV8 o14 z14 b15
 rintro en v10 ⟨y10,rfl,hs10,ho10,hb⟩
 replace ho10:=ho10.le ZS.out
 replace TA:=TA.later hb (by have:=ZS.out; omega)
 replace TR:=TR.later hb (by have:=ZS.out; omega)
 replace TO:=TO.later hb (by have:=ZS.out; omega)
 replace BC:=BC.trans (hb.mono BC.size)
 replace ho0:=ho0.later hb
 replace ho3:=ho3.later hb
 replace ho4:=ho4.later hb
 replace ho5:=ho5.later hb
 replace ho6:=ho6.later hb
 replace ho7:=ho7.later hb
 replace ho8:=ho8.later hb
 replace ho9:=ho9.later hb
 replace ZS : Hid (w.heap.size + 3 ≤ v10.heap.size):=Nat.le_trans ZS.out hb.size
 clear hb
 have o15:=TO.at 15 rfl
 have z15:=TO.fz 15 rfl
 obtain ⟨V9,hV9⟩ : ∃ V,(v10.setCell ⟨(w.heap.size + 1 + 1),15,none⟩ (.slice y10.1 y10.2.2.length y10.2.1)) = V:=⟨_,rfl⟩
 have hV9_ : v10.setCells (w.heap.size + 1 + 1) 15 [.slice y10.1 y10.2.2.length y10.2.1] = V9:=hV9
 have BC_ : Below w.heap.size w V9:=by rw [← hV9_]; exact below_sets (by omega) _ _ _ BC
 have TA_ : Blk w.heap.size [.slice f0.1.1 f0.1.2.2.length f0.1.2.1,.slice f0.2.1.1 f0.2.1.2.2.length f0.2.1.2.1,.slice f0.2.2.1.1 f0.2.2.1.2.2.length f0.2.2.1.2.1,.slice f0.2.2.2.1.1 f0.2.2.2.1.2.2.length f0.2.2.2.1.2.1,I f0.2.2.2.2,I f1,I f2,.slice f3.1 f3.2.2.length f3.2.1,.slice f4.1.1 f4.1.2.2.length f4.1.2.1,.slice f4.2.1 f4.2.2.2.length f4.2.2.1,.slice f5.1 f5.2.2.length f5.2.1,.slice f6.1 f6.2.2.length f6.2.1,.slice f7.1 f7.2.2.length f7.2.1,.slice f8.1 f8.2.2.length f8.2.1,.slice f9.1 f9.2.2.length f9.2.1,.slice f10.1 f10.2.2.length f10.2.1] V9:=by rw [← hV9_]; exact Blk.farS (by omega) _ _ _ TA
 have TR_ : Blk (w.heap.size + 1) [.slice none 0 0,.slice none 0 0,.slice none 0 0,.slice none 0 0,I 0,I 0,I 0,.slice none 0 0,.slice none 0 0,.slice none 0 0,.slice none 0 0,.slice none 0 0,.slice none 0 0,.slice none 0 0,.slice none 0 0,.slice none 0 0] V9:=by rw [← hV9_]; exact Blk.farS (by omega) _ _ _ TR
 have TO_ : Blk (w.heap.size + 1 + 1) [.slice y0.1.1 y0.1.2.2.length y0.1.2.1,.slice y0.2.1.1 y0.2.1.2.2.length y0.2.1.2.1,.slice y0.2.2.1.1 y0.2.2.1.2.2.length y0.2.2.1.2.1,.slice y0.2.2.2.1.1 y0.2.2.2.1.2.2.length y0.2.2.2.1.2.1,I y0.2.2.2.2,I f1,I f2,.slice y3.1 y3.2.2.length y3.2.1,.slice y4.1.1 y4.1.2.2.length y4.1.2.1,.slice y4.2.1 y4.2.2.2.length y4.2.2.1,.slice y5.1 y5.2.2.length y5.2.1,.slice y6.1 y6.2.2.length y6.2.1,.slice y7.1 y7.2.2.length y7.2.1,.slice y8.1 y8.2.2.length y8.2.1,.slice y9.1 y9.2.2.length y9.2.1,.slice y10.1 y10.2.2.length y10.2.1] V9:=by rw [← hV9_]; exact TO.part 15 [.slice y10.1 y10.2.2.length y10.2.1] _ (by simp) rfl
 have ho0_:=ho0.far (sets_grown (w.heap.size + 1 + 1) [.slice y10.1 y10.2.2.length y10.2.1] 15 v10) (by omega)
 rw [hV9_] at ho0_
 have ho3_:=ho3.far (sets_grown (w.heap.size + 1 + 1) [.slice y10.1 y10.2.2.length y10.2.1] 15 v10) (by omega)
 rw [hV9_] at ho3_
 have ho4_:=ho4.far (sets_grown (w.heap.size + 1 + 1) [.slice y10.1 y10.2.2.length y10.2.1] 15 v10) (by omega)
 rw [hV9_] at ho4_
 have ho5_:=ho5.far (sets_grown (w.heap.size + 1 + 1) [.slice y10.1 y10.2.2.length y10.2.1] 15 v10) (by omega)
 rw [hV9_] at ho5_
 have ho6_:=ho6.far (sets_grown (w.heap.size + 1 + 1) [.slice y10.1 y10.2.2.length y10.2.1] 15 v10) (by omega)
 rw [hV9_] at ho6_
 have ho7_:=ho7.far (sets_grown (w.heap.size + 1 + 1) [.slice y10.1 y10.2.2.length y10.2.1] 15 v10) (by omega)
 rw [hV9_] at ho7_
 have ho8_:=ho8.far (sets_grown (w.heap.size + 1 + 1) [.slice y10.1 y10.2.2.length y10.2.1] 15 v10) (by omega)
 rw [hV9_] at ho8_
 have ho9_:=ho9.far (sets_grown (w.heap.size + 1 + 1) [.slice y10.1 y10.2.2.length y10.2.1] 15 v10) (by omega)
 rw [hV9_] at ho9_
 have ho10_:=ho10.far (sets_grown (w.heap.size + 1 + 1) [.slice y10.1 y10.2.2.length y10.2.1] 15 v10) (by omega)
 rw [hV9_] at ho10_
 have ZS_ : Hid (w.heap.size + 3 ≤ V9.heap.size):=Nat.le_trans ZS.out (by rw [← hV9_]; exact (sets_grown (w.heap.size + 1 + 1) _ _ _).size)
 obtain ⟨VF,hVF⟩ : ∃ V,V9.setCells (w.heap.size + 1) 0 [.slice y0.1.1 y0.1.2.2.length y0.1.2.1,.slice y0.2.1.1 y0.2.1.2.2.length y0.2.1.2.1,.slice y0.2.2.1.1 y0.2.2.1.2.2.length y0.2.2.1.2.1,.slice y0.2.2.2.1.1 y0.2.2.2.1.2.2.length y0.2.2.2.1.2.1,I y0.2.2.2.2,I f1,I f2,.slice y3.1 y3.2.2.length y3.2.1,.slice y4.1.1 y4.1.2.2.length y4.1.2.1,.slice y4.2.1 y4.2.2.2.length y4.2.2.1,.slice y5.1 y5.2.2.length y5.2.1,.slice y6.1 y6.2.2.length y6.2.1,.slice y7.1 y7.2.2.length y7.2.1,.slice y8.1 y8.2.2.length y8.2.1,.slice y9.1 y9.2.2.length y9.2.1,.slice y10.1 y10.2.2.length y10.2.1] = V:=⟨_,rfl⟩
 have TF : Blk (w.heap.size + 1) [.slice y0.1.1 y0.1.2.2.length y0.1.2.1,.slice y0.2.1.1 y0.2.1.2.2.length y0.2.1.2.1,.slice y0.2.2.1.1 y0.2.2.1.2.2.length y0.2.2.1.2.1,.slice y0.2.2.2.1.1 y0.2.2.2.1.2.2.length y0.2.2.2.1.2.1,I y0.2.2.2.2,I f1,I f2,.slice y3.1 y3.2.2.length y3.2.1,.slice y4.1.1 y4.1.2.2.length y4.1.2.1,.slice y4.2.1 y4.2.2.2.length y4.2.2.1,.slice y5.1 y5.2.2.length y5.2.1,.slice y6.1 y6.2.2.length y6.2.1,.slice y7.1 y7.2.2.length y7.2.1,.slice y8.1 y8.2.2.length y8.2.1,.slice y9.1 y9.2.2.length y9.2.1,.slice y10.1 y10.2.2.length y10.2.1] VF:=by rw [← hVF]; exact TR_.sets _ rfl
 have BF : Below w.heap.size w VF:=by rw [← hVF]; exact below_sets (by omega) _ _ _ BC_
 have hw0:=(ho0_.far (sets_grown (w.heap.size + 1) [.slice y0.1.1 y0.1.2.2.length y0.1.2.1,.slice y0.2.1.1 y0.2.1.2.2.length y0.2.1.2.1,.slice y0.2.2.1.1 y0.2.2.1.2.2.length y0.2.2.1.2.1,.slice y0.2.2.2.1.1 y0.2.2.2.1.2.2.length y0.2.2.2.1.2.1,I y0.2.2.2.2,I f1,I f2,.slice y3.1 y3.2.2.length y3.2.1,.slice y4.1.1 y4.1.2.2.length y4.1.2.1,.slice y4.2.1 y4.2.2.2.length y4.2.2.1,.slice y5.1 y5.2.2.length y5.2.1,.slice y6.1 y6.2.2.length y6.2.1,.slice y7.1 y7.2.2.length y7.2.1,.slice y8.1 y8.2.2.length y8.2.1,.slice y9.1 y9.2.2.length y9.2.1,.slice y10.1 y10.2.2.length y10.2.1] 0 V9) (by omega)).le (by omega : w.heap.size ≤ w.heap.size + 3)
 rw [hVF] at hw0
 have hw3:=(ho3_.far (sets_grown (w.heap.size + 1) [.slice y0.1.1 y0.1.2.2.length y0.1.2.1,.slice y0.2.1.1 y0.2.1.2.2.length y0.2.1.2.1,.slice y0.2.2.1.1 y0.2.2.1.2.2.length y0.2.2.1.2.1,.slice y0.2.2.2.1.1 y0.2.2.2.1.2.2.length y0.2.2.2.1.2.1,I y0.2.2.2.2,I f1,I f2,.slice y3.1 y3.2.2.length y3.2.1,.slice y4.1.1 y4.1.2.2.length y4.1.2.1,.slice y4.2.1 y4.2.2.2.length y4.2.2.1,.slice y5.1 y5.2.2.length y5.2.1,.slice y6.1 y6.2.2.length y6.2.1,.slice y7.1 y7.2.2.length y7.2.1,.slice y8.1 y8.2.2.length y8.2.1,.slice y9.1 y9.2.2.length y9.2.1,.slice y10.1 y10.2.2.length y10.2.1] 0 V9) (by omega)).le (by omega : w.heap.size ≤ w.heap.size + 3)
 rw [hVF] at hw3
 have hw4:=(ho4_.far (sets_grown (w.heap.size + 1) [.slice y0.1.1 y0.1.2.2.length y0.1.2.1,.slice y0.2.1.1 y0.2.1.2.2.length y0.2.1.2.1,.slice y0.2.2.1.1 y0.2.2.1.2.2.length y0.2.2.1.2.1,.slice y0.2.2.2.1.1 y0.2.2.2.1.2.2.length y0.2.2.2.1.2.1,I y0.2.2.2.2,I f1,I f2,.slice y3.1 y3.2.2.length y3.2.1,.slice y4.1.1 y4.1.2.2.length y4.1.2.1,.slice y4.2.1 y4.2.2.2.length y4.2.2.1,.slice y5.1 y5.2.2.length y5.2.1,.slice y6.1 y6.2.2.length y6.2.1,.slice y7.1 y7.2.2.length y7.2.1,.slice y8.1 y8.2.2.length y8.2.1,.slice y9.1 y9.2.2.length y9.2.1,.slice y10.1 y10.2.2.length y10.2.1] 0 V9) (by omega)).le (by omega : w.heap.size ≤ w.heap.size + 3)
 rw [hVF] at hw4
 have hw5:=(ho5_.far (sets_grown (w.heap.size + 1) [.slice y0.1.1 y0.1.2.2.length y0.1.2.1,.slice y0.2.1.1 y0.2.1.2.2.length y0.2.1.2.1,.slice y0.2.2.1.1 y0.2.2.1.2.2.length y0.2.2.1.2.1,.slice y0.2.2.2.1.1 y0.2.2.2.1.2.2.length y0.2.2.2.1.2.1,I y0.2.2.2.2,I f1,I f2,.slice y3.1 y3.2.2.length y3.2.1,.slice y4.1.1 y4.1.2.2.length y4.1.2.1,.slice y4.2.1 y4.2.2.2.length y4.2.2.1,.slice y5.1 y5.2.2.length y5.2.1,.slice y6.1 y6.2.2.length y6.2.1,.slice y7.1 y7.2.2.length y7.2.1,.slice y8.1 y8.2.2.length y8.2.1,.slice y9.1 y9.2.2.length y9.2.1,.slice y10.1 y10.2.2.length y10.2.1] 0 V9) (by omega)).le (by omega : w.heap.size ≤ w.heap.size + 3)
 rw [hVF] at hw5
 have hw6:=(ho6_.far (sets_grown (w.heap.size + 1) [.slice y0.1.1 y0.1.2.2.length y0.1.2.1,.slice y0.2.1.1 y0.2.1.2.2.length y0.2.1.2.1,.slice y0.2.2.1.1 y0.2.2.1.2.2.length y0.2.2.1.2.1,.slice y0.2.2.2.1.1 y0.2.2.2.1.2.2.length y0.2.2.2.1.2.1,I y0.2.2.2.2,I f1,I f2,.slice y3.1 y3.2.2.length y3.2.1,.slice y4.1.1 y4.1.2.2.length y4.1.2.1,.slice y4.2.1 y4.2.2.2.length y4.2.2.1,.slice y5.1 y5.2.2.length y5.2.1,.slice y6.1 y6.2.2.length y6.2.1,.slice y7.1 y7.2.2.length y7.2.1,.slice y8.1 y8.2.2.length y8.2.1,.slice y9.1 y9.2.2.length y9.2.1,.slice y10.1 y10.2.2.length y10.2.1] 0 V9) (by omega)).le (by omega : w.heap.size ≤ w.heap.size + 3)
 rw [hVF] at hw6
 have hw7:=(ho7_.far (sets_grown (w.heap.size + 1) [.slice y0.1.1 y0.1.2.2.length y0.1.2.1,.slice y0.2.1.1 y0.2.1.2.2.length y0.2.1.2.1,.slice y0.2.2.1.1 y0.2.2.1.2.2.length y0.2.2.1.2.1,.slice y0.2.2.2.1.1 y0.2.2.2.1.2.2.length y0.2.2.2.1.2.1,I y0.2.2.2.2,I f1,I f2,.slice y3.1 y3.2.2.length y3.2.1,.slice y4.1.1 y4.1.2.2.length y4.1.2.1,.slice y4.2.1 y4.2.2.2.length y4.2.2.1,.slice y5.1 y5.2.2.length y5.2.1,.slice y6.1 y6.2.2.length y6.2.1,.slice y7.1 y7.2.2.length y7.2.1,.slice y8.1 y8.2.2.length y8.2.1,.slice y9.1 y9.2.2.length y9.2.1,.slice y10.1 y10.2.2.length y10.2.1] 0 V9) (by omega)).le (by omega : w.heap.size ≤ w.heap.size + 3)
 rw [hVF] at hw7
 have hw8:=(ho8_.far (sets_grown (w.heap.size + 1) [.slice y0.1.1 y0.1.2.2.length y0.1.2.1,.slice y0.2.1.1 y0.2.1.2.2.length y0.2.1.2.1,.slice y0.2.2.1.1 y0.2.2.1.2.2.length y0.2.2.1.2.1,.slice y0.2.2.2.1.1 y0.2.2.2.1.2.2.length y0.2.2.2.1.2.1,I y0.2.2.2.2,I f1,I f2,.slice y3.1 y3.2.2.length y3.2.1,.slice y4.1.1 y4.1.2.2.length y4.1.2.1,.slice y4.2.1 y4.2.2.2.length y4.2.2.1,.slice y5.1 y5.2.2.length y5.2.1,.slice y6.1 y6.2.2.length y6.2.1,.slice y7.1 y7.2.2.length y7.2.1,.slice y8.1 y8.2.2.length y8.2.1,.slice y9.1 y9.2.2.length y9.2.1,.slice y10.1 y10.2.2.length y10.2.1] 0 V9) (by omega)).le (by omega : w.heap.size ≤ w.heap.size + 3)
 rw [hVF] at hw8
 have hw9:=(ho9_.far (sets_grown (w.heap.size + 1) [.slice y0.1.1 y0.1.2.2.length y0.1.2.1,.slice y0.2.1.1 y0.2.1.2.2.length y0.2.1.2.1,.slice y0.2.2.1.1 y0.2.2.1.2.2.length y0.2.2.1.2.1,.slice y0.2.2.2.1.1 y0.2.2.2.1.2.2.length y0.2.2.2.1.2.1,I y0.2.2.2.2,I f1,I f2,.slice y3.1 y3.2.2.length y3.2.1,.slice y4.1.1 y4.1.2.2.length y4.1.2.1,.slice y4.2.1 y4.2.2.2.length y4.2.2.1,.slice y5.1 y5.2.2.length y5.2.1,.slice y6.1 y6.2.2.length y6.2.1,.slice y7.1 y7.2.2.length y7.2.1,.slice y8.1 y8.2.2.length y8.2.1,.slice y9.1 y9.2.2.length y9.2.1,.slice y10.1 y10.2.2.length y10.2.1] 0 V9) (by omega)).le (by omega : w.heap.size ≤ w.heap.size + 3)
 rw [hVF] at hw9
 have hw10:=(ho10_.far (sets_grown (w.heap.size + 1) [.slice y0.1.1 y0.1.2.2.length y0.1.2.1,.slice y0.2.1.1 y0.2.1.2.2.length y0.2.1.2.1,.slice y0.2.2.1.1 y0.2.2.1.2.2.length y0.2.2.1.2.1,.slice y0.2.2.2.1.1 y0.2.2.2.1.2.2.length y0.2.2.2.1.2.1,I y0.2.2.2.2,I f1,I f2,.slice y3.1 y3.2.2.length y3.2.1,.slice y4.1.1 y4.1.2.2.length y4.1.2.1,.slice y4.2.1 y4.2.2.2.length y4.2.2.1,.slice y5.1 y5.2.2.length y5.2.1,.slice y6.1 y6.2.2.length y6.2.1,.slice y7.1 y7.2.2.length y7.2.1,.slice y8.1 y8.2.2.length y8.2.1,.slice y9.1 y9.2.2.length y9.2.1,.slice y10.1 y10.2.2.length y10.2.1] 0 V9) (by omega)).le (by omega : w.heap.size ≤ w.heap.size + 3)
 rw [hVF] at hw10
 clear TA TR TO BC ZS hV9_ TA_ BC_ ZS_ ho0 ho0_ ho3 ho3_ ho4 ho4_ ho5 ho5_ ho6 ho6_ ho7 ho7_ ho8 ho8_ ho9 ho9_ ho10 ho10_
 go_wp2_with (first | (refine wpList_ldB 48 _ (w.heap.size + 1 + 1) 0 _ [.slice y0.1.1 y0.1.2.2.length y0.1.2.1,.slice y0.2.1.1 y0.2.1.2.2.length y0.2.1.2.1,.slice y0.2.2.1.1 y0.2.2.1.2.2.length y0.2.2.1.2.1,.slice y0.2.2.2.1.1 y0.2.2.2.1.2.2.length y0.2.2.2.1.2.1,I y0.2.2.2.2,I f1,I f2,.slice y3.1 y3.2.2.length y3.2.1,.slice y4.1.1 y4.1.2.2.length y4.1.2.1,.slice y4.2.1 y4.2.2.2.length y4.2.2.1,.slice y5.1 y5.2.2.length y5.2.1,.slice y6.1 y6.2.2.length y6.2.1,.slice y7.1 y7.2.2.length y7.2.1,.slice y8.1 y8.2.2.length y8.2.1,.slice y9.1 y9.2.2.length y9.2.1,.slice y10.1 y10.2.2.length y10.2.1] ie hie (Tryz.isAgg48) TO_ his.symm rfl rfl rfl rfl ?_) | (refine wpList_stB 48 _ _ (w.heap.size + 1) 0 _ [.slice y0.1.1 y0.1.2.2.length y0.1.2.1,.slice y0.2.1.1 y0.2.1.2.2.length y0.2.1.2.1,.slice y0.2.2.1.1 y0.2.2.1.2.2.length y0.2.2.1.2.1,.slice y0.2.2.2.1.1 y0.2.2.2.1.2.2.length y0.2.2.2.1.2.1,I y0.2.2.2.2,I f1,I f2,.slice y3.1 y3.2.2.length y3.2.1,.slice y4.1.1 y4.1.2.2.length y4.1.2.1,.slice y4.2.1 y4.2.2.2.length y4.2.2.1,.slice y5.1 y5.2.2.length y5.2.1,.slice y6.1 y6.2.2.length y6.2.1,.slice y7.1 y7.2.2.length y7.2.1,.slice y8.1 y8.2.2.length y8.2.1,.slice y9.1 y9.2.2.length y9.2.1,.slice y10.1 y10.2.2.length y10.2.1] ie hie TR_ his.symm (by simp) rfl rfl rfl rfl rfl ?_; rw [hVF]) | go_in)
 exact bodyPost_ret (res_B1 rfl _ _ (w.heap.size + 1) [.slice y0.1.1 y0.1.2.2.length y0.1.2.1,.slice y0.2.1.1 y0.2.1.2.2.length y0.2.1.2.1,.slice y0.2.2.1.1 y0.2.2.1.2.2.length y0.2.2.1.2.1,.slice y0.2.2.2.1.1 y0.2.2.2.1.2.2.length y0.2.2.2.1.2.1,I y0.2.2.2.2,I f1,I f2,.slice y3.1 y3.2.2.length y3.2.1,.slice y4.1.1 y4.1.2.2.length y4.1.2.1,.slice y4.2.1 y4.2.2.2.length y4.2.2.1,.slice y5.1 y5.2.2.length y5.2.1,.slice y6.1 y6.2.2.length y6.2.1,.slice y7.1 y7.2.2.length y7.2.1,.slice y8.1 y8.2.2.length y8.2.1,.slice y9.1 y9.2.2.length y9.2.1,.slice y10.1 y10.2.2.length y10.2.1] ie hie (Tryz.isAgg48) TF his.symm rfl) rfl ⟨(y0,f1,f2,y3,y4,y5,y6,y7,y8,y9,y10),rfl,by unfold stD; dsimp only; rw [hs0,hs3,hs4,hs5,hs6,hs7,hs8,hs9,hs10],⟨hw0,hw3,hw4,hw5,hw6,hw7,hw8,hw9,hw10⟩,BF⟩
end Go.Proofs.YtlmpfkbgknbcnaaGreat.Nd
