/- Chapter 8: the law on Centre. -/
import Derived.Test.YtcaieniddnhkbaaGreatDoorAb
import Derived.Test.YtcaieniddnhkbaaGreatDoorIm8k
import Derived.Test.YtcaieniddnhkbaaGreatDoorConf2
import Derived.Test.YtcaieniddnhkbaaGreatDoorFaces2
set_option linter.unusedVariables false
set_option maxRecDepth 100000
namespace Go.Proofs.YtcaieniddnhkbaaGreatDoor
open Go Go.RowKit Own Var Term
theorem cenG_same {c d:Cf} (E:Same c d) (realm now fresh:Int) (req:ByteArray):cenG d realm now fresh req=cenG c realm now fresh req:=by
 unfold cenG cenOk askG lgG hoG dgG shP shB shK shF lkOk
 simp only [E.conf,E.k,E.L,E.X,roV_same E,nhV_same E]
set_option maxHeartbeats 6400000 in
theorem eqEvent_is (k0 k1 k2 k3 k4 k5 k6 k7 k8 k9 k10:Int) (w:World):Calls Tryz.prog 51 #[.agg #[I k0,I k1,I k2,I k3,I k4,I k5,I k6,I k7,I k8,I k9,I k10],.agg #[I k0,I k1,I k2,I k3,I k4,I k5,I k6,I k7,I k8,I k9,I k10]] w fun en w'=>en=.returned (.bool true)∧Below w.heap.size w w':=by
 have BC:Below w.heap.size w ((w.alloc (.cells #[I k0,I k1,I k2,I k3,I k4,I k5,I k6,I k7,I k8,I k9,I k10] 33)).alloc (.cells #[I k0,I k1,I k2,I k3,I k4,I k5,I k6,I k7,I k8,I k9,I k10] 33)):=((Below.refl _ _).alloc (by simp <;> omega) _).alloc (by simp <;> omega) _
 have TC:Blk w.heap.size [I k0,I k1,I k2,I k3,I k4,I k5,I k6,I k7,I k8,I k9,I k10] ((w.alloc (.cells #[I k0,I k1,I k2,I k3,I k4,I k5,I k6,I k7,I k8,I k9,I k10] 33)).alloc (.cells #[I k0,I k1,I k2,I k3,I k4,I k5,I k6,I k7,I k8,I k9,I k10] 33)):=by have h_:=((Blk.new w #[I k0,I k1,I k2,I k3,I k4,I k5,I k6,I k7,I k8,I k9,I k10] 33).alloc (by simp <;> omega) (.cells #[I k0,I k1,I k2,I k3,I k4,I k5,I k6,I k7,I k8,I k9,I k10] 33));simpa using h_
 have QC:Blk (w.heap.size+1) [I k0,I k1,I k2,I k3,I k4,I k5,I k6,I k7,I k8,I k9,I k10] ((w.alloc (.cells #[I k0,I k1,I k2,I k3,I k4,I k5,I k6,I k7,I k8,I k9,I k10] 33)).alloc (.cells #[I k0,I k1,I k2,I k3,I k4,I k5,I k6,I k7,I k8,I k9,I k10] 33)):=by have h_:=(Blk.new (w.alloc (.cells #[I k0,I k1,I k2,I k3,I k4,I k5,I k6,I k7,I k8,I k9,I k10] 33)) #[I k0,I k1,I k2,I k3,I k4,I k5,I k6,I k7,I k8,I k9,I k10] 33);simpa using h_
 have q1_:=TC.at 0 rfl
 have q2_:=TC.at 1 rfl
 have q3_:=TC.at 2 rfl
 have q4_:=TC.at 3 rfl
 have q5_:=TC.at 4 rfl
 have q6_:=TC.at 5 rfl
 have q7_:=TC.at 6 rfl
 have q8_:=TC.at 7 rfl
 have q9_:=TC.at 8 rfl
 have q10_:=TC.at 9 rfl
 have q11_:=TC.at 10 rfl
 have q12_:=QC.at 0 rfl
 have q13_:=QC.at 1 rfl
 have q14_:=QC.at 2 rfl
 have q15_:=QC.at 3 rfl
 have q16_:=QC.at 4 rfl
 have q17_:=QC.at 5 rfl
 have q18_:=QC.at 6 rfl
 have q19_:=QC.at 7 rfl
 have q20_:=QC.at 8 rfl
 have q21_:=QC.at 9 rfl
 have q22_:=QC.at 10 rfl
 go_enter Tryz.func51,Tryz.ntmps51
 go_wp2_with fail
 refine (eqRest_is k8 k9 k10 _).mono ?_
 rintro en w2 ⟨rfl,hb⟩
 replace TC:=TC.later hb TC.lt
 replace QC:=QC.later hb QC.lt
 replace BC:=BC.trans (hb.mono BC.size)
 clear hb
 clear q1_ q2_ q3_ q4_ q5_ q6_ q7_ q8_ q9_ q10_ q11_ q12_ q13_ q14_ q15_ q16_ q17_ q18_ q19_ q20_ q21_ q22_
 go_wp2
 go_ret
 exact ⟨rfl,BC⟩
set_option maxHeartbeats 6400000 in
theorem eqReply_is (rc:Int) (rt:ByteArray) (k0 k1 k2 k3 k4 k5 k6 k7 k8 k9 k10:Int) (w:World):Calls Tryz.prog 19 #[.agg #[I rc,.string rt,I k0,I k1,I k2,I k3,I k4,I k5,I k6,I k7,I k8,I k9,I k10],.agg #[I rc,.string rt,I k0,I k1,I k2,I k3,I k4,I k5,I k6,I k7,I k8,I k9,I k10]] w fun en w'=>en=.returned (.bool true)∧Below w.heap.size w w':=by
 have BC:Below w.heap.size w ((w.alloc (.cells #[I rc,.string rt,I k0,I k1,I k2,I k3,I k4,I k5,I k6,I k7,I k8,I k9,I k10] 35)).alloc (.cells #[I rc,.string rt,I k0,I k1,I k2,I k3,I k4,I k5,I k6,I k7,I k8,I k9,I k10] 35)):=((Below.refl _ _).alloc (by simp <;> omega) _).alloc (by simp <;> omega) _
 have TC:Blk w.heap.size [I rc,.string rt,I k0,I k1,I k2,I k3,I k4,I k5,I k6,I k7,I k8,I k9,I k10] ((w.alloc (.cells #[I rc,.string rt,I k0,I k1,I k2,I k3,I k4,I k5,I k6,I k7,I k8,I k9,I k10] 35)).alloc (.cells #[I rc,.string rt,I k0,I k1,I k2,I k3,I k4,I k5,I k6,I k7,I k8,I k9,I k10] 35)):=by have h_:=((Blk.new w #[I rc,.string rt,I k0,I k1,I k2,I k3,I k4,I k5,I k6,I k7,I k8,I k9,I k10] 35).alloc (by simp <;> omega) (.cells #[I rc,.string rt,I k0,I k1,I k2,I k3,I k4,I k5,I k6,I k7,I k8,I k9,I k10] 35));simpa using h_
 have QC:Blk (w.heap.size+1) [I rc,.string rt,I k0,I k1,I k2,I k3,I k4,I k5,I k6,I k7,I k8,I k9,I k10] ((w.alloc (.cells #[I rc,.string rt,I k0,I k1,I k2,I k3,I k4,I k5,I k6,I k7,I k8,I k9,I k10] 35)).alloc (.cells #[I rc,.string rt,I k0,I k1,I k2,I k3,I k4,I k5,I k6,I k7,I k8,I k9,I k10] 35)):=by have h_:=(Blk.new (w.alloc (.cells #[I rc,.string rt,I k0,I k1,I k2,I k3,I k4,I k5,I k6,I k7,I k8,I k9,I k10] 35)) #[I rc,.string rt,I k0,I k1,I k2,I k3,I k4,I k5,I k6,I k7,I k8,I k9,I k10] 35);simpa using h_
 have q1_:=TC.at 0 rfl
 have q2_:=TC.at 1 rfl
 have q3_:=TC.at 2 rfl
 have q4_:=TC.at 3 rfl
 have q5_:=TC.at 4 rfl
 have q6_:=TC.at 5 rfl
 have q7_:=TC.at 6 rfl
 have q8_:=TC.at 7 rfl
 have q9_:=TC.at 8 rfl
 have q10_:=TC.at 9 rfl
 have q11_:=TC.at 10 rfl
 have q12_:=TC.at 11 rfl
 have q13_:=TC.at 12 rfl
 have q14_:=QC.at 0 rfl
 have q15_:=QC.at 1 rfl
 have q16_:=QC.at 2 rfl
 have q17_:=QC.at 3 rfl
 have q18_:=QC.at 4 rfl
 have q19_:=QC.at 5 rfl
 have q20_:=QC.at 6 rfl
 have q21_:=QC.at 7 rfl
 have q22_:=QC.at 8 rfl
 have q23_:=QC.at 9 rfl
 have q24_:=QC.at 10 rfl
 have q25_:=QC.at 11 rfl
 have q26_:=QC.at 12 rfl
 go_enter Tryz.func19,Tryz.ntmps19
 go_wp2_with fail
 refine (eqEvent_is k0 k1 k2 k3 k4 k5 k6 k7 k8 k9 k10 _).mono ?_
 rintro en w2 ⟨rfl,hb⟩
 replace TC:=TC.later hb TC.lt
 replace QC:=QC.later hb QC.lt
 replace BC:=BC.trans (hb.mono BC.size)
 clear hb
 clear q1_ q2_ q3_ q4_ q5_ q6_ q7_ q8_ q9_ q10_ q11_ q12_ q13_ q14_ q15_ q16_ q17_ q18_ q19_ q20_ q21_ q22_ q23_ q24_ q25_ q26_
 go_wp2
 go_ret
 exact ⟨rfl,BC⟩
set_option maxHeartbeats 12800000 in
theorem centre_walk (HS:∀ (c:Cf) (realm now fresh:Int) (req:ByteArray) (w:World),CfAt c w→CfOk c→req.size≤1048576→Calls Tryz.prog 8 #[c.val,I realm,I now,I fresh,.string req] w fun en w'=>en=.returned (toR realm (cenG c realm now fresh req)).val∧Below w.heap.size w w')
  (c:Cf) (realm now fresh:Int) (req:ByteArray) (w:World) (C:CfAt c w) (lu:c.U.length≤maxLen) (ls:c.S.length≤maxLen) (ll:c.L.length≤maxLen) (lx:c.X.length≤maxLen) (hg:w.cell? ⟨0,0,none⟩=some (.iface 178 (.agg #[.pointer (some ⟨2,75,none⟩)]))) :
  Calls Tryz.prog 4 #[c.val,I realm,I now,I fresh,.string req] w fun en w'=>en=.returned (.bool true)∧Below w.heap.size w w':=by
 have S0:=fun w=>szConfig_is c w lu ls ll lx
 have BC:Below w.heap.size w (w.alloc (.cells #[.slice c.ua c.U.length c.uc,.slice c.sa c.S.length c.sc,.slice c.la c.L.length c.lc,.slice c.xa c.X.length c.xc,I c.k] 55)):=(Below.refl _ _).alloc (by simp <;> omega) _
 have TC:Blk w.heap.size [.slice c.ua c.U.length c.uc,.slice c.sa c.S.length c.sc,.slice c.la c.L.length c.lc,.slice c.xa c.X.length c.xc,I c.k] (w.alloc (.cells #[.slice c.ua c.U.length c.uc,.slice c.sa c.S.length c.sc,.slice c.la c.L.length c.lc,.slice c.xa c.X.length c.xc,I c.k] 55)):=by have h_:=(Blk.new w #[.slice c.ua c.U.length c.uc,.slice c.sa c.S.length c.sc,.slice c.la c.L.length c.lc,.slice c.xa c.X.length c.xc,I c.k] 55);simpa using h_
 have q1_:=TC.at 0 rfl
 have q2_:=TC.at 1 rfl
 have q3_:=TC.at 2 rfl
 have q4_:=TC.at 3 rfl
 have q5_:=TC.at 4 rfl
 by_cases hq:1048576 < req.size
 ·go_enter Tryz.func4,Tryz.ntmps4
  go_wp2
  go_ret
  exact ⟨rfl,BC⟩
 by_cases hsz:szT c≤1048576
 ·have hv:szV c=((1048576 - szT c:Nat):Int):=if_pos hsz
  have hlu:c.U.length≤1048576:=by unfold szT at hsz;omega
  have hls:c.S.length≤1048576:=by unfold szT at hsz;omega
  have hll:c.L.length≤1048576:=by unfold szT at hsz;omega
  have hlx:c.X.length≤1048576:=by unfold szT at hsz;omega
  have n0:¬ (((1048576 - szT c:Nat):Int) < 0):=by omega
  generalize ((1048576 - szT c:Nat):Int)=left at hv n0
  rw [hv] at S0
  have HT:=fun w C=>toConfig_is c w C hlu hls hll hlx
  clear hv hsz lu ls ll lx hlu hls hll hlx
  have hlt:0 < w.heap.size:=World.block_lt_of_cell? w _ hg
  have hq2:req.size≤1048576:=by omega
  obtain ⟨⟨rc,rt,k0,k1,k2,k3,k4,k5,k6,k7,k8,k9,k10⟩,hrp⟩:∃ rp:Rp,toR realm (cenG c realm now fresh req)=rp:=⟨_,rfl⟩
  have HP:Hid (toR realm (cenG c realm now fresh req)=⟨rc,rt,k0,k1,k2,k3,k4,k5,k6,k7,k8,k9,k10⟩):=hrp
  clear hrp
  go_enter Tryz.func4,Tryz.ntmps4
  go_wp2_with fail
  refine (S0 _).mono ?_
  rintro en w2 ⟨rfl,hb⟩
  replace TC:=TC.later hb TC.lt
  replace BC:=BC.trans (hb.mono BC.size)
  clear hb
  clear q1_ q2_ q3_ q4_ q5_
  have q6_:=TC.at 0 rfl
  have q7_:=TC.at 1 rfl
  have q8_:=TC.at 2 rfl
  have q9_:=TC.at 3 rfl
  have q10_:=TC.at 4 rfl
  go_wp2_with fail
  refine (HT _ (C.later BC)).mono ?_
  rintro en w3 ⟨e1,rfl,E1,C3,K3,hb⟩
  replace TC:=TC.later hb TC.lt
  replace BC:=BC.trans (hb.mono BC.size)
  clear hb
  clear q6_ q7_ q8_ q9_ q10_
  have HX:=HS e1 realm now fresh req w3 C3 K3 hq2
  rw [cenG_same E1,HP.out] at HX
  go_wp2_with fail
  refine (HX).mono ?_
  rintro en w4 ⟨rfl,hb⟩
  replace TC:=TC.later hb TC.lt
  replace BC:=BC.trans (hb.mono BC.size)
  clear hb
  clear HX C3 K3
  have XA_:Below w4.heap.size w4 (w4.alloc (.cells #[I rc,.string rt,I k0,I k1,I k2,I k3,I k4,I k5,I k6,I k7,I k8,I k9,I k10] 35)):=(Below.refl _ _).alloc (Nat.le_refl _) _
  have RC:Blk w4.heap.size [I rc,.string rt,I k0,I k1,I k2,I k3,I k4,I k5,I k6,I k7,I k8,I k9,I k10] (w4.alloc (.cells #[I rc,.string rt,I k0,I k1,I k2,I k3,I k4,I k5,I k6,I k7,I k8,I k9,I k10] 35)):=Blk.new _ _ _
  replace TC:=TC.later XA_ TC.lt
  replace BC:=BC.trans (XA_.mono BC.size)
  clear XA_
  obtain ⟨W5,hW5⟩:∃ Wz,(w4.alloc (.cells #[I rc,.string rt,I k0,I k1,I k2,I k3,I k4,I k5,I k6,I k7,I k8,I k9,I k10] 35))=Wz:=⟨_,rfl⟩
  rw [hW5] at TC RC BC
  have q11_:=TC.at 0 rfl
  have q12_:=TC.at 1 rfl
  have q13_:=TC.at 2 rfl
  have q14_:=TC.at 3 rfl
  have q15_:=TC.at 4 rfl
  go_wp2_with (first | (rw [hW5]))
  refine (HT _ (C.later BC)).mono ?_
  rintro en w6 ⟨e2,rfl,E2,C6,K6,hb⟩
  replace TC:=TC.later hb TC.lt
  replace RC:=RC.later hb RC.lt
  replace BC:=BC.trans (hb.mono BC.size)
  clear hb
  clear q11_ q12_ q13_ q14_ q15_ hW5
  have X7:Below w6.heap.size w6 (w6.alloc (.cells #[.slice e2.ua e2.U.length e2.uc,.slice e2.sa e2.S.length e2.sc,.slice e2.la e2.L.length e2.lc,.slice e2.xa e2.X.length e2.xc,I e2.k] 27)):=(Below.refl _ _).alloc (Nat.le_refl _) _
  replace C6:=C6.later X7
  clear X7
  have XA_:Below w6.heap.size w6 (w6.alloc (.cells #[.slice e2.ua e2.U.length e2.uc,.slice e2.sa e2.S.length e2.sc,.slice e2.la e2.L.length e2.lc,.slice e2.xa e2.X.length e2.xc,I e2.k] 27)):=(Below.refl _ _).alloc (Nat.le_refl _) _
  have DC:Blk w6.heap.size [.slice e2.ua e2.U.length e2.uc,.slice e2.sa e2.S.length e2.sc,.slice e2.la e2.L.length e2.lc,.slice e2.xa e2.X.length e2.xc,I e2.k] (w6.alloc (.cells #[.slice e2.ua e2.U.length e2.uc,.slice e2.sa e2.S.length e2.sc,.slice e2.la e2.L.length e2.lc,.slice e2.xa e2.X.length e2.xc,I e2.k] 27)):=Blk.new _ _ _
  replace TC:=TC.later XA_ TC.lt
  replace RC:=RC.later XA_ RC.lt
  replace BC:=BC.trans (XA_.mono BC.size)
  clear XA_
  obtain ⟨W7,hW7⟩:∃ Wz,(w6.alloc (.cells #[.slice e2.ua e2.U.length e2.uc,.slice e2.sa e2.S.length e2.sc,.slice e2.la e2.L.length e2.lc,.slice e2.xa e2.X.length e2.xc,I e2.k] 27))=Wz:=⟨_,rfl⟩
  rw [hW7] at TC RC DC BC
  rw [hW7] at C6
  have q16_:=DC.at 0 rfl
  have q17_:=DC.at 1 rfl
  have q18_:=DC.at 2 rfl
  have q19_:=DC.at 3 rfl
  have q20_:=DC.at 4 rfl
  have HX:=implCentre_is e2 realm now fresh req W7 C6 K6 hq2 ((BC.cell (p:=⟨0,0,none⟩) hlt).trans hg)
  rw [cenG_same E2,HP.out] at HX
  go_wp2_with (first | (rw [hW7]))
  refine HX.mono ?_
  rintro en w8 ⟨rfl,hb⟩
  replace TC:=TC.later hb TC.lt
  replace RC:=RC.later hb RC.lt
  replace DC:=DC.later hb DC.lt
  replace C6:=C6.later hb
  replace BC:=BC.trans (hb.mono BC.size)
  clear hb HX
  clear q16_ q17_ q18_ q19_ q20_ hW7
  have X9:Below w8.heap.size w8 (w8.alloc (.cells #[I rc,.string rt,I k0,I k1,I k2,I k3,I k4,I k5,I k6,I k7,I k8,I k9,I k10] 35)):=(Below.refl _ _).alloc (Nat.le_refl _) _
  replace C6:=C6.later X9
  clear X9
  have XA_:Below w8.heap.size w8 (w8.alloc (.cells #[I rc,.string rt,I k0,I k1,I k2,I k3,I k4,I k5,I k6,I k7,I k8,I k9,I k10] 35)):=(Below.refl _ _).alloc (Nat.le_refl _) _
  have SC:Blk w8.heap.size [I rc,.string rt,I k0,I k1,I k2,I k3,I k4,I k5,I k6,I k7,I k8,I k9,I k10] (w8.alloc (.cells #[I rc,.string rt,I k0,I k1,I k2,I k3,I k4,I k5,I k6,I k7,I k8,I k9,I k10] 35)):=Blk.new _ _ _
  replace TC:=TC.later XA_ TC.lt
  replace RC:=RC.later XA_ RC.lt
  replace DC:=DC.later XA_ DC.lt
  replace BC:=BC.trans (XA_.mono BC.size)
  clear XA_
  obtain ⟨W9,hW9⟩:∃ Wz,(w8.alloc (.cells #[I rc,.string rt,I k0,I k1,I k2,I k3,I k4,I k5,I k6,I k7,I k8,I k9,I k10] 35))=Wz:=⟨_,rfl⟩
  rw [hW9] at TC RC DC SC BC
  rw [hW9] at C6
  have q21_:=RC.at 0 rfl
  have q22_:=RC.at 1 rfl
  have q23_:=RC.at 2 rfl
  have q24_:=RC.at 3 rfl
  have q25_:=RC.at 4 rfl
  have q26_:=RC.at 5 rfl
  have q27_:=RC.at 6 rfl
  have q28_:=RC.at 7 rfl
  have q29_:=RC.at 8 rfl
  have q30_:=RC.at 9 rfl
  have q31_:=RC.at 10 rfl
  have q32_:=RC.at 11 rfl
  have q33_:=RC.at 12 rfl
  have q34_:=SC.at 0 rfl
  have q35_:=SC.at 1 rfl
  have q36_:=SC.at 2 rfl
  have q37_:=SC.at 3 rfl
  have q38_:=SC.at 4 rfl
  have q39_:=SC.at 5 rfl
  have q40_:=SC.at 6 rfl
  have q41_:=SC.at 7 rfl
  have q42_:=SC.at 8 rfl
  have q43_:=SC.at 9 rfl
  have q44_:=SC.at 10 rfl
  have q45_:=SC.at 11 rfl
  have q46_:=SC.at 12 rfl
  go_wp2_with (first | (rw [hW9]))
  refine (eqReply_is rc rt k0 k1 k2 k3 k4 k5 k6 k7 k8 k9 k10 _).mono ?_
  rintro en wa ⟨rfl,hb⟩
  replace TC:=TC.later hb TC.lt
  replace RC:=RC.later hb RC.lt
  replace DC:=DC.later hb DC.lt
  replace SC:=SC.later hb SC.lt
  replace C6:=C6.later hb
  replace BC:=BC.trans (hb.mono BC.size)
  clear hb
  clear q21_ q22_ q23_ q24_ q25_ q26_ q27_ q28_ q29_ q30_ q31_ q32_ q33_ q34_ q35_ q36_ q37_ q38_ q39_ q40_ q41_ q42_ q43_ q44_ q45_ q46_ hW9
  go_wp2_with fail
  replace TC:=TC.drew
  replace DC:=DC.drew
  replace BC:=BC.drew
  replace C6:=C6.later ((Below.refl _ wa).drew)
  refine wp_region_held_drew (S:=(fun Vw=>Blk w6.heap.size [.slice e2.ua e2.U.length e2.uc,.slice e2.sa e2.S.length e2.sc,.slice e2.la e2.L.length e2.lc,.slice e2.xa e2.X.length e2.xc,I e2.k] Vw∧Blk w.heap.size [.slice c.ua c.U.length c.uc,.slice c.sa c.S.length c.sc,.slice c.la c.L.length c.lc,.slice c.xa c.X.length c.xc,I c.k] Vw)) (by kernel_rfl) ⟨DC,TC⟩ (fun hH=>?_)
  refine tk 0 42 rfl _ hH (by intro w' h;have a0:=h.1.e5;have b0:=h.2.e5;go_simp;try with_reducible rfl) ?_
  try simp only [Act.put,pa,pb,pc]
  refine tk 1 43 rfl _ hH (by intro w' h;have a0:=h.1.e5;have b0:=h.2.e5;go_simp;try with_reducible rfl) ?_
  try simp only [Act.put,pa,pb,pc]
  refine wpAnyH_ready (rs:=[2]) (by kernel_rfl) (by simp) ?_
  refine AllReadyH.cons (i:=2) rfl (fun K hK=>?_) AllReadyH.nil
  go_simp
  refine (HT _ (C.later BC)).mono ?_
  rintro en wb ⟨e3,rfl,E3,C9,K9,hb⟩
  replace TC:=TC.later hb TC.lt
  replace DC:=DC.later hb DC.lt
  replace BC:=BC.trans (hb.mono BC.size)
  replace C6:=C6.later hb
  clear hb
  go_wp2_with fail
  refine hK.out _ _ ⟨DC,TC⟩ (fun hJ=>?_)
  clear hK K hH
  have hH:=hJ
  clear hJ
  try simp only [Act.put,pa,pb,pc]
  refine wpAnyH_ready (rs:=[3]) (by kernel_rfl) (by simp) ?_
  refine AllReadyH.cons (i:=3) rfl (fun K hK=>?_) AllReadyH.nil
  go_simp
  refine (eqConfig_is e2 e3 _ (E2.symm.trans E3) C6 C9 K6).mono ?_
  rintro en wc ⟨rfl,hb⟩
  replace TC:=TC.later hb TC.lt
  replace DC:=DC.later hb DC.lt
  replace BC:=BC.trans (hb.mono BC.size)
  clear hb
  go_wp2_with fail
  refine hK.out _ _ ⟨DC,TC⟩ (fun hJ=>?_)
  clear hK K hH
  have hH:=hJ
  clear hJ
  try simp only [Act.put,pa,pb,pc]
  refine tk 4 46 rfl _ hH (by intro w' h;have a0:=h.1.e5;have b0:=h.2.e5;go_simp;try with_reducible rfl) ?_
  try simp only [Act.put,pa,pb,pc]
  refine wpAnyH_done (by kernel_rfl) ?_ _
  go_wp2
  go_ret
  exact ⟨rfl,BC⟩
 ·have hv:szV c=-1:=if_neg hsz
  rw [hv] at S0
  go_enter Tryz.func4,Tryz.ntmps4
  go_wp2_with fail
  refine (S0 _).mono ?_
  rintro en w2 ⟨rfl,hb⟩
  replace TC:=TC.later hb TC.lt
  replace BC:=BC.trans (hb.mono BC.size)
  clear hb
  clear q1_ q2_ q3_ q4_ q5_
  go_wp2
  go_ret
  exact ⟨rfl,BC⟩
end Go.Proofs.YtcaieniddnhkbaaGreatDoor
