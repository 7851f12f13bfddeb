/- Chapter 16: the law on times, step by step. -/
import Derived.Test.YtaeecaebjafnpaaTm2
import Derived.Test.YtaeecaebjafnpaaTm4
import Derived.Test.YtaeecaebjafnpaaTd1
import Derived.Deep.CutRange
import Derived.Deep.DeepCutAuto
set_option linter.unusedVariables false
set_option maxRecDepth 100000
namespace Go.Proofs.Ytaeecaebjafnpaa
open Go Go.RowKit Own Var Term Draw

theorem rnV_form (a b c d n l : Int) : ∃ p0 p1 p2 p3 : Int, ∃ kk : Bool, rnV a b c d n l = .tuple #[tv p0 p1 p2 p3, .bool kk] ∧ (kk = true → a = p0 ∧ d = p3 ∧ tmOk a p1 p2 d = true ∧ p2 ≤ d) := by
  cases h : rnOk a b c d n l with
  | false => exact ⟨0, 0, 0, 0, false, (rnV_no a b c d n l h).symm, fun h => by cases h⟩
  | true =>
    refine ⟨a, n, n + min l (d - n), d, true, by unfold rnV; rw [h]; rfl, fun _ => ⟨rfl, rfl, ?_, ?_⟩⟩
    all_goals
      unfold rnOk at h
      simp only [Bool.and_eq_true, decide_eq_true_eq] at h
      obtain ⟨h0, h1, h2, h3⟩ := h
      have h4 := (tmOk_iff a b c d).1 h0
    · exact (tmOk_iff _ _ _ _).2 (by omega)
    · omega
theorem rnV_again (a b c d l : Int) (h : tmOk a b c d = true) (hl : 1 ≤ l) : ∃ p2 : Int, rnV a b c d c l = .tuple #[tv a c p2 d, .bool true] ∧ c ≤ p2 ∧ p2 ≤ d := by
  have h4 := (tmOk_iff a b c d).1 h
  exact ⟨c + min l (d - c), (rnV_yes a b c d c l h (by omega) (by omega) hl).symm, by omega, by omega⟩
theorem inV_form (a b c d x y z q : Int) : ∃ p0 p1 p2 p3 : Int, ∃ kk : Bool, inV a b c d x y z q = .tuple #[tv p0 p1 p2 p3, .bool kk] ∧ (kk = true → tmOk p0 p1 p2 p3 = true ∧ p2 ≤ c ∧ p2 ≤ z ∧ p3 ≤ d ∧ b ≤ p1) := by
  cases h : inOk a b c d x y z q with
  | false => exact ⟨0, 0, 0, 0, false, (inV_no a b c d x y z q h).symm, fun h => by cases h⟩
  | true =>
    refine ⟨a, max b y, min c z, min d q, true, (inV_yes a b c d x y z q h).symm, fun _ => ⟨?_, by omega, by omega, by omega, by omega⟩⟩
    unfold inOk at h
    simp only [Bool.and_eq_true] at h
    exact h.2.2
theorem tmL_more (a b c d n : Int) (h : tmL a b c d n 0 = true) : tmL a b c d n 7 = true := by
  unfold tmL at h ⊢
  simp only [Bool.and_eq_true, decide_eq_true_eq] at h ⊢
  exact ⟨h.1, rfl, by omega, by omega⟩
set_option maxHeartbeats 25600000 in
theorem times_at (a : Option Addr) (len cap : Nat) (zs : List Int) (w : World) (hl : len ≤ 1048576) (hz : CodeAt w w.heap.size a len zs) : Calls Try.prog 3 #[.slice a len cap] w fun en w' => en = .returned (.bool true) ∧ Below w.heap.size w w' := by
  have HZ : Hid (CodeAt w w.heap.size a len zs) := hz
  clear hz
  obtain ⟨ie, hie, hsz⟩ := info_times
  have BC := Below.refl w.heap.size w
  go_enter Try.func3, Try.ntmps3
  go_wp2_with fail
  refine (big_go a len cap _ hl).mono ?_
  rintro en w0 ⟨rfl, rfl⟩
  go_wp2_with fail
  refine (drawRn a len cap zs _ ((HZ.out.below BC).lt BC.size)).mono ?_
  rintro en w1 ⟨a0, b0, c0, d0, n0, l0_, rfl, hb⟩
  replace BC := BC.trans (hb.mono BC.size)
  clear hb
  obtain ⟨qT, hqT⟩ : ∃ q_, w1.heap.size = q_ := ⟨_, rfl⟩
  obtain ⟨VTC, hVTC⟩ : ∃ v, w1.alloc (.cells #[.int .i64 a0, .int .i64 b0, .int .i64 c0, .int .i64 d0] 25) = v := ⟨_, rfl⟩
  have XA_ : Below w1.heap.size w1 VTC := by rw [← hVTC]; exact (Below.refl _ _).alloc (Nat.le_refl _) _
  have qTW : w.heap.size ≤ qT := by have h_ := BC.size; omega
  have TC : Blk qT [.int .i64 a0, .int .i64 b0, .int .i64 c0, .int .i64 d0] VTC := by rw [← hVTC, ← hqT]; exact Blk.new _ _ _
  replace BC := BC.trans (XA_.mono BC.size)
  clear XA_
  have q1_ := TC.at 0 rfl
  have q2_ := TC.at 1 rfl
  have q3_ := TC.at 2 rfl
  have q4_ := TC.at 3 rfl
  have RI := fun w => implRenewed_is a0 b0 c0 d0 n0 l0_ w
  have RS := fun w => specRenewed_is a0 b0 c0 d0 n0 l0_ w
  obtain ⟨p0, p1, p2, p3, kk, hV, HK⟩ := rnV_form a0 b0 c0 d0 n0 l0_
  rw [hV] at RI RS
  clear hV
  go_wp2_with fail
  try rw [hVTC]
  try rw [hqT]
  clear hVTC hqT
  refine (RI _).mono ?_
  rintro en w2 ⟨rfl, hb⟩
  replace TC := TC.later hb TC.lt
  replace BC := BC.trans (hb.mono BC.size)
  clear hb
  clear q1_ q2_ q3_ q4_
  obtain ⟨qR, hqR⟩ : ∃ q_, w2.heap.size = q_ := ⟨_, rfl⟩
  obtain ⟨VUC, hVUC⟩ : ∃ v, w2.alloc (.cells #[.int .i64 p0, .int .i64 p1, .int .i64 p2, .int .i64 p3] 25) = v := ⟨_, rfl⟩
  have XA_ : Below w2.heap.size w2 VUC := by rw [← hVUC]; exact (Below.refl _ _).alloc (Nat.le_refl _) _
  have qRW : w.heap.size ≤ qR := by have h_ := BC.size; omega
  have TCqR : qT < qR := by have h_ := TC.lt; omega
  replace TC := TC.later XA_ TC.lt
  have UC : Blk qR [.int .i64 p0, .int .i64 p1, .int .i64 p2, .int .i64 p3] VUC := by rw [← hVUC, ← hqR]; exact Blk.new _ _ _
  replace BC := BC.trans (XA_.mono BC.size)
  clear XA_
  have q5_ := TC.at 0 rfl
  have q6_ := TC.at 1 rfl
  have q7_ := TC.at 2 rfl
  have q8_ := TC.at 3 rfl
  go_wp2_with fail
  try rw [hVUC]
  try rw [hqR]
  clear hVUC hqR
  refine (RS _).mono ?_
  rintro en w3 ⟨rfl, hb⟩
  replace TC := TC.later hb TC.lt
  replace UC := UC.later hb UC.lt
  replace BC := BC.trans (hb.mono BC.size)
  clear hb
  clear q5_ q6_ q7_ q8_
  obtain ⟨qS, hqS⟩ : ∃ q_, w3.heap.size = q_ := ⟨_, rfl⟩
  obtain ⟨VVC, hVVC⟩ : ∃ v, w3.alloc (.cells #[.int .i64 p0, .int .i64 p1, .int .i64 p2, .int .i64 p3] 25) = v := ⟨_, rfl⟩
  have XA_ : Below w3.heap.size w3 VVC := by rw [← hVVC]; exact (Below.refl _ _).alloc (Nat.le_refl _) _
  have qSW : w.heap.size ≤ qS := by have h_ := BC.size; omega
  have TCqS : qT < qS := by have h_ := TC.lt; omega
  replace TC := TC.later XA_ TC.lt
  have UCqS : qR < qS := by have h_ := UC.lt; omega
  replace UC := UC.later XA_ UC.lt
  have VC : Blk qS [.int .i64 p0, .int .i64 p1, .int .i64 p2, .int .i64 p3] VVC := by rw [← hVVC, ← hqS]; exact Blk.new _ _ _
  replace BC := BC.trans (XA_.mono BC.size)
  clear XA_
  have q9_ := UC.at 0 rfl
  have q10_ := UC.at 1 rfl
  have q11_ := UC.at 2 rfl
  have q12_ := UC.at 3 rfl
  have q13_ := VC.at 0 rfl
  have q14_ := VC.at 1 rfl
  have q15_ := VC.at 2 rfl
  have q16_ := VC.at 3 rfl
  go_upto_region 8 with fail
  try rw [hVVC]
  try rw [hqS]
  clear hVVC hqS
  clear q9_ q10_ q11_ q12_ q13_ q14_ q15_ q16_
  clear RI RS
  go_cut [79] (fun s79 wx => s79 = .bool false ∧ Hid (Blk qT [.int .i64 a0, .int .i64 b0, .int .i64 c0, .int .i64 d0] wx ∧ Below w.heap.size w wx))
  case first =>
    cases kk with
    | true =>
      obtain ⟨h1, h2, hp, hp2⟩ := HK rfl
      subst h1
      subst h2
      have e1 : decide (d0 < p2) = false := decide_eq_false (by omega)
      have q17_ := UC.at 0 rfl
      have q18_ := UC.at 1 rfl
      have q19_ := UC.at 2 rfl
      have q20_ := UC.at 3 rfl
      have q21_ := TC.at 0 rfl
      have q22_ := TC.at 1 rfl
      have q23_ := TC.at 2 rfl
      have q24_ := TC.at 3 rfl
      go_wp2_with fail
      refine (specOk_is a0 p1 p2 d0 _).mono ?_
      rintro en w4 ⟨rfl, hb⟩
      clear q17_ q18_ q19_ q20_ q21_ q22_ q23_ q24_
      replace TC := TC.later hb TC.lt
      replace UC := UC.later hb UC.lt
      replace VC := VC.later hb VC.lt
      replace BC := BC.trans (hb.mono BC.size)
      clear hb
      rw [hp]
      have q25_ := UC.at 0 rfl
      have q26_ := UC.at 1 rfl
      have q27_ := UC.at 2 rfl
      have q28_ := UC.at 3 rfl
      have q29_ := TC.at 0 rfl
      have q30_ := TC.at 1 rfl
      have q31_ := TC.at 2 rfl
      have q32_ := TC.at 3 rfl
      have HH : Hid (Blk qT [.int .i64 a0, .int .i64 b0, .int .i64 c0, .int .i64 d0] w4 ∧ Below w.heap.size w w4) := ⟨TC, BC⟩
      clear TC BC
      go_wp2_with fail
      go_meet
      exact ⟨rfl, HH⟩
    | false =>
      have HH : Hid (_ ∧ _) := ⟨TC, BC⟩
      clear TC BC
      go_wp2_with fail
      go_meet
      exact ⟨rfl, HH⟩
  case rest =>
  obtain ⟨rfl, HT⟩ := hcut
  clear TC UC VC BC
  obtain ⟨TC, BC⟩ := HT.out
  clear HT
  go_wp2_with fail
  refine (drawIn a len cap zs _ ((HZ.out.below BC).lt BC.size)).mono ?_
  rintro en w5 ⟨s0, s1, s2, s3, x, y, z, k, rfl, hb⟩
  replace TC := TC.later hb TC.lt
  replace BC := BC.trans (hb.mono BC.size)
  clear hb
  obtain ⟨qA, hqA⟩ : ∃ q_, w5.heap.size = q_ := ⟨_, rfl⟩
  obtain ⟨VZ, hVZ⟩ : ∃ v, ((w5.alloc (.cells #[.int .i64 0, .int .i64 0, .int .i64 0, .int .i64 0] 25)).alloc (.cells #[.int .i64 0, .int .i64 0, .int .i64 0, .int .i64 0] 25)) = v := ⟨_, rfl⟩
  have XA_ : Below w5.heap.size w5 VZ := by rw [← hVZ]; exact ((Below.refl _ _).alloc (Nat.le_refl _) _).alloc (by simp) _
  have qAW : w.heap.size ≤ qA := by have h_ := BC.size; omega
  have TCqA : qT < qA := by have h_ := TC.lt; omega
  replace TC := TC.later XA_ TC.lt
  have SC : Blk qA [.int .i64 0, .int .i64 0, .int .i64 0, .int .i64 0] VZ := by rw [← hVZ, ← hqA]; exact (Blk.new _ _ _).alloc (by simp) _
  have XC : Blk (qA + 1) [.int .i64 0, .int .i64 0, .int .i64 0, .int .i64 0] VZ := by rw [← hVZ, ← hqA]; have h := Blk.new (w5.alloc (.cells #[.int .i64 0, .int .i64 0, .int .i64 0, .int .i64 0] 25)) #[.int .i64 0, .int .i64 0, .int .i64 0, .int .i64 0] 25; rw [World.size_alloc] at h; exact h
  replace BC := BC.trans (XA_.mono BC.size)
  clear XA_
  obtain ⟨VS, hVS⟩ : ∃ Wz, (World.setCells VZ qA 0 [.int .i64 s0, .int .i64 s1, .int .i64 s2, .int .i64 s3]) = Wz := ⟨_, rfl⟩
  have SC_ : Blk qA [.int .i64 s0, .int .i64 s1, .int .i64 s2, .int .i64 s3] VS := by rw [← hVS]; exact SC.part 0 [.int .i64 s0, .int .i64 s1, .int .i64 s2, .int .i64 s3] _ (by simp) rfl
  have TC_ : Blk qT [.int .i64 a0, .int .i64 b0, .int .i64 c0, .int .i64 d0] VS := by rw [← hVS]; exact Blk.farS (q := qA) (by omega) [.int .i64 s0, .int .i64 s1, .int .i64 s2, .int .i64 s3] 0 _ TC
  have XC_ : Blk (qA + 1) [.int .i64 0, .int .i64 0, .int .i64 0, .int .i64 0] VS := by rw [← hVS]; exact Blk.farS (q := qA) (by omega) [.int .i64 s0, .int .i64 s1, .int .i64 s2, .int .i64 s3] 0 _ XC
  have BC_ : Below w.heap.size w VS := by rw [← hVS]; exact below_sets (g := qA) (by omega) [.int .i64 s0, .int .i64 s1, .int .i64 s2, .int .i64 s3] 0 _ BC
  have SC0VS := SC
  clear TC SC XC BC
  have TC := TC_
  have SC := SC_
  have XC := XC_
  have BC := BC_
  clear TC_ SC_ XC_ BC_
  obtain ⟨VX, hVX⟩ : ∃ Wz, (World.setCells VS (qA + 1) 0 [.int .i64 x, .int .i64 y, .int .i64 z, .int .i64 k]) = Wz := ⟨_, rfl⟩
  have XC_ : Blk (qA + 1) [.int .i64 x, .int .i64 y, .int .i64 z, .int .i64 k] VX := by rw [← hVX]; exact XC.part 0 [.int .i64 x, .int .i64 y, .int .i64 z, .int .i64 k] _ (by simp) rfl
  have TC_ : Blk qT [.int .i64 a0, .int .i64 b0, .int .i64 c0, .int .i64 d0] VX := by rw [← hVX]; exact Blk.farS (q := (qA + 1)) (by omega) [.int .i64 x, .int .i64 y, .int .i64 z, .int .i64 k] 0 _ TC
  have SC_ : Blk qA [.int .i64 s0, .int .i64 s1, .int .i64 s2, .int .i64 s3] VX := by rw [← hVX]; exact Blk.farS (q := (qA + 1)) (by omega) [.int .i64 x, .int .i64 y, .int .i64 z, .int .i64 k] 0 _ SC
  have BC_ : Below w.heap.size w VX := by rw [← hVX]; exact below_sets (g := (qA + 1)) (by omega) [.int .i64 x, .int .i64 y, .int .i64 z, .int .i64 k] 0 _ BC
  have XC0VX := XC
  clear TC SC XC BC
  have TC := TC_
  have SC := SC_
  have XC := XC_
  have BC := BC_
  clear TC_ SC_ XC_ BC_
  have q17_ := SC.at 0 rfl
  have q18_ := SC.at 1 rfl
  have q19_ := SC.at 2 rfl
  have q20_ := SC.at 3 rfl
  have q21_ := XC.at 0 rfl
  have q22_ := XC.at 1 rfl
  have q23_ := XC.at 2 rfl
  have q24_ := XC.at 3 rfl
  have RI := fun w => implInside_is s0 s1 s2 s3 x y z k w
  have RS := fun w => specInside_is s0 s1 s2 s3 x y z k w
  obtain ⟨g0, g1, g2, g3, gk, hV, HG⟩ := inV_form s0 s1 s2 s3 x y z k
  rw [hV] at RI RS
  clear hV
  go_wp2_with (first | (rw [hVZ]) | (refine wpList_stB 25 _ _ qA 0 [.int .i64 0, .int .i64 0, .int .i64 0, .int .i64 0] [.int .i64 s0, .int .i64 s1, .int .i64 s2, .int .i64 s3] ie hie SC0VS (by rw [hsz]; rfl) (by simp) rfl rfl rfl rfl rfl ?_; try simp only [Act.put]; rw [hVS]) | (refine wpList_stB 25 _ _ (qA + 1) 0 [.int .i64 0, .int .i64 0, .int .i64 0, .int .i64 0] [.int .i64 x, .int .i64 y, .int .i64 z, .int .i64 k] ie hie XC0VX (by rw [hsz]; rfl) (by simp) rfl rfl rfl rfl rfl ?_; try simp only [Act.put]; rw [hVX]))
  refine (RI _).mono ?_
  rintro en w6 ⟨rfl, hb⟩
  replace TC := TC.later hb TC.lt
  replace SC := SC.later hb SC.lt
  replace XC := XC.later hb XC.lt
  replace BC := BC.trans (hb.mono BC.size)
  clear hb
  clear SC0VS XC0VX q17_ q18_ q19_ q20_ q21_ q22_ q23_ q24_ hVZ hqA hVS hVX
  obtain ⟨qC, hqC⟩ : ∃ q_, w6.heap.size = q_ := ⟨_, rfl⟩
  obtain ⟨VUC, hVUC⟩ : ∃ v, w6.alloc (.cells #[.int .i64 g0, .int .i64 g1, .int .i64 g2, .int .i64 g3] 25) = v := ⟨_, rfl⟩
  have XA_ : Below w6.heap.size w6 VUC := by rw [← hVUC]; exact (Below.refl _ _).alloc (Nat.le_refl _) _
  have qCW : w.heap.size ≤ qC := by have h_ := BC.size; omega
  have TCqC : qT < qC := by have h_ := TC.lt; omega
  replace TC := TC.later XA_ TC.lt
  have SCqC : qA < qC := by have h_ := SC.lt; omega
  replace SC := SC.later XA_ SC.lt
  have XCqC : (qA + 1) < qC := by have h_ := XC.lt; omega
  replace XC := XC.later XA_ XC.lt
  have UC : Blk qC [.int .i64 g0, .int .i64 g1, .int .i64 g2, .int .i64 g3] VUC := by rw [← hVUC, ← hqC]; exact Blk.new _ _ _
  replace BC := BC.trans (XA_.mono BC.size)
  clear XA_
  have q25_ := SC.at 0 rfl
  have q26_ := SC.at 1 rfl
  have q27_ := SC.at 2 rfl
  have q28_ := SC.at 3 rfl
  have q29_ := XC.at 0 rfl
  have q30_ := XC.at 1 rfl
  have q31_ := XC.at 2 rfl
  have q32_ := XC.at 3 rfl
  go_wp2_with fail
  try rw [hVUC]
  try rw [hqC]
  clear hVUC hqC
  refine (RS _).mono ?_
  rintro en w7 ⟨rfl, hb⟩
  replace TC := TC.later hb TC.lt
  replace SC := SC.later hb SC.lt
  replace XC := XC.later hb XC.lt
  replace UC := UC.later hb UC.lt
  replace BC := BC.trans (hb.mono BC.size)
  clear hb
  clear q25_ q26_ q27_ q28_ q29_ q30_ q31_ q32_
  obtain ⟨qD, hqD⟩ : ∃ q_, w7.heap.size = q_ := ⟨_, rfl⟩
  obtain ⟨VVC, hVVC⟩ : ∃ v, w7.alloc (.cells #[.int .i64 g0, .int .i64 g1, .int .i64 g2, .int .i64 g3] 25) = v := ⟨_, rfl⟩
  have XA_ : Below w7.heap.size w7 VVC := by rw [← hVVC]; exact (Below.refl _ _).alloc (Nat.le_refl _) _
  have qDW : w.heap.size ≤ qD := by have h_ := BC.size; omega
  have TCqD : qT < qD := by have h_ := TC.lt; omega
  replace TC := TC.later XA_ TC.lt
  have SCqD : qA < qD := by have h_ := SC.lt; omega
  replace SC := SC.later XA_ SC.lt
  have XCqD : (qA + 1) < qD := by have h_ := XC.lt; omega
  replace XC := XC.later XA_ XC.lt
  have UCqD : qC < qD := by have h_ := UC.lt; omega
  replace UC := UC.later XA_ UC.lt
  have VC : Blk qD [.int .i64 g0, .int .i64 g1, .int .i64 g2, .int .i64 g3] VVC := by rw [← hVVC, ← hqD]; exact Blk.new _ _ _
  replace BC := BC.trans (XA_.mono BC.size)
  clear XA_
  have q33_ := UC.at 0 rfl
  have q34_ := UC.at 1 rfl
  have q35_ := UC.at 2 rfl
  have q36_ := UC.at 3 rfl
  have q37_ := VC.at 0 rfl
  have q38_ := VC.at 1 rfl
  have q39_ := VC.at 2 rfl
  have q40_ := VC.at 3 rfl
  go_upto_region 15 with fail
  try rw [hVVC]
  try rw [hqD]
  clear hVVC hqD
  clear q33_ q34_ q35_ q36_ q37_ q38_ q39_ q40_
  clear RI RS
  go_cut [138] (fun s138 wx => s138 = .bool false ∧ Hid (Blk qT [.int .i64 a0, .int .i64 b0, .int .i64 c0, .int .i64 d0] wx ∧ Below w.heap.size w wx))
  case first =>
    cases gk with
    | true =>
      obtain ⟨hp, hp2, hp3, hp4, hp5⟩ := HG rfl
      have e1 : decide (s2 < g2) = false := decide_eq_false (by omega)
      have e2 : decide (z < g2) = false := decide_eq_false (by omega)
      have e3 : decide (s3 < g3) = false := decide_eq_false (by omega)
      have e4 : decide (g1 < s1) = false := decide_eq_false (by omega)
      have q41_ := UC.at 0 rfl
      have q42_ := UC.at 1 rfl
      have q43_ := UC.at 2 rfl
      have q44_ := UC.at 3 rfl
      have q45_ := SC.at 0 rfl
      have q46_ := SC.at 1 rfl
      have q47_ := SC.at 2 rfl
      have q48_ := SC.at 3 rfl
      have q49_ := XC.at 0 rfl
      have q50_ := XC.at 1 rfl
      have q51_ := XC.at 2 rfl
      have q52_ := XC.at 3 rfl
      go_wp2_with fail
      refine (specOk_is g0 g1 g2 g3 _).mono ?_
      rintro en w8 ⟨rfl, hb⟩
      clear q41_ q42_ q43_ q44_ q45_ q46_ q47_ q48_ q49_ q50_ q51_ q52_
      replace TC := TC.later hb TC.lt
      replace BC := BC.trans (hb.mono BC.size)
      clear hb
      rw [hp]
      have HH : Hid (Blk qT [.int .i64 a0, .int .i64 b0, .int .i64 c0, .int .i64 d0] w8 ∧ Below w.heap.size w w8) := ⟨TC, BC⟩
      clear TC BC SC XC UC VC
      go_wp2_with fail
      go_meet
      exact ⟨rfl, HH⟩
    | false =>
      have HH : Hid (_ ∧ _) := ⟨TC, BC⟩
      clear TC BC
      go_wp2_with fail
      go_meet
      exact ⟨rfl, HH⟩
  case rest =>
  obtain ⟨rfl, HT⟩ := hcut
  clear TC UC VC SC XC BC
  obtain ⟨TC, BC⟩ := HT.out
  clear HT
  go_wp2_with fail
  have H0 := (show Hid _ from (show Blk qT [.int .i64 a0, .int .i64 b0, .int .i64 c0, .int .i64 d0] wc ∧ Below w.heap.size w wc ∧ w.heap.size ≤ qT from ⟨TC, BC, qTW⟩))
  clear TC BC
  go_loopw [16, 17] (fun v16 v17 wr => ∃ (j : Nat) (m0 m1 m2 m3 : Int), v16 = .int .i64 j ∧ v17 = .int .i64 j ∧ j ≤ 30 ∧ Hid (Blk qT [.int .i64 m0, .int .i64 m1, .int .i64 m2, .int .i64 m3] wr ∧ Below w.heap.size w wr ∧ w.heap.size ≤ qT)) (fun _ v17 _ => 30 - (intOf v17).toNat)
  case atStart => exact ⟨0, _, _, _, _, rfl, rfl, by omega, H0⟩
  case round =>
    clear H0
    obtain ⟨j, m0, m1, m2, m3, rfl, rfl, hj, HR⟩ := hrel
    obtain ⟨TC, BC, hq⟩ := HR.out
    clear HR
    by_cases hlt : j < 30
    · have hjd : decide ((j : Int) < 30) = true := by simp; omega
      have q41_ := TC.at 0 rfl
      have q42_ := TC.at 1 rfl
      have q43_ := TC.at 2 rfl
      have q44_ := TC.at 3 rfl
      go_wp2_with fail
      refine (specOk_is m0 m1 m2 m3 _).mono ?_
      rintro en w20 ⟨rfl, hb⟩
      replace TC := TC.later hb TC.lt
      replace BC := BC.trans (hb.mono BC.size)
      clear hb
      clear q41_ q42_ q43_ q44_
      cases hok : tmOk m0 m1 m2 m3 with
      | false =>
        clear TC
        go_wp2_with fail
        refine (drawLv a len cap zs _ ((HZ.out.below BC).lt BC.size)).mono ?_
        rintro en wL ⟨l0, l1, l2, l3, lm, lk, rfl, hb⟩
        replace BC := BC.trans (hb.mono BC.size)
        clear hb
        obtain ⟨qL, hqL⟩ : ∃ q_, wL.heap.size = q_ := ⟨_, rfl⟩
        obtain ⟨VLC, hVLC⟩ : ∃ v, wL.alloc (.cells #[.int .i64 l0, .int .i64 l1, .int .i64 l2, .int .i64 l3] 25) = v := ⟨_, rfl⟩
        have XA_ : Below wL.heap.size wL VLC := by rw [← hVLC]; exact (Below.refl _ _).alloc (Nat.le_refl _) _
        have qLW : w.heap.size ≤ qL := by have h_ := BC.size; omega
        have LC : Blk qL [.int .i64 l0, .int .i64 l1, .int .i64 l2, .int .i64 l3] VLC := by rw [← hVLC, ← hqL]; exact Blk.new _ _ _
        replace BC := BC.trans (XA_.mono BC.size)
        clear XA_
        go_wp2_with fail
        try rw [hVLC]
        try rw [hqL]
        clear hVLC hqL
        clear HZ
        have RI := implLives_is l0 l1 l2 l3 lm lk
        have RS := specLives_is l0 l1 l2 l3 lm lk
        generalize tmL l0 l1 l2 l3 lm lk = tb at RI RS
        have R0 := implLives_is l0 l1 l2 l3 lm 0
        have R7 := implLives_is l0 l1 l2 l3 lm 7
        have HM := tmL_more l0 l1 l2 l3 lm
        generalize tmL l0 l1 l2 l3 lm 0 = t0 at R0 HM
        generalize tmL l0 l1 l2 l3 lm 7 = t7 at R7 HM
        replace LC := LC.drew
        replace BC := BC.drew
        refine wp_region_held_drew (S := (fun Vw => Blk qL [.int .i64 l0, .int .i64 l1, .int .i64 l2, .int .i64 l3] Vw)) (by kernel_rfl) LC (fun hHeld => ?_)
        generalize World.drew VLC = wd at *
        refine take_one 0 184 (v := ?_) rfl rfl (by kernel_rfl) (by kernel_rfl) (by kernel_rfl) (fun _ _ _ h => h) (Or.inl ⟨by rfl, ?_⟩) hHeld ?_
        rotate_left
        · intro w' hSw; (try dsimp only at hSw); have d0 := hSw.at 0 rfl; have d1 := hSw.at 1 rfl; have d2 := hSw.at 2 rfl; have d3 := hSw.at 3 rfl; go_simp; try with_reducible rfl
        try simp only [Act.put, List.setIfInBounds_toArray, List.set_cons_zero, List.set_cons_succ]
        refine take_one 1 185 (v := ?_) rfl rfl (by kernel_rfl) (by kernel_rfl) (by kernel_rfl) (fun _ _ _ h => h) (Or.inl ⟨by rfl, ?_⟩) hHeld ?_
        rotate_left
        · intro w' hSw; (try dsimp only at hSw); have d0 := hSw.at 0 rfl; have d1 := hSw.at 1 rfl; have d2 := hSw.at 2 rfl; have d3 := hSw.at 3 rfl; go_simp; try with_reducible rfl
        try simp only [Act.put, List.setIfInBounds_toArray, List.set_cons_zero, List.set_cons_succ]
        refine take_one 2 186 (v := ?_) rfl rfl (by kernel_rfl) (by kernel_rfl) (by kernel_rfl) (fun _ _ _ h => h) (Or.inl ⟨by rfl, ?_⟩) hHeld ?_
        rotate_left
        · intro w' hSw; (try dsimp only at hSw); have d0 := hSw.at 0 rfl; have d1 := hSw.at 1 rfl; have d2 := hSw.at 2 rfl; have d3 := hSw.at 3 rfl; go_simp; try with_reducible rfl
        try simp only [Act.put, List.setIfInBounds_toArray, List.set_cons_zero, List.set_cons_succ]
        refine take_one 4 188 (v := ?_) rfl rfl (by kernel_rfl) (by kernel_rfl) (by kernel_rfl) (fun _ _ _ h => h) (Or.inl ⟨by rfl, ?_⟩) hHeld ?_
        rotate_left
        · intro w' hSw; (try dsimp only at hSw); have d0 := hSw.at 0 rfl; have d1 := hSw.at 1 rfl; have d2 := hSw.at 2 rfl; have d3 := hSw.at 3 rfl; go_simp; try with_reducible rfl
        try simp only [Act.put, List.setIfInBounds_toArray, List.set_cons_zero, List.set_cons_succ]
        refine take_one 5 189 (v := ?_) rfl rfl (by kernel_rfl) (by kernel_rfl) (by kernel_rfl) (fun _ _ _ h => h) (Or.inl ⟨by rfl, ?_⟩) hHeld ?_
        rotate_left
        · intro w' hSw; (try dsimp only at hSw); have d0 := hSw.at 0 rfl; have d1 := hSw.at 1 rfl; have d2 := hSw.at 2 rfl; have d3 := hSw.at 3 rfl; go_simp; try with_reducible rfl
        try simp only [Act.put, List.setIfInBounds_toArray, List.set_cons_zero, List.set_cons_succ]
        refine take_one 6 190 (v := ?_) rfl rfl (by kernel_rfl) (by kernel_rfl) (by kernel_rfl) (fun _ _ _ h => h) (Or.inl ⟨by rfl, ?_⟩) hHeld ?_
        rotate_left
        · intro w' hSw; (try dsimp only at hSw); have d0 := hSw.at 0 rfl; have d1 := hSw.at 1 rfl; have d2 := hSw.at 2 rfl; have d3 := hSw.at 3 rfl; go_simp; try with_reducible rfl
        try simp only [Act.put, List.setIfInBounds_toArray, List.set_cons_zero, List.set_cons_succ]
        refine wpAnyH_ready (rs := [3]) (by kernel_rfl) (by simp) ?_
        refine AllReadyH.cons (i := 3) rfl (fun K hK => ?_) AllReadyH.nil
        go_simp
        refine (RI _).mono ?_
        rintro en wi ⟨rfl, hb⟩
        replace LC := LC.later hb LC.lt
        replace BC := BC.trans (hb.mono BC.size)
        clear hb
        go_wp2_with fail
        refine hK.out _ _ LC (fun hHeld2 => ?_)
        clear hK K hHeld
        have hHeld := hHeld2
        clear hHeld2
        try simp only [Act.put, List.setIfInBounds_toArray, List.set_cons_zero, List.set_cons_succ]
        refine wpAnyH_ready (rs := [7]) (by kernel_rfl) (by simp) ?_
        refine AllReadyH.cons (i := 7) rfl (fun K hK => ?_) AllReadyH.nil
        go_simp
        refine (RS _).mono ?_
        rintro en ws ⟨rfl, hb⟩
        replace LC := LC.later hb LC.lt
        replace BC := BC.trans (hb.mono BC.size)
        clear hb
        go_wp2_with fail
        refine hK.out _ _ LC (fun hHeld2 => ?_)
        clear hK K hHeld
        have hHeld := hHeld2
        clear hHeld2
        try simp only [Act.put, List.setIfInBounds_toArray, List.set_cons_zero, List.set_cons_succ]
        refine take_one 8 192 (v := (.bool true)) rfl rfl (by kernel_rfl) (by kernel_rfl) (by kernel_rfl) (fun _ _ _ h => h) (Or.inl ⟨by rfl, ?_⟩) hHeld ?_
        · intro w' hSw; (try dsimp only at hSw); go_simp; skip
        try simp only [Act.put, List.setIfInBounds_toArray, List.set_cons_zero, List.set_cons_succ]
        refine take_one 9 193 (v := ?_) rfl rfl (by kernel_rfl) (by kernel_rfl) (by kernel_rfl) (fun _ _ _ h => h) (Or.inl ⟨by rfl, ?_⟩) hHeld ?_
        rotate_left
        · intro w' hSw; (try dsimp only at hSw); go_simp; try with_reducible rfl
        try simp only [Act.put, List.setIfInBounds_toArray, List.set_cons_zero, List.set_cons_succ]
        refine take_one 10 194 (v := ?_) rfl rfl (by kernel_rfl) (by kernel_rfl) (by kernel_rfl) (fun _ _ _ h => h) (Or.inl ⟨by rfl, ?_⟩) hHeld ?_
        rotate_left
        · intro w' hSw; (try dsimp only at hSw); have d0 := hSw.at 0 rfl; have d1 := hSw.at 1 rfl; have d2 := hSw.at 2 rfl; have d3 := hSw.at 3 rfl; go_simp; try with_reducible rfl
        try simp only [Act.put, List.setIfInBounds_toArray, List.set_cons_zero, List.set_cons_succ]
        refine take_one 11 195 (v := ?_) rfl rfl (by kernel_rfl) (by kernel_rfl) (by kernel_rfl) (fun _ _ _ h => h) (Or.inl ⟨by rfl, ?_⟩) hHeld ?_
        rotate_left
        · intro w' hSw; (try dsimp only at hSw); have d0 := hSw.at 0 rfl; have d1 := hSw.at 1 rfl; have d2 := hSw.at 2 rfl; have d3 := hSw.at 3 rfl; go_simp; try with_reducible rfl
        try simp only [Act.put, List.setIfInBounds_toArray, List.set_cons_zero, List.set_cons_succ]
        refine wpAnyH_ready (rs := [12]) (by kernel_rfl) (by simp) ?_
        refine AllReadyH.cons (i := 12) rfl (fun K hK => ?_) AllReadyH.nil
        go_simp
        refine (R0 _).mono ?_
        rintro en wo ⟨rfl, hb⟩
        replace LC := LC.later hb LC.lt
        replace BC := BC.trans (hb.mono BC.size)
        clear hb
        go_wp2_with fail
        refine hK.out _ _ LC (fun hHeld2 => ?_)
        clear hK K hHeld
        have hHeld := hHeld2
        clear hHeld2
        try simp only [Act.put, List.setIfInBounds_toArray, List.set_cons_zero, List.set_cons_succ]
        cases t0 with
        | true =>
          refine take_one 13 197 (v := ?_) rfl rfl (by kernel_rfl) (by kernel_rfl) (by kernel_rfl) (fun _ _ _ h => h) (Or.inl ⟨by rfl, ?_⟩) hHeld ?_
          rotate_left
          · intro w' hSw; (try dsimp only at hSw); go_simp; try with_reducible rfl
          try simp only [Act.put, List.setIfInBounds_toArray, List.set_cons_zero, List.set_cons_succ]
          refine take_one 14 198 (v := ?_) rfl rfl (by kernel_rfl) (by kernel_rfl) (by kernel_rfl) (fun _ _ _ h => h) (Or.inl ⟨by rfl, ?_⟩) hHeld ?_
          rotate_left
          · intro w' hSw; (try dsimp only at hSw); go_simp; try with_reducible rfl
          try simp only [Act.put, List.setIfInBounds_toArray, List.set_cons_zero, List.set_cons_succ]
          have h7 : t7 = true := HM rfl
          subst h7
          refine take_one 15 199 (v := ?_) rfl rfl (by kernel_rfl) (by kernel_rfl) (by kernel_rfl) (fun _ _ _ h => h) (Or.inl ⟨by rfl, ?_⟩) hHeld ?_
          rotate_left
          · intro w' hSw; (try dsimp only at hSw); have d0 := hSw.at 0 rfl; have d1 := hSw.at 1 rfl; have d2 := hSw.at 2 rfl; have d3 := hSw.at 3 rfl; go_simp; try with_reducible rfl
          try simp only [Act.put, List.setIfInBounds_toArray, List.set_cons_zero, List.set_cons_succ]
          refine take_one 16 200 (v := ?_) rfl rfl (by kernel_rfl) (by kernel_rfl) (by kernel_rfl) (fun _ _ _ h => h) (Or.inl ⟨by rfl, ?_⟩) hHeld ?_
          rotate_left
          · intro w' hSw; (try dsimp only at hSw); have d0 := hSw.at 0 rfl; have d1 := hSw.at 1 rfl; have d2 := hSw.at 2 rfl; have d3 := hSw.at 3 rfl; go_simp; try with_reducible rfl
          try simp only [Act.put, List.setIfInBounds_toArray, List.set_cons_zero, List.set_cons_succ]
          refine wpAnyH_ready (rs := [17]) (by kernel_rfl) (by simp) ?_
          refine AllReadyH.cons (i := 17) rfl (fun K hK => ?_) AllReadyH.nil
          go_simp
          refine (R7 _).mono ?_
          rintro en w7 ⟨rfl, hb⟩
          replace LC := LC.later hb LC.lt
          replace BC := BC.trans (hb.mono BC.size)
          clear hb
          go_wp2_with fail
          refine hK.out _ _ LC (fun hHeld2 => ?_)
          clear hK K hHeld
          have hHeld := hHeld2
          clear hHeld2
          try simp only [Act.put, List.setIfInBounds_toArray, List.set_cons_zero, List.set_cons_succ]
          refine take_one 18 202 (v := ?_) rfl rfl (by kernel_rfl) (by kernel_rfl) (by kernel_rfl) (fun _ _ _ h => h) (Or.inl ⟨by rfl, ?_⟩) hHeld ?_
          rotate_left
          · intro w' hSw; (try dsimp only at hSw); go_simp; try with_reducible rfl
          try simp only [Act.put, List.setIfInBounds_toArray, List.set_cons_zero, List.set_cons_succ]
          refine take_one 19 203 (v := ?_) rfl rfl (by kernel_rfl) (by kernel_rfl) (by kernel_rfl) (fun _ _ _ h => h) (Or.inl ⟨by rfl, ?_⟩) hHeld ?_
          rotate_left
          · intro w' hSw; (try dsimp only at hSw); go_simp; try with_reducible rfl
          try simp only [Act.put, List.setIfInBounds_toArray, List.set_cons_zero, List.set_cons_succ]
          refine take_one 20 2 (v := ?_) rfl rfl (by kernel_rfl) (by kernel_rfl) (by kernel_rfl) (fun _ _ _ h => h) (Or.inl ⟨by rfl, ?_⟩) hHeld ?_
          rotate_left
          · intro w' hSw; (try dsimp only at hSw); go_simp; try with_reducible rfl
          try simp only [Act.put, List.setIfInBounds_toArray, List.set_cons_zero, List.set_cons_succ]
          refine wpAnyH_done (by kernel_rfl) ?_ _
          go_wp2_with fail
          go_ret
          exact ⟨rfl, BC⟩
        | false =>
          refine take_one 13 197 (v := ?_) rfl rfl (by kernel_rfl) (by kernel_rfl) (by kernel_rfl) (fun _ _ _ h => h) (Or.inl ⟨by rfl, ?_⟩) hHeld ?_
          rotate_left
          · intro w' hSw; (try dsimp only at hSw); go_simp; try with_reducible rfl
          try simp only [Act.put, List.setIfInBounds_toArray, List.set_cons_zero, List.set_cons_succ]
          refine take_one 14 198 (v := ?_) rfl rfl (by kernel_rfl) (by kernel_rfl) (by kernel_rfl) (fun _ _ _ h => h) (Or.inl ⟨by rfl, ?_⟩) hHeld ?_
          rotate_left
          · intro w' hSw; (try dsimp only at hSw); go_simp; try with_reducible rfl
          try simp only [Act.put, List.setIfInBounds_toArray, List.set_cons_zero, List.set_cons_succ]
          refine skip_one 15 199 rfl rfl (by kernel_rfl) (by kernel_rfl) (by kernel_rfl) (fun _ _ _ h => h) (unwanted (c := true) rfl rfl (by simp) rfl) hHeld ?_
          try simp only [Act.put, List.setIfInBounds_toArray, List.set_cons_zero, List.set_cons_succ]
          refine skip_one 16 200 rfl rfl (by kernel_rfl) (by kernel_rfl) (by kernel_rfl) (fun _ _ _ h => h) (unwanted (c := true) rfl rfl (by simp) rfl) hHeld ?_
          try simp only [Act.put, List.setIfInBounds_toArray, List.set_cons_zero, List.set_cons_succ]
          refine skip_one 17 201 rfl rfl (by kernel_rfl) (by kernel_rfl) (by kernel_rfl) (fun _ _ _ h => h) (unwanted (c := true) rfl rfl (by simp) rfl) hHeld ?_
          try simp only [Act.put, List.setIfInBounds_toArray, List.set_cons_zero, List.set_cons_succ]
          refine take_one 18 202 (v := ?_) rfl rfl (by kernel_rfl) (by kernel_rfl) (by kernel_rfl) (fun _ _ _ h => h) (Or.inl ⟨by rfl, ?_⟩) hHeld ?_
          rotate_left
          · intro w' hSw; (try dsimp only at hSw); go_simp; try with_reducible rfl
          try simp only [Act.put, List.setIfInBounds_toArray, List.set_cons_zero, List.set_cons_succ]
          refine take_one 19 203 (v := ?_) rfl rfl (by kernel_rfl) (by kernel_rfl) (by kernel_rfl) (fun _ _ _ h => h) (Or.inl ⟨by rfl, ?_⟩) hHeld ?_
          rotate_left
          · intro w' hSw; (try dsimp only at hSw); go_simp; try with_reducible rfl
          try simp only [Act.put, List.setIfInBounds_toArray, List.set_cons_zero, List.set_cons_succ]
          refine take_one 20 2 (v := ?_) rfl rfl (by kernel_rfl) (by kernel_rfl) (by kernel_rfl) (fun _ _ _ h => h) (Or.inl ⟨by rfl, ?_⟩) hHeld ?_
          rotate_left
          · intro w' hSw; (try dsimp only at hSw); go_simp; try with_reducible rfl
          try simp only [Act.put, List.setIfInBounds_toArray, List.set_cons_zero, List.set_cons_succ]
          refine wpAnyH_done (by kernel_rfl) ?_ _
          go_wp2_with fail
          go_ret
          exact ⟨rfl, BC⟩
      | true =>
        go_wp2_with fail
        replace TC := TC.drew
        replace BC := BC.drew
        refine wp_region_held_drew (S := (fun Vw => Blk qT [.int .i64 m0, .int .i64 m1, .int .i64 m2, .int .i64 m3] Vw)) (by kernel_rfl) TC (fun hHeld => ?_)
        generalize World.drew w20 = wd at *
        refine take_one 0 148 (v := ?_) rfl rfl (by kernel_rfl) (by kernel_rfl) (by kernel_rfl) (fun _ _ _ h => h) (Or.inl ⟨by rfl, ?_⟩) hHeld ?_
        rotate_left
        · intro w' hSw; (try dsimp only at hSw); have d0 := hSw.at 0 rfl; have d1 := hSw.at 1 rfl; have d2 := hSw.at 2 rfl; have d3 := hSw.at 3 rfl; go_simp; try with_reducible rfl
        try simp only [Act.put, List.setIfInBounds_toArray, List.set_cons_zero, List.set_cons_succ]
        refine take_one 1 149 (v := ?_) rfl rfl (by kernel_rfl) (by kernel_rfl) (by kernel_rfl) (fun _ _ _ h => h) (Or.inl ⟨by rfl, ?_⟩) hHeld ?_
        rotate_left
        · intro w' hSw; (try dsimp only at hSw); have d0 := hSw.at 0 rfl; have d1 := hSw.at 1 rfl; have d2 := hSw.at 2 rfl; have d3 := hSw.at 3 rfl; go_simp; try with_reducible rfl
        try simp only [Act.put, List.setIfInBounds_toArray, List.set_cons_zero, List.set_cons_succ]
        refine take_one 2 150 (v := ?_) rfl rfl (by kernel_rfl) (by kernel_rfl) (by kernel_rfl) (fun _ _ _ h => h) (Or.inl ⟨by rfl, ?_⟩) hHeld ?_
        rotate_left
        · intro w' hSw; (try dsimp only at hSw); have d0 := hSw.at 0 rfl; have d1 := hSw.at 1 rfl; have d2 := hSw.at 2 rfl; have d3 := hSw.at 3 rfl; go_simp; try with_reducible rfl
        try simp only [Act.put, List.setIfInBounds_toArray, List.set_cons_zero, List.set_cons_succ]
        refine take_one 3 151 (v := ?_) rfl rfl (by kernel_rfl) (by kernel_rfl) (by kernel_rfl) (fun _ _ _ h => h) (Or.inl ⟨by rfl, ?_⟩) hHeld ?_
        rotate_left
        · intro w' hSw; (try dsimp only at hSw); have d0 := hSw.at 0 rfl; have d1 := hSw.at 1 rfl; have d2 := hSw.at 2 rfl; have d3 := hSw.at 3 rfl; go_simp; try with_reducible rfl
        try simp only [Act.put, List.setIfInBounds_toArray, List.set_cons_zero, List.set_cons_succ]
        refine take_one 4 152 (v := ?_) rfl rfl (by kernel_rfl) (by kernel_rfl) (by kernel_rfl) (fun _ _ _ h => h) (Or.inl ⟨by rfl, ?_⟩) hHeld ?_
        rotate_left
        · intro w' hSw; (try dsimp only at hSw); have d0 := hSw.at 0 rfl; have d1 := hSw.at 1 rfl; have d2 := hSw.at 2 rfl; have d3 := hSw.at 3 rfl; go_simp; try with_reducible rfl
        try simp only [Act.put, List.setIfInBounds_toArray, List.set_cons_zero, List.set_cons_succ]
        refine wpAnyH_ready (rs := [5, 12]) (by kernel_rfl) (by simp) ?_
        refine AllReadyH.cons (i := 5) rfl (fun K hK => ?_) (AllReadyH.cons (i := 12) rfl (fun K hK => ?_) AllReadyH.nil)
        · skip
          go_simp
          refine (at_go a len cap zs _ j (by omega) ((HZ.out.below BC).lt BC.size)).mono ?_
          rintro en wq ⟨z_, rfl, hz0, hz1, rfl⟩
          go_wp2_with fail
          refine hK.out _ _ TC (fun hHeld2 => ?_)
          clear hK K hHeld
          have hHeld := hHeld2
          clear hHeld2
          try simp only [Act.put, List.setIfInBounds_toArray, List.set_cons_zero, List.set_cons_succ]
          obtain ⟨le, hle⟩ : ∃ le, 1 + z_ % 9 = le := ⟨_, rfl⟩
          have hl1 : 1 ≤ le := by omega
          have hl2 : le ≤ 9 := by omega
          refine take_one 6 154 (v := (.int .i64 (z_ % 9))) rfl rfl (by kernel_rfl) (by kernel_rfl) (by kernel_rfl) (fun _ _ _ h => h) (Or.inl ⟨by rfl, ?_⟩) hHeld ?_
          · intro w' hSw; (try dsimp only at hSw); go_simp; exact Int.tmod_eq_emod_of_nonneg hz0
          try simp only [Act.put, List.setIfInBounds_toArray, List.set_cons_zero, List.set_cons_succ]
          refine take_one 7 155 (v := (.int .i64 le)) rfl rfl (by kernel_rfl) (by kernel_rfl) (by kernel_rfl) (fun _ _ _ h => h) (Or.inl ⟨by rfl, ?_⟩) hHeld ?_
          · intro w' hSw; (try dsimp only at hSw); go_simp; rw [← hle, IntKind.wrap_i64]; omega
          try simp only [Act.put, List.setIfInBounds_toArray, List.set_cons_zero, List.set_cons_succ]
          clear hle
          obtain ⟨p2, hV, hp1, hp2⟩ := rnV_again m0 m1 m2 m3 le hok hl1
          have RV := fun w => implRenewed_is m0 m1 m2 m3 m2 le w
          rw [hV] at RV
          clear hV
          refine wpAnyH_ready (rs := [8, 12]) (by kernel_rfl) (by simp) ?_
          refine AllReadyH.cons (i := 8) rfl (fun K hK => ?_) (AllReadyH.cons (i := 12) rfl (fun K hK => ?_) AllReadyH.nil)
          · skip
            go_simp
            refine (RV _).mono ?_
            rintro en wv ⟨rfl, hb⟩
            replace TC := TC.later hb TC.lt
            replace BC := BC.trans (hb.mono BC.size)
            clear hb
            go_wp2_with fail
            refine hK.out _ _ TC (fun hHeld2 => ?_)
            clear hK K hHeld
            have hHeld := hHeld2
            clear hHeld2
            try simp only [Act.put, List.setIfInBounds_toArray, List.set_cons_zero, List.set_cons_succ]
            refine take_one 9 147 (v := ?_) rfl rfl (by kernel_rfl) (by kernel_rfl) (by kernel_rfl) (fun _ _ _ h => h) (Or.inl ⟨by rfl, ?_⟩) hHeld ?_
            rotate_left
            · intro w' hSw; (try dsimp only at hSw); go_simp; try with_reducible rfl
            try simp only [Act.put, List.setIfInBounds_toArray, List.set_cons_zero, List.set_cons_succ]
            refine take_one 10 157 (v := ?_) rfl rfl (by kernel_rfl) (by kernel_rfl) (by kernel_rfl) (fun _ _ _ h => h) (Or.inl ⟨by rfl, ?_⟩) hHeld ?_
            rotate_left
            · intro w' hSw; (try dsimp only at hSw); go_simp; try with_reducible rfl
            try simp only [Act.put, List.setIfInBounds_toArray, List.set_cons_zero, List.set_cons_succ]
            refine take_one 11 158 (v := ?_) rfl rfl (by kernel_rfl) (by kernel_rfl) (by kernel_rfl) (fun _ _ _ h => h) (Or.inl ⟨by rfl, ?_⟩) hHeld ?_
            rotate_left
            · intro w' hSw; (try dsimp only at hSw); go_simp; try with_reducible rfl
            try simp only [Act.put, List.setIfInBounds_toArray, List.set_cons_zero, List.set_cons_succ]
            refine wpAnyH_ready (rs := [12]) (by kernel_rfl) (by simp) ?_
            refine AllReadyH.cons (i := 12) rfl (fun K hK => ?_) AllReadyH.nil
            go_simp
            have UC : Blk wv.heap.size [.int .i64 0, .int .i64 0, .int .i64 0, .int .i64 0] (wv.alloc (.cells #[.int .i64 0, .int .i64 0, .int .i64 0, .int .i64 0] 25)) := Blk.new _ _ _
            have XA_ : Below wv.heap.size wv (wv.alloc (.cells #[.int .i64 0, .int .i64 0, .int .i64 0, .int .i64 0] 25)) := (Below.refl _ _).alloc (Nat.le_refl _) _
            have nTC : Hid (qT < wv.heap.size) := TC.lt
            have nBC : Hid (w.heap.size ≤ wv.heap.size) := BC.size
            replace TC := TC.later XA_ TC.lt
            replace BC := BC.trans (XA_.mono BC.size)
            clear XA_
            obtain ⟨qU, hqU⟩ : ∃ q_, wv.heap.size = q_ := ⟨_, rfl⟩
            obtain ⟨V0, hV0⟩ : ∃ Wz, (wv.alloc (.cells #[.int .i64 0, .int .i64 0, .int .i64 0, .int .i64 0] 25)) = Wz := ⟨_, rfl⟩
            rw [hV0] at TC UC BC ⊢
            rw [hqU] at UC nTC nBC ⊢
            clear hV0 hqU
            have mTC := nTC.out
            have mBC := nBC.out
            refine hK.out _ _ TC (fun hHeld2 => ?_)
            clear hK K hHeld
            have hHeld := hHeld2
            clear hHeld2
            try simp only [Act.put, List.setIfInBounds_toArray, List.set_cons_zero, List.set_cons_succ]
            have N_ : Blk qU [.int .i64 m0, .int .i64 m2, .int .i64 p2, .int .i64 m3] ((V0).setCells qU 0 [.int .i64 m0, .int .i64 m2, .int .i64 p2, .int .i64 m3]) := UC.part 0 [.int .i64 m0, .int .i64 m2, .int .i64 p2, .int .i64 m3] _ (by simp) rfl
            have TC_ := Blk.farS (q := qU) (by omega) [.int .i64 m0, .int .i64 m2, .int .i64 p2, .int .i64 m3] 0 _ TC
            have BC_ := below_sets (m := w.heap.size) (g := qU) (by omega) [.int .i64 m0, .int .i64 m2, .int .i64 p2, .int .i64 m3] 0 _ BC
            refine wpAnyH_ready (rs := [13]) (by kernel_rfl) (by simp) ?_
            refine AllReadyH.cons (i := 13) rfl (fun K hK => ?_) AllReadyH.nil
            refine stepB 25 _ _ (qU) 0 [.int .i64 0, .int .i64 0, .int .i64 0, .int .i64 0] [.int .i64 m0, .int .i64 m2, .int .i64 p2, .int .i64 m3] ie hie UC (by rw [hsz]; rfl) (by simp) rfl rfl rfl rfl rfl ?_
            try simp only [Act.put, List.setIfInBounds_toArray]
            obtain ⟨VU, hVU⟩ : ∃ Wz, (V0).setCells (qU) 0 [.int .i64 m0, .int .i64 m2, .int .i64 p2, .int .i64 m3] = Wz := ⟨_, rfl⟩
            rw [hVU] at N_ BC_ TC_ ⊢
            clear hVU UC BC TC
            have UC := N_
            have BC := BC_
            have TC := TC_
            clear N_ BC_ TC_
            refine hK.out _ _ TC (fun hHeld2 => ?_)
            clear hK K hHeld
            have hHeld := hHeld2
            clear hHeld2
            try simp only [Act.put, List.setIfInBounds_toArray, List.set_cons_zero, List.set_cons_succ]
            refine take_one 14 19 (v := ?_) rfl rfl (by kernel_rfl) (by kernel_rfl) (by kernel_rfl) (fun _ _ _ h => h) (Or.inl ⟨by rfl, ?_⟩) hHeld ?_
            rotate_left
            · intro w' hSw; (try dsimp only at hSw); go_simp; try with_reducible rfl
            try simp only [Act.put]
            refine wpAnyH_done (by kernel_rfl) ?_ _
            have q1_ := TC.at 0 rfl
            have q2_ := TC.at 1 rfl
            have q3_ := TC.at 2 rfl
            have q4_ := TC.at 3 rfl
            have q5_ := UC.at 0 rfl
            have q6_ := UC.at 1 rfl
            have q7_ := UC.at 2 rfl
            have q8_ := UC.at 3 rfl
            have c1 : decide (m3 < p2) = false := decide_eq_false (by omega)
            have c2 : decide (p2 < m2) = false := decide_eq_false (by omega)
            have TN : Blk qT [.int .i64 m0, .int .i64 m2, .int .i64 p2, .int .i64 m3] (VU.setCells qT 0 [.int .i64 m0, .int .i64 m2, .int .i64 p2, .int .i64 m3]) := TC.sets [.int .i64 m0, .int .i64 m2, .int .i64 p2, .int .i64 m3] rfl
            have BN := below_sets (m := w.heap.size) (g := qT) hq [.int .i64 m0, .int .i64 m2, .int .i64 p2, .int .i64 m3] 0 _ BC
            have HN := (show Hid _ from (show Blk qT [.int .i64 m0, .int .i64 m2, .int .i64 p2, .int .i64 m3] (VU.setCells qT 0 [.int .i64 m0, .int .i64 m2, .int .i64 p2, .int .i64 m3]) ∧ Below w.heap.size w (VU.setCells qT 0 [.int .i64 m0, .int .i64 m2, .int .i64 p2, .int .i64 m3]) ∧ w.heap.size ≤ qT from ⟨TN, BN, hq⟩))
            clear TN BN BC
            go_wp2_with (first | (refine wpList_ldB 25 _ qU 0 [.int .i64 m0, .int .i64 m2, .int .i64 p2, .int .i64 m3] [.int .i64 m0, .int .i64 m2, .int .i64 p2, .int .i64 m3] ie hie ag25 UC (by rw [hsz]; rfl) rfl rfl rfl rfl ?_; try simp only [Act.put]) | (refine wpList_stB 25 _ _ qT 0 [.int .i64 m0, .int .i64 m1, .int .i64 m2, .int .i64 m3] [.int .i64 m0, .int .i64 m2, .int .i64 p2, .int .i64 m3] ie hie TC (by rw [hsz]; rfl) (by simp) rfl rfl rfl rfl rfl ?_; try simp only [Act.put]))
            go_roundw
            case rel => exact ⟨j + 1, m0, m2, p2, m3, by go_num, by go_num, by omega, HN⟩
            case measure => simp [intOf]; omega
          · skip
            go_simp
            have UC : Blk wd.heap.size [.int .i64 0, .int .i64 0, .int .i64 0, .int .i64 0] (wd.alloc (.cells #[.int .i64 0, .int .i64 0, .int .i64 0, .int .i64 0] 25)) := Blk.new _ _ _
            have XA_ : Below wd.heap.size wd (wd.alloc (.cells #[.int .i64 0, .int .i64 0, .int .i64 0, .int .i64 0] 25)) := (Below.refl _ _).alloc (Nat.le_refl _) _
            have nTC : Hid (qT < wd.heap.size) := TC.lt
            have nBC : Hid (w.heap.size ≤ wd.heap.size) := BC.size
            replace TC := TC.later XA_ TC.lt
            replace BC := BC.trans (XA_.mono BC.size)
            clear XA_
            obtain ⟨qU, hqU⟩ : ∃ q_, wd.heap.size = q_ := ⟨_, rfl⟩
            obtain ⟨V0, hV0⟩ : ∃ Wz, (wd.alloc (.cells #[.int .i64 0, .int .i64 0, .int .i64 0, .int .i64 0] 25)) = Wz := ⟨_, rfl⟩
            rw [hV0] at TC UC BC ⊢
            rw [hqU] at UC nTC nBC ⊢
            clear hV0 hqU
            have mTC := nTC.out
            have mBC := nBC.out
            refine hK.out _ _ TC (fun hHeld2 => ?_)
            clear hK K hHeld
            have hHeld := hHeld2
            clear hHeld2
            try simp only [Act.put, List.setIfInBounds_toArray, List.set_cons_zero, List.set_cons_succ]
            refine wpAnyH_ready (rs := [8]) (by kernel_rfl) (by simp) ?_
            refine AllReadyH.cons (i := 8) rfl (fun K hK => ?_) AllReadyH.nil
            go_simp
            refine (RV _).mono ?_
            rintro en wv ⟨rfl, hb⟩
            replace TC := TC.later hb TC.lt
            replace UC := UC.later hb UC.lt
            replace BC := BC.trans (hb.mono BC.size)
            clear hb
            go_wp2_with fail
            refine hK.out _ _ TC (fun hHeld2 => ?_)
            clear hK K hHeld
            have hHeld := hHeld2
            clear hHeld2
            try simp only [Act.put, List.setIfInBounds_toArray, List.set_cons_zero, List.set_cons_succ]
            refine take_one 9 147 (v := ?_) rfl rfl (by kernel_rfl) (by kernel_rfl) (by kernel_rfl) (fun _ _ _ h => h) (Or.inl ⟨by rfl, ?_⟩) hHeld ?_
            rotate_left
            · intro w' hSw; (try dsimp only at hSw); go_simp; try with_reducible rfl
            try simp only [Act.put, List.setIfInBounds_toArray, List.set_cons_zero, List.set_cons_succ]
            refine take_one 10 157 (v := ?_) rfl rfl (by kernel_rfl) (by kernel_rfl) (by kernel_rfl) (fun _ _ _ h => h) (Or.inl ⟨by rfl, ?_⟩) hHeld ?_
            rotate_left
            · intro w' hSw; (try dsimp only at hSw); go_simp; try with_reducible rfl
            try simp only [Act.put, List.setIfInBounds_toArray, List.set_cons_zero, List.set_cons_succ]
            refine take_one 11 158 (v := ?_) rfl rfl (by kernel_rfl) (by kernel_rfl) (by kernel_rfl) (fun _ _ _ h => h) (Or.inl ⟨by rfl, ?_⟩) hHeld ?_
            rotate_left
            · intro w' hSw; (try dsimp only at hSw); go_simp; try with_reducible rfl
            try simp only [Act.put, List.setIfInBounds_toArray, List.set_cons_zero, List.set_cons_succ]
            have N_ : Blk qU [.int .i64 m0, .int .i64 m2, .int .i64 p2, .int .i64 m3] ((wv).setCells qU 0 [.int .i64 m0, .int .i64 m2, .int .i64 p2, .int .i64 m3]) := UC.part 0 [.int .i64 m0, .int .i64 m2, .int .i64 p2, .int .i64 m3] _ (by simp) rfl
            have TC_ := Blk.farS (q := qU) (by omega) [.int .i64 m0, .int .i64 m2, .int .i64 p2, .int .i64 m3] 0 _ TC
            have BC_ := below_sets (m := w.heap.size) (g := qU) (by omega) [.int .i64 m0, .int .i64 m2, .int .i64 p2, .int .i64 m3] 0 _ BC
            refine wpAnyH_ready (rs := [13]) (by kernel_rfl) (by simp) ?_
            refine AllReadyH.cons (i := 13) rfl (fun K hK => ?_) AllReadyH.nil
            refine stepB 25 _ _ (qU) 0 [.int .i64 0, .int .i64 0, .int .i64 0, .int .i64 0] [.int .i64 m0, .int .i64 m2, .int .i64 p2, .int .i64 m3] ie hie UC (by rw [hsz]; rfl) (by simp) rfl rfl rfl rfl rfl ?_
            try simp only [Act.put, List.setIfInBounds_toArray]
            obtain ⟨VU, hVU⟩ : ∃ Wz, (wv).setCells (qU) 0 [.int .i64 m0, .int .i64 m2, .int .i64 p2, .int .i64 m3] = Wz := ⟨_, rfl⟩
            rw [hVU] at N_ BC_ TC_ ⊢
            clear hVU UC BC TC
            have UC := N_
            have BC := BC_
            have TC := TC_
            clear N_ BC_ TC_
            refine hK.out _ _ TC (fun hHeld2 => ?_)
            clear hK K hHeld
            have hHeld := hHeld2
            clear hHeld2
            try simp only [Act.put, List.setIfInBounds_toArray, List.set_cons_zero, List.set_cons_succ]
            refine take_one 14 19 (v := ?_) rfl rfl (by kernel_rfl) (by kernel_rfl) (by kernel_rfl) (fun _ _ _ h => h) (Or.inl ⟨by rfl, ?_⟩) hHeld ?_
            rotate_left
            · intro w' hSw; (try dsimp only at hSw); go_simp; try with_reducible rfl
            try simp only [Act.put]
            refine wpAnyH_done (by kernel_rfl) ?_ _
            have q1_ := TC.at 0 rfl
            have q2_ := TC.at 1 rfl
            have q3_ := TC.at 2 rfl
            have q4_ := TC.at 3 rfl
            have q5_ := UC.at 0 rfl
            have q6_ := UC.at 1 rfl
            have q7_ := UC.at 2 rfl
            have q8_ := UC.at 3 rfl
            have c1 : decide (m3 < p2) = false := decide_eq_false (by omega)
            have c2 : decide (p2 < m2) = false := decide_eq_false (by omega)
            have TN : Blk qT [.int .i64 m0, .int .i64 m2, .int .i64 p2, .int .i64 m3] (VU.setCells qT 0 [.int .i64 m0, .int .i64 m2, .int .i64 p2, .int .i64 m3]) := TC.sets [.int .i64 m0, .int .i64 m2, .int .i64 p2, .int .i64 m3] rfl
            have BN := below_sets (m := w.heap.size) (g := qT) hq [.int .i64 m0, .int .i64 m2, .int .i64 p2, .int .i64 m3] 0 _ BC
            have HN := (show Hid _ from (show Blk qT [.int .i64 m0, .int .i64 m2, .int .i64 p2, .int .i64 m3] (VU.setCells qT 0 [.int .i64 m0, .int .i64 m2, .int .i64 p2, .int .i64 m3]) ∧ Below w.heap.size w (VU.setCells qT 0 [.int .i64 m0, .int .i64 m2, .int .i64 p2, .int .i64 m3]) ∧ w.heap.size ≤ qT from ⟨TN, BN, hq⟩))
            clear TN BN BC
            go_wp2_with (first | (refine wpList_ldB 25 _ qU 0 [.int .i64 m0, .int .i64 m2, .int .i64 p2, .int .i64 m3] [.int .i64 m0, .int .i64 m2, .int .i64 p2, .int .i64 m3] ie hie ag25 UC (by rw [hsz]; rfl) rfl rfl rfl rfl ?_; try simp only [Act.put]) | (refine wpList_stB 25 _ _ qT 0 [.int .i64 m0, .int .i64 m1, .int .i64 m2, .int .i64 m3] [.int .i64 m0, .int .i64 m2, .int .i64 p2, .int .i64 m3] ie hie TC (by rw [hsz]; rfl) (by simp) rfl rfl rfl rfl rfl ?_; try simp only [Act.put]))
            go_roundw
            case rel => exact ⟨j + 1, m0, m2, p2, m3, by go_num, by go_num, by omega, HN⟩
            case measure => simp [intOf]; omega
        · skip
          go_simp
          have UC : Blk wd.heap.size [.int .i64 0, .int .i64 0, .int .i64 0, .int .i64 0] (wd.alloc (.cells #[.int .i64 0, .int .i64 0, .int .i64 0, .int .i64 0] 25)) := Blk.new _ _ _
          have XA_ : Below wd.heap.size wd (wd.alloc (.cells #[.int .i64 0, .int .i64 0, .int .i64 0, .int .i64 0] 25)) := (Below.refl _ _).alloc (Nat.le_refl _) _
          have nTC : Hid (qT < wd.heap.size) := TC.lt
          have nBC : Hid (w.heap.size ≤ wd.heap.size) := BC.size
          replace TC := TC.later XA_ TC.lt
          replace BC := BC.trans (XA_.mono BC.size)
          clear XA_
          obtain ⟨qU, hqU⟩ : ∃ q_, wd.heap.size = q_ := ⟨_, rfl⟩
          obtain ⟨V0, hV0⟩ : ∃ Wz, (wd.alloc (.cells #[.int .i64 0, .int .i64 0, .int .i64 0, .int .i64 0] 25)) = Wz := ⟨_, rfl⟩
          rw [hV0] at TC UC BC ⊢
          rw [hqU] at UC nTC nBC ⊢
          clear hV0 hqU
          have mTC := nTC.out
          have mBC := nBC.out
          refine hK.out _ _ TC (fun hHeld2 => ?_)
          clear hK K hHeld
          have hHeld := hHeld2
          clear hHeld2
          try simp only [Act.put, List.setIfInBounds_toArray, List.set_cons_zero, List.set_cons_succ]
          refine wpAnyH_ready (rs := [5]) (by kernel_rfl) (by simp) ?_
          refine AllReadyH.cons (i := 5) rfl (fun K hK => ?_) AllReadyH.nil
          go_simp
          refine (at_go a len cap zs _ j (by omega) ((HZ.out.below BC).lt BC.size)).mono ?_
          rintro en wq ⟨z_, rfl, hz0, hz1, rfl⟩
          go_wp2_with fail
          refine hK.out _ _ TC (fun hHeld2 => ?_)
          clear hK K hHeld
          have hHeld := hHeld2
          clear hHeld2
          try simp only [Act.put, List.setIfInBounds_toArray, List.set_cons_zero, List.set_cons_succ]
          obtain ⟨le, hle⟩ : ∃ le, 1 + z_ % 9 = le := ⟨_, rfl⟩
          have hl1 : 1 ≤ le := by omega
          have hl2 : le ≤ 9 := by omega
          refine take_one 6 154 (v := (.int .i64 (z_ % 9))) rfl rfl (by kernel_rfl) (by kernel_rfl) (by kernel_rfl) (fun _ _ _ h => h) (Or.inl ⟨by rfl, ?_⟩) hHeld ?_
          · intro w' hSw; (try dsimp only at hSw); go_simp; exact Int.tmod_eq_emod_of_nonneg hz0
          try simp only [Act.put, List.setIfInBounds_toArray, List.set_cons_zero, List.set_cons_succ]
          refine take_one 7 155 (v := (.int .i64 le)) rfl rfl (by kernel_rfl) (by kernel_rfl) (by kernel_rfl) (fun _ _ _ h => h) (Or.inl ⟨by rfl, ?_⟩) hHeld ?_
          · intro w' hSw; (try dsimp only at hSw); go_simp; rw [← hle, IntKind.wrap_i64]; omega
          try simp only [Act.put, List.setIfInBounds_toArray, List.set_cons_zero, List.set_cons_succ]
          clear hle
          obtain ⟨p2, hV, hp1, hp2⟩ := rnV_again m0 m1 m2 m3 le hok hl1
          have RV := fun w => implRenewed_is m0 m1 m2 m3 m2 le w
          rw [hV] at RV
          clear hV
          refine wpAnyH_ready (rs := [8]) (by kernel_rfl) (by simp) ?_
          refine AllReadyH.cons (i := 8) rfl (fun K hK => ?_) AllReadyH.nil
          go_simp
          refine (RV _).mono ?_
          rintro en wv ⟨rfl, hb⟩
          replace TC := TC.later hb TC.lt
          replace UC := UC.later hb UC.lt
          replace BC := BC.trans (hb.mono BC.size)
          clear hb
          go_wp2_with fail
          refine hK.out _ _ TC (fun hHeld2 => ?_)
          clear hK K hHeld
          have hHeld := hHeld2
          clear hHeld2
          try simp only [Act.put, List.setIfInBounds_toArray, List.set_cons_zero, List.set_cons_succ]
          refine take_one 9 147 (v := ?_) rfl rfl (by kernel_rfl) (by kernel_rfl) (by kernel_rfl) (fun _ _ _ h => h) (Or.inl ⟨by rfl, ?_⟩) hHeld ?_
          rotate_left
          · intro w' hSw; (try dsimp only at hSw); go_simp; try with_reducible rfl
          try simp only [Act.put, List.setIfInBounds_toArray, List.set_cons_zero, List.set_cons_succ]
          refine take_one 10 157 (v := ?_) rfl rfl (by kernel_rfl) (by kernel_rfl) (by kernel_rfl) (fun _ _ _ h => h) (Or.inl ⟨by rfl, ?_⟩) hHeld ?_
          rotate_left
          · intro w' hSw; (try dsimp only at hSw); go_simp; try with_reducible rfl
          try simp only [Act.put, List.setIfInBounds_toArray, List.set_cons_zero, List.set_cons_succ]
          refine take_one 11 158 (v := ?_) rfl rfl (by kernel_rfl) (by kernel_rfl) (by kernel_rfl) (fun _ _ _ h => h) (Or.inl ⟨by rfl, ?_⟩) hHeld ?_
          rotate_left
          · intro w' hSw; (try dsimp only at hSw); go_simp; try with_reducible rfl
          try simp only [Act.put, List.setIfInBounds_toArray, List.set_cons_zero, List.set_cons_succ]
          have N_ : Blk qU [.int .i64 m0, .int .i64 m2, .int .i64 p2, .int .i64 m3] ((wv).setCells qU 0 [.int .i64 m0, .int .i64 m2, .int .i64 p2, .int .i64 m3]) := UC.part 0 [.int .i64 m0, .int .i64 m2, .int .i64 p2, .int .i64 m3] _ (by simp) rfl
          have TC_ := Blk.farS (q := qU) (by omega) [.int .i64 m0, .int .i64 m2, .int .i64 p2, .int .i64 m3] 0 _ TC
          have BC_ := below_sets (m := w.heap.size) (g := qU) (by omega) [.int .i64 m0, .int .i64 m2, .int .i64 p2, .int .i64 m3] 0 _ BC
          refine wpAnyH_ready (rs := [13]) (by kernel_rfl) (by simp) ?_
          refine AllReadyH.cons (i := 13) rfl (fun K hK => ?_) AllReadyH.nil
          refine stepB 25 _ _ (qU) 0 [.int .i64 0, .int .i64 0, .int .i64 0, .int .i64 0] [.int .i64 m0, .int .i64 m2, .int .i64 p2, .int .i64 m3] ie hie UC (by rw [hsz]; rfl) (by simp) rfl rfl rfl rfl rfl ?_
          try simp only [Act.put, List.setIfInBounds_toArray]
          obtain ⟨VU, hVU⟩ : ∃ Wz, (wv).setCells (qU) 0 [.int .i64 m0, .int .i64 m2, .int .i64 p2, .int .i64 m3] = Wz := ⟨_, rfl⟩
          rw [hVU] at N_ BC_ TC_ ⊢
          clear hVU UC BC TC
          have UC := N_
          have BC := BC_
          have TC := TC_
          clear N_ BC_ TC_
          refine hK.out _ _ TC (fun hHeld2 => ?_)
          clear hK K hHeld
          have hHeld := hHeld2
          clear hHeld2
          try simp only [Act.put, List.setIfInBounds_toArray, List.set_cons_zero, List.set_cons_succ]
          refine take_one 14 19 (v := ?_) rfl rfl (by kernel_rfl) (by kernel_rfl) (by kernel_rfl) (fun _ _ _ h => h) (Or.inl ⟨by rfl, ?_⟩) hHeld ?_
          rotate_left
          · intro w' hSw; (try dsimp only at hSw); go_simp; try with_reducible rfl
          try simp only [Act.put]
          refine wpAnyH_done (by kernel_rfl) ?_ _
          have q1_ := TC.at 0 rfl
          have q2_ := TC.at 1 rfl
          have q3_ := TC.at 2 rfl
          have q4_ := TC.at 3 rfl
          have q5_ := UC.at 0 rfl
          have q6_ := UC.at 1 rfl
          have q7_ := UC.at 2 rfl
          have q8_ := UC.at 3 rfl
          have c1 : decide (m3 < p2) = false := decide_eq_false (by omega)
          have c2 : decide (p2 < m2) = false := decide_eq_false (by omega)
          have TN : Blk qT [.int .i64 m0, .int .i64 m2, .int .i64 p2, .int .i64 m3] (VU.setCells qT 0 [.int .i64 m0, .int .i64 m2, .int .i64 p2, .int .i64 m3]) := TC.sets [.int .i64 m0, .int .i64 m2, .int .i64 p2, .int .i64 m3] rfl
          have BN := below_sets (m := w.heap.size) (g := qT) hq [.int .i64 m0, .int .i64 m2, .int .i64 p2, .int .i64 m3] 0 _ BC
          have HN := (show Hid _ from (show Blk qT [.int .i64 m0, .int .i64 m2, .int .i64 p2, .int .i64 m3] (VU.setCells qT 0 [.int .i64 m0, .int .i64 m2, .int .i64 p2, .int .i64 m3]) ∧ Below w.heap.size w (VU.setCells qT 0 [.int .i64 m0, .int .i64 m2, .int .i64 p2, .int .i64 m3]) ∧ w.heap.size ≤ qT from ⟨TN, BN, hq⟩))
          clear TN BN BC
          go_wp2_with (first | (refine wpList_ldB 25 _ qU 0 [.int .i64 m0, .int .i64 m2, .int .i64 p2, .int .i64 m3] [.int .i64 m0, .int .i64 m2, .int .i64 p2, .int .i64 m3] ie hie ag25 UC (by rw [hsz]; rfl) rfl rfl rfl rfl ?_; try simp only [Act.put]) | (refine wpList_stB 25 _ _ qT 0 [.int .i64 m0, .int .i64 m1, .int .i64 m2, .int .i64 m3] [.int .i64 m0, .int .i64 m2, .int .i64 p2, .int .i64 m3] ie hie TC (by rw [hsz]; rfl) (by simp) rfl rfl rfl rfl rfl ?_; try simp only [Act.put]))
          go_roundw
          case rel => exact ⟨j + 1, m0, m2, p2, m3, by go_num, by go_num, by omega, HN⟩
          case measure => simp [intOf]; omega
    · have hjd : decide ((j : Int) < 30) = false := by simp; omega
      clear TC
      go_wp2_with fail
      refine (drawLv a len cap zs _ ((HZ.out.below BC).lt BC.size)).mono ?_
      rintro en wL ⟨l0, l1, l2, l3, lm, lk, rfl, hb⟩
      replace BC := BC.trans (hb.mono BC.size)
      clear hb
      obtain ⟨qL, hqL⟩ : ∃ q_, wL.heap.size = q_ := ⟨_, rfl⟩
      obtain ⟨VLC, hVLC⟩ : ∃ v, wL.alloc (.cells #[.int .i64 l0, .int .i64 l1, .int .i64 l2, .int .i64 l3] 25) = v := ⟨_, rfl⟩
      have XA_ : Below wL.heap.size wL VLC := by rw [← hVLC]; exact (Below.refl _ _).alloc (Nat.le_refl _) _
      have qLW : w.heap.size ≤ qL := by have h_ := BC.size; omega
      have LC : Blk qL [.int .i64 l0, .int .i64 l1, .int .i64 l2, .int .i64 l3] VLC := by rw [← hVLC, ← hqL]; exact Blk.new _ _ _
      replace BC := BC.trans (XA_.mono BC.size)
      clear XA_
      go_wp2_with fail
      try rw [hVLC]
      try rw [hqL]
      clear hVLC hqL
      clear HZ
      have RI := implLives_is l0 l1 l2 l3 lm lk
      have RS := specLives_is l0 l1 l2 l3 lm lk
      generalize tmL l0 l1 l2 l3 lm lk = tb at RI RS
      have R0 := implLives_is l0 l1 l2 l3 lm 0
      have R7 := implLives_is l0 l1 l2 l3 lm 7
      have HM := tmL_more l0 l1 l2 l3 lm
      generalize tmL l0 l1 l2 l3 lm 0 = t0 at R0 HM
      generalize tmL l0 l1 l2 l3 lm 7 = t7 at R7 HM
      replace LC := LC.drew
      replace BC := BC.drew
      refine wp_region_held_drew (S := (fun Vw => Blk qL [.int .i64 l0, .int .i64 l1, .int .i64 l2, .int .i64 l3] Vw)) (by kernel_rfl) LC (fun hHeld => ?_)
      generalize World.drew VLC = wd at *
      refine take_one 0 184 (v := ?_) rfl rfl (by kernel_rfl) (by kernel_rfl) (by kernel_rfl) (fun _ _ _ h => h) (Or.inl ⟨by rfl, ?_⟩) hHeld ?_
      rotate_left
      · intro w' hSw; (try dsimp only at hSw); have d0 := hSw.at 0 rfl; have d1 := hSw.at 1 rfl; have d2 := hSw.at 2 rfl; have d3 := hSw.at 3 rfl; go_simp; try with_reducible rfl
      try simp only [Act.put, List.setIfInBounds_toArray, List.set_cons_zero, List.set_cons_succ]
      refine take_one 1 185 (v := ?_) rfl rfl (by kernel_rfl) (by kernel_rfl) (by kernel_rfl) (fun _ _ _ h => h) (Or.inl ⟨by rfl, ?_⟩) hHeld ?_
      rotate_left
      · intro w' hSw; (try dsimp only at hSw); have d0 := hSw.at 0 rfl; have d1 := hSw.at 1 rfl; have d2 := hSw.at 2 rfl; have d3 := hSw.at 3 rfl; go_simp; try with_reducible rfl
      try simp only [Act.put, List.setIfInBounds_toArray, List.set_cons_zero, List.set_cons_succ]
      refine take_one 2 186 (v := ?_) rfl rfl (by kernel_rfl) (by kernel_rfl) (by kernel_rfl) (fun _ _ _ h => h) (Or.inl ⟨by rfl, ?_⟩) hHeld ?_
      rotate_left
      · intro w' hSw; (try dsimp only at hSw); have d0 := hSw.at 0 rfl; have d1 := hSw.at 1 rfl; have d2 := hSw.at 2 rfl; have d3 := hSw.at 3 rfl; go_simp; try with_reducible rfl
      try simp only [Act.put, List.setIfInBounds_toArray, List.set_cons_zero, List.set_cons_succ]
      refine take_one 4 188 (v := ?_) rfl rfl (by kernel_rfl) (by kernel_rfl) (by kernel_rfl) (fun _ _ _ h => h) (Or.inl ⟨by rfl, ?_⟩) hHeld ?_
      rotate_left
      · intro w' hSw; (try dsimp only at hSw); have d0 := hSw.at 0 rfl; have d1 := hSw.at 1 rfl; have d2 := hSw.at 2 rfl; have d3 := hSw.at 3 rfl; go_simp; try with_reducible rfl
      try simp only [Act.put, List.setIfInBounds_toArray, List.set_cons_zero, List.set_cons_succ]
      refine take_one 5 189 (v := ?_) rfl rfl (by kernel_rfl) (by kernel_rfl) (by kernel_rfl) (fun _ _ _ h => h) (Or.inl ⟨by rfl, ?_⟩) hHeld ?_
      rotate_left
      · intro w' hSw; (try dsimp only at hSw); have d0 := hSw.at 0 rfl; have d1 := hSw.at 1 rfl; have d2 := hSw.at 2 rfl; have d3 := hSw.at 3 rfl; go_simp; try with_reducible rfl
      try simp only [Act.put, List.setIfInBounds_toArray, List.set_cons_zero, List.set_cons_succ]
      refine take_one 6 190 (v := ?_) rfl rfl (by kernel_rfl) (by kernel_rfl) (by kernel_rfl) (fun _ _ _ h => h) (Or.inl ⟨by rfl, ?_⟩) hHeld ?_
      rotate_left
      · intro w' hSw; (try dsimp only at hSw); have d0 := hSw.at 0 rfl; have d1 := hSw.at 1 rfl; have d2 := hSw.at 2 rfl; have d3 := hSw.at 3 rfl; go_simp; try with_reducible rfl
      try simp only [Act.put, List.setIfInBounds_toArray, List.set_cons_zero, List.set_cons_succ]
      refine wpAnyH_ready (rs := [3]) (by kernel_rfl) (by simp) ?_
      refine AllReadyH.cons (i := 3) rfl (fun K hK => ?_) AllReadyH.nil
      go_simp
      refine (RI _).mono ?_
      rintro en wi ⟨rfl, hb⟩
      replace LC := LC.later hb LC.lt
      replace BC := BC.trans (hb.mono BC.size)
      clear hb
      go_wp2_with fail
      refine hK.out _ _ LC (fun hHeld2 => ?_)
      clear hK K hHeld
      have hHeld := hHeld2
      clear hHeld2
      try simp only [Act.put, List.setIfInBounds_toArray, List.set_cons_zero, List.set_cons_succ]
      refine wpAnyH_ready (rs := [7]) (by kernel_rfl) (by simp) ?_
      refine AllReadyH.cons (i := 7) rfl (fun K hK => ?_) AllReadyH.nil
      go_simp
      refine (RS _).mono ?_
      rintro en ws ⟨rfl, hb⟩
      replace LC := LC.later hb LC.lt
      replace BC := BC.trans (hb.mono BC.size)
      clear hb
      go_wp2_with fail
      refine hK.out _ _ LC (fun hHeld2 => ?_)
      clear hK K hHeld
      have hHeld := hHeld2
      clear hHeld2
      try simp only [Act.put, List.setIfInBounds_toArray, List.set_cons_zero, List.set_cons_succ]
      refine take_one 8 192 (v := (.bool true)) rfl rfl (by kernel_rfl) (by kernel_rfl) (by kernel_rfl) (fun _ _ _ h => h) (Or.inl ⟨by rfl, ?_⟩) hHeld ?_
      · intro w' hSw; (try dsimp only at hSw); go_simp; skip
      try simp only [Act.put, List.setIfInBounds_toArray, List.set_cons_zero, List.set_cons_succ]
      refine take_one 9 193 (v := ?_) rfl rfl (by kernel_rfl) (by kernel_rfl) (by kernel_rfl) (fun _ _ _ h => h) (Or.inl ⟨by rfl, ?_⟩) hHeld ?_
      rotate_left
      · intro w' hSw; (try dsimp only at hSw); go_simp; try with_reducible rfl
      try simp only [Act.put, List.setIfInBounds_toArray, List.set_cons_zero, List.set_cons_succ]
      refine take_one 10 194 (v := ?_) rfl rfl (by kernel_rfl) (by kernel_rfl) (by kernel_rfl) (fun _ _ _ h => h) (Or.inl ⟨by rfl, ?_⟩) hHeld ?_
      rotate_left
      · intro w' hSw; (try dsimp only at hSw); have d0 := hSw.at 0 rfl; have d1 := hSw.at 1 rfl; have d2 := hSw.at 2 rfl; have d3 := hSw.at 3 rfl; go_simp; try with_reducible rfl
      try simp only [Act.put, List.setIfInBounds_toArray, List.set_cons_zero, List.set_cons_succ]
      refine take_one 11 195 (v := ?_) rfl rfl (by kernel_rfl) (by kernel_rfl) (by kernel_rfl) (fun _ _ _ h => h) (Or.inl ⟨by rfl, ?_⟩) hHeld ?_
      rotate_left
      · intro w' hSw; (try dsimp only at hSw); have d0 := hSw.at 0 rfl; have d1 := hSw.at 1 rfl; have d2 := hSw.at 2 rfl; have d3 := hSw.at 3 rfl; go_simp; try with_reducible rfl
      try simp only [Act.put, List.setIfInBounds_toArray, List.set_cons_zero, List.set_cons_succ]
      refine wpAnyH_ready (rs := [12]) (by kernel_rfl) (by simp) ?_
      refine AllReadyH.cons (i := 12) rfl (fun K hK => ?_) AllReadyH.nil
      go_simp
      refine (R0 _).mono ?_
      rintro en wo ⟨rfl, hb⟩
      replace LC := LC.later hb LC.lt
      replace BC := BC.trans (hb.mono BC.size)
      clear hb
      go_wp2_with fail
      refine hK.out _ _ LC (fun hHeld2 => ?_)
      clear hK K hHeld
      have hHeld := hHeld2
      clear hHeld2
      try simp only [Act.put, List.setIfInBounds_toArray, List.set_cons_zero, List.set_cons_succ]
      cases t0 with
      | true =>
        refine take_one 13 197 (v := ?_) rfl rfl (by kernel_rfl) (by kernel_rfl) (by kernel_rfl) (fun _ _ _ h => h) (Or.inl ⟨by rfl, ?_⟩) hHeld ?_
        rotate_left
        · intro w' hSw; (try dsimp only at hSw); go_simp; try with_reducible rfl
        try simp only [Act.put, List.setIfInBounds_toArray, List.set_cons_zero, List.set_cons_succ]
        refine take_one 14 198 (v := ?_) rfl rfl (by kernel_rfl) (by kernel_rfl) (by kernel_rfl) (fun _ _ _ h => h) (Or.inl ⟨by rfl, ?_⟩) hHeld ?_
        rotate_left
        · intro w' hSw; (try dsimp only at hSw); go_simp; try with_reducible rfl
        try simp only [Act.put, List.setIfInBounds_toArray, List.set_cons_zero, List.set_cons_succ]
        have h7 : t7 = true := HM rfl
        subst h7
        refine take_one 15 199 (v := ?_) rfl rfl (by kernel_rfl) (by kernel_rfl) (by kernel_rfl) (fun _ _ _ h => h) (Or.inl ⟨by rfl, ?_⟩) hHeld ?_
        rotate_left
        · intro w' hSw; (try dsimp only at hSw); have d0 := hSw.at 0 rfl; have d1 := hSw.at 1 rfl; have d2 := hSw.at 2 rfl; have d3 := hSw.at 3 rfl; go_simp; try with_reducible rfl
        try simp only [Act.put, List.setIfInBounds_toArray, List.set_cons_zero, List.set_cons_succ]
        refine take_one 16 200 (v := ?_) rfl rfl (by kernel_rfl) (by kernel_rfl) (by kernel_rfl) (fun _ _ _ h => h) (Or.inl ⟨by rfl, ?_⟩) hHeld ?_
        rotate_left
        · intro w' hSw; (try dsimp only at hSw); have d0 := hSw.at 0 rfl; have d1 := hSw.at 1 rfl; have d2 := hSw.at 2 rfl; have d3 := hSw.at 3 rfl; go_simp; try with_reducible rfl
        try simp only [Act.put, List.setIfInBounds_toArray, List.set_cons_zero, List.set_cons_succ]
        refine wpAnyH_ready (rs := [17]) (by kernel_rfl) (by simp) ?_
        refine AllReadyH.cons (i := 17) rfl (fun K hK => ?_) AllReadyH.nil
        go_simp
        refine (R7 _).mono ?_
        rintro en w7 ⟨rfl, hb⟩
        replace LC := LC.later hb LC.lt
        replace BC := BC.trans (hb.mono BC.size)
        clear hb
        go_wp2_with fail
        refine hK.out _ _ LC (fun hHeld2 => ?_)
        clear hK K hHeld
        have hHeld := hHeld2
        clear hHeld2
        try simp only [Act.put, List.setIfInBounds_toArray, List.set_cons_zero, List.set_cons_succ]
        refine take_one 18 202 (v := ?_) rfl rfl (by kernel_rfl) (by kernel_rfl) (by kernel_rfl) (fun _ _ _ h => h) (Or.inl ⟨by rfl, ?_⟩) hHeld ?_
        rotate_left
        · intro w' hSw; (try dsimp only at hSw); go_simp; try with_reducible rfl
        try simp only [Act.put, List.setIfInBounds_toArray, List.set_cons_zero, List.set_cons_succ]
        refine take_one 19 203 (v := ?_) rfl rfl (by kernel_rfl) (by kernel_rfl) (by kernel_rfl) (fun _ _ _ h => h) (Or.inl ⟨by rfl, ?_⟩) hHeld ?_
        rotate_left
        · intro w' hSw; (try dsimp only at hSw); go_simp; try with_reducible rfl
        try simp only [Act.put, List.setIfInBounds_toArray, List.set_cons_zero, List.set_cons_succ]
        refine take_one 20 2 (v := ?_) rfl rfl (by kernel_rfl) (by kernel_rfl) (by kernel_rfl) (fun _ _ _ h => h) (Or.inl ⟨by rfl, ?_⟩) hHeld ?_
        rotate_left
        · intro w' hSw; (try dsimp only at hSw); go_simp; try with_reducible rfl
        try simp only [Act.put, List.setIfInBounds_toArray, List.set_cons_zero, List.set_cons_succ]
        refine wpAnyH_done (by kernel_rfl) ?_ _
        go_wp2_with fail
        go_ret
        exact ⟨rfl, BC⟩
      | false =>
        refine take_one 13 197 (v := ?_) rfl rfl (by kernel_rfl) (by kernel_rfl) (by kernel_rfl) (fun _ _ _ h => h) (Or.inl ⟨by rfl, ?_⟩) hHeld ?_
        rotate_left
        · intro w' hSw; (try dsimp only at hSw); go_simp; try with_reducible rfl
        try simp only [Act.put, List.setIfInBounds_toArray, List.set_cons_zero, List.set_cons_succ]
        refine take_one 14 198 (v := ?_) rfl rfl (by kernel_rfl) (by kernel_rfl) (by kernel_rfl) (fun _ _ _ h => h) (Or.inl ⟨by rfl, ?_⟩) hHeld ?_
        rotate_left
        · intro w' hSw; (try dsimp only at hSw); go_simp; try with_reducible rfl
        try simp only [Act.put, List.setIfInBounds_toArray, List.set_cons_zero, List.set_cons_succ]
        refine skip_one 15 199 rfl rfl (by kernel_rfl) (by kernel_rfl) (by kernel_rfl) (fun _ _ _ h => h) (unwanted (c := true) rfl rfl (by simp) rfl) hHeld ?_
        try simp only [Act.put, List.setIfInBounds_toArray, List.set_cons_zero, List.set_cons_succ]
        refine skip_one 16 200 rfl rfl (by kernel_rfl) (by kernel_rfl) (by kernel_rfl) (fun _ _ _ h => h) (unwanted (c := true) rfl rfl (by simp) rfl) hHeld ?_
        try simp only [Act.put, List.setIfInBounds_toArray, List.set_cons_zero, List.set_cons_succ]
        refine skip_one 17 201 rfl rfl (by kernel_rfl) (by kernel_rfl) (by kernel_rfl) (fun _ _ _ h => h) (unwanted (c := true) rfl rfl (by simp) rfl) hHeld ?_
        try simp only [Act.put, List.setIfInBounds_toArray, List.set_cons_zero, List.set_cons_succ]
        refine take_one 18 202 (v := ?_) rfl rfl (by kernel_rfl) (by kernel_rfl) (by kernel_rfl) (fun _ _ _ h => h) (Or.inl ⟨by rfl, ?_⟩) hHeld ?_
        rotate_left
        · intro w' hSw; (try dsimp only at hSw); go_simp; try with_reducible rfl
        try simp only [Act.put, List.setIfInBounds_toArray, List.set_cons_zero, List.set_cons_succ]
        refine take_one 19 203 (v := ?_) rfl rfl (by kernel_rfl) (by kernel_rfl) (by kernel_rfl) (fun _ _ _ h => h) (Or.inl ⟨by rfl, ?_⟩) hHeld ?_
        rotate_left
        · intro w' hSw; (try dsimp only at hSw); go_simp; try with_reducible rfl
        try simp only [Act.put, List.setIfInBounds_toArray, List.set_cons_zero, List.set_cons_succ]
        refine take_one 20 2 (v := ?_) rfl rfl (by kernel_rfl) (by kernel_rfl) (by kernel_rfl) (fun _ _ _ h => h) (Or.inl ⟨by rfl, ?_⟩) hHeld ?_
        rotate_left
        · intro w' hSw; (try dsimp only at hSw); go_simp; try with_reducible rfl
        try simp only [Act.put, List.setIfInBounds_toArray, List.set_cons_zero, List.set_cons_succ]
        refine wpAnyH_done (by kernel_rfl) ?_ _
        go_wp2_with fail
        go_ret
        exact ⟨rfl, BC⟩
end Go.Proofs.Ytaeecaebjafnpaa
