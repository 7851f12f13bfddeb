/- Chapter 16: the law on the text of times, step by step. -/
import Derived.Test.YtaeecaebjafnpaaTmN
import Derived.Test.YtaeecaebjafnpaaTm6
import Derived.Test.YtaeecaebjafnpaaTm7
import Derived.Test.YtaeecaebjafnpaaTd1
set_option linter.unusedVariables false
set_option maxRecDepth 100000
namespace Go.Proofs.Ytaeecaebjafnpaa
open Go Go.RowKit Own Var Term Draw

set_option maxHeartbeats 25600000 in
theorem text_at (a : Option Addr) (len cap : Nat) (zs : List Int) (w : World) (hl : len ≤ 1048576) (hz : CodeAt w w.heap.size a len zs) : Calls Try.prog 4 #[.slice a len cap] w fun en w' => en = .returned (.bool true) ∧ Below w.heap.size w w' := by
  have HZ : Hid (CodeAt w w.heap.size a len zs) := hz
  clear hz
  have BC := Below.refl w.heap.size w
  go_enter Try.func4, Try.ntmps4
  go_wp2_with fail
  refine (big_go a len cap _ hl).mono ?_
  rintro en w0 ⟨rfl, rfl⟩
  go_wp2_with fail
  refine (drawSh a len cap zs _ ((HZ.out.below BC).lt BC.size)).mono ?_
  rintro en w1 ⟨a0, b0, c0, d0, rfl, hb⟩
  replace BC := BC.trans (hb.mono BC.size)
  clear hb
  obtain ⟨qT, hqT⟩ : ∃ q_, w1.heap.size = q_ := ⟨_, rfl⟩
  obtain ⟨VTC, hVTC⟩ : ∃ v, w1.alloc (.cells #[.int .i64 a0, .int .i64 b0, .int .i64 c0, .int .i64 d0] 25) = v := ⟨_, rfl⟩
  have XA_ : Below w1.heap.size w1 VTC := by rw [← hVTC]; exact (Below.refl _ _).alloc (Nat.le_refl _) _
  have qTW : w.heap.size ≤ qT := by have h_ := BC.size; omega
  have TC : Blk qT [.int .i64 a0, .int .i64 b0, .int .i64 c0, .int .i64 d0] VTC := by rw [← hVTC, ← hqT]; exact Blk.new _ _ _
  replace BC := BC.trans (XA_.mono BC.size)
  clear XA_
  have q1_ := TC.at 0 rfl
  have q2_ := TC.at 1 rfl
  have q3_ := TC.at 2 rfl
  have q4_ := TC.at 3 rfl
  have RO := specOk_is a0 b0 c0 d0
  have HS := tmT_size a0 b0 c0 d0
  obtain ⟨p0, p1, p2, p3, hV, HP⟩ := shown_form a0 b0 c0 d0
  have RI := fun w => implRead_is (tmT a0 b0 c0 d0) w (by omega)
  rw [hV] at RI
  clear hV
  have RT := implShow_is a0 b0 c0 d0
  generalize tmT a0 b0 c0 d0 = T0 at RT RI HS
  generalize hok : tmOk a0 b0 c0 d0 = ok at RO RI HP
  go_wp2_with fail
  try rw [hVTC]
  try rw [hqT]
  clear hVTC hqT
  refine (RT _).mono ?_
  rintro en w2 ⟨rfl, hb⟩
  replace TC := TC.later hb TC.lt
  replace BC := BC.trans (hb.mono BC.size)
  clear hb
  clear q1_ q2_ q3_ q4_
  go_wp2_with fail
  refine (RI _).mono ?_
  rintro en w3 ⟨rfl, hb⟩
  replace TC := TC.later hb TC.lt
  replace BC := BC.trans (hb.mono BC.size)
  clear hb
  obtain ⟨qR, hqR⟩ : ∃ q_, w3.heap.size = q_ := ⟨_, rfl⟩
  obtain ⟨VUC, hVUC⟩ : ∃ v, w3.alloc (.cells #[.int .i64 p0, .int .i64 p1, .int .i64 p2, .int .i64 p3] 25) = v := ⟨_, rfl⟩
  have XA_ : Below w3.heap.size w3 VUC := by rw [← hVUC]; exact (Below.refl _ _).alloc (Nat.le_refl _) _
  have qRW : w.heap.size ≤ qR := by have h_ := BC.size; omega
  have TCqR : qT < qR := by have h_ := TC.lt; omega
  replace TC := TC.later XA_ TC.lt
  have UC : Blk qR [.int .i64 p0, .int .i64 p1, .int .i64 p2, .int .i64 p3] VUC := by rw [← hVUC, ← hqR]; exact Blk.new _ _ _
  replace BC := BC.trans (XA_.mono BC.size)
  clear XA_
  go_wp2_with fail
  try rw [hVUC]
  try rw [hqR]
  clear hVUC hqR
  refine (drawRd a len cap zs _ ((HZ.out.below BC).lt BC.size)).mono ?_
  rintro en w4 ⟨s, hs, rfl, hb⟩
  replace TC := TC.later hb TC.lt
  replace UC := UC.later hb UC.lt
  replace BC := BC.trans (hb.mono BC.size)
  clear hb
  obtain ⟨x, y, z, q, kk, hV, HK⟩ := read_form s
  have RR := fun w => implRead_is s w (by omega)
  have RS := fun w => specRead_is s w (by omega)
  rw [hV] at RR RS
  clear hV
  go_wp2_with fail
  refine (RR _).mono ?_
  rintro en w5 ⟨rfl, hb⟩
  replace TC := TC.later hb TC.lt
  replace UC := UC.later hb UC.lt
  replace BC := BC.trans (hb.mono BC.size)
  clear hb
  obtain ⟨qV, hqV⟩ : ∃ q_, w5.heap.size = q_ := ⟨_, rfl⟩
  obtain ⟨VVC, hVVC⟩ : ∃ v, w5.alloc (.cells #[.int .i64 x, .int .i64 y, .int .i64 z, .int .i64 q] 25) = v := ⟨_, rfl⟩
  have XA_ : Below w5.heap.size w5 VVC := by rw [← hVVC]; exact (Below.refl _ _).alloc (Nat.le_refl _) _
  have qVW : w.heap.size ≤ qV := by have h_ := BC.size; omega
  have TCqV : qT < qV := by have h_ := TC.lt; omega
  replace TC := TC.later XA_ TC.lt
  have UCqV : qR < qV := by have h_ := UC.lt; omega
  replace UC := UC.later XA_ UC.lt
  have VC : Blk qV [.int .i64 x, .int .i64 y, .int .i64 z, .int .i64 q] VVC := by rw [← hVVC, ← hqV]; exact Blk.new _ _ _
  replace BC := BC.trans (XA_.mono BC.size)
  clear XA_
  go_wp2_with fail
  try rw [hVVC]
  try rw [hqV]
  clear hVVC hqV
  refine (RS _).mono ?_
  rintro en w6 ⟨rfl, hb⟩
  replace TC := TC.later hb TC.lt
  replace UC := UC.later hb UC.lt
  replace VC := VC.later hb VC.lt
  replace BC := BC.trans (hb.mono BC.size)
  clear hb
  obtain ⟨qY, hqY⟩ : ∃ q_, w6.heap.size = q_ := ⟨_, rfl⟩
  obtain ⟨VYC, hVYC⟩ : ∃ v, w6.alloc (.cells #[.int .i64 x, .int .i64 y, .int .i64 z, .int .i64 q] 25) = v := ⟨_, rfl⟩
  have XA_ : Below w6.heap.size w6 VYC := by rw [← hVYC]; exact (Below.refl _ _).alloc (Nat.le_refl _) _
  have qYW : w.heap.size ≤ qY := by have h_ := BC.size; omega
  have TCqY : qT < qY := by have h_ := TC.lt; omega
  replace TC := TC.later XA_ TC.lt
  have UCqY : qR < qY := by have h_ := UC.lt; omega
  replace UC := UC.later XA_ UC.lt
  have VCqY : qV < qY := by have h_ := VC.lt; omega
  replace VC := VC.later XA_ VC.lt
  have YC : Blk qY [.int .i64 x, .int .i64 y, .int .i64 z, .int .i64 q] VYC := by rw [← hVYC, ← hqY]; exact Blk.new _ _ _
  replace BC := BC.trans (XA_.mono BC.size)
  clear XA_
  have q5_ := TC.at 0 rfl
  have q6_ := TC.at 1 rfl
  have q7_ := TC.at 2 rfl
  have q8_ := TC.at 3 rfl
  clear RR RS RI RT HZ
  go_wp2_with fail
  try rw [hVYC]
  try rw [hqY]
  clear hVYC hqY
  refine (RO _).mono ?_
  rintro en w7 ⟨rfl, hb⟩
  replace TC := TC.later hb TC.lt
  replace UC := UC.later hb UC.lt
  replace VC := VC.later hb VC.lt
  replace YC := YC.later hb YC.lt
  replace BC := BC.trans (hb.mono BC.size)
  clear hb
  clear q5_ q6_ q7_ q8_
  clear RO
  cases ok with
  | true =>
    obtain ⟨h0, h1, h2, h3⟩ := HP rfl
    subst h0
    subst h1
    subst h2
    subst h3
    have q9_ := UC.at 0 rfl
    have q10_ := UC.at 1 rfl
    have q11_ := UC.at 2 rfl
    have q12_ := UC.at 3 rfl
    have q13_ := TC.at 0 rfl
    have q14_ := TC.at 1 rfl
    have q15_ := TC.at 2 rfl
    have q16_ := TC.at 3 rfl
    cases kk with
    | true =>
      have hT := HK rfl
      have RY := implShow_is x y z q
      rw [hT] at RY
      clear hT HK HP
      have q17_ := VC.at 0 rfl
      have q18_ := VC.at 1 rfl
      have q19_ := VC.at 2 rfl
      have q20_ := VC.at 3 rfl
      go_wp2_with fail
      refine (RY _).mono ?_
      rintro en w8 ⟨rfl, hb⟩
      replace TC := TC.later hb TC.lt
      replace UC := UC.later hb UC.lt
      replace VC := VC.later hb VC.lt
      replace YC := YC.later hb YC.lt
      replace BC := BC.trans (hb.mono BC.size)
      clear hb
      clear q9_ q10_ q11_ q12_ q13_ q14_ q15_ q16_ q17_ q18_ q19_ q20_
      go_wp2
      go_ret
      exact ⟨rfl, BC⟩
    | false =>
      clear HK HP
      go_wp2
      go_ret
      exact ⟨rfl, BC⟩
  | false =>
    have q9_ := UC.at 0 rfl
    have q10_ := UC.at 1 rfl
    have q11_ := UC.at 2 rfl
    have q12_ := UC.at 3 rfl
    have q13_ := TC.at 0 rfl
    have q14_ := TC.at 1 rfl
    have q15_ := TC.at 2 rfl
    have q16_ := TC.at 3 rfl
    cases kk with
    | true =>
      have hT := HK rfl
      have RY := implShow_is x y z q
      rw [hT] at RY
      clear hT HK HP
      have q17_ := VC.at 0 rfl
      have q18_ := VC.at 1 rfl
      have q19_ := VC.at 2 rfl
      have q20_ := VC.at 3 rfl
      go_wp2_with fail
      refine (RY _).mono ?_
      rintro en w8 ⟨rfl, hb⟩
      replace TC := TC.later hb TC.lt
      replace UC := UC.later hb UC.lt
      replace VC := VC.later hb VC.lt
      replace YC := YC.later hb YC.lt
      replace BC := BC.trans (hb.mono BC.size)
      clear hb
      clear q9_ q10_ q11_ q12_ q13_ q14_ q15_ q16_ q17_ q18_ q19_ q20_
      go_wp2
      go_ret
      exact ⟨rfl, BC⟩
    | false =>
      clear HK HP
      go_wp2
      go_ret
      exact ⟨rfl, BC⟩
end Go.Proofs.Ytaeecaebjafnpaa
