/- The law of LearnKey, step by step. -/
import Derived.Test.YtkekfogepdhjhaaLearn4
import Derived.Test.YtkekfogepdhjhaaKeys3
set_option linter.unusedVariables false
namespace Go.Proofs.Ytkekfogepdhjhaa
open Go.RowKit Own Var Term

set_option maxRecDepth 100000 in
set_option maxHeartbeats 6400000 in
theorem learnKey_walk (a0 b0 : Option Addr) (c0 c1 : Nat) (xs : List ByteArray) (ks : List Int) (x : Int) (w : World) (hr : RowAt Value.string w a0 xs) (hq : RowAt (Value.int .i64) w b0 ks) (hm : xs.length ≤ maxLen) (hm2 : ks.length ≤ maxLen) (hs : ∀ x ∈ xs, x.size ≤ maxLen) :
    Calls Try.prog 6 #[.agg #[.slice a0 xs.length c0, .slice b0 ks.length c1], .int .i64 x] w fun e w' => e = .returned (.bool true) ∧ Below w.heap.size w w' := by
  obtain ⟨W1, hW1⟩ : ∃ W1, w.alloc (.cells #[.slice a0 xs.length c0, .slice b0 ks.length c1] 38) = W1 := ⟨_, rfl⟩
  have HB1 : Below w.heap.size w W1 := by rw [← hW1]; exact (Below.refl _ _).alloc (Nat.le_refl _) _
  have A1 : Bx W1 w.heap.size (.slice a0 xs.length c0) (.slice b0 ks.length c1) := by rw [← hW1]; exact Bx.new _ _ _ _
  obtain ⟨_, e0, e1⟩ := A1
  go_enter Try.func6, Try.ntmps6
  go_wp2_with fail
  try rw [hW1]
  refine (szKnown_is a0 b0 c0 c1 xs ks W1 (hr.later HB1) hm hm2 hs).mono ?_
  have A1 : Bx W1 w.heap.size (.slice a0 xs.length c0) (.slice b0 ks.length c1) := by rw [← hW1]; exact Bx.new _ _ _ _
  clear hW1 e0 e1
  rintro e w1 ⟨r, rfl, hR, hb1⟩
  have HB := HB1.trans (hb1.mono HB1.size)
  have A := A1.later hb1
  by_cases h0 : 0 ≤ r
  · obtain ⟨⟨hl, hs2⟩, hl2⟩ := hR h0
    clear hm hs hR hm2 A1 HB1 hb1
    have h0' : ¬ r < 0 := by omega
    obtain ⟨hX, hY⟩ := lrk_len xs ks x
    obtain ⟨e9, e0, e1⟩ := A
    go_wp2_with fail
    refine (toKnown_is a0 b0 c0 c1 xs ks w1 (hr.later HB) (hq.later HB) hl hl2).mono ?_
    rintro e w2 ⟨v, rfl, ⟨g1, g2, rfl, ho1, ho2⟩, hb2⟩
    have A := Bx.later ⟨e9, e0, e1⟩ hb2
    have HB2 := HB.trans (hb2.mono HB.size)
    clear e9 e0 e1 HB hb2
    have H3 := spec_learnKey g1 0 g2 0 xs.length ks.length xs ks x w2 (RowAt.own ho1) (RowAt.own ho2) hl hl2 (Nat.le_refl _) hs2
    clear ho1 ho2
    generalize hXe : lrkT xs ks = X at *
    generalize hYe : lrkK xs ks x = Y at *
    have HXe : Hid (lrkT xs ks = X) := hXe
    have HYe : Hid (lrkK xs ks x = Y) := hYe
    clear hXe hYe
    go_wp2_with fail
    refine H3.mono ?_
    clear H3
    rintro e w3 ⟨v, rfl, ⟨a6, b6, k6, j6, rfl, h6, h6'⟩, hb3⟩
    have A3 := A.later hb3
    have HB3 := HB2.trans (hb3.mono HB2.size)
    clear A HB2 hb3
    obtain ⟨W6, hW6⟩ : ∃ W6, w3.alloc (.cells #[.slice a6 X.length k6, .slice b6 Y.length j6] 27) = W6 := ⟨_, rfl⟩
    have hb6 : Below w3.heap.size w3 W6 := by rw [← hW6]; exact (Below.refl _ _).alloc (Nat.le_refl _) _
    have Q6 : Bx W6 w3.heap.size (.slice a6 X.length k6) (.slice b6 Y.length j6) := by rw [← hW6]; exact Bx.new _ _ _ _
    have R6 := (row_own9 h6).later hb6
    have R6' := (row_own3 h6').later hb6
    have A6 := A3.later hb6
    have HB6 := HB3.trans (hb6.mono HB3.size)
    clear h6 h6' A3 HB3 hb6
    have zA : w.heap.size < W6.heap.size := A6.1
    obtain ⟨e9, e0, e1⟩ := A6
    go_wp2_with fail
    try rw [hW6]
    refine (toKnown_is a0 b0 c0 c1 xs ks W6 (hr.later HB6) (hq.later HB6) hl hl2).mono ?_
    clear hW6
    rintro e w7 ⟨v, rfl, ⟨g3, g4, rfl, ho3, ho4⟩, hb7⟩
    have A7 := Bx.later ⟨e9, e0, e1⟩ hb7
    have HB7 := HB6.trans (hb7.mono HB6.size)
    clear e9 e0 e1
    obtain ⟨W7, hW7⟩ : ∃ W7, w7.alloc (.cells #[.slice (some ⟨g3, 0, none⟩) xs.length xs.length, .slice (some ⟨g4, 0, none⟩) ks.length ks.length] 27) = W7 := ⟨_, rfl⟩
    have hc7 : Below w7.heap.size w7 W7 := by rw [← hW7]; exact (Below.refl _ _).alloc (Nat.le_refl _) _
    have Q7 : Bx W7 w7.heap.size (.slice (some ⟨g3, 0, none⟩) xs.length xs.length) (.slice (some ⟨g4, 0, none⟩) ks.length ks.length) := by rw [← hW7]; exact Bx.new _ _ _ _
    have U7 : Below W6.heap.size W6 W7 := hb7.trans (hc7.mono hb7.size)
    have z67 : W6.heap.size ≤ W7.heap.size := U7.size
    have A8 := A7.later hc7
    have HB8 := HB7.trans (hc7.mono HB7.size)
    have O3 := own_later ho3 hc7
    have O4 := own_later ho4 hc7
    clear A7 HB7 hb7 hc7 ho3 ho4
    have H8 := impl_learnKey g3 0 g4 0 xs.length ks.length xs ks x W7 (RowAt.own O3) (RowAt.own O4) hl hl2 (Nat.le_refl _) hs2
    rw [HXe.out, HYe.out] at H8
    obtain ⟨q9, q0, q1⟩ := Q7
    go_wp2_with fail
    try rw [hW7]
    refine H8.mono ?_
    clear hW7 H8
    have Q7 : Bx W7 w7.heap.size (.slice (some ⟨g3, 0, none⟩) xs.length xs.length) (.slice (some ⟨g4, 0, none⟩) ks.length ks.length) := ⟨q9, q0, q1⟩
    clear q9 q0 q1
    rintro e w8 ⟨v, rfl, ⟨a8, b8, k8, j8, rfl, h8, h8'⟩, hb8⟩
    obtain ⟨W8, hW8⟩ : ∃ W8, w8.alloc (.cells #[.slice a8 X.length k8, .slice b8 Y.length j8] 27) = W8 := ⟨_, rfl⟩
    have hc8 : Below w8.heap.size w8 W8 := by rw [← hW8]; exact (Below.refl _ _).alloc (Nat.le_refl _) _
    have Q8 : Bx W8 w8.heap.size (.slice a8 X.length k8) (.slice b8 Y.length j8) := by rw [← hW8]; exact Bx.new _ _ _ _
    have hz8 : w8.heap.size < W8.heap.size := Q8.1
    have V8 : Below W7.heap.size W7 W8 := hb8.trans (hc8.mono hb8.size)
    have U8 := U7.trans (V8.mono U7.size)
    have A9 := A8.later V8
    have HB9 := HB8.trans (V8.mono HB8.size)
    have P3 := own_later O3 V8
    have P4 := own_later O4 V8
    have P8 := own_later h8 hc8
    have P8' := own_later h8' hc8
    have N8 : ∀ k, (Value.slice a8 X.length k8).ownBlock = some k → W7.heap.size ≤ k ∧ k < w8.heap.size := fun k hk => h8.lt k hk
    have N8' : ∀ k, (Value.slice b8 Y.length j8).ownBlock = some k → W7.heap.size ≤ k ∧ k < w8.heap.size := fun k hk => h8'.lt k hk
    have N3 : W6.heap.size ≤ g3 ∧ g3 < W7.heap.size := O3.lt g3 rfl
    have N4 : W6.heap.size ≤ g4 ∧ g4 < W7.heap.size := O4.lt g4 rfl
    have Q7b := Q7.later V8
    have n78 : W7.heap.size ≤ w8.heap.size := hb8.size
    clear h8 h8' hc8 hb8 O3 O4 A8 HB8 U7 Q7
    have Q6b := Q6.later U8
    obtain ⟨e9, e0, e1⟩ := Q8
    obtain ⟨e8, e2, e3⟩ := Q6b
    go_wp2_with fail
    try rw [hW8]
    refine (eqKnown_is a8 b8 a6 b6 k8 j8 k6 j6 X Y W8 (row_own9 P8) (row_own3 P8') (R6.later U8) (R6'.later U8) hX hY).mono ?_
    clear hW8
    rintro e w9 ⟨rfl, hb9⟩
    have Q8 := Bx.later ⟨e9, e0, e1⟩ hb9
    clear e0 e1 e2 e3 e8 e9
    have U9 := U8.trans (hb9.mono U8.size)
    have HBa := HB9.trans (hb9.mono HB9.size)
    have Aa := A9.later hb9
    have Qa := Q7b.later hb9
    have S3 := own_later P3 hb9
    have S4 := own_later P4 hb9
    have S8 := own_later P8 hb9
    have S8' := own_later P8' hb9
    have n9 : W8.heap.size ≤ w9.heap.size := hb9.size
    clear P3 P4 P8 P8' A9 HB9 U8 V8 Q7b hb9
    obtain ⟨eA, e0, e1⟩ := Aa
    obtain ⟨eB, y0, y1⟩ := Qa
    go_wp2_with fail
    have z1 : w.heap.size < w9.heap.size := eA
    go_region_held3 (fun W => W.cell? ⟨w.heap.size, 0, none⟩ = some (.slice a0 xs.length c0) ∧ W.cell? ⟨w.heap.size, 1, none⟩ = some (.slice b0 ks.length c1) ∧ W.cell? ⟨w7.heap.size, 0, none⟩ = some (.slice (some ⟨g3, 0, none⟩) xs.length xs.length) ∧ W.cell? ⟨w7.heap.size, 1, none⟩ = some (.slice (some ⟨g4, 0, none⟩) ks.length ks.length))
      (first | exact ⟨by simpa using e0, by simpa using e1, by simpa using y0, by simpa using y1⟩ | exact hS8 | exact hS7)
      ((first
        | (go_at_call 23; refine (toKnown_is a0 b0 c0 c1 xs ks _ (hr.later HBa.drew) (hq.later HBa.drew) hl hl2).mono ?_; rintro e wa ⟨v, rfl, ⟨g5, g6, rfl, ho5, ho6⟩, hba⟩; have hS7 : wa.cell? ⟨w.heap.size, 0, none⟩ = some (.slice a0 xs.length c0) ∧ wa.cell? ⟨w.heap.size, 1, none⟩ = some (.slice b0 ks.length c1) ∧ wa.cell? ⟨w7.heap.size, 0, none⟩ = some (.slice (some ⟨g3, 0, none⟩) xs.length xs.length) ∧ wa.cell? ⟨w7.heap.size, 1, none⟩ = some (.slice (some ⟨g4, 0, none⟩) ks.length ks.length) := ⟨(hba.cell (p := ⟨w.heap.size, 0, none⟩) eA).trans (by simpa using e0), (hba.cell (p := ⟨w.heap.size, 1, none⟩) eA).trans (by simpa using e1), (hba.cell (p := ⟨w7.heap.size, 0, none⟩) eB).trans (by simpa using y0), (hba.cell (p := ⟨w7.heap.size, 1, none⟩) eB).trans (by simpa using y1)⟩)
        | (go_at_call 25; refine (eqKnown_is (some ⟨g3, 0, none⟩) (some ⟨g4, 0, none⟩) (some ⟨g5, 0, none⟩) (some ⟨g6, 0, none⟩) _ _ _ _ xs ks wa (((RowAt.own S3).later (Below.drew (Below.refl _ _))).later hba) (((RowAt.own S4).later (Below.drew (Below.refl _ _))).later hba) (RowAt.own ho5) (RowAt.own ho6) hl hl2).mono ?_; rintro e wb ⟨rfl, hbb⟩; have z7 := hba.size; have hS8 : wb.cell? ⟨w.heap.size, 0, none⟩ = some (.slice a0 xs.length c0) ∧ wb.cell? ⟨w.heap.size, 1, none⟩ = some (.slice b0 ks.length c1) ∧ wb.cell? ⟨w7.heap.size, 0, none⟩ = some (.slice (some ⟨g3, 0, none⟩) xs.length xs.length) ∧ wb.cell? ⟨w7.heap.size, 1, none⟩ = some (.slice (some ⟨g4, 0, none⟩) ks.length ks.length) := ⟨(hbb.cell (p := ⟨w.heap.size, 0, none⟩) (Nat.lt_of_lt_of_le eA z7)).trans hS7.1, (hbb.cell (p := ⟨w.heap.size, 1, none⟩) (Nat.lt_of_lt_of_le eA z7)).trans hS7.2.1, (hbb.cell (p := ⟨w7.heap.size, 0, none⟩) (Nat.lt_of_lt_of_le eB z7)).trans hS7.2.2.1, (hbb.cell (p := ⟨w7.heap.size, 1, none⟩) (Nat.lt_of_lt_of_le eB z7)).trans hS7.2.2.2⟩)))
    have hbc : Below w9.heap.size w9 wb := (Below.refl _ w9).drew.trans (hba.trans (hbb.mono hba.size))
    have Ac : Bx wb w.heap.size (.slice a0 xs.length c0) (.slice b0 ks.length c1) := ⟨Nat.lt_of_lt_of_le eA hbc.size, hS8.1, hS8.2.1⟩
    have Uc := U9.trans (hbc.mono U9.size)
    have HBc := HBa.trans (hbc.mono HBa.size)
    have T3 := own_later S3 hbc
    have T4 := own_later S4 hbc
    have T8 := own_later S8 hbc
    have T8' := own_later S8' hbc
    have Q8c := Q8.later hbc
    have y2 := hS8.2.2.1
    have y3 := hS8.2.2.2
    have nc : w9.heap.size ≤ wb.heap.size := hbc.size
    clear hS7 hS8 ho5 ho6 hba hbb hbc S3 S4 S8 S8' Q8 U9 HBa e0 e1 y0 y1 z7
    have hMk := markKnown_is W6.heap.size (some ⟨g3, 0, none⟩) (some ⟨g4, 0, none⟩) xs.length ks.length xs.length ks.length _ _ wb hl hl2 T3 T4
    go_wp2_with fail
    refine hMk.mono ?_
    clear hMk
    rintro e wd ⟨rfl, _, _, TT⟩
    have k3 : (Value.slice (some ⟨g3, 0, none⟩) xs.length xs.length).ownBlock = some g3 := rfl
    have k4 : (Value.slice (some ⟨g4, 0, none⟩) ks.length ks.length).ownBlock = some g4 := rfl
    rw [k3, k4] at TT
    have hB7 : Below W6.heap.size wb wd := TT.below (fun k hk => by cases hk; exact N3.1) (fun k hk => by cases hk; exact N4.1) Uc.size
    have Ud := Uc.trans hB7
    have HBd := HBc.trans (hB7.mono HB6.size)
    have Ad := Ac.turn TT (fun e => by have h2 := N3.1; simp at e; omega) (fun e => by have h2 := N4.1; simp at e; omega)
    have X8 := TT.own T8 (fun k hk => by have h1 := N8 k hk; exact ⟨fun e => by simp at e; omega, fun e => by simp at e; omega⟩)
    have X8' := TT.own T8' (fun k hk => by have h1 := N8' k hk; exact ⟨fun e => by simp at e; omega, fun e => by simp at e; omega⟩)
    have Q8d := Q8c.turn TT (fun e => by simp at e; omega) (fun e => by simp at e; omega)
    have nd : wb.heap.size ≤ wd.heap.size := TT.2.2.2.1
    have d1 : ¬ (xs.length : Int) + (ks.length : Int) + 1 < 0 := by omega
    have d1' : decide ((xs.length : Int) + (ks.length : Int) + 1 < 0) = false := by simpa using d1
    clear k3 k4 TT hB7 T3 T4 T8 T8' Q8c Ac Uc HBc y2 y3
    have Q6d := Q6.later Ud
    obtain ⟨eC, e0, e1⟩ := Q8d
    obtain ⟨eD, e2, e3⟩ := Q6d
    go_wp2_with fail
    refine (eqKnown_is a8 b8 a6 b6 k8 j8 k6 j6 X Y wd (row_own9 X8) (row_own3 X8') (R6.later Ud) (R6'.later Ud) hX hY).mono ?_
    rintro e we ⟨rfl, hbe⟩
    have Q8e := Bx.later ⟨eC, e0, e1⟩ hbe
    have Ue := Ud.trans (hbe.mono Ud.size)
    have HBe := HBd.trans (hbe.mono HBd.size)
    have Ae := Ad.later hbe
    have Y8 := own_later X8 hbe
    have Y8' := own_later X8' hbe
    have ne : wd.heap.size ≤ we.heap.size := hbe.size
    clear e0 e1 e2 e3 eC eD Ud HBd Ad X8 X8' hbe
    obtain ⟨eC, e0, e1⟩ := Q8e
    have hMk := markKnown_is W7.heap.size a8 b8 X.length Y.length k8 j8 _ _ we hX hY Y8 Y8'
    go_wp2_with fail
    refine hMk.mono ?_
    clear hMk
    rintro e wf ⟨rfl, M8, M8', TT⟩
    have hB8 : Below W7.heap.size we wf := TT.below (fun k hk => (N8 k hk).1) (fun k hk => (N8' k hk).1) (by omega)
    have Uf := Ue.trans (hB8.mono z67)
    have HBf := HBe.trans (hB8.mono (by omega))
    have Af := Ae.turn TT (fun e => by have := N8 _ e.symm; omega) (fun e => by have := N8' _ e.symm; omega)
    have Q8f := Bx.turn ⟨eC, e0, e1⟩ TT (fun e => by have := N8 _ e.symm; omega) (fun e => by have := N8' _ e.symm; omega)
    have r8 := row_marks9 M8
    have r8' := row_marks3 M8'
    have d2 : ¬ (X.length : Int) + (Y.length : Int) + 1 < 0 := by omega
    clear e0 e1 eC TT hB8 M8 M8' Y8 Y8' Ue HBe Ae
    obtain ⟨eC, e0, e1⟩ := Q8f
    go_wp2_with fail
    refine (heldKnown_is a8 b8 X.length Y.length k8 j8 wf hX hY r8 r8').mono ?_
    rintro e wg ⟨rfl, hbg⟩
    have Q8g := Bx.later ⟨eC, e0, e1⟩ hbg
    have Ug := Uf.trans (hbg.mono Uf.size)
    have HBg := HBf.trans (hbg.mono HBf.size)
    have Ag := Af.later hbg
    have s8 := r8.later hbg
    have s8' := r8'.later hbg
    clear e0 e1 eC hbg Uf HBf Af r8 r8'
    obtain ⟨eC, e0, e1⟩ := Ag
    go_wp2_with fail
    refine (toKnown_is a0 b0 c0 c1 xs ks wg (hr.later HBg) (hq.later HBg) hl hl2).mono ?_
    rintro e wh ⟨v, rfl, ⟨g7, g8, rfl, ho7, ho8⟩, hbh⟩
    have Q8h := Q8g.later hbh
    have Uh := Ug.trans (hbh.mono Ug.size)
    have HBh := HBg.trans (hbh.mono HBg.size)
    have t8 := s8.later hbh
    have t8' := s8'.later hbh
    clear e0 e1 eC hbh Ug HBg Q8g s8 s8'
    have Hi := impl_learnKey g7 0 g8 0 xs.length ks.length xs ks x wh (RowAt.own ho7) (RowAt.own ho8) hl hl2 (Nat.le_refl _) hs2
    rw [HXe.out, HYe.out] at Hi
    go_wp2_with fail
    refine Hi.mono ?_
    clear Hi ho7 ho8
    rintro e wi ⟨v, rfl, ⟨a9, b9, k9, j9, rfl, h9, h9'⟩, hbi⟩
    obtain ⟨W9, hW9⟩ : ∃ W9, wi.alloc (.cells #[.slice a9 X.length k9, .slice b9 Y.length j9] 27) = W9 := ⟨_, rfl⟩
    have hc9 : Below wi.heap.size wi W9 := by rw [← hW9]; exact (Below.refl _ _).alloc (Nat.le_refl _) _
    have Q9 : Bx W9 wi.heap.size (.slice a9 X.length k9) (.slice b9 Y.length j9) := by rw [← hW9]; exact Bx.new _ _ _ _
    have V9 : Below wh.heap.size wh W9 := hbi.trans (hc9.mono hbi.size)
    have Ui := Uh.trans (V9.mono Uh.size)
    have HBi := HBh.trans (V9.mono HBh.size)
    have Q8i := Q8h.later V9
    have u8 := t8.later V9
    have u8' := t8'.later V9
    have r9 := (row_own9 h9).later hc9
    have r9' := (row_own3 h9').later hc9
    have Q6i := Q6.later Ui
    clear h9 h9' hc9 hbi V9 Uh HBh Q8h t8 t8'
    obtain ⟨eC, e0, e1⟩ := Q9
    obtain ⟨eD, e2, e3⟩ := Q6i
    go_wp2_with fail
    try rw [hW9]
    refine (eqKnown_is a9 b9 a6 b6 k9 j9 k6 j6 X Y W9 r9 r9' (R6.later Ui) (R6'.later Ui) hX hY).mono ?_
    clear hW9
    rintro e wj ⟨rfl, hbj⟩
    have Q8j := Q8i.later hbj
    have HBj := HBi.trans (hbj.mono HBi.size)
    have v8 := u8.later hbj
    have v8' := u8'.later hbj
    clear e0 e1 e2 e3 eC eD hbj Ui HBi Q8i u8 u8' r9 r9'
    obtain ⟨eC, e0, e1⟩ := Q8j
    go_wp2_with fail
    refine (heldKnown_is a8 b8 X.length Y.length k8 j8 wj hX hY v8 v8').mono ?_
    rintro e wk ⟨rfl, hbk⟩
    have HBk := HBj.trans (hbk.mono HBj.size)
    go_wp2
    go_ret
    exact ⟨rfl, HBk⟩
  · have h0' : r < 0 := by omega
    go_wp2
    go_ret
    exact ⟨rfl, HB⟩
end Go.Proofs.Ytkekfogepdhjhaa
