/- Chapter 9: what one has of a reply, the model's. -/
import Derived.Test.YtbbaddcldoflfaaCr1
import Derived.Test.YtbbaddcldoflfaaBig9
import Derived.Test.YtbbaddcldoflfaaRdG
import Derived.Test.YtbbaddcldoflfaaJust
import Derived.Test.YtbbaddcldoflfaaFillA
set_option linter.unusedVariables false
set_option maxRecDepth 100000
namespace Go.Proofs.Ytbbaddcldoflfaa
open Go Go.RowKit Own Var Term

/-- The parts of a reply; of another text three empty ones. -/
def trP (tm : ByteArray) (i : Nat) : ByteArray := (just (⟨#[]⟩ : ByteArray) (partsR tm).1 3).getD i ⟨#[]⟩
def trN (tm : ByteArray) (i : Nat) : Int := (just (0 : Int) (numsR (trP tm 0)).1 2).getD i 0
/-- Is it a reply for who waits for it? -/
def trK (ow cl key nonce : Int) (tm : ByteArray) : Bool := btw ow 0 5 && (btw cl 0 5 && (decide (trN tm 0 = 3) && (decide (trN tm 1 = nonce) && (rgK (trP tm 2) key && decide (rgV (trP tm 2) key 2 = nonce)))))
/-- What one has of a reply. -/
def trA (ow cl key nonce : Int) (tm : ByteArray) : Value := if trK ow cl key nonce tm = true then .tuple #[.agg #[.int .i64 ow, .int .i64 cl, .int .i64 (rgV (trP tm 2) key 1), .int .i64 (rgV (trP tm 2) key 0), .int .i64 (rgV (trP tm 2) key 3), .int .i64 (rgV (trP tm 2) key 4), .int .i64 (rgV (trP tm 2) key 5), .string (trP tm 1)], .bool true] else .tuple #[.agg #[.int .i64 0, .int .i64 0, .int .i64 0, .int .i64 0, .int .i64 0, .int .i64 0, .int .i64 0, .string ⟨#[]⟩], .bool false]
theorem trA_no (ow cl key nonce : Int) (tm : ByteArray) (h : trK ow cl key nonce tm = false) : trA ow cl key nonce tm = .tuple #[.agg #[.int .i64 0, .int .i64 0, .int .i64 0, .int .i64 0, .int .i64 0, .int .i64 0, .int .i64 0, .string ⟨#[]⟩], .bool false] := by
  unfold trA
  rw [h, if_neg (by decide)]
theorem trN_none {tm : ByteArray} (h : (partsR tm).1.length ≠ 3) : trN tm 0 = 0 := by
  have e : trP tm 0 = ⟨#[]⟩ := by unfold trP just; rw [if_neg h]; rfl
  have e2 : (numsR ⟨#[]⟩).1 = [] := by
    unfold numsR partsR
    rw [rk_nil]
    simp [numsP]
  unfold trN
  rw [e, e2]
  rfl
theorem trP_three {tm x0 x1 x2 : ByteArray} (h : (partsR tm).1 = [x0, x1, x2]) : trP tm 0 = x0 ∧ trP tm 1 = x1 ∧ trP tm 2 = x2 := by
  unfold trP just
  rw [h]
  exact ⟨rfl, rfl, rfl⟩
theorem trN_short {tm x : ByteArray} (e : trP tm 0 = x) (h : (numsR x).1.length ≠ 2) : trN tm 0 = 0 := by
  unfold trN just
  rw [e, if_neg h]
  rfl
theorem trN_two {tm x : ByteArray} {m y : Int} (e : trP tm 0 = x) (h : (numsR x).1 = [m, y]) : trN tm 0 = m ∧ trN tm 1 = y := by
  unfold trN just
  rw [e, h]
  exact ⟨rfl, rfl⟩
theorem trK_f0 (ow cl key nonce : Int) (tm : ByteArray) (h : btw ow 0 5 = false) : trK ow cl key nonce tm = false := by unfold trK; rw [h]; rfl
theorem trK_f1 (ow cl key nonce : Int) (tm : ByteArray) (h : btw cl 0 5 = false) : trK ow cl key nonce tm = false := by unfold trK; rw [h]; simp
theorem trK_f2 (ow cl key nonce : Int) (tm : ByteArray) (h : trN tm 0 ≠ 3) : trK ow cl key nonce tm = false := by unfold trK; rw [decide_eq_false h]; simp
theorem trK_f3 (ow cl key nonce : Int) (tm : ByteArray) (h : trN tm 1 ≠ nonce) : trK ow cl key nonce tm = false := by unfold trK; rw [decide_eq_false h]; simp
theorem trK_f4 (ow cl key nonce : Int) (tm : ByteArray) (h : rgK (trP tm 2) key = false) : trK ow cl key nonce tm = false := by unfold trK; rw [h]; simp
theorem trK_f5 (ow cl key nonce : Int) (tm : ByteArray) (h : rgV (trP tm 2) key 2 ≠ nonce) : trK ow cl key nonce tm = false := by unfold trK; rw [decide_eq_false h]; simp
theorem trA_yes (ow cl key nonce : Int) (tm : ByteArray) (h0 : btw ow 0 5 = true) (h1 : btw cl 0 5 = true) (h2 : trN tm 0 = 3) (h3 : trN tm 1 = nonce) (h4 : rgK (trP tm 2) key = true) (h5 : rgV (trP tm 2) key 2 = nonce) : trA ow cl key nonce tm = .tuple #[.agg #[.int .i64 ow, .int .i64 cl, .int .i64 (rgV (trP tm 2) key 1), .int .i64 (rgV (trP tm 2) key 0), .int .i64 (rgV (trP tm 2) key 3), .int .i64 (rgV (trP tm 2) key 4), .int .i64 (rgV (trP tm 2) key 5), .string (trP tm 1)], .bool true] := by
  unfold trA
  rw [if_pos (by unfold trK; rw [h0, h1, decide_eq_true h2, decide_eq_true h3, h4, decide_eq_true h5]; rfl)]

set_option maxHeartbeats 6400000 in
theorem specTake_is (ow cl key nonce : Int) (tm : ByteArray) (w : World) (htm : tm.size ≤ 1048576) : Calls Try.prog 10 #[.int .i64 ow, .int .i64 cl, .int .i64 key, .int .i64 nonce, .string tm] w fun en w' => en = .returned (trA ow cl key nonce tm) ∧ Below w.heap.size w w' := by
  obtain ⟨ie, hie, hsz⟩ := info_cred
  have hpz := parts_size tm
  have BC : Below w.heap.size w (w.alloc (.cells #[.int .i64 0, .int .i64 0, .int .i64 0, .int .i64 0, .int .i64 0, .int .i64 0, .int .i64 0, .string ⟨#[]⟩] 30)) := (Below.refl _ _).alloc (by simp <;> omega) _
  have UC : Blk w.heap.size [.int .i64 0, .int .i64 0, .int .i64 0, .int .i64 0, .int .i64 0, .int .i64 0, .int .i64 0, .string ⟨#[]⟩] (w.alloc (.cells #[.int .i64 0, .int .i64 0, .int .i64 0, .int .i64 0, .int .i64 0, .int .i64 0, .int .i64 0, .string ⟨#[]⟩] 30)) := by have h_ := (Blk.new w #[.int .i64 0, .int .i64 0, .int .i64 0, .int .i64 0, .int .i64 0, .int .i64 0, .int .i64 0, .string ⟨#[]⟩] 30); simpa using h_
  go_enter Try.func10, Try.ntmps10
  go_wp2_with fail
  refine (spec_parts tm _ htm).mono ?_
  rintro en w2 ⟨v, rfl, hown, hb⟩
  have z2 := hb.size
  replace UC := UC.later hb UC.lt
  replace BC := BC.trans (hb.mono BC.size)
  clear hb
  generalize (partsR tm).2 = bb
  go_wp2_with fail
  refine (spec_prin ow _).mono ?_
  rintro en w_ ⟨rfl, rfl⟩
  by_cases h0 : btw ow 0 5 = true
  · rw [h0]
    go_wp2_with fail
    refine (spec_prin cl _).mono ?_
    rintro en w_ ⟨rfl, rfl⟩
    by_cases h1 : btw cl 0 5 = true
    · rw [h1]
      by_cases hl : (partsR tm).1.length = 3
      · obtain ⟨x0, x1, x2, hP⟩ : ∃ x0 x1 x2, (partsR tm).1 = [x0, x1, x2] := by
          match (partsR tm).1, hl with
          | [x0, x1, x2], _ => exact ⟨x0, x1, x2, rfl⟩
        obtain ⟨p0, p1, p2⟩ := trP_three hP
        rw [hP] at hown hpz
        have s0 : x0.size ≤ 1048576 := Nat.le_trans (hpz x0 (by simp)) (by omega)
        have s2 : x2.size ≤ 1048576 := Nat.le_trans (hpz x2 (by simp)) (by omega)
        obtain ⟨gp, capp, rfl, hcap, hg, hlt, QC⟩ := own_blk (f := Value.string) (xs := [x0, x1, x2]) hown (by simp)
        simp only [List.length_cons, List.length_nil, Nat.zero_add, Nat.reduceAdd] at hcap
        have hc3 : (3 : Int) ≤ (capp : Int) := by omega
        replace QC : Blk gp [.string x0, .string x1, .string x2] w2 := QC
        have hg0 : w.heap.size < gp := by have h_ := hg; simp at h_; omega
        clear hown hpz hl hP hg hlt hcap
        have q1_ := QC.at 0 rfl
        go_wp2_with fail
        refine (spec_readNums x0 _ s0).mono ?_
        rintro en w3 ⟨vn, rfl, ho, hb⟩
        replace UC := UC.later hb UC.lt
        replace QC := QC.later hb QC.lt
        replace BC := BC.trans (hb.mono BC.size)
        clear hb
        clear q1_
        have HN := nums_len x0
        obtain ⟨L, nb, hN⟩ : ∃ L nb, numsR x0 = (L, nb) := ⟨_, _, rfl⟩
        have hL : (numsR x0).1 = L := by rw [hN]
        rw [hN] at ho HN
        try rw [hN]
        simp only at ho HN
        try simp only
        have q2_ := QC.at 2 rfl
        go_wp2_with fail
        refine (specReadG_is x2 key _ s2).mono ?_
        rintro en w4 ⟨rfl, hb⟩
        replace UC := UC.later hb UC.lt
        replace QC := QC.later hb QC.lt
        replace ho := own_later ho hb
        replace BC := BC.trans (hb.mono BC.size)
        clear hb
        clear q2_
        have Z4 : Hid (w.heap.size < w4.heap.size) := UC.lt
        have XA_ : Below w4.heap.size w4 (w4.alloc (.cells #[.int .i64 (rgV x2 key 0), .int .i64 (rgV x2 key 1), .int .i64 (rgV x2 key 2), .int .i64 (rgV x2 key 3), .int .i64 (rgV x2 key 4), .int .i64 (rgV x2 key 5)] 56)) := (Below.refl _ _).alloc (Nat.le_refl _) _
        have GC : Blk w4.heap.size [.int .i64 (rgV x2 key 0), .int .i64 (rgV x2 key 1), .int .i64 (rgV x2 key 2), .int .i64 (rgV x2 key 3), .int .i64 (rgV x2 key 4), .int .i64 (rgV x2 key 5)] (w4.alloc (.cells #[.int .i64 (rgV x2 key 0), .int .i64 (rgV x2 key 1), .int .i64 (rgV x2 key 2), .int .i64 (rgV x2 key 3), .int .i64 (rgV x2 key 4), .int .i64 (rgV x2 key 5)] 56)) := Blk.new _ _ _
        replace UC := UC.later XA_ UC.lt
        replace QC := QC.later XA_ QC.lt
        replace BC := BC.trans (XA_.mono BC.size)
        clear XA_
        have ho2 := own_later ho ((Below.refl _ _).alloc (Nat.le_refl _) (.cells #[.int .i64 (rgV x2 key 0), .int .i64 (rgV x2 key 1), .int .i64 (rgV x2 key 2), .int .i64 (rgV x2 key 3), .int .i64 (rgV x2 key 4), .int .i64 (rgV x2 key 5)] 56))
        obtain ⟨W5, hW5⟩ : ∃ Wz, (w4.alloc (.cells #[.int .i64 (rgV x2 key 0), .int .i64 (rgV x2 key 1), .int .i64 (rgV x2 key 2), .int .i64 (rgV x2 key 3), .int .i64 (rgV x2 key 4), .int .i64 (rgV x2 key 5)] 56)) = Wz := ⟨_, rfl⟩
        rw [hW5] at UC QC GC BC
        rw [hW5] at ho2
        clear ho
        by_cases h2 : L.length = 2
        · have hb : nb = true := by
            cases nb with
            | true => rfl
            | false => rw [HN rfl] at h2; cases h2
          subst hb
          obtain ⟨m, y, rfl⟩ : ∃ m y, L = [m, y] := by
            match L, h2 with
            | [m, y], _ => exact ⟨m, y, rfl⟩
          clear HN h2
          obtain ⟨t0, t1⟩ := trN_two p0 hL
          obtain ⟨gn, capn, rfl, hcap, hg, hlt, NC⟩ := own_blk (f := Value.int .i64) (xs := [m, y]) ho2 (by simp)
          simp only [List.length_cons, List.length_nil, Nat.zero_add, Nat.reduceAdd] at hcap
          have hc2 : (2 : Int) ≤ (capn : Int) := by omega
          replace NC : Blk gn [.int .i64 m, .int .i64 y] W5 := NC
          clear ho2 hg hlt hcap hL hN
          cases h4 : rgK x2 key with
          | false =>
            have q3_ := GC.at 2 rfl
            have q4_ := NC.at 0 rfl
            have q5_ := NC.at 1 rfl
            have HR : Hid (trA ow cl key nonce tm = .tuple #[.agg #[.int .i64 0, .int .i64 0, .int .i64 0, .int .i64 0, .int .i64 0, .int .i64 0, .int .i64 0, .string ⟨#[]⟩], .bool false]) := by show _ = _; exact trA_no _ _ _ _ _ (trK_f4 _ _ _ _ _ (by rw [p2]; exact h4))
            have FU := UC.sets [.int .i64 0, .int .i64 0, .int .i64 0, .int .i64 0, .int .i64 0, .int .i64 0, .int .i64 0, .string ⟨#[]⟩] rfl
            have FB := below_sets (m := w.heap.size) (g := w.heap.size) (by omega) [.int .i64 0, .int .i64 0, .int .i64 0, .int .i64 0, .int .i64 0, .int .i64 0, .int .i64 0, .string ⟨#[]⟩] 0 _ BC
            go_wp2_with (first | (rw [hW5]) | (refine wpList_stB 30 _ _ w.heap.size 0 [.int .i64 0, .int .i64 0, .int .i64 0, .int .i64 0, .int .i64 0, .int .i64 0, .int .i64 0, .string ⟨#[]⟩] [.int .i64 0, .int .i64 0, .int .i64 0, .int .i64 0, .int .i64 0, .int .i64 0, .int .i64 0, .string ⟨#[]⟩] ie hie UC (by rw [hsz]; rfl) (by simp) rfl rfl rfl rfl rfl ?_; try simp only [Act.put]))
            exact bodyPost_ret (res_B2 rfl _ _ w.heap.size _ (.bool false) ie hie ag30 FU (by rw [hsz]; rfl) rfl rfl) rfl ⟨by rw [HR.out], FB⟩
          | true =>
            have q3_ := GC.at 2 rfl
            have q4_ := NC.at 0 rfl
            have q5_ := NC.at 1 rfl
            by_cases h3 : m = 3
            · subst h3
              try simp only []
              by_cases h5 : y = nonce
              · subst h5
                by_cases h6 : rgV x2 key 2 = y
                · have e6 : (rgV x2 key 2 == y) = true := by simpa using h6
                  have H6 : Hid (rgV x2 key 2 = y) := h6
                  clear h6
                  have HR : Hid (trA ow cl key y tm = .tuple #[.agg #[.int .i64 ow, .int .i64 cl, .int .i64 (rgV x2 key 1), .int .i64 (rgV x2 key 0), .int .i64 (rgV x2 key 3), .int .i64 (rgV x2 key 4), .int .i64 (rgV x2 key 5), .string x1], .bool true]) := by show _ = _; have h_ := trA_yes ow cl key y tm h0 h1 t0 t1 (by rw [p2]; exact h4) (by rw [p2]; exact H6.out); rw [p1, p2] at h_; exact h_
                  go_wp2_with (first | (rw [hW5]))
                  clear q3_ q4_ q5_ hW5
                  have z4_ := Z4.out
                  replace UC := UC.drew
                  replace GC := GC.drew
                  replace QC := QC.drew
                  replace BC := BC.drew
                  refine wp_region_held_drew (S := (fun Vw => Blk w4.heap.size [.int .i64 (rgV x2 key 0), .int .i64 (rgV x2 key 1), .int .i64 (rgV x2 key 2), .int .i64 (rgV x2 key 3), .int .i64 (rgV x2 key 4), .int .i64 (rgV x2 key 5)] Vw ∧ Blk gp [.string x0, .string x1, .string x2] Vw)) (by kernel_rfl) ⟨GC, QC⟩ (fun hHeld => ?_)
                  refine take_one 0 83 (v := ?_) rfl rfl (by kernel_rfl) (by kernel_rfl) (by kernel_rfl) (fun _ _ _ h => h) (Or.inl ⟨by rfl, ?_⟩) hHeld ?_
                  rotate_left
                  · intro w' hSw; (try dsimp only at hSw); have d0 := hSw.1.at 0 rfl; have d1 := hSw.1.at 1 rfl; have d2 := hSw.1.at 2 rfl; have d3 := hSw.1.at 3 rfl; have d4 := hSw.1.at 4 rfl; have d5 := hSw.1.at 5 rfl; have e0 := hSw.2.at 0 rfl; have e1 := hSw.2.at 1 rfl; have e2 := hSw.2.at 2 rfl; go_simp; try with_reducible rfl
                  try simp only [Act.put, List.setIfInBounds_toArray, List.set_cons_zero, List.set_cons_succ]
                  refine take_one 1 84 (v := ?_) rfl rfl (by kernel_rfl) (by kernel_rfl) (by kernel_rfl) (fun _ _ _ h => h) (Or.inl ⟨by rfl, ?_⟩) hHeld ?_
                  rotate_left
                  · intro w' hSw; (try dsimp only at hSw); have d0 := hSw.1.at 0 rfl; have d1 := hSw.1.at 1 rfl; have d2 := hSw.1.at 2 rfl; have d3 := hSw.1.at 3 rfl; have d4 := hSw.1.at 4 rfl; have d5 := hSw.1.at 5 rfl; have e0 := hSw.2.at 0 rfl; have e1 := hSw.2.at 1 rfl; have e2 := hSw.2.at 2 rfl; go_simp; try with_reducible rfl
                  try simp only [Act.put, List.setIfInBounds_toArray, List.set_cons_zero, List.set_cons_succ]
                  refine take_one 2 85 (v := ?_) rfl rfl (by kernel_rfl) (by kernel_rfl) (by kernel_rfl) (fun _ _ _ h => h) (Or.inl ⟨by rfl, ?_⟩) hHeld ?_
                  rotate_left
                  · intro w' hSw; (try dsimp only at hSw); have d0 := hSw.1.at 0 rfl; have d1 := hSw.1.at 1 rfl; have d2 := hSw.1.at 2 rfl; have d3 := hSw.1.at 3 rfl; have d4 := hSw.1.at 4 rfl; have d5 := hSw.1.at 5 rfl; have e0 := hSw.2.at 0 rfl; have e1 := hSw.2.at 1 rfl; have e2 := hSw.2.at 2 rfl; go_simp; try with_reducible rfl
                  try simp only [Act.put, List.setIfInBounds_toArray, List.set_cons_zero, List.set_cons_succ]
                  refine take_one 3 86 (v := ?_) rfl rfl (by kernel_rfl) (by kernel_rfl) (by kernel_rfl) (fun _ _ _ h => h) (Or.inl ⟨by rfl, ?_⟩) hHeld ?_
                  rotate_left
                  · intro w' hSw; (try dsimp only at hSw); have d0 := hSw.1.at 0 rfl; have d1 := hSw.1.at 1 rfl; have d2 := hSw.1.at 2 rfl; have d3 := hSw.1.at 3 rfl; have d4 := hSw.1.at 4 rfl; have d5 := hSw.1.at 5 rfl; have e0 := hSw.2.at 0 rfl; have e1 := hSw.2.at 1 rfl; have e2 := hSw.2.at 2 rfl; go_simp; try with_reducible rfl
                  try simp only [Act.put, List.setIfInBounds_toArray, List.set_cons_zero, List.set_cons_succ]
                  refine take_one 4 87 (v := ?_) rfl rfl (by kernel_rfl) (by kernel_rfl) (by kernel_rfl) (fun _ _ _ h => h) (Or.inl ⟨by rfl, ?_⟩) hHeld ?_
                  rotate_left
                  · intro w' hSw; (try dsimp only at hSw); have d0 := hSw.1.at 0 rfl; have d1 := hSw.1.at 1 rfl; have d2 := hSw.1.at 2 rfl; have d3 := hSw.1.at 3 rfl; have d4 := hSw.1.at 4 rfl; have d5 := hSw.1.at 5 rfl; have e0 := hSw.2.at 0 rfl; have e1 := hSw.2.at 1 rfl; have e2 := hSw.2.at 2 rfl; go_simp; try with_reducible rfl
                  try simp only [Act.put, List.setIfInBounds_toArray, List.set_cons_zero, List.set_cons_succ]
                  refine take_one 5 88 (v := ?_) rfl rfl (by kernel_rfl) (by kernel_rfl) (by kernel_rfl) (fun _ _ _ h => h) (Or.inl ⟨by rfl, ?_⟩) hHeld ?_
                  rotate_left
                  · intro w' hSw; (try dsimp only at hSw); have d0 := hSw.1.at 0 rfl; have d1 := hSw.1.at 1 rfl; have d2 := hSw.1.at 2 rfl; have d3 := hSw.1.at 3 rfl; have d4 := hSw.1.at 4 rfl; have d5 := hSw.1.at 5 rfl; have e0 := hSw.2.at 0 rfl; have e1 := hSw.2.at 1 rfl; have e2 := hSw.2.at 2 rfl; go_simp; try with_reducible rfl
                  try simp only [Act.put, List.setIfInBounds_toArray, List.set_cons_zero, List.set_cons_succ]
                  refine take_one 6 89 (v := ?_) rfl rfl (by kernel_rfl) (by kernel_rfl) (by kernel_rfl) (fun _ _ _ h => h) (Or.inl ⟨by rfl, ?_⟩) hHeld ?_
                  rotate_left
                  · intro w' hSw; (try dsimp only at hSw); have d0 := hSw.1.at 0 rfl; have d1 := hSw.1.at 1 rfl; have d2 := hSw.1.at 2 rfl; have d3 := hSw.1.at 3 rfl; have d4 := hSw.1.at 4 rfl; have d5 := hSw.1.at 5 rfl; have e0 := hSw.2.at 0 rfl; have e1 := hSw.2.at 1 rfl; have e2 := hSw.2.at 2 rfl; go_simp; try with_reducible rfl
                  try simp only [Act.put, List.setIfInBounds_toArray, List.set_cons_zero, List.set_cons_succ]
                  refine take_one 7 90 (v := ?_) rfl rfl (by kernel_rfl) (by kernel_rfl) (by kernel_rfl) (fun _ _ _ h => h) (Or.inl ⟨by rfl, ?_⟩) hHeld ?_
                  rotate_left
                  · intro w' hSw; (try dsimp only at hSw); have d0 := hSw.1.at 0 rfl; have d1 := hSw.1.at 1 rfl; have d2 := hSw.1.at 2 rfl; have d3 := hSw.1.at 3 rfl; have d4 := hSw.1.at 4 rfl; have d5 := hSw.1.at 5 rfl; have e0 := hSw.2.at 0 rfl; have e1 := hSw.2.at 1 rfl; have e2 := hSw.2.at 2 rfl; go_simp; try with_reducible rfl
                  try simp only [Act.put, List.setIfInBounds_toArray, List.set_cons_zero, List.set_cons_succ]
                  refine take_one 8 91 (v := ?_) rfl rfl (by kernel_rfl) (by kernel_rfl) (by kernel_rfl) (fun _ _ _ h => h) (Or.inl ⟨by rfl, ?_⟩) hHeld ?_
                  rotate_left
                  · intro w' hSw; (try dsimp only at hSw); have d0 := hSw.1.at 0 rfl; have d1 := hSw.1.at 1 rfl; have d2 := hSw.1.at 2 rfl; have d3 := hSw.1.at 3 rfl; have d4 := hSw.1.at 4 rfl; have d5 := hSw.1.at 5 rfl; have e0 := hSw.2.at 0 rfl; have e1 := hSw.2.at 1 rfl; have e2 := hSw.2.at 2 rfl; go_simp; try with_reducible rfl
                  try simp only [Act.put, List.setIfInBounds_toArray, List.set_cons_zero, List.set_cons_succ]
                  refine take_one 9 92 (v := ?_) rfl rfl (by kernel_rfl) (by kernel_rfl) (by kernel_rfl) (fun _ _ _ h => h) (Or.inl ⟨by rfl, ?_⟩) hHeld ?_
                  rotate_left
                  · intro w' hSw; (try dsimp only at hSw); have d0 := hSw.1.at 0 rfl; have d1 := hSw.1.at 1 rfl; have d2 := hSw.1.at 2 rfl; have d3 := hSw.1.at 3 rfl; have d4 := hSw.1.at 4 rfl; have d5 := hSw.1.at 5 rfl; have e0 := hSw.2.at 0 rfl; have e1 := hSw.2.at 1 rfl; have e2 := hSw.2.at 2 rfl; go_simp; try with_reducible rfl
                  try simp only [Act.put, List.setIfInBounds_toArray, List.set_cons_zero, List.set_cons_succ]
                  refine take_one 10 93 (v := ?_) rfl rfl (by kernel_rfl) (by kernel_rfl) (by kernel_rfl) (fun _ _ _ h => h) (Or.inl ⟨by rfl, ?_⟩) hHeld ?_
                  rotate_left
                  · intro w' hSw; (try dsimp only at hSw); have d0 := hSw.1.at 0 rfl; have d1 := hSw.1.at 1 rfl; have d2 := hSw.1.at 2 rfl; have d3 := hSw.1.at 3 rfl; have d4 := hSw.1.at 4 rfl; have d5 := hSw.1.at 5 rfl; have e0 := hSw.2.at 0 rfl; have e1 := hSw.2.at 1 rfl; have e2 := hSw.2.at 2 rfl; go_simp; try with_reducible rfl
                  try simp only [Act.put, List.setIfInBounds_toArray, List.set_cons_zero, List.set_cons_succ]
                  refine take_one 11 94 (v := ?_) rfl rfl (by kernel_rfl) (by kernel_rfl) (by kernel_rfl) (fun _ _ _ h => h) (Or.inl ⟨by rfl, ?_⟩) hHeld ?_
                  rotate_left
                  · intro w' hSw; (try dsimp only at hSw); have d0 := hSw.1.at 0 rfl; have d1 := hSw.1.at 1 rfl; have d2 := hSw.1.at 2 rfl; have d3 := hSw.1.at 3 rfl; have d4 := hSw.1.at 4 rfl; have d5 := hSw.1.at 5 rfl; have e0 := hSw.2.at 0 rfl; have e1 := hSw.2.at 1 rfl; have e2 := hSw.2.at 2 rfl; go_simp; try with_reducible rfl
                  try simp only [Act.put, List.setIfInBounds_toArray, List.set_cons_zero, List.set_cons_succ]
                  have N_ : Blk w.heap.size [.int .i64 ow, .int .i64 cl, .int .i64 (rgV x2 key 1), .int .i64 (rgV x2 key 0), .int .i64 (rgV x2 key 3), .int .i64 (rgV x2 key 4), .int .i64 (rgV x2 key 5), .string x1] ((W5.drew).setCells w.heap.size 0 [.int .i64 ow, .int .i64 cl, .int .i64 (rgV x2 key 1), .int .i64 (rgV x2 key 0), .int .i64 (rgV x2 key 3), .int .i64 (rgV x2 key 4), .int .i64 (rgV x2 key 5), .string x1]) := UC.part 0 [.int .i64 ow, .int .i64 cl, .int .i64 (rgV x2 key 1), .int .i64 (rgV x2 key 0), .int .i64 (rgV x2 key 3), .int .i64 (rgV x2 key 4), .int .i64 (rgV x2 key 5), .string x1] _ (by simp) rfl
                  have GC_ := Blk.farS (q := w.heap.size) (by omega) [.int .i64 ow, .int .i64 cl, .int .i64 (rgV x2 key 1), .int .i64 (rgV x2 key 0), .int .i64 (rgV x2 key 3), .int .i64 (rgV x2 key 4), .int .i64 (rgV x2 key 5), .string x1] 0 _ GC
                  have QC_ := Blk.farS (q := w.heap.size) (by omega) [.int .i64 ow, .int .i64 cl, .int .i64 (rgV x2 key 1), .int .i64 (rgV x2 key 0), .int .i64 (rgV x2 key 3), .int .i64 (rgV x2 key 4), .int .i64 (rgV x2 key 5), .string x1] 0 _ QC
                  have BC_ := below_sets (m := w.heap.size) (g := w.heap.size) (by omega) [.int .i64 ow, .int .i64 cl, .int .i64 (rgV x2 key 1), .int .i64 (rgV x2 key 0), .int .i64 (rgV x2 key 3), .int .i64 (rgV x2 key 4), .int .i64 (rgV x2 key 5), .string x1] 0 _ BC
                  refine wpAnyH_ready (rs := [12]) (by kernel_rfl) (by simp) ?_
                  refine AllReadyH.cons (i := 12) rfl (fun K hK => ?_) AllReadyH.nil
                  refine stepB 30 _ _ (w.heap.size) 0 [.int .i64 0, .int .i64 0, .int .i64 0, .int .i64 0, .int .i64 0, .int .i64 0, .int .i64 0, .string ⟨#[]⟩] [.int .i64 ow, .int .i64 cl, .int .i64 (rgV x2 key 1), .int .i64 (rgV x2 key 0), .int .i64 (rgV x2 key 3), .int .i64 (rgV x2 key 4), .int .i64 (rgV x2 key 5), .string x1] ie hie UC (by rw [hsz]; rfl) (by simp) rfl rfl rfl rfl rfl ?_
                  try simp only [Act.put, List.setIfInBounds_toArray]
                  obtain ⟨V1, hV1⟩ : ∃ Wz, (W5.drew).setCells (w.heap.size) 0 [.int .i64 ow, .int .i64 cl, .int .i64 (rgV x2 key 1), .int .i64 (rgV x2 key 0), .int .i64 (rgV x2 key 3), .int .i64 (rgV x2 key 4), .int .i64 (rgV x2 key 5), .string x1] = Wz := ⟨_, rfl⟩
                  rw [hV1] at N_ BC_ GC_ QC_ ⊢
                  clear hV1 UC BC GC QC
                  have UC := N_
                  have BC := BC_
                  have GC := GC_
                  have QC := QC_
                  clear N_ BC_ GC_ QC_
                  refine hK.out _ _ ⟨GC, QC⟩ (fun hHeld2 => ?_)
                  clear hK K hHeld
                  have hHeld := hHeld2
                  clear hHeld2
                  try simp only [Act.put, List.setIfInBounds_toArray, List.set_cons_zero, List.set_cons_succ]
                  refine take_one 13 11 (v := ?_) rfl rfl (by kernel_rfl) (by kernel_rfl) (by kernel_rfl) (fun _ _ _ h => h) (Or.inl ⟨by rfl, ?_⟩) hHeld ?_
                  rotate_left
                  · intro w' hSw; (try dsimp only at hSw); have d0 := hSw.1.at 0 rfl; have d1 := hSw.1.at 1 rfl; have d2 := hSw.1.at 2 rfl; have d3 := hSw.1.at 3 rfl; have d4 := hSw.1.at 4 rfl; have d5 := hSw.1.at 5 rfl; have e0 := hSw.2.at 0 rfl; have e1 := hSw.2.at 1 rfl; have e2 := hSw.2.at 2 rfl; go_simp; try with_reducible rfl
                  try simp only [Act.put]
                  refine wpAnyH_done (by kernel_rfl) ?_ _
                  go_wp2_with fail
                  exact bodyPost_ret (res_B2 rfl _ _ w.heap.size _ (.bool true) ie hie ag30 UC (by rw [hsz]; rfl) rfl rfl) rfl ⟨by rw [HR.out], BC⟩
                · have e6 : (rgV x2 key 2 == y) = false := by simpa using h6
                  have HR : Hid (trA ow cl key y tm = .tuple #[.agg #[.int .i64 0, .int .i64 0, .int .i64 0, .int .i64 0, .int .i64 0, .int .i64 0, .int .i64 0, .string ⟨#[]⟩], .bool false]) := by show _ = _; exact trA_no _ _ _ _ _ (trK_f5 _ _ _ _ _ (by rw [p2]; exact h6))
                  have FU := UC.sets [.int .i64 0, .int .i64 0, .int .i64 0, .int .i64 0, .int .i64 0, .int .i64 0, .int .i64 0, .string ⟨#[]⟩] rfl
                  have FB := below_sets (m := w.heap.size) (g := w.heap.size) (by omega) [.int .i64 0, .int .i64 0, .int .i64 0, .int .i64 0, .int .i64 0, .int .i64 0, .int .i64 0, .string ⟨#[]⟩] 0 _ BC
                  go_wp2_with (first | (rw [hW5]) | (refine wpList_stB 30 _ _ w.heap.size 0 [.int .i64 0, .int .i64 0, .int .i64 0, .int .i64 0, .int .i64 0, .int .i64 0, .int .i64 0, .string ⟨#[]⟩] [.int .i64 0, .int .i64 0, .int .i64 0, .int .i64 0, .int .i64 0, .int .i64 0, .int .i64 0, .string ⟨#[]⟩] ie hie UC (by rw [hsz]; rfl) (by simp) rfl rfl rfl rfl rfl ?_; try simp only [Act.put]))
                  exact bodyPost_ret (res_B2 rfl _ _ w.heap.size _ (.bool false) ie hie ag30 FU (by rw [hsz]; rfl) rfl rfl) rfl ⟨by rw [HR.out], FB⟩
              · have e5 : (y == nonce) = false := by simpa using h5
                have HR : Hid (trA ow cl key nonce tm = .tuple #[.agg #[.int .i64 0, .int .i64 0, .int .i64 0, .int .i64 0, .int .i64 0, .int .i64 0, .int .i64 0, .string ⟨#[]⟩], .bool false]) := by show _ = _; exact trA_no _ _ _ _ _ (trK_f3 _ _ _ _ _ (by rw [t1]; exact h5))
                have FU := UC.sets [.int .i64 0, .int .i64 0, .int .i64 0, .int .i64 0, .int .i64 0, .int .i64 0, .int .i64 0, .string ⟨#[]⟩] rfl
                have FB := below_sets (m := w.heap.size) (g := w.heap.size) (by omega) [.int .i64 0, .int .i64 0, .int .i64 0, .int .i64 0, .int .i64 0, .int .i64 0, .int .i64 0, .string ⟨#[]⟩] 0 _ BC
                go_wp2_with (first | (rw [hW5]) | (refine wpList_stB 30 _ _ w.heap.size 0 [.int .i64 0, .int .i64 0, .int .i64 0, .int .i64 0, .int .i64 0, .int .i64 0, .int .i64 0, .string ⟨#[]⟩] [.int .i64 0, .int .i64 0, .int .i64 0, .int .i64 0, .int .i64 0, .int .i64 0, .int .i64 0, .string ⟨#[]⟩] ie hie UC (by rw [hsz]; rfl) (by simp) rfl rfl rfl rfl rfl ?_; try simp only [Act.put]))
                exact bodyPost_ret (res_B2 rfl _ _ w.heap.size _ (.bool false) ie hie ag30 FU (by rw [hsz]; rfl) rfl rfl) rfl ⟨by rw [HR.out], FB⟩
            · have e3 : (m == 3) = false := by simpa using h3
              have HR : Hid (trA ow cl key nonce tm = .tuple #[.agg #[.int .i64 0, .int .i64 0, .int .i64 0, .int .i64 0, .int .i64 0, .int .i64 0, .int .i64 0, .string ⟨#[]⟩], .bool false]) := by show _ = _; exact trA_no _ _ _ _ _ (trK_f2 _ _ _ _ _ (by rw [t0]; exact h3))
              have FU := UC.sets [.int .i64 0, .int .i64 0, .int .i64 0, .int .i64 0, .int .i64 0, .int .i64 0, .int .i64 0, .string ⟨#[]⟩] rfl
              have FB := below_sets (m := w.heap.size) (g := w.heap.size) (by omega) [.int .i64 0, .int .i64 0, .int .i64 0, .int .i64 0, .int .i64 0, .int .i64 0, .int .i64 0, .string ⟨#[]⟩] 0 _ BC
              go_wp2_with (first | (rw [hW5]) | (refine wpList_stB 30 _ _ w.heap.size 0 [.int .i64 0, .int .i64 0, .int .i64 0, .int .i64 0, .int .i64 0, .int .i64 0, .int .i64 0, .string ⟨#[]⟩] [.int .i64 0, .int .i64 0, .int .i64 0, .int .i64 0, .int .i64 0, .int .i64 0, .int .i64 0, .string ⟨#[]⟩] ie hie UC (by rw [hsz]; rfl) (by simp) rfl rfl rfl rfl rfl ?_; try simp only [Act.put]))
              exact bodyPost_ret (res_B2 rfl _ _ w.heap.size _ (.bool false) ie hie ag30 FU (by rw [hsz]; rfl) rfl rfl) rfl ⟨by rw [HR.out], FB⟩
        · obtain ⟨an, capn, rfl, hcapn, _⟩ := own_row (f := Value.int .i64) (xs := L) ho2
          have t0 := trN_short p0 (by rw [hL]; exact h2)
          have e2 : ((L.length : Int) == 2) = false := by simp; omega
          clear ho2 HN
          cases nb with
          | false =>
            have HR : Hid (trA ow cl key nonce tm = .tuple #[.agg #[.int .i64 0, .int .i64 0, .int .i64 0, .int .i64 0, .int .i64 0, .int .i64 0, .int .i64 0, .string ⟨#[]⟩], .bool false]) := by show _ = _; exact trA_no _ _ _ _ _ (trK_f2 _ _ _ _ _ (by rw [t0]; decide))
            have FU := UC.sets [.int .i64 0, .int .i64 0, .int .i64 0, .int .i64 0, .int .i64 0, .int .i64 0, .int .i64 0, .string ⟨#[]⟩] rfl
            have FB := below_sets (m := w.heap.size) (g := w.heap.size) (by omega) [.int .i64 0, .int .i64 0, .int .i64 0, .int .i64 0, .int .i64 0, .int .i64 0, .int .i64 0, .string ⟨#[]⟩] 0 _ BC
            go_wp2_with (first | (rw [hW5]) | (refine wpList_stB 30 _ _ w.heap.size 0 [.int .i64 0, .int .i64 0, .int .i64 0, .int .i64 0, .int .i64 0, .int .i64 0, .int .i64 0, .string ⟨#[]⟩] [.int .i64 0, .int .i64 0, .int .i64 0, .int .i64 0, .int .i64 0, .int .i64 0, .int .i64 0, .string ⟨#[]⟩] ie hie UC (by rw [hsz]; rfl) (by simp) rfl rfl rfl rfl rfl ?_; try simp only [Act.put]))
            exact bodyPost_ret (res_B2 rfl _ _ w.heap.size _ (.bool false) ie hie ag30 FU (by rw [hsz]; rfl) rfl rfl) rfl ⟨by rw [HR.out], FB⟩
          | true =>
            cases h4 : rgK x2 key with
            | false =>
              have HR : Hid (trA ow cl key nonce tm = .tuple #[.agg #[.int .i64 0, .int .i64 0, .int .i64 0, .int .i64 0, .int .i64 0, .int .i64 0, .int .i64 0, .string ⟨#[]⟩], .bool false]) := by show _ = _; exact trA_no _ _ _ _ _ (trK_f2 _ _ _ _ _ (by rw [t0]; decide))
              have FU := UC.sets [.int .i64 0, .int .i64 0, .int .i64 0, .int .i64 0, .int .i64 0, .int .i64 0, .int .i64 0, .string ⟨#[]⟩] rfl
              have FB := below_sets (m := w.heap.size) (g := w.heap.size) (by omega) [.int .i64 0, .int .i64 0, .int .i64 0, .int .i64 0, .int .i64 0, .int .i64 0, .int .i64 0, .string ⟨#[]⟩] 0 _ BC
              go_wp2_with (first | (rw [hW5]) | (refine wpList_stB 30 _ _ w.heap.size 0 [.int .i64 0, .int .i64 0, .int .i64 0, .int .i64 0, .int .i64 0, .int .i64 0, .int .i64 0, .string ⟨#[]⟩] [.int .i64 0, .int .i64 0, .int .i64 0, .int .i64 0, .int .i64 0, .int .i64 0, .int .i64 0, .string ⟨#[]⟩] ie hie UC (by rw [hsz]; rfl) (by simp) rfl rfl rfl rfl rfl ?_; try simp only [Act.put]))
              exact bodyPost_ret (res_B2 rfl _ _ w.heap.size _ (.bool false) ie hie ag30 FU (by rw [hsz]; rfl) rfl rfl) rfl ⟨by rw [HR.out], FB⟩
            | true =>
              have HR : Hid (trA ow cl key nonce tm = .tuple #[.agg #[.int .i64 0, .int .i64 0, .int .i64 0, .int .i64 0, .int .i64 0, .int .i64 0, .int .i64 0, .string ⟨#[]⟩], .bool false]) := by show _ = _; exact trA_no _ _ _ _ _ (trK_f2 _ _ _ _ _ (by rw [t0]; decide))
              have FU := UC.sets [.int .i64 0, .int .i64 0, .int .i64 0, .int .i64 0, .int .i64 0, .int .i64 0, .int .i64 0, .string ⟨#[]⟩] rfl
              have FB := below_sets (m := w.heap.size) (g := w.heap.size) (by omega) [.int .i64 0, .int .i64 0, .int .i64 0, .int .i64 0, .int .i64 0, .int .i64 0, .int .i64 0, .string ⟨#[]⟩] 0 _ BC
              go_wp2_with (first | (rw [hW5]) | (refine wpList_stB 30 _ _ w.heap.size 0 [.int .i64 0, .int .i64 0, .int .i64 0, .int .i64 0, .int .i64 0, .int .i64 0, .int .i64 0, .string ⟨#[]⟩] [.int .i64 0, .int .i64 0, .int .i64 0, .int .i64 0, .int .i64 0, .int .i64 0, .int .i64 0, .string ⟨#[]⟩] ie hie UC (by rw [hsz]; rfl) (by simp) rfl rfl rfl rfl rfl ?_; try simp only [Act.put]))
              exact bodyPost_ret (res_B2 rfl _ _ w.heap.size _ (.bool false) ie hie ag30 FU (by rw [hsz]; rfl) rfl rfl) rfl ⟨by rw [HR.out], FB⟩
      · obtain ⟨a_, cap, rfl, hcap, _⟩ := own_row (f := Value.string) (xs := (partsR tm).1) hown
        have t0 := trN_none hl
        have e3 : (((partsR tm).1.length : Int) == 3) = false := by simp; omega
        clear hown hpz
        have HR : Hid (trA ow cl key nonce tm = .tuple #[.agg #[.int .i64 0, .int .i64 0, .int .i64 0, .int .i64 0, .int .i64 0, .int .i64 0, .int .i64 0, .string ⟨#[]⟩], .bool false]) := by show _ = _; exact trA_no _ _ _ _ _ (trK_f2 _ _ _ _ _ (by rw [t0]; decide))
        have FU := UC.sets [.int .i64 0, .int .i64 0, .int .i64 0, .int .i64 0, .int .i64 0, .int .i64 0, .int .i64 0, .string ⟨#[]⟩] rfl
        have FB := below_sets (m := w.heap.size) (g := w.heap.size) (by omega) [.int .i64 0, .int .i64 0, .int .i64 0, .int .i64 0, .int .i64 0, .int .i64 0, .int .i64 0, .string ⟨#[]⟩] 0 _ BC
        go_wp2_with (first | (refine wpList_stB 30 _ _ w.heap.size 0 [.int .i64 0, .int .i64 0, .int .i64 0, .int .i64 0, .int .i64 0, .int .i64 0, .int .i64 0, .string ⟨#[]⟩] [.int .i64 0, .int .i64 0, .int .i64 0, .int .i64 0, .int .i64 0, .int .i64 0, .int .i64 0, .string ⟨#[]⟩] ie hie UC (by rw [hsz]; rfl) (by simp) rfl rfl rfl rfl rfl ?_; try simp only [Act.put]))
        exact bodyPost_ret (res_B2 rfl _ _ w.heap.size _ (.bool false) ie hie ag30 FU (by rw [hsz]; rfl) rfl rfl) rfl ⟨by rw [HR.out], FB⟩
    · rw [Bool.not_eq_true] at h1
      rw [h1]
      have HR : Hid (trA ow cl key nonce tm = .tuple #[.agg #[.int .i64 0, .int .i64 0, .int .i64 0, .int .i64 0, .int .i64 0, .int .i64 0, .int .i64 0, .string ⟨#[]⟩], .bool false]) := by show _ = _; exact trA_no _ _ _ _ _ (trK_f1 _ _ _ _ _ h1)
      have FU := UC.sets [.int .i64 0, .int .i64 0, .int .i64 0, .int .i64 0, .int .i64 0, .int .i64 0, .int .i64 0, .string ⟨#[]⟩] rfl
      have FB := below_sets (m := w.heap.size) (g := w.heap.size) (by omega) [.int .i64 0, .int .i64 0, .int .i64 0, .int .i64 0, .int .i64 0, .int .i64 0, .int .i64 0, .string ⟨#[]⟩] 0 _ BC
      go_wp2_with (first | (refine wpList_stB 30 _ _ w.heap.size 0 [.int .i64 0, .int .i64 0, .int .i64 0, .int .i64 0, .int .i64 0, .int .i64 0, .int .i64 0, .string ⟨#[]⟩] [.int .i64 0, .int .i64 0, .int .i64 0, .int .i64 0, .int .i64 0, .int .i64 0, .int .i64 0, .string ⟨#[]⟩] ie hie UC (by rw [hsz]; rfl) (by simp) rfl rfl rfl rfl rfl ?_; try simp only [Act.put]))
      exact bodyPost_ret (res_B2 rfl _ _ w.heap.size _ (.bool false) ie hie ag30 FU (by rw [hsz]; rfl) rfl rfl) rfl ⟨by rw [HR.out], FB⟩
  · rw [Bool.not_eq_true] at h0
    rw [h0]
    have HR : Hid (trA ow cl key nonce tm = .tuple #[.agg #[.int .i64 0, .int .i64 0, .int .i64 0, .int .i64 0, .int .i64 0, .int .i64 0, .int .i64 0, .string ⟨#[]⟩], .bool false]) := by show _ = _; exact trA_no _ _ _ _ _ (trK_f0 _ _ _ _ _ h0)
    have FU := UC.sets [.int .i64 0, .int .i64 0, .int .i64 0, .int .i64 0, .int .i64 0, .int .i64 0, .int .i64 0, .string ⟨#[]⟩] rfl
    have FB := below_sets (m := w.heap.size) (g := w.heap.size) (by omega) [.int .i64 0, .int .i64 0, .int .i64 0, .int .i64 0, .int .i64 0, .int .i64 0, .int .i64 0, .string ⟨#[]⟩] 0 _ BC
    go_wp2_with (first | (refine wpList_stB 30 _ _ w.heap.size 0 [.int .i64 0, .int .i64 0, .int .i64 0, .int .i64 0, .int .i64 0, .int .i64 0, .int .i64 0, .string ⟨#[]⟩] [.int .i64 0, .int .i64 0, .int .i64 0, .int .i64 0, .int .i64 0, .int .i64 0, .int .i64 0, .string ⟨#[]⟩] ie hie UC (by rw [hsz]; rfl) (by simp) rfl rfl rfl rfl rfl ?_; try simp only [Act.put]))
    exact bodyPost_ret (res_B2 rfl _ _ w.heap.size _ (.bool false) ie hie ag30 FU (by rw [hsz]; rfl) rfl rfl) rfl ⟨by rw [HR.out], FB⟩
end Go.Proofs.Ytbbaddcldoflfaa

set_option linter.unusedVariables false
set_option maxRecDepth 100000
namespace Go.Proofs.Ytbbaddcldoflfaa
open Go Go.RowKit Own Var Term

set_option maxHeartbeats 6400000 in
theorem implTake_is (ow cl key nonce : Int) (tm : ByteArray) (w : World) (htm : tm.size ≤ 1048576) : Calls Try.prog 11 #[.int .i64 ow, .int .i64 cl, .int .i64 key, .int .i64 nonce, .string tm] w fun en w' => en = .returned (trA ow cl key nonce tm) ∧ Below w.heap.size w w' := by
  obtain ⟨ie, hie, hsz⟩ := info_cred
  have hpz := just_size tm 3
  obtain ⟨x0, x1, x2, hx⟩ : ∃ x0 x1 x2, just (⟨#[]⟩ : ByteArray) (partsR tm).1 3 = [x0, x1, x2] := by
    have hl := just_len (⟨#[]⟩ : ByteArray) (partsR tm).1 3
    match just (⟨#[]⟩ : ByteArray) (partsR tm).1 3, hl with
    | [x0, x1, x2], _ => exact ⟨x0, x1, x2, rfl⟩
  obtain ⟨m, y, hw⟩ : ∃ m y, just (0 : Int) (numsR x0).1 2 = [m, y] := by
    have hl := just_len (0 : Int) (numsR x0).1 2
    match just (0 : Int) (numsR x0).1 2, hl with
    | [m, y], _ => exact ⟨m, y, rfl⟩
  have p0 : trP tm 0 = x0 := by unfold trP; rw [hx]; rfl
  have p1 : trP tm 1 = x1 := by unfold trP; rw [hx]; rfl
  have p2 : trP tm 2 = x2 := by unfold trP; rw [hx]; rfl
  have t0 : trN tm 0 = m := by unfold trN; rw [p0, hw]; rfl
  have t1 : trN tm 1 = y := by unfold trN; rw [p0, hw]; rfl
  rw [hx] at hpz
  have s0 : x0.size ≤ 1048576 := Nat.le_trans (hpz x0 (by simp)) (by omega)
  have s2 : x2.size ≤ 1048576 := Nat.le_trans (hpz x2 (by simp)) (by omega)
  clear hpz
  have HP := fun w => partsOf_is tm 3 w htm (by omega)
  rw [hx] at HP
  have HM := fun w => numbersOf_is x0 2 w s0 (by omega)
  rw [hw] at HM
  have BC : Below w.heap.size w (w.alloc (.cells #[.int .i64 0, .int .i64 0, .int .i64 0, .int .i64 0, .int .i64 0, .int .i64 0, .int .i64 0, .string ⟨#[]⟩] 30)) := (Below.refl _ _).alloc (by simp <;> omega) _
  have UC : Blk w.heap.size [.int .i64 0, .int .i64 0, .int .i64 0, .int .i64 0, .int .i64 0, .int .i64 0, .int .i64 0, .string ⟨#[]⟩] (w.alloc (.cells #[.int .i64 0, .int .i64 0, .int .i64 0, .int .i64 0, .int .i64 0, .int .i64 0, .int .i64 0, .string ⟨#[]⟩] 30)) := by have h_ := (Blk.new w #[.int .i64 0, .int .i64 0, .int .i64 0, .int .i64 0, .int .i64 0, .int .i64 0, .int .i64 0, .string ⟨#[]⟩] 30); simpa using h_
  go_enter Try.func11, Try.ntmps11
  go_wp2_with fail
  refine (HP _).mono ?_
  rintro en w2 ⟨v, rfl, hown, hb⟩
  replace UC := UC.later hb UC.lt
  replace BC := BC.trans (hb.mono BC.size)
  clear hb
  obtain ⟨gp, capp, rfl, hcap, hg, hlt, QC⟩ := own_blk (f := Value.string) (xs := [x0, x1, x2]) hown (by simp)
  have hc3 : (3 : Int) ≤ (capp : Int) := by omega
  replace QC : Blk gp [.string x0, .string x1, .string x2] w2 := QC
  have hg0 : w.heap.size < gp := by have h_ := hg; simp at h_; omega
  clear hown hg hlt hcap HP hx hw
  have q1_ := QC.at 0 rfl
  go_wp2_with fail
  refine (HM _).mono ?_
  rintro en w3 ⟨vn, rfl, ho, hb⟩
  replace UC := UC.later hb UC.lt
  replace QC := QC.later hb QC.lt
  replace BC := BC.trans (hb.mono BC.size)
  clear hb
  clear q1_
  obtain ⟨gn, capn, rfl, hcap, hg, hlt, NC⟩ := own_blk (f := Value.int .i64) (xs := [m, y]) ho (by simp)
  have hc2 : (2 : Int) ≤ (capn : Int) := by omega
  replace NC : Blk gn [.int .i64 m, .int .i64 y] w3 := NC
  clear ho hg hlt hcap HM
  have q2_ := QC.at 2 rfl
  go_wp2_with fail
  refine (implReadG_is x2 key _ s2).mono ?_
  rintro en w4 ⟨rfl, hb⟩
  replace UC := UC.later hb UC.lt
  replace QC := QC.later hb QC.lt
  replace NC := NC.later hb NC.lt
  replace BC := BC.trans (hb.mono BC.size)
  clear hb
  clear q2_
  have Z4 : Hid (w.heap.size < w4.heap.size) := UC.lt
  have XA_ : Below w4.heap.size w4 (w4.alloc (.cells #[.int .i64 (rgV x2 key 0), .int .i64 (rgV x2 key 1), .int .i64 (rgV x2 key 2), .int .i64 (rgV x2 key 3), .int .i64 (rgV x2 key 4), .int .i64 (rgV x2 key 5)] 56)) := (Below.refl _ _).alloc (Nat.le_refl _) _
  have GC : Blk w4.heap.size [.int .i64 (rgV x2 key 0), .int .i64 (rgV x2 key 1), .int .i64 (rgV x2 key 2), .int .i64 (rgV x2 key 3), .int .i64 (rgV x2 key 4), .int .i64 (rgV x2 key 5)] (w4.alloc (.cells #[.int .i64 (rgV x2 key 0), .int .i64 (rgV x2 key 1), .int .i64 (rgV x2 key 2), .int .i64 (rgV x2 key 3), .int .i64 (rgV x2 key 4), .int .i64 (rgV x2 key 5)] 56)) := Blk.new _ _ _
  replace UC := UC.later XA_ UC.lt
  replace QC := QC.later XA_ QC.lt
  replace NC := NC.later XA_ NC.lt
  replace BC := BC.trans (XA_.mono BC.size)
  clear XA_
  obtain ⟨W5, hW5⟩ : ∃ Wz, (w4.alloc (.cells #[.int .i64 (rgV x2 key 0), .int .i64 (rgV x2 key 1), .int .i64 (rgV x2 key 2), .int .i64 (rgV x2 key 3), .int .i64 (rgV x2 key 4), .int .i64 (rgV x2 key 5)] 56)) = Wz := ⟨_, rfl⟩
  rw [hW5] at UC QC NC GC BC
  go_wp2_with (first | (rw [hW5]))
  refine (prin_is ow _).mono ?_
  rintro en w_ ⟨rfl, rfl⟩
  clear hW5
  by_cases h0 : btw ow 0 5 = true
  · rw [h0]
    go_wp2_with fail
    refine (prin_is cl _).mono ?_
    rintro en w_ ⟨rfl, rfl⟩
    by_cases h1 : btw cl 0 5 = true
    · rw [h1]
      have q3_ := NC.at 0 rfl
      have q4_ := NC.at 1 rfl
      by_cases h3 : m = 3
      · subst h3
        try simp only []
        by_cases h5 : y = nonce
        · subst h5
          have q5_ := GC.at 2 rfl
          cases h4 : rgK x2 key with
          | false =>
            have HR : Hid (trA ow cl key y tm = .tuple #[.agg #[.int .i64 0, .int .i64 0, .int .i64 0, .int .i64 0, .int .i64 0, .int .i64 0, .int .i64 0, .string ⟨#[]⟩], .bool false]) := by show _ = _; exact trA_no _ _ _ _ _ (trK_f4 _ _ _ _ _ (by rw [p2]; exact h4))
            have FU := UC.sets [.int .i64 0, .int .i64 0, .int .i64 0, .int .i64 0, .int .i64 0, .int .i64 0, .int .i64 0, .string ⟨#[]⟩] rfl
            have FB := below_sets (m := w.heap.size) (g := w.heap.size) (by omega) [.int .i64 0, .int .i64 0, .int .i64 0, .int .i64 0, .int .i64 0, .int .i64 0, .int .i64 0, .string ⟨#[]⟩] 0 _ BC
            go_wp2_with (first | (refine wpList_stB 30 _ _ w.heap.size 0 [.int .i64 0, .int .i64 0, .int .i64 0, .int .i64 0, .int .i64 0, .int .i64 0, .int .i64 0, .string ⟨#[]⟩] [.int .i64 0, .int .i64 0, .int .i64 0, .int .i64 0, .int .i64 0, .int .i64 0, .int .i64 0, .string ⟨#[]⟩] ie hie UC (by rw [hsz]; rfl) (by simp) rfl rfl rfl rfl rfl ?_; try simp only [Act.put]))
            exact bodyPost_ret (res_B2 rfl _ _ w.heap.size _ (.bool false) ie hie ag30 FU (by rw [hsz]; rfl) rfl rfl) rfl ⟨by rw [HR.out], FB⟩
          | true =>
            by_cases h6 : rgV x2 key 2 = y
            · have e6 : (rgV x2 key 2 == y) = true := by simpa using h6
              have H6 : Hid (rgV x2 key 2 = y) := h6
              clear h6
              have HR : Hid (trA ow cl key y tm = .tuple #[.agg #[.int .i64 ow, .int .i64 cl, .int .i64 (rgV x2 key 1), .int .i64 (rgV x2 key 0), .int .i64 (rgV x2 key 3), .int .i64 (rgV x2 key 4), .int .i64 (rgV x2 key 5), .string x1], .bool true]) := by show _ = _; have h_ := trA_yes ow cl key y tm h0 h1 t0 t1 (by rw [p2]; exact h4) (by rw [p2]; exact H6.out); rw [p1, p2] at h_; exact h_
              go_wp2_with fail
              clear q3_ q4_ q5_
              have z4_ := Z4.out
              replace UC := UC.drew
              replace GC := GC.drew
              replace QC := QC.drew
              replace BC := BC.drew
              refine wp_region_held_drew (S := (fun Vw => Blk w4.heap.size [.int .i64 (rgV x2 key 0), .int .i64 (rgV x2 key 1), .int .i64 (rgV x2 key 2), .int .i64 (rgV x2 key 3), .int .i64 (rgV x2 key 4), .int .i64 (rgV x2 key 5)] Vw ∧ Blk gp [.string x0, .string x1, .string x2] Vw)) (by kernel_rfl) ⟨GC, QC⟩ (fun hHeld => ?_)
              refine take_one 0 63 (v := ?_) rfl rfl (by kernel_rfl) (by kernel_rfl) (by kernel_rfl) (fun _ _ _ h => h) (Or.inl ⟨by rfl, ?_⟩) hHeld ?_
              rotate_left
              · intro w' hSw; (try dsimp only at hSw); have d0 := hSw.1.at 0 rfl; have d1 := hSw.1.at 1 rfl; have d2 := hSw.1.at 2 rfl; have d3 := hSw.1.at 3 rfl; have d4 := hSw.1.at 4 rfl; have d5 := hSw.1.at 5 rfl; have e0 := hSw.2.at 0 rfl; have e1 := hSw.2.at 1 rfl; have e2 := hSw.2.at 2 rfl; go_simp; try with_reducible rfl
              try simp only [Act.put, List.setIfInBounds_toArray, List.set_cons_zero, List.set_cons_succ]
              refine take_one 1 64 (v := ?_) rfl rfl (by kernel_rfl) (by kernel_rfl) (by kernel_rfl) (fun _ _ _ h => h) (Or.inl ⟨by rfl, ?_⟩) hHeld ?_
              rotate_left
              · intro w' hSw; (try dsimp only at hSw); have d0 := hSw.1.at 0 rfl; have d1 := hSw.1.at 1 rfl; have d2 := hSw.1.at 2 rfl; have d3 := hSw.1.at 3 rfl; have d4 := hSw.1.at 4 rfl; have d5 := hSw.1.at 5 rfl; have e0 := hSw.2.at 0 rfl; have e1 := hSw.2.at 1 rfl; have e2 := hSw.2.at 2 rfl; go_simp; try with_reducible rfl
              try simp only [Act.put, List.setIfInBounds_toArray, List.set_cons_zero, List.set_cons_succ]
              refine take_one 2 65 (v := ?_) rfl rfl (by kernel_rfl) (by kernel_rfl) (by kernel_rfl) (fun _ _ _ h => h) (Or.inl ⟨by rfl, ?_⟩) hHeld ?_
              rotate_left
              · intro w' hSw; (try dsimp only at hSw); have d0 := hSw.1.at 0 rfl; have d1 := hSw.1.at 1 rfl; have d2 := hSw.1.at 2 rfl; have d3 := hSw.1.at 3 rfl; have d4 := hSw.1.at 4 rfl; have d5 := hSw.1.at 5 rfl; have e0 := hSw.2.at 0 rfl; have e1 := hSw.2.at 1 rfl; have e2 := hSw.2.at 2 rfl; go_simp; try with_reducible rfl
              try simp only [Act.put, List.setIfInBounds_toArray, List.set_cons_zero, List.set_cons_succ]
              refine take_one 3 66 (v := ?_) rfl rfl (by kernel_rfl) (by kernel_rfl) (by kernel_rfl) (fun _ _ _ h => h) (Or.inl ⟨by rfl, ?_⟩) hHeld ?_
              rotate_left
              · intro w' hSw; (try dsimp only at hSw); have d0 := hSw.1.at 0 rfl; have d1 := hSw.1.at 1 rfl; have d2 := hSw.1.at 2 rfl; have d3 := hSw.1.at 3 rfl; have d4 := hSw.1.at 4 rfl; have d5 := hSw.1.at 5 rfl; have e0 := hSw.2.at 0 rfl; have e1 := hSw.2.at 1 rfl; have e2 := hSw.2.at 2 rfl; go_simp; try with_reducible rfl
              try simp only [Act.put, List.setIfInBounds_toArray, List.set_cons_zero, List.set_cons_succ]
              refine take_one 4 67 (v := ?_) rfl rfl (by kernel_rfl) (by kernel_rfl) (by kernel_rfl) (fun _ _ _ h => h) (Or.inl ⟨by rfl, ?_⟩) hHeld ?_
              rotate_left
              · intro w' hSw; (try dsimp only at hSw); have d0 := hSw.1.at 0 rfl; have d1 := hSw.1.at 1 rfl; have d2 := hSw.1.at 2 rfl; have d3 := hSw.1.at 3 rfl; have d4 := hSw.1.at 4 rfl; have d5 := hSw.1.at 5 rfl; have e0 := hSw.2.at 0 rfl; have e1 := hSw.2.at 1 rfl; have e2 := hSw.2.at 2 rfl; go_simp; try with_reducible rfl
              try simp only [Act.put, List.setIfInBounds_toArray, List.set_cons_zero, List.set_cons_succ]
              refine take_one 5 68 (v := ?_) rfl rfl (by kernel_rfl) (by kernel_rfl) (by kernel_rfl) (fun _ _ _ h => h) (Or.inl ⟨by rfl, ?_⟩) hHeld ?_
              rotate_left
              · intro w' hSw; (try dsimp only at hSw); have d0 := hSw.1.at 0 rfl; have d1 := hSw.1.at 1 rfl; have d2 := hSw.1.at 2 rfl; have d3 := hSw.1.at 3 rfl; have d4 := hSw.1.at 4 rfl; have d5 := hSw.1.at 5 rfl; have e0 := hSw.2.at 0 rfl; have e1 := hSw.2.at 1 rfl; have e2 := hSw.2.at 2 rfl; go_simp; try with_reducible rfl
              try simp only [Act.put, List.setIfInBounds_toArray, List.set_cons_zero, List.set_cons_succ]
              refine take_one 6 69 (v := ?_) rfl rfl (by kernel_rfl) (by kernel_rfl) (by kernel_rfl) (fun _ _ _ h => h) (Or.inl ⟨by rfl, ?_⟩) hHeld ?_
              rotate_left
              · intro w' hSw; (try dsimp only at hSw); have d0 := hSw.1.at 0 rfl; have d1 := hSw.1.at 1 rfl; have d2 := hSw.1.at 2 rfl; have d3 := hSw.1.at 3 rfl; have d4 := hSw.1.at 4 rfl; have d5 := hSw.1.at 5 rfl; have e0 := hSw.2.at 0 rfl; have e1 := hSw.2.at 1 rfl; have e2 := hSw.2.at 2 rfl; go_simp; try with_reducible rfl
              try simp only [Act.put, List.setIfInBounds_toArray, List.set_cons_zero, List.set_cons_succ]
              refine take_one 7 70 (v := ?_) rfl rfl (by kernel_rfl) (by kernel_rfl) (by kernel_rfl) (fun _ _ _ h => h) (Or.inl ⟨by rfl, ?_⟩) hHeld ?_
              rotate_left
              · intro w' hSw; (try dsimp only at hSw); have d0 := hSw.1.at 0 rfl; have d1 := hSw.1.at 1 rfl; have d2 := hSw.1.at 2 rfl; have d3 := hSw.1.at 3 rfl; have d4 := hSw.1.at 4 rfl; have d5 := hSw.1.at 5 rfl; have e0 := hSw.2.at 0 rfl; have e1 := hSw.2.at 1 rfl; have e2 := hSw.2.at 2 rfl; go_simp; try with_reducible rfl
              try simp only [Act.put, List.setIfInBounds_toArray, List.set_cons_zero, List.set_cons_succ]
              refine take_one 8 71 (v := ?_) rfl rfl (by kernel_rfl) (by kernel_rfl) (by kernel_rfl) (fun _ _ _ h => h) (Or.inl ⟨by rfl, ?_⟩) hHeld ?_
              rotate_left
              · intro w' hSw; (try dsimp only at hSw); have d0 := hSw.1.at 0 rfl; have d1 := hSw.1.at 1 rfl; have d2 := hSw.1.at 2 rfl; have d3 := hSw.1.at 3 rfl; have d4 := hSw.1.at 4 rfl; have d5 := hSw.1.at 5 rfl; have e0 := hSw.2.at 0 rfl; have e1 := hSw.2.at 1 rfl; have e2 := hSw.2.at 2 rfl; go_simp; try with_reducible rfl
              try simp only [Act.put, List.setIfInBounds_toArray, List.set_cons_zero, List.set_cons_succ]
              refine take_one 9 72 (v := ?_) rfl rfl (by kernel_rfl) (by kernel_rfl) (by kernel_rfl) (fun _ _ _ h => h) (Or.inl ⟨by rfl, ?_⟩) hHeld ?_
              rotate_left
              · intro w' hSw; (try dsimp only at hSw); have d0 := hSw.1.at 0 rfl; have d1 := hSw.1.at 1 rfl; have d2 := hSw.1.at 2 rfl; have d3 := hSw.1.at 3 rfl; have d4 := hSw.1.at 4 rfl; have d5 := hSw.1.at 5 rfl; have e0 := hSw.2.at 0 rfl; have e1 := hSw.2.at 1 rfl; have e2 := hSw.2.at 2 rfl; go_simp; try with_reducible rfl
              try simp only [Act.put, List.setIfInBounds_toArray, List.set_cons_zero, List.set_cons_succ]
              refine take_one 10 73 (v := ?_) rfl rfl (by kernel_rfl) (by kernel_rfl) (by kernel_rfl) (fun _ _ _ h => h) (Or.inl ⟨by rfl, ?_⟩) hHeld ?_
              rotate_left
              · intro w' hSw; (try dsimp only at hSw); have d0 := hSw.1.at 0 rfl; have d1 := hSw.1.at 1 rfl; have d2 := hSw.1.at 2 rfl; have d3 := hSw.1.at 3 rfl; have d4 := hSw.1.at 4 rfl; have d5 := hSw.1.at 5 rfl; have e0 := hSw.2.at 0 rfl; have e1 := hSw.2.at 1 rfl; have e2 := hSw.2.at 2 rfl; go_simp; try with_reducible rfl
              try simp only [Act.put, List.setIfInBounds_toArray, List.set_cons_zero, List.set_cons_succ]
              refine take_one 11 74 (v := ?_) rfl rfl (by kernel_rfl) (by kernel_rfl) (by kernel_rfl) (fun _ _ _ h => h) (Or.inl ⟨by rfl, ?_⟩) hHeld ?_
              rotate_left
              · intro w' hSw; (try dsimp only at hSw); have d0 := hSw.1.at 0 rfl; have d1 := hSw.1.at 1 rfl; have d2 := hSw.1.at 2 rfl; have d3 := hSw.1.at 3 rfl; have d4 := hSw.1.at 4 rfl; have d5 := hSw.1.at 5 rfl; have e0 := hSw.2.at 0 rfl; have e1 := hSw.2.at 1 rfl; have e2 := hSw.2.at 2 rfl; go_simp; try with_reducible rfl
              try simp only [Act.put, List.setIfInBounds_toArray, List.set_cons_zero, List.set_cons_succ]
              have N_ : Blk w.heap.size [.int .i64 ow, .int .i64 cl, .int .i64 (rgV x2 key 1), .int .i64 (rgV x2 key 0), .int .i64 (rgV x2 key 3), .int .i64 (rgV x2 key 4), .int .i64 (rgV x2 key 5), .string x1] ((W5.drew).setCells w.heap.size 0 [.int .i64 ow, .int .i64 cl, .int .i64 (rgV x2 key 1), .int .i64 (rgV x2 key 0), .int .i64 (rgV x2 key 3), .int .i64 (rgV x2 key 4), .int .i64 (rgV x2 key 5), .string x1]) := UC.part 0 [.int .i64 ow, .int .i64 cl, .int .i64 (rgV x2 key 1), .int .i64 (rgV x2 key 0), .int .i64 (rgV x2 key 3), .int .i64 (rgV x2 key 4), .int .i64 (rgV x2 key 5), .string x1] _ (by simp) rfl
              have GC_ := Blk.farS (q := w.heap.size) (by omega) [.int .i64 ow, .int .i64 cl, .int .i64 (rgV x2 key 1), .int .i64 (rgV x2 key 0), .int .i64 (rgV x2 key 3), .int .i64 (rgV x2 key 4), .int .i64 (rgV x2 key 5), .string x1] 0 _ GC
              have QC_ := Blk.farS (q := w.heap.size) (by omega) [.int .i64 ow, .int .i64 cl, .int .i64 (rgV x2 key 1), .int .i64 (rgV x2 key 0), .int .i64 (rgV x2 key 3), .int .i64 (rgV x2 key 4), .int .i64 (rgV x2 key 5), .string x1] 0 _ QC
              have BC_ := below_sets (m := w.heap.size) (g := w.heap.size) (by omega) [.int .i64 ow, .int .i64 cl, .int .i64 (rgV x2 key 1), .int .i64 (rgV x2 key 0), .int .i64 (rgV x2 key 3), .int .i64 (rgV x2 key 4), .int .i64 (rgV x2 key 5), .string x1] 0 _ BC
              refine wpAnyH_ready (rs := [12]) (by kernel_rfl) (by simp) ?_
              refine AllReadyH.cons (i := 12) rfl (fun K hK => ?_) AllReadyH.nil
              refine stepB 30 _ _ (w.heap.size) 0 [.int .i64 0, .int .i64 0, .int .i64 0, .int .i64 0, .int .i64 0, .int .i64 0, .int .i64 0, .string ⟨#[]⟩] [.int .i64 ow, .int .i64 cl, .int .i64 (rgV x2 key 1), .int .i64 (rgV x2 key 0), .int .i64 (rgV x2 key 3), .int .i64 (rgV x2 key 4), .int .i64 (rgV x2 key 5), .string x1] ie hie UC (by rw [hsz]; rfl) (by simp) rfl rfl rfl rfl rfl ?_
              try simp only [Act.put, List.setIfInBounds_toArray]
              obtain ⟨V1, hV1⟩ : ∃ Wz, (W5.drew).setCells (w.heap.size) 0 [.int .i64 ow, .int .i64 cl, .int .i64 (rgV x2 key 1), .int .i64 (rgV x2 key 0), .int .i64 (rgV x2 key 3), .int .i64 (rgV x2 key 4), .int .i64 (rgV x2 key 5), .string x1] = Wz := ⟨_, rfl⟩
              rw [hV1] at N_ BC_ GC_ QC_ ⊢
              clear hV1 UC BC GC QC
              have UC := N_
              have BC := BC_
              have GC := GC_
              have QC := QC_
              clear N_ BC_ GC_ QC_
              refine hK.out _ _ ⟨GC, QC⟩ (fun hHeld2 => ?_)
              clear hK K hHeld
              have hHeld := hHeld2
              clear hHeld2
              try simp only [Act.put, List.setIfInBounds_toArray, List.set_cons_zero, List.set_cons_succ]
              refine take_one 13 11 (v := ?_) rfl rfl (by kernel_rfl) (by kernel_rfl) (by kernel_rfl) (fun _ _ _ h => h) (Or.inl ⟨by rfl, ?_⟩) hHeld ?_
              rotate_left
              · intro w' hSw; (try dsimp only at hSw); have d0 := hSw.1.at 0 rfl; have d1 := hSw.1.at 1 rfl; have d2 := hSw.1.at 2 rfl; have d3 := hSw.1.at 3 rfl; have d4 := hSw.1.at 4 rfl; have d5 := hSw.1.at 5 rfl; have e0 := hSw.2.at 0 rfl; have e1 := hSw.2.at 1 rfl; have e2 := hSw.2.at 2 rfl; go_simp; try with_reducible rfl
              try simp only [Act.put]
              refine wpAnyH_done (by kernel_rfl) ?_ _
              go_wp2_with fail
              exact bodyPost_ret (res_B2 rfl _ _ w.heap.size _ (.bool true) ie hie ag30 UC (by rw [hsz]; rfl) rfl rfl) rfl ⟨by rw [HR.out], BC⟩
            · have e6 : (rgV x2 key 2 == y) = false := by simpa using h6
              have HR : Hid (trA ow cl key y tm = .tuple #[.agg #[.int .i64 0, .int .i64 0, .int .i64 0, .int .i64 0, .int .i64 0, .int .i64 0, .int .i64 0, .string ⟨#[]⟩], .bool false]) := by show _ = _; exact trA_no _ _ _ _ _ (trK_f5 _ _ _ _ _ (by rw [p2]; exact h6))
              have FU := UC.sets [.int .i64 0, .int .i64 0, .int .i64 0, .int .i64 0, .int .i64 0, .int .i64 0, .int .i64 0, .string ⟨#[]⟩] rfl
              have FB := below_sets (m := w.heap.size) (g := w.heap.size) (by omega) [.int .i64 0, .int .i64 0, .int .i64 0, .int .i64 0, .int .i64 0, .int .i64 0, .int .i64 0, .string ⟨#[]⟩] 0 _ BC
              go_wp2_with (first | (refine wpList_stB 30 _ _ w.heap.size 0 [.int .i64 0, .int .i64 0, .int .i64 0, .int .i64 0, .int .i64 0, .int .i64 0, .int .i64 0, .string ⟨#[]⟩] [.int .i64 0, .int .i64 0, .int .i64 0, .int .i64 0, .int .i64 0, .int .i64 0, .int .i64 0, .string ⟨#[]⟩] ie hie UC (by rw [hsz]; rfl) (by simp) rfl rfl rfl rfl rfl ?_; try simp only [Act.put]))
              exact bodyPost_ret (res_B2 rfl _ _ w.heap.size _ (.bool false) ie hie ag30 FU (by rw [hsz]; rfl) rfl rfl) rfl ⟨by rw [HR.out], FB⟩
        · have e5 : (y == nonce) = false := by simpa using h5
          have HR : Hid (trA ow cl key nonce tm = .tuple #[.agg #[.int .i64 0, .int .i64 0, .int .i64 0, .int .i64 0, .int .i64 0, .int .i64 0, .int .i64 0, .string ⟨#[]⟩], .bool false]) := by show _ = _; exact trA_no _ _ _ _ _ (trK_f3 _ _ _ _ _ (by rw [t1]; exact h5))
          have FU := UC.sets [.int .i64 0, .int .i64 0, .int .i64 0, .int .i64 0, .int .i64 0, .int .i64 0, .int .i64 0, .string ⟨#[]⟩] rfl
          have FB := below_sets (m := w.heap.size) (g := w.heap.size) (by omega) [.int .i64 0, .int .i64 0, .int .i64 0, .int .i64 0, .int .i64 0, .int .i64 0, .int .i64 0, .string ⟨#[]⟩] 0 _ BC
          go_wp2_with (first | (refine wpList_stB 30 _ _ w.heap.size 0 [.int .i64 0, .int .i64 0, .int .i64 0, .int .i64 0, .int .i64 0, .int .i64 0, .int .i64 0, .string ⟨#[]⟩] [.int .i64 0, .int .i64 0, .int .i64 0, .int .i64 0, .int .i64 0, .int .i64 0, .int .i64 0, .string ⟨#[]⟩] ie hie UC (by rw [hsz]; rfl) (by simp) rfl rfl rfl rfl rfl ?_; try simp only [Act.put]))
          exact bodyPost_ret (res_B2 rfl _ _ w.heap.size _ (.bool false) ie hie ag30 FU (by rw [hsz]; rfl) rfl rfl) rfl ⟨by rw [HR.out], FB⟩
      · have e3 : (m == 3) = false := by simpa using h3
        have HR : Hid (trA ow cl key nonce tm = .tuple #[.agg #[.int .i64 0, .int .i64 0, .int .i64 0, .int .i64 0, .int .i64 0, .int .i64 0, .int .i64 0, .string ⟨#[]⟩], .bool false]) := by show _ = _; exact trA_no _ _ _ _ _ (trK_f2 _ _ _ _ _ (by rw [t0]; exact h3))
        have FU := UC.sets [.int .i64 0, .int .i64 0, .int .i64 0, .int .i64 0, .int .i64 0, .int .i64 0, .int .i64 0, .string ⟨#[]⟩] rfl
        have FB := below_sets (m := w.heap.size) (g := w.heap.size) (by omega) [.int .i64 0, .int .i64 0, .int .i64 0, .int .i64 0, .int .i64 0, .int .i64 0, .int .i64 0, .string ⟨#[]⟩] 0 _ BC
        go_wp2_with (first | (refine wpList_stB 30 _ _ w.heap.size 0 [.int .i64 0, .int .i64 0, .int .i64 0, .int .i64 0, .int .i64 0, .int .i64 0, .int .i64 0, .string ⟨#[]⟩] [.int .i64 0, .int .i64 0, .int .i64 0, .int .i64 0, .int .i64 0, .int .i64 0, .int .i64 0, .string ⟨#[]⟩] ie hie UC (by rw [hsz]; rfl) (by simp) rfl rfl rfl rfl rfl ?_; try simp only [Act.put]))
        exact bodyPost_ret (res_B2 rfl _ _ w.heap.size _ (.bool false) ie hie ag30 FU (by rw [hsz]; rfl) rfl rfl) rfl ⟨by rw [HR.out], FB⟩
    · rw [Bool.not_eq_true] at h1
      rw [h1]
      have HR : Hid (trA ow cl key nonce tm = .tuple #[.agg #[.int .i64 0, .int .i64 0, .int .i64 0, .int .i64 0, .int .i64 0, .int .i64 0, .int .i64 0, .string ⟨#[]⟩], .bool false]) := by show _ = _; exact trA_no _ _ _ _ _ (trK_f1 _ _ _ _ _ h1)
      have FU := UC.sets [.int .i64 0, .int .i64 0, .int .i64 0, .int .i64 0, .int .i64 0, .int .i64 0, .int .i64 0, .string ⟨#[]⟩] rfl
      have FB := below_sets (m := w.heap.size) (g := w.heap.size) (by omega) [.int .i64 0, .int .i64 0, .int .i64 0, .int .i64 0, .int .i64 0, .int .i64 0, .int .i64 0, .string ⟨#[]⟩] 0 _ BC
      go_wp2_with (first | (refine wpList_stB 30 _ _ w.heap.size 0 [.int .i64 0, .int .i64 0, .int .i64 0, .int .i64 0, .int .i64 0, .int .i64 0, .int .i64 0, .string ⟨#[]⟩] [.int .i64 0, .int .i64 0, .int .i64 0, .int .i64 0, .int .i64 0, .int .i64 0, .int .i64 0, .string ⟨#[]⟩] ie hie UC (by rw [hsz]; rfl) (by simp) rfl rfl rfl rfl rfl ?_; try simp only [Act.put]))
      exact bodyPost_ret (res_B2 rfl _ _ w.heap.size _ (.bool false) ie hie ag30 FU (by rw [hsz]; rfl) rfl rfl) rfl ⟨by rw [HR.out], FB⟩
  · rw [Bool.not_eq_true] at h0
    rw [h0]
    have HR : Hid (trA ow cl key nonce tm = .tuple #[.agg #[.int .i64 0, .int .i64 0, .int .i64 0, .int .i64 0, .int .i64 0, .int .i64 0, .int .i64 0, .string ⟨#[]⟩], .bool false]) := by show _ = _; exact trA_no _ _ _ _ _ (trK_f0 _ _ _ _ _ h0)
    have FU := UC.sets [.int .i64 0, .int .i64 0, .int .i64 0, .int .i64 0, .int .i64 0, .int .i64 0, .int .i64 0, .string ⟨#[]⟩] rfl
    have FB := below_sets (m := w.heap.size) (g := w.heap.size) (by omega) [.int .i64 0, .int .i64 0, .int .i64 0, .int .i64 0, .int .i64 0, .int .i64 0, .int .i64 0, .string ⟨#[]⟩] 0 _ BC
    go_wp2_with (first | (refine wpList_stB 30 _ _ w.heap.size 0 [.int .i64 0, .int .i64 0, .int .i64 0, .int .i64 0, .int .i64 0, .int .i64 0, .int .i64 0, .string ⟨#[]⟩] [.int .i64 0, .int .i64 0, .int .i64 0, .int .i64 0, .int .i64 0, .int .i64 0, .int .i64 0, .string ⟨#[]⟩] ie hie UC (by rw [hsz]; rfl) (by simp) rfl rfl rfl rfl rfl ?_; try simp only [Act.put]))
    exact bodyPost_ret (res_B2 rfl _ _ w.heap.size _ (.bool false) ie hie ag30 FU (by rw [hsz]; rfl) rfl rfl) rfl ⟨by rw [HR.out], FB⟩
end Go.Proofs.Ytbbaddcldoflfaa

set_option linter.unusedVariables false
set_option maxRecDepth 100000
namespace Go.Proofs.Ytbbaddcldoflfaa
open Go Go.RowKit Own Var Term

set_option maxHeartbeats 1600000 in
theorem eqCred_is (o cl sv k a b e : Int) (tk : ByteArray) (w : World) : Calls Try.prog 12 #[.agg #[.int .i64 o, .int .i64 cl, .int .i64 sv, .int .i64 k, .int .i64 a, .int .i64 b, .int .i64 e, .string tk], .agg #[.int .i64 o, .int .i64 cl, .int .i64 sv, .int .i64 k, .int .i64 a, .int .i64 b, .int .i64 e, .string tk]] w fun en w' => en = .returned (.bool true) ∧ Below w.heap.size w w' := by
  have BC : Below w.heap.size w ((w.alloc (.cells #[.int .i64 o, .int .i64 cl, .int .i64 sv, .int .i64 k, .int .i64 a, .int .i64 b, .int .i64 e, .string tk] 30)).alloc (.cells #[.int .i64 o, .int .i64 cl, .int .i64 sv, .int .i64 k, .int .i64 a, .int .i64 b, .int .i64 e, .string tk] 30)) := ((Below.refl _ _).alloc (by simp <;> omega) _).alloc (by simp <;> omega) _
  have TC : Blk w.heap.size [.int .i64 o, .int .i64 cl, .int .i64 sv, .int .i64 k, .int .i64 a, .int .i64 b, .int .i64 e, .string tk] ((w.alloc (.cells #[.int .i64 o, .int .i64 cl, .int .i64 sv, .int .i64 k, .int .i64 a, .int .i64 b, .int .i64 e, .string tk] 30)).alloc (.cells #[.int .i64 o, .int .i64 cl, .int .i64 sv, .int .i64 k, .int .i64 a, .int .i64 b, .int .i64 e, .string tk] 30)) := by have h_ := ((Blk.new w #[.int .i64 o, .int .i64 cl, .int .i64 sv, .int .i64 k, .int .i64 a, .int .i64 b, .int .i64 e, .string tk] 30).alloc (by simp <;> omega) (.cells #[.int .i64 o, .int .i64 cl, .int .i64 sv, .int .i64 k, .int .i64 a, .int .i64 b, .int .i64 e, .string tk] 30)); simpa using h_
  have UC : Blk (w.heap.size + 1) [.int .i64 o, .int .i64 cl, .int .i64 sv, .int .i64 k, .int .i64 a, .int .i64 b, .int .i64 e, .string tk] ((w.alloc (.cells #[.int .i64 o, .int .i64 cl, .int .i64 sv, .int .i64 k, .int .i64 a, .int .i64 b, .int .i64 e, .string tk] 30)).alloc (.cells #[.int .i64 o, .int .i64 cl, .int .i64 sv, .int .i64 k, .int .i64 a, .int .i64 b, .int .i64 e, .string tk] 30)) := by have h_ := (Blk.new (w.alloc (.cells #[.int .i64 o, .int .i64 cl, .int .i64 sv, .int .i64 k, .int .i64 a, .int .i64 b, .int .i64 e, .string tk] 30)) #[.int .i64 o, .int .i64 cl, .int .i64 sv, .int .i64 k, .int .i64 a, .int .i64 b, .int .i64 e, .string tk] 30); simpa using h_
  go_enter Try.func12, Try.ntmps12
  have q1_ := TC.at 0 rfl
  have q2_ := TC.at 1 rfl
  have q3_ := TC.at 2 rfl
  have q4_ := TC.at 3 rfl
  have q5_ := TC.at 4 rfl
  have q6_ := TC.at 5 rfl
  have q7_ := TC.at 6 rfl
  have q8_ := TC.at 7 rfl
  have q9_ := UC.at 0 rfl
  have q10_ := UC.at 1 rfl
  have q11_ := UC.at 2 rfl
  have q12_ := UC.at 3 rfl
  have q13_ := UC.at 4 rfl
  have q14_ := UC.at 5 rfl
  have q15_ := UC.at 6 rfl
  have q16_ := UC.at 7 rfl
  go_wp2_with fail
  refine (eqRest_is a b e _).mono ?_
  rintro en w3 ⟨rfl, hb⟩
  replace TC := TC.later hb TC.lt
  replace UC := UC.later hb UC.lt
  replace BC := BC.trans (hb.mono BC.size)
  clear hb
  clear q1_ q2_ q3_ q4_ q5_ q6_ q7_ q8_ q9_ q10_ q11_ q12_ q13_ q14_ q15_ q16_
  have q17_ := TC.at 0 rfl
  have q18_ := TC.at 1 rfl
  have q19_ := TC.at 2 rfl
  have q20_ := TC.at 3 rfl
  have q21_ := TC.at 4 rfl
  have q22_ := TC.at 5 rfl
  have q23_ := TC.at 6 rfl
  have q24_ := TC.at 7 rfl
  have q25_ := UC.at 0 rfl
  have q26_ := UC.at 1 rfl
  have q27_ := UC.at 2 rfl
  have q28_ := UC.at 3 rfl
  have q29_ := UC.at 4 rfl
  have q30_ := UC.at 5 rfl
  have q31_ := UC.at 6 rfl
  have q32_ := UC.at 7 rfl
  go_wp2
  go_ret
  exact ⟨rfl, BC⟩
set_option maxHeartbeats 6400000 in
theorem take_walk (ow cl key nonce : Int) (tm : ByteArray) (w : World) : Calls Try.prog 4 #[.int .i64 ow, .int .i64 cl, .int .i64 key, .int .i64 nonce, .string tm] w fun en w' => en = .returned (.bool true) ∧ Below w.heap.size w w' := by
  by_cases h : 1048576 < tm.size
  · go_enter Try.func4, Try.ntmps4
    go_wp2
    go_ret
    exact ⟨rfl, Below.refl _ _⟩
  obtain ⟨o, c, sv, k, a, b, e, tk, bb, hR⟩ : ∃ (o c sv k a b e : Int) (tk : ByteArray) (bb : Bool), trA ow cl key nonce tm = .tuple #[.agg #[.int .i64 o, .int .i64 c, .int .i64 sv, .int .i64 k, .int .i64 a, .int .i64 b, .int .i64 e, .string tk], .bool bb] := by
    unfold trA
    split
    · exact ⟨_, _, _, _, _, _, _, _, _, rfl⟩
    · exact ⟨_, _, _, _, _, _, _, _, _, rfl⟩
  have R1 := fun w => specTake_is ow cl key nonce tm w (by omega)
  have R2 := fun w => implTake_is ow cl key nonce tm w (by omega)
  rw [hR] at R1 R2
  clear hR
  have BC := Below.refl w.heap.size w
  go_enter Try.func4, Try.ntmps4
  go_wp2_with fail
  refine (R1 _).mono ?_
  rintro en w2 ⟨rfl, hb⟩
  replace BC := BC.trans (hb.mono BC.size)
  clear hb
  have XA_ : Below w2.heap.size w2 (w2.alloc (.cells #[.int .i64 o, .int .i64 c, .int .i64 sv, .int .i64 k, .int .i64 a, .int .i64 b, .int .i64 e, .string tk] 30)) := (Below.refl _ _).alloc (Nat.le_refl _) _
  have TC : Blk w2.heap.size [.int .i64 o, .int .i64 c, .int .i64 sv, .int .i64 k, .int .i64 a, .int .i64 b, .int .i64 e, .string tk] (w2.alloc (.cells #[.int .i64 o, .int .i64 c, .int .i64 sv, .int .i64 k, .int .i64 a, .int .i64 b, .int .i64 e, .string tk] 30)) := Blk.new _ _ _
  replace BC := BC.trans (XA_.mono BC.size)
  clear XA_
  obtain ⟨W3, hW3⟩ : ∃ Wz, (w2.alloc (.cells #[.int .i64 o, .int .i64 c, .int .i64 sv, .int .i64 k, .int .i64 a, .int .i64 b, .int .i64 e, .string tk] 30)) = Wz := ⟨_, rfl⟩
  rw [hW3] at TC BC
  go_wp2_with (first | (rw [hW3]))
  refine (R2 _).mono ?_
  rintro en w4 ⟨rfl, hb⟩
  replace TC := TC.later hb TC.lt
  replace BC := BC.trans (hb.mono BC.size)
  clear hb
  clear hW3
  have XA_ : Below w4.heap.size w4 (w4.alloc (.cells #[.int .i64 o, .int .i64 c, .int .i64 sv, .int .i64 k, .int .i64 a, .int .i64 b, .int .i64 e, .string tk] 30)) := (Below.refl _ _).alloc (Nat.le_refl _) _
  have UC : Blk w4.heap.size [.int .i64 o, .int .i64 c, .int .i64 sv, .int .i64 k, .int .i64 a, .int .i64 b, .int .i64 e, .string tk] (w4.alloc (.cells #[.int .i64 o, .int .i64 c, .int .i64 sv, .int .i64 k, .int .i64 a, .int .i64 b, .int .i64 e, .string tk] 30)) := Blk.new _ _ _
  replace TC := TC.later XA_ TC.lt
  replace BC := BC.trans (XA_.mono BC.size)
  clear XA_
  obtain ⟨W5, hW5⟩ : ∃ Wz, (w4.alloc (.cells #[.int .i64 o, .int .i64 c, .int .i64 sv, .int .i64 k, .int .i64 a, .int .i64 b, .int .i64 e, .string tk] 30)) = Wz := ⟨_, rfl⟩
  rw [hW5] at TC UC BC
  have q1_ := TC.at 0 rfl
  have q2_ := TC.at 1 rfl
  have q3_ := TC.at 2 rfl
  have q4_ := TC.at 3 rfl
  have q5_ := TC.at 4 rfl
  have q6_ := TC.at 5 rfl
  have q7_ := TC.at 6 rfl
  have q8_ := TC.at 7 rfl
  have q9_ := UC.at 0 rfl
  have q10_ := UC.at 1 rfl
  have q11_ := UC.at 2 rfl
  have q12_ := UC.at 3 rfl
  have q13_ := UC.at 4 rfl
  have q14_ := UC.at 5 rfl
  have q15_ := UC.at 6 rfl
  have q16_ := UC.at 7 rfl
  go_wp2_with (first | (rw [hW5]))
  refine (eqCred_is o c sv k a b e tk _).mono ?_
  rintro en w6 ⟨rfl, hb⟩
  replace BC := BC.trans (hb.mono BC.size)
  clear q1_ q2_ q3_ q4_ q5_ q6_ q7_ q8_ q9_ q10_ q11_ q12_ q13_ q14_ q15_ q16_ hW5
  cases bb <;> (go_wp2; go_ret; exact ⟨rfl, BC⟩)
end Go.Proofs.Ytbbaddcldoflfaa
