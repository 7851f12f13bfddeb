/- Chapter 9: what one has of a reply, the program's. -/
import Derived.Test.YtbbaddcldoflfaaTr1
import Derived.Test.YtbbaddcldoflfaaRdG
set_option linter.unusedVariables false
set_option maxRecDepth 100000
namespace Go.Proofs.Ytbbaddcldoflfaa
open Go Go.RowKit Own Var Term

set_option maxHeartbeats 6400000 in
theorem implTake_is (ow cl key nonce : Int) (tm : ByteArray) (w : World) (htm : tm.size ≤ 1048576) : Calls Try.prog 11 #[.int .i64 ow, .int .i64 cl, .int .i64 key, .int .i64 nonce, .string tm] w fun en w' => en = .returned (trA ow cl key nonce tm) ∧ Below w.heap.size w w' := by
  obtain ⟨ie, hie, hsz⟩ := info_cred
  have hpz := just_size tm 3
  obtain ⟨x0, x1, x2, hx⟩ : ∃ x0 x1 x2, just (⟨#[]⟩ : ByteArray) (partsR tm).1 3 = [x0, x1, x2] := by
    have hl := just_len (⟨#[]⟩ : ByteArray) (partsR tm).1 3
    match just (⟨#[]⟩ : ByteArray) (partsR tm).1 3, hl with
    | [x0, x1, x2], _ => exact ⟨x0, x1, x2, rfl⟩
  obtain ⟨m, y, hw⟩ : ∃ m y, just (0 : Int) (numsR x0).1 2 = [m, y] := by
    have hl := just_len (0 : Int) (numsR x0).1 2
    match just (0 : Int) (numsR x0).1 2, hl with
    | [m, y], _ => exact ⟨m, y, rfl⟩
  have p0 : trP tm 0 = x0 := by unfold trP; rw [hx]; rfl
  have p1 : trP tm 1 = x1 := by unfold trP; rw [hx]; rfl
  have p2 : trP tm 2 = x2 := by unfold trP; rw [hx]; rfl
  have t0 : trN tm 0 = m := by unfold trN; rw [p0, hw]; rfl
  have t1 : trN tm 1 = y := by unfold trN; rw [p0, hw]; rfl
  rw [hx] at hpz
  have s0 : x0.size ≤ 1048576 := Nat.le_trans (hpz x0 (by simp)) (by omega)
  have s2 : x2.size ≤ 1048576 := Nat.le_trans (hpz x2 (by simp)) (by omega)
  clear hpz
  have HP := fun w => partsOf_is tm 3 w htm (by omega)
  rw [hx] at HP
  have HM := fun w => numbersOf_is x0 2 w s0 (by omega)
  rw [hw] at HM
  have BC : Below w.heap.size w (w.alloc (.cells #[.int .i64 0, .int .i64 0, .int .i64 0, .int .i64 0, .int .i64 0, .int .i64 0, .int .i64 0, .string ⟨#[]⟩] 30)) := (Below.refl _ _).alloc (by simp <;> omega) _
  have UC : Blk w.heap.size [.int .i64 0, .int .i64 0, .int .i64 0, .int .i64 0, .int .i64 0, .int .i64 0, .int .i64 0, .string ⟨#[]⟩] (w.alloc (.cells #[.int .i64 0, .int .i64 0, .int .i64 0, .int .i64 0, .int .i64 0, .int .i64 0, .int .i64 0, .string ⟨#[]⟩] 30)) := by have h_ := (Blk.new w #[.int .i64 0, .int .i64 0, .int .i64 0, .int .i64 0, .int .i64 0, .int .i64 0, .int .i64 0, .string ⟨#[]⟩] 30); simpa using h_
  go_enter Try.func11, Try.ntmps11
  go_wp2_with fail
  refine (HP _).mono ?_
  rintro en w2 ⟨v, rfl, hown, hb⟩
  replace UC := UC.later hb UC.lt
  replace BC := BC.trans (hb.mono BC.size)
  clear hb
  obtain ⟨gp, capp, rfl, hcap, hg, hlt, QC⟩ := own_blk (f := Value.string) (xs := [x0, x1, x2]) hown (by simp)
  have hc3 : (3 : Int) ≤ (capp : Int) := by omega
  replace QC : Blk gp [.string x0, .string x1, .string x2] w2 := QC
  have hg0 : w.heap.size < gp := by have h_ := hg; simp at h_; omega
  clear hown hg hlt hcap HP hx hw
  have q1_ := QC.at 0 rfl
  go_wp2_with fail
  refine (HM _).mono ?_
  rintro en w3 ⟨vn, rfl, ho, hb⟩
  replace UC := UC.later hb UC.lt
  replace QC := QC.later hb QC.lt
  replace BC := BC.trans (hb.mono BC.size)
  clear hb
  clear q1_
  obtain ⟨gn, capn, rfl, hcap, hg, hlt, NC⟩ := own_blk (f := Value.int .i64) (xs := [m, y]) ho (by simp)
  have hc2 : (2 : Int) ≤ (capn : Int) := by omega
  replace NC : Blk gn [.int .i64 m, .int .i64 y] w3 := NC
  clear ho hg hlt hcap HM
  have q2_ := QC.at 2 rfl
  go_wp2_with fail
  refine (implReadG_is x2 key _ s2).mono ?_
  rintro en w4 ⟨rfl, hb⟩
  replace UC := UC.later hb UC.lt
  replace QC := QC.later hb QC.lt
  replace NC := NC.later hb NC.lt
  replace BC := BC.trans (hb.mono BC.size)
  clear hb
  clear q2_
  have Z4 : Hid (w.heap.size < w4.heap.size) := UC.lt
  have XA_ : Below w4.heap.size w4 (w4.alloc (.cells #[.int .i64 (rgV x2 key 0), .int .i64 (rgV x2 key 1), .int .i64 (rgV x2 key 2), .int .i64 (rgV x2 key 3), .int .i64 (rgV x2 key 4), .int .i64 (rgV x2 key 5)] 56)) := (Below.refl _ _).alloc (Nat.le_refl _) _
  have GC : Blk w4.heap.size [.int .i64 (rgV x2 key 0), .int .i64 (rgV x2 key 1), .int .i64 (rgV x2 key 2), .int .i64 (rgV x2 key 3), .int .i64 (rgV x2 key 4), .int .i64 (rgV x2 key 5)] (w4.alloc (.cells #[.int .i64 (rgV x2 key 0), .int .i64 (rgV x2 key 1), .int .i64 (rgV x2 key 2), .int .i64 (rgV x2 key 3), .int .i64 (rgV x2 key 4), .int .i64 (rgV x2 key 5)] 56)) := Blk.new _ _ _
  replace UC := UC.later XA_ UC.lt
  replace QC := QC.later XA_ QC.lt
  replace NC := NC.later XA_ NC.lt
  replace BC := BC.trans (XA_.mono BC.size)
  clear XA_
  obtain ⟨W5, hW5⟩ : ∃ Wz, (w4.alloc (.cells #[.int .i64 (rgV x2 key 0), .int .i64 (rgV x2 key 1), .int .i64 (rgV x2 key 2), .int .i64 (rgV x2 key 3), .int .i64 (rgV x2 key 4), .int .i64 (rgV x2 key 5)] 56)) = Wz := ⟨_, rfl⟩
  rw [hW5] at UC QC NC GC BC
  go_wp2_with (first | (rw [hW5]))
  refine (prin_is ow _).mono ?_
  rintro en w_ ⟨rfl, rfl⟩
  clear hW5
  by_cases h0 : btw ow 0 5 = true
  · rw [h0]
    go_wp2_with fail
    refine (prin_is cl _).mono ?_
    rintro en w_ ⟨rfl, rfl⟩
    by_cases h1 : btw cl 0 5 = true
    · rw [h1]
      have q3_ := NC.at 0 rfl
      have q4_ := NC.at 1 rfl
      by_cases h3 : m = 3
      · subst h3
        try simp only []
        by_cases h5 : y = nonce
        · subst h5
          have q5_ := GC.at 2 rfl
          cases h4 : rgK x2 key with
          | false =>
            have HR : Hid (trA ow cl key y tm = .tuple #[.agg #[.int .i64 0, .int .i64 0, .int .i64 0, .int .i64 0, .int .i64 0, .int .i64 0, .int .i64 0, .string ⟨#[]⟩], .bool false]) := by show _ = _; exact trA_no _ _ _ _ _ (trK_f4 _ _ _ _ _ (by rw [p2]; exact h4))
            have FU := UC.sets [.int .i64 0, .int .i64 0, .int .i64 0, .int .i64 0, .int .i64 0, .int .i64 0, .int .i64 0, .string ⟨#[]⟩] rfl
            have FB := below_sets (m := w.heap.size) (g := w.heap.size) (by omega) [.int .i64 0, .int .i64 0, .int .i64 0, .int .i64 0, .int .i64 0, .int .i64 0, .int .i64 0, .string ⟨#[]⟩] 0 _ BC
            go_wp2_with (first | (refine wpList_stB 30 _ _ w.heap.size 0 [.int .i64 0, .int .i64 0, .int .i64 0, .int .i64 0, .int .i64 0, .int .i64 0, .int .i64 0, .string ⟨#[]⟩] [.int .i64 0, .int .i64 0, .int .i64 0, .int .i64 0, .int .i64 0, .int .i64 0, .int .i64 0, .string ⟨#[]⟩] ie hie UC (by rw [hsz]; rfl) (by simp) rfl rfl rfl rfl rfl ?_; try simp only [Act.put]))
            exact bodyPost_ret (res_B2 rfl _ _ w.heap.size _ (.bool false) ie hie ag30 FU (by rw [hsz]; rfl) rfl rfl) rfl ⟨by rw [HR.out], FB⟩
          | true =>
            by_cases h6 : rgV x2 key 2 = y
            · have e6 : (rgV x2 key 2 == y) = true := by simpa using h6
              have H6 : Hid (rgV x2 key 2 = y) := h6
              clear h6
              have HR : Hid (trA ow cl key y tm = .tuple #[.agg #[.int .i64 ow, .int .i64 cl, .int .i64 (rgV x2 key 1), .int .i64 (rgV x2 key 0), .int .i64 (rgV x2 key 3), .int .i64 (rgV x2 key 4), .int .i64 (rgV x2 key 5), .string x1], .bool true]) := by show _ = _; have h_ := trA_yes ow cl key y tm h0 h1 t0 t1 (by rw [p2]; exact h4) (by rw [p2]; exact H6.out); rw [p1, p2] at h_; exact h_
              go_wp2_with fail
              clear q3_ q4_ q5_
              have z4_ := Z4.out
              replace UC := UC.drew
              replace GC := GC.drew
              replace QC := QC.drew
              replace BC := BC.drew
              refine wp_region_held_drew (S := (fun Vw => Blk w4.heap.size [.int .i64 (rgV x2 key 0), .int .i64 (rgV x2 key 1), .int .i64 (rgV x2 key 2), .int .i64 (rgV x2 key 3), .int .i64 (rgV x2 key 4), .int .i64 (rgV x2 key 5)] Vw ∧ Blk gp [.string x0, .string x1, .string x2] Vw)) (by kernel_rfl) ⟨GC, QC⟩ (fun hHeld => ?_)
              refine take_one 0 63 (v := ?_) rfl rfl (by kernel_rfl) (by kernel_rfl) (by kernel_rfl) (fun _ _ _ h => h) (Or.inl ⟨by rfl, ?_⟩) hHeld ?_
              rotate_left
              · intro w' hSw; (try dsimp only at hSw); have d0 := hSw.1.at 0 rfl; have d1 := hSw.1.at 1 rfl; have d2 := hSw.1.at 2 rfl; have d3 := hSw.1.at 3 rfl; have d4 := hSw.1.at 4 rfl; have d5 := hSw.1.at 5 rfl; have e0 := hSw.2.at 0 rfl; have e1 := hSw.2.at 1 rfl; have e2 := hSw.2.at 2 rfl; go_simp; try with_reducible rfl
              try simp only [Act.put, List.setIfInBounds_toArray, List.set_cons_zero, List.set_cons_succ]
              refine take_one 1 64 (v := ?_) rfl rfl (by kernel_rfl) (by kernel_rfl) (by kernel_rfl) (fun _ _ _ h => h) (Or.inl ⟨by rfl, ?_⟩) hHeld ?_
              rotate_left
              · intro w' hSw; (try dsimp only at hSw); have d0 := hSw.1.at 0 rfl; have d1 := hSw.1.at 1 rfl; have d2 := hSw.1.at 2 rfl; have d3 := hSw.1.at 3 rfl; have d4 := hSw.1.at 4 rfl; have d5 := hSw.1.at 5 rfl; have e0 := hSw.2.at 0 rfl; have e1 := hSw.2.at 1 rfl; have e2 := hSw.2.at 2 rfl; go_simp; try with_reducible rfl
              try simp only [Act.put, List.setIfInBounds_toArray, List.set_cons_zero, List.set_cons_succ]
              refine take_one 2 65 (v := ?_) rfl rfl (by kernel_rfl) (by kernel_rfl) (by kernel_rfl) (fun _ _ _ h => h) (Or.inl ⟨by rfl, ?_⟩) hHeld ?_
              rotate_left
              · intro w' hSw; (try dsimp only at hSw); have d0 := hSw.1.at 0 rfl; have d1 := hSw.1.at 1 rfl; have d2 := hSw.1.at 2 rfl; have d3 := hSw.1.at 3 rfl; have d4 := hSw.1.at 4 rfl; have d5 := hSw.1.at 5 rfl; have e0 := hSw.2.at 0 rfl; have e1 := hSw.2.at 1 rfl; have e2 := hSw.2.at 2 rfl; go_simp; try with_reducible rfl
              try simp only [Act.put, List.setIfInBounds_toArray, List.set_cons_zero, List.set_cons_succ]
              refine take_one 3 66 (v := ?_) rfl rfl (by kernel_rfl) (by kernel_rfl) (by kernel_rfl) (fun _ _ _ h => h) (Or.inl ⟨by rfl, ?_⟩) hHeld ?_
              rotate_left
              · intro w' hSw; (try dsimp only at hSw); have d0 := hSw.1.at 0 rfl; have d1 := hSw.1.at 1 rfl; have d2 := hSw.1.at 2 rfl; have d3 := hSw.1.at 3 rfl; have d4 := hSw.1.at 4 rfl; have d5 := hSw.1.at 5 rfl; have e0 := hSw.2.at 0 rfl; have e1 := hSw.2.at 1 rfl; have e2 := hSw.2.at 2 rfl; go_simp; try with_reducible rfl
              try simp only [Act.put, List.setIfInBounds_toArray, List.set_cons_zero, List.set_cons_succ]
              refine take_one 4 67 (v := ?_) rfl rfl (by kernel_rfl) (by kernel_rfl) (by kernel_rfl) (fun _ _ _ h => h) (Or.inl ⟨by rfl, ?_⟩) hHeld ?_
              rotate_left
              · intro w' hSw; (try dsimp only at hSw); have d0 := hSw.1.at 0 rfl; have d1 := hSw.1.at 1 rfl; have d2 := hSw.1.at 2 rfl; have d3 := hSw.1.at 3 rfl; have d4 := hSw.1.at 4 rfl; have d5 := hSw.1.at 5 rfl; have e0 := hSw.2.at 0 rfl; have e1 := hSw.2.at 1 rfl; have e2 := hSw.2.at 2 rfl; go_simp; try with_reducible rfl
              try simp only [Act.put, List.setIfInBounds_toArray, List.set_cons_zero, List.set_cons_succ]
              refine take_one 5 68 (v := ?_) rfl rfl (by kernel_rfl) (by kernel_rfl) (by kernel_rfl) (fun _ _ _ h => h) (Or.inl ⟨by rfl, ?_⟩) hHeld ?_
              rotate_left
              · intro w' hSw; (try dsimp only at hSw); have d0 := hSw.1.at 0 rfl; have d1 := hSw.1.at 1 rfl; have d2 := hSw.1.at 2 rfl; have d3 := hSw.1.at 3 rfl; have d4 := hSw.1.at 4 rfl; have d5 := hSw.1.at 5 rfl; have e0 := hSw.2.at 0 rfl; have e1 := hSw.2.at 1 rfl; have e2 := hSw.2.at 2 rfl; go_simp; try with_reducible rfl
              try simp only [Act.put, List.setIfInBounds_toArray, List.set_cons_zero, List.set_cons_succ]
              refine take_one 6 69 (v := ?_) rfl rfl (by kernel_rfl) (by kernel_rfl) (by kernel_rfl) (fun _ _ _ h => h) (Or.inl ⟨by rfl, ?_⟩) hHeld ?_
              rotate_left
              · intro w' hSw; (try dsimp only at hSw); have d0 := hSw.1.at 0 rfl; have d1 := hSw.1.at 1 rfl; have d2 := hSw.1.at 2 rfl; have d3 := hSw.1.at 3 rfl; have d4 := hSw.1.at 4 rfl; have d5 := hSw.1.at 5 rfl; have e0 := hSw.2.at 0 rfl; have e1 := hSw.2.at 1 rfl; have e2 := hSw.2.at 2 rfl; go_simp; try with_reducible rfl
              try simp only [Act.put, List.setIfInBounds_toArray, List.set_cons_zero, List.set_cons_succ]
              refine take_one 7 70 (v := ?_) rfl rfl (by kernel_rfl) (by kernel_rfl) (by kernel_rfl) (fun _ _ _ h => h) (Or.inl ⟨by rfl, ?_⟩) hHeld ?_
              rotate_left
              · intro w' hSw; (try dsimp only at hSw); have d0 := hSw.1.at 0 rfl; have d1 := hSw.1.at 1 rfl; have d2 := hSw.1.at 2 rfl; have d3 := hSw.1.at 3 rfl; have d4 := hSw.1.at 4 rfl; have d5 := hSw.1.at 5 rfl; have e0 := hSw.2.at 0 rfl; have e1 := hSw.2.at 1 rfl; have e2 := hSw.2.at 2 rfl; go_simp; try with_reducible rfl
              try simp only [Act.put, List.setIfInBounds_toArray, List.set_cons_zero, List.set_cons_succ]
              refine take_one 8 71 (v := ?_) rfl rfl (by kernel_rfl) (by kernel_rfl) (by kernel_rfl) (fun _ _ _ h => h) (Or.inl ⟨by rfl, ?_⟩) hHeld ?_
              rotate_left
              · intro w' hSw; (try dsimp only at hSw); have d0 := hSw.1.at 0 rfl; have d1 := hSw.1.at 1 rfl; have d2 := hSw.1.at 2 rfl; have d3 := hSw.1.at 3 rfl; have d4 := hSw.1.at 4 rfl; have d5 := hSw.1.at 5 rfl; have e0 := hSw.2.at 0 rfl; have e1 := hSw.2.at 1 rfl; have e2 := hSw.2.at 2 rfl; go_simp; try with_reducible rfl
              try simp only [Act.put, List.setIfInBounds_toArray, List.set_cons_zero, List.set_cons_succ]
              refine take_one 9 72 (v := ?_) rfl rfl (by kernel_rfl) (by kernel_rfl) (by kernel_rfl) (fun _ _ _ h => h) (Or.inl ⟨by rfl, ?_⟩) hHeld ?_
              rotate_left
              · intro w' hSw; (try dsimp only at hSw); have d0 := hSw.1.at 0 rfl; have d1 := hSw.1.at 1 rfl; have d2 := hSw.1.at 2 rfl; have d3 := hSw.1.at 3 rfl; have d4 := hSw.1.at 4 rfl; have d5 := hSw.1.at 5 rfl; have e0 := hSw.2.at 0 rfl; have e1 := hSw.2.at 1 rfl; have e2 := hSw.2.at 2 rfl; go_simp; try with_reducible rfl
              try simp only [Act.put, List.setIfInBounds_toArray, List.set_cons_zero, List.set_cons_succ]
              refine take_one 10 73 (v := ?_) rfl rfl (by kernel_rfl) (by kernel_rfl) (by kernel_rfl) (fun _ _ _ h => h) (Or.inl ⟨by rfl, ?_⟩) hHeld ?_
              rotate_left
              · intro w' hSw; (try dsimp only at hSw); have d0 := hSw.1.at 0 rfl; have d1 := hSw.1.at 1 rfl; have d2 := hSw.1.at 2 rfl; have d3 := hSw.1.at 3 rfl; have d4 := hSw.1.at 4 rfl; have d5 := hSw.1.at 5 rfl; have e0 := hSw.2.at 0 rfl; have e1 := hSw.2.at 1 rfl; have e2 := hSw.2.at 2 rfl; go_simp; try with_reducible rfl
              try simp only [Act.put, List.setIfInBounds_toArray, List.set_cons_zero, List.set_cons_succ]
              refine take_one 11 74 (v := ?_) rfl rfl (by kernel_rfl) (by kernel_rfl) (by kernel_rfl) (fun _ _ _ h => h) (Or.inl ⟨by rfl, ?_⟩) hHeld ?_
              rotate_left
              · intro w' hSw; (try dsimp only at hSw); have d0 := hSw.1.at 0 rfl; have d1 := hSw.1.at 1 rfl; have d2 := hSw.1.at 2 rfl; have d3 := hSw.1.at 3 rfl; have d4 := hSw.1.at 4 rfl; have d5 := hSw.1.at 5 rfl; have e0 := hSw.2.at 0 rfl; have e1 := hSw.2.at 1 rfl; have e2 := hSw.2.at 2 rfl; go_simp; try with_reducible rfl
              try simp only [Act.put, List.setIfInBounds_toArray, List.set_cons_zero, List.set_cons_succ]
              have N_ : Blk w.heap.size [.int .i64 ow, .int .i64 cl, .int .i64 (rgV x2 key 1), .int .i64 (rgV x2 key 0), .int .i64 (rgV x2 key 3), .int .i64 (rgV x2 key 4), .int .i64 (rgV x2 key 5), .string x1] ((W5.drew).setCells w.heap.size 0 [.int .i64 ow, .int .i64 cl, .int .i64 (rgV x2 key 1), .int .i64 (rgV x2 key 0), .int .i64 (rgV x2 key 3), .int .i64 (rgV x2 key 4), .int .i64 (rgV x2 key 5), .string x1]) := UC.part 0 [.int .i64 ow, .int .i64 cl, .int .i64 (rgV x2 key 1), .int .i64 (rgV x2 key 0), .int .i64 (rgV x2 key 3), .int .i64 (rgV x2 key 4), .int .i64 (rgV x2 key 5), .string x1] _ (by simp) rfl
              have GC_ := Blk.farS (q := w.heap.size) (by omega) [.int .i64 ow, .int .i64 cl, .int .i64 (rgV x2 key 1), .int .i64 (rgV x2 key 0), .int .i64 (rgV x2 key 3), .int .i64 (rgV x2 key 4), .int .i64 (rgV x2 key 5), .string x1] 0 _ GC
              have QC_ := Blk.farS (q := w.heap.size) (by omega) [.int .i64 ow, .int .i64 cl, .int .i64 (rgV x2 key 1), .int .i64 (rgV x2 key 0), .int .i64 (rgV x2 key 3), .int .i64 (rgV x2 key 4), .int .i64 (rgV x2 key 5), .string x1] 0 _ QC
              have BC_ := below_sets (m := w.heap.size) (g := w.heap.size) (by omega) [.int .i64 ow, .int .i64 cl, .int .i64 (rgV x2 key 1), .int .i64 (rgV x2 key 0), .int .i64 (rgV x2 key 3), .int .i64 (rgV x2 key 4), .int .i64 (rgV x2 key 5), .string x1] 0 _ BC
              refine wpAnyH_ready (rs := [12]) (by kernel_rfl) (by simp) ?_
              refine AllReadyH.cons (i := 12) rfl (fun K hK => ?_) AllReadyH.nil
              refine stepB 30 _ _ (w.heap.size) 0 [.int .i64 0, .int .i64 0, .int .i64 0, .int .i64 0, .int .i64 0, .int .i64 0, .int .i64 0, .string ⟨#[]⟩] [.int .i64 ow, .int .i64 cl, .int .i64 (rgV x2 key 1), .int .i64 (rgV x2 key 0), .int .i64 (rgV x2 key 3), .int .i64 (rgV x2 key 4), .int .i64 (rgV x2 key 5), .string x1] ie hie UC (by rw [hsz]; rfl) (by simp) rfl rfl rfl rfl rfl ?_
              try simp only [Act.put, List.setIfInBounds_toArray]
              obtain ⟨V1, hV1⟩ : ∃ Wz, (W5.drew).setCells (w.heap.size) 0 [.int .i64 ow, .int .i64 cl, .int .i64 (rgV x2 key 1), .int .i64 (rgV x2 key 0), .int .i64 (rgV x2 key 3), .int .i64 (rgV x2 key 4), .int .i64 (rgV x2 key 5), .string x1] = Wz := ⟨_, rfl⟩
              rw [hV1] at N_ BC_ GC_ QC_ ⊢
              clear hV1 UC BC GC QC
              have UC := N_
              have BC := BC_
              have GC := GC_
              have QC := QC_
              clear N_ BC_ GC_ QC_
              refine hK.out _ _ ⟨GC, QC⟩ (fun hHeld2 => ?_)
              clear hK K hHeld
              have hHeld := hHeld2
              clear hHeld2
              try simp only [Act.put, List.setIfInBounds_toArray, List.set_cons_zero, List.set_cons_succ]
              refine take_one 13 11 (v := ?_) rfl rfl (by kernel_rfl) (by kernel_rfl) (by kernel_rfl) (fun _ _ _ h => h) (Or.inl ⟨by rfl, ?_⟩) hHeld ?_
              rotate_left
              · intro w' hSw; (try dsimp only at hSw); have d0 := hSw.1.at 0 rfl; have d1 := hSw.1.at 1 rfl; have d2 := hSw.1.at 2 rfl; have d3 := hSw.1.at 3 rfl; have d4 := hSw.1.at 4 rfl; have d5 := hSw.1.at 5 rfl; have e0 := hSw.2.at 0 rfl; have e1 := hSw.2.at 1 rfl; have e2 := hSw.2.at 2 rfl; go_simp; try with_reducible rfl
              try simp only [Act.put]
              refine wpAnyH_done (by kernel_rfl) ?_ _
              go_wp2_with fail
              exact bodyPost_ret (res_B2 rfl _ _ w.heap.size _ (.bool true) ie hie ag30 UC (by rw [hsz]; rfl) rfl rfl) rfl ⟨by rw [HR.out], BC⟩
            · have e6 : (rgV x2 key 2 == y) = false := by simpa using h6
              have HR : Hid (trA ow cl key y tm = .tuple #[.agg #[.int .i64 0, .int .i64 0, .int .i64 0, .int .i64 0, .int .i64 0, .int .i64 0, .int .i64 0, .string ⟨#[]⟩], .bool false]) := by show _ = _; exact trA_no _ _ _ _ _ (trK_f5 _ _ _ _ _ (by rw [p2]; exact h6))
              have FU := UC.sets [.int .i64 0, .int .i64 0, .int .i64 0, .int .i64 0, .int .i64 0, .int .i64 0, .int .i64 0, .string ⟨#[]⟩] rfl
              have FB := below_sets (m := w.heap.size) (g := w.heap.size) (by omega) [.int .i64 0, .int .i64 0, .int .i64 0, .int .i64 0, .int .i64 0, .int .i64 0, .int .i64 0, .string ⟨#[]⟩] 0 _ BC
              go_wp2_with (first | (refine wpList_stB 30 _ _ w.heap.size 0 [.int .i64 0, .int .i64 0, .int .i64 0, .int .i64 0, .int .i64 0, .int .i64 0, .int .i64 0, .string ⟨#[]⟩] [.int .i64 0, .int .i64 0, .int .i64 0, .int .i64 0, .int .i64 0, .int .i64 0, .int .i64 0, .string ⟨#[]⟩] ie hie UC (by rw [hsz]; rfl) (by simp) rfl rfl rfl rfl rfl ?_; try simp only [Act.put]))
              exact bodyPost_ret (res_B2 rfl _ _ w.heap.size _ (.bool false) ie hie ag30 FU (by rw [hsz]; rfl) rfl rfl) rfl ⟨by rw [HR.out], FB⟩
        · have e5 : (y == nonce) = false := by simpa using h5
          have HR : Hid (trA ow cl key nonce tm = .tuple #[.agg #[.int .i64 0, .int .i64 0, .int .i64 0, .int .i64 0, .int .i64 0, .int .i64 0, .int .i64 0, .string ⟨#[]⟩], .bool false]) := by show _ = _; exact trA_no _ _ _ _ _ (trK_f3 _ _ _ _ _ (by rw [t1]; exact h5))
          have FU := UC.sets [.int .i64 0, .int .i64 0, .int .i64 0, .int .i64 0, .int .i64 0, .int .i64 0, .int .i64 0, .string ⟨#[]⟩] rfl
          have FB := below_sets (m := w.heap.size) (g := w.heap.size) (by omega) [.int .i64 0, .int .i64 0, .int .i64 0, .int .i64 0, .int .i64 0, .int .i64 0, .int .i64 0, .string ⟨#[]⟩] 0 _ BC
          go_wp2_with (first | (refine wpList_stB 30 _ _ w.heap.size 0 [.int .i64 0, .int .i64 0, .int .i64 0, .int .i64 0, .int .i64 0, .int .i64 0, .int .i64 0, .string ⟨#[]⟩] [.int .i64 0, .int .i64 0, .int .i64 0, .int .i64 0, .int .i64 0, .int .i64 0, .int .i64 0, .string ⟨#[]⟩] ie hie UC (by rw [hsz]; rfl) (by simp) rfl rfl rfl rfl rfl ?_; try simp only [Act.put]))
          exact bodyPost_ret (res_B2 rfl _ _ w.heap.size _ (.bool false) ie hie ag30 FU (by rw [hsz]; rfl) rfl rfl) rfl ⟨by rw [HR.out], FB⟩
      · have e3 : (m == 3) = false := by simpa using h3
        have HR : Hid (trA ow cl key nonce tm = .tuple #[.agg #[.int .i64 0, .int .i64 0, .int .i64 0, .int .i64 0, .int .i64 0, .int .i64 0, .int .i64 0, .string ⟨#[]⟩], .bool false]) := by show _ = _; exact trA_no _ _ _ _ _ (trK_f2 _ _ _ _ _ (by rw [t0]; exact h3))
        have FU := UC.sets [.int .i64 0, .int .i64 0, .int .i64 0, .int .i64 0, .int .i64 0, .int .i64 0, .int .i64 0, .string ⟨#[]⟩] rfl
        have FB := below_sets (m := w.heap.size) (g := w.heap.size) (by omega) [.int .i64 0, .int .i64 0, .int .i64 0, .int .i64 0, .int .i64 0, .int .i64 0, .int .i64 0, .string ⟨#[]⟩] 0 _ BC
        go_wp2_with (first | (refine wpList_stB 30 _ _ w.heap.size 0 [.int .i64 0, .int .i64 0, .int .i64 0, .int .i64 0, .int .i64 0, .int .i64 0, .int .i64 0, .string ⟨#[]⟩] [.int .i64 0, .int .i64 0, .int .i64 0, .int .i64 0, .int .i64 0, .int .i64 0, .int .i64 0, .string ⟨#[]⟩] ie hie UC (by rw [hsz]; rfl) (by simp) rfl rfl rfl rfl rfl ?_; try simp only [Act.put]))
        exact bodyPost_ret (res_B2 rfl _ _ w.heap.size _ (.bool false) ie hie ag30 FU (by rw [hsz]; rfl) rfl rfl) rfl ⟨by rw [HR.out], FB⟩
    · rw [Bool.not_eq_true] at h1
      rw [h1]
      have HR : Hid (trA ow cl key nonce tm = .tuple #[.agg #[.int .i64 0, .int .i64 0, .int .i64 0, .int .i64 0, .int .i64 0, .int .i64 0, .int .i64 0, .string ⟨#[]⟩], .bool false]) := by show _ = _; exact trA_no _ _ _ _ _ (trK_f1 _ _ _ _ _ h1)
      have FU := UC.sets [.int .i64 0, .int .i64 0, .int .i64 0, .int .i64 0, .int .i64 0, .int .i64 0, .int .i64 0, .string ⟨#[]⟩] rfl
      have FB := below_sets (m := w.heap.size) (g := w.heap.size) (by omega) [.int .i64 0, .int .i64 0, .int .i64 0, .int .i64 0, .int .i64 0, .int .i64 0, .int .i64 0, .string ⟨#[]⟩] 0 _ BC
      go_wp2_with (first | (refine wpList_stB 30 _ _ w.heap.size 0 [.int .i64 0, .int .i64 0, .int .i64 0, .int .i64 0, .int .i64 0, .int .i64 0, .int .i64 0, .string ⟨#[]⟩] [.int .i64 0, .int .i64 0, .int .i64 0, .int .i64 0, .int .i64 0, .int .i64 0, .int .i64 0, .string ⟨#[]⟩] ie hie UC (by rw [hsz]; rfl) (by simp) rfl rfl rfl rfl rfl ?_; try simp only [Act.put]))
      exact bodyPost_ret (res_B2 rfl _ _ w.heap.size _ (.bool false) ie hie ag30 FU (by rw [hsz]; rfl) rfl rfl) rfl ⟨by rw [HR.out], FB⟩
  · rw [Bool.not_eq_true] at h0
    rw [h0]
    have HR : Hid (trA ow cl key nonce tm = .tuple #[.agg #[.int .i64 0, .int .i64 0, .int .i64 0, .int .i64 0, .int .i64 0, .int .i64 0, .int .i64 0, .string ⟨#[]⟩], .bool false]) := by show _ = _; exact trA_no _ _ _ _ _ (trK_f0 _ _ _ _ _ h0)
    have FU := UC.sets [.int .i64 0, .int .i64 0, .int .i64 0, .int .i64 0, .int .i64 0, .int .i64 0, .int .i64 0, .string ⟨#[]⟩] rfl
    have FB := below_sets (m := w.heap.size) (g := w.heap.size) (by omega) [.int .i64 0, .int .i64 0, .int .i64 0, .int .i64 0, .int .i64 0, .int .i64 0, .int .i64 0, .string ⟨#[]⟩] 0 _ BC
    go_wp2_with (first | (refine wpList_stB 30 _ _ w.heap.size 0 [.int .i64 0, .int .i64 0, .int .i64 0, .int .i64 0, .int .i64 0, .int .i64 0, .int .i64 0, .string ⟨#[]⟩] [.int .i64 0, .int .i64 0, .int .i64 0, .int .i64 0, .int .i64 0, .int .i64 0, .int .i64 0, .string ⟨#[]⟩] ie hie UC (by rw [hsz]; rfl) (by simp) rfl rfl rfl rfl rfl ?_; try simp only [Act.put]))
    exact bodyPost_ret (res_B2 rfl _ _ w.heap.size _ (.bool false) ie hie ag30 FU (by rw [hsz]; rfl) rfl rfl) rfl ⟨by rw [HR.out], FB⟩
end Go.Proofs.Ytbbaddcldoflfaa
