/- Grants: what a text is read as. -/
import Derived.Test.YtbbaddcldoflfaaFillA
import Derived.Test.YtbbaddcldoflfaaShG3
set_option linter.unusedVariables false
namespace Go.Proofs.Ytbbaddcldoflfaa
open Go Go.RowKit Own Var Term

/-- What a text is read as: a grant. -/
def rgP (s : ByteArray) (key : Int) (i : Nat) : ByteArray := (partsR (openR s key).1).1.getD i ⟨#[]⟩
def rgF (s : ByteArray) (key : Int) : List Int :=
  [(keyR (rgP s key 0)).1, (numsR (rgP s key 1)).1.getD 0 0, (numsR (rgP s key 1)).1.getD 1 0, rdA (numsR (rgP s key 2)).1, rdB (numsR (rgP s key 2)).1, rdC (numsR (rgP s key 2)).1]
def rgK (s : ByteArray) (key : Int) : Bool :=
  decide ((partsR (openR s key).1).1.length = 3) && ((keyR (rgP s key 0)).2 && ((numsR (rgP s key 1)).2 && (rdK (numsR (rgP s key 2)).1 && (decide ((numsR (rgP s key 1)).1.length = 2) &&
    gOk ((rgF s key).getD 0 0) ((rgF s key).getD 1 0) ((rgF s key).getD 2 0) ((rgF s key).getD 3 0) ((rgF s key).getD 4 0) ((rgF s key).getD 5 0)))))
def rgV (s : ByteArray) (key : Int) (i : Nat) : Int := if rgK s key then (rgF s key).getD i 0 else 0
theorem rgV_no {s : ByteArray} {key : Int} (h : rgK s key = false) (i : Nat) : rgV s key i = 0 := by unfold rgV; rw [h]; rfl
theorem rgK_not {s : ByteArray} {key : Int} (h : (partsR (openR s key).1).1.length ≠ 3) : rgK s key = false := by
  unfold rgK
  rw [decide_eq_false h]
  rfl
theorem rgP_at {s : ByteArray} {key : Int} {x0 x1 x2 : ByteArray} (h : (partsR (openR s key).1).1 = [x0, x1, x2]) : rgP s key 0 = x0 ∧ rgP s key 1 = x1 ∧ rgP s key 2 = x2 := by
  unfold rgP
  rw [h]
  exact ⟨rfl, rfl, rfl⟩
theorem rgK_three {s : ByteArray} {key : Int} {x0 x1 x2 : ByteArray} (h : (partsR (openR s key).1).1 = [x0, x1, x2]) :
    rgK s key = ((keyR x0).2 && ((numsR x1).2 && (rdK (numsR x2).1 && (decide ((numsR x1).1.length = 2) &&
      gOk (keyR x0).1 ((numsR x1).1.getD 0 0) ((numsR x1).1.getD 1 0) (rdA (numsR x2).1) (rdB (numsR x2).1) (rdC (numsR x2).1))))) := by
  obtain ⟨e0, e1, e2⟩ := rgP_at h
  unfold rgK rgF
  rw [e0, e1, e2, h]
  rfl
theorem rgV_three {s : ByteArray} {key : Int} {x0 x1 x2 : ByteArray} {sv n : Int} (h : (partsR (openR s key).1).1 = [x0, x1, x2]) (hw : (numsR x1).1 = [sv, n]) (hk : rgK s key = true) :
    rgV s key 0 = (keyR x0).1 ∧ rgV s key 1 = sv ∧ rgV s key 2 = n ∧ rgV s key 3 = rdA (numsR x2).1 ∧ rgV s key 4 = rdB (numsR x2).1 ∧ rgV s key 5 = rdC (numsR x2).1 := by
  obtain ⟨e0, e1, e2⟩ := rgP_at h
  unfold rgV rgF
  rw [hk, e0, e1, e2, hw]
  exact ⟨rfl, rfl, rfl, rfl, rfl, rfl⟩
theorem told_grant (s : ByteArray) (key : Int) (x0 x1 x2 : ByteArray) (hx : just (⟨#[]⟩ : ByteArray) (partsR (openR s key).1).1 3 = [x0, x1, x2]) (sv n : Int) (hw : just 0 (numsR x1).1 2 = [sv, n]) :
    toldB (shG (keyR x0).1 sv n (rdA (numsR x2).1) (rdB (numsR x2).1) (rdC (numsR x2).1) key) s = rgK s key ∧
    (rgK s key = true → rgV s key 0 = (keyR x0).1 ∧ rgV s key 1 = sv ∧ rgV s key 2 = n ∧ rgV s key 3 = rdA (numsR x2).1 ∧ rgV s key 4 = rdB (numsR x2).1 ∧ rgV s key 5 = rdC (numsR x2).1) := by
  have HI := grant_iff s key x0 x1 x2 sv n (by unfold just at hx; exact hx.symm) (by unfold just at hw; exact hw.symm)
  generalize hX : shG (keyR x0).1 sv n (rdA (numsR x2).1) (rdB (numsR x2).1) (rdC (numsR x2).1) key = X at HI ⊢
  have HT : toldB X s = true ↔ (X.size ≠ 0 ∧ X = s) := by unfold toldB; simp
  by_cases h3 : (partsR (openR s key).1).1.length = 3
  · have hL : (partsR (openR s key).1).1 = [x0, x1, x2] := by unfold just at hx; rw [if_pos h3] at hx; exact hx
    by_cases h2 : (numsR x1).1.length = 2
    · have hN : (numsR x1).1 = [sv, n] := by unfold just at hw; rw [if_pos h2] at hw; exact hw
      refine ⟨?_, rgV_three hL hN⟩
      rw [Bool.eq_iff_iff, HT, HI, rgK_three hL, hN]
      simp only [Bool.and_eq_true, decide_eq_true_eq]
      exact ⟨fun h => ⟨h.2.1, h.2.2.1, h.2.2.2.1, rfl, h.2.2.2.2.2⟩, fun h => ⟨h3, h.1, h.2.1, h.2.2.1, rfl, h.2.2.2.2⟩⟩
    · have hk : rgK s key = false := by rw [rgK_three hL, decide_eq_false h2]; simp
      refine ⟨?_, fun h => by rw [hk] at h; cases h⟩
      rw [hk, Bool.eq_false_iff]
      intro h
      exact h2 (HI.1 (HT.1 h)).2.2.2.2.1
  · have hk := rgK_not h3
    refine ⟨?_, fun h => by rw [hk] at h; cases h⟩
    rw [hk, Bool.eq_false_iff]
    intro h
    exact h3 (HI.1 (HT.1 h)).1

set_option maxRecDepth 100000 in
set_option maxHeartbeats 6400000 in
theorem implReadG_is (s : ByteArray) (key : Int) (w : World) (hs : s.size ≤ 1048576) : Calls Try.prog 28 #[.string s, .int .i64 key] w fun en w' => en = .returned (.tuple #[.agg #[.int .i64 (rgV s key 0), .int .i64 (rgV s key 1), .int .i64 (rgV s key 2), .int .i64 (rgV s key 3), .int .i64 (rgV s key 4), .int .i64 (rgV s key 5)], .bool (rgK s key)]) ∧ Below w.heap.size w w' := by
  obtain ⟨x0, x1, x2, hx⟩ : ∃ x0 x1 x2, just (⟨#[]⟩ : ByteArray) (partsR (openR s key).1).1 3 = [x0, x1, x2] := by
    have hl := just_len (⟨#[]⟩ : ByteArray) (partsR (openR s key).1).1 3
    match just (⟨#[]⟩ : ByteArray) (partsR (openR s key).1).1 3, hl with
    | [x0, x1, x2], _ => exact ⟨x0, x1, x2, rfl⟩
  obtain ⟨sv, n, hw⟩ : ∃ sv n, just 0 (numsR x1).1 2 = [sv, n] := by
    have hl := just_len 0 (numsR x1).1 2
    match just 0 (numsR x1).1 2, hl with
    | [sv, n], _ => exact ⟨sv, n, rfl⟩
  have hsv : i64 sv := just_i64 x1 2 sv (by rw [hw]; simp)
  have HTD := told_grant s key x0 x1 x2 hx sv n hw
  have HS := fun w => showG_is (keyR x0).1 sv n (rdA (numsR x2).1) (rdB (numsR x2).1) (rdC (numsR x2).1) key w hsv
  have HT : ∀ w, Calls Try.prog 53 #[.agg #[.int .i64 ((keyR x0).1), .int .i64 sv, .int .i64 n, .int .i64 (rdA (numsR x2).1), .int .i64 (rdB (numsR x2).1), .int .i64 (rdC (numsR x2).1), .int .i64 key], .string (shG (keyR x0).1 sv n (rdA (numsR x2).1) (rdB (numsR x2).1) (rdC (numsR x2).1) key), .string s] w fun en w' => en = .returned (.tuple #[.agg #[.int .i64 (rgV s key 0), .int .i64 (rgV s key 1), .int .i64 (rgV s key 2), .int .i64 (rgV s key 3), .int .i64 (rgV s key 4), .int .i64 (rgV s key 5)], .bool (rgK s key)]) ∧ Below w.heap.size w w' := fun w => (toldG_is (keyR x0).1 sv n (rdA (numsR x2).1) (rdB (numsR x2).1) (rdC (numsR x2).1) key _ s w).mono (by
    rintro en w' ⟨rfl, hb⟩
    refine ⟨?_, hb⟩
    rw [HTD.1]
    cases hk : rgK s key with
    | true =>
      obtain ⟨e0, e1, e2, e3, e4, e5⟩ := HTD.2 hk
      rw [e0, e1, e2, e3, e4, e5]
      rfl
    | false =>
      rw [rgV_no hk, rgV_no hk, rgV_no hk, rgV_no hk, rgV_no hk, rgV_no hk]
      rfl)
  clear HTD
  generalize rgV s key 0 = y0 at HT ⊢
  generalize rgV s key 1 = y1 at HT ⊢
  generalize rgV s key 2 = y2 at HT ⊢
  generalize rgV s key 3 = y3 at HT ⊢
  generalize rgV s key 4 = y4 at HT ⊢
  generalize rgV s key 5 = y5 at HT ⊢
  generalize rgK s key = kk at HT ⊢
  generalize shG (keyR x0).1 sv n (rdA (numsR x2).1) (rdB (numsR x2).1) (rdC (numsR x2).1) key = X at HT HS
  obtain ⟨W2, hW2⟩ : ∃ W2, (w.alloc (.cells #[.int .i64 0, .int .i64 0, .int .i64 0, .int .i64 0, .int .i64 0, .int .i64 0] 56)).alloc (.cells #[.int .i64 0, .int .i64 0, .int .i64 0, .int .i64 0, .int .i64 0, .int .i64 0, .int .i64 key] 80) = W2 := ⟨_, rfl⟩
  have B2 : Below w.heap.size w W2 := by rw [← hW2]; exact ((Below.refl _ _).alloc (Nat.le_refl _) _).alloc (by simp) _
  have R2 : Blk w.heap.size [.int .i64 0, .int .i64 0, .int .i64 0, .int .i64 0, .int .i64 0, .int .i64 0] W2 := by rw [← hW2]; exact (Blk.new w #[.int .i64 0, .int .i64 0, .int .i64 0, .int .i64 0, .int .i64 0, .int .i64 0] _).alloc (by simp) _
  have T2 : Blk (w.heap.size + 1) [.int .i64 0, .int .i64 0, .int .i64 0, .int .i64 0, .int .i64 0, .int .i64 0, .int .i64 key] W2 := by rw [← hW2]; have := Blk.new (w.alloc (.cells #[.int .i64 0, .int .i64 0, .int .i64 0, .int .i64 0, .int .i64 0, .int .i64 0] 56)) #[.int .i64 0, .int .i64 0, .int .i64 0, .int .i64 0, .int .i64 0, .int .i64 0, .int .i64 key] 80; simpa using this
  have Z2 : w.heap.size + 2 ≤ W2.heap.size := by rw [← hW2]; simp
  have HF := fillG_is (w.heap.size + 1) 0 0 0 0 0 0 key s W2 T2 (by omega) hs x0 x1 x2 hx sv n hw
  have ZH : Hid (w.heap.size + 2 ≤ W2.heap.size) := Z2
  clear hx hw T2 Z2
  generalize (keyR x0).1 = kv at HF HS HT
  generalize rdA (numsR x2).1 = ra at HF HS HT
  generalize rdB (numsR x2).1 = rb at HF HS HT
  generalize rdC (numsR x2).1 = rc at HF HS HT
  go_enter Try.func28, Try.ntmps28
  go_wp2_with fail
  try rw [hW2]
  refine HF.mono ?_
  clear hW2 HF
  rintro en w3 ⟨rfl, TC, hb3⟩
  have RR := R2.lower hb3 (by omega)
  have ZC : Hid (w.heap.size + 2 ≤ w3.heap.size) := Nat.le_trans ZH.out hb3.size
  have BC := B2.trans (hb3.mono (by omega))
  clear R2 ZH B2 hb3
  go_wp2_with fail
  have TCD := TC.drew
  have BCD := BC.drew
  have RRD := RR.drew
  have ZCD : Hid (w.heap.size + 2 ≤ w3.drew.heap.size) := ZC
  clear TC BC ZC RR
  have TC := TCD
  have BC := BCD
  have RR := RRD
  have ZC := ZCD
  clear TCD BCD RRD ZCD
  refine wp_region_held_drew (S := (fun Vw => Blk (w.heap.size + 1) [.int .i64 kv, .int .i64 sv, .int .i64 n, .int .i64 ra, .int .i64 rb, .int .i64 rc, .int .i64 key] Vw)) (by kernel_rfl) TC (fun hHeld => ?_)
  refine take_one 0 12 (v := ?_) rfl rfl (by kernel_rfl) (by kernel_rfl) (by kernel_rfl) (fun _ _ _ h => h) (Or.inl ⟨by rfl, ?_⟩) hHeld ?_
  rotate_left
  · intro w' hSw; (try dsimp only at hSw); have d0 := hSw.at 0 rfl; have d1 := hSw.at 1 rfl; have d2 := hSw.at 2 rfl; have d3 := hSw.at 3 rfl; have d4 := hSw.at 4 rfl; have d5 := hSw.at 5 rfl; have d6 := hSw.at 6 rfl; go_simp; try with_reducible rfl
  try simp only [Act.put, List.setIfInBounds_toArray, List.set_cons_zero, List.set_cons_succ]
  refine take_one 1 13 (v := ?_) rfl rfl (by kernel_rfl) (by kernel_rfl) (by kernel_rfl) (fun _ _ _ h => h) (Or.inl ⟨by rfl, ?_⟩) hHeld ?_
  rotate_left
  · intro w' hSw; (try dsimp only at hSw); have d0 := hSw.at 0 rfl; have d1 := hSw.at 1 rfl; have d2 := hSw.at 2 rfl; have d3 := hSw.at 3 rfl; have d4 := hSw.at 4 rfl; have d5 := hSw.at 5 rfl; have d6 := hSw.at 6 rfl; go_simp; try with_reducible rfl
  try simp only [Act.put, List.setIfInBounds_toArray, List.set_cons_zero, List.set_cons_succ]
  refine take_one 2 14 (v := ?_) rfl rfl (by kernel_rfl) (by kernel_rfl) (by kernel_rfl) (fun _ _ _ h => h) (Or.inl ⟨by rfl, ?_⟩) hHeld ?_
  rotate_left
  · intro w' hSw; (try dsimp only at hSw); have d0 := hSw.at 0 rfl; have d1 := hSw.at 1 rfl; have d2 := hSw.at 2 rfl; have d3 := hSw.at 3 rfl; have d4 := hSw.at 4 rfl; have d5 := hSw.at 5 rfl; have d6 := hSw.at 6 rfl; go_simp; try with_reducible rfl
  try simp only [Act.put, List.setIfInBounds_toArray, List.set_cons_zero, List.set_cons_succ]
  refine take_one 4 16 (v := ?_) rfl rfl (by kernel_rfl) (by kernel_rfl) (by kernel_rfl) (fun _ _ _ h => h) (Or.inl ⟨by rfl, ?_⟩) hHeld ?_
  rotate_left
  · intro w' hSw; (try dsimp only at hSw); have d0 := hSw.at 0 rfl; have d1 := hSw.at 1 rfl; have d2 := hSw.at 2 rfl; have d3 := hSw.at 3 rfl; have d4 := hSw.at 4 rfl; have d5 := hSw.at 5 rfl; have d6 := hSw.at 6 rfl; go_simp; try with_reducible rfl
  try simp only [Act.put, List.setIfInBounds_toArray, List.set_cons_zero, List.set_cons_succ]
  refine wpAnyH_ready (rs := [3]) (by kernel_rfl) (by simp) ?_
  refine AllReadyH.cons (i := 3) rfl (fun K hK => ?_) AllReadyH.nil
  go_simp
  refine (HS _).mono ?_
  rintro en v11 ⟨rfl, hv11⟩
  have TN := TC.later hv11 (by have := ZC.out; omega)
  have ZN : Hid (w.heap.size + 2 ≤ v11.heap.size) := Nat.le_trans ZC.out hv11.size
  have BN := BC.trans (hv11.mono BC.size)
  have RRN := RR.lower hv11 (by have := ZC.out; omega)
  clear TC ZC BC
  have TC := TN
  have ZC := ZN
  have BC := BN
  clear TN ZN BN
  clear RR
  have RR := RRN
  clear RRN
  clear hv11
  go_wp2_with fail
  refine hK.out _ _ TC (fun hHeld2 => ?_)
  clear hK K hHeld
  have hHeld := hHeld2
  clear hHeld2
  try simp only [Act.put, List.setIfInBounds_toArray, List.set_cons_zero, List.set_cons_succ]
  refine wpAnyH_ready (rs := [5]) (by kernel_rfl) (by simp) ?_
  refine AllReadyH.cons (i := 5) rfl (fun K hK => ?_) AllReadyH.nil
  go_simp
  refine (HT _).mono ?_
  rintro en v12 ⟨rfl, hv12⟩
  have TN := TC.later hv12 (by have := ZC.out; omega)
  have ZN : Hid (w.heap.size + 2 ≤ v12.heap.size) := Nat.le_trans ZC.out hv12.size
  have BN := BC.trans (hv12.mono BC.size)
  have RRN := RR.lower hv12 (by have := ZC.out; omega)
  clear TC ZC BC
  have TC := TN
  have ZC := ZN
  have BC := BN
  clear TN ZN BN
  clear RR
  have RR := RRN
  clear RRN
  clear hv12
  go_wp2_with fail
  refine hK.out _ _ TC (fun hHeld2 => ?_)
  clear hK K hHeld
  have hHeld := hHeld2
  clear hHeld2
  try simp only [Act.put, List.setIfInBounds_toArray, List.set_cons_zero, List.set_cons_succ]
  refine take_one 6 18 (v := ?_) rfl rfl (by kernel_rfl) (by kernel_rfl) (by kernel_rfl) (fun _ _ _ h => h) (Or.inl ⟨by rfl, ?_⟩) hHeld ?_
  rotate_left
  · intro w' hSw; (try dsimp only at hSw); have d0 := hSw.at 0 rfl; have d1 := hSw.at 1 rfl; have d2 := hSw.at 2 rfl; have d3 := hSw.at 3 rfl; have d4 := hSw.at 4 rfl; have d5 := hSw.at 5 rfl; have d6 := hSw.at 6 rfl; go_simp; try with_reducible rfl
  try simp only [Act.put, List.setIfInBounds_toArray, List.set_cons_zero, List.set_cons_succ]
  refine take_one 7 19 (v := ?_) rfl rfl (by kernel_rfl) (by kernel_rfl) (by kernel_rfl) (fun _ _ _ h => h) (Or.inl ⟨by rfl, ?_⟩) hHeld ?_
  rotate_left
  · intro w' hSw; (try dsimp only at hSw); have d0 := hSw.at 0 rfl; have d1 := hSw.at 1 rfl; have d2 := hSw.at 2 rfl; have d3 := hSw.at 3 rfl; have d4 := hSw.at 4 rfl; have d5 := hSw.at 5 rfl; have d6 := hSw.at 6 rfl; go_simp; try with_reducible rfl
  try simp only [Act.put, List.setIfInBounds_toArray, List.set_cons_zero, List.set_cons_succ]
  have k0 := RR.at 0 rfl
  have f0 := RR.fz 0 rfl
  have k1 := RR.at 1 rfl
  have f1 := RR.fz 1 rfl
  have k2 := RR.at 2 rfl
  have f2 := RR.fz 2 rfl
  have k3 := RR.at 3 rfl
  have f3 := RR.fz 3 rfl
  have k4 := RR.at 4 rfl
  have f4 := RR.fz 4 rfl
  have k5 := RR.at 5 rfl
  have f5 := RR.fz 5 rfl
  have F := show Hid _ from RR.fill6 BC (Nat.le_refl _) (.int .i64 y0) (.int .i64 y1) (.int .i64 y2) (.int .i64 y3) (.int .i64 y4) (.int .i64 y5)
  refine wpAnyH_ready (rs := [8]) (by kernel_rfl) (by simp) ?_
  refine AllReadyH.cons (i := 8) rfl (fun K hK => ?_) AllReadyH.nil
  go_simp
  refine hK.out _ _ ((((((TC.far (by omega) 0 _).far (by omega) 1 _).far (by omega) 2 _).far (by omega) 3 _).far (by omega) 4 _).far (by omega) 5 _) (fun hHeld2 => ?_)
  clear hK K hHeld
  have hHeld := hHeld2
  clear hHeld2
  try simp only [Act.put, List.setIfInBounds_toArray, List.set_cons_zero, List.set_cons_succ]
  refine take_one 9 5 (v := ?_) rfl rfl (by kernel_rfl) (by kernel_rfl) (by kernel_rfl) (fun _ _ _ h => h) (Or.inl ⟨by rfl, ?_⟩) hHeld ?_
  rotate_left
  · intro w' hSw; (try dsimp only at hSw); have d0 := hSw.at 0 rfl; have d1 := hSw.at 1 rfl; have d2 := hSw.at 2 rfl; have d3 := hSw.at 3 rfl; have d4 := hSw.at 4 rfl; have d5 := hSw.at 5 rfl; have d6 := hSw.at 6 rfl; go_simp; try with_reducible rfl
  try simp only [Act.put, List.setIfInBounds_toArray, List.set_cons_zero, List.set_cons_succ]
  refine wpAnyH_done (by kernel_rfl) ?_ _
  clear hHeld k0 f0 k1 f1 k2 f2 k3 f3 k4 f4 k5 f5 TC RR BC
  go_wp2
  have G := F.out
  exact bodyPost_ret (res_gb rfl _ _ w.heap.size _ _ _ _ _ _ (.bool kk) rfl rfl (G.1.at 0 rfl) (G.1.at 1 rfl) (G.1.at 2 rfl) (G.1.at 3 rfl) (G.1.at 4 rfl) (G.1.at 5 rfl)) rfl ⟨rfl, G.2⟩
end Go.Proofs.Ytbbaddcldoflfaa

set_option linter.unusedVariables false
namespace Go.Proofs.Ytbbaddcldoflfaa
open Go Go.RowKit Own Var Term

theorem rg_yes {s : ByteArray} {key : Int} {x0 x1 x2 : ByteArray} (h : (partsR (openR s key).1).1 = [x0, x1, x2]) (ka : (keyR x0).2 = true) (nb : (numsR x1).2 = true) (rk : rdK (numsR x2).1 = true) (sv n : Int) (hw : (numsR x1).1 = [sv, n])
    (hg : gOk (keyR x0).1 sv n (rdA (numsR x2).1) (rdB (numsR x2).1) (rdC (numsR x2).1) = true) : rgK s key = true := by
  rw [rgK_three h, ka, nb, rk, hw]
  show (decide (2 = 2) && _) = true
  simpa using hg
theorem rg_no {s : ByteArray} {key : Int} {x0 x1 x2 : ByteArray} (h : (partsR (openR s key).1).1 = [x0, x1, x2])
    (hn : (keyR x0).2 = false ∨ (numsR x1).2 = false ∨ rdK (numsR x2).1 = false ∨ (numsR x1).1.length ≠ 2 ∨ ∃ sv n, (numsR x1).1 = [sv, n] ∧ gOk (keyR x0).1 sv n (rdA (numsR x2).1) (rdB (numsR x2).1) (rdC (numsR x2).1) = false) : rgK s key = false := by
  rw [rgK_three h]
  rcases hn with e | e | e | e | ⟨sv, n, e, g⟩
  · rw [e]; rfl
  · rw [e]; simp
  · rw [e]; simp
  · rw [decide_eq_false e]; simp
  · rw [e]
    simp only [Bool.and_eq_false_iff]
    exact Or.inr (Or.inr (Or.inr (Or.inr g)))
set_option maxRecDepth 100000 in
set_option maxHeartbeats 12800000 in
theorem specReadG_is (s : ByteArray) (key : Int) (w : World) (hs : s.size ≤ 1048576) : Calls Try.prog 25 #[.string s, .int .i64 key] w fun en w' => en = .returned (.tuple #[.agg #[.int .i64 (rgV s key 0), .int .i64 (rgV s key 1), .int .i64 (rgV s key 2), .int .i64 (rgV s key 3), .int .i64 (rgV s key 4), .int .i64 (rgV s key 5)], .bool (rgK s key)]) ∧ Below w.heap.size w w' := by
  obtain ⟨W1, hW1⟩ : ∃ W1, w.alloc (.cells #[.int .i64 0, .int .i64 0, .int .i64 0, .int .i64 0, .int .i64 0, .int .i64 0] 56) = W1 := ⟨_, rfl⟩
  have B1 : Below w.heap.size w W1 := by rw [← hW1]; exact (Below.refl _ _).alloc (Nat.le_refl _) _
  have R1 : Blk w.heap.size [.int .i64 0, .int .i64 0, .int .i64 0, .int .i64 0, .int .i64 0, .int .i64 0] W1 := by rw [← hW1]; exact Blk.new w #[.int .i64 0, .int .i64 0, .int .i64 0, .int .i64 0, .int .i64 0, .int .i64 0] _
  have Z1 : Hid (w.heap.size < W1.heap.size) := by show _ < _; rw [← hW1]; simp
  have RP := fun w' => spec_parts (openR s key).1 w' (Nat.le_trans (openR_size s key) (by omega))
  have HZ := parts_size (openR s key).1
  have HRG : (partsR (openR s key).1).1.length ≠ 3 → rgK s key = false := rgK_not
  obtain ⟨PL, pb, hP⟩ : ∃ L b, partsR (openR s key).1 = (L, b) := ⟨_, _, rfl⟩
  rw [hP] at RP HZ HRG
  simp only at RP HZ HRG
  go_enter Try.func25, Try.ntmps25
  go_wp2_with fail
  try rw [hW1]
  refine (spec_open s key _ hs).mono ?_
  clear hW1
  rintro en w2 ⟨rfl, hb2⟩
  have R2 := R1.later hb2 Z1.out
  have Z2 : Hid (w.heap.size < w2.heap.size) := Nat.lt_of_lt_of_le Z1.out hb2.size
  have B2 := B1.trans (hb2.mono B1.size)
  clear R1 Z1 B1 hb2
  generalize (openR s key).2 = ob
  go_wp2_with fail
  refine (RP _).mono ?_
  rintro en w3 ⟨v, rfl, ho, hb3⟩
  have R3 := R2.later hb3 Z2.out
  have Z3 : Hid (w.heap.size < w3.heap.size) := Nat.lt_of_lt_of_le Z2.out hb3.size
  have B3 := B2.trans (hb3.mono B2.size)
  clear R2 Z2 B2 hb3 RP
  by_cases h3 : PL.length = 3
  · obtain ⟨x0, x1, x2, rfl⟩ : ∃ x0 x1 x2, PL = [x0, x1, x2] := by
      match PL, h3 with
      | [x0, x1, x2], _ => exact ⟨x0, x1, x2, rfl⟩
    have hP' : (partsR (openR s key).1).1 = [x0, x1, x2] := by rw [hP]
    clear h3 HRG hP
    have z0 : x0.size ≤ 1048576 := Nat.le_trans (HZ x0 (by simp)) (by omega)
    have z1 : x1.size ≤ 1048576 := Nat.le_trans (HZ x1 (by simp)) (by omega)
    have z2 : x2.size ≤ 1048576 := Nat.le_trans (HZ x2 (by simp)) (by omega)
    clear HZ
    obtain ⟨gp, capp, rfl, hcap, hg, hlt, X3⟩ := own_blk (f := Value.string) (xs := [x0, x1, x2]) ho (by simp)
    simp only [List.length_cons, List.length_nil, Nat.zero_add, Nat.reduceAdd] at hcap
    have hc3 : (3 : Int) ≤ (capp : Int) := by omega
    have X3' : Blk gp [.string x0, .string x1, .string x2] w3 := X3
    clear ho hg X3 hcap
    have HK := fun w => spec_readKey x0 w z0
    have HM := fun w => spec_readNums x1 w z1
    have HR := fun w => specRead_is x2 w z2
    have HY := rg_yes hP'
    have HV := fun sv n hw => rgV_three (sv := sv) (n := n) hP' hw
    have HO := rg_no hP'
    have HN := nums_len x1
    generalize (keyR x0).1 = kv at HK HY HV HO
    generalize (keyR x0).2 = ka at HK HY HO
    generalize (numsR x1).1 = NL at HM HY HV HO HN
    generalize (numsR x1).2 = nb at HM HY HO HN
    generalize rdA (numsR x2).1 = ra at HR HY HV HO
    generalize rdB (numsR x2).1 = rb at HR HY HV HO
    generalize rdC (numsR x2).1 = rc at HR HY HV HO
    generalize rdK (numsR x2).1 = rk at HR HY HO
    clear hP' z0 z1 z2
    have q0 := X3'.at 0 rfl
    go_wp2_with fail
    refine (HK _).mono ?_
    rintro en w4 ⟨rfl, hb4⟩
    have R4 := R3.later hb4 Z3.out
    have X4 := X3'.later hb4 hlt
    have Z4 : Hid (w.heap.size < w4.heap.size) := Nat.lt_of_lt_of_le Z3.out hb4.size
    have l4 : gp < w4.heap.size := Nat.lt_of_lt_of_le hlt hb4.size
    have B4 := B3.trans (hb4.mono B3.size)
    clear R3 X3' Z3 hlt B3 hb4 HK q0
    have q0 := X4.at 1 rfl
    go_wp2_with fail
    refine (HM _).mono ?_
    rintro en w5 ⟨v, rfl, ho, hb5⟩
    have R5 := R4.later hb5 Z4.out
    have X5 := X4.later hb5 l4
    have Z5 : Hid (w.heap.size < w5.heap.size) := Nat.lt_of_lt_of_le Z4.out hb5.size
    have B5 := B4.trans (hb5.mono B4.size)
    clear R4 X4 Z4 l4 B4 hb5 HM q0
    have q0 := X5.at 2 rfl
    by_cases h2 : NL.length = 2
    · obtain ⟨sv, n, rfl⟩ : ∃ sv n, NL = [sv, n] := by
        match NL, h2 with
        | [sv, n], _ => exact ⟨sv, n, rfl⟩
      obtain ⟨g5, cap5, rfl, hcap, hg, l5, Q5⟩ := own_blk (f := Value.int .i64) (xs := [sv, n]) ho (by simp)
      simp only [List.length_cons, List.length_nil, Nat.zero_add, Nat.reduceAdd] at hcap
      have hc2 : (2 : Int) ≤ (cap5 : Int) := by omega
      clear ho hg hcap h2
      go_wp2_with fail
      refine (HR _).mono ?_
      rintro en w6 ⟨rfl, hb6⟩
      have R6 := R5.later hb6 Z5.out
      have Q6 : Blk g5 [.int .i64 sv, .int .i64 n] w6 := Q5.later hb6 l5
      have Z6 : w.heap.size < w6.heap.size := Nat.lt_of_lt_of_le Z5.out hb6.size
      have l56 : g5 < w6.heap.size := Nat.lt_of_lt_of_le l5 hb6.size
      have B6 := B5.trans (hb6.mono B5.size)
      clear R5 Q5 Z5 l5 B5 hb6 HR q0 X5
      obtain ⟨W7, hW7⟩ : ∃ W7, w6.alloc (.cells #[.int .i64 ra, .int .i64 rb, .int .i64 rc] 28) = W7 := ⟨_, rfl⟩
      have R7 : Blk w.heap.size [.int .i64 0, .int .i64 0, .int .i64 0, .int .i64 0, .int .i64 0, .int .i64 0] W7 := by rw [← hW7]; exact R6.alloc Z6 _
      have Q7 : Blk g5 [.int .i64 sv, .int .i64 n] W7 := by rw [← hW7]; exact Q6.alloc l56 _
      have E7 : Blk w6.heap.size [.int .i64 ra, .int .i64 rb, .int .i64 rc] W7 := by rw [← hW7]; exact Blk.new w6 _ _
      have Z7 : Hid (w.heap.size < W7.heap.size) := by show _ < _; rw [← hW7]; simp; omega
      have l57 : g5 < W7.heap.size := by rw [← hW7]; simp; omega
      have l67 : w6.heap.size < W7.heap.size := by rw [← hW7]; simp
      have B7 : Below w.heap.size w W7 := by rw [← hW7]; exact B6.alloc B6.size _
      clear R6 Q6 l56 B6
      cases ka with
      | false =>
        have hk := HO (Or.inl rfl)
        clear HY HV HO
        have FG := show Hid _ from R7.fill6 B7 (Nat.le_refl _) (.int .i64 0) (.int .i64 0) (.int .i64 0) (.int .i64 0) (.int .i64 0) (.int .i64 0)
        have r0 := R7.at 0 rfl
        have g0 := R7.fz 0 rfl
        have r1 := R7.at 1 rfl
        have g1 := R7.fz 1 rfl
        have r2 := R7.at 2 rfl
        have g2 := R7.fz 2 rfl
        have r3 := R7.at 3 rfl
        have g3 := R7.fz 3 rfl
        have r4 := R7.at 4 rfl
        have g4 := R7.fz 4 rfl
        have r5 := R7.at 5 rfl
        have g5 := R7.fz 5 rfl
        go_wp2
        have G := FG.out
        exact bodyPost_ret (res_gb rfl _ _ w.heap.size _ _ _ _ _ _ (.bool false) rfl rfl (G.1.at 0 rfl) (G.1.at 1 rfl) (G.1.at 2 rfl) (G.1.at 3 rfl) (G.1.at 4 rfl) (G.1.at 5 rfl)) rfl ⟨by rw [rgV_no hk, rgV_no hk, rgV_no hk, rgV_no hk, rgV_no hk, rgV_no hk, hk], G.2⟩
      | true =>
        cases nb with
        | false => have := HN rfl; cases this
        | true =>
        cases rk with
        | false =>
          have hk := HO (Or.inr (Or.inr (Or.inl rfl)))
          clear HY HV HO
          have FG := show Hid _ from R7.fill6 B7 (Nat.le_refl _) (.int .i64 0) (.int .i64 0) (.int .i64 0) (.int .i64 0) (.int .i64 0) (.int .i64 0)
          have r0 := R7.at 0 rfl
          have g0 := R7.fz 0 rfl
          have r1 := R7.at 1 rfl
          have g1 := R7.fz 1 rfl
          have r2 := R7.at 2 rfl
          have g2 := R7.fz 2 rfl
          have r3 := R7.at 3 rfl
          have g3 := R7.fz 3 rfl
          have r4 := R7.at 4 rfl
          have g4 := R7.fz 4 rfl
          have r5 := R7.at 5 rfl
          have g5 := R7.fz 5 rfl
          go_wp2
          have G := FG.out
          exact bodyPost_ret (res_gb rfl _ _ w.heap.size _ _ _ _ _ _ (.bool false) rfl rfl (G.1.at 0 rfl) (G.1.at 1 rfl) (G.1.at 2 rfl) (G.1.at 3 rfl) (G.1.at 4 rfl) (G.1.at 5 rfl)) rfl ⟨by rw [rgV_no hk, rgV_no hk, rgV_no hk, rgV_no hk, rgV_no hk, rgV_no hk, hk], G.2⟩
        | true =>
          obtain ⟨W8, hW8⟩ : ∃ W8, (W7.alloc (.cells #[.int .i64 kv, .int .i64 sv, .int .i64 n, .int .i64 ra, .int .i64 rb, .int .i64 rc] 56)).drew = W8 := ⟨_, rfl⟩
          have R8 : Blk w.heap.size [.int .i64 0, .int .i64 0, .int .i64 0, .int .i64 0, .int .i64 0, .int .i64 0] W8 := by rw [← hW8]; exact (R7.alloc Z7.out _).drew
          have Q8 : Blk g5 [.int .i64 sv, .int .i64 n] W8 := by rw [← hW8]; exact (Q7.alloc l57 _).drew
          have E8 : Blk w6.heap.size [.int .i64 ra, .int .i64 rb, .int .i64 rc] W8 := by rw [← hW8]; exact (E7.alloc l67 _).drew
          have D8 : Blk W7.heap.size [.int .i64 kv, .int .i64 sv, .int .i64 n, .int .i64 ra, .int .i64 rb, .int .i64 rc] W8 := by rw [← hW8]; exact (Blk.new W7 #[.int .i64 kv, .int .i64 sv, .int .i64 n, .int .i64 ra, .int .i64 rb, .int .i64 rc] _).drew
          have Z8 : Hid (W7.heap.size < W8.heap.size) := by show _ < _; rw [← hW8]; simp
          have B8 : Below w.heap.size w W8 := by rw [← hW8]; exact (B7.alloc B7.size _).drew
          go_wp2_with fail
          try rw [hW7]
          refine wp_region_held_drew (S := (fun Vw => Blk g5 [.int .i64 sv, .int .i64 n] Vw ∧ Blk w6.heap.size [.int .i64 ra, .int .i64 rb, .int .i64 rc] Vw)) (by kernel_rfl) ⟨Q7.drew, E7.drew⟩ (fun hHeld => ?_)
          refine take_one 0 69 (v := ?_) rfl rfl (by kernel_rfl) (by kernel_rfl) (by kernel_rfl) (fun _ _ _ h => h) (Or.inl ⟨by rfl, ?_⟩) hHeld ?_
          rotate_left
          · intro w' hSw; (try dsimp only at hSw); have d0 := hSw.1.at 0 rfl; have d1 := hSw.1.at 1 rfl; have e0 := hSw.2.at 0 rfl; have e1 := hSw.2.at 1 rfl; have e2 := hSw.2.at 2 rfl; go_simp; try with_reducible rfl
          try simp only [Act.put, List.setIfInBounds_toArray, List.set_cons_zero, List.set_cons_succ]
          refine take_one 1 70 (v := ?_) rfl rfl (by kernel_rfl) (by kernel_rfl) (by kernel_rfl) (fun _ _ _ h => h) (Or.inl ⟨by rfl, ?_⟩) hHeld ?_
          rotate_left
          · intro w' hSw; (try dsimp only at hSw); have d0 := hSw.1.at 0 rfl; have d1 := hSw.1.at 1 rfl; have e0 := hSw.2.at 0 rfl; have e1 := hSw.2.at 1 rfl; have e2 := hSw.2.at 2 rfl; go_simp; try with_reducible rfl
          try simp only [Act.put, List.setIfInBounds_toArray, List.set_cons_zero, List.set_cons_succ]
          refine take_one 2 71 (v := ?_) rfl rfl (by kernel_rfl) (by kernel_rfl) (by kernel_rfl) (fun _ _ _ h => h) (Or.inl ⟨by rfl, ?_⟩) hHeld ?_
          rotate_left
          · intro w' hSw; (try dsimp only at hSw); have d0 := hSw.1.at 0 rfl; have d1 := hSw.1.at 1 rfl; have e0 := hSw.2.at 0 rfl; have e1 := hSw.2.at 1 rfl; have e2 := hSw.2.at 2 rfl; go_simp; try with_reducible rfl
          try simp only [Act.put, List.setIfInBounds_toArray, List.set_cons_zero, List.set_cons_succ]
          refine take_one 3 72 (v := ?_) rfl rfl (by kernel_rfl) (by kernel_rfl) (by kernel_rfl) (fun _ _ _ h => h) (Or.inl ⟨by rfl, ?_⟩) hHeld ?_
          rotate_left
          · intro w' hSw; (try dsimp only at hSw); have d0 := hSw.1.at 0 rfl; have d1 := hSw.1.at 1 rfl; have e0 := hSw.2.at 0 rfl; have e1 := hSw.2.at 1 rfl; have e2 := hSw.2.at 2 rfl; go_simp; try with_reducible rfl
          try simp only [Act.put, List.setIfInBounds_toArray, List.set_cons_zero, List.set_cons_succ]
          refine take_one 4 73 (v := ?_) rfl rfl (by kernel_rfl) (by kernel_rfl) (by kernel_rfl) (fun _ _ _ h => h) (Or.inl ⟨by rfl, ?_⟩) hHeld ?_
          rotate_left
          · intro w' hSw; (try dsimp only at hSw); have d0 := hSw.1.at 0 rfl; have d1 := hSw.1.at 1 rfl; have e0 := hSw.2.at 0 rfl; have e1 := hSw.2.at 1 rfl; have e2 := hSw.2.at 2 rfl; go_simp; try with_reducible rfl
          try simp only [Act.put, List.setIfInBounds_toArray, List.set_cons_zero, List.set_cons_succ]
          refine take_one 5 74 (v := ?_) rfl rfl (by kernel_rfl) (by kernel_rfl) (by kernel_rfl) (fun _ _ _ h => h) (Or.inl ⟨by rfl, ?_⟩) hHeld ?_
          rotate_left
          · intro w' hSw; (try dsimp only at hSw); have d0 := hSw.1.at 0 rfl; have d1 := hSw.1.at 1 rfl; have e0 := hSw.2.at 0 rfl; have e1 := hSw.2.at 1 rfl; have e2 := hSw.2.at 2 rfl; go_simp; try with_reducible rfl
          try simp only [Act.put, List.setIfInBounds_toArray, List.set_cons_zero, List.set_cons_succ]
          refine take_one 6 75 (v := ?_) rfl rfl (by kernel_rfl) (by kernel_rfl) (by kernel_rfl) (fun _ _ _ h => h) (Or.inl ⟨by rfl, ?_⟩) hHeld ?_
          rotate_left
          · intro w' hSw; (try dsimp only at hSw); have d0 := hSw.1.at 0 rfl; have d1 := hSw.1.at 1 rfl; have e0 := hSw.2.at 0 rfl; have e1 := hSw.2.at 1 rfl; have e2 := hSw.2.at 2 rfl; go_simp; try with_reducible rfl
          try simp only [Act.put, List.setIfInBounds_toArray, List.set_cons_zero, List.set_cons_succ]
          refine take_one 7 76 (v := ?_) rfl rfl (by kernel_rfl) (by kernel_rfl) (by kernel_rfl) (fun _ _ _ h => h) (Or.inl ⟨by rfl, ?_⟩) hHeld ?_
          rotate_left
          · intro w' hSw; (try dsimp only at hSw); have d0 := hSw.1.at 0 rfl; have d1 := hSw.1.at 1 rfl; have e0 := hSw.2.at 0 rfl; have e1 := hSw.2.at 1 rfl; have e2 := hSw.2.at 2 rfl; go_simp; try with_reducible rfl
          try simp only [Act.put, List.setIfInBounds_toArray, List.set_cons_zero, List.set_cons_succ]
          refine take_one 8 77 (v := ?_) rfl rfl (by kernel_rfl) (by kernel_rfl) (by kernel_rfl) (fun _ _ _ h => h) (Or.inl ⟨by rfl, ?_⟩) hHeld ?_
          rotate_left
          · intro w' hSw; (try dsimp only at hSw); have d0 := hSw.1.at 0 rfl; have d1 := hSw.1.at 1 rfl; have e0 := hSw.2.at 0 rfl; have e1 := hSw.2.at 1 rfl; have e2 := hSw.2.at 2 rfl; go_simp; try with_reducible rfl
          try simp only [Act.put, List.setIfInBounds_toArray, List.set_cons_zero, List.set_cons_succ]
          refine wpAnyH_ready (rs := [9]) (by kernel_rfl) (by simp) ?_
          refine AllReadyH.cons (i := 9) rfl (fun K hK => ?_) AllReadyH.nil
          go_simp
          refine hK.out _ _ ⟨(Q7.drew.alloc (by simpa using l57) _), (E7.drew.alloc (by simpa using l67) _)⟩ (fun hHeld2 => ?_)
          clear hK K hHeld
          have hHeld := hHeld2
          clear hHeld2
          try simp only [Act.put, List.setIfInBounds_toArray, List.set_cons_zero, List.set_cons_succ]
          refine wpAnyH_ready (rs := [10]) (by kernel_rfl) (by simp) ?_
          refine AllReadyH.cons (i := 10) rfl (fun K hK => ?_) AllReadyH.nil
          go_simp
          refine hK.out _ _ ⟨Q8, E8⟩ (fun hHeld2 => ?_)
          clear hK K hHeld
          have hHeld := hHeld2
          clear hHeld2
          try simp only [Act.put, List.setIfInBounds_toArray, List.set_cons_zero, List.set_cons_succ]
          refine wpAnyH_done (by kernel_rfl) ?_ _
          try rw [hW8]
          clear hHeld hW7 hW8 Q7 E7 Q8 E8 R7 B7
          have e0 := D8.at 0 rfl
          have e1 := D8.at 1 rfl
          have e2 := D8.at 2 rfl
          have e3 := D8.at 3 rfl
          have e4 := D8.at 4 rfl
          have e5 := D8.at 5 rfl
          go_wp2_with fail
          refine (spec_grantOk kv sv n ra rb rc _).mono ?_
          rintro en w9 ⟨rfl, hb9⟩
          clear e0 e1 e2 e3 e4 e5
          have D9 := D8.later hb9 Z8.out
          have R9 := R8.later hb9 (Nat.lt_trans Z7.out Z8.out)
          have B9 := B8.trans (hb9.mono B8.size)
          have N9 : Hid (w.heap.size < W7.heap.size) := Z7
          clear D8 R8 B8 hb9 Z8 Z7
          have e0 := D9.at 0 rfl
          have e1 := D9.at 1 rfl
          have e2 := D9.at 2 rfl
          have e3 := D9.at 3 rfl
          have e4 := D9.at 4 rfl
          have e5 := D9.at 5 rfl
          by_cases h0 : gOk kv sv n ra rb rc = true
          · have hk := HY (by trivial) (by trivial) (by trivial) sv n rfl h0
            obtain ⟨y0, y1, y2, y3, y4, y5⟩ := HV sv n rfl hk
            clear HY HV HO
            rw [h0]
            have FG := show Hid _ from R9.fill6 B9 (Nat.le_refl _) (.int .i64 kv) (.int .i64 sv) (.int .i64 n) (.int .i64 ra) (.int .i64 rb) (.int .i64 rc)
            have r0 := R9.at 0 rfl
            have g0 := R9.fz 0 rfl
            have r1 := R9.at 1 rfl
            have g1 := R9.fz 1 rfl
            have r2 := R9.at 2 rfl
            have g2 := R9.fz 2 rfl
            have r3 := R9.at 3 rfl
            have g3 := R9.fz 3 rfl
            have r4 := R9.at 4 rfl
            have g4 := R9.fz 4 rfl
            have r5 := R9.at 5 rfl
            have g5 := R9.fz 5 rfl
            go_wp2
            have G := FG.out
            exact bodyPost_ret (res_gb rfl _ _ w.heap.size _ _ _ _ _ _ (.bool true) rfl rfl (G.1.at 0 rfl) (G.1.at 1 rfl) (G.1.at 2 rfl) (G.1.at 3 rfl) (G.1.at 4 rfl) (G.1.at 5 rfl)) rfl ⟨by rw [y0, y1, y2, y3, y4, y5, hk], G.2⟩
          · rw [Bool.not_eq_true] at h0
            have hk := HO (Or.inr (Or.inr (Or.inr (Or.inr ⟨sv, n, rfl, h0⟩))))
            clear HY HV HO
            rw [h0]
            have FG := show Hid _ from R9.fill6 B9 (Nat.le_refl _) (.int .i64 0) (.int .i64 0) (.int .i64 0) (.int .i64 0) (.int .i64 0) (.int .i64 0)
            have r0 := R9.at 0 rfl
            have g0 := R9.fz 0 rfl
            have r1 := R9.at 1 rfl
            have g1 := R9.fz 1 rfl
            have r2 := R9.at 2 rfl
            have g2 := R9.fz 2 rfl
            have r3 := R9.at 3 rfl
            have g3 := R9.fz 3 rfl
            have r4 := R9.at 4 rfl
            have g4 := R9.fz 4 rfl
            have r5 := R9.at 5 rfl
            have g5 := R9.fz 5 rfl
            go_wp2
            have G := FG.out
            exact bodyPost_ret (res_gb rfl _ _ w.heap.size _ _ _ _ _ _ (.bool false) rfl rfl (G.1.at 0 rfl) (G.1.at 1 rfl) (G.1.at 2 rfl) (G.1.at 3 rfl) (G.1.at 4 rfl) (G.1.at 5 rfl)) rfl ⟨by rw [rgV_no hk, rgV_no hk, rgV_no hk, rgV_no hk, rgV_no hk, rgV_no hk, hk], G.2⟩
    · have hk := HO (Or.inr (Or.inr (Or.inr (Or.inl h2))))
      obtain ⟨a, cap, rfl, _, _⟩ := own_row (f := Value.int .i64) ho
      have h2' : ((NL.length : Int) == 2) = false := by simp; omega
      clear ho HN HY HV HO
      go_wp2_with fail
      refine (HR _).mono ?_
      rintro en w6 ⟨rfl, hb6⟩
      have R6 := R5.later hb6 Z5.out
      have Z6 : w.heap.size < w6.heap.size := Nat.lt_of_lt_of_le Z5.out hb6.size
      have B6 := B5.trans (hb6.mono B5.size)
      clear R5 Z5 B5 hb6 HR q0 X5
      obtain ⟨W7, hW7⟩ : ∃ W7, w6.alloc (.cells #[.int .i64 ra, .int .i64 rb, .int .i64 rc] 28) = W7 := ⟨_, rfl⟩
      have R7 : Blk w.heap.size [.int .i64 0, .int .i64 0, .int .i64 0, .int .i64 0, .int .i64 0, .int .i64 0] W7 := by rw [← hW7]; exact R6.alloc Z6 _
      have B7 : Below w.heap.size w W7 := by rw [← hW7]; exact B6.alloc B6.size _
      clear R6 B6
      cases ka with
      | false =>
        have FG := show Hid _ from R7.fill6 B7 (Nat.le_refl _) (.int .i64 0) (.int .i64 0) (.int .i64 0) (.int .i64 0) (.int .i64 0) (.int .i64 0)
        have r0 := R7.at 0 rfl
        have g0 := R7.fz 0 rfl
        have r1 := R7.at 1 rfl
        have g1 := R7.fz 1 rfl
        have r2 := R7.at 2 rfl
        have g2 := R7.fz 2 rfl
        have r3 := R7.at 3 rfl
        have g3 := R7.fz 3 rfl
        have r4 := R7.at 4 rfl
        have g4 := R7.fz 4 rfl
        have r5 := R7.at 5 rfl
        have g5 := R7.fz 5 rfl
        go_wp2
        have G := FG.out
        exact bodyPost_ret (res_gb rfl _ _ w.heap.size _ _ _ _ _ _ (.bool false) rfl rfl (G.1.at 0 rfl) (G.1.at 1 rfl) (G.1.at 2 rfl) (G.1.at 3 rfl) (G.1.at 4 rfl) (G.1.at 5 rfl)) rfl ⟨by rw [rgV_no hk, rgV_no hk, rgV_no hk, rgV_no hk, rgV_no hk, rgV_no hk, hk], G.2⟩
      | true =>
        cases nb with
        | false =>
          have FG := show Hid _ from R7.fill6 B7 (Nat.le_refl _) (.int .i64 0) (.int .i64 0) (.int .i64 0) (.int .i64 0) (.int .i64 0) (.int .i64 0)
          have r0 := R7.at 0 rfl
          have g0 := R7.fz 0 rfl
          have r1 := R7.at 1 rfl
          have g1 := R7.fz 1 rfl
          have r2 := R7.at 2 rfl
          have g2 := R7.fz 2 rfl
          have r3 := R7.at 3 rfl
          have g3 := R7.fz 3 rfl
          have r4 := R7.at 4 rfl
          have g4 := R7.fz 4 rfl
          have r5 := R7.at 5 rfl
          have g5 := R7.fz 5 rfl
          go_wp2
          have G := FG.out
          exact bodyPost_ret (res_gb rfl _ _ w.heap.size _ _ _ _ _ _ (.bool false) rfl rfl (G.1.at 0 rfl) (G.1.at 1 rfl) (G.1.at 2 rfl) (G.1.at 3 rfl) (G.1.at 4 rfl) (G.1.at 5 rfl)) rfl ⟨by rw [rgV_no hk, rgV_no hk, rgV_no hk, rgV_no hk, rgV_no hk, rgV_no hk, hk], G.2⟩
        | true =>
          cases rk with
          | false =>
            have FG := show Hid _ from R7.fill6 B7 (Nat.le_refl _) (.int .i64 0) (.int .i64 0) (.int .i64 0) (.int .i64 0) (.int .i64 0) (.int .i64 0)
            have r0 := R7.at 0 rfl
            have g0 := R7.fz 0 rfl
            have r1 := R7.at 1 rfl
            have g1 := R7.fz 1 rfl
            have r2 := R7.at 2 rfl
            have g2 := R7.fz 2 rfl
            have r3 := R7.at 3 rfl
            have g3 := R7.fz 3 rfl
            have r4 := R7.at 4 rfl
            have g4 := R7.fz 4 rfl
            have r5 := R7.at 5 rfl
            have g5 := R7.fz 5 rfl
            go_wp2
            have G := FG.out
            exact bodyPost_ret (res_gb rfl _ _ w.heap.size _ _ _ _ _ _ (.bool false) rfl rfl (G.1.at 0 rfl) (G.1.at 1 rfl) (G.1.at 2 rfl) (G.1.at 3 rfl) (G.1.at 4 rfl) (G.1.at 5 rfl)) rfl ⟨by rw [rgV_no hk, rgV_no hk, rgV_no hk, rgV_no hk, rgV_no hk, rgV_no hk, hk], G.2⟩
          | true =>
            have FG := show Hid _ from R7.fill6 B7 (Nat.le_refl _) (.int .i64 0) (.int .i64 0) (.int .i64 0) (.int .i64 0) (.int .i64 0) (.int .i64 0)
            have r0 := R7.at 0 rfl
            have g0 := R7.fz 0 rfl
            have r1 := R7.at 1 rfl
            have g1 := R7.fz 1 rfl
            have r2 := R7.at 2 rfl
            have g2 := R7.fz 2 rfl
            have r3 := R7.at 3 rfl
            have g3 := R7.fz 3 rfl
            have r4 := R7.at 4 rfl
            have g4 := R7.fz 4 rfl
            have r5 := R7.at 5 rfl
            have g5 := R7.fz 5 rfl
            go_wp2
            have G := FG.out
            exact bodyPost_ret (res_gb rfl _ _ w.heap.size _ _ _ _ _ _ (.bool false) rfl rfl (G.1.at 0 rfl) (G.1.at 1 rfl) (G.1.at 2 rfl) (G.1.at 3 rfl) (G.1.at 4 rfl) (G.1.at 5 rfl)) rfl ⟨by rw [rgV_no hk, rgV_no hk, rgV_no hk, rgV_no hk, rgV_no hk, rgV_no hk, hk], G.2⟩
  · have hk := HRG h3
    obtain ⟨a, cap, rfl, _, _⟩ := own_row (f := Value.string) ho
    have h3' : ((PL.length : Int) == 3) = false := by simp; omega
    clear ho
    have FG := show Hid _ from R3.fill6 B3 (Nat.le_refl _) (.int .i64 0) (.int .i64 0) (.int .i64 0) (.int .i64 0) (.int .i64 0) (.int .i64 0)
    have r0 := R3.at 0 rfl
    have g0 := R3.fz 0 rfl
    have r1 := R3.at 1 rfl
    have g1 := R3.fz 1 rfl
    have r2 := R3.at 2 rfl
    have g2 := R3.fz 2 rfl
    have r3 := R3.at 3 rfl
    have g3 := R3.fz 3 rfl
    have r4 := R3.at 4 rfl
    have g4 := R3.fz 4 rfl
    have r5 := R3.at 5 rfl
    have g5 := R3.fz 5 rfl
    go_wp2
    have G := FG.out
    exact bodyPost_ret (res_gb rfl _ _ w.heap.size _ _ _ _ _ _ (.bool false) rfl rfl (G.1.at 0 rfl) (G.1.at 1 rfl) (G.1.at 2 rfl) (G.1.at 3 rfl) (G.1.at 4 rfl) (G.1.at 5 rfl)) rfl ⟨by rw [rgV_no hk, rgV_no hk, rgV_no hk, rgV_no hk, rgV_no hk, rgV_no hk, hk], G.2⟩
end Go.Proofs.Ytbbaddcldoflfaa
