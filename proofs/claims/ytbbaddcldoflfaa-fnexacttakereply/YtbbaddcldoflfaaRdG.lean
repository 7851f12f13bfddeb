/- Grants: what a text is read as. -/
import Derived.Test.YtbbaddcldoflfaaFillG
import Derived.Test.YtbbaddcldoflfaaShG3
set_option linter.unusedVariables false
namespace Go.Proofs.Ytbbaddcldoflfaa
open Go Go.RowKit Own Var Term

/-- What a text is read as: a grant. -/
def rgP (s : ByteArray) (key : Int) (i : Nat) : ByteArray := (partsR (openR s key).1).1.getD i ⟨#[]⟩
def rgF (s : ByteArray) (key : Int) : List Int :=
  [(keyR (rgP s key 0)).1, (numsR (rgP s key 1)).1.getD 0 0, (numsR (rgP s key 1)).1.getD 1 0, rdA (numsR (rgP s key 2)).1, rdB (numsR (rgP s key 2)).1, rdC (numsR (rgP s key 2)).1]
def rgK (s : ByteArray) (key : Int) : Bool :=
  decide ((partsR (openR s key).1).1.length = 3) && ((keyR (rgP s key 0)).2 && ((numsR (rgP s key 1)).2 && (rdK (numsR (rgP s key 2)).1 && (decide ((numsR (rgP s key 1)).1.length = 2) &&
    gOk ((rgF s key).getD 0 0) ((rgF s key).getD 1 0) ((rgF s key).getD 2 0) ((rgF s key).getD 3 0) ((rgF s key).getD 4 0) ((rgF s key).getD 5 0)))))
def rgV (s : ByteArray) (key : Int) (i : Nat) : Int := if rgK s key then (rgF s key).getD i 0 else 0
theorem rgV_no {s : ByteArray} {key : Int} (h : rgK s key = false) (i : Nat) : rgV s key i = 0 := by unfold rgV; rw [h]; rfl
theorem rgK_not {s : ByteArray} {key : Int} (h : (partsR (openR s key).1).1.length ≠ 3) : rgK s key = false := by
  unfold rgK
  rw [decide_eq_false h]
  rfl
theorem rgP_at {s : ByteArray} {key : Int} {x0 x1 x2 : ByteArray} (h : (partsR (openR s key).1).1 = [x0, x1, x2]) : rgP s key 0 = x0 ∧ rgP s key 1 = x1 ∧ rgP s key 2 = x2 := by
  unfold rgP
  rw [h]
  exact ⟨rfl, rfl, rfl⟩
theorem rgK_three {s : ByteArray} {key : Int} {x0 x1 x2 : ByteArray} (h : (partsR (openR s key).1).1 = [x0, x1, x2]) :
    rgK s key = ((keyR x0).2 && ((numsR x1).2 && (rdK (numsR x2).1 && (decide ((numsR x1).1.length = 2) &&
      gOk (keyR x0).1 ((numsR x1).1.getD 0 0) ((numsR x1).1.getD 1 0) (rdA (numsR x2).1) (rdB (numsR x2).1) (rdC (numsR x2).1))))) := by
  obtain ⟨e0, e1, e2⟩ := rgP_at h
  unfold rgK rgF
  rw [e0, e1, e2, h]
  rfl
theorem rgV_three {s : ByteArray} {key : Int} {x0 x1 x2 : ByteArray} {sv n : Int} (h : (partsR (openR s key).1).1 = [x0, x1, x2]) (hw : (numsR x1).1 = [sv, n]) (hk : rgK s key = true) :
    rgV s key 0 = (keyR x0).1 ∧ rgV s key 1 = sv ∧ rgV s key 2 = n ∧ rgV s key 3 = rdA (numsR x2).1 ∧ rgV s key 4 = rdB (numsR x2).1 ∧ rgV s key 5 = rdC (numsR x2).1 := by
  obtain ⟨e0, e1, e2⟩ := rgP_at h
  unfold rgV rgF
  rw [hk, e0, e1, e2, hw]
  exact ⟨rfl, rfl, rfl, rfl, rfl, rfl⟩
theorem told_grant (s : ByteArray) (key : Int) (x0 x1 x2 : ByteArray) (hx : just (⟨#[]⟩ : ByteArray) (partsR (openR s key).1).1 3 = [x0, x1, x2]) (sv n : Int) (hw : just 0 (numsR x1).1 2 = [sv, n]) :
    toldB (shG (keyR x0).1 sv n (rdA (numsR x2).1) (rdB (numsR x2).1) (rdC (numsR x2).1) key) s = rgK s key ∧
    (rgK s key = true → rgV s key 0 = (keyR x0).1 ∧ rgV s key 1 = sv ∧ rgV s key 2 = n ∧ rgV s key 3 = rdA (numsR x2).1 ∧ rgV s key 4 = rdB (numsR x2).1 ∧ rgV s key 5 = rdC (numsR x2).1) := by
  have HI := grant_iff s key x0 x1 x2 sv n (by unfold just at hx; exact hx.symm) (by unfold just at hw; exact hw.symm)
  generalize hX : shG (keyR x0).1 sv n (rdA (numsR x2).1) (rdB (numsR x2).1) (rdC (numsR x2).1) key = X at HI ⊢
  have HT : toldB X s = true ↔ (X.size ≠ 0 ∧ X = s) := by unfold toldB; simp
  by_cases h3 : (partsR (openR s key).1).1.length = 3
  · have hL : (partsR (openR s key).1).1 = [x0, x1, x2] := by unfold just at hx; rw [if_pos h3] at hx; exact hx
    by_cases h2 : (numsR x1).1.length = 2
    · have hN : (numsR x1).1 = [sv, n] := by unfold just at hw; rw [if_pos h2] at hw; exact hw
      refine ⟨?_, rgV_three hL hN⟩
      rw [Bool.eq_iff_iff, HT, HI, rgK_three hL, hN]
      simp only [Bool.and_eq_true, decide_eq_true_eq]
      exact ⟨fun h => ⟨h.2.1, h.2.2.1, h.2.2.2.1, rfl, h.2.2.2.2.2⟩, fun h => ⟨h3, h.1, h.2.1, h.2.2.1, rfl, h.2.2.2.2⟩⟩
    · have hk : rgK s key = false := by rw [rgK_three hL, decide_eq_false h2]; simp
      refine ⟨?_, fun h => by rw [hk] at h; cases h⟩
      rw [hk, Bool.eq_false_iff]
      intro h
      exact h2 (HI.1 (HT.1 h)).2.2.2.2.1
  · have hk := rgK_not h3
    refine ⟨?_, fun h => by rw [hk] at h; cases h⟩
    rw [hk, Bool.eq_false_iff]
    intro h
    exact h3 (HI.1 (HT.1 h)).1

set_option maxRecDepth 100000 in
set_option maxHeartbeats 6400000 in
theorem implReadG_is (s : ByteArray) (key : Int) (w : World) (hs : s.size ≤ 1048576) : Calls Try.prog 28 #[.string s, .int .i64 key] w fun en w' => en = .returned (.tuple #[.agg #[.int .i64 (rgV s key 0), .int .i64 (rgV s key 1), .int .i64 (rgV s key 2), .int .i64 (rgV s key 3), .int .i64 (rgV s key 4), .int .i64 (rgV s key 5)], .bool (rgK s key)]) ∧ Below w.heap.size w w' := by
  obtain ⟨x0, x1, x2, hx⟩ : ∃ x0 x1 x2, just (⟨#[]⟩ : ByteArray) (partsR (openR s key).1).1 3 = [x0, x1, x2] := by
    have hl := just_len (⟨#[]⟩ : ByteArray) (partsR (openR s key).1).1 3
    match just (⟨#[]⟩ : ByteArray) (partsR (openR s key).1).1 3, hl with
    | [x0, x1, x2], _ => exact ⟨x0, x1, x2, rfl⟩
  obtain ⟨sv, n, hw⟩ : ∃ sv n, just 0 (numsR x1).1 2 = [sv, n] := by
    have hl := just_len 0 (numsR x1).1 2
    match just 0 (numsR x1).1 2, hl with
    | [sv, n], _ => exact ⟨sv, n, rfl⟩
  have hsv : i64 sv := just_i64 x1 2 sv (by rw [hw]; simp)
  have HTD := told_grant s key x0 x1 x2 hx sv n hw
  have HS := fun w => showG_is (keyR x0).1 sv n (rdA (numsR x2).1) (rdB (numsR x2).1) (rdC (numsR x2).1) key w hsv
  have HT : ∀ w, Calls Try.prog 53 #[.agg #[.int .i64 ((keyR x0).1), .int .i64 sv, .int .i64 n, .int .i64 (rdA (numsR x2).1), .int .i64 (rdB (numsR x2).1), .int .i64 (rdC (numsR x2).1), .int .i64 key], .string (shG (keyR x0).1 sv n (rdA (numsR x2).1) (rdB (numsR x2).1) (rdC (numsR x2).1) key), .string s] w fun en w' => en = .returned (.tuple #[.agg #[.int .i64 (rgV s key 0), .int .i64 (rgV s key 1), .int .i64 (rgV s key 2), .int .i64 (rgV s key 3), .int .i64 (rgV s key 4), .int .i64 (rgV s key 5)], .bool (rgK s key)]) ∧ Below w.heap.size w w' := fun w => (toldG_is (keyR x0).1 sv n (rdA (numsR x2).1) (rdB (numsR x2).1) (rdC (numsR x2).1) key _ s w).mono (by
    rintro en w' ⟨rfl, hb⟩
    refine ⟨?_, hb⟩
    rw [HTD.1]
    cases hk : rgK s key with
    | true =>
      obtain ⟨e0, e1, e2, e3, e4, e5⟩ := HTD.2 hk
      rw [e0, e1, e2, e3, e4, e5]
      rfl
    | false =>
      rw [rgV_no hk, rgV_no hk, rgV_no hk, rgV_no hk, rgV_no hk, rgV_no hk]
      rfl)
  clear HTD
  generalize rgV s key 0 = y0 at HT ⊢
  generalize rgV s key 1 = y1 at HT ⊢
  generalize rgV s key 2 = y2 at HT ⊢
  generalize rgV s key 3 = y3 at HT ⊢
  generalize rgV s key 4 = y4 at HT ⊢
  generalize rgV s key 5 = y5 at HT ⊢
  generalize rgK s key = kk at HT ⊢
  generalize shG (keyR x0).1 sv n (rdA (numsR x2).1) (rdB (numsR x2).1) (rdC (numsR x2).1) key = X at HT HS
  obtain ⟨W2, hW2⟩ : ∃ W2, (w.alloc (.cells #[.int .i64 0, .int .i64 0, .int .i64 0, .int .i64 0, .int .i64 0, .int .i64 0] 56)).alloc (.cells #[.int .i64 0, .int .i64 0, .int .i64 0, .int .i64 0, .int .i64 0, .int .i64 0, .int .i64 key] 80) = W2 := ⟨_, rfl⟩
  have B2 : Below w.heap.size w W2 := by rw [← hW2]; exact ((Below.refl _ _).alloc (Nat.le_refl _) _).alloc (by simp) _
  have R2 : Blk w.heap.size [.int .i64 0, .int .i64 0, .int .i64 0, .int .i64 0, .int .i64 0, .int .i64 0] W2 := by rw [← hW2]; exact (Blk.new w #[.int .i64 0, .int .i64 0, .int .i64 0, .int .i64 0, .int .i64 0, .int .i64 0] _).alloc (by simp) _
  have T2 : Blk (w.heap.size + 1) [.int .i64 0, .int .i64 0, .int .i64 0, .int .i64 0, .int .i64 0, .int .i64 0, .int .i64 key] W2 := by rw [← hW2]; have := Blk.new (w.alloc (.cells #[.int .i64 0, .int .i64 0, .int .i64 0, .int .i64 0, .int .i64 0, .int .i64 0] 56)) #[.int .i64 0, .int .i64 0, .int .i64 0, .int .i64 0, .int .i64 0, .int .i64 0, .int .i64 key] 80; simpa using this
  have Z2 : w.heap.size + 2 ≤ W2.heap.size := by rw [← hW2]; simp
  have HF := fillG_is (w.heap.size + 1) 0 0 0 0 0 0 key s W2 T2 (by omega) hs x0 x1 x2 hx sv n hw
  have ZH : Hid (w.heap.size + 2 ≤ W2.heap.size) := Z2
  clear hx hw T2 Z2
  generalize (keyR x0).1 = kv at HF HS HT
  generalize rdA (numsR x2).1 = ra at HF HS HT
  generalize rdB (numsR x2).1 = rb at HF HS HT
  generalize rdC (numsR x2).1 = rc at HF HS HT
  go_enter Try.func28, Try.ntmps28
  go_wp2_with fail
  try rw [hW2]
  refine HF.mono ?_
  clear hW2 HF
  rintro en w3 ⟨rfl, TC, hb3⟩
  have RR := R2.lower hb3 (by omega)
  have ZC : Hid (w.heap.size + 2 ≤ w3.heap.size) := Nat.le_trans ZH.out hb3.size
  have BC := B2.trans (hb3.mono (by omega))
  clear R2 ZH B2 hb3
  go_wp2_with fail
  have TCD := TC.drew
  have BCD := BC.drew
  have RRD := RR.drew
  have ZCD : Hid (w.heap.size + 2 ≤ w3.drew.heap.size) := ZC
  clear TC BC ZC RR
  have TC := TCD
  have BC := BCD
  have RR := RRD
  have ZC := ZCD
  clear TCD BCD RRD ZCD
  refine wp_region_held_drew (S := (fun Vw => Blk (w.heap.size + 1) [.int .i64 kv, .int .i64 sv, .int .i64 n, .int .i64 ra, .int .i64 rb, .int .i64 rc, .int .i64 key] Vw)) (by kernel_rfl) TC (fun hHeld => ?_)
  refine take_one 0 12 (v := ?_) rfl rfl (by kernel_rfl) (by kernel_rfl) (by kernel_rfl) (fun _ _ _ h => h) (Or.inl ⟨by rfl, ?_⟩) hHeld ?_
  rotate_left
  · intro w' hSw; (try dsimp only at hSw); have d0 := hSw.at 0 rfl; have d1 := hSw.at 1 rfl; have d2 := hSw.at 2 rfl; have d3 := hSw.at 3 rfl; have d4 := hSw.at 4 rfl; have d5 := hSw.at 5 rfl; have d6 := hSw.at 6 rfl; go_simp; try with_reducible rfl
  try simp only [Act.put, List.setIfInBounds_toArray, List.set_cons_zero, List.set_cons_succ]
  refine take_one 1 13 (v := ?_) rfl rfl (by kernel_rfl) (by kernel_rfl) (by kernel_rfl) (fun _ _ _ h => h) (Or.inl ⟨by rfl, ?_⟩) hHeld ?_
  rotate_left
  · intro w' hSw; (try dsimp only at hSw); have d0 := hSw.at 0 rfl; have d1 := hSw.at 1 rfl; have d2 := hSw.at 2 rfl; have d3 := hSw.at 3 rfl; have d4 := hSw.at 4 rfl; have d5 := hSw.at 5 rfl; have d6 := hSw.at 6 rfl; go_simp; try with_reducible rfl
  try simp only [Act.put, List.setIfInBounds_toArray, List.set_cons_zero, List.set_cons_succ]
  refine take_one 2 14 (v := ?_) rfl rfl (by kernel_rfl) (by kernel_rfl) (by kernel_rfl) (fun _ _ _ h => h) (Or.inl ⟨by rfl, ?_⟩) hHeld ?_
  rotate_left
  · intro w' hSw; (try dsimp only at hSw); have d0 := hSw.at 0 rfl; have d1 := hSw.at 1 rfl; have d2 := hSw.at 2 rfl; have d3 := hSw.at 3 rfl; have d4 := hSw.at 4 rfl; have d5 := hSw.at 5 rfl; have d6 := hSw.at 6 rfl; go_simp; try with_reducible rfl
  try simp only [Act.put, List.setIfInBounds_toArray, List.set_cons_zero, List.set_cons_succ]
  refine take_one 4 16 (v := ?_) rfl rfl (by kernel_rfl) (by kernel_rfl) (by kernel_rfl) (fun _ _ _ h => h) (Or.inl ⟨by rfl, ?_⟩) hHeld ?_
  rotate_left
  · intro w' hSw; (try dsimp only at hSw); have d0 := hSw.at 0 rfl; have d1 := hSw.at 1 rfl; have d2 := hSw.at 2 rfl; have d3 := hSw.at 3 rfl; have d4 := hSw.at 4 rfl; have d5 := hSw.at 5 rfl; have d6 := hSw.at 6 rfl; go_simp; try with_reducible rfl
  try simp only [Act.put, List.setIfInBounds_toArray, List.set_cons_zero, List.set_cons_succ]
  refine wpAnyH_ready (rs := [3]) (by kernel_rfl) (by simp) ?_
  refine AllReadyH.cons (i := 3) rfl (fun K hK => ?_) AllReadyH.nil
  go_simp
  refine (HS _).mono ?_
  rintro en v11 ⟨rfl, hv11⟩
  have TN := TC.later hv11 (by have := ZC.out; omega)
  have ZN : Hid (w.heap.size + 2 ≤ v11.heap.size) := Nat.le_trans ZC.out hv11.size
  have BN := BC.trans (hv11.mono BC.size)
  have RRN := RR.lower hv11 (by have := ZC.out; omega)
  clear TC ZC BC
  have TC := TN
  have ZC := ZN
  have BC := BN
  clear TN ZN BN
  clear RR
  have RR := RRN
  clear RRN
  clear hv11
  go_wp2_with fail
  refine hK.out _ _ TC (fun hHeld2 => ?_)
  clear hK K hHeld
  have hHeld := hHeld2
  clear hHeld2
  try simp only [Act.put, List.setIfInBounds_toArray, List.set_cons_zero, List.set_cons_succ]
  refine wpAnyH_ready (rs := [5]) (by kernel_rfl) (by simp) ?_
  refine AllReadyH.cons (i := 5) rfl (fun K hK => ?_) AllReadyH.nil
  go_simp
  refine (HT _).mono ?_
  rintro en v12 ⟨rfl, hv12⟩
  have TN := TC.later hv12 (by have := ZC.out; omega)
  have ZN : Hid (w.heap.size + 2 ≤ v12.heap.size) := Nat.le_trans ZC.out hv12.size
  have BN := BC.trans (hv12.mono BC.size)
  have RRN := RR.lower hv12 (by have := ZC.out; omega)
  clear TC ZC BC
  have TC := TN
  have ZC := ZN
  have BC := BN
  clear TN ZN BN
  clear RR
  have RR := RRN
  clear RRN
  clear hv12
  go_wp2_with fail
  refine hK.out _ _ TC (fun hHeld2 => ?_)
  clear hK K hHeld
  have hHeld := hHeld2
  clear hHeld2
  try simp only [Act.put, List.setIfInBounds_toArray, List.set_cons_zero, List.set_cons_succ]
  refine take_one 6 18 (v := ?_) rfl rfl (by kernel_rfl) (by kernel_rfl) (by kernel_rfl) (fun _ _ _ h => h) (Or.inl ⟨by rfl, ?_⟩) hHeld ?_
  rotate_left
  · intro w' hSw; (try dsimp only at hSw); have d0 := hSw.at 0 rfl; have d1 := hSw.at 1 rfl; have d2 := hSw.at 2 rfl; have d3 := hSw.at 3 rfl; have d4 := hSw.at 4 rfl; have d5 := hSw.at 5 rfl; have d6 := hSw.at 6 rfl; go_simp; try with_reducible rfl
  try simp only [Act.put, List.setIfInBounds_toArray, List.set_cons_zero, List.set_cons_succ]
  refine take_one 7 19 (v := ?_) rfl rfl (by kernel_rfl) (by kernel_rfl) (by kernel_rfl) (fun _ _ _ h => h) (Or.inl ⟨by rfl, ?_⟩) hHeld ?_
  rotate_left
  · intro w' hSw; (try dsimp only at hSw); have d0 := hSw.at 0 rfl; have d1 := hSw.at 1 rfl; have d2 := hSw.at 2 rfl; have d3 := hSw.at 3 rfl; have d4 := hSw.at 4 rfl; have d5 := hSw.at 5 rfl; have d6 := hSw.at 6 rfl; go_simp; try with_reducible rfl
  try simp only [Act.put, List.setIfInBounds_toArray, List.set_cons_zero, List.set_cons_succ]
  have k0 := RR.at 0 rfl
  have f0 := RR.fz 0 rfl
  have k1 := RR.at 1 rfl
  have f1 := RR.fz 1 rfl
  have k2 := RR.at 2 rfl
  have f2 := RR.fz 2 rfl
  have k3 := RR.at 3 rfl
  have f3 := RR.fz 3 rfl
  have k4 := RR.at 4 rfl
  have f4 := RR.fz 4 rfl
  have k5 := RR.at 5 rfl
  have f5 := RR.fz 5 rfl
  have F := show Hid _ from RR.fill6 BC (Nat.le_refl _) (.int .i64 y0) (.int .i64 y1) (.int .i64 y2) (.int .i64 y3) (.int .i64 y4) (.int .i64 y5)
  refine wpAnyH_ready (rs := [8]) (by kernel_rfl) (by simp) ?_
  refine AllReadyH.cons (i := 8) rfl (fun K hK => ?_) AllReadyH.nil
  go_simp
  refine hK.out _ _ ((((((TC.far (by omega) 0 _).far (by omega) 1 _).far (by omega) 2 _).far (by omega) 3 _).far (by omega) 4 _).far (by omega) 5 _) (fun hHeld2 => ?_)
  clear hK K hHeld
  have hHeld := hHeld2
  clear hHeld2
  try simp only [Act.put, List.setIfInBounds_toArray, List.set_cons_zero, List.set_cons_succ]
  refine take_one 9 5 (v := ?_) rfl rfl (by kernel_rfl) (by kernel_rfl) (by kernel_rfl) (fun _ _ _ h => h) (Or.inl ⟨by rfl, ?_⟩) hHeld ?_
  rotate_left
  · intro w' hSw; (try dsimp only at hSw); have d0 := hSw.at 0 rfl; have d1 := hSw.at 1 rfl; have d2 := hSw.at 2 rfl; have d3 := hSw.at 3 rfl; have d4 := hSw.at 4 rfl; have d5 := hSw.at 5 rfl; have d6 := hSw.at 6 rfl; go_simp; try with_reducible rfl
  try simp only [Act.put, List.setIfInBounds_toArray, List.set_cons_zero, List.set_cons_succ]
  refine wpAnyH_done (by kernel_rfl) ?_ _
  clear hHeld k0 f0 k1 f1 k2 f2 k3 f3 k4 f4 k5 f5 TC RR BC
  go_wp2
  have G := F.out
  exact bodyPost_ret (res_gb rfl _ _ w.heap.size _ _ _ _ _ _ (.bool kk) rfl rfl (G.1.at 0 rfl) (G.1.at 1 rfl) (G.1.at 2 rfl) (G.1.at 3 rfl) (G.1.at 4 rfl) (G.1.at 5 rfl)) rfl ⟨rfl, G.2⟩
end Go.Proofs.Ytbbaddcldoflfaa
