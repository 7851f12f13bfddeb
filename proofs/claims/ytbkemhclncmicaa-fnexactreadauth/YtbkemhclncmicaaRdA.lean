/- Authenticators: what a text is read as. -/
import Derived.Test.YtbkemhclncmicaaFillA
import Derived.Test.YtbkemhclncmicaaShA2
set_option linter.unusedVariables false
namespace Go.Proofs.Ytbkemhclncmicaa
open Go Go.RowKit Own Var Term

/-- What a text is read as: an authenticator. -/
def raL (s : ByteArray) (key : Int) : List Int := (numsR (openR s key).1).1
def raK (s : ByteArray) (key : Int) : Bool := (numsR (openR s key).1).2 && (decide ((raL s key).length = 4) && ((raL s key).getD 0 0 == 7 && aOk ((raL s key).getD 1 0) ((raL s key).getD 2 0) ((raL s key).getD 3 0)))
def raV (s : ByteArray) (key : Int) (i : Nat) : Int := if raK s key then (raL s key).getD i 0 else 0
theorem raV_no {s : ByteArray} {key : Int} (h : raK s key = false) (i : Nat) : raV s key i = 0 := by unfold raV; rw [h]; rfl
theorem raK_four {s : ByteArray} {key m c t q : Int} (h : numsR (openR s key).1 = ([m, c, t, q], true)) : raK s key = (m == 7 && aOk c t q) := by
  unfold raK raL
  rw [h]
  rfl
theorem raV_yes {s : ByteArray} {key m c t q : Int} (h : numsR (openR s key).1 = ([m, c, t, q], true)) (hk : raK s key = true) : raV s key 1 = c ∧ raV s key 2 = t ∧ raV s key 3 = q := by
  unfold raV raL
  rw [hk, h]
  exact ⟨rfl, rfl, rfl⟩
theorem raK_not {s : ByteArray} {key : Int} (h : (numsR (openR s key).1).1.length ≠ 4) : raK s key = false := by
  unfold raK raL
  rw [decide_eq_false h]
  simp
theorem told_auth (s : ByteArray) (key m c t q : Int) (hj : just 0 (numsR (openR s key).1).1 4 = [m, c, t, q]) :
    toldB (shA c t q key) s = raK s key ∧ (raK s key = true → raV s key 1 = c ∧ raV s key 2 = t ∧ raV s key 3 = q) := by
  have HI := auth_iff s key m c t q (by unfold just at hj; exact hj.symm)
  have HT : toldB (shA c t q key) s = true ↔ ((shA c t q key).size ≠ 0 ∧ shA c t q key = s) := by unfold toldB; simp
  by_cases h4 : (numsR (openR s key).1).1.length = 4
  · have hL : (numsR (openR s key).1).1 = [m, c, t, q] := by unfold just at hj; rw [if_pos h4] at hj; exact hj
    have hb : (numsR (openR s key).1).2 = true := nums_ok _ (by rw [hL]; simp)
    have hp : numsR (openR s key).1 = ([m, c, t, q], true) := Prod.ext hL hb
    refine ⟨?_, raV_yes hp⟩
    rw [Bool.eq_iff_iff, HT, HI, raK_four hp, Bool.and_eq_true, beq_iff_eq]
    exact ⟨fun h => h.2.2, fun h => ⟨hb, h4, h⟩⟩
  · refine ⟨?_, fun h => ?_⟩
    · rw [raK_not h4, Bool.eq_false_iff]
      intro h
      exact h4 (HI.1 (HT.1 h)).2.1
    · rw [raK_not h4] at h; cases h

set_option maxRecDepth 100000 in
set_option maxHeartbeats 6400000 in
theorem implReadA_is (s : ByteArray) (key : Int) (w : World) (hs : s.size ≤ 1048576) : Calls Try.prog 22 #[.string s, .int .i64 key] w fun en w' => en = .returned (.tuple #[.agg #[.int .i64 (raV s key 1), .int .i64 (raV s key 2), .int .i64 (raV s key 3)], .bool (raK s key)]) ∧ Below w.heap.size w w' := by
  obtain ⟨m, c, t, q, hj⟩ : ∃ m c t q, just 0 (numsR (openR s key).1).1 4 = [m, c, t, q] := by
    have hl := just_len 0 (numsR (openR s key).1).1 4
    match just 0 (numsR (openR s key).1).1 4, hl with
    | [m, c, t, q], _ => exact ⟨m, c, t, q, rfl⟩
  have HTD := told_auth s key m c t q hj
  have HT : ∀ w, Calls Try.prog 54 #[.agg #[.int .i64 c, .int .i64 t, .int .i64 q, .int .i64 key], .string (shA c t q key), .string s] w fun en w' => en = .returned (.tuple #[.agg #[.int .i64 (raV s key 1), .int .i64 (raV s key 2), .int .i64 (raV s key 3)], .bool (raK s key)]) ∧ Below w.heap.size w w' := fun w => (toldA_is c t q key (shA c t q key) s w).mono (by
    rintro en w' ⟨rfl, hb⟩
    refine ⟨?_, hb⟩
    rw [HTD.1]
    cases hk : raK s key with
    | true =>
      obtain ⟨e1, e2, e3⟩ := HTD.2 hk
      rw [e1, e2, e3]
      rfl
    | false =>
      rw [raV_no hk, raV_no hk, raV_no hk]
      rfl)
  clear HTD
  generalize raV s key 1 = y1 at HT ⊢
  generalize raV s key 2 = y2 at HT ⊢
  generalize raV s key 3 = y3 at HT ⊢
  generalize raK s key = kk at HT ⊢
  obtain ⟨W2, hW2⟩ : ∃ W2, (w.alloc (.cells #[.int .i64 0, .int .i64 0, .int .i64 0] 42)).alloc (.cells #[.int .i64 0, .int .i64 0, .int .i64 0, .int .i64 key] 91) = W2 := ⟨_, rfl⟩
  have B2 : Below w.heap.size w W2 := by rw [← hW2]; exact ((Below.refl _ _).alloc (Nat.le_refl _) _).alloc (by simp) _
  have R2 : Blk w.heap.size [.int .i64 0, .int .i64 0, .int .i64 0] W2 := by rw [← hW2]; exact (Blk.new w #[.int .i64 0, .int .i64 0, .int .i64 0] _).alloc (by simp) _
  have T2 : Blk (w.heap.size + 1) [.int .i64 0, .int .i64 0, .int .i64 0, .int .i64 key] W2 := by rw [← hW2]; have := Blk.new (w.alloc (.cells #[.int .i64 0, .int .i64 0, .int .i64 0] 42)) #[.int .i64 0, .int .i64 0, .int .i64 0, .int .i64 key] 91; simpa using this
  have Z2 : w.heap.size + 2 ≤ W2.heap.size := by rw [← hW2]; simp
  have HF := fillA_is (w.heap.size + 1) 0 0 0 key s W2 T2 (by omega) hs m c t q hj
  have ZH : Hid (w.heap.size + 2 ≤ W2.heap.size) := Z2
  clear hj T2 Z2
  go_enter Try.func22, Try.ntmps22
  go_wp2_with fail
  try rw [hW2]
  refine HF.mono ?_
  clear hW2 HF
  rintro en w3 ⟨rfl, TC, hb3⟩
  have RR := R2.lower hb3 (by omega)
  have ZC : Hid (w.heap.size + 2 ≤ w3.heap.size) := Nat.le_trans ZH.out hb3.size
  have BC := B2.trans (hb3.mono (by omega))
  clear R2 ZH B2 hb3
  go_wp2_with fail
  have TCD := TC.drew
  have BCD := BC.drew
  have RRD := RR.drew
  have ZCD : Hid (w.heap.size + 2 ≤ w3.drew.heap.size) := ZC
  clear TC BC ZC RR
  have TC := TCD
  have BC := BCD
  have RR := RRD
  have ZC := ZCD
  clear TCD BCD RRD ZCD
  refine wp_region_held_drew (S := (fun V => Blk (w.heap.size + 1) [.int .i64 c, .int .i64 t, .int .i64 q, .int .i64 key] V)) (by kernel_rfl) TC (fun hHeld => ?_)
  refine take_one 0 12 (v := ?_) rfl rfl (by kernel_rfl) (by kernel_rfl) (by kernel_rfl) (fun _ _ _ h => h) (Or.inl ⟨by rfl, ?_⟩) hHeld ?_
  rotate_left
  · intro w' hSw; (try dsimp only at hSw); have d0 := hSw.at 0 rfl; have d1 := hSw.at 1 rfl; have d2 := hSw.at 2 rfl; have d3 := hSw.at 3 rfl; go_simp; try with_reducible rfl
  try simp only [Act.put, List.setIfInBounds_toArray, List.set_cons_zero, List.set_cons_succ]
  refine take_one 1 13 (v := ?_) rfl rfl (by kernel_rfl) (by kernel_rfl) (by kernel_rfl) (fun _ _ _ h => h) (Or.inl ⟨by rfl, ?_⟩) hHeld ?_
  rotate_left
  · intro w' hSw; (try dsimp only at hSw); have d0 := hSw.at 0 rfl; have d1 := hSw.at 1 rfl; have d2 := hSw.at 2 rfl; have d3 := hSw.at 3 rfl; go_simp; try with_reducible rfl
  try simp only [Act.put, List.setIfInBounds_toArray, List.set_cons_zero, List.set_cons_succ]
  refine take_one 2 14 (v := ?_) rfl rfl (by kernel_rfl) (by kernel_rfl) (by kernel_rfl) (fun _ _ _ h => h) (Or.inl ⟨by rfl, ?_⟩) hHeld ?_
  rotate_left
  · intro w' hSw; (try dsimp only at hSw); have d0 := hSw.at 0 rfl; have d1 := hSw.at 1 rfl; have d2 := hSw.at 2 rfl; have d3 := hSw.at 3 rfl; go_simp; try with_reducible rfl
  try simp only [Act.put, List.setIfInBounds_toArray, List.set_cons_zero, List.set_cons_succ]
  refine take_one 4 16 (v := ?_) rfl rfl (by kernel_rfl) (by kernel_rfl) (by kernel_rfl) (fun _ _ _ h => h) (Or.inl ⟨by rfl, ?_⟩) hHeld ?_
  rotate_left
  · intro w' hSw; (try dsimp only at hSw); have d0 := hSw.at 0 rfl; have d1 := hSw.at 1 rfl; have d2 := hSw.at 2 rfl; have d3 := hSw.at 3 rfl; go_simp; try with_reducible rfl
  try simp only [Act.put, List.setIfInBounds_toArray, List.set_cons_zero, List.set_cons_succ]
  refine wpAnyH_ready (rs := [3]) (by kernel_rfl) (by simp) ?_
  refine AllReadyH.cons (i := 3) rfl (fun K hK => ?_) AllReadyH.nil
  go_simp
  refine (showA_is c t q key _).mono ?_
  rintro en v11 ⟨rfl, hv11⟩
  have TN := TC.later hv11 (by have := ZC.out; omega)
  have ZN : Hid (w.heap.size + 2 ≤ v11.heap.size) := Nat.le_trans ZC.out hv11.size
  have BN := BC.trans (hv11.mono BC.size)
  have RRN := RR.lower hv11 (by have := ZC.out; omega)
  clear TC ZC BC
  have TC := TN
  have ZC := ZN
  have BC := BN
  clear TN ZN BN
  clear RR
  have RR := RRN
  clear RRN
  clear hv11
  go_wp2_with fail
  refine hK.out _ _ TC (fun hHeld2 => ?_)
  clear hK K hHeld
  have hHeld := hHeld2
  clear hHeld2
  try simp only [Act.put, List.setIfInBounds_toArray, List.set_cons_zero, List.set_cons_succ]
  refine wpAnyH_ready (rs := [5]) (by kernel_rfl) (by simp) ?_
  refine AllReadyH.cons (i := 5) rfl (fun K hK => ?_) AllReadyH.nil
  go_simp
  refine (HT _).mono ?_
  rintro en v12 ⟨rfl, hv12⟩
  have TN := TC.later hv12 (by have := ZC.out; omega)
  have ZN : Hid (w.heap.size + 2 ≤ v12.heap.size) := Nat.le_trans ZC.out hv12.size
  have BN := BC.trans (hv12.mono BC.size)
  have RRN := RR.lower hv12 (by have := ZC.out; omega)
  clear TC ZC BC
  have TC := TN
  have ZC := ZN
  have BC := BN
  clear TN ZN BN
  clear RR
  have RR := RRN
  clear RRN
  clear hv12
  go_wp2_with fail
  refine hK.out _ _ TC (fun hHeld2 => ?_)
  clear hK K hHeld
  have hHeld := hHeld2
  clear hHeld2
  try simp only [Act.put, List.setIfInBounds_toArray, List.set_cons_zero, List.set_cons_succ]
  refine take_one 6 18 (v := ?_) rfl rfl (by kernel_rfl) (by kernel_rfl) (by kernel_rfl) (fun _ _ _ h => h) (Or.inl ⟨by rfl, ?_⟩) hHeld ?_
  rotate_left
  · intro w' hSw; (try dsimp only at hSw); have d0 := hSw.at 0 rfl; have d1 := hSw.at 1 rfl; have d2 := hSw.at 2 rfl; have d3 := hSw.at 3 rfl; go_simp; try with_reducible rfl
  try simp only [Act.put, List.setIfInBounds_toArray, List.set_cons_zero, List.set_cons_succ]
  refine take_one 7 19 (v := ?_) rfl rfl (by kernel_rfl) (by kernel_rfl) (by kernel_rfl) (fun _ _ _ h => h) (Or.inl ⟨by rfl, ?_⟩) hHeld ?_
  rotate_left
  · intro w' hSw; (try dsimp only at hSw); have d0 := hSw.at 0 rfl; have d1 := hSw.at 1 rfl; have d2 := hSw.at 2 rfl; have d3 := hSw.at 3 rfl; go_simp; try with_reducible rfl
  try simp only [Act.put, List.setIfInBounds_toArray, List.set_cons_zero, List.set_cons_succ]
  have k0 := RR.at 0 rfl
  have f0 := RR.fz 0 rfl
  have k1 := RR.at 1 rfl
  have f1 := RR.fz 1 rfl
  have k2 := RR.at 2 rfl
  have f2 := RR.fz 2 rfl
  have F := show Hid _ from RR.fill3 BC (Nat.le_refl _) (.int .i64 y1) (.int .i64 y2) (.int .i64 y3)
  refine wpAnyH_ready (rs := [8]) (by kernel_rfl) (by simp) ?_
  refine AllReadyH.cons (i := 8) rfl (fun K hK => ?_) AllReadyH.nil
  go_simp
  refine hK.out _ _ (((TC.far (by omega) 0 _).far (by omega) 1 _).far (by omega) 2 _) (fun hHeld2 => ?_)
  clear hK K hHeld
  have hHeld := hHeld2
  clear hHeld2
  try simp only [Act.put, List.setIfInBounds_toArray, List.set_cons_zero, List.set_cons_succ]
  refine take_one 9 5 (v := ?_) rfl rfl (by kernel_rfl) (by kernel_rfl) (by kernel_rfl) (fun _ _ _ h => h) (Or.inl ⟨by rfl, ?_⟩) hHeld ?_
  rotate_left
  · intro w' hSw; (try dsimp only at hSw); have d0 := hSw.at 0 rfl; have d1 := hSw.at 1 rfl; have d2 := hSw.at 2 rfl; have d3 := hSw.at 3 rfl; go_simp; try with_reducible rfl
  try simp only [Act.put, List.setIfInBounds_toArray, List.set_cons_zero, List.set_cons_succ]
  refine wpAnyH_done (by kernel_rfl) ?_ _
  clear hHeld k0 k1 k2 f0 f1 f2 TC RR BC
  go_wp2
  have G := F.out
  exact bodyPost_ret (res_ab rfl _ _ w.heap.size _ _ _ (.bool kk) rfl rfl (G.1.at 0 rfl) (G.1.at 1 rfl) (G.1.at 2 rfl)) rfl ⟨rfl, G.2⟩

end Go.Proofs.Ytbkemhclncmicaa
