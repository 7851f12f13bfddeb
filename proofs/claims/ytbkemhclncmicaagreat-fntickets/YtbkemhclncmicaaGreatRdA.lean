/- Authenticators: what a text is read as. -/
import Derived.Test.YtbkemhclncmicaaGreatJust
import Derived.Test.YtbkemhclncmicaaGreatShA
import Derived.Test.YtbkemhclncmicaaGreatShT
set_option linter.unusedVariables false
namespace Go.Proofs.YtbkemhclncmicaaGreat
open Go Go.RowKit Own Var Term

/-- What a text is read as: an authenticator. -/
def raL (s : ByteArray) (key : Int) : List Int := (numsR (openR s key).1).1
def raK (s : ByteArray) (key : Int) : Bool := (numsR (openR s key).1).2 && (decide ((raL s key).length = 4) && ((raL s key).getD 0 0 == 7 && aOk ((raL s key).getD 1 0) ((raL s key).getD 2 0) ((raL s key).getD 3 0)))
def raV (s : ByteArray) (key : Int) (i : Nat) : Int := if raK s key then (raL s key).getD i 0 else 0
theorem raV_no {s : ByteArray} {key : Int} (h : raK s key = false) (i : Nat) : raV s key i = 0 := by unfold raV; rw [h]; rfl
theorem raK_four {s : ByteArray} {key m c t q : Int} (h : numsR (openR s key).1 = ([m, c, t, q], true)) : raK s key = (m == 7 && aOk c t q) := by
  unfold raK raL
  rw [h]
  rfl
theorem raV_yes {s : ByteArray} {key m c t q : Int} (h : numsR (openR s key).1 = ([m, c, t, q], true)) (hk : raK s key = true) : raV s key 1 = c ∧ raV s key 2 = t ∧ raV s key 3 = q := by
  unfold raV raL
  rw [hk, h]
  exact ⟨rfl, rfl, rfl⟩
theorem raK_not {s : ByteArray} {key : Int} (h : (numsR (openR s key).1).1.length ≠ 4) : raK s key = false := by
  unfold raK raL
  rw [decide_eq_false h]
  simp
theorem told_auth (s : ByteArray) (key m c t q : Int) (hj : just 0 (numsR (openR s key).1).1 4 = [m, c, t, q]) :
    toldB (shA c t q key) s = raK s key ∧ (raK s key = true → raV s key 1 = c ∧ raV s key 2 = t ∧ raV s key 3 = q) := by
  have HI := auth_iff s key m c t q (by unfold just at hj; exact hj.symm)
  have HT : toldB (shA c t q key) s = true ↔ ((shA c t q key).size ≠ 0 ∧ shA c t q key = s) := by unfold toldB; simp
  by_cases h4 : (numsR (openR s key).1).1.length = 4
  · have hL : (numsR (openR s key).1).1 = [m, c, t, q] := by unfold just at hj; rw [if_pos h4] at hj; exact hj
    have hb : (numsR (openR s key).1).2 = true := nums_ok _ (by rw [hL]; simp)
    have hp : numsR (openR s key).1 = ([m, c, t, q], true) := Prod.ext hL hb
    refine ⟨?_, raV_yes hp⟩
    rw [Bool.eq_iff_iff, HT, HI, raK_four hp, Bool.and_eq_true, beq_iff_eq]
    exact ⟨fun h => h.2.2, fun h => ⟨hb, h4, h⟩⟩
  · refine ⟨?_, fun h => ?_⟩
    · rw [raK_not h4, Bool.eq_false_iff]
      intro h
      exact h4 (HI.1 (HT.1 h)).2.1
    · rw [raK_not h4] at h; cases h

set_option maxRecDepth 100000 in
set_option maxHeartbeats 6400000 in
theorem implReadA_is (s : ByteArray) (key : Int) (w : World) (hs : s.size ≤ 1048576) : Calls Tryz.prog 12 #[.string s, .int .i64 key] w fun en w' => en = .returned (.tuple #[.agg #[.int .i64 (raV s key 1), .int .i64 (raV s key 2), .int .i64 (raV s key 3)], .bool (raK s key)]) ∧ Below w.heap.size w w' := by
  obtain ⟨m, c, t, q, hj⟩ : ∃ m c t q, just 0 (numsR (openR s key).1).1 4 = [m, c, t, q] := by
    have hl := just_len 0 (numsR (openR s key).1).1 4
    match just 0 (numsR (openR s key).1).1 4, hl with
    | [m, c, t, q], _ => exact ⟨m, c, t, q, rfl⟩
  have HTD := told_auth s key m c t q hj
  have HT : ∀ w, Calls Tryz.prog 37 #[.agg #[.int .i64 c, .int .i64 t, .int .i64 q, .int .i64 key], .string (shA c t q key), .string s] w fun en w' => en = .returned (.tuple #[.agg #[.int .i64 (raV s key 1), .int .i64 (raV s key 2), .int .i64 (raV s key 3)], .bool (raK s key)]) ∧ Below w.heap.size w w' := fun w => (toldA_is c t q key (shA c t q key) s w).mono (by
    rintro en w' ⟨rfl, hb⟩
    refine ⟨?_, hb⟩
    rw [HTD.1]
    cases hk : raK s key with
    | true =>
      obtain ⟨e1, e2, e3⟩ := HTD.2 hk
      rw [e1, e2, e3]
      rfl
    | false =>
      rw [raV_no hk, raV_no hk, raV_no hk]
      rfl)
  clear HTD
  generalize raV s key 1 = y1 at HT ⊢
  generalize raV s key 2 = y2 at HT ⊢
  generalize raV s key 3 = y3 at HT ⊢
  generalize raK s key = kk at HT ⊢
  obtain ⟨W2, hW2⟩ : ∃ W2, (w.alloc (.cells #[.int .i64 0, .int .i64 0, .int .i64 0] 36)).alloc (.cells #[.int .i64 0, .int .i64 0, .int .i64 0, .int .i64 key] 75) = W2 := ⟨_, rfl⟩
  have B2 : Below w.heap.size w W2 := by rw [← hW2]; exact ((Below.refl _ _).alloc (Nat.le_refl _) _).alloc (by simp) _
  have R2 : Blk w.heap.size [.int .i64 0, .int .i64 0, .int .i64 0] W2 := by rw [← hW2]; exact (Blk.new w #[.int .i64 0, .int .i64 0, .int .i64 0] _).alloc (by simp) _
  have T2 : Blk (w.heap.size + 1) [.int .i64 0, .int .i64 0, .int .i64 0, .int .i64 key] W2 := by rw [← hW2]; have := Blk.new (w.alloc (.cells #[.int .i64 0, .int .i64 0, .int .i64 0] 36)) #[.int .i64 0, .int .i64 0, .int .i64 0, .int .i64 key] 75; simpa using this
  have Z2 : w.heap.size + 2 ≤ W2.heap.size := by rw [← hW2]; simp
  have HF := fillA_is (w.heap.size + 1) 0 0 0 key s W2 T2 (by omega) hs m c t q hj
  have ZH : Hid (w.heap.size + 2 ≤ W2.heap.size) := Z2
  clear hj T2 Z2
  go_enter Tryz.func12, Tryz.ntmps12
  go_wp2_with fail
  try rw [hW2]
  refine HF.mono ?_
  clear hW2 HF
  rintro en w3 ⟨rfl, TC, hb3⟩
  have RR := R2.lower hb3 (by omega)
  have ZC : Hid (w.heap.size + 2 ≤ w3.heap.size) := Nat.le_trans ZH.out hb3.size
  have BC := B2.trans (hb3.mono (by omega))
  clear R2 ZH B2 hb3
  go_wp2_with fail
  have TCD := TC.drew
  have BCD := BC.drew
  have RRD := RR.drew
  have ZCD : Hid (w.heap.size + 2 ≤ w3.drew.heap.size) := ZC
  clear TC BC ZC RR
  have TC := TCD
  have BC := BCD
  have RR := RRD
  have ZC := ZCD
  clear TCD BCD RRD ZCD
  refine wp_region_held_drew (S := (fun V => Blk (w.heap.size + 1) [.int .i64 c, .int .i64 t, .int .i64 q, .int .i64 key] V)) (by kernel_rfl) TC (fun hHeld => ?_)
  refine take_one 0 12 (v := ?_) rfl rfl (by kernel_rfl) (by kernel_rfl) (by kernel_rfl) (fun _ _ _ h => h) (Or.inl ⟨by rfl, ?_⟩) hHeld ?_
  rotate_left
  · intro w' hSw; (try dsimp only at hSw); have d0 := hSw.at 0 rfl; have d1 := hSw.at 1 rfl; have d2 := hSw.at 2 rfl; have d3 := hSw.at 3 rfl; go_simp; try with_reducible rfl
  try simp only [Act.put, List.setIfInBounds_toArray, List.set_cons_zero, List.set_cons_succ]
  refine take_one 1 13 (v := ?_) rfl rfl (by kernel_rfl) (by kernel_rfl) (by kernel_rfl) (fun _ _ _ h => h) (Or.inl ⟨by rfl, ?_⟩) hHeld ?_
  rotate_left
  · intro w' hSw; (try dsimp only at hSw); have d0 := hSw.at 0 rfl; have d1 := hSw.at 1 rfl; have d2 := hSw.at 2 rfl; have d3 := hSw.at 3 rfl; go_simp; try with_reducible rfl
  try simp only [Act.put, List.setIfInBounds_toArray, List.set_cons_zero, List.set_cons_succ]
  refine take_one 2 14 (v := ?_) rfl rfl (by kernel_rfl) (by kernel_rfl) (by kernel_rfl) (fun _ _ _ h => h) (Or.inl ⟨by rfl, ?_⟩) hHeld ?_
  rotate_left
  · intro w' hSw; (try dsimp only at hSw); have d0 := hSw.at 0 rfl; have d1 := hSw.at 1 rfl; have d2 := hSw.at 2 rfl; have d3 := hSw.at 3 rfl; go_simp; try with_reducible rfl
  try simp only [Act.put, List.setIfInBounds_toArray, List.set_cons_zero, List.set_cons_succ]
  refine take_one 4 16 (v := ?_) rfl rfl (by kernel_rfl) (by kernel_rfl) (by kernel_rfl) (fun _ _ _ h => h) (Or.inl ⟨by rfl, ?_⟩) hHeld ?_
  rotate_left
  · intro w' hSw; (try dsimp only at hSw); have d0 := hSw.at 0 rfl; have d1 := hSw.at 1 rfl; have d2 := hSw.at 2 rfl; have d3 := hSw.at 3 rfl; go_simp; try with_reducible rfl
  try simp only [Act.put, List.setIfInBounds_toArray, List.set_cons_zero, List.set_cons_succ]
  refine wpAnyH_ready (rs := [3]) (by kernel_rfl) (by simp) ?_
  refine AllReadyH.cons (i := 3) rfl (fun K hK => ?_) AllReadyH.nil
  go_simp
  refine (showA_is c t q key _).mono ?_
  rintro en v11 ⟨rfl, hv11⟩
  have TN := TC.later hv11 (by have := ZC.out; omega)
  have ZN : Hid (w.heap.size + 2 ≤ v11.heap.size) := Nat.le_trans ZC.out hv11.size
  have BN := BC.trans (hv11.mono BC.size)
  have RRN := RR.lower hv11 (by have := ZC.out; omega)
  clear TC ZC BC
  have TC := TN
  have ZC := ZN
  have BC := BN
  clear TN ZN BN
  clear RR
  have RR := RRN
  clear RRN
  clear hv11
  go_wp2_with fail
  refine hK.out _ _ TC (fun hHeld2 => ?_)
  clear hK K hHeld
  have hHeld := hHeld2
  clear hHeld2
  try simp only [Act.put, List.setIfInBounds_toArray, List.set_cons_zero, List.set_cons_succ]
  refine wpAnyH_ready (rs := [5]) (by kernel_rfl) (by simp) ?_
  refine AllReadyH.cons (i := 5) rfl (fun K hK => ?_) AllReadyH.nil
  go_simp
  refine (HT _).mono ?_
  rintro en v12 ⟨rfl, hv12⟩
  have TN := TC.later hv12 (by have := ZC.out; omega)
  have ZN : Hid (w.heap.size + 2 ≤ v12.heap.size) := Nat.le_trans ZC.out hv12.size
  have BN := BC.trans (hv12.mono BC.size)
  have RRN := RR.lower hv12 (by have := ZC.out; omega)
  clear TC ZC BC
  have TC := TN
  have ZC := ZN
  have BC := BN
  clear TN ZN BN
  clear RR
  have RR := RRN
  clear RRN
  clear hv12
  go_wp2_with fail
  refine hK.out _ _ TC (fun hHeld2 => ?_)
  clear hK K hHeld
  have hHeld := hHeld2
  clear hHeld2
  try simp only [Act.put, List.setIfInBounds_toArray, List.set_cons_zero, List.set_cons_succ]
  refine take_one 6 18 (v := ?_) rfl rfl (by kernel_rfl) (by kernel_rfl) (by kernel_rfl) (fun _ _ _ h => h) (Or.inl ⟨by rfl, ?_⟩) hHeld ?_
  rotate_left
  · intro w' hSw; (try dsimp only at hSw); have d0 := hSw.at 0 rfl; have d1 := hSw.at 1 rfl; have d2 := hSw.at 2 rfl; have d3 := hSw.at 3 rfl; go_simp; try with_reducible rfl
  try simp only [Act.put, List.setIfInBounds_toArray, List.set_cons_zero, List.set_cons_succ]
  refine take_one 7 19 (v := ?_) rfl rfl (by kernel_rfl) (by kernel_rfl) (by kernel_rfl) (fun _ _ _ h => h) (Or.inl ⟨by rfl, ?_⟩) hHeld ?_
  rotate_left
  · intro w' hSw; (try dsimp only at hSw); have d0 := hSw.at 0 rfl; have d1 := hSw.at 1 rfl; have d2 := hSw.at 2 rfl; have d3 := hSw.at 3 rfl; go_simp; try with_reducible rfl
  try simp only [Act.put, List.setIfInBounds_toArray, List.set_cons_zero, List.set_cons_succ]
  have k0 := RR.at 0 rfl
  have f0 := RR.fz 0 rfl
  have k1 := RR.at 1 rfl
  have f1 := RR.fz 1 rfl
  have k2 := RR.at 2 rfl
  have f2 := RR.fz 2 rfl
  have F := show Hid _ from RR.fill3 BC (Nat.le_refl _) (.int .i64 y1) (.int .i64 y2) (.int .i64 y3)
  refine wpAnyH_ready (rs := [8]) (by kernel_rfl) (by simp) ?_
  refine AllReadyH.cons (i := 8) rfl (fun K hK => ?_) AllReadyH.nil
  go_simp
  refine hK.out _ _ (((TC.far (by omega) 0 _).far (by omega) 1 _).far (by omega) 2 _) (fun hHeld2 => ?_)
  clear hK K hHeld
  have hHeld := hHeld2
  clear hHeld2
  try simp only [Act.put, List.setIfInBounds_toArray, List.set_cons_zero, List.set_cons_succ]
  refine take_one 9 5 (v := ?_) rfl rfl (by kernel_rfl) (by kernel_rfl) (by kernel_rfl) (fun _ _ _ h => h) (Or.inl ⟨by rfl, ?_⟩) hHeld ?_
  rotate_left
  · intro w' hSw; (try dsimp only at hSw); have d0 := hSw.at 0 rfl; have d1 := hSw.at 1 rfl; have d2 := hSw.at 2 rfl; have d3 := hSw.at 3 rfl; go_simp; try with_reducible rfl
  try simp only [Act.put, List.setIfInBounds_toArray, List.set_cons_zero, List.set_cons_succ]
  refine wpAnyH_done (by kernel_rfl) ?_ _
  clear hHeld k0 k1 k2 f0 f1 f2 TC RR BC
  go_wp2
  have G := F.out
  exact bodyPost_ret (res_ab rfl _ _ w.heap.size _ _ _ (.bool kk) rfl rfl (G.1.at 0 rfl) (G.1.at 1 rfl) (G.1.at 2 rfl)) rfl ⟨rfl, G.2⟩
end Go.Proofs.YtbkemhclncmicaaGreat

set_option linter.unusedVariables false
namespace Go.Proofs.YtbkemhclncmicaaGreat
open Go Go.RowKit Own Var Term

/-- What a text is read as: a grant. -/
def rgP (s : ByteArray) (key : Int) (i : Nat) : ByteArray := (partsR (openR s key).1).1.getD i ⟨#[]⟩
def rgF (s : ByteArray) (key : Int) : List Int :=
  [(keyR (rgP s key 0)).1, (numsR (rgP s key 1)).1.getD 0 0, (numsR (rgP s key 1)).1.getD 1 0, rdA (numsR (rgP s key 2)).1, rdB (numsR (rgP s key 2)).1, rdC (numsR (rgP s key 2)).1]
def rgK (s : ByteArray) (key : Int) : Bool :=
  decide ((partsR (openR s key).1).1.length = 3) && ((keyR (rgP s key 0)).2 && ((numsR (rgP s key 1)).2 && (rdK (numsR (rgP s key 2)).1 && (decide ((numsR (rgP s key 1)).1.length = 2) &&
    gOk ((rgF s key).getD 0 0) ((rgF s key).getD 1 0) ((rgF s key).getD 2 0) ((rgF s key).getD 3 0) ((rgF s key).getD 4 0) ((rgF s key).getD 5 0)))))
def rgV (s : ByteArray) (key : Int) (i : Nat) : Int := if rgK s key then (rgF s key).getD i 0 else 0
theorem rgV_no {s : ByteArray} {key : Int} (h : rgK s key = false) (i : Nat) : rgV s key i = 0 := by unfold rgV; rw [h]; rfl
theorem rgK_not {s : ByteArray} {key : Int} (h : (partsR (openR s key).1).1.length ≠ 3) : rgK s key = false := by
  unfold rgK
  rw [decide_eq_false h]
  rfl
theorem rgP_at {s : ByteArray} {key : Int} {x0 x1 x2 : ByteArray} (h : (partsR (openR s key).1).1 = [x0, x1, x2]) : rgP s key 0 = x0 ∧ rgP s key 1 = x1 ∧ rgP s key 2 = x2 := by
  unfold rgP
  rw [h]
  exact ⟨rfl, rfl, rfl⟩
theorem rgK_three {s : ByteArray} {key : Int} {x0 x1 x2 : ByteArray} (h : (partsR (openR s key).1).1 = [x0, x1, x2]) :
    rgK s key = ((keyR x0).2 && ((numsR x1).2 && (rdK (numsR x2).1 && (decide ((numsR x1).1.length = 2) &&
      gOk (keyR x0).1 ((numsR x1).1.getD 0 0) ((numsR x1).1.getD 1 0) (rdA (numsR x2).1) (rdB (numsR x2).1) (rdC (numsR x2).1))))) := by
  obtain ⟨e0, e1, e2⟩ := rgP_at h
  unfold rgK rgF
  rw [e0, e1, e2, h]
  rfl
theorem rgV_three {s : ByteArray} {key : Int} {x0 x1 x2 : ByteArray} {sv n : Int} (h : (partsR (openR s key).1).1 = [x0, x1, x2]) (hw : (numsR x1).1 = [sv, n]) (hk : rgK s key = true) :
    rgV s key 0 = (keyR x0).1 ∧ rgV s key 1 = sv ∧ rgV s key 2 = n ∧ rgV s key 3 = rdA (numsR x2).1 ∧ rgV s key 4 = rdB (numsR x2).1 ∧ rgV s key 5 = rdC (numsR x2).1 := by
  obtain ⟨e0, e1, e2⟩ := rgP_at h
  unfold rgV rgF
  rw [hk, e0, e1, e2, hw]
  exact ⟨rfl, rfl, rfl, rfl, rfl, rfl⟩
theorem told_grant (s : ByteArray) (key : Int) (x0 x1 x2 : ByteArray) (hx : just (⟨#[]⟩ : ByteArray) (partsR (openR s key).1).1 3 = [x0, x1, x2]) (sv n : Int) (hw : just 0 (numsR x1).1 2 = [sv, n]) :
    toldB (shG (keyR x0).1 sv n (rdA (numsR x2).1) (rdB (numsR x2).1) (rdC (numsR x2).1) key) s = rgK s key ∧
    (rgK s key = true → rgV s key 0 = (keyR x0).1 ∧ rgV s key 1 = sv ∧ rgV s key 2 = n ∧ rgV s key 3 = rdA (numsR x2).1 ∧ rgV s key 4 = rdB (numsR x2).1 ∧ rgV s key 5 = rdC (numsR x2).1) := by
  have HI := grant_iff s key x0 x1 x2 sv n (by unfold just at hx; exact hx.symm) (by unfold just at hw; exact hw.symm)
  generalize hX : shG (keyR x0).1 sv n (rdA (numsR x2).1) (rdB (numsR x2).1) (rdC (numsR x2).1) key = X at HI ⊢
  have HT : toldB X s = true ↔ (X.size ≠ 0 ∧ X = s) := by unfold toldB; simp
  by_cases h3 : (partsR (openR s key).1).1.length = 3
  · have hL : (partsR (openR s key).1).1 = [x0, x1, x2] := by unfold just at hx; rw [if_pos h3] at hx; exact hx
    by_cases h2 : (numsR x1).1.length = 2
    · have hN : (numsR x1).1 = [sv, n] := by unfold just at hw; rw [if_pos h2] at hw; exact hw
      refine ⟨?_, rgV_three hL hN⟩
      rw [Bool.eq_iff_iff, HT, HI, rgK_three hL, hN]
      simp only [Bool.and_eq_true, decide_eq_true_eq]
      exact ⟨fun h => ⟨h.2.1, h.2.2.1, h.2.2.2.1, rfl, h.2.2.2.2.2⟩, fun h => ⟨h3, h.1, h.2.1, h.2.2.1, rfl, h.2.2.2.2⟩⟩
    · have hk : rgK s key = false := by rw [rgK_three hL, decide_eq_false h2]; simp
      refine ⟨?_, fun h => by rw [hk] at h; cases h⟩
      rw [hk, Bool.eq_false_iff]
      intro h
      exact h2 (HI.1 (HT.1 h)).2.2.2.2.1
  · have hk := rgK_not h3
    refine ⟨?_, fun h => by rw [hk] at h; cases h⟩
    rw [hk, Bool.eq_false_iff]
    intro h
    exact h3 (HI.1 (HT.1 h)).1

set_option maxRecDepth 100000 in
set_option maxHeartbeats 6400000 in
theorem implReadG_is (s : ByteArray) (key : Int) (w : World) (hs : s.size ≤ 1048576) : Calls Tryz.prog 16 #[.string s, .int .i64 key] w fun en w' => en = .returned (.tuple #[.agg #[.int .i64 (rgV s key 0), .int .i64 (rgV s key 1), .int .i64 (rgV s key 2), .int .i64 (rgV s key 3), .int .i64 (rgV s key 4), .int .i64 (rgV s key 5)], .bool (rgK s key)]) ∧ Below w.heap.size w w' := by
  obtain ⟨x0, x1, x2, hx⟩ : ∃ x0 x1 x2, just (⟨#[]⟩ : ByteArray) (partsR (openR s key).1).1 3 = [x0, x1, x2] := by
    have hl := just_len (⟨#[]⟩ : ByteArray) (partsR (openR s key).1).1 3
    match just (⟨#[]⟩ : ByteArray) (partsR (openR s key).1).1 3, hl with
    | [x0, x1, x2], _ => exact ⟨x0, x1, x2, rfl⟩
  obtain ⟨sv, n, hw⟩ : ∃ sv n, just 0 (numsR x1).1 2 = [sv, n] := by
    have hl := just_len 0 (numsR x1).1 2
    match just 0 (numsR x1).1 2, hl with
    | [sv, n], _ => exact ⟨sv, n, rfl⟩
  have hsv : i64 sv := just_i64 x1 2 sv (by rw [hw]; simp)
  have HTD := told_grant s key x0 x1 x2 hx sv n hw
  have HS := fun w => showG_is (keyR x0).1 sv n (rdA (numsR x2).1) (rdB (numsR x2).1) (rdC (numsR x2).1) key w hsv
  have HT : ∀ w, Calls Tryz.prog 42 #[.agg #[.int .i64 ((keyR x0).1), .int .i64 sv, .int .i64 n, .int .i64 (rdA (numsR x2).1), .int .i64 (rdB (numsR x2).1), .int .i64 (rdC (numsR x2).1), .int .i64 key], .string (shG (keyR x0).1 sv n (rdA (numsR x2).1) (rdB (numsR x2).1) (rdC (numsR x2).1) key), .string s] w fun en w' => en = .returned (.tuple #[.agg #[.int .i64 (rgV s key 0), .int .i64 (rgV s key 1), .int .i64 (rgV s key 2), .int .i64 (rgV s key 3), .int .i64 (rgV s key 4), .int .i64 (rgV s key 5)], .bool (rgK s key)]) ∧ Below w.heap.size w w' := fun w => (toldG_is (keyR x0).1 sv n (rdA (numsR x2).1) (rdB (numsR x2).1) (rdC (numsR x2).1) key _ s w).mono (by
    rintro en w' ⟨rfl, hb⟩
    refine ⟨?_, hb⟩
    rw [HTD.1]
    cases hk : rgK s key with
    | true =>
      obtain ⟨e0, e1, e2, e3, e4, e5⟩ := HTD.2 hk
      rw [e0, e1, e2, e3, e4, e5]
      rfl
    | false =>
      rw [rgV_no hk, rgV_no hk, rgV_no hk, rgV_no hk, rgV_no hk, rgV_no hk]
      rfl)
  clear HTD
  generalize rgV s key 0 = y0 at HT ⊢
  generalize rgV s key 1 = y1 at HT ⊢
  generalize rgV s key 2 = y2 at HT ⊢
  generalize rgV s key 3 = y3 at HT ⊢
  generalize rgV s key 4 = y4 at HT ⊢
  generalize rgV s key 5 = y5 at HT ⊢
  generalize rgK s key = kk at HT ⊢
  generalize shG (keyR x0).1 sv n (rdA (numsR x2).1) (rdB (numsR x2).1) (rdC (numsR x2).1) key = X at HT HS
  obtain ⟨W2, hW2⟩ : ∃ W2, (w.alloc (.cells #[.int .i64 0, .int .i64 0, .int .i64 0, .int .i64 0, .int .i64 0, .int .i64 0] 43)).alloc (.cells #[.int .i64 0, .int .i64 0, .int .i64 0, .int .i64 0, .int .i64 0, .int .i64 0, .int .i64 key] 82) = W2 := ⟨_, rfl⟩
  have B2 : Below w.heap.size w W2 := by rw [← hW2]; exact ((Below.refl _ _).alloc (Nat.le_refl _) _).alloc (by simp) _
  have R2 : Blk w.heap.size [.int .i64 0, .int .i64 0, .int .i64 0, .int .i64 0, .int .i64 0, .int .i64 0] W2 := by rw [← hW2]; exact (Blk.new w #[.int .i64 0, .int .i64 0, .int .i64 0, .int .i64 0, .int .i64 0, .int .i64 0] _).alloc (by simp) _
  have T2 : Blk (w.heap.size + 1) [.int .i64 0, .int .i64 0, .int .i64 0, .int .i64 0, .int .i64 0, .int .i64 0, .int .i64 key] W2 := by rw [← hW2]; have := Blk.new (w.alloc (.cells #[.int .i64 0, .int .i64 0, .int .i64 0, .int .i64 0, .int .i64 0, .int .i64 0] 43)) #[.int .i64 0, .int .i64 0, .int .i64 0, .int .i64 0, .int .i64 0, .int .i64 0, .int .i64 key] 82; simpa using this
  have Z2 : w.heap.size + 2 ≤ W2.heap.size := by rw [← hW2]; simp
  have HF := fillG_is (w.heap.size + 1) 0 0 0 0 0 0 key s W2 T2 (by omega) hs x0 x1 x2 hx sv n hw
  have ZH : Hid (w.heap.size + 2 ≤ W2.heap.size) := Z2
  clear hx hw T2 Z2
  generalize (keyR x0).1 = kv at HF HS HT
  generalize rdA (numsR x2).1 = ra at HF HS HT
  generalize rdB (numsR x2).1 = rb at HF HS HT
  generalize rdC (numsR x2).1 = rc at HF HS HT
  go_enter Tryz.func16, Tryz.ntmps16
  go_wp2_with fail
  try rw [hW2]
  refine HF.mono ?_
  clear hW2 HF
  rintro en w3 ⟨rfl, TC, hb3⟩
  have RR := R2.lower hb3 (by omega)
  have ZC : Hid (w.heap.size + 2 ≤ w3.heap.size) := Nat.le_trans ZH.out hb3.size
  have BC := B2.trans (hb3.mono (by omega))
  clear R2 ZH B2 hb3
  go_wp2_with fail
  have TCD := TC.drew
  have BCD := BC.drew
  have RRD := RR.drew
  have ZCD : Hid (w.heap.size + 2 ≤ w3.drew.heap.size) := ZC
  clear TC BC ZC RR
  have TC := TCD
  have BC := BCD
  have RR := RRD
  have ZC := ZCD
  clear TCD BCD RRD ZCD
  refine wp_region_held_drew (S := (fun Vw => Blk (w.heap.size + 1) [.int .i64 kv, .int .i64 sv, .int .i64 n, .int .i64 ra, .int .i64 rb, .int .i64 rc, .int .i64 key] Vw)) (by kernel_rfl) TC (fun hHeld => ?_)
  refine take_one 0 12 (v := ?_) rfl rfl (by kernel_rfl) (by kernel_rfl) (by kernel_rfl) (fun _ _ _ h => h) (Or.inl ⟨by rfl, ?_⟩) hHeld ?_
  rotate_left
  · intro w' hSw; (try dsimp only at hSw); have d0 := hSw.at 0 rfl; have d1 := hSw.at 1 rfl; have d2 := hSw.at 2 rfl; have d3 := hSw.at 3 rfl; have d4 := hSw.at 4 rfl; have d5 := hSw.at 5 rfl; have d6 := hSw.at 6 rfl; go_simp; try with_reducible rfl
  try simp only [Act.put, List.setIfInBounds_toArray, List.set_cons_zero, List.set_cons_succ]
  refine take_one 1 13 (v := ?_) rfl rfl (by kernel_rfl) (by kernel_rfl) (by kernel_rfl) (fun _ _ _ h => h) (Or.inl ⟨by rfl, ?_⟩) hHeld ?_
  rotate_left
  · intro w' hSw; (try dsimp only at hSw); have d0 := hSw.at 0 rfl; have d1 := hSw.at 1 rfl; have d2 := hSw.at 2 rfl; have d3 := hSw.at 3 rfl; have d4 := hSw.at 4 rfl; have d5 := hSw.at 5 rfl; have d6 := hSw.at 6 rfl; go_simp; try with_reducible rfl
  try simp only [Act.put, List.setIfInBounds_toArray, List.set_cons_zero, List.set_cons_succ]
  refine take_one 2 14 (v := ?_) rfl rfl (by kernel_rfl) (by kernel_rfl) (by kernel_rfl) (fun _ _ _ h => h) (Or.inl ⟨by rfl, ?_⟩) hHeld ?_
  rotate_left
  · intro w' hSw; (try dsimp only at hSw); have d0 := hSw.at 0 rfl; have d1 := hSw.at 1 rfl; have d2 := hSw.at 2 rfl; have d3 := hSw.at 3 rfl; have d4 := hSw.at 4 rfl; have d5 := hSw.at 5 rfl; have d6 := hSw.at 6 rfl; go_simp; try with_reducible rfl
  try simp only [Act.put, List.setIfInBounds_toArray, List.set_cons_zero, List.set_cons_succ]
  refine take_one 4 16 (v := ?_) rfl rfl (by kernel_rfl) (by kernel_rfl) (by kernel_rfl) (fun _ _ _ h => h) (Or.inl ⟨by rfl, ?_⟩) hHeld ?_
  rotate_left
  · intro w' hSw; (try dsimp only at hSw); have d0 := hSw.at 0 rfl; have d1 := hSw.at 1 rfl; have d2 := hSw.at 2 rfl; have d3 := hSw.at 3 rfl; have d4 := hSw.at 4 rfl; have d5 := hSw.at 5 rfl; have d6 := hSw.at 6 rfl; go_simp; try with_reducible rfl
  try simp only [Act.put, List.setIfInBounds_toArray, List.set_cons_zero, List.set_cons_succ]
  refine wpAnyH_ready (rs := [3]) (by kernel_rfl) (by simp) ?_
  refine AllReadyH.cons (i := 3) rfl (fun K hK => ?_) AllReadyH.nil
  go_simp
  refine (HS _).mono ?_
  rintro en v11 ⟨rfl, hv11⟩
  have TN := TC.later hv11 (by have := ZC.out; omega)
  have ZN : Hid (w.heap.size + 2 ≤ v11.heap.size) := Nat.le_trans ZC.out hv11.size
  have BN := BC.trans (hv11.mono BC.size)
  have RRN := RR.lower hv11 (by have := ZC.out; omega)
  clear TC ZC BC
  have TC := TN
  have ZC := ZN
  have BC := BN
  clear TN ZN BN
  clear RR
  have RR := RRN
  clear RRN
  clear hv11
  go_wp2_with fail
  refine hK.out _ _ TC (fun hHeld2 => ?_)
  clear hK K hHeld
  have hHeld := hHeld2
  clear hHeld2
  try simp only [Act.put, List.setIfInBounds_toArray, List.set_cons_zero, List.set_cons_succ]
  refine wpAnyH_ready (rs := [5]) (by kernel_rfl) (by simp) ?_
  refine AllReadyH.cons (i := 5) rfl (fun K hK => ?_) AllReadyH.nil
  go_simp
  refine (HT _).mono ?_
  rintro en v12 ⟨rfl, hv12⟩
  have TN := TC.later hv12 (by have := ZC.out; omega)
  have ZN : Hid (w.heap.size + 2 ≤ v12.heap.size) := Nat.le_trans ZC.out hv12.size
  have BN := BC.trans (hv12.mono BC.size)
  have RRN := RR.lower hv12 (by have := ZC.out; omega)
  clear TC ZC BC
  have TC := TN
  have ZC := ZN
  have BC := BN
  clear TN ZN BN
  clear RR
  have RR := RRN
  clear RRN
  clear hv12
  go_wp2_with fail
  refine hK.out _ _ TC (fun hHeld2 => ?_)
  clear hK K hHeld
  have hHeld := hHeld2
  clear hHeld2
  try simp only [Act.put, List.setIfInBounds_toArray, List.set_cons_zero, List.set_cons_succ]
  refine take_one 6 18 (v := ?_) rfl rfl (by kernel_rfl) (by kernel_rfl) (by kernel_rfl) (fun _ _ _ h => h) (Or.inl ⟨by rfl, ?_⟩) hHeld ?_
  rotate_left
  · intro w' hSw; (try dsimp only at hSw); have d0 := hSw.at 0 rfl; have d1 := hSw.at 1 rfl; have d2 := hSw.at 2 rfl; have d3 := hSw.at 3 rfl; have d4 := hSw.at 4 rfl; have d5 := hSw.at 5 rfl; have d6 := hSw.at 6 rfl; go_simp; try with_reducible rfl
  try simp only [Act.put, List.setIfInBounds_toArray, List.set_cons_zero, List.set_cons_succ]
  refine take_one 7 19 (v := ?_) rfl rfl (by kernel_rfl) (by kernel_rfl) (by kernel_rfl) (fun _ _ _ h => h) (Or.inl ⟨by rfl, ?_⟩) hHeld ?_
  rotate_left
  · intro w' hSw; (try dsimp only at hSw); have d0 := hSw.at 0 rfl; have d1 := hSw.at 1 rfl; have d2 := hSw.at 2 rfl; have d3 := hSw.at 3 rfl; have d4 := hSw.at 4 rfl; have d5 := hSw.at 5 rfl; have d6 := hSw.at 6 rfl; go_simp; try with_reducible rfl
  try simp only [Act.put, List.setIfInBounds_toArray, List.set_cons_zero, List.set_cons_succ]
  have k0 := RR.at 0 rfl
  have f0 := RR.fz 0 rfl
  have k1 := RR.at 1 rfl
  have f1 := RR.fz 1 rfl
  have k2 := RR.at 2 rfl
  have f2 := RR.fz 2 rfl
  have k3 := RR.at 3 rfl
  have f3 := RR.fz 3 rfl
  have k4 := RR.at 4 rfl
  have f4 := RR.fz 4 rfl
  have k5 := RR.at 5 rfl
  have f5 := RR.fz 5 rfl
  have F := show Hid _ from RR.fill6 BC (Nat.le_refl _) (.int .i64 y0) (.int .i64 y1) (.int .i64 y2) (.int .i64 y3) (.int .i64 y4) (.int .i64 y5)
  refine wpAnyH_ready (rs := [8]) (by kernel_rfl) (by simp) ?_
  refine AllReadyH.cons (i := 8) rfl (fun K hK => ?_) AllReadyH.nil
  go_simp
  refine hK.out _ _ ((((((TC.far (by omega) 0 _).far (by omega) 1 _).far (by omega) 2 _).far (by omega) 3 _).far (by omega) 4 _).far (by omega) 5 _) (fun hHeld2 => ?_)
  clear hK K hHeld
  have hHeld := hHeld2
  clear hHeld2
  try simp only [Act.put, List.setIfInBounds_toArray, List.set_cons_zero, List.set_cons_succ]
  refine take_one 9 5 (v := ?_) rfl rfl (by kernel_rfl) (by kernel_rfl) (by kernel_rfl) (fun _ _ _ h => h) (Or.inl ⟨by rfl, ?_⟩) hHeld ?_
  rotate_left
  · intro w' hSw; (try dsimp only at hSw); have d0 := hSw.at 0 rfl; have d1 := hSw.at 1 rfl; have d2 := hSw.at 2 rfl; have d3 := hSw.at 3 rfl; have d4 := hSw.at 4 rfl; have d5 := hSw.at 5 rfl; have d6 := hSw.at 6 rfl; go_simp; try with_reducible rfl
  try simp only [Act.put, List.setIfInBounds_toArray, List.set_cons_zero, List.set_cons_succ]
  refine wpAnyH_done (by kernel_rfl) ?_ _
  clear hHeld k0 f0 k1 f1 k2 f2 k3 f3 k4 f4 k5 f5 TC RR BC
  go_wp2
  have G := F.out
  exact bodyPost_ret (res_gb rfl _ _ w.heap.size _ _ _ _ _ _ (.bool kk) rfl rfl (G.1.at 0 rfl) (G.1.at 1 rfl) (G.1.at 2 rfl) (G.1.at 3 rfl) (G.1.at 4 rfl) (G.1.at 5 rfl)) rfl ⟨rfl, G.2⟩
end Go.Proofs.YtbkemhclncmicaaGreat

set_option linter.unusedVariables false
namespace Go.Proofs.YtbkemhclncmicaaGreat
open Go Go.RowKit Go.Joins Own Var Term

/-- What a text is read as: a ticket. -/
def rtX (s : ByteArray) (key : Int) (i : Nat) : ByteArray := (partsR (openR s key).1).1.getD i ⟨#[]⟩
def rtF (s : ByteArray) (key : Int) : List Int :=
  [(numsR (rtX s key 0)).1.getD 0 0, (numsR (rtX s key 0)).1.getD 1 0, (keyR (rtX s key 1)).1, rdA (numsR (rtX s key 2)).1, rdB (numsR (rtX s key 2)).1, rdC (numsR (rtX s key 2)).1]
def rtK (s : ByteArray) (key : Int) : Bool :=
  decide ((partsR (openR s key).1).1.length = 5) && ((numsR (rtX s key 0)).2 && ((keyR (rtX s key 1)).2 && (rdK (numsR (rtX s key 2)).1 && ((numsR (rtX s key 3)).2 && ((numsR (rtX s key 4)).2 && (decide ((numsR (rtX s key 0)).1.length = 2) &&
    tOk ((rtF s key).getD 0 0) ((rtF s key).getD 1 0) ((rtF s key).getD 2 0) ((rtF s key).getD 3 0) ((rtF s key).getD 4 0) ((rtF s key).getD 5 0) (numsR (rtX s key 3)).1 (numsR (rtX s key 4)).1))))))
def rtN (s : ByteArray) (key : Int) (i : Nat) : Int := if rtK s key then (rtF s key).getD i 0 else 0
def rtP (s : ByteArray) (key : Int) : List Int := if rtK s key then (numsR (rtX s key 3)).1 else []
def rtV (s : ByteArray) (key : Int) : List Int := if rtK s key then (numsR (rtX s key 4)).1 else []
theorem rtN_no {s : ByteArray} {key : Int} (h : rtK s key = false) (i : Nat) : rtN s key i = 0 := by unfold rtN; rw [h]; rfl
theorem rtP_no {s : ByteArray} {key : Int} (h : rtK s key = false) : rtP s key = [] := by unfold rtP; rw [h]; rfl
theorem rtV_no {s : ByteArray} {key : Int} (h : rtK s key = false) : rtV s key = [] := by unfold rtV; rw [h]; rfl
theorem rtK_not {s : ByteArray} {key : Int} (h : (partsR (openR s key).1).1.length ≠ 5) : rtK s key = false := by
  unfold rtK
  rw [decide_eq_false h]
  rfl
theorem rtX_at {s : ByteArray} {key : Int} {x0 x1 x2 x3 x4 : ByteArray} (h : (partsR (openR s key).1).1 = [x0, x1, x2, x3, x4]) : rtX s key 0 = x0 ∧ rtX s key 1 = x1 ∧ rtX s key 2 = x2 ∧ rtX s key 3 = x3 ∧ rtX s key 4 = x4 := by
  unfold rtX
  rw [h]
  exact ⟨rfl, rfl, rfl, rfl, rfl⟩
theorem rtK_five {s : ByteArray} {key : Int} {x0 x1 x2 x3 x4 : ByteArray} (h : (partsR (openR s key).1).1 = [x0, x1, x2, x3, x4]) :
    rtK s key = ((numsR x0).2 && ((keyR x1).2 && (rdK (numsR x2).1 && ((numsR x3).2 && ((numsR x4).2 && (decide ((numsR x0).1.length = 2) &&
      tOk ((numsR x0).1.getD 0 0) ((numsR x0).1.getD 1 0) (keyR x1).1 (rdA (numsR x2).1) (rdB (numsR x2).1) (rdC (numsR x2).1) (numsR x3).1 (numsR x4).1)))))) := by
  obtain ⟨e0, e1, e2, e3, e4⟩ := rtX_at h
  unfold rtK rtF
  rw [e0, e1, e2, e3, e4, h]
  rfl
theorem rt_five {s : ByteArray} {key : Int} {x0 x1 x2 x3 x4 : ByteArray} {c sv : Int} (h : (partsR (openR s key).1).1 = [x0, x1, x2, x3, x4]) (hw : (numsR x0).1 = [c, sv]) (hk : rtK s key = true) :
    rtN s key 0 = c ∧ rtN s key 1 = sv ∧ rtN s key 2 = (keyR x1).1 ∧ rtN s key 3 = rdA (numsR x2).1 ∧ rtN s key 4 = rdB (numsR x2).1 ∧ rtN s key 5 = rdC (numsR x2).1 ∧ rtP s key = (numsR x3).1 ∧ rtV s key = (numsR x4).1 := by
  obtain ⟨e0, e1, e2, e3, e4⟩ := rtX_at h
  unfold rtN rtF rtP rtV
  rw [hk, e0, e1, e2, e3, e4, hw]
  exact ⟨rfl, rfl, rfl, rfl, rfl, rfl, rfl, rfl⟩
theorem told_ticket (s : ByteArray) (key : Int) (x0 x1 x2 x3 x4 : ByteArray) (hx : just (⟨#[]⟩ : ByteArray) (partsR (openR s key).1).1 5 = [x0, x1, x2, x3, x4]) (c sv : Int) (hw : just 0 (numsR x0).1 2 = [c, sv]) :
    toldB (shT c sv (keyR x1).1 (rdA (numsR x2).1) (rdB (numsR x2).1) (rdC (numsR x2).1) (numsR x3).1 (numsR x4).1 key) s = rtK s key ∧
    (rtK s key = true → rtN s key 0 = c ∧ rtN s key 1 = sv ∧ rtN s key 2 = (keyR x1).1 ∧ rtN s key 3 = rdA (numsR x2).1 ∧ rtN s key 4 = rdB (numsR x2).1 ∧ rtN s key 5 = rdC (numsR x2).1 ∧ rtP s key = (numsR x3).1 ∧ rtV s key = (numsR x4).1) := by
  have HI := tick_iff s key x0 x1 x2 x3 x4 c sv (by unfold just at hx; exact hx.symm) (by unfold just at hw; exact hw.symm)
  generalize hX : shT c sv (keyR x1).1 (rdA (numsR x2).1) (rdB (numsR x2).1) (rdC (numsR x2).1) (numsR x3).1 (numsR x4).1 key = X at HI ⊢
  have HT : toldB X s = true ↔ (X.size ≠ 0 ∧ X = s) := by unfold toldB; simp
  by_cases h5 : (partsR (openR s key).1).1.length = 5
  · have hL : (partsR (openR s key).1).1 = [x0, x1, x2, x3, x4] := by unfold just at hx; rw [if_pos h5] at hx; exact hx
    by_cases h2 : (numsR x0).1.length = 2
    · have hN : (numsR x0).1 = [c, sv] := by unfold just at hw; rw [if_pos h2] at hw; exact hw
      refine ⟨?_, rt_five hL hN⟩
      rw [Bool.eq_iff_iff, HT, HI, rtK_five hL, hN]
      simp only [Bool.and_eq_true, decide_eq_true_eq]
      exact ⟨fun h => ⟨h.2.1, h.2.2.1, h.2.2.2.1, h.2.2.2.2.1, h.2.2.2.2.2.1, rfl, h.2.2.2.2.2.2.2⟩, fun h => ⟨h5, h.1, h.2.1, h.2.2.1, h.2.2.2.1, h.2.2.2.2.1, rfl, h.2.2.2.2.2.2⟩⟩
    · have hk : rtK s key = false := by rw [rtK_five hL, decide_eq_false h2]; simp
      refine ⟨?_, fun h => by rw [hk] at h; cases h⟩
      rw [hk, Bool.eq_false_iff]
      intro h
      exact h2 (HI.1 (HT.1 h)).2.2.2.2.2.2.1
  · have hk := rtK_not h5
    refine ⟨?_, fun h => by rw [hk] at h; cases h⟩
    rw [hk, Bool.eq_false_iff]
    intro h
    exact h5 (HI.1 (HT.1 h)).1

theorem own_fill8 {W : World} {base n q : Nat} {e : TypeId} {v : Value} {xs : List Value} (h : W.ownsRow base e 1 v n xs) (hn : ∀ k, v.ownBlock = some k → k ≠ q) (v0 v1 v2 v3 v4 v5 v6 v7 : Value) : (((((((((W).setCell ⟨q, 0, none⟩ (v0)).setCell ⟨q, 1, none⟩ (v1)).setCell ⟨q, 2, none⟩ (v2)).setCell ⟨q, 3, none⟩ (v3)).setCell ⟨q, 4, none⟩ (v4)).setCell ⟨q, 5, none⟩ (v5)).setCell ⟨q, 6, none⟩ (v6)).setCell ⟨q, 7, none⟩ (v7)).ownsRow base e 1 v n xs := (own_set (own_set (own_set (own_set (own_set (own_set (own_set (own_set h q 0 v0 hn) q 1 v1 hn) q 2 v2 hn) q 3 v3 hn) q 4 v4 hn) q 5 v5 hn) q 6 v6 hn) q 7 v7 hn)

set_option maxRecDepth 100000 in
set_option maxHeartbeats 12800000 in
theorem implReadT_is (s : ByteArray) (key : Int) (w : World) (hs : s.size ≤ 1048576) : Calls Tryz.prog 7 #[.string s, .int .i64 key] w fun en w' => ∃ (ua : Option Addr) (uc : Nat) (va : Option Addr) (vc : Nat), en = .returned (.tuple #[.agg #[.int .i64 (rtN s key 0), .int .i64 (rtN s key 1), .int .i64 (rtN s key 2), .int .i64 (rtN s key 3), .int .i64 (rtN s key 4), .int .i64 (rtN s key 5), .slice ua (rtP s key).length uc, .slice va (rtV s key).length vc], .bool (rtK s key)]) ∧
      w'.ownsRow w.heap.size 3 1 (.slice ua (rtP s key).length uc) (rtP s key).length (intV (rtP s key)) ∧ w'.ownsRow w.heap.size 3 1 (.slice va (rtV s key).length vc) (rtV s key).length (intV (rtV s key)) ∧
      Apart (.slice ua (rtP s key).length uc) (.slice va (rtV s key).length vc) ∧ Below w.heap.size w w' := by
  obtain ⟨x0, x1, x2, x3, x4, hx⟩ : ∃ x0 x1 x2 x3 x4, just (⟨#[]⟩ : ByteArray) (partsR (openR s key).1).1 5 = [x0, x1, x2, x3, x4] := by
    have hl := just_len (⟨#[]⟩ : ByteArray) (partsR (openR s key).1).1 5
    match just (⟨#[]⟩ : ByteArray) (partsR (openR s key).1).1 5, hl with
    | [x0, x1, x2, x3, x4], _ => exact ⟨x0, x1, x2, x3, x4, rfl⟩
  obtain ⟨c, sv, hw⟩ : ∃ c sv, just 0 (numsR x0).1 2 = [c, sv] := by
    have hl := just_len 0 (numsR x0).1 2
    match just 0 (numsR x0).1 2, hl with
    | [c, sv], _ => exact ⟨c, sv, rfl⟩
  have hsv : i64 sv := just_i64 x0 2 sv (by rw [hw]; simp)
  have HTD := told_ticket s key x0 x1 x2 x3 x4 hx c sv hw
  have lP : (numsR x3).1.length ≤ 1048576 := Nat.le_trans (numsR_len x3) (by omega)
  have lV : (numsR x4).1.length ≤ 1048576 := Nat.le_trans (numsR_len x4) (by omega)
  obtain ⟨W2, hW2⟩ : ∃ W2, (w.alloc (.cells #[.int .i64 0, .int .i64 0, .int .i64 0, .int .i64 0, .int .i64 0, .int .i64 0, .slice none 0 0, .slice none 0 0] 28)).alloc (.cells #[.int .i64 0, .int .i64 0, .int .i64 0, .int .i64 0, .int .i64 0, .int .i64 0, .slice none 0 0, .slice none 0 0, .int .i64 key] 61) = W2 := ⟨_, rfl⟩
  have B2 : Below w.heap.size w W2 := by rw [← hW2]; exact ((Below.refl _ _).alloc (Nat.le_refl _) _).alloc (by simp) _
  have R2 : Blk w.heap.size [.int .i64 0, .int .i64 0, .int .i64 0, .int .i64 0, .int .i64 0, .int .i64 0, .slice none 0 0, .slice none 0 0] W2 := by rw [← hW2]; exact (Blk.new w #[.int .i64 0, .int .i64 0, .int .i64 0, .int .i64 0, .int .i64 0, .int .i64 0, .slice none 0 0, .slice none 0 0] _).alloc (by simp) _
  have T2 : Blk (w.heap.size + 1) [.int .i64 0, .int .i64 0, .int .i64 0, .int .i64 0, .int .i64 0, .int .i64 0, .slice none 0 0, .slice none 0 0, .int .i64 key] W2 := by rw [← hW2]; have := Blk.new (w.alloc (.cells #[.int .i64 0, .int .i64 0, .int .i64 0, .int .i64 0, .int .i64 0, .int .i64 0, .slice none 0 0, .slice none 0 0] 28)) #[.int .i64 0, .int .i64 0, .int .i64 0, .int .i64 0, .int .i64 0, .int .i64 0, .slice none 0 0, .slice none 0 0, .int .i64 key] 61; simpa using this
  have Z2 : w.heap.size + 2 ≤ W2.heap.size := by rw [← hW2]; simp
  have HF := fillT_is (w.heap.size + 1) 0 0 0 0 0 0 key s W2 T2 (by omega) hs x0 x1 x2 x3 x4 hx c sv hw
  clear hx hw T2
  generalize (keyR x1).1 = kv at HF HTD
  generalize rdA (numsR x2).1 = ra at HF HTD
  generalize rdB (numsR x2).1 = rb at HF HTD
  generalize rdC (numsR x2).1 = rc at HF HTD
  generalize (numsR x3).1 = PL at HF HTD lP
  generalize (numsR x4).1 = VL at HF HTD lV
  have NR : ∀ (w : World) (ua : Option Addr) (uc : Nat) (va : Option Addr) (vc : Nat), w.ownsRow W2.heap.size 3 1 (.slice ua PL.length uc) PL.length (intV PL) → w.ownsRow W2.heap.size 3 1 (.slice va VL.length vc) VL.length (intV VL) → Apart (.slice ua PL.length uc) (.slice va VL.length vc) →
      ∃ (qa : Option Addr) (qc : Nat) (ta : Option Addr) (tc : Nat), (∀ w, Calls Tryz.prog 27 #[.agg #[.int .i64 c, .int .i64 sv, .int .i64 kv, .int .i64 ra, .int .i64 rb, .int .i64 rc, .slice ua PL.length uc, .slice va VL.length vc, .int .i64 key], .string (shT c sv kv ra rb rc PL VL key), .string s] w fun en w' => en = .returned (.tuple #[.agg #[.int .i64 (rtN s key 0), .int .i64 (rtN s key 1), .int .i64 (rtN s key 2), .int .i64 (rtN s key 3), .int .i64 (rtN s key 4), .int .i64 (rtN s key 5), .slice qa (rtP s key).length qc, .slice ta (rtV s key).length tc], .bool (rtK s key)]) ∧ Below w.heap.size w w') ∧
        w.ownsRow W2.heap.size 3 1 (.slice qa (rtP s key).length qc) (rtP s key).length (intV (rtP s key)) ∧ w.ownsRow W2.heap.size 3 1 (.slice ta (rtV s key).length tc) (rtV s key).length (intV (rtV s key)) ∧ Apart (.slice qa (rtP s key).length qc) (.slice ta (rtV s key).length tc) := by
    intro w ua uc va vc ou ov ap
    have TT := fun w => toldT_is c sv kv ra rb rc ua PL.length uc va VL.length vc key (shT c sv kv ra rb rc PL VL key) s w
    rw [HTD.1] at TT
    cases hk : rtK s key with
    | true =>
      obtain ⟨e0, e1, e2, e3, e4, e5, eP, eV⟩ := HTD.2 hk
      rw [hk] at TT
      rw [e0, e1, e2, e3, e4, e5, eP, eV]
      exact ⟨ua, uc, va, vc, TT, ou, ov, ap⟩
    | false =>
      rw [hk] at TT
      rw [rtN_no hk, rtN_no hk, rtN_no hk, rtN_no hk, rtN_no hk, rtN_no hk, rtP_no hk, rtV_no hk]
      exact ⟨none, 0, none, 0, TT, World.ownsRow_nil _ _ _ _, World.ownsRow_nil _ _ _ _, apart_nil _⟩
  clear HTD
  generalize rtN s key 0 = y0 at NR ⊢
  generalize rtN s key 1 = y1 at NR ⊢
  generalize rtN s key 2 = y2 at NR ⊢
  generalize rtN s key 3 = y3 at NR ⊢
  generalize rtN s key 4 = y4 at NR ⊢
  generalize rtN s key 5 = y5 at NR ⊢
  generalize rtK s key = kk at NR ⊢
  generalize rtP s key = QP at NR ⊢
  generalize rtV s key = QV at NR ⊢
  have ZH : Hid (w.heap.size + 2 ≤ W2.heap.size) := Z2
  clear Z2
  go_enter Tryz.func7, Tryz.ntmps7
  go_wp2_with fail
  try rw [hW2]
  refine HF.mono ?_
  clear hW2 HF
  rintro en w3 ⟨ua, uc, va, vc, rfl, TC, ou, ov, ap, hb3⟩
  obtain ⟨qa, qc, ta, tc, HT, OU, OV, AP⟩ := NR w3 ua uc va vc ou ov ap
  have OX : RowAt (Value.int .i64) w3.drew ua PL := own_rowAt (f := Value.int .i64) ou
  have OY : RowAt (Value.int .i64) w3.drew va VL := own_rowAt (f := Value.int .i64) ov
  have HS := fun w hx hy => showT_is c sv kv ra rb rc ua PL uc va VL vc key w hsv hx hy lP lV
  generalize shT c sv kv ra rb rc PL VL key = X at HT HS
  have RR := R2.lower hb3 (by omega)
  have ZC : Hid (w.heap.size + 2 ≤ w3.heap.size) := Nat.le_trans ZH.out hb3.size
  have BC := B2.trans (hb3.mono (by omega))
  have BZ : w.heap.size + 2 ≤ W2.heap.size := ZH.out
  clear R2 ZH B2 hb3 NR ou ov ap
  go_wp2_with fail
  have TCD := TC.drew
  have BCD := BC.drew
  have RRD := RR.drew
  have ZCD : Hid (w.heap.size + 2 ≤ w3.drew.heap.size) := ZC
  have OUD : w3.drew.ownsRow _ _ _ _ _ _ := OU
  have OVD : w3.drew.ownsRow _ _ _ _ _ _ := OV
  clear TC BC ZC RR OU OV
  have TC := TCD
  have BC := BCD
  have RR := RRD
  have ZC := ZCD
  have OU := OUD
  have OV := OVD
  clear TCD BCD RRD ZCD OUD OVD
  refine wp_region_held_drew (S := (fun Vw => Blk (w.heap.size + 1) [.int .i64 c, .int .i64 sv, .int .i64 kv, .int .i64 ra, .int .i64 rb, .int .i64 rc, .slice ua PL.length uc, .slice va VL.length vc, .int .i64 key] Vw)) (by kernel_rfl) TC (fun hHeld => ?_)
  refine take_one 0 12 (v := ?_) rfl rfl (by kernel_rfl) (by kernel_rfl) (by kernel_rfl) (fun _ _ _ h => h) (Or.inl ⟨by rfl, ?_⟩) hHeld ?_
  rotate_left
  · intro w' hSw; (try dsimp only at hSw); have d0 := hSw.at 0 rfl; have d1 := hSw.at 1 rfl; have d2 := hSw.at 2 rfl; have d3 := hSw.at 3 rfl; have d4 := hSw.at 4 rfl; have d5 := hSw.at 5 rfl; have d6 := hSw.at 6 rfl; have d7 := hSw.at 7 rfl; have d8 := hSw.at 8 rfl; go_simp; try with_reducible rfl
  try simp only [Act.put, List.setIfInBounds_toArray, List.set_cons_zero, List.set_cons_succ]
  refine take_one 1 13 (v := ?_) rfl rfl (by kernel_rfl) (by kernel_rfl) (by kernel_rfl) (fun _ _ _ h => h) (Or.inl ⟨by rfl, ?_⟩) hHeld ?_
  rotate_left
  · intro w' hSw; (try dsimp only at hSw); have d0 := hSw.at 0 rfl; have d1 := hSw.at 1 rfl; have d2 := hSw.at 2 rfl; have d3 := hSw.at 3 rfl; have d4 := hSw.at 4 rfl; have d5 := hSw.at 5 rfl; have d6 := hSw.at 6 rfl; have d7 := hSw.at 7 rfl; have d8 := hSw.at 8 rfl; go_simp; try with_reducible rfl
  try simp only [Act.put, List.setIfInBounds_toArray, List.set_cons_zero, List.set_cons_succ]
  refine take_one 2 14 (v := ?_) rfl rfl (by kernel_rfl) (by kernel_rfl) (by kernel_rfl) (fun _ _ _ h => h) (Or.inl ⟨by rfl, ?_⟩) hHeld ?_
  rotate_left
  · intro w' hSw; (try dsimp only at hSw); have d0 := hSw.at 0 rfl; have d1 := hSw.at 1 rfl; have d2 := hSw.at 2 rfl; have d3 := hSw.at 3 rfl; have d4 := hSw.at 4 rfl; have d5 := hSw.at 5 rfl; have d6 := hSw.at 6 rfl; have d7 := hSw.at 7 rfl; have d8 := hSw.at 8 rfl; go_simp; try with_reducible rfl
  try simp only [Act.put, List.setIfInBounds_toArray, List.set_cons_zero, List.set_cons_succ]
  refine take_one 4 16 (v := ?_) rfl rfl (by kernel_rfl) (by kernel_rfl) (by kernel_rfl) (fun _ _ _ h => h) (Or.inl ⟨by rfl, ?_⟩) hHeld ?_
  rotate_left
  · intro w' hSw; (try dsimp only at hSw); have d0 := hSw.at 0 rfl; have d1 := hSw.at 1 rfl; have d2 := hSw.at 2 rfl; have d3 := hSw.at 3 rfl; have d4 := hSw.at 4 rfl; have d5 := hSw.at 5 rfl; have d6 := hSw.at 6 rfl; have d7 := hSw.at 7 rfl; have d8 := hSw.at 8 rfl; go_simp; try with_reducible rfl
  try simp only [Act.put, List.setIfInBounds_toArray, List.set_cons_zero, List.set_cons_succ]
  have HS1 := HS _ OX OY
  refine wpAnyH_ready (rs := [3]) (by kernel_rfl) (by simp) ?_
  refine AllReadyH.cons (i := 3) rfl (fun K hK => ?_) AllReadyH.nil
  go_simp
  refine (HS1).mono ?_
  rintro en v11 ⟨rfl, hv11⟩
  have TN := TC.later hv11 (by have := ZC.out; omega)
  have ZN : Hid (w.heap.size + 2 ≤ v11.heap.size) := Nat.le_trans ZC.out hv11.size
  have BN := BC.trans (hv11.mono BC.size)
  have RRN := RR.lower hv11 (by have := ZC.out; omega)
  have OUN := own_later OU hv11
  have OVN := own_later OV hv11
  clear TC ZC BC
  have TC := TN
  have ZC := ZN
  have BC := BN
  clear TN ZN BN
  clear RR
  have RR := RRN
  clear RRN
  clear OU
  have OU := OUN
  clear OUN
  clear OV
  have OV := OVN
  clear OVN
  clear hv11
  go_wp2_with fail
  refine hK.out _ _ TC (fun hHeld2 => ?_)
  clear hK K hHeld
  have hHeld := hHeld2
  clear hHeld2
  try simp only [Act.put, List.setIfInBounds_toArray, List.set_cons_zero, List.set_cons_succ]
  clear HS1 HS
  refine wpAnyH_ready (rs := [5]) (by kernel_rfl) (by simp) ?_
  refine AllReadyH.cons (i := 5) rfl (fun K hK => ?_) AllReadyH.nil
  go_simp
  refine (HT _).mono ?_
  rintro en v12 ⟨rfl, hv12⟩
  have TN := TC.later hv12 (by have := ZC.out; omega)
  have ZN : Hid (w.heap.size + 2 ≤ v12.heap.size) := Nat.le_trans ZC.out hv12.size
  have BN := BC.trans (hv12.mono BC.size)
  have RRN := RR.lower hv12 (by have := ZC.out; omega)
  have OUN := own_later OU hv12
  have OVN := own_later OV hv12
  clear TC ZC BC
  have TC := TN
  have ZC := ZN
  have BC := BN
  clear TN ZN BN
  clear RR
  have RR := RRN
  clear RRN
  clear OU
  have OU := OUN
  clear OUN
  clear OV
  have OV := OVN
  clear OVN
  clear hv12
  go_wp2_with fail
  refine hK.out _ _ TC (fun hHeld2 => ?_)
  clear hK K hHeld
  have hHeld := hHeld2
  clear hHeld2
  try simp only [Act.put, List.setIfInBounds_toArray, List.set_cons_zero, List.set_cons_succ]
  refine take_one 6 18 (v := ?_) rfl rfl (by kernel_rfl) (by kernel_rfl) (by kernel_rfl) (fun _ _ _ h => h) (Or.inl ⟨by rfl, ?_⟩) hHeld ?_
  rotate_left
  · intro w' hSw; (try dsimp only at hSw); have d0 := hSw.at 0 rfl; have d1 := hSw.at 1 rfl; have d2 := hSw.at 2 rfl; have d3 := hSw.at 3 rfl; have d4 := hSw.at 4 rfl; have d5 := hSw.at 5 rfl; have d6 := hSw.at 6 rfl; have d7 := hSw.at 7 rfl; have d8 := hSw.at 8 rfl; go_simp; try with_reducible rfl
  try simp only [Act.put, List.setIfInBounds_toArray, List.set_cons_zero, List.set_cons_succ]
  refine take_one 7 19 (v := ?_) rfl rfl (by kernel_rfl) (by kernel_rfl) (by kernel_rfl) (fun _ _ _ h => h) (Or.inl ⟨by rfl, ?_⟩) hHeld ?_
  rotate_left
  · intro w' hSw; (try dsimp only at hSw); have d0 := hSw.at 0 rfl; have d1 := hSw.at 1 rfl; have d2 := hSw.at 2 rfl; have d3 := hSw.at 3 rfl; have d4 := hSw.at 4 rfl; have d5 := hSw.at 5 rfl; have d6 := hSw.at 6 rfl; have d7 := hSw.at 7 rfl; have d8 := hSw.at 8 rfl; go_simp; try with_reducible rfl
  try simp only [Act.put, List.setIfInBounds_toArray, List.set_cons_zero, List.set_cons_succ]
  have k0 := RR.at 0 rfl
  have f0 := RR.fz 0 rfl
  have k1 := RR.at 1 rfl
  have f1 := RR.fz 1 rfl
  have k2 := RR.at 2 rfl
  have f2 := RR.fz 2 rfl
  have k3 := RR.at 3 rfl
  have f3 := RR.fz 3 rfl
  have k4 := RR.at 4 rfl
  have f4 := RR.fz 4 rfl
  have k5 := RR.at 5 rfl
  have f5 := RR.fz 5 rfl
  have k6 := RR.at 6 rfl
  have f6 := RR.fz 6 rfl
  have k7 := RR.at 7 rfl
  have f7 := RR.fz 7 rfl
  have F := show Hid _ from RR.fill8 BC (Nat.le_refl _) (.int .i64 y0) (.int .i64 y1) (.int .i64 y2) (.int .i64 y3) (.int .i64 y4) (.int .i64 y5) (.slice qa QP.length qc) (.slice ta QV.length tc)
  have FU := show Hid _ from own_fill8 (q := w.heap.size) OU (fun k h => by have := (own_in OU k h).1; omega) (.int .i64 y0) (.int .i64 y1) (.int .i64 y2) (.int .i64 y3) (.int .i64 y4) (.int .i64 y5) (.slice qa QP.length qc) (.slice ta QV.length tc)
  have FV := show Hid _ from own_fill8 (q := w.heap.size) OV (fun k h => by have := (own_in OV k h).1; omega) (.int .i64 y0) (.int .i64 y1) (.int .i64 y2) (.int .i64 y3) (.int .i64 y4) (.int .i64 y5) (.slice qa QP.length qc) (.slice ta QV.length tc)
  refine wpAnyH_ready (rs := [8]) (by kernel_rfl) (by simp) ?_
  refine AllReadyH.cons (i := 8) rfl (fun K hK => ?_) AllReadyH.nil
  go_simp
  refine hK.out _ _ ((((((((TC.far (by omega) 0 _).far (by omega) 1 _).far (by omega) 2 _).far (by omega) 3 _).far (by omega) 4 _).far (by omega) 5 _).far (by omega) 6 _).far (by omega) 7 _) (fun hHeld2 => ?_)
  clear hK K hHeld
  have hHeld := hHeld2
  clear hHeld2
  try simp only [Act.put, List.setIfInBounds_toArray, List.set_cons_zero, List.set_cons_succ]
  refine take_one 9 5 (v := ?_) rfl rfl (by kernel_rfl) (by kernel_rfl) (by kernel_rfl) (fun _ _ _ h => h) (Or.inl ⟨by rfl, ?_⟩) hHeld ?_
  rotate_left
  · intro w' hSw; (try dsimp only at hSw); have d0 := hSw.at 0 rfl; have d1 := hSw.at 1 rfl; have d2 := hSw.at 2 rfl; have d3 := hSw.at 3 rfl; have d4 := hSw.at 4 rfl; have d5 := hSw.at 5 rfl; have d6 := hSw.at 6 rfl; have d7 := hSw.at 7 rfl; have d8 := hSw.at 8 rfl; go_simp; try with_reducible rfl
  try simp only [Act.put, List.setIfInBounds_toArray, List.set_cons_zero, List.set_cons_succ]
  refine wpAnyH_done (by kernel_rfl) ?_ _
  clear hHeld k0 f0 k1 f1 k2 f2 k3 f3 k4 f4 k5 f5 k6 f6 k7 f7 TC RR BC OU OV
  go_wp2
  have G := F.out
  refine bodyPost_ret (res_tb rfl _ _ w.heap.size _ _ _ _ _ _ _ _ (.bool kk) rfl rfl (G.1.at 0 rfl) (G.1.at 1 rfl) (G.1.at 2 rfl) (G.1.at 3 rfl) (G.1.at 4 rfl) (G.1.at 5 rfl) (G.1.at 6 rfl) (G.1.at 7 rfl)) rfl ⟨qa, qc, ta, tc, rfl, ?_, ?_, AP, G.2⟩
  · exact ownsRow_le FU.out (by omega)
  · exact ownsRow_le FV.out (by omega)
end Go.Proofs.YtbkemhclncmicaaGreat

set_option linter.unusedVariables false
namespace Go.Proofs.YtbkemhclncmicaaGreat
open Go Go.RowKit Own Var Term

theorem openR_nil (k : Int) : openR ⟨#[]⟩ k = (⟨#[]⟩, false) := by
  unfold openR
  rw [rk_nil]
theorem open_other (key key' : Int) (t : ByteArray) (hne : key' ≠ key) : openR (sealT key t) key' = (⟨#[]⟩, false) := by
  by_cases h : (sealT key t).size = 0
  · rw [empty_of _ h]; exact openR_nil _
  · have ho := (seal_trip key t h).1
    unfold openR at ho ⊢
    cases hr : rk (sealT key t) 115 with
    | none => rfl
    | some q =>
      obtain ⟨n, r⟩ := q
      rw [hr] at ho
      simp only at ho ⊢
      by_cases hn : (n : Int) = key
      · rw [if_neg (fun e => hne (e.symm.trans hn))]
      · rw [if_neg hn] at ho; cases ho
/-- With another key nothing is read. -/
theorem rtK_shut {s : ByteArray} {key : Int} (h : openR s key = (⟨#[]⟩, false)) : rtK s key = false := by
  apply rtK_not
  rw [h, partsR_nil]
  simp
theorem rgK_shut {s : ByteArray} {key : Int} (h : openR s key = (⟨#[]⟩, false)) : rgK s key = false := by
  apply rgK_not
  rw [h, partsR_nil]
  simp
theorem raK_shut {s : ByteArray} {key : Int} (h : openR s key = (⟨#[]⟩, false)) : raK s key = false := by
  apply raK_not
  rw [h, numsR_nil]
  simp
theorem if_open {b : Bool} {key key' : Int} {t : ByteArray} (hne : key' ≠ key) : openR (if b then sealT key t else ⟨#[]⟩) key' = (⟨#[]⟩, false) := by
  cases b with
  | true => exact open_other key key' t hne
  | false => exact openR_nil _
theorem shT_other {c s k a b e key key' : Int} {P V : List Int} (h : key' ≠ key) : rtK (shT c s k a b e P V key) key' = false := rtK_shut (if_open h)
theorem shA_other {c t q key key' : Int} (h : key' ≠ key) : raK (shA c t q key) key' = false := raK_shut (if_open h)
theorem shG_other {k s n a b e key key' : Int} (h : key' ≠ key) : rgK (shG k s n a b e key) key' = false := rgK_shut (if_open h)

theorem shT_yes {c s k a b e key : Int} {P V : List Int} (h0 : (shT c s k a b e P V key).size ≠ 0) :
    rtK (shT c s k a b e P V key) key = true ∧ rtN (shT c s k a b e P V key) key 0 = c ∧ rtN (shT c s k a b e P V key) key 1 = s ∧ rtN (shT c s k a b e P V key) key 2 = k ∧ rtN (shT c s k a b e P V key) key 3 = a ∧
      rtN (shT c s k a b e P V key) key 4 = b ∧ rtN (shT c s k a b e P V key) key 5 = e ∧ rtP (shT c s k a b e P V key) key = P ∧ rtV (shT c s k a b e P V key) key = V := by
  obtain ⟨hok, e1⟩ := if_full h0
  have e' : shT c s k a b e P V key = sealT key (inT c s k a b e P V) := e1
  rw [e'] at h0 ⊢
  have ho := (seal_trip _ _ h0).1
  have hi := isT_full (seal_in _ _ h0)
  unfold inT at hi
  have hl := list_trip [numsT [c, s], keyT k, shR a b e, numsT P, numsT V]
  rw [if_neg hi] at hl
  have hp : (partsR (openR (sealT key (inT c s k a b e P V)) key).1).1 = [numsT [c, s], keyT k, shR a b e, numsT P, numsT V] := by
    rw [ho]; show (partsR (listT _)).1 = _; rw [hl]
  have hall := list_all hi
  have t0 := nums_trip [c, s]
  have t3 := nums_trip P
  have t4 := nums_trip V
  rw [if_neg (isT_full (hall _ (by simp : numsT [c, s] ∈ _)))] at t0
  rw [if_neg (isT_full (hall _ (by simp : numsT P ∈ _)))] at t3
  rw [if_neg (isT_full (hall _ (by simp : numsT V ∈ _)))] at t4
  have t1 := key_trip _ (isT_full (hall _ (by simp : keyT k ∈ _)))
  obtain ⟨r0, r1, r2, r3⟩ := rest_trip _ _ _ (isT_full (hall _ (by simp : shR a b e ∈ _)))
  have hk : rtK (sealT key (inT c s k a b e P V)) key = true := by
    rw [rtK_five hp, t0, t1, r0, t3, t4, r1, r2, r3]
    simpa using hok
  obtain ⟨y0, y1, y2, y3, y4, y5, y6, y7⟩ := rt_five (c := c) (sv := s) hp (by rw [t0]) hk
  exact ⟨hk, y0, y1, y2.trans (by rw [t1]), y3.trans r1, y4.trans r2, y5.trans r3, y6.trans (by rw [t3]), y7.trans (by rw [t4])⟩
theorem shG_yes {k s n a b e key : Int} (h0 : (shG k s n a b e key).size ≠ 0) :
    rgK (shG k s n a b e key) key = true ∧ rgV (shG k s n a b e key) key 0 = k ∧ rgV (shG k s n a b e key) key 1 = s ∧ rgV (shG k s n a b e key) key 2 = n ∧ rgV (shG k s n a b e key) key 3 = a ∧
      rgV (shG k s n a b e key) key 4 = b ∧ rgV (shG k s n a b e key) key 5 = e := by
  obtain ⟨hok, e1⟩ := if_full h0
  have e' : shG k s n a b e key = sealT key (inG k s n a b e) := e1
  rw [e'] at h0 ⊢
  have ho := (seal_trip _ _ h0).1
  have hi := isT_full (seal_in _ _ h0)
  unfold inG at hi
  have hl := list_trip [keyT k, numsT [s, n], shR a b e]
  rw [if_neg hi] at hl
  have hp : (partsR (openR (sealT key (inG k s n a b e)) key).1).1 = [keyT k, numsT [s, n], shR a b e] := by
    rw [ho]; show (partsR (listT _)).1 = _; rw [hl]
  have hall := list_all hi
  have t1 := nums_trip [s, n]
  rw [if_neg (isT_full (hall _ (by simp : numsT [s, n] ∈ _)))] at t1
  have t0 := key_trip _ (isT_full (hall _ (by simp : keyT k ∈ _)))
  obtain ⟨r0, r1, r2, r3⟩ := rest_trip _ _ _ (isT_full (hall _ (by simp : shR a b e ∈ _)))
  have hk : rgK (sealT key (inG k s n a b e)) key = true := by
    rw [rgK_three hp, t0, t1, r0, r1, r2, r3]
    simpa using hok
  obtain ⟨y0, y1, y2, y3, y4, y5⟩ := rgV_three (sv := s) (n := n) hp (by rw [t1]) hk
  exact ⟨hk, y0.trans (by rw [t0]), y1, y2, y3.trans r1, y4.trans r2, y5.trans r3⟩
theorem shA_open {c t q key : Int} (h0 : (shA c t q key).size ≠ 0) : aOk c t q = true ∧ numsR (openR (shA c t q key) key).1 = ([7, c, t, q], true) ∧ openR (shA c t q key) key = (numsT [7, c, t, q], true) ∧ (numsT [7, c, t, q]).size ≠ 0 := by
  obtain ⟨hok, e1⟩ := if_full h0
  have e' : shA c t q key = sealT key (numsT [7, c, t, q]) := e1
  rw [e'] at h0 ⊢
  have ho := (seal_trip _ _ h0).1
  have hi := isT_full (seal_in _ _ h0)
  have hl := nums_trip [7, c, t, q]
  rw [if_neg hi] at hl
  exact ⟨hok, by rw [ho]; exact hl, ho, hi⟩
theorem shA_yes {c t q key : Int} (h0 : (shA c t q key).size ≠ 0) :
    raK (shA c t q key) key = true ∧ raV (shA c t q key) key 1 = c ∧ raV (shA c t q key) key 2 = t ∧ raV (shA c t q key) key 3 = q := by
  obtain ⟨hok, hn, _, _⟩ := shA_open h0
  have hk : raK (shA c t q key) key = true := by rw [raK_four hn, hok]; rfl
  exact ⟨hk, raV_yes hn hk⟩
/-- An authenticator is no grant. -/
theorem shA_grant {c t q key : Int} : rgK (shA c t q key) key = false := by
  by_cases h : (shA c t q key).size = 0
  · rw [empty_of _ h]; exact rgK_shut (openR_nil _)
  · obtain ⟨_, _, ho, hi⟩ := shA_open h
    apply rgK_not
    rw [ho]
    have hp := list_trip ([7, c, t, q].map numT)
    rw [show listT ([7, c, t, q].map numT) = numsT [7, c, t, q] from rfl, if_neg hi] at hp
    show (partsR (numsT [7, c, t, q])).1.length ≠ 3
    rw [hp]
    simp
theorem shown_nil {X : ByteArray} {key : Int} (h : X.size = 0) : rtK X key = false ∧ raK X key = false ∧ rgK X key = false := by
  rw [empty_of _ h]
  exact ⟨rtK_shut (openR_nil _), raK_shut (openR_nil _), rgK_shut (openR_nil _)⟩

/-! A rest that is right is shown. -/
theorem bh_atom (d y : ByteArray) (f : Nat) (h : d.size ≤ 40) : bh (f + 1) (hdT 97 d.size ++ d ++ y) = some y := by
  have hc := cut_made 97 d.size (by omega) (d ++ y)
  rw [if_pos (by simp [hdOk]; omega)] at hc
  rw [app_assoc]
  have hx : at_ (hdT 97 d.size ++ (d ++ y)) 0 = 97 := at_one 97 d.size (d ++ y)
  rw [bh_some hc, if_pos hx, if_pos (by rw [ByteArray.size_append]; omega), suf_app]
theorem numT_atom (z : Int) (h : 0 ≤ z ∧ z ≤ 562949953421311) : numT z = hdT 97 (varOf z).size ++ varOf z ∧ (varOf z).size ≤ 7 := by
  have hv := varOf_size z
  have h1 : (varOf z).size ≠ 0 := by
    obtain ⟨n, rfl⟩ := Int.eq_ofNat_of_zero_le h.1
    have hv1 : 1 ≤ (varOf (n : Int)).size := by rw [varOf_nat n (by omega)]; exact varB_pos n
    omega
  refine ⟨?_, hv⟩
  unfold numT
  rw [if_neg h1]
  unfold atomT
  exact okOr_yes (atom_isT _ (by omega))
theorem shR_full (a b c : Int) (h : rOk a b c = true) : (shR a b c).size ≠ 0 := by
  obtain ⟨ha, hb, hc⟩ := (rOk_iff a b c).1 h
  have e : shR a b c = listT [numT a, numT b, numT c] := by unfold shR; rw [h]; rfl
  obtain ⟨na, sa⟩ := numT_atom a (by omega)
  obtain ⟨nb, sb⟩ := numT_atom b (by omega)
  obtain ⟨nc, sc⟩ := numT_atom c (by omega)
  have ia : isT (numT a) = true := by rw [na]; exact atom_isT _ (by omega)
  have ib : isT (numT b) = true := by rw [nb]; exact atom_isT _ (by omega)
  have ic : isT (numT c) = true := by rw [nc]; exact atom_isT _ (by omega)
  have hT : isT (hdT 108 3 ++ cat [numT a, numT b, numT c]) = true := by
    rw [isT_iff]
    have hcut := cut_made 108 3 (by omega) (cat [numT a, numT b, numT c])
    rw [if_pos (by simp [hdOk])] at hcut
    have hx : at_ (hdT 108 ((3 : Nat) : Int) ++ cat [numT a, numT b, numT c]) 0 = 108 := at_one 108 3 _
    have e3 : cat [numT a, numT b, numT c] = numT a ++ (numT b ++ (numT c ++ ⟨#[]⟩)) := by
      rw [cat_cons, cat_cons, cat_cons, cat_nil]
    have q : ∀ z : Int, 0 ≤ z ∧ z ≤ 562949953421311 → ∀ y, bh 7 (numT z ++ y) = some y := by
      intro z hz y
      obtain ⟨nz, sz⟩ := numT_atom z hz
      rw [nz]
      exact bh_atom _ _ 6 (by omega)
    have hrep : rep (bh 7) 3 (cat [numT a, numT b, numT c]) = some ⟨#[]⟩ := by
      rw [e3]
      simp only [rep, q a (by omega), q b (by omega), q c (by omega)]
      try rfl
    refine ⟨?_, ⟨#[]⟩, ?_, rfl⟩
    · have l1 := numT_size a
      have l2 := numT_size b
      have l3 := numT_size c
      have l4 := varOf_size 3
      rw [ByteArray.size_append, hdT_size, e3, ByteArray.size_append, ByteArray.size_append, ByteArray.size_append]
      show _ + (_ + (_ + (_ + 0))) ≤ 900
      omega
    · have hb8 := bh_some (f := 7) hcut
      rw [if_neg (by rw [hx]; omega), if_pos hx, hrep] at hb8
      exact hb8
  rw [e]
  unfold listT
  rw [if_pos ⟨by simp, by simp [ia, ib, ic]⟩]
  show (okOr (hdT 108 3 ++ cat _)).size ≠ 0
  rw [okOr_yes hT]
  exact isT_full hT
end Go.Proofs.YtbkemhclncmicaaGreat
