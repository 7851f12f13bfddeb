/- NewWorld of the program. -/
import Derived.Test.YtflajkbbggmdjaaNw1
import Derived.Great.BuildSlice
set_option linter.unusedVariables false
set_option maxRecDepth 100000
namespace Go.Proofs.Ytflajkbbggmdjaa.Nd
open Go Go.RowKit Go.Joins Own Draw

theorem fillC : Instr.fill (fun i => some (i * 2, 2)) ((Array.range (1 * 2)).map ((Value.agg #[.int .i64 0, .slice none 0 0]).cells[· % (Value.agg #[.int .i64 0, .slice none 0 0]).cells.size]!)) [(0, .agg #[.int .i64 (-1), .slice none 0 0])] = some #[.int .i64 (-1), .slice none 0 0] := by kernel_rfl
theorem ap_nil (n c : Nat) (v : Value) : Ap (.slice none n c) v := fun k h => by simp [Value.ownBlock] at h
theorem zAp : ApWd (zF, 0, (none, 0, []), (none, 0, [])) := by
  refine ⟨⟨ap_nil _ _ _, ap_nil _ _ _, ap_nil _ _ _, ap_nil _ _ _, ap_nil _ _ _, ap_nil _ _ _⟩, fun v hv => ?_, ap_nil _ _ _⟩
  simp only [cF, List.mem_cons, List.not_mem_nil, or_false] at hv
  rcases hv with rfl | rfl | rfl | rfl | rfl
  · exact ⟨ap_nil _ _ _, ap_nil _ _ _⟩
  · exact ⟨ap_nil _ _ _, ap_nil _ _ _⟩
  · exact ⟨ap_nil _ _ _, ap_nil _ _ _⟩
  · exact ⟨ap_nil _ _ _, ap_nil _ _ _⟩
  · exact ⟨fun k h => by simp [Value.ownBlock] at h, fun k h => by simp [Value.ownBlock] at h⟩
theorem infoCx : (Try.prog.info? 82).map (fun i => (i.zero, i.size, i.bytes)) = some (some (.agg #[.int .i64 0, .slice none 0 0]), 2, 32) := by kernel_rfl
theorem wp_buildC {w : World} {o : Oper} {a : Act} {K : Act → World → Prop} {Q : Exit → Act → World → Prop} (x : Operand) (ho : o.op = .buildSlice 49 1 #[(0, x)]) (hx : a.eval x = .agg #[.int .i64 (-1), .slice none 0 0])
    (h : K (a.put o.dst (.slice (some ⟨w.heap.size, 0, none⟩) 1 1)) (w.alloc (.cells #[.int .i64 (-1), .slice none 0 0] 82))) : o.wp Try.prog a w K Q := by
  obtain ⟨ic, hic, hzc0, hsc, hbc⟩ := info_parts infoCx
  refine wp_buildSlice 49 82 1 _ ho #[.int .i64 (-1), .slice none 0 0] ic _ Try.underlying49 hic hzc0 (by rw [hsc]; decide) (by rw [hsc]; decide) ?_ h
  have e : (#[((0 : Nat), x)].map fun (i, x) => (i, a.eval x)).toList = [(0, .agg #[.int .i64 (-1), .slice none 0 0])] := by simp [hx]
  rw [e, hsc]
  exact fillC
set_option maxRecDepth 100000 in
set_option maxHeartbeats 6400000 in
theorem implNew_is (c : TF) (B0 : Nat) (w : World) (hd : OwF B0 w c) (hl : totF c ≤ 1048576) : Calls Try.prog 19 #[vF c] w fun en w' => ∃ x : TWd, en = .returned (.tuple #[vWd x, .bool (confB (cfOf c))]) ∧ stWd x = nwS c ∧ OwWd w.heap.size w' x ∧ ApWd x ∧ Below w.heap.size w w' := by
  obtain ⟨ie, hie, his⟩ := info_Wd
  obtain ⟨W1, hW1⟩ : ∃ W1, w.alloc (.cells #[.slice c.1.1 c.1.2.2.length c.1.2.1, .slice c.2.1.1 c.2.1.2.2.length c.2.1.2.1, .slice c.2.2.1.1 c.2.2.1.2.2.length c.2.2.1.2.1, .slice c.2.2.2.1.1 c.2.2.2.1.2.2.length c.2.2.2.1.2.1, .int .i64 c.2.2.2.2] 30) = W1 := ⟨_, rfl⟩
  have B1 : Below w.heap.size w W1 := by rw [← hW1]; exact (Below.refl _ _).alloc (Nat.le_refl _) _
  have T1 : Blk w.heap.size [.slice c.1.1 c.1.2.2.length c.1.2.1, .slice c.2.1.1 c.2.1.2.2.length c.2.1.2.1, .slice c.2.2.1.1 c.2.2.1.2.2.length c.2.2.1.2.1, .slice c.2.2.2.1.1 c.2.2.2.1.2.2.length c.2.2.2.1.2.1, .int .i64 c.2.2.2.2] W1 := by rw [← hW1]; exact Blk.new _ _ _
  have Z1 : W1.heap.size = w.heap.size + 1 := by rw [← hW1]; simp
  obtain ⟨W2, hW2⟩ : ∃ W2, W1.alloc (.cells #[.slice none 0 0, .slice none 0 0, .slice none 0 0, .slice none 0 0, .int .i64 0, .int .i64 0, .int .i64 0, .slice none 0 0, .slice none 0 0, .slice none 0 0, .slice none 0 0, .slice none 0 0, .slice none 0 0, .slice none 0 0, .slice none 0 0, .slice none 0 0] 53) = W2 := ⟨_, rfl⟩
  have B2 : Below w.heap.size w W2 := by rw [← hW2]; exact B1.alloc B1.size _
  have T2 : Blk w.heap.size [.slice c.1.1 c.1.2.2.length c.1.2.1, .slice c.2.1.1 c.2.1.2.2.length c.2.1.2.1, .slice c.2.2.1.1 c.2.2.1.2.2.length c.2.2.1.2.1, .slice c.2.2.2.1.1 c.2.2.2.1.2.2.length c.2.2.2.1.2.1, .int .i64 c.2.2.2.2] W2 := by rw [← hW2]; exact T1.alloc (by omega) _
  have R2 : Blk (w.heap.size + 1) [.slice none 0 0, .slice none 0 0, .slice none 0 0, .slice none 0 0, .int .i64 0, .int .i64 0, .int .i64 0, .slice none 0 0, .slice none 0 0, .slice none 0 0, .slice none 0 0, .slice none 0 0, .slice none 0 0, .slice none 0 0, .slice none 0 0, .slice none 0 0] W2 := by rw [← hW2, ← Z1]; exact Blk.new _ _ _
  have d0 := T2.at 0 rfl
  have d1 := T2.at 1 rfl
  have d2 := T2.at 2 rfl
  have d3 := T2.at 3 rfl
  have d4 := T2.at 4 rfl
  have Ck : CfAt (cfOf c) W2 := (cf_at hd).later B2
  have K := right_is (cfOf c) W2 Ck (cf_ok hd hl)
  go_enter Try.func19, Try.ntmps19
  go_wp2_with fail
  try rw [hW1]
  try rw [hW2]
  refine K.mono ?_
  clear hW1 hW2 d0 d1 d2 d3 d4 B1 T1 Z1 Ck K
  rintro en w3 ⟨rfl, hb⟩
  replace T2 := T2.later hb T2.lt
  replace R2 := R2.later hb R2.lt
  replace B2 := B2.trans (hb.mono B2.size)
  clear hb
  by_cases h0 : confB (cfOf c) = true
  rotate_left
  · have HV : Hid (nwS c = (stF zF, 0, [], [])) := if_neg h0
    rw [Bool.eq_false_iff.2 h0]
    obtain ⟨VF, hVF⟩ : ∃ V, w3.setCells (w.heap.size + 1) 0 [.slice none 0 0, .slice none 0 0, .slice none 0 0, .slice none 0 0, .int .i64 0, .int .i64 0, .int .i64 0, .slice none 0 0, .slice none 0 0, .slice none 0 0, .slice none 0 0, .slice none 0 0, .slice none 0 0, .slice none 0 0, .slice none 0 0, .slice none 0 0] = V := ⟨_, rfl⟩
    have TF : Blk (w.heap.size + 1) [.slice none 0 0, .slice none 0 0, .slice none 0 0, .slice none 0 0, .int .i64 0, .int .i64 0, .int .i64 0, .slice none 0 0, .slice none 0 0, .slice none 0 0, .slice none 0 0, .slice none 0 0, .slice none 0 0, .slice none 0 0, .slice none 0 0, .slice none 0 0] VF := by rw [← hVF]; exact R2.sets _ rfl
    have BF : Below w.heap.size w VF := by rw [← hVF]; exact below_sets (by omega) _ _ _ B2
    go_wp2_with (first | (refine wpList_stB 53 _ _ (w.heap.size + 1) 0 _ [.slice none 0 0, .slice none 0 0, .slice none 0 0, .slice none 0 0, .int .i64 0, .int .i64 0, .int .i64 0, .slice none 0 0, .slice none 0 0, .slice none 0 0, .slice none 0 0, .slice none 0 0, .slice none 0 0, .slice none 0 0, .slice none 0 0, .slice none 0 0] ie hie R2 his.symm (by simp) rfl rfl rfl rfl rfl ?_; rw [hVF]) | go_in)
    exact bodyPost_ret (res_B2 rfl _ _ (w.heap.size + 1) [.slice none 0 0, .slice none 0 0, .slice none 0 0, .slice none 0 0, .int .i64 0, .int .i64 0, .int .i64 0, .slice none 0 0, .slice none 0 0, .slice none 0 0, .slice none 0 0, .slice none 0 0, .slice none 0 0, .slice none 0 0, .slice none 0 0, .slice none 0 0] (.bool false) ie hie (Try.isAgg53) TF his.symm rfl rfl) rfl ⟨(zF, 0, (none, 0, []), (none, 0, [])), by rw [Bool.eq_false_iff.2 h0]; rfl, HV.out.symm, ⟨zF_own _ _, FOwn.nil _ _ _ _ _, FOwn.nil _ _ _ _ _⟩, zAp, BF⟩
  have HV : Hid (nwS c = (stF c, 101, w6, k3 3)) := if_pos h0
  rw [h0]
  go_wp2_with fail
  refine wp_region_held_drew (S := SN c w) (by kernel_rfl) ⟨T2.drew, R2.drew, B2.drew⟩ (fun hHeld => ?_)
  refine take_one 0 9 (v := ?_) rfl rfl (by kernel_rfl) (by kernel_rfl) (by kernel_rfl) (fun _ _ _ h => h) (Or.inl ⟨by rfl, ?_⟩) hHeld ?_
  rotate_left
  · intro w' hSw; (try dsimp only at hSw); obtain ⟨z0, z1, z2⟩ := hSw; have c0 := z0.at 0 rfl; have c1 := z0.at 1 rfl; have c2 := z0.at 2 rfl; have c3 := z0.at 3 rfl; have c4 := z0.at 4 rfl; go_simp; try with_reducible rfl
  try simp only [Act.put, List.setIfInBounds_toArray, List.set_cons_zero, List.set_cons_succ]
  refine nI000 _ c B0 w hd hl ?_ (fun _ _ _ _ h => h) w3.drew hHeld
  clear hHeld T2 R2 B2
  intro y gw gx U hS hs OY AY OW BX hx N1 N2 N3
  obtain ⟨T, R, B⟩ := hS
  unfold SNI opsNI
  refine wpAnyH_ready (rs := [5]) (by kernel_rfl) (by simp) ?_
  refine AllReadyH.cons (i := 5) rfl (fun K hK => ?_) AllReadyH.nil
  obtain ⟨V3, hV3⟩ : ∃ V, U.setCells gx 0 [.slice y.1.1 y.1.2.2.length y.1.2.1, .slice y.2.1.1 y.2.1.2.2.length y.2.1.2.1, .slice y.2.2.1.1 y.2.2.1.2.2.length y.2.2.1.2.1, .slice y.2.2.2.1.1 y.2.2.2.1.2.2.length y.2.2.2.1.2.1, .int .i64 y.2.2.2.2, .int .i64 0, .int .i64 101, .slice none 0 0, .slice none 0 0, .slice none 0 0, .slice (some ⟨gw, 0, none⟩) 6 6, .slice none 0 0, .slice none 0 0, .slice none 0 0, .slice none 0 0, .slice none 0 0] = V := ⟨_, rfl⟩
  have hg3 := sets_grown gx [.slice y.1.1 y.1.2.2.length y.1.2.1, .slice y.2.1.1 y.2.1.2.2.length y.2.1.2.1, .slice y.2.2.1.1 y.2.2.1.2.2.length y.2.2.1.2.1, .slice y.2.2.2.1.1 y.2.2.2.1.2.2.length y.2.2.2.1.2.1, .int .i64 y.2.2.2.2, .int .i64 0, .int .i64 101, .slice none 0 0, .slice none 0 0, .slice none 0 0, .slice (some ⟨gw, 0, none⟩) 6 6, .slice none 0 0, .slice none 0 0, .slice none 0 0, .slice none 0 0, .slice none 0 0] 0 U
  have BX3 : Blk gx [.slice y.1.1 y.1.2.2.length y.1.2.1, .slice y.2.1.1 y.2.1.2.2.length y.2.1.2.1, .slice y.2.2.1.1 y.2.2.1.2.2.length y.2.2.1.2.1, .slice y.2.2.2.1.1 y.2.2.2.1.2.2.length y.2.2.2.1.2.1, .int .i64 y.2.2.2.2, .int .i64 0, .int .i64 101, .slice none 0 0, .slice none 0 0, .slice none 0 0, .slice (some ⟨gw, 0, none⟩) 6 6, .slice none 0 0, .slice none 0 0, .slice none 0 0, .slice none 0 0, .slice none 0 0] V3 := by rw [← hV3]; exact BX.sets _ rfl
  have T3 : Blk w.heap.size [.slice c.1.1 c.1.2.2.length c.1.2.1, .slice c.2.1.1 c.2.1.2.2.length c.2.1.2.1, .slice c.2.2.1.1 c.2.2.1.2.2.length c.2.2.1.2.1, .slice c.2.2.2.1.1 c.2.2.2.1.2.2.length c.2.2.2.1.2.1, .int .i64 c.2.2.2.2] V3 := by rw [← hV3]; exact Blk.farS (by omega) _ _ _ T
  have R3 : Blk (w.heap.size + 1) [.slice none 0 0, .slice none 0 0, .slice none 0 0, .slice none 0 0, .int .i64 0, .int .i64 0, .int .i64 0, .slice none 0 0, .slice none 0 0, .slice none 0 0, .slice none 0 0, .slice none 0 0, .slice none 0 0, .slice none 0 0, .slice none 0 0, .slice none 0 0] V3 := by rw [← hV3]; exact Blk.farS (by omega) _ _ _ R
  have B3 : Below w.heap.size w V3 := by rw [← hV3]; exact below_sets (by omega) _ _ _ B
  rw [hV3] at hg3
  replace OY : OwF (w.heap.size + 2) V3 y := ow_kept OY hg3 N2
  replace OW : FOwn 114 4 cW (w.heap.size + 2) (some ⟨gw, 0, none⟩) 6 w6 V3 := own_kept OW hg3 (fun k e h => by injection h with h; injection (show some gw = some k from e) with e; omega)
  refine stepB 53 _ _ gx 0 _ [.slice y.1.1 y.1.2.2.length y.1.2.1, .slice y.2.1.1 y.2.1.2.2.length y.2.1.2.1, .slice y.2.2.1.1 y.2.2.1.2.2.length y.2.2.1.2.1, .slice y.2.2.2.1.1 y.2.2.2.1.2.2.length y.2.2.2.1.2.1, .int .i64 y.2.2.2.2, .int .i64 0, .int .i64 101, .slice none 0 0, .slice none 0 0, .slice none 0 0, .slice (some ⟨gw, 0, none⟩) 6 6, .slice none 0 0, .slice none 0 0, .slice none 0 0, .slice none 0 0, .slice none 0 0] ie hie BX his.symm (by simp) rfl rfl rfl rfl rfl ?_
  rw [hV3]
  refine hK.out _ _ ⟨T3, R3, B3⟩ (fun hHeld2 => ?_)
  clear hK K hHeld2 hV3 hg3 BX T R B
  try simp only [Act.put, List.setIfInBounds_toArray, List.set_cons_zero, List.set_cons_succ]
  refine wpAnyH_done (by kernel_rfl) ?_ _
  have hgx : gx < V3.heap.size := BX3.lt
  have OC0 : V3.ownsRow V3.heap.size 82 2 (.slice none 0 0) 0 (fl cC (k3 0)) := World.ownsRow_nil _ _ _ _
  go_wp2
  go_loopw [13] (fun iv wr => ∃ (k : Nat) (ca : Option Addr) (cc : Nat), k ≤ 3 ∧ iv = .int .i64 (k : Int) ∧ Blk gx [.slice y.1.1 y.1.2.2.length y.1.2.1, .slice y.2.1.1 y.2.1.2.2.length y.2.1.2.1, .slice y.2.2.1.1 y.2.2.1.2.2.length y.2.2.1.2.1, .slice y.2.2.2.1.1 y.2.2.2.1.2.2.length y.2.2.2.1.2.1, .int .i64 y.2.2.2.2, .int .i64 0, .int .i64 101, .slice none 0 0, .slice none 0 0, .slice none 0 0, .slice (some ⟨gw, 0, none⟩) 6 6, .slice none 0 0, .slice ca k cc, .slice none 0 0, .slice none 0 0, .slice none 0 0] wr ∧ wr.ownsRow V3.heap.size 82 2 (.slice ca k cc) k (fl cC (k3 k)) ∧ V3.grownBy wr (some gx)) (fun iv _ => 3 - (intOf iv).toNat)
  case atStart => exact ⟨0, none, 0, by omega, rfl, BX3, OC0, World.grownBy.refl _ _⟩
  case round =>
    clear OC0 BX3
    obtain ⟨k, ca, cc, hk, rfl, BX, OC, GG⟩ := hrel
    by_cases hlt : k < 3
    · have hlt2 : (k : Int) < 3 := by omega
      go_wp2_with fail
      refine wp_region_held_drew (S := fun _ => True) (by kernel_rfl) trivial (fun hHeld => ?_)
      clear hHeld
      replace BX := BX.drew
      replace OC : wr.drew.ownsRow V3.heap.size 82 2 (.slice ca k cc) k (fl cC (k3 k)) := own_later OC (Below.refl _ _).drew
      replace GG : V3.grownBy wr.drew (some gx) := grown_to GG (below_grown (Below.refl _ _).drew)
      generalize wr.drew = U0 at *
      obtain ⟨ic, hic, hzc0, hsc, hbc⟩ := info_parts infoCx
      have hzc := hzc0
      refine take_one 0 15 (v := ?_) rfl rfl (by kernel_rfl) (by kernel_rfl) (by kernel_rfl) (fun _ _ _ h => h) (Or.inl ⟨by rfl, ?_⟩) trivial ?_
      rotate_left
      · intro w' hSw; go_simp; try with_reducible rfl
      try simp only [Act.put, List.setIfInBounds_toArray, List.set_cons_zero, List.set_cons_succ]
      refine wpAnyH_ready (rs := [1, 2]) (by kernel_rfl) (by simp) ?_
      refine AllReadyH.cons (i := 1) rfl (fun K hK => ?_) ?_
      · skip
        have m12 := BX.at 12 rfl
        go_simp
        refine hK.out _ _ trivial (fun _ => ?_)
        clear hK K
        try simp only [Act.put, List.setIfInBounds_toArray, List.set_cons_zero, List.set_cons_succ]
        clear m12
        refine wpAnyH_ready (rs := [2]) (by kernel_rfl) (by simp) ?_
        refine AllReadyH.cons (i := 2) rfl (fun K hK => ?_) AllReadyH.nil
        go_simp
        refine (newCi_is U0).mono ?_
        rintro en U1 ⟨rfl, hb⟩
        go_wp2_with fail
        refine hK.out _ _ trivial (fun _ => ?_)
        clear hK K
        try simp only [Act.put, List.setIfInBounds_toArray, List.set_cons_zero, List.set_cons_succ]
        replace BX := BX.later hb BX.lt
        replace OC := own_later OC hb
        replace GG := grown_to GG (below_grown hb)
        clear hb
        refine wpAnyH_ready (rs := [3]) (by kernel_rfl) (by simp) ?_
        refine AllReadyH.cons (i := 3) rfl (fun K hK => ?_) AllReadyH.nil
        rw [if_pos (by rfl)]
        refine wp_buildC (.tmp 17) rfl rfl ?_
        obtain ⟨U2, hU2⟩ : ∃ V, U1.alloc (.cells #[.int .i64 (-1), .slice none 0 0] 82) = V := ⟨_, rfl⟩
        have TN : Blk U1.heap.size [.int .i64 (-1), .slice none 0 0] U2 := by rw [← hU2]; exact Blk.new _ _ _
        have hb : Below U1.heap.size U1 U2 := by rw [← hU2]; exact (Below.refl _ _).alloc (Nat.le_refl _) _
        rw [hU2]
        clear hU2
        refine hK.out _ _ trivial (fun _ => ?_)
        clear hK K
        try simp only [Act.put, List.setIfInBounds_toArray]
        replace BX := BX.later hb BX.lt
        replace OC := own_later OC hb
        replace GG := grown_to GG (below_grown hb)
        clear hb
        refine wpAnyH_ready (rs := [4]) (by kernel_rfl) (by simp) ?_
        refine AllReadyH.cons (i := 4) rfl (fun K hK => ?_) AllReadyH.nil
        rw [if_pos (by rfl)]
        refine wp_append_any U2 (.tmp 16) (.tmp 18) 49 rfl V3.heap.size 82 ic (.agg #[.int .i64 0, .slice none 0 0]) 2 32 Try.underlying49 hic hzc hsc hbc rfl (by decide) _ k (fl cC (k3 k)) rfl OC (some ⟨U1.heap.size, 0, none⟩) 1 1 [.int .i64 (-1), .slice none 0 0] rfl rfl (news_blk TN) (by intro u hu; simp only [List.mem_cons, List.not_mem_nil, or_false] at hu; rcases hu with rfl | rfl <;> rfl) (by unfold maxLen; omega) (by omega) GG.size (by simp) ?_
        intro vA U3 ownA hgA h5
        obtain ⟨na, nc, rfl, _⟩ := own_shape ownA
        have hob : ∀ q, (Value.slice ca k cc).ownBlock = some q → V3.heap.size ≤ q := fun q hq => (OC.lt q hq).1
        replace BX := BX.only3 hgA (fun h => by have := hob _ h; omega) BX.lt
        replace GG := grow_over GG hgA hob
        replace ownA : U3.ownsRow V3.heap.size 82 2 (.slice na (k + 1) nc) (k + 1) (fl cC (k3 (k + 1))) := by rw [show fl cC (k3 (k + 1)) = fl cC (k3 k) ++ [.int .i64 (-1), .slice none 0 0] by rw [show k3 (k + 1) = k3 k ++ [(-1, 0)] from List.replicate_succ', fl_snoc]]; exact ownA
        clear OC TN hgA h5 hob
        refine hK.out _ _ trivial (fun _ => ?_)
        clear hK K
        try simp only [Act.put]
        refine take_one 5 20 (v := ?_) rfl rfl (by kernel_rfl) (by kernel_rfl) (by kernel_rfl) (fun _ _ _ h => h) (Or.inl ⟨by rfl, ?_⟩) trivial ?_
        rotate_left
        · intro w' hSw; go_simp; try with_reducible rfl
        try simp only [Act.put]
        refine wpAnyH_ready (rs := [6]) (by kernel_rfl) (by simp) ?_
        refine AllReadyH.cons (i := 6) rfl (fun K hK => ?_) AllReadyH.nil
        have m12 := BX.at 12 rfl
        have f12 := BX.fz 12 rfl
        obtain ⟨U4, hU4⟩ : ∃ V, U3.setCell ⟨gx, 12, none⟩ (.slice na (k + 1) nc) = V := ⟨_, rfl⟩
        have BX4 : Blk gx [.slice y.1.1 y.1.2.2.length y.1.2.1, .slice y.2.1.1 y.2.1.2.2.length y.2.1.2.1, .slice y.2.2.1.1 y.2.2.1.2.2.length y.2.2.1.2.1, .slice y.2.2.2.1.1 y.2.2.2.1.2.2.length y.2.2.2.1.2.1, .int .i64 y.2.2.2.2, .int .i64 0, .int .i64 101, .slice none 0 0, .slice none 0 0, .slice none 0 0, .slice (some ⟨gw, 0, none⟩) 6 6, .slice none 0 0, .slice na (k + 1) nc, .slice none 0 0, .slice none 0 0, .slice none 0 0] U4 := by rw [← hU4]; exact BX.set 12 _
        have hg4 := set_grown U3 gx 12 (.slice na (k + 1) nc)
        rw [hU4] at hg4
        replace ownA : U4.ownsRow V3.heap.size 82 2 (.slice na (k + 1) nc) (k + 1) (fl cC (k3 (k + 1))) := own_far ownA hg4 hgx
        replace GG : V3.grownBy U4 (some gx) := grown_to GG hg4
        go_simp
        try rw [hU4]
        refine hK.out _ _ trivial (fun _ => ?_)
        clear hK K
        try simp only [Act.put, List.setIfInBounds_toArray, List.set_cons_zero, List.set_cons_succ]
        clear m12 f12 hU4 hg4 BX
        refine wpAnyH_done (by kernel_rfl) ?_ _
        go_wp2
        go_roundw
        case rel => exact ⟨k + 1, na, nc, by omega, by go_num, BX4, ownA, GG⟩
        case measure => simp [intOf]; omega
      refine AllReadyH.cons (i := 2) rfl (fun K hK => ?_) AllReadyH.nil
      go_simp
      refine (newCi_is U0).mono ?_
      rintro en U1 ⟨rfl, hb⟩
      go_wp2_with fail
      refine hK.out _ _ trivial (fun _ => ?_)
      clear hK K
      try simp only [Act.put, List.setIfInBounds_toArray, List.set_cons_zero, List.set_cons_succ]
      replace BX := BX.later hb BX.lt
      replace OC := own_later OC hb
      replace GG := grown_to GG (below_grown hb)
      clear hb
      refine wpAnyH_ready (rs := [1, 3]) (by kernel_rfl) (by simp) ?_
      refine AllReadyH.cons (i := 1) rfl (fun K hK => ?_) ?_
      · skip
        have m12 := BX.at 12 rfl
        go_simp
        refine hK.out _ _ trivial (fun _ => ?_)
        clear hK K
        try simp only [Act.put, List.setIfInBounds_toArray, List.set_cons_zero, List.set_cons_succ]
        clear m12
        refine wpAnyH_ready (rs := [3]) (by kernel_rfl) (by simp) ?_
        refine AllReadyH.cons (i := 3) rfl (fun K hK => ?_) AllReadyH.nil
        rw [if_pos (by rfl)]
        refine wp_buildC (.tmp 17) rfl rfl ?_
        obtain ⟨U2, hU2⟩ : ∃ V, U1.alloc (.cells #[.int .i64 (-1), .slice none 0 0] 82) = V := ⟨_, rfl⟩
        have TN : Blk U1.heap.size [.int .i64 (-1), .slice none 0 0] U2 := by rw [← hU2]; exact Blk.new _ _ _
        have hb : Below U1.heap.size U1 U2 := by rw [← hU2]; exact (Below.refl _ _).alloc (Nat.le_refl _) _
        rw [hU2]
        clear hU2
        refine hK.out _ _ trivial (fun _ => ?_)
        clear hK K
        try simp only [Act.put, List.setIfInBounds_toArray]
        replace BX := BX.later hb BX.lt
        replace OC := own_later OC hb
        replace GG := grown_to GG (below_grown hb)
        clear hb
        refine wpAnyH_ready (rs := [4]) (by kernel_rfl) (by simp) ?_
        refine AllReadyH.cons (i := 4) rfl (fun K hK => ?_) AllReadyH.nil
        rw [if_pos (by rfl)]
        refine wp_append_any U2 (.tmp 16) (.tmp 18) 49 rfl V3.heap.size 82 ic (.agg #[.int .i64 0, .slice none 0 0]) 2 32 Try.underlying49 hic hzc hsc hbc rfl (by decide) _ k (fl cC (k3 k)) rfl OC (some ⟨U1.heap.size, 0, none⟩) 1 1 [.int .i64 (-1), .slice none 0 0] rfl rfl (news_blk TN) (by intro u hu; simp only [List.mem_cons, List.not_mem_nil, or_false] at hu; rcases hu with rfl | rfl <;> rfl) (by unfold maxLen; omega) (by omega) GG.size (by simp) ?_
        intro vA U3 ownA hgA h5
        obtain ⟨na, nc, rfl, _⟩ := own_shape ownA
        have hob : ∀ q, (Value.slice ca k cc).ownBlock = some q → V3.heap.size ≤ q := fun q hq => (OC.lt q hq).1
        replace BX := BX.only3 hgA (fun h => by have := hob _ h; omega) BX.lt
        replace GG := grow_over GG hgA hob
        replace ownA : U3.ownsRow V3.heap.size 82 2 (.slice na (k + 1) nc) (k + 1) (fl cC (k3 (k + 1))) := by rw [show fl cC (k3 (k + 1)) = fl cC (k3 k) ++ [.int .i64 (-1), .slice none 0 0] by rw [show k3 (k + 1) = k3 k ++ [(-1, 0)] from List.replicate_succ', fl_snoc]]; exact ownA
        clear OC TN hgA h5 hob
        refine hK.out _ _ trivial (fun _ => ?_)
        clear hK K
        try simp only [Act.put]
        refine take_one 5 20 (v := ?_) rfl rfl (by kernel_rfl) (by kernel_rfl) (by kernel_rfl) (fun _ _ _ h => h) (Or.inl ⟨by rfl, ?_⟩) trivial ?_
        rotate_left
        · intro w' hSw; go_simp; try with_reducible rfl
        try simp only [Act.put]
        refine wpAnyH_ready (rs := [6]) (by kernel_rfl) (by simp) ?_
        refine AllReadyH.cons (i := 6) rfl (fun K hK => ?_) AllReadyH.nil
        have m12 := BX.at 12 rfl
        have f12 := BX.fz 12 rfl
        obtain ⟨U4, hU4⟩ : ∃ V, U3.setCell ⟨gx, 12, none⟩ (.slice na (k + 1) nc) = V := ⟨_, rfl⟩
        have BX4 : Blk gx [.slice y.1.1 y.1.2.2.length y.1.2.1, .slice y.2.1.1 y.2.1.2.2.length y.2.1.2.1, .slice y.2.2.1.1 y.2.2.1.2.2.length y.2.2.1.2.1, .slice y.2.2.2.1.1 y.2.2.2.1.2.2.length y.2.2.2.1.2.1, .int .i64 y.2.2.2.2, .int .i64 0, .int .i64 101, .slice none 0 0, .slice none 0 0, .slice none 0 0, .slice (some ⟨gw, 0, none⟩) 6 6, .slice none 0 0, .slice na (k + 1) nc, .slice none 0 0, .slice none 0 0, .slice none 0 0] U4 := by rw [← hU4]; exact BX.set 12 _
        have hg4 := set_grown U3 gx 12 (.slice na (k + 1) nc)
        rw [hU4] at hg4
        replace ownA : U4.ownsRow V3.heap.size 82 2 (.slice na (k + 1) nc) (k + 1) (fl cC (k3 (k + 1))) := own_far ownA hg4 hgx
        replace GG : V3.grownBy U4 (some gx) := grown_to GG hg4
        go_simp
        try rw [hU4]
        refine hK.out _ _ trivial (fun _ => ?_)
        clear hK K
        try simp only [Act.put, List.setIfInBounds_toArray, List.set_cons_zero, List.set_cons_succ]
        clear m12 f12 hU4 hg4 BX
        refine wpAnyH_done (by kernel_rfl) ?_ _
        go_wp2
        go_roundw
        case rel => exact ⟨k + 1, na, nc, by omega, by go_num, BX4, ownA, GG⟩
        case measure => simp [intOf]; omega
      refine AllReadyH.cons (i := 3) rfl (fun K hK => ?_) AllReadyH.nil
      rw [if_pos (by rfl)]
      refine wp_buildC (.tmp 17) rfl rfl ?_
      obtain ⟨U2, hU2⟩ : ∃ V, U1.alloc (.cells #[.int .i64 (-1), .slice none 0 0] 82) = V := ⟨_, rfl⟩
      have TN : Blk U1.heap.size [.int .i64 (-1), .slice none 0 0] U2 := by rw [← hU2]; exact Blk.new _ _ _
      have hb : Below U1.heap.size U1 U2 := by rw [← hU2]; exact (Below.refl _ _).alloc (Nat.le_refl _) _
      rw [hU2]
      clear hU2
      refine hK.out _ _ trivial (fun _ => ?_)
      clear hK K
      try simp only [Act.put, List.setIfInBounds_toArray]
      replace BX := BX.later hb BX.lt
      replace OC := own_later OC hb
      replace GG := grown_to GG (below_grown hb)
      clear hb
      refine wpAnyH_ready (rs := [1]) (by kernel_rfl) (by simp) ?_
      refine AllReadyH.cons (i := 1) rfl (fun K hK => ?_) AllReadyH.nil
      have m12 := BX.at 12 rfl
      go_simp
      refine hK.out _ _ trivial (fun _ => ?_)
      clear hK K
      try simp only [Act.put, List.setIfInBounds_toArray, List.set_cons_zero, List.set_cons_succ]
      clear m12
      refine wpAnyH_ready (rs := [4]) (by kernel_rfl) (by simp) ?_
      refine AllReadyH.cons (i := 4) rfl (fun K hK => ?_) AllReadyH.nil
      rw [if_pos (by rfl)]
      refine wp_append_any U2 (.tmp 16) (.tmp 18) 49 rfl V3.heap.size 82 ic (.agg #[.int .i64 0, .slice none 0 0]) 2 32 Try.underlying49 hic hzc hsc hbc rfl (by decide) _ k (fl cC (k3 k)) rfl OC (some ⟨U1.heap.size, 0, none⟩) 1 1 [.int .i64 (-1), .slice none 0 0] rfl rfl (news_blk TN) (by intro u hu; simp only [List.mem_cons, List.not_mem_nil, or_false] at hu; rcases hu with rfl | rfl <;> rfl) (by unfold maxLen; omega) (by omega) GG.size (by simp) ?_
      intro vA U3 ownA hgA h5
      obtain ⟨na, nc, rfl, _⟩ := own_shape ownA
      have hob : ∀ q, (Value.slice ca k cc).ownBlock = some q → V3.heap.size ≤ q := fun q hq => (OC.lt q hq).1
      replace BX := BX.only3 hgA (fun h => by have := hob _ h; omega) BX.lt
      replace GG := grow_over GG hgA hob
      replace ownA : U3.ownsRow V3.heap.size 82 2 (.slice na (k + 1) nc) (k + 1) (fl cC (k3 (k + 1))) := by rw [show fl cC (k3 (k + 1)) = fl cC (k3 k) ++ [.int .i64 (-1), .slice none 0 0] by rw [show k3 (k + 1) = k3 k ++ [(-1, 0)] from List.replicate_succ', fl_snoc]]; exact ownA
      clear OC TN hgA h5 hob
      refine hK.out _ _ trivial (fun _ => ?_)
      clear hK K
      try simp only [Act.put, List.setIfInBounds_toArray]
      refine take_one 5 20 (v := ?_) rfl rfl (by kernel_rfl) (by kernel_rfl) (by kernel_rfl) (fun _ _ _ h => h) (Or.inl ⟨by rfl, ?_⟩) trivial ?_
      rotate_left
      · intro w' hSw; go_simp; try with_reducible rfl
      try simp only [Act.put]
      refine wpAnyH_ready (rs := [6]) (by kernel_rfl) (by simp) ?_
      refine AllReadyH.cons (i := 6) rfl (fun K hK => ?_) AllReadyH.nil
      have m12 := BX.at 12 rfl
      have f12 := BX.fz 12 rfl
      obtain ⟨U4, hU4⟩ : ∃ V, U3.setCell ⟨gx, 12, none⟩ (.slice na (k + 1) nc) = V := ⟨_, rfl⟩
      have BX4 : Blk gx [.slice y.1.1 y.1.2.2.length y.1.2.1, .slice y.2.1.1 y.2.1.2.2.length y.2.1.2.1, .slice y.2.2.1.1 y.2.2.1.2.2.length y.2.2.1.2.1, .slice y.2.2.2.1.1 y.2.2.2.1.2.2.length y.2.2.2.1.2.1, .int .i64 y.2.2.2.2, .int .i64 0, .int .i64 101, .slice none 0 0, .slice none 0 0, .slice none 0 0, .slice (some ⟨gw, 0, none⟩) 6 6, .slice none 0 0, .slice na (k + 1) nc, .slice none 0 0, .slice none 0 0, .slice none 0 0] U4 := by rw [← hU4]; exact BX.set 12 _
      have hg4 := set_grown U3 gx 12 (.slice na (k + 1) nc)
      rw [hU4] at hg4
      replace ownA : U4.ownsRow V3.heap.size 82 2 (.slice na (k + 1) nc) (k + 1) (fl cC (k3 (k + 1))) := own_far ownA hg4 hgx
      replace GG : V3.grownBy U4 (some gx) := grown_to GG hg4
      go_simp
      try rw [hU4]
      refine hK.out _ _ trivial (fun _ => ?_)
      clear hK K
      try simp only [Act.put, List.setIfInBounds_toArray, List.set_cons_zero, List.set_cons_succ]
      clear m12 f12 hU4 hg4 BX
      refine wpAnyH_done (by kernel_rfl) ?_ _
      go_wp2
      go_roundw
      case rel => exact ⟨k + 1, na, nc, by omega, by go_num, BX4, ownA, GG⟩
      case measure => simp [intOf]; omega
    · obtain rfl : k = 3 := by omega
      clear hlt
      have OYr : OwF (w.heap.size + 2) wr y := ow_kept OY GG N2
      have OWr : FOwn 114 4 cW (w.heap.size + 2) (some ⟨gw, 0, none⟩) 6 w6 wr := own_kept OW GG (fun k e h => by injection h with h; injection (show some gw = some k from e) with e; omega)
      have Rr : Blk (w.heap.size + 1) [.slice none 0 0, .slice none 0 0, .slice none 0 0, .slice none 0 0, .int .i64 0, .int .i64 0, .int .i64 0, .slice none 0 0, .slice none 0 0, .slice none 0 0, .slice none 0 0, .slice none 0 0, .slice none 0 0, .slice none 0 0, .slice none 0 0, .slice none 0 0] wr := R3.only3 GG (fun h => by injection h with h; omega) R3.lt
      have Br : Below w.heap.size w wr := B3.grown GG B3.size (fun k h => by injection h with h; omega)
      have hVs := R3.lt
      have ylt := ow_lt OY
      have hcl : ∀ q, (Value.slice ca 3 cc).ownBlock = some q → V3.heap.size ≤ q := fun q hq => (OC.lt q hq).1
      have hwl := (World.ownsRow.lt OW gw rfl).2
      have AW : ApWd (y, 101, (some ⟨gw, 0, none⟩, 6, w6), (ca, cc, k3 3)) := ⟨AY, fun v hv => ⟨N1 v hv, fun q h1 h2 => by have q1 := ylt v hv q h1; have q2 := hcl q h2; omega⟩, fun q h1 h2 => by have q2 := hcl q h2; injection (show some gw = some q from h1) with h3; omega⟩
      clear OY OW R3 B3 T3 GG
      obtain ⟨VF, hVF⟩ : ∃ V, wr.setCells (w.heap.size + 1) 0 [.slice y.1.1 y.1.2.2.length y.1.2.1, .slice y.2.1.1 y.2.1.2.2.length y.2.1.2.1, .slice y.2.2.1.1 y.2.2.1.2.2.length y.2.2.1.2.1, .slice y.2.2.2.1.1 y.2.2.2.1.2.2.length y.2.2.2.1.2.1, .int .i64 y.2.2.2.2, .int .i64 0, .int .i64 101, .slice none 0 0, .slice none 0 0, .slice none 0 0, .slice (some ⟨gw, 0, none⟩) 6 6, .slice none 0 0, .slice ca 3 cc, .slice none 0 0, .slice none 0 0, .slice none 0 0] = V := ⟨_, rfl⟩
      have TF : Blk (w.heap.size + 1) [.slice y.1.1 y.1.2.2.length y.1.2.1, .slice y.2.1.1 y.2.1.2.2.length y.2.1.2.1, .slice y.2.2.1.1 y.2.2.1.2.2.length y.2.2.1.2.1, .slice y.2.2.2.1.1 y.2.2.2.1.2.2.length y.2.2.2.1.2.1, .int .i64 y.2.2.2.2, .int .i64 0, .int .i64 101, .slice none 0 0, .slice none 0 0, .slice none 0 0, .slice (some ⟨gw, 0, none⟩) 6 6, .slice none 0 0, .slice ca 3 cc, .slice none 0 0, .slice none 0 0, .slice none 0 0] VF := by rw [← hVF]; exact Rr.sets _ rfl
      have BF : Below w.heap.size w VF := by rw [← hVF]; exact below_sets (by omega) _ _ _ Br
      have hgF := sets_grown (w.heap.size + 1) [.slice y.1.1 y.1.2.2.length y.1.2.1, .slice y.2.1.1 y.2.1.2.2.length y.2.1.2.1, .slice y.2.2.1.1 y.2.2.1.2.2.length y.2.2.1.2.1, .slice y.2.2.2.1.1 y.2.2.2.1.2.2.length y.2.2.2.1.2.1, .int .i64 y.2.2.2.2, .int .i64 0, .int .i64 101, .slice none 0 0, .slice none 0 0, .slice none 0 0, .slice (some ⟨gw, 0, none⟩) 6 6, .slice none 0 0, .slice ca 3 cc, .slice none 0 0, .slice none 0 0, .slice none 0 0] 0 wr
      rw [hVF] at hgF
      have OYF : OwF w.heap.size VF y := (OYr.far hgF (by omega)).le (by omega)
      have OWF : FOwn 114 4 cW w.heap.size (some ⟨gw, 0, none⟩) 6 w6 VF := ownsRow_le (own_far OWr hgF (by omega)) (by omega)
      have OCF : FOwn 82 2 cC w.heap.size ca cc (k3 3) VF := ownsRow_le (own_far OC hgF (by omega)) (by omega)
      have hne : w.heap.size + 1 ≠ gx := by omega
      clear OYr OWr OC Br hgF
      go_wp2_with (first | (refine wpList_ldB 53 _ gx 0 _ [.slice y.1.1 y.1.2.2.length y.1.2.1, .slice y.2.1.1 y.2.1.2.2.length y.2.1.2.1, .slice y.2.2.1.1 y.2.2.1.2.2.length y.2.2.1.2.1, .slice y.2.2.2.1.1 y.2.2.2.1.2.2.length y.2.2.2.1.2.1, .int .i64 y.2.2.2.2, .int .i64 0, .int .i64 101, .slice none 0 0, .slice none 0 0, .slice none 0 0, .slice (some ⟨gw, 0, none⟩) 6 6, .slice none 0 0, .slice ca 3 cc, .slice none 0 0, .slice none 0 0, .slice none 0 0] ie hie (Try.isAgg53) BX his.symm rfl rfl rfl rfl ?_) | (refine wpList_stB 53 _ _ (w.heap.size + 1) 0 _ [.slice y.1.1 y.1.2.2.length y.1.2.1, .slice y.2.1.1 y.2.1.2.2.length y.2.1.2.1, .slice y.2.2.1.1 y.2.2.1.2.2.length y.2.2.1.2.1, .slice y.2.2.2.1.1 y.2.2.2.1.2.2.length y.2.2.2.1.2.1, .int .i64 y.2.2.2.2, .int .i64 0, .int .i64 101, .slice none 0 0, .slice none 0 0, .slice none 0 0, .slice (some ⟨gw, 0, none⟩) 6 6, .slice none 0 0, .slice ca 3 cc, .slice none 0 0, .slice none 0 0, .slice none 0 0] ie hie Rr his.symm (by simp) rfl rfl rfl rfl rfl ?_; rw [hVF]) | go_in)
      exact bodyPost_ret (res_B2 rfl _ _ (w.heap.size + 1) [.slice y.1.1 y.1.2.2.length y.1.2.1, .slice y.2.1.1 y.2.1.2.2.length y.2.1.2.1, .slice y.2.2.1.1 y.2.2.1.2.2.length y.2.2.1.2.1, .slice y.2.2.2.1.1 y.2.2.2.1.2.2.length y.2.2.2.1.2.1, .int .i64 y.2.2.2.2, .int .i64 0, .int .i64 101, .slice none 0 0, .slice none 0 0, .slice none 0 0, .slice (some ⟨gw, 0, none⟩) 6 6, .slice none 0 0, .slice ca 3 cc, .slice none 0 0, .slice none 0 0, .slice none 0 0] (.bool true) ie hie (Try.isAgg53) TF his.symm rfl rfl) rfl ⟨(y, 101, (some ⟨gw, 0, none⟩, 6, w6), (ca, cc, k3 3)), by rw [h0]; rfl, by rw [HV.out, ← hs]; rfl, ⟨OYF, OWF, OCF⟩, AW, BF⟩
end Go.Proofs.Ytflajkbbggmdjaa.Nd
