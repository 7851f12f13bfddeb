/- Configs copied. -/
import Derived.Test.YtflajkbbggmdjaaCy1
import Derived.Lib.SliceRun
set_option linter.unusedVariables false
set_option maxRecDepth 100000
namespace Go.Proofs.Ytflajkbbggmdjaa.Nd
open Go Go.RowKit Go.Joins Own Draw

theorem stepB {P : Program} {ops : Array Oper} {o : Oper} {a : Act} {w : World} {K : Act → World → Prop} {Q : Exit → Act → World → Prop} {E : Prop} (ty : TypeId) (x y : Operand) (g off : Nat) (us vs : List Value) (ie : TypeInfo) (hie : P.info? ty = some ie) (h : Blk g us w) (hs : vs.length = ie.size) (hl : off + vs.length ≤ us.length) (h1 : vs.all (·.oneCell') = true)
    (hgd : o.guard = none) (ho : o.op = .store ty x y) (hx : a.eval x = .pointer (some ⟨g, off, none⟩)) (hy : a.eval y = .agg vs.toArray)
    (hn : K (a.put o.dst undef) (w.setCells g off vs)) : if Region.wanted o (yielded ops a.tmps) = true then Oper.wp P o a w K Q else E := by
  rw [if_pos (by simp [Region.wanted, hgd])]
  unfold Oper.wp execOp
  simp only [ho, hx, hy, Instr.storeAt, Instr.sureAddr, Sem.run_bind, Sem.run_pure, Result.andThen_ok, stB ty ie hie vs h hs hl h1]
  exact hn
set_option maxRecDepth 100000 in
set_option maxHeartbeats 3200000 in
theorem specCopy_is (c : TF) (w : World) (hd : DpF w c) (hl : totF c ≤ 1048576) : Calls Try.prog 48 #[vF c] w fun en w' => ∃ y : TF, en = .returned (vF y) ∧ stF y = stF c ∧ OwF w.heap.size w' y ∧ Below w.heap.size w w' := by
  obtain ⟨ie, hie, his⟩ := info_F
  obtain ⟨W1, hW1⟩ : ∃ W1, w.alloc (.cells #[.slice c.1.1 c.1.2.2.length c.1.2.1, .slice c.2.1.1 c.2.1.2.2.length c.2.1.2.1, .slice c.2.2.1.1 c.2.2.1.2.2.length c.2.2.1.2.1, .slice c.2.2.2.1.1 c.2.2.2.1.2.2.length c.2.2.2.1.2.1, .int .i64 c.2.2.2.2] 30) = W1 := ⟨_, rfl⟩
  have B1 : Below w.heap.size w W1 := by rw [← hW1]; exact (Below.refl _ _).alloc (Nat.le_refl _) _
  have T1 : Blk w.heap.size [.slice c.1.1 c.1.2.2.length c.1.2.1, .slice c.2.1.1 c.2.1.2.2.length c.2.1.2.1, .slice c.2.2.1.1 c.2.2.1.2.2.length c.2.2.1.2.1, .slice c.2.2.2.1.1 c.2.2.2.1.2.2.length c.2.2.2.1.2.1, .int .i64 c.2.2.2.2] W1 := by rw [← hW1]; exact Blk.new _ _ _
  have Z1 : W1.heap.size = w.heap.size + 1 := by rw [← hW1]; simp
  obtain ⟨W2, hW2⟩ : ∃ W2, W1.alloc (.cells #[.slice none 0 0, .slice none 0 0, .slice none 0 0, .slice none 0 0, .int .i64 0] 30) = W2 := ⟨_, rfl⟩
  have B2 : Below w.heap.size w W2 := by rw [← hW2]; exact B1.alloc B1.size _
  have T2 : Blk w.heap.size [.slice c.1.1 c.1.2.2.length c.1.2.1, .slice c.2.1.1 c.2.1.2.2.length c.2.1.2.1, .slice c.2.2.1.1 c.2.2.1.2.2.length c.2.2.1.2.1, .slice c.2.2.2.1.1 c.2.2.2.1.2.2.length c.2.2.2.1.2.1, .int .i64 c.2.2.2.2] W2 := by rw [← hW2]; exact T1.alloc (by omega) _
  have R2 : Blk (w.heap.size + 1) [.slice none 0 0, .slice none 0 0, .slice none 0 0, .slice none 0 0, .int .i64 0] W2 := by rw [← hW2, ← Z1]; exact Blk.new _ _ _
  go_enter Try.func48, Try.ntmps48
  go_wp2_with fail
  try rw [hW1]
  try rw [hW2]
  clear hW1 hW2 B1 T1 Z1
  refine wp_region_held_drew (S := S48 c w) (by kernel_rfl) ⟨T2.drew, ⟨_, _, _, _, _, R2.drew⟩, B2.drew⟩ (fun hHeld => ?_)
  refine take_one 1 4 (v := ?_) rfl rfl (by kernel_rfl) (by kernel_rfl) (by kernel_rfl) (fun _ _ _ h => h) (Or.inl ⟨by rfl, ?_⟩) hHeld ?_
  rotate_left
  · intro w' hSw; (try dsimp only at hSw); obtain ⟨z0, z1, z2⟩ := hSw; have c0 := z0.at 0 rfl; have c1 := z0.at 1 rfl; have c2 := z0.at 2 rfl; have c3 := z0.at 3 rfl; have c4 := z0.at 4 rfl; go_simp; try with_reducible rfl
  try simp only [Act.put, List.setIfInBounds_toArray, List.set_cons_zero, List.set_cons_succ]
  refine take_one 2 5 (v := ?_) rfl rfl (by kernel_rfl) (by kernel_rfl) (by kernel_rfl) (fun _ _ _ h => h) (Or.inl ⟨by rfl, ?_⟩) hHeld ?_
  rotate_left
  · intro w' hSw; (try dsimp only at hSw); obtain ⟨z0, z1, z2⟩ := hSw; have c0 := z0.at 0 rfl; have c1 := z0.at 1 rfl; have c2 := z0.at 2 rfl; have c3 := z0.at 3 rfl; have c4 := z0.at 4 rfl; go_simp; try with_reducible rfl
  try simp only [Act.put, List.setIfInBounds_toArray, List.set_cons_zero, List.set_cons_succ]
  refine take_one 5 8 (v := ?_) rfl rfl (by kernel_rfl) (by kernel_rfl) (by kernel_rfl) (fun _ _ _ h => h) (Or.inl ⟨by rfl, ?_⟩) hHeld ?_
  rotate_left
  · intro w' hSw; (try dsimp only at hSw); obtain ⟨z0, z1, z2⟩ := hSw; have c0 := z0.at 0 rfl; have c1 := z0.at 1 rfl; have c2 := z0.at 2 rfl; have c3 := z0.at 3 rfl; have c4 := z0.at 4 rfl; go_simp; try with_reducible rfl
  try simp only [Act.put, List.setIfInBounds_toArray, List.set_cons_zero, List.set_cons_succ]
  refine take_one 6 9 (v := ?_) rfl rfl (by kernel_rfl) (by kernel_rfl) (by kernel_rfl) (fun _ _ _ h => h) (Or.inl ⟨by rfl, ?_⟩) hHeld ?_
  rotate_left
  · intro w' hSw; (try dsimp only at hSw); obtain ⟨z0, z1, z2⟩ := hSw; have c0 := z0.at 0 rfl; have c1 := z0.at 1 rfl; have c2 := z0.at 2 rfl; have c3 := z0.at 3 rfl; have c4 := z0.at 4 rfl; go_simp; try with_reducible rfl
  try simp only [Act.put, List.setIfInBounds_toArray, List.set_cons_zero, List.set_cons_succ]
  refine take_one 9 12 (v := ?_) rfl rfl (by kernel_rfl) (by kernel_rfl) (by kernel_rfl) (fun _ _ _ h => h) (Or.inl ⟨by rfl, ?_⟩) hHeld ?_
  rotate_left
  · intro w' hSw; (try dsimp only at hSw); obtain ⟨z0, z1, z2⟩ := hSw; have c0 := z0.at 0 rfl; have c1 := z0.at 1 rfl; have c2 := z0.at 2 rfl; have c3 := z0.at 3 rfl; have c4 := z0.at 4 rfl; go_simp; try with_reducible rfl
  try simp only [Act.put, List.setIfInBounds_toArray, List.set_cons_zero, List.set_cons_succ]
  refine take_one 10 13 (v := ?_) rfl rfl (by kernel_rfl) (by kernel_rfl) (by kernel_rfl) (fun _ _ _ h => h) (Or.inl ⟨by rfl, ?_⟩) hHeld ?_
  rotate_left
  · intro w' hSw; (try dsimp only at hSw); obtain ⟨z0, z1, z2⟩ := hSw; have c0 := z0.at 0 rfl; have c1 := z0.at 1 rfl; have c2 := z0.at 2 rfl; have c3 := z0.at 3 rfl; have c4 := z0.at 4 rfl; go_simp; try with_reducible rfl
  try simp only [Act.put, List.setIfInBounds_toArray, List.set_cons_zero, List.set_cons_succ]
  refine take_one 13 16 (v := ?_) rfl rfl (by kernel_rfl) (by kernel_rfl) (by kernel_rfl) (fun _ _ _ h => h) (Or.inl ⟨by rfl, ?_⟩) hHeld ?_
  rotate_left
  · intro w' hSw; (try dsimp only at hSw); obtain ⟨z0, z1, z2⟩ := hSw; have c0 := z0.at 0 rfl; have c1 := z0.at 1 rfl; have c2 := z0.at 2 rfl; have c3 := z0.at 3 rfl; have c4 := z0.at 4 rfl; go_simp; try with_reducible rfl
  try simp only [Act.put, List.setIfInBounds_toArray, List.set_cons_zero, List.set_cons_succ]
  refine take_one 14 17 (v := ?_) rfl rfl (by kernel_rfl) (by kernel_rfl) (by kernel_rfl) (fun _ _ _ h => h) (Or.inl ⟨by rfl, ?_⟩) hHeld ?_
  rotate_left
  · intro w' hSw; (try dsimp only at hSw); obtain ⟨z0, z1, z2⟩ := hSw; have c0 := z0.at 0 rfl; have c1 := z0.at 1 rfl; have c2 := z0.at 2 rfl; have c3 := z0.at 3 rfl; have c4 := z0.at 4 rfl; go_simp; try with_reducible rfl
  try simp only [Act.put, List.setIfInBounds_toArray, List.set_cons_zero, List.set_cons_succ]
  refine take_one 16 19 (v := ?_) rfl rfl (by kernel_rfl) (by kernel_rfl) (by kernel_rfl) (fun _ _ _ h => h) (Or.inl ⟨by rfl, ?_⟩) hHeld ?_
  rotate_left
  · intro w' hSw; (try dsimp only at hSw); obtain ⟨z0, z1, z2⟩ := hSw; have c0 := z0.at 0 rfl; have c1 := z0.at 1 rfl; have c2 := z0.at 2 rfl; have c3 := z0.at 3 rfl; have c4 := z0.at 4 rfl; go_simp; try with_reducible rfl
  try simp only [Act.put, List.setIfInBounds_toArray, List.set_cons_zero, List.set_cons_succ]
  refine take_one 17 20 (v := ?_) rfl rfl (by kernel_rfl) (by kernel_rfl) (by kernel_rfl) (fun _ _ _ h => h) (Or.inl ⟨by rfl, ?_⟩) hHeld ?_
  rotate_left
  · intro w' hSw; (try dsimp only at hSw); obtain ⟨z0, z1, z2⟩ := hSw; have c0 := z0.at 0 rfl; have c1 := z0.at 1 rfl; have c2 := z0.at 2 rfl; have c3 := z0.at 3 rfl; have c4 := z0.at 4 rfl; go_simp; try with_reducible rfl
  try simp only [Act.put, List.setIfInBounds_toArray, List.set_cons_zero, List.set_cons_succ]
  refine s0000 _ c w hd hl ?_ W2.drew hHeld
  intro b0 a0 c0 b1 a1 c1 b2 a2 c2 b3 a3 c3 U hS O0 O1 O2 O3
  clear hHeld T2 R2 B2
  have hHeld := hS
  obtain ⟨T, ⟨x0, x1, x2, x3, x4, R⟩, B⟩ := hS
  unfold St ops48
  refine take_one 18 21 (v := .agg #[.slice a0 c.1.2.2.length c0, .slice a1 c.2.1.2.2.length c1, .slice a2 c.2.2.1.2.2.length c2, .slice a3 c.2.2.2.1.2.2.length c3, .int .i64 c.2.2.2.2]) rfl rfl (by kernel_rfl) (by kernel_rfl) (by kernel_rfl) (fun _ _ _ h => h) (Or.inl ⟨by rfl, ?_⟩) hHeld ?_
  · intro w' hSw; (try dsimp only at hSw); go_simp; try with_reducible rfl
  try simp only [Act.put, List.setIfInBounds_toArray, List.set_cons_zero, List.set_cons_succ]
  refine wpAnyH_ready (rs := [19]) (by kernel_rfl) (by simp) ?_
  refine AllReadyH.cons (i := 19) rfl (fun K hK => ?_) AllReadyH.nil
  have hU := R.lt
  obtain ⟨VF, hVF⟩ : ∃ V, U.setCells (w.heap.size + 1) 0 [.slice a0 c.1.2.2.length c0, .slice a1 c.2.1.2.2.length c1, .slice a2 c.2.2.1.2.2.length c2, .slice a3 c.2.2.2.1.2.2.length c3, .int .i64 c.2.2.2.2] = V := ⟨_, rfl⟩
  have TF : Blk (w.heap.size + 1) [.slice a0 c.1.2.2.length c0, .slice a1 c.2.1.2.2.length c1, .slice a2 c.2.2.1.2.2.length c2, .slice a3 c.2.2.2.1.2.2.length c3, .int .i64 c.2.2.2.2] VF := by rw [← hVF]; exact R.sets _ rfl
  have TT : Blk w.heap.size [.slice c.1.1 c.1.2.2.length c.1.2.1, .slice c.2.1.1 c.2.1.2.2.length c.2.1.2.1, .slice c.2.2.1.1 c.2.2.1.2.2.length c.2.2.1.2.1, .slice c.2.2.2.1.1 c.2.2.2.1.2.2.length c.2.2.2.1.2.1, .int .i64 c.2.2.2.2] VF := by rw [← hVF]; exact Blk.farS (by omega) _ _ _ T
  have BF : Below w.heap.size w VF := by rw [← hVF]; exact below_sets (by omega) _ _ _ B
  have hw0 := own_far O0 (sets_grown (w.heap.size + 1) [.slice a0 c.1.2.2.length c0, .slice a1 c.2.1.2.2.length c1, .slice a2 c.2.2.1.2.2.length c2, .slice a3 c.2.2.2.1.2.2.length c3, .int .i64 c.2.2.2.2] 0 U) (by omega)
  have hw1 := own_far O1 (sets_grown (w.heap.size + 1) [.slice a0 c.1.2.2.length c0, .slice a1 c.2.1.2.2.length c1, .slice a2 c.2.2.1.2.2.length c2, .slice a3 c.2.2.2.1.2.2.length c3, .int .i64 c.2.2.2.2] 0 U) (by omega)
  have hw2 := own_far O2 (sets_grown (w.heap.size + 1) [.slice a0 c.1.2.2.length c0, .slice a1 c.2.1.2.2.length c1, .slice a2 c.2.2.1.2.2.length c2, .slice a3 c.2.2.2.1.2.2.length c3, .int .i64 c.2.2.2.2] 0 U) (by omega)
  have hw3 := own_far O3 (sets_grown (w.heap.size + 1) [.slice a0 c.1.2.2.length c0, .slice a1 c.2.1.2.2.length c1, .slice a2 c.2.2.1.2.2.length c2, .slice a3 c.2.2.2.1.2.2.length c3, .int .i64 c.2.2.2.2] 0 U) (by omega)
  rw [hVF] at hw0 hw1 hw2 hw3
  refine stepB 30 _ _ (w.heap.size + 1) 0 _ [.slice a0 c.1.2.2.length c0, .slice a1 c.2.1.2.2.length c1, .slice a2 c.2.2.1.2.2.length c2, .slice a3 c.2.2.2.1.2.2.length c3, .int .i64 c.2.2.2.2] ie hie R his.symm (by simp) rfl rfl rfl rfl rfl ?_
  rw [hVF]
  refine hK.out _ _ ⟨TT, ⟨_, _, _, _, _, TF⟩, BF⟩ (fun hHeld2 => ?_)
  clear hK K hHeld hHeld2
  try simp only [Act.put, List.setIfInBounds_toArray, List.set_cons_zero, List.set_cons_succ]
  refine wpAnyH_done (by kernel_rfl) ?_ _
  clear T R B O0 O1 O2 O3 TT hU hVF
  go_wp2_with fail
  exact bodyPost_ret (res_B1 rfl _ _ (w.heap.size + 1) [.slice a0 c.1.2.2.length c0, .slice a1 c.2.1.2.2.length c1, .slice a2 c.2.2.1.2.2.length c2, .slice a3 c.2.2.2.1.2.2.length c3, .int .i64 c.2.2.2.2] ie hie (Try.isAgg30) TF his.symm rfl) rfl ⟨((a0, c0, c.1.2.2), (a1, c1, c.2.1.2.2), (a2, c2, c.2.2.1.2.2), (a3, c3, c.2.2.2.1.2.2), c.2.2.2.2), rfl, rfl, ⟨ownsRow_le hw0 (by omega), ownsRow_le hw1 (by omega), ownsRow_le hw2 (by omega), ownsRow_le hw3 (by omega)⟩, BF⟩
end Go.Proofs.Ytflajkbbggmdjaa.Nd

set_option linter.unusedVariables false
set_option maxRecDepth 100000
namespace Go.Proofs.Ytflajkbbggmdjaa.Nd
open Go Go.RowKit Go.Joins Own Draw

set_option maxRecDepth 100000 in
set_option maxHeartbeats 1600000 in
theorem cloneI_is (r : Rw Int) (w : World) (hr : RpI w r) (hc : r.1 = none → r.2.1 = 0) (hl : r.2.2.length ≤ 1048576) : Calls Try.prog 87 #[.slice r.1 r.2.2.length r.2.1] w fun en w' => ∃ (a : Option Addr) (k : Nat), en = .returned (.slice a r.2.2.length k) ∧ RoI w.heap.size w' (a, k, r.2.2) ∧ Below w.heap.size w w' := by
  obtain ⟨ra, rc, rs⟩ := r
  obtain ⟨i0, hi, hz0, hz1, hz2⟩ := info_parts infoInt
  have q24 : ∀ (w : World) (a : Option Addr) (n c n' c' : Nat), (binOp .eql 22 (.slice a n c) (.slice none n' c')).run Try.prog w = .ok (.bool a.isNone) w := fun w a n c n' c' => Lib.run_eql_slice_nil w _ _ a n c n' c' Try.underlying22
  dsimp only at hr hc hl ⊢
  cases ra with
  | none =>
    have h0 : rs.length = 0 := row_nil hr rfl
    obtain rfl := List.eq_nil_of_length_eq_zero h0
    obtain rfl := hc rfl
    go_enter Try.func87, Try.ntmps87
    go_wp2
    go_ret
    exact ⟨none, 0, rfl, World.ownsRow_nil _ _ _ _, Below.refl _ _⟩
  | some ad =>
    have O0 : (w.alloc (.cells #[] 3)).ownsRow w.heap.size 3 1 (.slice (some ⟨w.heap.size, 0, none⟩) 0 0) 0 [] := World.ownsRow_lit _ _ _ (Nat.le_refl _) (by simp [maxLen]) rfl
    have hb : Below w.heap.size w (w.alloc (.cells #[] 3)) := (Below.refl _ _).alloc (Nat.le_refl _) _
    have hr2 := RpI.later hr hb
    have hnw := news_row hr2
    have hsz : (w.alloc (.cells #[] 3)).heap.size = w.heap.size + 1 := by simp
    go_enter Try.func87, Try.ntmps87
    go_wp2_with (first | (at_builtin; refine wpList_append_row _ rfl _ _ 22 rfl w.heap.size 3 i0 _ 1 8 Try.underlying22 hi hz0 hz1 hz2 rfl (by decide) _ _ _ rfl O0 (some ad) rs.length rc (rs.map (Value.int .i64)) rfl ?c1 hnw (one_ints _) ?c3 ?c4 ?c5 (by simp) ?_) | go_in)
    try (case c1 => simp)
    try (case c3 => unfold maxLen; omega)
    try (case c4 => omega)
    try (case c5 => omega)
    intro vA wA ownA hgA
    try rw [Nat.zero_add, List.nil_append] at ownA
    obtain ⟨na, nc, rfl, _⟩ := own_shape ownA
    have hob : ∀ k, (Value.slice (some ⟨w.heap.size, 0, none⟩) 0 0).ownBlock = some k → w.heap.size ≤ k := fun k hk => (O0.lt k hk).1
    have hB : Below w.heap.size w wA := hb.grown hgA (by omega) (by intro k hk; exact hob _ hk)
    clear O0 hgA hob hnw hr2 hb hsz hr hc
    go_wp2
    go_ret
    exact ⟨na, nc, rfl, ownA, hB⟩
set_option maxRecDepth 100000 in
set_option maxHeartbeats 1600000 in
theorem cloneP_is (r : Rw TP) (w : World) (hr : RpP w r) (hc : r.1 = none → r.2.1 = 0) (hl : r.2.2.length ≤ 1048576) : Calls Try.prog 88 #[.slice r.1 r.2.2.length r.2.1] w fun en w' => ∃ (a : Option Addr) (k : Nat), en = .returned (.slice a r.2.2.length k) ∧ RoP w.heap.size w' (a, k, r.2.2) ∧ Below w.heap.size w w' := by
  obtain ⟨ra, rc, rs⟩ := r
  obtain ⟨i0, hi, hz0, hz1, hz2⟩ := info_parts infoP
  have q24 : ∀ (w : World) (a : Option Addr) (n c n' c' : Nat), (binOp .eql 28 (.slice a n c) (.slice none n' c')).run Try.prog w = .ok (.bool a.isNone) w := fun w a n c n' c' => Lib.run_eql_slice_nil w _ _ a n c n' c' Try.underlying28
  dsimp only at hr hc hl ⊢
  cases ra with
  | none =>
    have h0 : rs.length = 0 := frow_nil hr rfl
    obtain rfl := List.eq_nil_of_length_eq_zero h0
    obtain rfl := hc rfl
    go_enter Try.func88, Try.ntmps88
    go_wp2
    go_ret
    exact ⟨none, 0, rfl, World.ownsRow_nil _ _ _ _, Below.refl _ _⟩
  | some ad =>
    have O0 : (w.alloc (.cells #[] 100)).ownsRow w.heap.size 100 2 (.slice (some ⟨w.heap.size, 0, none⟩) 0 0) 0 [] := World.ownsRow_lit _ _ _ (Nat.le_refl _) (by simp [maxLen]) rfl
    have hb : Below w.heap.size w (w.alloc (.cells #[] 100)) := (Below.refl _ _).alloc (Nat.le_refl _) _
    have hr2 := RpP.later hr hb
    have hnw := news_fl lP (by omega) hr2
    have hsz : (w.alloc (.cells #[] 100)).heap.size = w.heap.size + 1 := by simp
    go_enter Try.func88, Try.ntmps88
    go_wp2_with (first | (at_builtin; refine wpList_append_row _ rfl _ _ 28 rfl w.heap.size 100 i0 _ 2 16 Try.underlying28 hi hz0 hz1 hz2 rfl (by decide) _ _ _ rfl O0 (some ad) rs.length rc (fl cP rs) rfl ?c1 hnw (one_pairs _) ?c3 ?c4 ?c5 (by simp) ?_) | go_in)
    try (case c1 => rw [fl_len lP])
    try (case c3 => unfold maxLen; omega)
    try (case c4 => omega)
    try (case c5 => omega)
    intro vA wA ownA hgA
    try rw [Nat.zero_add, List.nil_append] at ownA
    obtain ⟨na, nc, rfl, _⟩ := own_shape ownA
    have hob : ∀ k, (Value.slice (some ⟨w.heap.size, 0, none⟩) 0 0).ownBlock = some k → w.heap.size ≤ k := fun k hk => (O0.lt k hk).1
    have hB : Below w.heap.size w wA := hb.grown hgA (by omega) (by intro k hk; exact hob _ hk)
    clear O0 hgA hob hnw hr2 hb hsz hr hc
    go_wp2
    go_ret
    exact ⟨na, nc, rfl, ownA, hB⟩
end Go.Proofs.Ytflajkbbggmdjaa.Nd

set_option linter.unusedVariables false
set_option maxRecDepth 100000
namespace Go.Proofs.Ytflajkbbggmdjaa.Nd
open Go Go.RowKit Go.Joins Own Draw

def ApF (y : TF) : Prop := Ap (.slice y.1.1 y.1.2.2.length y.1.2.1) (.slice y.2.1.1 y.2.1.2.2.length y.2.1.2.1) ∧ Ap (.slice y.1.1 y.1.2.2.length y.1.2.1) (.slice y.2.2.1.1 y.2.2.1.2.2.length y.2.2.1.2.1) ∧ Ap (.slice y.1.1 y.1.2.2.length y.1.2.1) (.slice y.2.2.2.1.1 y.2.2.2.1.2.2.length y.2.2.2.1.2.1) ∧ Ap (.slice y.2.1.1 y.2.1.2.2.length y.2.1.2.1) (.slice y.2.2.1.1 y.2.2.1.2.2.length y.2.2.1.2.1) ∧ Ap (.slice y.2.1.1 y.2.1.2.2.length y.2.1.2.1) (.slice y.2.2.2.1.1 y.2.2.2.1.2.2.length y.2.2.2.1.2.1) ∧ Ap (.slice y.2.2.1.1 y.2.2.1.2.2.length y.2.2.1.2.1) (.slice y.2.2.2.1.1 y.2.2.2.1.2.2.length y.2.2.2.1.2.1)
def NilF (c : TF) : Prop := (c.1.1 = none → c.1.2.1 = 0) ∧ (c.2.1.1 = none → c.2.1.2.1 = 0) ∧ (c.2.2.1.1 = none → c.2.2.1.2.1 = 0) ∧ (c.2.2.2.1.1 = none → c.2.2.2.1.2.1 = 0)
set_option maxRecDepth 100000 in
set_option maxHeartbeats 3200000 in
theorem implCopy_is (c : TF) (w : World) (hd : DpF w c) (hn : NilF c) (hl : totF c ≤ 1048576) : Calls Try.prog 50 #[vF c] w fun en w' => ∃ y : TF, en = .returned (vF y) ∧ stF y = stF c ∧ OwF w.heap.size w' y ∧ ApF y ∧ Below w.heap.size w w' := by
  obtain ⟨ie, hie, his⟩ := info_F
  obtain ⟨W1, hW1⟩ : ∃ W1, w.alloc (.cells #[.slice c.1.1 c.1.2.2.length c.1.2.1, .slice c.2.1.1 c.2.1.2.2.length c.2.1.2.1, .slice c.2.2.1.1 c.2.2.1.2.2.length c.2.2.1.2.1, .slice c.2.2.2.1.1 c.2.2.2.1.2.2.length c.2.2.2.1.2.1, .int .i64 c.2.2.2.2] 30) = W1 := ⟨_, rfl⟩
  have B1 : Below w.heap.size w W1 := by rw [← hW1]; exact (Below.refl _ _).alloc (Nat.le_refl _) _
  have T1 : Blk w.heap.size [.slice c.1.1 c.1.2.2.length c.1.2.1, .slice c.2.1.1 c.2.1.2.2.length c.2.1.2.1, .slice c.2.2.1.1 c.2.2.1.2.2.length c.2.2.1.2.1, .slice c.2.2.2.1.1 c.2.2.2.1.2.2.length c.2.2.2.1.2.1, .int .i64 c.2.2.2.2] W1 := by rw [← hW1]; exact Blk.new _ _ _
  have Z1 : W1.heap.size = w.heap.size + 1 := by rw [← hW1]; simp
  obtain ⟨W2, hW2⟩ : ∃ W2, W1.alloc (.cells #[.slice none 0 0, .slice none 0 0, .slice none 0 0, .slice none 0 0, .int .i64 0] 30) = W2 := ⟨_, rfl⟩
  have B2 : Below w.heap.size w W2 := by rw [← hW2]; exact B1.alloc B1.size _
  have T2 : Blk w.heap.size [.slice c.1.1 c.1.2.2.length c.1.2.1, .slice c.2.1.1 c.2.1.2.2.length c.2.1.2.1, .slice c.2.2.1.1 c.2.2.1.2.2.length c.2.2.1.2.1, .slice c.2.2.2.1.1 c.2.2.2.1.2.2.length c.2.2.2.1.2.1, .int .i64 c.2.2.2.2] W2 := by rw [← hW2]; exact T1.alloc (by omega) _
  have R2 : Blk (w.heap.size + 1) [.slice none 0 0, .slice none 0 0, .slice none 0 0, .slice none 0 0, .int .i64 0] W2 := by rw [← hW2, ← Z1]; exact Blk.new _ _ _
  go_enter Try.func50, Try.ntmps50
  go_wp2_with fail
  try rw [hW1]
  try rw [hW2]
  clear hW1 hW2 B1 T1 Z1
  have hl0 : c.1.2.2.length ≤ 1048576 := by unfold totF rtI rtP at hl; omega
  have hl1 : c.2.1.2.2.length ≤ 1048576 := by unfold totF rtI rtP at hl; omega
  have hl2 : c.2.2.1.2.2.length ≤ 1048576 := by unfold totF rtI rtP at hl; omega
  have hl3 : c.2.2.2.1.2.2.length ≤ 1048576 := by unfold totF rtI rtP at hl; omega
  have Z2 := R2.lt
  refine wp_region_held_drew (S := S48 c w) (by kernel_rfl) ⟨T2.drew, ⟨_, _, _, _, _, R2.drew⟩, B2.drew⟩ (fun hHeld => ?_)
  refine take_one 0 3 (v := ?_) rfl rfl (by kernel_rfl) (by kernel_rfl) (by kernel_rfl) (fun _ _ _ h => h) (Or.inl ⟨by rfl, ?_⟩) hHeld ?_
  rotate_left
  · intro w' hSw; (try dsimp only at hSw); obtain ⟨z0, z1, z2⟩ := hSw; have c0 := z0.at 0 rfl; have c1 := z0.at 1 rfl; have c2 := z0.at 2 rfl; have c3 := z0.at 3 rfl; have c4 := z0.at 4 rfl; go_simp; try with_reducible rfl
  try simp only [Act.put, List.setIfInBounds_toArray, List.set_cons_zero, List.set_cons_succ]
  refine take_one 1 4 (v := ?_) rfl rfl (by kernel_rfl) (by kernel_rfl) (by kernel_rfl) (fun _ _ _ h => h) (Or.inl ⟨by rfl, ?_⟩) hHeld ?_
  rotate_left
  · intro w' hSw; (try dsimp only at hSw); obtain ⟨z0, z1, z2⟩ := hSw; have c0 := z0.at 0 rfl; have c1 := z0.at 1 rfl; have c2 := z0.at 2 rfl; have c3 := z0.at 3 rfl; have c4 := z0.at 4 rfl; go_simp; try with_reducible rfl
  try simp only [Act.put, List.setIfInBounds_toArray, List.set_cons_zero, List.set_cons_succ]
  refine take_one 3 6 (v := ?_) rfl rfl (by kernel_rfl) (by kernel_rfl) (by kernel_rfl) (fun _ _ _ h => h) (Or.inl ⟨by rfl, ?_⟩) hHeld ?_
  rotate_left
  · intro w' hSw; (try dsimp only at hSw); obtain ⟨z0, z1, z2⟩ := hSw; have c0 := z0.at 0 rfl; have c1 := z0.at 1 rfl; have c2 := z0.at 2 rfl; have c3 := z0.at 3 rfl; have c4 := z0.at 4 rfl; go_simp; try with_reducible rfl
  try simp only [Act.put, List.setIfInBounds_toArray, List.set_cons_zero, List.set_cons_succ]
  refine take_one 4 7 (v := ?_) rfl rfl (by kernel_rfl) (by kernel_rfl) (by kernel_rfl) (fun _ _ _ h => h) (Or.inl ⟨by rfl, ?_⟩) hHeld ?_
  rotate_left
  · intro w' hSw; (try dsimp only at hSw); obtain ⟨z0, z1, z2⟩ := hSw; have c0 := z0.at 0 rfl; have c1 := z0.at 1 rfl; have c2 := z0.at 2 rfl; have c3 := z0.at 3 rfl; have c4 := z0.at 4 rfl; go_simp; try with_reducible rfl
  try simp only [Act.put, List.setIfInBounds_toArray, List.set_cons_zero, List.set_cons_succ]
  refine take_one 6 9 (v := ?_) rfl rfl (by kernel_rfl) (by kernel_rfl) (by kernel_rfl) (fun _ _ _ h => h) (Or.inl ⟨by rfl, ?_⟩) hHeld ?_
  rotate_left
  · intro w' hSw; (try dsimp only at hSw); obtain ⟨z0, z1, z2⟩ := hSw; have c0 := z0.at 0 rfl; have c1 := z0.at 1 rfl; have c2 := z0.at 2 rfl; have c3 := z0.at 3 rfl; have c4 := z0.at 4 rfl; go_simp; try with_reducible rfl
  try simp only [Act.put, List.setIfInBounds_toArray, List.set_cons_zero, List.set_cons_succ]
  refine take_one 7 10 (v := ?_) rfl rfl (by kernel_rfl) (by kernel_rfl) (by kernel_rfl) (fun _ _ _ h => h) (Or.inl ⟨by rfl, ?_⟩) hHeld ?_
  rotate_left
  · intro w' hSw; (try dsimp only at hSw); obtain ⟨z0, z1, z2⟩ := hSw; have c0 := z0.at 0 rfl; have c1 := z0.at 1 rfl; have c2 := z0.at 2 rfl; have c3 := z0.at 3 rfl; have c4 := z0.at 4 rfl; go_simp; try with_reducible rfl
  try simp only [Act.put, List.setIfInBounds_toArray, List.set_cons_zero, List.set_cons_succ]
  refine take_one 9 12 (v := ?_) rfl rfl (by kernel_rfl) (by kernel_rfl) (by kernel_rfl) (fun _ _ _ h => h) (Or.inl ⟨by rfl, ?_⟩) hHeld ?_
  rotate_left
  · intro w' hSw; (try dsimp only at hSw); obtain ⟨z0, z1, z2⟩ := hSw; have c0 := z0.at 0 rfl; have c1 := z0.at 1 rfl; have c2 := z0.at 2 rfl; have c3 := z0.at 3 rfl; have c4 := z0.at 4 rfl; go_simp; try with_reducible rfl
  try simp only [Act.put, List.setIfInBounds_toArray, List.set_cons_zero, List.set_cons_succ]
  refine take_one 10 13 (v := ?_) rfl rfl (by kernel_rfl) (by kernel_rfl) (by kernel_rfl) (fun _ _ _ h => h) (Or.inl ⟨by rfl, ?_⟩) hHeld ?_
  rotate_left
  · intro w' hSw; (try dsimp only at hSw); obtain ⟨z0, z1, z2⟩ := hSw; have c0 := z0.at 0 rfl; have c1 := z0.at 1 rfl; have c2 := z0.at 2 rfl; have c3 := z0.at 3 rfl; have c4 := z0.at 4 rfl; go_simp; try with_reducible rfl
  try simp only [Act.put, List.setIfInBounds_toArray, List.set_cons_zero, List.set_cons_succ]
  refine take_one 12 15 (v := ?_) rfl rfl (by kernel_rfl) (by kernel_rfl) (by kernel_rfl) (fun _ _ _ h => h) (Or.inl ⟨by rfl, ?_⟩) hHeld ?_
  rotate_left
  · intro w' hSw; (try dsimp only at hSw); obtain ⟨z0, z1, z2⟩ := hSw; have c0 := z0.at 0 rfl; have c1 := z0.at 1 rfl; have c2 := z0.at 2 rfl; have c3 := z0.at 3 rfl; have c4 := z0.at 4 rfl; go_simp; try with_reducible rfl
  try simp only [Act.put, List.setIfInBounds_toArray, List.set_cons_zero, List.set_cons_succ]
  refine take_one 13 16 (v := ?_) rfl rfl (by kernel_rfl) (by kernel_rfl) (by kernel_rfl) (fun _ _ _ h => h) (Or.inl ⟨by rfl, ?_⟩) hHeld ?_
  rotate_left
  · intro w' hSw; (try dsimp only at hSw); obtain ⟨z0, z1, z2⟩ := hSw; have c0 := z0.at 0 rfl; have c1 := z0.at 1 rfl; have c2 := z0.at 2 rfl; have c3 := z0.at 3 rfl; have c4 := z0.at 4 rfl; go_simp; try with_reducible rfl
  try simp only [Act.put, List.setIfInBounds_toArray, List.set_cons_zero, List.set_cons_succ]
  clear hHeld
  have hHeld : S48 c w W2.drew := ⟨T2.drew, ⟨_, _, _, _, _, R2.drew⟩, B2.drew⟩
  obtain ⟨T, ⟨x0, x1, x2, x3, x4, R⟩, B⟩ := hHeld
  replace Z2 : w.heap.size + 2 ≤ W2.drew.heap.size := Z2
  clear T2 R2 B2
  refine wpAnyH_ready (rs := [2]) (by kernel_rfl) (by simp) ?_
  refine AllReadyH.cons (i := 2) rfl (fun K hK => ?_) AllReadyH.nil
  go_simp
  refine (cloneI_is c.1 W2.drew (RpI.later hd.1 B) hn.1 hl0).mono ?_
  rintro en u0 ⟨a0, c0, rfl, O0, hb⟩
  go_wp2_with fail
  have T' := T.later hb T.lt
  have R' := R.later hb R.lt
  have B' := B.trans (hb.mono B.size)
  refine hK.out _ _ ⟨T', ⟨_, _, _, _, _, R'⟩, B'⟩ (fun hHeld2 => ?_)
  clear hK K hHeld2
  clear T R B
  have T := T'
  have R := R'
  have B := B'
  clear T' R' B'
  replace O0 : u0.ownsRow (w.heap.size + 2) 3 1 (.slice a0 c.1.2.2.length c0) c.1.2.2.length (c.1.2.2.map (Value.int .i64)) := ownsRow_le O0 (by omega)
  replace Z2 : w.heap.size + 2 ≤ u0.heap.size := Nat.le_trans Z2 hb.size
  clear hb
  try simp only [Act.put, List.setIfInBounds_toArray, List.set_cons_zero, List.set_cons_succ]
  refine wpAnyH_ready (rs := [5]) (by kernel_rfl) (by simp) ?_
  refine AllReadyH.cons (i := 5) rfl (fun K hK => ?_) AllReadyH.nil
  go_simp
  refine (cloneI_is c.2.1 u0 (RpI.later hd.2.1 B) hn.2.1 hl1).mono ?_
  rintro en u1 ⟨a1, c1, rfl, O1, hb⟩
  have A01 : Ap (.slice a0 c.1.2.2.length c0) (.slice a1 c.2.1.2.2.length c1) := fun k h1 h2 => by have p1 := (O0.lt k h1).2; have p2 := (World.ownsRow.lt O1 k h2).1; omega
  go_wp2_with fail
  have T' := T.later hb T.lt
  have R' := R.later hb R.lt
  have B' := B.trans (hb.mono B.size)
  refine hK.out _ _ ⟨T', ⟨_, _, _, _, _, R'⟩, B'⟩ (fun hHeld2 => ?_)
  clear hK K hHeld2
  clear T R B
  have T := T'
  have R := R'
  have B := B'
  clear T' R' B'
  replace O1 : u1.ownsRow (w.heap.size + 2) 3 1 (.slice a1 c.2.1.2.2.length c1) c.2.1.2.2.length (c.2.1.2.2.map (Value.int .i64)) := ownsRow_le O1 (by omega)
  replace O0 := own_later O0 hb
  replace Z2 : w.heap.size + 2 ≤ u1.heap.size := Nat.le_trans Z2 hb.size
  clear hb
  try simp only [Act.put, List.setIfInBounds_toArray, List.set_cons_zero, List.set_cons_succ]
  refine wpAnyH_ready (rs := [8]) (by kernel_rfl) (by simp) ?_
  refine AllReadyH.cons (i := 8) rfl (fun K hK => ?_) AllReadyH.nil
  go_simp
  refine (cloneP_is c.2.2.1 u1 (RpP.later hd.2.2.1 B) hn.2.2.1 hl2).mono ?_
  rintro en u2 ⟨a2, c2, rfl, O2, hb⟩
  have A02 : Ap (.slice a0 c.1.2.2.length c0) (.slice a2 c.2.2.1.2.2.length c2) := fun k h1 h2 => by have p1 := (O0.lt k h1).2; have p2 := (World.ownsRow.lt O2 k h2).1; omega
  have A12 : Ap (.slice a1 c.2.1.2.2.length c1) (.slice a2 c.2.2.1.2.2.length c2) := fun k h1 h2 => by have p1 := (O1.lt k h1).2; have p2 := (World.ownsRow.lt O2 k h2).1; omega
  go_wp2_with fail
  have T' := T.later hb T.lt
  have R' := R.later hb R.lt
  have B' := B.trans (hb.mono B.size)
  refine hK.out _ _ ⟨T', ⟨_, _, _, _, _, R'⟩, B'⟩ (fun hHeld2 => ?_)
  clear hK K hHeld2
  clear T R B
  have T := T'
  have R := R'
  have B := B'
  clear T' R' B'
  replace O2 : u2.ownsRow (w.heap.size + 2) 100 2 (.slice a2 c.2.2.1.2.2.length c2) c.2.2.1.2.2.length (fl cP c.2.2.1.2.2) := ownsRow_le O2 (by omega)
  replace O0 := own_later O0 hb
  replace O1 := own_later O1 hb
  replace Z2 : w.heap.size + 2 ≤ u2.heap.size := Nat.le_trans Z2 hb.size
  clear hb
  try simp only [Act.put, List.setIfInBounds_toArray, List.set_cons_zero, List.set_cons_succ]
  refine wpAnyH_ready (rs := [11]) (by kernel_rfl) (by simp) ?_
  refine AllReadyH.cons (i := 11) rfl (fun K hK => ?_) AllReadyH.nil
  go_simp
  refine (cloneP_is c.2.2.2.1 u2 (RpP.later hd.2.2.2 B) hn.2.2.2 hl3).mono ?_
  rintro en u3 ⟨a3, c3, rfl, O3, hb⟩
  have A03 : Ap (.slice a0 c.1.2.2.length c0) (.slice a3 c.2.2.2.1.2.2.length c3) := fun k h1 h2 => by have p1 := (O0.lt k h1).2; have p2 := (World.ownsRow.lt O3 k h2).1; omega
  have A13 : Ap (.slice a1 c.2.1.2.2.length c1) (.slice a3 c.2.2.2.1.2.2.length c3) := fun k h1 h2 => by have p1 := (O1.lt k h1).2; have p2 := (World.ownsRow.lt O3 k h2).1; omega
  have A23 : Ap (.slice a2 c.2.2.1.2.2.length c2) (.slice a3 c.2.2.2.1.2.2.length c3) := fun k h1 h2 => by have p1 := (O2.lt k h1).2; have p2 := (World.ownsRow.lt O3 k h2).1; omega
  go_wp2_with fail
  have T' := T.later hb T.lt
  have R' := R.later hb R.lt
  have B' := B.trans (hb.mono B.size)
  refine hK.out _ _ ⟨T', ⟨_, _, _, _, _, R'⟩, B'⟩ (fun hHeld2 => ?_)
  clear hK K hHeld2
  clear T R B
  have T := T'
  have R := R'
  have B := B'
  clear T' R' B'
  replace O3 : u3.ownsRow (w.heap.size + 2) 100 2 (.slice a3 c.2.2.2.1.2.2.length c3) c.2.2.2.1.2.2.length (fl cP c.2.2.2.1.2.2) := ownsRow_le O3 (by omega)
  replace O0 := own_later O0 hb
  replace O1 := own_later O1 hb
  replace O2 := own_later O2 hb
  replace Z2 : w.heap.size + 2 ≤ u3.heap.size := Nat.le_trans Z2 hb.size
  clear hb
  try simp only [Act.put, List.setIfInBounds_toArray, List.set_cons_zero, List.set_cons_succ]
  have hHeld : S48 c w u3 := ⟨T, ⟨_, _, _, _, _, R⟩, B⟩
  refine take_one 14 17 (v := .agg #[.slice a0 c.1.2.2.length c0, .slice a1 c.2.1.2.2.length c1, .slice a2 c.2.2.1.2.2.length c2, .slice a3 c.2.2.2.1.2.2.length c3, .int .i64 c.2.2.2.2]) rfl rfl (by kernel_rfl) (by kernel_rfl) (by kernel_rfl) (fun _ _ _ h => h) (Or.inl ⟨by rfl, ?_⟩) hHeld ?_
  · intro w' hSw; (try dsimp only at hSw); go_simp; try with_reducible rfl
  try simp only [Act.put, List.setIfInBounds_toArray, List.set_cons_zero, List.set_cons_succ]
  refine wpAnyH_ready (rs := [15]) (by kernel_rfl) (by simp) ?_
  refine AllReadyH.cons (i := 15) rfl (fun K hK => ?_) AllReadyH.nil
  have hU := R.lt
  obtain ⟨VF, hVF⟩ : ∃ V, u3.setCells (w.heap.size + 1) 0 [.slice a0 c.1.2.2.length c0, .slice a1 c.2.1.2.2.length c1, .slice a2 c.2.2.1.2.2.length c2, .slice a3 c.2.2.2.1.2.2.length c3, .int .i64 c.2.2.2.2] = V := ⟨_, rfl⟩
  have TF : Blk (w.heap.size + 1) [.slice a0 c.1.2.2.length c0, .slice a1 c.2.1.2.2.length c1, .slice a2 c.2.2.1.2.2.length c2, .slice a3 c.2.2.2.1.2.2.length c3, .int .i64 c.2.2.2.2] VF := by rw [← hVF]; exact R.sets _ rfl
  have TT : Blk w.heap.size [.slice c.1.1 c.1.2.2.length c.1.2.1, .slice c.2.1.1 c.2.1.2.2.length c.2.1.2.1, .slice c.2.2.1.1 c.2.2.1.2.2.length c.2.2.1.2.1, .slice c.2.2.2.1.1 c.2.2.2.1.2.2.length c.2.2.2.1.2.1, .int .i64 c.2.2.2.2] VF := by rw [← hVF]; exact Blk.farS (by omega) _ _ _ T
  have BF : Below w.heap.size w VF := by rw [← hVF]; exact below_sets (by omega) _ _ _ B
  have hw0 := own_far O0 (sets_grown (w.heap.size + 1) [.slice a0 c.1.2.2.length c0, .slice a1 c.2.1.2.2.length c1, .slice a2 c.2.2.1.2.2.length c2, .slice a3 c.2.2.2.1.2.2.length c3, .int .i64 c.2.2.2.2] 0 u3) (by omega)
  have hw1 := own_far O1 (sets_grown (w.heap.size + 1) [.slice a0 c.1.2.2.length c0, .slice a1 c.2.1.2.2.length c1, .slice a2 c.2.2.1.2.2.length c2, .slice a3 c.2.2.2.1.2.2.length c3, .int .i64 c.2.2.2.2] 0 u3) (by omega)
  have hw2 := own_far O2 (sets_grown (w.heap.size + 1) [.slice a0 c.1.2.2.length c0, .slice a1 c.2.1.2.2.length c1, .slice a2 c.2.2.1.2.2.length c2, .slice a3 c.2.2.2.1.2.2.length c3, .int .i64 c.2.2.2.2] 0 u3) (by omega)
  have hw3 := own_far O3 (sets_grown (w.heap.size + 1) [.slice a0 c.1.2.2.length c0, .slice a1 c.2.1.2.2.length c1, .slice a2 c.2.2.1.2.2.length c2, .slice a3 c.2.2.2.1.2.2.length c3, .int .i64 c.2.2.2.2] 0 u3) (by omega)
  rw [hVF] at hw0 hw1 hw2 hw3
  refine stepB 30 _ _ (w.heap.size + 1) 0 _ [.slice a0 c.1.2.2.length c0, .slice a1 c.2.1.2.2.length c1, .slice a2 c.2.2.1.2.2.length c2, .slice a3 c.2.2.2.1.2.2.length c3, .int .i64 c.2.2.2.2] ie hie R his.symm (by simp) rfl rfl rfl rfl rfl ?_
  rw [hVF]
  refine hK.out _ _ ⟨TT, ⟨_, _, _, _, _, TF⟩, BF⟩ (fun hHeld2 => ?_)
  clear hK K hHeld hHeld2
  try simp only [Act.put, List.setIfInBounds_toArray]
  refine wpAnyH_done (by kernel_rfl) ?_ _
  clear T R B O0 O1 O2 O3 TT hU hVF
  go_wp2_with fail
  exact bodyPost_ret (res_B1 rfl _ _ (w.heap.size + 1) [.slice a0 c.1.2.2.length c0, .slice a1 c.2.1.2.2.length c1, .slice a2 c.2.2.1.2.2.length c2, .slice a3 c.2.2.2.1.2.2.length c3, .int .i64 c.2.2.2.2] ie hie (Try.isAgg30) TF his.symm rfl) rfl ⟨((a0, c0, c.1.2.2), (a1, c1, c.2.1.2.2), (a2, c2, c.2.2.1.2.2), (a3, c3, c.2.2.2.1.2.2), c.2.2.2.2), rfl, rfl, ⟨ownsRow_le hw0 (by omega), ownsRow_le hw1 (by omega), ownsRow_le hw2 (by omega), ownsRow_le hw3 (by omega)⟩, ⟨A01, A02, A03, A12, A13, A23⟩, BF⟩
end Go.Proofs.Ytflajkbbggmdjaa.Nd
