/- Two rules of a kind, joined: the program. -/
import Derived.Test.YtjbbhegijlnndaaRu4
import Derived.Test.YtjbbhegijlnndaaRn0
import Derived.Test.YtjbbhegijlnndaaRd0
import Derived.Test.YtjbbhegijlnndaaSe3
import Derived.Lib.MinMax
set_option linter.unusedVariables false
set_option maxRecDepth 100000
namespace Go.Proofs.Ytjbbhegijlnndaa.Nd
open Go Go.RowKit Go.Joins Own Draw Go.Proofs.Ytjbbhegijlnndaa

theorem _root_.Go.Proofs.Ytjbbhegijlnndaa.SetAt.drew {w : World} {b : Nat} {xs : List Int} (h : SetAt w b xs) : SetAt w.drew b xs := h
theorem _root_.Go.Proofs.Ytjbbhegijlnndaa.It.drew {w : World} {b : Nat} {xs : List Int} (h : It b xs w) : It b xs w.drew := ⟨h.row, h.wf, h.len⟩
theorem stepB {P : Program} {ops : Array Oper} {o : Oper} {a : Act} {w : World} {K : Act → World → Prop} {Q : Exit → Act → World → Prop} {E : Prop} (ty : TypeId) (x y : Operand) (g off : Nat) (us vs : List Value) (ie : TypeInfo) (hie : P.info? ty = some ie) (h : Blk g us w) (hs : vs.length = ie.size) (hl : off + vs.length ≤ us.length) (h1 : vs.all (·.oneCell') = true)
    (hgd : o.guard = none) (ho : o.op = .store ty x y) (hx : a.eval x = .pointer (some ⟨g, off, none⟩)) (hy : a.eval y = .agg vs.toArray)
    (hn : K (a.put o.dst undef) (w.setCells g off vs)) : if Region.wanted o (yielded ops a.tmps) = true then Oper.wp P o a w K Q else E := by
  rw [if_pos (by simp [Region.wanted, hgd])]
  unfold Oper.wp execOp
  simp only [ho, hx, hy, Instr.storeAt, Instr.sureAddr, Sem.run_bind, Sem.run_pure, Result.andThen_ok, stB ty ie hie vs h hs hl h1]
  exact hn
theorem wf_ri {xs : List Int} (h : riB (-1) xs = true) : ∀ x ∈ xs, (Lit.int .i64 x).wf = true := small_wf (ri_mem h)
set_option maxHeartbeats 6400000 in
theorem joined_is (x y : TT) (w : World) (hx : DpT w x) (hy : DpT w y) (okx : okP (stT x) = true) (oky : okP (stT y) = true) (he : y.1 = x.1) :
    Calls Try.prog 78 #[vT x, vT y] w fun e w' => ∃ z : TT, e = .returned (vT z) ∧ stT z = joinP (stT x) (stT y) ∧ OwT w.heap.size w' z ∧ Below w.heap.size w w' := by
  obtain ⟨k, ⟨a, ca, xs⟩, n⟩ := x
  obtain ⟨k2, ⟨b, cb, ys⟩, m⟩ := y
  obtain ⟨rfl⟩ : k2 = k := he
  have hr : RowAt (Value.int .i64) w a xs := hx
  have hg : RowAt (Value.int .i64) w b ys := hy
  clear hx hy
  have rx : riB (-1) xs = true := okP_set okx
  have ry : riB (-1) ys = true := okP_set oky
  have lx := ri_len rx
  have ly := ri_len ry
  obtain ⟨ie, hie, his⟩ := info_T
  have HJ : Hid (joinP (stT (k, (a, ca, xs), n)) (stT (k, (b, cb, ys), m)) = if 4 ≤ k then (k, [], min n m) else (k, metP k xs ys, 0)) := (rfl : joinP (stT (k, (a, ca, xs), n)) (stT (k, (b, cb, ys), m)) = _)
  have HK : Hid ((1 ≤ k ∧ k ≤ 3 ∧ n = 0 ∧ m = 0) ∨ (4 ≤ k ∧ k ≤ 5 ∧ xs = [] ∧ ys = [])) := by
    by_cases hk : 4 ≤ k
    · exact Or.inr ⟨hk, (okP_high okx hk).1, (okP_high okx hk).2.1, (okP_high oky hk).2.1⟩
    · exact Or.inl ⟨(okP_low okx hk).1.1, (okP_low okx hk).1.2, (okP_low okx hk).2.1, (okP_low oky hk).2.1⟩
  clear okx oky
  generalize joinP (stT (k, (a, ca, xs), n)) (stT (k, (b, cb, ys), m)) = jv at HJ ⊢
  have BC : Below w.heap.size w (((w.alloc (.cells #[.int .i64 k, .slice a xs.length ca, .int .i64 n] 59)).alloc (.cells #[.int .i64 k, .slice b ys.length cb, .int .i64 m] 59)).alloc (.cells #[.int .i64 0, .slice none 0 0, .int .i64 0] 59)) := (((Below.refl _ _).alloc (by simp <;> omega) _).alloc (by simp <;> omega) _).alloc (by simp <;> omega) _
  have TC : Blk w.heap.size [.int .i64 k, .slice a xs.length ca, .int .i64 n] (((w.alloc (.cells #[.int .i64 k, .slice a xs.length ca, .int .i64 n] 59)).alloc (.cells #[.int .i64 k, .slice b ys.length cb, .int .i64 m] 59)).alloc (.cells #[.int .i64 0, .slice none 0 0, .int .i64 0] 59)) := by have h_ := (((Blk.new w #[.int .i64 k, .slice a xs.length ca, .int .i64 n] 59).alloc (by simp <;> omega) (.cells #[.int .i64 k, .slice b ys.length cb, .int .i64 m] 59)).alloc (by simp <;> omega) (.cells #[.int .i64 0, .slice none 0 0, .int .i64 0] 59)); simpa using h_
  have UC : Blk (w.heap.size + 1) [.int .i64 k, .slice b ys.length cb, .int .i64 m] (((w.alloc (.cells #[.int .i64 k, .slice a xs.length ca, .int .i64 n] 59)).alloc (.cells #[.int .i64 k, .slice b ys.length cb, .int .i64 m] 59)).alloc (.cells #[.int .i64 0, .slice none 0 0, .int .i64 0] 59)) := by have h_ := ((Blk.new (w.alloc (.cells #[.int .i64 k, .slice a xs.length ca, .int .i64 n] 59)) #[.int .i64 k, .slice b ys.length cb, .int .i64 m] 59).alloc (by simp <;> omega) (.cells #[.int .i64 0, .slice none 0 0, .int .i64 0] 59)); simpa using h_
  have RC : Blk (w.heap.size + 1 + 1) [.int .i64 0, .slice none 0 0, .int .i64 0] (((w.alloc (.cells #[.int .i64 k, .slice a xs.length ca, .int .i64 n] 59)).alloc (.cells #[.int .i64 k, .slice b ys.length cb, .int .i64 m] 59)).alloc (.cells #[.int .i64 0, .slice none 0 0, .int .i64 0] 59)) := by have h_ := (Blk.new ((w.alloc (.cells #[.int .i64 k, .slice a xs.length ca, .int .i64 n] 59)).alloc (.cells #[.int .i64 k, .slice b ys.length cb, .int .i64 m] 59)) #[.int .i64 0, .slice none 0 0, .int .i64 0] 59); simpa using h_
  have hr2 := hr.later BC
  have hg2 := hg.later BC
  clear hr hg
  have q1_ := TC.at 0 rfl
  have q2_ := TC.at 1 rfl
  have q3_ := TC.at 2 rfl
  go_enter Try.func78, Try.ntmps78
  go_wp2_with fail
  refine (numbers_is k n hr2 (wf_ri rx) (by omega)).mono ?_
  rintro en w1 ⟨g1, rfl, hg1, hs1, hb⟩
  replace TC := TC.later hb TC.lt
  replace UC := UC.later hb UC.lt
  replace RC := RC.later hb RC.lt
  replace hr2 := hr2.later hb
  replace hg2 := hg2.later hb
  replace BC := BC.trans (hb.mono BC.size)
  clear hb
  clear q1_ q2_ q3_
  have q4_ := TC.at 0 rfl
  have q5_ := TC.at 1 rfl
  have q6_ := TC.at 2 rfl
  by_cases h1 : k = 1
  · have q1 : (k == 1) = true := beq_iff_eq.2 h1
    clear q4_ q5_ q6_
    have hkk : Hid (k = 1 ∨ k = 2) := Or.inl h1
    clear h1
    have q4_ := TC.at 0 rfl
    have q5_ := TC.at 1 rfl
    have q6_ := TC.at 2 rfl
    have q7_ := UC.at 0 rfl
    have q8_ := UC.at 1 rfl
    have q9_ := UC.at 2 rfl
    go_wp2_with fail
    refine (numbers_is k m hg2 (wf_ri ry) (by omega)).mono ?_
    rintro en w2 ⟨g2, rfl, hg2_, hs2, hb⟩
    replace TC := TC.later hb TC.lt
    replace UC := UC.later hb UC.lt
    replace RC := RC.later hb RC.lt
    replace hr2 := hr2.later hb
    replace hg2 := hg2.later hb
    replace hs1 := hs1.later hb
    replace BC := BC.trans (hb.mono BC.size)
    clear hb
    clear q4_ q5_ q6_ q7_ q8_ q9_
    go_wp2_with fail
    refine (rising_is (wf_ri ry) (by omega) hs2).mono ?_
    rintro en w3 ⟨B2, L2, rfl, hB2, hi2, hL2, hb⟩
    replace TC := TC.later hb TC.lt
    replace UC := UC.later hb UC.lt
    replace RC := RC.later hb RC.lt
    replace hr2 := hr2.later hb
    replace hg2 := hg2.later hb
    replace hs1 := hs1.later hb
    replace hs2 := hs2.later hb
    replace BC := BC.trans (hb.mono BC.size)
    clear hb
    go_wp2_with fail
    refine (meet_is hs1 hi2).mono ?_
    rintro en w4 ⟨g3, rfl, hg3, hs3, hb⟩
    replace TC := TC.later hb TC.lt
    replace UC := UC.later hb UC.lt
    replace RC := RC.later hb RC.lt
    replace hr2 := hr2.later hb
    replace hg2 := hg2.later hb
    replace hs1 := hs1.later hb
    replace hi2 := hi2.later hb
    replace BC := BC.trans (hb.mono BC.size)
    clear hb
    have hwz : ∀ z ∈ L2.filter (fun z => xs.contains z), (Lit.int .i64 z).wf = true := fun z hz => hi2.wf z (List.mem_filter.1 hz).1
    have hlz : (L2.filter (fun z => xs.contains z)).length ≤ 1048576 := Nat.le_trans (List.length_filter_le _ _) hi2.len
    have q10_ := TC.at 0 rfl
    have q11_ := TC.at 1 rfl
    have q12_ := TC.at 2 rfl
    have q13_ := UC.at 0 rfl
    have q14_ := UC.at 1 rfl
    have q15_ := UC.at 2 rfl
    go_wp2_with fail
    replace TC := TC.drew
    replace UC := UC.drew
    replace RC := RC.drew
    replace BC := BC.drew
    replace hs3 := hs3.drew
    refine wp_region_held_drew (S := (fun Vw => Blk w.heap.size [.int .i64 k, .slice a xs.length ca, .int .i64 n] Vw ∧ Blk (w.heap.size + 1) [.int .i64 k, .slice b ys.length cb, .int .i64 m] Vw)) (by kernel_rfl) ⟨TC, UC⟩ (fun hHeld => ?_)
    refine take_one 0 25 (v := ?_) rfl rfl (by kernel_rfl) (by kernel_rfl) (by kernel_rfl) (fun _ _ _ h => h) (Or.inl ⟨by rfl, ?_⟩) hHeld ?_
    rotate_left
    · intro w' hSw; (try dsimp only at hSw); have d0 := hSw.1.at 0 rfl; have e0 := hSw.2.at 0 rfl; have d1 := hSw.1.at 1 rfl; have e1 := hSw.2.at 1 rfl; have d2 := hSw.1.at 2 rfl; have e2 := hSw.2.at 2 rfl; go_simp; try with_reducible rfl
    try simp only [Act.put, List.setIfInBounds_toArray, List.set_cons_zero, List.set_cons_succ]
    refine take_one 1 26 (v := ?_) rfl rfl (by kernel_rfl) (by kernel_rfl) (by kernel_rfl) (fun _ _ _ h => h) (Or.inl ⟨by rfl, ?_⟩) hHeld ?_
    rotate_left
    · intro w' hSw; (try dsimp only at hSw); have d0 := hSw.1.at 0 rfl; have e0 := hSw.2.at 0 rfl; have d1 := hSw.1.at 1 rfl; have e1 := hSw.2.at 1 rfl; have d2 := hSw.1.at 2 rfl; have e2 := hSw.2.at 2 rfl; go_simp; try with_reducible rfl
    try simp only [Act.put, List.setIfInBounds_toArray, List.set_cons_zero, List.set_cons_succ]
    refine take_one 2 27 (v := ?_) rfl rfl (by kernel_rfl) (by kernel_rfl) (by kernel_rfl) (fun _ _ _ h => h) (Or.inl ⟨by rfl, ?_⟩) hHeld ?_
    rotate_left
    · intro w' hSw; (try dsimp only at hSw); have d0 := hSw.1.at 0 rfl; have e0 := hSw.2.at 0 rfl; have d1 := hSw.1.at 1 rfl; have e1 := hSw.2.at 1 rfl; have d2 := hSw.1.at 2 rfl; have e2 := hSw.2.at 2 rfl; go_simp; try with_reducible rfl
    try simp only [Act.put, List.setIfInBounds_toArray, List.set_cons_zero, List.set_cons_succ]
    refine take_one 5 30 (v := ?_) rfl rfl (by kernel_rfl) (by kernel_rfl) (by kernel_rfl) (fun _ _ _ h => h) (Or.inl ⟨by rfl, ?_⟩) hHeld ?_
    rotate_left
    · intro w' hSw; (try dsimp only at hSw); have d0 := hSw.1.at 0 rfl; have e0 := hSw.2.at 0 rfl; have d1 := hSw.1.at 1 rfl; have e1 := hSw.2.at 1 rfl; have d2 := hSw.1.at 2 rfl; have e2 := hSw.2.at 2 rfl; go_simp; try with_reducible rfl
    try simp only [Act.put, List.setIfInBounds_toArray, List.set_cons_zero, List.set_cons_succ]
    refine take_one 6 31 (v := ?_) rfl rfl (by kernel_rfl) (by kernel_rfl) (by kernel_rfl) (fun _ _ _ h => h) (Or.inl ⟨by rfl, ?_⟩) hHeld ?_
    rotate_left
    · intro w' hSw; (try dsimp only at hSw); have d0 := hSw.1.at 0 rfl; have e0 := hSw.2.at 0 rfl; have d1 := hSw.1.at 1 rfl; have e1 := hSw.2.at 1 rfl; have d2 := hSw.1.at 2 rfl; have e2 := hSw.2.at 2 rfl; go_simp; try with_reducible rfl
    try simp only [Act.put, List.setIfInBounds_toArray, List.set_cons_zero, List.set_cons_succ]
    refine take_one 7 32 (v := ?_) rfl rfl (by kernel_rfl) (by kernel_rfl) (by kernel_rfl) (fun _ _ _ h => h) (Or.inl ⟨by rfl, ?_⟩) hHeld ?_
    rotate_left
    · intro w' hSw; (try dsimp only at hSw); have d0 := hSw.1.at 0 rfl; have e0 := hSw.2.at 0 rfl; have d1 := hSw.1.at 1 rfl; have e1 := hSw.2.at 1 rfl; have d2 := hSw.1.at 2 rfl; have e2 := hSw.2.at 2 rfl; go_simp; try with_reducible rfl
    try simp only [Act.put, List.setIfInBounds_toArray, List.set_cons_zero, List.set_cons_succ]
    refine take_one 8 33 (v := ?_) rfl rfl (by kernel_rfl) (by kernel_rfl) (by kernel_rfl) (fun _ _ _ h => h) (Or.inl ⟨by rfl, ?_⟩) hHeld ?_
    rotate_left
    · intro w' hSw; (try dsimp only at hSw); have d0 := hSw.1.at 0 rfl; have e0 := hSw.2.at 0 rfl; have d1 := hSw.1.at 1 rfl; have e1 := hSw.2.at 1 rfl; have d2 := hSw.1.at 2 rfl; have e2 := hSw.2.at 2 rfl; go_simp; try with_reducible rfl
    try simp only [Act.put, List.setIfInBounds_toArray, List.set_cons_zero, List.set_cons_succ]
    refine take_one 9 34 (v := ?_) rfl rfl (by kernel_rfl) (by kernel_rfl) (by kernel_rfl) (fun _ _ _ h => h) (Or.inl ⟨by rfl, ?_⟩) hHeld ?_
    rotate_left
    · intro w' hSw; (try dsimp only at hSw); have d0 := hSw.1.at 0 rfl; have e0 := hSw.2.at 0 rfl; have d1 := hSw.1.at 1 rfl; have e1 := hSw.2.at 1 rfl; have d2 := hSw.1.at 2 rfl; have e2 := hSw.2.at 2 rfl; go_simp; try with_reducible rfl
    try simp only [Act.put, List.setIfInBounds_toArray, List.set_cons_zero, List.set_cons_succ]
    refine wpAnyH_ready (rs := [3]) (by kernel_rfl) (by simp) ?_
    refine AllReadyH.cons (i := 3) rfl (fun K hK => ?_) AllReadyH.nil
    go_simp
    refine (rising_is hwz hlz hs3).mono ?_
    rintro en v5 ⟨B5, L5, rfl, hB5, hi5, hL5, hb⟩
    replace TC := TC.later hb TC.lt
    replace UC := UC.later hb UC.lt
    replace RC := RC.later hb RC.lt
    replace hs3 := hs3.later hb
    replace BC := BC.trans (hb.mono BC.size)
    clear hb
    go_wp2_with fail
    refine hK.out _ _ ⟨TC, UC⟩ (fun hHeld2 => ?_)
    clear hK K hHeld
    have hHeld := hHeld2
    clear hHeld2
    try simp only [Act.put, List.setIfInBounds_toArray, List.set_cons_zero, List.set_cons_succ]
    have hsz5 := RC.lt
    refine wpAnyH_ready (rs := [4]) (by kernel_rfl) (by simp) ?_
    refine AllReadyH.cons (i := 4) rfl (fun K hK => ?_) AllReadyH.nil
    go_simp
    refine (collect_is hi5).mono ?_
    rintro en v6 ⟨cv, rfl, ho5, hb⟩
    replace TC := TC.later hb TC.lt
    replace UC := UC.later hb UC.lt
    replace RC := RC.later hb RC.lt
    replace hi5 := hi5.later hb
    replace BC := BC.trans (hb.mono BC.size)
    clear hb
    obtain ⟨ga, gc, rfl, _⟩ := own_shape ho5
    go_wp2_with fail
    refine hK.out _ _ ⟨TC, UC⟩ (fun hHeld2 => ?_)
    clear hK K hHeld
    have hHeld := hHeld2
    clear hHeld2
    try simp only [Act.put, List.setIfInBounds_toArray, List.set_cons_zero, List.set_cons_succ]
    refine take_one 10 35 (v := ?_) rfl rfl (by kernel_rfl) (by kernel_rfl) (by kernel_rfl) (fun _ _ _ h => h) (Or.inl ⟨by rfl, ?_⟩) hHeld ?_
    rotate_left
    · intro w' hSw; (try dsimp only at hSw); have d0 := hSw.1.at 0 rfl; have e0 := hSw.2.at 0 rfl; have d1 := hSw.1.at 1 rfl; have e1 := hSw.2.at 1 rfl; have d2 := hSw.1.at 2 rfl; have e2 := hSw.2.at 2 rfl; go_simp; try with_reducible rfl
    try simp only [Act.put, List.setIfInBounds_toArray, List.set_cons_zero, List.set_cons_succ]
    have N_ : Blk (w.heap.size + 1 + 1) [.int .i64 k, .slice ga L5.length gc, .int .i64 (min n m)] ((v6).setCells (w.heap.size + 1 + 1) 0 [.int .i64 k, .slice ga L5.length gc, .int .i64 (min n m)]) := RC.part 0 [.int .i64 k, .slice ga L5.length gc, .int .i64 (min n m)] _ (by simp) rfl
    have TC_ := Blk.farS (q := (w.heap.size + 1 + 1)) (by omega) [.int .i64 k, .slice ga L5.length gc, .int .i64 (min n m)] 0 _ TC
    have UC_ := Blk.farS (q := (w.heap.size + 1 + 1)) (by omega) [.int .i64 k, .slice ga L5.length gc, .int .i64 (min n m)] 0 _ UC
    have BC_ := below_sets (m := w.heap.size) (g := (w.heap.size + 1 + 1)) (by omega) [.int .i64 k, .slice ga L5.length gc, .int .i64 (min n m)] 0 _ BC
    refine wpAnyH_ready (rs := [11]) (by kernel_rfl) (by simp) ?_
    refine AllReadyH.cons (i := 11) rfl (fun K hK => ?_) AllReadyH.nil
    refine stepB 59 _ _ ((w.heap.size + 1 + 1)) 0 [.int .i64 0, .slice none 0 0, .int .i64 0] [.int .i64 k, .slice ga L5.length gc, .int .i64 (min n m)] ie hie RC (by rw [his]; rfl) (by simp) rfl rfl rfl rfl rfl ?_
    try simp only [Act.put, List.setIfInBounds_toArray]
    obtain ⟨V9, hV9⟩ : ∃ Wz, (v6).setCells ((w.heap.size + 1 + 1)) 0 [.int .i64 k, .slice ga L5.length gc, .int .i64 (min n m)] = Wz := ⟨_, rfl⟩
    have ho9 : OwT w.heap.size V9 (k, (ga, gc, L5), min n m) := by
      have h1 : OwT v5.heap.size v6 (k, (ga, gc, L5), min n m) := ho5
      have h2 : OwT v5.heap.size (v6.setCells (w.heap.size + 1 + 1) 0 [.int .i64 k, .slice ga L5.length gc, .int .i64 (min n m)]) (k, (ga, gc, L5), min n m) := h1.far (sets_grown (w.heap.size + 1 + 1) _ 0 v6) (by omega)
      rw [← hV9]
      exact h2.le (by omega)
    rw [hV9] at N_ BC_ TC_ UC_ ⊢
    clear hV9 RC BC TC UC
    have RC := N_
    have BC := BC_
    have TC := TC_
    have UC := UC_
    clear N_ BC_ TC_ UC_
    refine hK.out _ _ ⟨TC, UC⟩ (fun hHeld2 => ?_)
    clear hK K hHeld
    have hHeld := hHeld2
    clear hHeld2
    try simp only [Act.put, List.setIfInBounds_toArray, List.set_cons_zero, List.set_cons_succ]
    refine wpAnyH_done (by kernel_rfl) ?_ _
    go_wp2_with fail
    refine bodyPost_ret (res_B1 rfl _ _ (w.heap.size + 1 + 1) [.int .i64 k, .slice ga L5.length gc, .int .i64 (min n m)] ie hie (Try.isAgg59) RC his.symm rfl) rfl ?_
    refine ⟨(k, (ga, gc, L5), min n m), rfl, ?_, ho9, BC⟩
    have hkk2 : k = 1 ∨ k = 2 := hkk.out
    have hk3 : k ≠ 3 := by omega
    have hk4 : ¬ 4 ≤ k := by omega
    have hnm := HK.out.resolve_right (fun c => hk4 c.1)
    have hL : L5 = metP k xs ys := met_and hk3 rx hL5.1 (fun z => by
      rw [hL5.2, List.mem_filter, hL2.2]
      simp only [List.contains_iff_mem]
      exact ⟨fun h => ⟨h.2, h.1⟩, fun h => ⟨h.2, h.1⟩⟩)
    rw [HJ.out, if_neg hk4, ← hL]
    show (k, L5, min n m) = (k, L5, 0)
    rw [hnm.2.2.1, hnm.2.2.2]
    rfl
  · have q1 : (k == 1) = false := beq_eq_false_iff_ne.2 h1
    by_cases h2 : k = 2
    · have q2 : (k == 2) = true := beq_iff_eq.2 h2
      clear q4_ q5_ q6_
      have hkk : Hid (k = 1 ∨ k = 2) := Or.inr h2
      clear h1 h2
      have q4_ := TC.at 0 rfl
      have q5_ := TC.at 1 rfl
      have q6_ := TC.at 2 rfl
      have q7_ := UC.at 0 rfl
      have q8_ := UC.at 1 rfl
      have q9_ := UC.at 2 rfl
      go_wp2_with fail
      refine (numbers_is k m hg2 (wf_ri ry) (by omega)).mono ?_
      rintro en w2 ⟨g2, rfl, hg2_, hs2, hb⟩
      replace TC := TC.later hb TC.lt
      replace UC := UC.later hb UC.lt
      replace RC := RC.later hb RC.lt
      replace hr2 := hr2.later hb
      replace hg2 := hg2.later hb
      replace hs1 := hs1.later hb
      replace BC := BC.trans (hb.mono BC.size)
      clear hb
      clear q4_ q5_ q6_ q7_ q8_ q9_
      go_wp2_with fail
      refine (rising_is (wf_ri ry) (by omega) hs2).mono ?_
      rintro en w3 ⟨B2, L2, rfl, hB2, hi2, hL2, hb⟩
      replace TC := TC.later hb TC.lt
      replace UC := UC.later hb UC.lt
      replace RC := RC.later hb RC.lt
      replace hr2 := hr2.later hb
      replace hg2 := hg2.later hb
      replace hs1 := hs1.later hb
      replace hs2 := hs2.later hb
      replace BC := BC.trans (hb.mono BC.size)
      clear hb
      go_wp2_with fail
      refine (meet_is hs1 hi2).mono ?_
      rintro en w4 ⟨g3, rfl, hg3, hs3, hb⟩
      replace TC := TC.later hb TC.lt
      replace UC := UC.later hb UC.lt
      replace RC := RC.later hb RC.lt
      replace hr2 := hr2.later hb
      replace hg2 := hg2.later hb
      replace hs1 := hs1.later hb
      replace hi2 := hi2.later hb
      replace BC := BC.trans (hb.mono BC.size)
      clear hb
      have hwz : ∀ z ∈ L2.filter (fun z => xs.contains z), (Lit.int .i64 z).wf = true := fun z hz => hi2.wf z (List.mem_filter.1 hz).1
      have hlz : (L2.filter (fun z => xs.contains z)).length ≤ 1048576 := Nat.le_trans (List.length_filter_le _ _) hi2.len
      have q10_ := TC.at 0 rfl
      have q11_ := TC.at 1 rfl
      have q12_ := TC.at 2 rfl
      have q13_ := UC.at 0 rfl
      have q14_ := UC.at 1 rfl
      have q15_ := UC.at 2 rfl
      go_wp2_with fail
      replace TC := TC.drew
      replace UC := UC.drew
      replace RC := RC.drew
      replace BC := BC.drew
      replace hs3 := hs3.drew
      refine wp_region_held_drew (S := (fun Vw => Blk w.heap.size [.int .i64 k, .slice a xs.length ca, .int .i64 n] Vw ∧ Blk (w.heap.size + 1) [.int .i64 k, .slice b ys.length cb, .int .i64 m] Vw)) (by kernel_rfl) ⟨TC, UC⟩ (fun hHeld => ?_)
      refine take_one 0 25 (v := ?_) rfl rfl (by kernel_rfl) (by kernel_rfl) (by kernel_rfl) (fun _ _ _ h => h) (Or.inl ⟨by rfl, ?_⟩) hHeld ?_
      rotate_left
      · intro w' hSw; (try dsimp only at hSw); have d0 := hSw.1.at 0 rfl; have e0 := hSw.2.at 0 rfl; have d1 := hSw.1.at 1 rfl; have e1 := hSw.2.at 1 rfl; have d2 := hSw.1.at 2 rfl; have e2 := hSw.2.at 2 rfl; go_simp; try with_reducible rfl
      try simp only [Act.put, List.setIfInBounds_toArray, List.set_cons_zero, List.set_cons_succ]
      refine take_one 1 26 (v := ?_) rfl rfl (by kernel_rfl) (by kernel_rfl) (by kernel_rfl) (fun _ _ _ h => h) (Or.inl ⟨by rfl, ?_⟩) hHeld ?_
      rotate_left
      · intro w' hSw; (try dsimp only at hSw); have d0 := hSw.1.at 0 rfl; have e0 := hSw.2.at 0 rfl; have d1 := hSw.1.at 1 rfl; have e1 := hSw.2.at 1 rfl; have d2 := hSw.1.at 2 rfl; have e2 := hSw.2.at 2 rfl; go_simp; try with_reducible rfl
      try simp only [Act.put, List.setIfInBounds_toArray, List.set_cons_zero, List.set_cons_succ]
      refine take_one 2 27 (v := ?_) rfl rfl (by kernel_rfl) (by kernel_rfl) (by kernel_rfl) (fun _ _ _ h => h) (Or.inl ⟨by rfl, ?_⟩) hHeld ?_
      rotate_left
      · intro w' hSw; (try dsimp only at hSw); have d0 := hSw.1.at 0 rfl; have e0 := hSw.2.at 0 rfl; have d1 := hSw.1.at 1 rfl; have e1 := hSw.2.at 1 rfl; have d2 := hSw.1.at 2 rfl; have e2 := hSw.2.at 2 rfl; go_simp; try with_reducible rfl
      try simp only [Act.put, List.setIfInBounds_toArray, List.set_cons_zero, List.set_cons_succ]
      refine take_one 5 30 (v := ?_) rfl rfl (by kernel_rfl) (by kernel_rfl) (by kernel_rfl) (fun _ _ _ h => h) (Or.inl ⟨by rfl, ?_⟩) hHeld ?_
      rotate_left
      · intro w' hSw; (try dsimp only at hSw); have d0 := hSw.1.at 0 rfl; have e0 := hSw.2.at 0 rfl; have d1 := hSw.1.at 1 rfl; have e1 := hSw.2.at 1 rfl; have d2 := hSw.1.at 2 rfl; have e2 := hSw.2.at 2 rfl; go_simp; try with_reducible rfl
      try simp only [Act.put, List.setIfInBounds_toArray, List.set_cons_zero, List.set_cons_succ]
      refine take_one 6 31 (v := ?_) rfl rfl (by kernel_rfl) (by kernel_rfl) (by kernel_rfl) (fun _ _ _ h => h) (Or.inl ⟨by rfl, ?_⟩) hHeld ?_
      rotate_left
      · intro w' hSw; (try dsimp only at hSw); have d0 := hSw.1.at 0 rfl; have e0 := hSw.2.at 0 rfl; have d1 := hSw.1.at 1 rfl; have e1 := hSw.2.at 1 rfl; have d2 := hSw.1.at 2 rfl; have e2 := hSw.2.at 2 rfl; go_simp; try with_reducible rfl
      try simp only [Act.put, List.setIfInBounds_toArray, List.set_cons_zero, List.set_cons_succ]
      refine take_one 7 32 (v := ?_) rfl rfl (by kernel_rfl) (by kernel_rfl) (by kernel_rfl) (fun _ _ _ h => h) (Or.inl ⟨by rfl, ?_⟩) hHeld ?_
      rotate_left
      · intro w' hSw; (try dsimp only at hSw); have d0 := hSw.1.at 0 rfl; have e0 := hSw.2.at 0 rfl; have d1 := hSw.1.at 1 rfl; have e1 := hSw.2.at 1 rfl; have d2 := hSw.1.at 2 rfl; have e2 := hSw.2.at 2 rfl; go_simp; try with_reducible rfl
      try simp only [Act.put, List.setIfInBounds_toArray, List.set_cons_zero, List.set_cons_succ]
      refine take_one 8 33 (v := ?_) rfl rfl (by kernel_rfl) (by kernel_rfl) (by kernel_rfl) (fun _ _ _ h => h) (Or.inl ⟨by rfl, ?_⟩) hHeld ?_
      rotate_left
      · intro w' hSw; (try dsimp only at hSw); have d0 := hSw.1.at 0 rfl; have e0 := hSw.2.at 0 rfl; have d1 := hSw.1.at 1 rfl; have e1 := hSw.2.at 1 rfl; have d2 := hSw.1.at 2 rfl; have e2 := hSw.2.at 2 rfl; go_simp; try with_reducible rfl
      try simp only [Act.put, List.setIfInBounds_toArray, List.set_cons_zero, List.set_cons_succ]
      refine take_one 9 34 (v := ?_) rfl rfl (by kernel_rfl) (by kernel_rfl) (by kernel_rfl) (fun _ _ _ h => h) (Or.inl ⟨by rfl, ?_⟩) hHeld ?_
      rotate_left
      · intro w' hSw; (try dsimp only at hSw); have d0 := hSw.1.at 0 rfl; have e0 := hSw.2.at 0 rfl; have d1 := hSw.1.at 1 rfl; have e1 := hSw.2.at 1 rfl; have d2 := hSw.1.at 2 rfl; have e2 := hSw.2.at 2 rfl; go_simp; try with_reducible rfl
      try simp only [Act.put, List.setIfInBounds_toArray, List.set_cons_zero, List.set_cons_succ]
      refine wpAnyH_ready (rs := [3]) (by kernel_rfl) (by simp) ?_
      refine AllReadyH.cons (i := 3) rfl (fun K hK => ?_) AllReadyH.nil
      go_simp
      refine (rising_is hwz hlz hs3).mono ?_
      rintro en v5 ⟨B5, L5, rfl, hB5, hi5, hL5, hb⟩
      replace TC := TC.later hb TC.lt
      replace UC := UC.later hb UC.lt
      replace RC := RC.later hb RC.lt
      replace hs3 := hs3.later hb
      replace BC := BC.trans (hb.mono BC.size)
      clear hb
      go_wp2_with fail
      refine hK.out _ _ ⟨TC, UC⟩ (fun hHeld2 => ?_)
      clear hK K hHeld
      have hHeld := hHeld2
      clear hHeld2
      try simp only [Act.put, List.setIfInBounds_toArray, List.set_cons_zero, List.set_cons_succ]
      have hsz5 := RC.lt
      refine wpAnyH_ready (rs := [4]) (by kernel_rfl) (by simp) ?_
      refine AllReadyH.cons (i := 4) rfl (fun K hK => ?_) AllReadyH.nil
      go_simp
      refine (collect_is hi5).mono ?_
      rintro en v6 ⟨cv, rfl, ho5, hb⟩
      replace TC := TC.later hb TC.lt
      replace UC := UC.later hb UC.lt
      replace RC := RC.later hb RC.lt
      replace hi5 := hi5.later hb
      replace BC := BC.trans (hb.mono BC.size)
      clear hb
      obtain ⟨ga, gc, rfl, _⟩ := own_shape ho5
      go_wp2_with fail
      refine hK.out _ _ ⟨TC, UC⟩ (fun hHeld2 => ?_)
      clear hK K hHeld
      have hHeld := hHeld2
      clear hHeld2
      try simp only [Act.put, List.setIfInBounds_toArray, List.set_cons_zero, List.set_cons_succ]
      refine take_one 10 35 (v := ?_) rfl rfl (by kernel_rfl) (by kernel_rfl) (by kernel_rfl) (fun _ _ _ h => h) (Or.inl ⟨by rfl, ?_⟩) hHeld ?_
      rotate_left
      · intro w' hSw; (try dsimp only at hSw); have d0 := hSw.1.at 0 rfl; have e0 := hSw.2.at 0 rfl; have d1 := hSw.1.at 1 rfl; have e1 := hSw.2.at 1 rfl; have d2 := hSw.1.at 2 rfl; have e2 := hSw.2.at 2 rfl; go_simp; try with_reducible rfl
      try simp only [Act.put, List.setIfInBounds_toArray, List.set_cons_zero, List.set_cons_succ]
      have N_ : Blk (w.heap.size + 1 + 1) [.int .i64 k, .slice ga L5.length gc, .int .i64 (min n m)] ((v6).setCells (w.heap.size + 1 + 1) 0 [.int .i64 k, .slice ga L5.length gc, .int .i64 (min n m)]) := RC.part 0 [.int .i64 k, .slice ga L5.length gc, .int .i64 (min n m)] _ (by simp) rfl
      have TC_ := Blk.farS (q := (w.heap.size + 1 + 1)) (by omega) [.int .i64 k, .slice ga L5.length gc, .int .i64 (min n m)] 0 _ TC
      have UC_ := Blk.farS (q := (w.heap.size + 1 + 1)) (by omega) [.int .i64 k, .slice ga L5.length gc, .int .i64 (min n m)] 0 _ UC
      have BC_ := below_sets (m := w.heap.size) (g := (w.heap.size + 1 + 1)) (by omega) [.int .i64 k, .slice ga L5.length gc, .int .i64 (min n m)] 0 _ BC
      refine wpAnyH_ready (rs := [11]) (by kernel_rfl) (by simp) ?_
      refine AllReadyH.cons (i := 11) rfl (fun K hK => ?_) AllReadyH.nil
      refine stepB 59 _ _ ((w.heap.size + 1 + 1)) 0 [.int .i64 0, .slice none 0 0, .int .i64 0] [.int .i64 k, .slice ga L5.length gc, .int .i64 (min n m)] ie hie RC (by rw [his]; rfl) (by simp) rfl rfl rfl rfl rfl ?_
      try simp only [Act.put, List.setIfInBounds_toArray]
      obtain ⟨V9, hV9⟩ : ∃ Wz, (v6).setCells ((w.heap.size + 1 + 1)) 0 [.int .i64 k, .slice ga L5.length gc, .int .i64 (min n m)] = Wz := ⟨_, rfl⟩
      have ho9 : OwT w.heap.size V9 (k, (ga, gc, L5), min n m) := by
        have h1 : OwT v5.heap.size v6 (k, (ga, gc, L5), min n m) := ho5
        have h2 : OwT v5.heap.size (v6.setCells (w.heap.size + 1 + 1) 0 [.int .i64 k, .slice ga L5.length gc, .int .i64 (min n m)]) (k, (ga, gc, L5), min n m) := h1.far (sets_grown (w.heap.size + 1 + 1) _ 0 v6) (by omega)
        rw [← hV9]
        exact h2.le (by omega)
      rw [hV9] at N_ BC_ TC_ UC_ ⊢
      clear hV9 RC BC TC UC
      have RC := N_
      have BC := BC_
      have TC := TC_
      have UC := UC_
      clear N_ BC_ TC_ UC_
      refine hK.out _ _ ⟨TC, UC⟩ (fun hHeld2 => ?_)
      clear hK K hHeld
      have hHeld := hHeld2
      clear hHeld2
      try simp only [Act.put, List.setIfInBounds_toArray, List.set_cons_zero, List.set_cons_succ]
      refine wpAnyH_done (by kernel_rfl) ?_ _
      go_wp2_with fail
      refine bodyPost_ret (res_B1 rfl _ _ (w.heap.size + 1 + 1) [.int .i64 k, .slice ga L5.length gc, .int .i64 (min n m)] ie hie (Try.isAgg59) RC his.symm rfl) rfl ?_
      refine ⟨(k, (ga, gc, L5), min n m), rfl, ?_, ho9, BC⟩
      have hkk2 : k = 1 ∨ k = 2 := hkk.out
      have hk3 : k ≠ 3 := by omega
      have hk4 : ¬ 4 ≤ k := by omega
      have hnm := HK.out.resolve_right (fun c => hk4 c.1)
      have hL : L5 = metP k xs ys := met_and hk3 rx hL5.1 (fun z => by
        rw [hL5.2, List.mem_filter, hL2.2]
        simp only [List.contains_iff_mem]
        exact ⟨fun h => ⟨h.2, h.1⟩, fun h => ⟨h.2, h.1⟩⟩)
      rw [HJ.out, if_neg hk4, ← hL]
      show (k, L5, min n m) = (k, L5, 0)
      rw [hnm.2.2.1, hnm.2.2.2]
      rfl
    · have q2 : (k == 2) = false := beq_eq_false_iff_ne.2 h2
      by_cases h3 : k = 3
      · have q3 : (k == 3) = true := beq_iff_eq.2 h3
        clear q4_ q5_ q6_
        have HK3 : Hid (k = 3) := h3
        clear h1 h2 h3
        have q4_ := TC.at 0 rfl
        have q5_ := TC.at 1 rfl
        have q6_ := TC.at 2 rfl
        have q7_ := UC.at 0 rfl
        have q8_ := UC.at 1 rfl
        have q9_ := UC.at 2 rfl
        go_wp2_with fail
        refine (numbers_is k m hg2 (wf_ri ry) (by omega)).mono ?_
        rintro en w2 ⟨g2, rfl, hg2_, hs2, hb⟩
        replace TC := TC.later hb TC.lt
        replace UC := UC.later hb UC.lt
        replace RC := RC.later hb RC.lt
        replace hr2 := hr2.later hb
        replace hg2 := hg2.later hb
        replace hs1 := hs1.later hb
        replace BC := BC.trans (hb.mono BC.size)
        clear hb
        clear q4_ q5_ q6_ q7_ q8_ q9_
        go_wp2_with fail
        refine (rising_is (wf_ri ry) (by omega) hs2).mono ?_
        rintro en w3 ⟨B2, L2, rfl, hB2, hi2, hL2, hb⟩
        replace TC := TC.later hb TC.lt
        replace UC := UC.later hb UC.lt
        replace RC := RC.later hb RC.lt
        replace hr2 := hr2.later hb
        replace hg2 := hg2.later hb
        replace hs1 := hs1.later hb
        replace hs2 := hs2.later hb
        replace BC := BC.trans (hb.mono BC.size)
        clear hb
        have hlen2 : L2.length ≤ 31 := by
          have h_ := nodup_le L2 ys (hL2.1.imp (fun h => by omega)) (fun z hz => (hL2.2 z).1 hz)
          omega
        have hg1b : w.heap.size + 3 ≤ g1 := by
          simp at hg1
          omega
        go_wp2_with fail
        refine (put_is (by omega) hs1 hi2).mono ?_
        rintro en w4 ⟨rfl, hs3, hkb⟩
        have hb3 : Below (w.heap.size + 3) w3 w4 := hkb.below hg1b (by have := TC.lt; have := RC.lt; omega)
        replace TC := TC.lower hb3 (by omega)
        replace UC := UC.lower hb3 (by omega)
        replace RC := RC.lower hb3 (by omega)
        replace BC := BC.trans (hb3.mono (by omega))
        clear hkb hb3 hi2
        have hwz : ∀ z ∈ xs ++ L2, (Lit.int .i64 z).wf = true := fun z hz => by
          rcases List.mem_append.1 hz with h | h
          · exact wf_ri rx z h
          · exact wf_ri ry z ((hL2.2 z).1 h)
        have hlz : (xs ++ L2).length ≤ 1048576 := by rw [List.length_append]; omega
        obtain ⟨zz, hzz⟩ : ∃ zz, xs ++ L2 = zz := ⟨_, rfl⟩
        rw [hzz] at hwz hlz hs3
        have HZ : Hid (xs ++ L2 = zz) := hzz
        clear hzz
        have q10_ := TC.at 0 rfl
        have q11_ := TC.at 1 rfl
        have q12_ := TC.at 2 rfl
        have q13_ := UC.at 0 rfl
        have q14_ := UC.at 1 rfl
        have q15_ := UC.at 2 rfl
        go_wp2_with fail
        replace TC := TC.drew
        replace UC := UC.drew
        replace RC := RC.drew
        replace BC := BC.drew
        replace hs3 := hs3.drew
        refine wp_region_held_drew (S := (fun Vw => Blk w.heap.size [.int .i64 k, .slice a xs.length ca, .int .i64 n] Vw ∧ Blk (w.heap.size + 1) [.int .i64 k, .slice b ys.length cb, .int .i64 m] Vw)) (by kernel_rfl) ⟨TC, UC⟩ (fun hHeld => ?_)
        refine take_one 0 25 (v := ?_) rfl rfl (by kernel_rfl) (by kernel_rfl) (by kernel_rfl) (fun _ _ _ h => h) (Or.inl ⟨by rfl, ?_⟩) hHeld ?_
        rotate_left
        · intro w' hSw; (try dsimp only at hSw); have d0 := hSw.1.at 0 rfl; have e0 := hSw.2.at 0 rfl; have d1 := hSw.1.at 1 rfl; have e1 := hSw.2.at 1 rfl; have d2 := hSw.1.at 2 rfl; have e2 := hSw.2.at 2 rfl; go_simp; try with_reducible rfl
        try simp only [Act.put, List.setIfInBounds_toArray, List.set_cons_zero, List.set_cons_succ]
        refine take_one 1 26 (v := ?_) rfl rfl (by kernel_rfl) (by kernel_rfl) (by kernel_rfl) (fun _ _ _ h => h) (Or.inl ⟨by rfl, ?_⟩) hHeld ?_
        rotate_left
        · intro w' hSw; (try dsimp only at hSw); have d0 := hSw.1.at 0 rfl; have e0 := hSw.2.at 0 rfl; have d1 := hSw.1.at 1 rfl; have e1 := hSw.2.at 1 rfl; have d2 := hSw.1.at 2 rfl; have e2 := hSw.2.at 2 rfl; go_simp; try with_reducible rfl
        try simp only [Act.put, List.setIfInBounds_toArray, List.set_cons_zero, List.set_cons_succ]
        refine take_one 2 27 (v := ?_) rfl rfl (by kernel_rfl) (by kernel_rfl) (by kernel_rfl) (fun _ _ _ h => h) (Or.inl ⟨by rfl, ?_⟩) hHeld ?_
        rotate_left
        · intro w' hSw; (try dsimp only at hSw); have d0 := hSw.1.at 0 rfl; have e0 := hSw.2.at 0 rfl; have d1 := hSw.1.at 1 rfl; have e1 := hSw.2.at 1 rfl; have d2 := hSw.1.at 2 rfl; have e2 := hSw.2.at 2 rfl; go_simp; try with_reducible rfl
        try simp only [Act.put, List.setIfInBounds_toArray, List.set_cons_zero, List.set_cons_succ]
        refine take_one 5 30 (v := ?_) rfl rfl (by kernel_rfl) (by kernel_rfl) (by kernel_rfl) (fun _ _ _ h => h) (Or.inl ⟨by rfl, ?_⟩) hHeld ?_
        rotate_left
        · intro w' hSw; (try dsimp only at hSw); have d0 := hSw.1.at 0 rfl; have e0 := hSw.2.at 0 rfl; have d1 := hSw.1.at 1 rfl; have e1 := hSw.2.at 1 rfl; have d2 := hSw.1.at 2 rfl; have e2 := hSw.2.at 2 rfl; go_simp; try with_reducible rfl
        try simp only [Act.put, List.setIfInBounds_toArray, List.set_cons_zero, List.set_cons_succ]
        refine take_one 6 31 (v := ?_) rfl rfl (by kernel_rfl) (by kernel_rfl) (by kernel_rfl) (fun _ _ _ h => h) (Or.inl ⟨by rfl, ?_⟩) hHeld ?_
        rotate_left
        · intro w' hSw; (try dsimp only at hSw); have d0 := hSw.1.at 0 rfl; have e0 := hSw.2.at 0 rfl; have d1 := hSw.1.at 1 rfl; have e1 := hSw.2.at 1 rfl; have d2 := hSw.1.at 2 rfl; have e2 := hSw.2.at 2 rfl; go_simp; try with_reducible rfl
        try simp only [Act.put, List.setIfInBounds_toArray, List.set_cons_zero, List.set_cons_succ]
        refine take_one 7 32 (v := ?_) rfl rfl (by kernel_rfl) (by kernel_rfl) (by kernel_rfl) (fun _ _ _ h => h) (Or.inl ⟨by rfl, ?_⟩) hHeld ?_
        rotate_left
        · intro w' hSw; (try dsimp only at hSw); have d0 := hSw.1.at 0 rfl; have e0 := hSw.2.at 0 rfl; have d1 := hSw.1.at 1 rfl; have e1 := hSw.2.at 1 rfl; have d2 := hSw.1.at 2 rfl; have e2 := hSw.2.at 2 rfl; go_simp; try with_reducible rfl
        try simp only [Act.put, List.setIfInBounds_toArray, List.set_cons_zero, List.set_cons_succ]
        refine take_one 8 33 (v := ?_) rfl rfl (by kernel_rfl) (by kernel_rfl) (by kernel_rfl) (fun _ _ _ h => h) (Or.inl ⟨by rfl, ?_⟩) hHeld ?_
        rotate_left
        · intro w' hSw; (try dsimp only at hSw); have d0 := hSw.1.at 0 rfl; have e0 := hSw.2.at 0 rfl; have d1 := hSw.1.at 1 rfl; have e1 := hSw.2.at 1 rfl; have d2 := hSw.1.at 2 rfl; have e2 := hSw.2.at 2 rfl; go_simp; try with_reducible rfl
        try simp only [Act.put, List.setIfInBounds_toArray, List.set_cons_zero, List.set_cons_succ]
        refine take_one 9 34 (v := ?_) rfl rfl (by kernel_rfl) (by kernel_rfl) (by kernel_rfl) (fun _ _ _ h => h) (Or.inl ⟨by rfl, ?_⟩) hHeld ?_
        rotate_left
        · intro w' hSw; (try dsimp only at hSw); have d0 := hSw.1.at 0 rfl; have e0 := hSw.2.at 0 rfl; have d1 := hSw.1.at 1 rfl; have e1 := hSw.2.at 1 rfl; have d2 := hSw.1.at 2 rfl; have e2 := hSw.2.at 2 rfl; go_simp; try with_reducible rfl
        try simp only [Act.put, List.setIfInBounds_toArray, List.set_cons_zero, List.set_cons_succ]
        refine wpAnyH_ready (rs := [3]) (by kernel_rfl) (by simp) ?_
        refine AllReadyH.cons (i := 3) rfl (fun K hK => ?_) AllReadyH.nil
        go_simp
        refine (rising_is hwz hlz hs3).mono ?_
        rintro en v5 ⟨B5, L5, rfl, hB5, hi5, hL5, hb⟩
        replace TC := TC.later hb TC.lt
        replace UC := UC.later hb UC.lt
        replace RC := RC.later hb RC.lt
        replace hs3 := hs3.later hb
        replace BC := BC.trans (hb.mono BC.size)
        clear hb
        go_wp2_with fail
        refine hK.out _ _ ⟨TC, UC⟩ (fun hHeld2 => ?_)
        clear hK K hHeld
        have hHeld := hHeld2
        clear hHeld2
        try simp only [Act.put, List.setIfInBounds_toArray, List.set_cons_zero, List.set_cons_succ]
        have hsz5 := RC.lt
        refine wpAnyH_ready (rs := [4]) (by kernel_rfl) (by simp) ?_
        refine AllReadyH.cons (i := 4) rfl (fun K hK => ?_) AllReadyH.nil
        go_simp
        refine (collect_is hi5).mono ?_
        rintro en v6 ⟨cv, rfl, ho5, hb⟩
        replace TC := TC.later hb TC.lt
        replace UC := UC.later hb UC.lt
        replace RC := RC.later hb RC.lt
        replace hi5 := hi5.later hb
        replace BC := BC.trans (hb.mono BC.size)
        clear hb
        obtain ⟨ga, gc, rfl, _⟩ := own_shape ho5
        go_wp2_with fail
        refine hK.out _ _ ⟨TC, UC⟩ (fun hHeld2 => ?_)
        clear hK K hHeld
        have hHeld := hHeld2
        clear hHeld2
        try simp only [Act.put, List.setIfInBounds_toArray, List.set_cons_zero, List.set_cons_succ]
        refine take_one 10 35 (v := ?_) rfl rfl (by kernel_rfl) (by kernel_rfl) (by kernel_rfl) (fun _ _ _ h => h) (Or.inl ⟨by rfl, ?_⟩) hHeld ?_
        rotate_left
        · intro w' hSw; (try dsimp only at hSw); have d0 := hSw.1.at 0 rfl; have e0 := hSw.2.at 0 rfl; have d1 := hSw.1.at 1 rfl; have e1 := hSw.2.at 1 rfl; have d2 := hSw.1.at 2 rfl; have e2 := hSw.2.at 2 rfl; go_simp; try with_reducible rfl
        try simp only [Act.put, List.setIfInBounds_toArray, List.set_cons_zero, List.set_cons_succ]
        have N_ : Blk (w.heap.size + 1 + 1) [.int .i64 k, .slice ga L5.length gc, .int .i64 (min n m)] ((v6).setCells (w.heap.size + 1 + 1) 0 [.int .i64 k, .slice ga L5.length gc, .int .i64 (min n m)]) := RC.part 0 [.int .i64 k, .slice ga L5.length gc, .int .i64 (min n m)] _ (by simp) rfl
        have TC_ := Blk.farS (q := (w.heap.size + 1 + 1)) (by omega) [.int .i64 k, .slice ga L5.length gc, .int .i64 (min n m)] 0 _ TC
        have UC_ := Blk.farS (q := (w.heap.size + 1 + 1)) (by omega) [.int .i64 k, .slice ga L5.length gc, .int .i64 (min n m)] 0 _ UC
        have BC_ := below_sets (m := w.heap.size) (g := (w.heap.size + 1 + 1)) (by omega) [.int .i64 k, .slice ga L5.length gc, .int .i64 (min n m)] 0 _ BC
        refine wpAnyH_ready (rs := [11]) (by kernel_rfl) (by simp) ?_
        refine AllReadyH.cons (i := 11) rfl (fun K hK => ?_) AllReadyH.nil
        refine stepB 59 _ _ ((w.heap.size + 1 + 1)) 0 [.int .i64 0, .slice none 0 0, .int .i64 0] [.int .i64 k, .slice ga L5.length gc, .int .i64 (min n m)] ie hie RC (by rw [his]; rfl) (by simp) rfl rfl rfl rfl rfl ?_
        try simp only [Act.put, List.setIfInBounds_toArray]
        obtain ⟨V9, hV9⟩ : ∃ Wz, (v6).setCells ((w.heap.size + 1 + 1)) 0 [.int .i64 k, .slice ga L5.length gc, .int .i64 (min n m)] = Wz := ⟨_, rfl⟩
        have ho9 : OwT w.heap.size V9 (k, (ga, gc, L5), min n m) := by
          have h1 : OwT v5.heap.size v6 (k, (ga, gc, L5), min n m) := ho5
          have h2 : OwT v5.heap.size (v6.setCells (w.heap.size + 1 + 1) 0 [.int .i64 k, .slice ga L5.length gc, .int .i64 (min n m)]) (k, (ga, gc, L5), min n m) := h1.far (sets_grown (w.heap.size + 1 + 1) _ 0 v6) (by omega)
          rw [← hV9]
          exact h2.le (by omega)
        rw [hV9] at N_ BC_ TC_ UC_ ⊢
        clear hV9 RC BC TC UC
        have RC := N_
        have BC := BC_
        have TC := TC_
        have UC := UC_
        clear N_ BC_ TC_ UC_
        refine hK.out _ _ ⟨TC, UC⟩ (fun hHeld2 => ?_)
        clear hK K hHeld
        have hHeld := hHeld2
        clear hHeld2
        try simp only [Act.put, List.setIfInBounds_toArray, List.set_cons_zero, List.set_cons_succ]
        refine wpAnyH_done (by kernel_rfl) ?_ _
        go_wp2_with fail
        refine bodyPost_ret (res_B1 rfl _ _ (w.heap.size + 1 + 1) [.int .i64 k, .slice ga L5.length gc, .int .i64 (min n m)] ie hie (Try.isAgg59) RC his.symm rfl) rfl ?_
        refine ⟨(k, (ga, gc, L5), min n m), rfl, ?_, ho9, BC⟩
        have hk3 : k = 3 := HK3.out
        have hnm := HK.out.resolve_right (fun c => by omega)
        have hL : L5 = metP 3 xs ys := met_or rx ry hL5.1 (fun z => by
          rw [hL5.2, ← HZ.out, List.mem_append, hL2.2])
        rw [HJ.out, if_neg (by omega), hk3, ← hL, ← hk3]
        show (k, L5, min n m) = (k, L5, 0)
        rw [hnm.2.2.1, hnm.2.2.2]
        rfl
      · have q3 : (k == 3) = false := beq_eq_false_iff_ne.2 h3
        clear q4_ q5_ q6_
        have hk123 : Hid (k ≠ 1 ∧ k ≠ 2 ∧ k ≠ 3) := ⟨h1, h2, h3⟩
        clear h1 h2 h3
        have q4_ := TC.at 0 rfl
        have q5_ := TC.at 1 rfl
        have q6_ := TC.at 2 rfl
        have q7_ := UC.at 0 rfl
        have q8_ := UC.at 1 rfl
        have q9_ := UC.at 2 rfl
        go_wp2_with fail
        replace TC := TC.drew
        replace UC := UC.drew
        replace RC := RC.drew
        replace BC := BC.drew
        replace hs1 := hs1.drew
        refine wp_region_held_drew (S := (fun Vw => Blk w.heap.size [.int .i64 k, .slice a xs.length ca, .int .i64 n] Vw ∧ Blk (w.heap.size + 1) [.int .i64 k, .slice b ys.length cb, .int .i64 m] Vw)) (by kernel_rfl) ⟨TC, UC⟩ (fun hHeld => ?_)
        refine take_one 0 25 (v := ?_) rfl rfl (by kernel_rfl) (by kernel_rfl) (by kernel_rfl) (fun _ _ _ h => h) (Or.inl ⟨by rfl, ?_⟩) hHeld ?_
        rotate_left
        · intro w' hSw; (try dsimp only at hSw); have d0 := hSw.1.at 0 rfl; have e0 := hSw.2.at 0 rfl; have d1 := hSw.1.at 1 rfl; have e1 := hSw.2.at 1 rfl; have d2 := hSw.1.at 2 rfl; have e2 := hSw.2.at 2 rfl; go_simp; try with_reducible rfl
        try simp only [Act.put, List.setIfInBounds_toArray, List.set_cons_zero, List.set_cons_succ]
        refine take_one 1 26 (v := ?_) rfl rfl (by kernel_rfl) (by kernel_rfl) (by kernel_rfl) (fun _ _ _ h => h) (Or.inl ⟨by rfl, ?_⟩) hHeld ?_
        rotate_left
        · intro w' hSw; (try dsimp only at hSw); have d0 := hSw.1.at 0 rfl; have e0 := hSw.2.at 0 rfl; have d1 := hSw.1.at 1 rfl; have e1 := hSw.2.at 1 rfl; have d2 := hSw.1.at 2 rfl; have e2 := hSw.2.at 2 rfl; go_simp; try with_reducible rfl
        try simp only [Act.put, List.setIfInBounds_toArray, List.set_cons_zero, List.set_cons_succ]
        refine take_one 2 27 (v := ?_) rfl rfl (by kernel_rfl) (by kernel_rfl) (by kernel_rfl) (fun _ _ _ h => h) (Or.inl ⟨by rfl, ?_⟩) hHeld ?_
        rotate_left
        · intro w' hSw; (try dsimp only at hSw); have d0 := hSw.1.at 0 rfl; have e0 := hSw.2.at 0 rfl; have d1 := hSw.1.at 1 rfl; have e1 := hSw.2.at 1 rfl; have d2 := hSw.1.at 2 rfl; have e2 := hSw.2.at 2 rfl; go_simp; try with_reducible rfl
        try simp only [Act.put, List.setIfInBounds_toArray, List.set_cons_zero, List.set_cons_succ]
        refine take_one 5 30 (v := ?_) rfl rfl (by kernel_rfl) (by kernel_rfl) (by kernel_rfl) (fun _ _ _ h => h) (Or.inl ⟨by rfl, ?_⟩) hHeld ?_
        rotate_left
        · intro w' hSw; (try dsimp only at hSw); have d0 := hSw.1.at 0 rfl; have e0 := hSw.2.at 0 rfl; have d1 := hSw.1.at 1 rfl; have e1 := hSw.2.at 1 rfl; have d2 := hSw.1.at 2 rfl; have e2 := hSw.2.at 2 rfl; go_simp; try with_reducible rfl
        try simp only [Act.put, List.setIfInBounds_toArray, List.set_cons_zero, List.set_cons_succ]
        refine take_one 6 31 (v := ?_) rfl rfl (by kernel_rfl) (by kernel_rfl) (by kernel_rfl) (fun _ _ _ h => h) (Or.inl ⟨by rfl, ?_⟩) hHeld ?_
        rotate_left
        · intro w' hSw; (try dsimp only at hSw); have d0 := hSw.1.at 0 rfl; have e0 := hSw.2.at 0 rfl; have d1 := hSw.1.at 1 rfl; have e1 := hSw.2.at 1 rfl; have d2 := hSw.1.at 2 rfl; have e2 := hSw.2.at 2 rfl; go_simp; try with_reducible rfl
        try simp only [Act.put, List.setIfInBounds_toArray, List.set_cons_zero, List.set_cons_succ]
        refine take_one 7 32 (v := ?_) rfl rfl (by kernel_rfl) (by kernel_rfl) (by kernel_rfl) (fun _ _ _ h => h) (Or.inl ⟨by rfl, ?_⟩) hHeld ?_
        rotate_left
        · intro w' hSw; (try dsimp only at hSw); have d0 := hSw.1.at 0 rfl; have e0 := hSw.2.at 0 rfl; have d1 := hSw.1.at 1 rfl; have e1 := hSw.2.at 1 rfl; have d2 := hSw.1.at 2 rfl; have e2 := hSw.2.at 2 rfl; go_simp; try with_reducible rfl
        try simp only [Act.put, List.setIfInBounds_toArray, List.set_cons_zero, List.set_cons_succ]
        refine take_one 8 33 (v := ?_) rfl rfl (by kernel_rfl) (by kernel_rfl) (by kernel_rfl) (fun _ _ _ h => h) (Or.inl ⟨by rfl, ?_⟩) hHeld ?_
        rotate_left
        · intro w' hSw; (try dsimp only at hSw); have d0 := hSw.1.at 0 rfl; have e0 := hSw.2.at 0 rfl; have d1 := hSw.1.at 1 rfl; have e1 := hSw.2.at 1 rfl; have d2 := hSw.1.at 2 rfl; have e2 := hSw.2.at 2 rfl; go_simp; try with_reducible rfl
        try simp only [Act.put, List.setIfInBounds_toArray, List.set_cons_zero, List.set_cons_succ]
        refine take_one 9 34 (v := ?_) rfl rfl (by kernel_rfl) (by kernel_rfl) (by kernel_rfl) (fun _ _ _ h => h) (Or.inl ⟨by rfl, ?_⟩) hHeld ?_
        rotate_left
        · intro w' hSw; (try dsimp only at hSw); have d0 := hSw.1.at 0 rfl; have e0 := hSw.2.at 0 rfl; have d1 := hSw.1.at 1 rfl; have e1 := hSw.2.at 1 rfl; have d2 := hSw.1.at 2 rfl; have e2 := hSw.2.at 2 rfl; go_simp; try with_reducible rfl
        try simp only [Act.put, List.setIfInBounds_toArray, List.set_cons_zero, List.set_cons_succ]
        refine wpAnyH_ready (rs := [3]) (by kernel_rfl) (by simp) ?_
        refine AllReadyH.cons (i := 3) rfl (fun K hK => ?_) AllReadyH.nil
        go_simp
        refine (rising_is (wf_ri rx) (by omega) hs1).mono ?_
        rintro en v5 ⟨B5, L5, rfl, hB5, hi5, hL5, hb⟩
        replace TC := TC.later hb TC.lt
        replace UC := UC.later hb UC.lt
        replace RC := RC.later hb RC.lt
        replace hs1 := hs1.later hb
        replace BC := BC.trans (hb.mono BC.size)
        clear hb
        go_wp2_with fail
        refine hK.out _ _ ⟨TC, UC⟩ (fun hHeld2 => ?_)
        clear hK K hHeld
        have hHeld := hHeld2
        clear hHeld2
        try simp only [Act.put, List.setIfInBounds_toArray, List.set_cons_zero, List.set_cons_succ]
        have hsz5 := RC.lt
        refine wpAnyH_ready (rs := [4]) (by kernel_rfl) (by simp) ?_
        refine AllReadyH.cons (i := 4) rfl (fun K hK => ?_) AllReadyH.nil
        go_simp
        refine (collect_is hi5).mono ?_
        rintro en v6 ⟨cv, rfl, ho5, hb⟩
        replace TC := TC.later hb TC.lt
        replace UC := UC.later hb UC.lt
        replace RC := RC.later hb RC.lt
        replace hi5 := hi5.later hb
        replace BC := BC.trans (hb.mono BC.size)
        clear hb
        obtain ⟨ga, gc, rfl, _⟩ := own_shape ho5
        go_wp2_with fail
        refine hK.out _ _ ⟨TC, UC⟩ (fun hHeld2 => ?_)
        clear hK K hHeld
        have hHeld := hHeld2
        clear hHeld2
        try simp only [Act.put, List.setIfInBounds_toArray, List.set_cons_zero, List.set_cons_succ]
        refine take_one 10 35 (v := ?_) rfl rfl (by kernel_rfl) (by kernel_rfl) (by kernel_rfl) (fun _ _ _ h => h) (Or.inl ⟨by rfl, ?_⟩) hHeld ?_
        rotate_left
        · intro w' hSw; (try dsimp only at hSw); have d0 := hSw.1.at 0 rfl; have e0 := hSw.2.at 0 rfl; have d1 := hSw.1.at 1 rfl; have e1 := hSw.2.at 1 rfl; have d2 := hSw.1.at 2 rfl; have e2 := hSw.2.at 2 rfl; go_simp; try with_reducible rfl
        try simp only [Act.put, List.setIfInBounds_toArray, List.set_cons_zero, List.set_cons_succ]
        have N_ : Blk (w.heap.size + 1 + 1) [.int .i64 k, .slice ga L5.length gc, .int .i64 (min n m)] ((v6).setCells (w.heap.size + 1 + 1) 0 [.int .i64 k, .slice ga L5.length gc, .int .i64 (min n m)]) := RC.part 0 [.int .i64 k, .slice ga L5.length gc, .int .i64 (min n m)] _ (by simp) rfl
        have TC_ := Blk.farS (q := (w.heap.size + 1 + 1)) (by omega) [.int .i64 k, .slice ga L5.length gc, .int .i64 (min n m)] 0 _ TC
        have UC_ := Blk.farS (q := (w.heap.size + 1 + 1)) (by omega) [.int .i64 k, .slice ga L5.length gc, .int .i64 (min n m)] 0 _ UC
        have BC_ := below_sets (m := w.heap.size) (g := (w.heap.size + 1 + 1)) (by omega) [.int .i64 k, .slice ga L5.length gc, .int .i64 (min n m)] 0 _ BC
        refine wpAnyH_ready (rs := [11]) (by kernel_rfl) (by simp) ?_
        refine AllReadyH.cons (i := 11) rfl (fun K hK => ?_) AllReadyH.nil
        refine stepB 59 _ _ ((w.heap.size + 1 + 1)) 0 [.int .i64 0, .slice none 0 0, .int .i64 0] [.int .i64 k, .slice ga L5.length gc, .int .i64 (min n m)] ie hie RC (by rw [his]; rfl) (by simp) rfl rfl rfl rfl rfl ?_
        try simp only [Act.put, List.setIfInBounds_toArray]
        obtain ⟨V9, hV9⟩ : ∃ Wz, (v6).setCells ((w.heap.size + 1 + 1)) 0 [.int .i64 k, .slice ga L5.length gc, .int .i64 (min n m)] = Wz := ⟨_, rfl⟩
        have ho9 : OwT w.heap.size V9 (k, (ga, gc, L5), min n m) := by
          have h1 : OwT v5.heap.size v6 (k, (ga, gc, L5), min n m) := ho5
          have h2 : OwT v5.heap.size (v6.setCells (w.heap.size + 1 + 1) 0 [.int .i64 k, .slice ga L5.length gc, .int .i64 (min n m)]) (k, (ga, gc, L5), min n m) := h1.far (sets_grown (w.heap.size + 1 + 1) _ 0 v6) (by omega)
          rw [← hV9]
          exact h2.le (by omega)
        rw [hV9] at N_ BC_ TC_ UC_ ⊢
        clear hV9 RC BC TC UC
        have RC := N_
        have BC := BC_
        have TC := TC_
        have UC := UC_
        clear N_ BC_ TC_ UC_
        refine hK.out _ _ ⟨TC, UC⟩ (fun hHeld2 => ?_)
        clear hK K hHeld
        have hHeld := hHeld2
        clear hHeld2
        try simp only [Act.put, List.setIfInBounds_toArray, List.set_cons_zero, List.set_cons_succ]
        refine wpAnyH_done (by kernel_rfl) ?_ _
        go_wp2_with fail
        refine bodyPost_ret (res_B1 rfl _ _ (w.heap.size + 1 + 1) [.int .i64 k, .slice ga L5.length gc, .int .i64 (min n m)] ie hie (Try.isAgg59) RC his.symm rfl) rfl ?_
        refine ⟨(k, (ga, gc, L5), min n m), rfl, ?_, ho9, BC⟩
        have hkn := hk123.out
        have hnm := HK.out.resolve_left (fun c => by omega)
        have hL : L5 = [] := by
          apply List.eq_nil_iff_forall_not_mem.2
          intro z hz
          have h_ := (hL5.2 z).1 hz
          rw [hnm.2.2.1] at h_
          simp at h_
        rw [HJ.out, if_pos hnm.1, hL]
        rfl
end Go.Proofs.Ytjbbhegijlnndaa.Nd
