/- What is known, copied: the model's copy, in whatever order its two rows are made. -/
import Derived.Test.YtkekfogepdhjhaaCopy
import Derived.Test.YtkekfogepdhjhaaKnow3
set_option linter.unusedVariables false
namespace Go.Proofs.Ytkekfogepdhjhaa
open Go.RowKit Own Var Term

/-- A step of a drawn region: 'append' onto a row of the call's own. -/
theorem step_own {P : Program} {ops : Array Oper} {o : Oper} {a : Act} {w : World} {K : Act → World → Prop} {Q : Exit → Act → World → Prop} {E : Prop} (d : Nat) (hd : o.dst = some d) (hgd : o.guard = none) (s x : Operand) (t : TypeId)
    (ho : o.op = .call { callee := .builtin .append, args := #[s, x], argTypes := #[t, t] })
    (base : Nat) (e : TypeId) (i : TypeInfo) (z : Value) (size bytes : Nat) (ht : P.underlying t = some (.slice e)) (hi : P.info? e = some i) (hz : i.zero = some z)
    (hsize : i.size = size) (hby : i.bytes = bytes) (hzs : z.cells.size = size) (hsz : 0 < size)
    (v : Value) (n : Nat) (xs : List Value) (hs : a.eval s = v) (hown : w.ownsRow base e size v n xs)
    (ad : Addr) (m c : Nat) (news : List Value) (hx : a.eval x = .slice (some ad) m c) (hl : news.length = m * size) (hnews : ∀ j u, news[j]? = some u → w.cell? (ad.add j) = some u) (h1 : ∀ u ∈ news, u.oneCell' = true)
    (h63 : n + m ≤ maxLen) (hbytes : (n + m) * bytes ≤ 140737488355328) (hbase : base ≤ w.heap.size)
    (h : ∀ v' w', w'.ownsRow base e size v' (n + m) (xs ++ news) → w.grownBy w' v.ownBlock → K (a.put (some d) v') w') :
    if Region.wanted o (yielded ops a.tmps) = true then Oper.wp P o a w K Q else E := by
  have hw : Region.wanted o (yielded ops a.tmps) = true := by simp [Region.wanted, hgd]
  rw [if_pos hw]
  exact wp_append_own w s x t ho base e i z size bytes ht hi hz hsize hby hzs hsz v n xs hs hown ad m c news hx hl hnews h1 h63 hbytes hbase (fun v' w' h2 h3 _ => by rw [hd]; exact h v' w' h2 h3)
theorem own_ne' {w : World} {b b' n n' : Nat} {v v' : Value} {xs xs' : List Value} (h : w.ownsRow b 9 1 v n xs) (h' : w.ownsRow b' 3 1 v' n' xs') : v'.ownBlock = none ∨ v'.ownBlock ≠ v.ownBlock := by
  rcases hh : v'.ownBlock with _ | k
  · exact Or.inl rfl
  · right
    intro e
    rcases own_ne h h' with h2 | h2
    · rw [h2] at e; cases e
    · rw [hh] at h2; exact h2 e.symm

set_option maxRecDepth 100000 in
set_option maxHeartbeats 6400000 in
theorem l3Copy_is (g1 o1 g2 o2 ca cb : Nat) (xs : List ByteArray) (ks : List Int) (w : World) (hr : RowAt Value.string w (some ⟨g1, o1, none⟩) xs) (hq : RowAt (Value.int .i64) w (some ⟨g2, o2, none⟩) ks) (hl : xs.length ≤ 1048576) (hl2 : ks.length ≤ 1048576) :
    Calls Try.prog 64 #[.agg #[.slice (some ⟨g1, o1, none⟩) xs.length ca, .slice (some ⟨g2, o2, none⟩) ks.length cb]] w fun e w' => ∃ v, e = .returned v ∧ KeepK w.heap.size w' v xs ks ∧ Below w.heap.size w w' := by
  obtain ⟨i0, hi, hz0, hz1, hz2⟩ := info_parts infoStr
  obtain ⟨j0, hj, hy0, hy1, hy2⟩ := info_parts infoInt
  obtain ⟨W2, hW2⟩ : ∃ W2, (w.alloc (.cells #[.slice (some ⟨g1, o1, none⟩) xs.length ca, .slice (some ⟨g2, o2, none⟩) ks.length cb] 27)).alloc (.cells #[.slice none 0 0, .slice none 0 0] 27) = W2 := ⟨_, rfl⟩
  have hb0 : Below w.heap.size w W2 := by rw [← hW2]; exact ((Below.refl _ _).alloc (Nat.le_refl _) _).alloc (by simp) _
  have hz : Hid (W2.heap.size = w.heap.size + 2) := by show W2.heap.size = w.heap.size + 2; rw [← hW2]; simp
  have c0 : W2.cell? ⟨w.heap.size, 0, none⟩ = some (.slice (some ⟨g1, o1, none⟩) xs.length ca) := by rw [← hW2]; simp [go_sem]
  have c1 : W2.cell? ⟨w.heap.size, 1, none⟩ = some (.slice (some ⟨g2, o2, none⟩) ks.length cb) := by rw [← hW2]; simp [go_sem]
  have c2 : W2.cell? ⟨w.heap.size + 1, 0, none⟩ = some (.slice none 0 0) := by rw [← hW2]; simp [go_sem]
  have c3 : W2.cell? ⟨w.heap.size + 1, 1, none⟩ = some (.slice none 0 0) := by rw [← hW2]; simp [go_sem]
  have f2 : W2.frozen? ⟨w.heap.size + 1, 0, none⟩ = false := by rw [← hW2]; simp [go_sem]
  have f3 : W2.frozen? ⟨w.heap.size + 1, 1, none⟩ = false := by rw [← hW2]; simp [go_sem]
  have L0 : ∀ o, (⟨w.heap.size, o, none⟩ : Addr).block < W2.heap.size := fun o => by have := hz.out; show w.heap.size < _; omega
  have L1 : ∀ o, (⟨w.heap.size + 1, o, none⟩ : Addr).block < W2.heap.size := fun o => by have := hz.out; show w.heap.size + 1 < _; omega
  have hr2 := hr.later hb0
  have hq2 := hq.later hb0
  have HR : Hid (RowAt Value.string W2 (some ⟨g1, o1, none⟩) xs) := hr2
  have HQ : Hid (RowAt (Value.int .i64) W2 (some ⟨g2, o2, none⟩) ks) := hq2
  -- behind the region: the value lies in the call's own block
  have FIN : Hid (∀ (W : World) (v9 v3 : Value), Below W2.heap.size W2 W → W.ownsRow W2.heap.size 9 1 v9 xs.length (strV xs) → W.ownsRow W2.heap.size 3 1 v3 ks.length (intV ks) →
      ((W.setCell ⟨w.heap.size + 1, 0, none⟩ v9).setCell ⟨w.heap.size + 1, 1, none⟩ v3).cell? ⟨w.heap.size + 1, 0, none⟩ = some v9 ∧ ((W.setCell ⟨w.heap.size + 1, 0, none⟩ v9).setCell ⟨w.heap.size + 1, 1, none⟩ v3).cell? ⟨w.heap.size + 1, 1, none⟩ = some v3 ∧
      KeepK w.heap.size ((W.setCell ⟨w.heap.size + 1, 0, none⟩ v9).setCell ⟨w.heap.size + 1, 1, none⟩ v3) (.agg #[v9, v3]) xs ks ∧ Below w.heap.size w ((W.setCell ⟨w.heap.size + 1, 0, none⟩ v9).setCell ⟨w.heap.size + 1, 1, none⟩ v3)) := by
    intro W v9 v3 hB h9 h3
    have d2 := (hB.cell (L1 0)).trans c2
    have d3 := (hB.cell (L1 1)).trans c3
    have hb5 := hb0.trans (hB.mono hb0.size)
    refine ⟨?_, ?_, ?_, (hb5.setCell (by show w.heap.size ≤ w.heap.size + 1; omega) _).setCell (by show w.heap.size ≤ w.heap.size + 1; omega) _⟩
    · rw [World.cell?_setCell_other _ _ _ _ (by simp)]
      exact World.cell?_setCell_same' _ _ _ (by rw [d2]; rfl)
    · exact World.cell?_setCell_same' _ _ _ (by rw [World.cell?_setCell_other _ _ _ _ (by simp), d3]; rfl)
    · obtain ⟨a', cap', rfl, _, _⟩ := own_row h9
      obtain ⟨b', cap2, rfl, _, _⟩ := own_row h3
      exact ⟨a', b', cap', cap2, rfl, own_base (ownsRow_setCell_below (ownsRow_setCell_below h9 (L1 0) _) (L1 1) _) hb0.size, own_base (ownsRow_setCell_below (ownsRow_setCell_below h3 (L1 0) _) (L1 1) _) hb0.size⟩
  clear hr hq hr2 hq2
  go_enter Try.func64, Try.ntmps64
  go_wp2_with fail
  try rw [hW2]
  clear hW2
  refine wp_region_held_drew (S := fun W => W.cell? ⟨w.heap.size, 0, none⟩ = some (.slice (some ⟨g1, o1, none⟩) xs.length ca) ∧ W.cell? ⟨w.heap.size, 1, none⟩ = some (.slice (some ⟨g2, o2, none⟩) ks.length cb)) (by kernel_rfl) ⟨by simpa using c0, by simpa using c1⟩ (fun hHeld => ?_)
  have hB : Below W2.heap.size W2 W2.drew := (Below.refl _ _).drew
  refine take_one 1 4 (v := ?_) rfl rfl (by kernel_rfl) (by kernel_rfl) (by kernel_rfl) (fun _ _ _ h => h) (Or.inl ⟨by rfl, ?_⟩) hHeld ?_
  rotate_left
  · intro w' hSw; (try dsimp only at hSw); go_simp; try with_reducible rfl
  try simp only [Act.put, List.setIfInBounds_toArray, List.set_cons_zero, List.set_cons_succ]
  refine take_one 2 5 (v := ?_) rfl rfl (by kernel_rfl) (by kernel_rfl) (by kernel_rfl) (fun _ _ _ h => h) (Or.inl ⟨by rfl, ?_⟩) hHeld ?_
  rotate_left
  · intro w' hSw; (try dsimp only at hSw); go_simp; try with_reducible rfl
  try simp only [Act.put, List.setIfInBounds_toArray, List.set_cons_zero, List.set_cons_succ]
  refine take_one 5 8 (v := ?_) rfl rfl (by kernel_rfl) (by kernel_rfl) (by kernel_rfl) (fun _ _ _ h => h) (Or.inl ⟨by rfl, ?_⟩) hHeld ?_
  rotate_left
  · intro w' hSw; (try dsimp only at hSw); go_simp; try with_reducible rfl
  try simp only [Act.put, List.setIfInBounds_toArray, List.set_cons_zero, List.set_cons_succ]
  refine take_one 6 9 (v := ?_) rfl rfl (by kernel_rfl) (by kernel_rfl) (by kernel_rfl) (fun _ _ _ h => h) (Or.inl ⟨by rfl, ?_⟩) hHeld ?_
  rotate_left
  · intro w' hSw; (try dsimp only at hSw); go_simp; try with_reducible rfl
  try simp only [Act.put, List.setIfInBounds_toArray, List.set_cons_zero, List.set_cons_succ]
  refine wpAnyH_ready (rs := [0, 4]) (by kernel_rfl) (by simp) ?_
  refine AllReadyH.cons (i := 0) rfl (fun K hK => ?_) ?_
  · go_simp
    have hBn : Below W2.heap.size W2 (World.alloc W2.drew (.cells #[] 9)) := hB.alloc hB.size _
    refine hK.out _ _ ⟨(hBn.cell (L0 0)).trans c0, (hBn.cell (L0 1)).trans c1⟩ (fun hH2 => ?_)
    have h9 : World.ownsRow (World.alloc W2.drew (.cells #[] 9)) W2.heap.size 9 1 (.slice (some ⟨World.heap W2.drew |>.size, 0, none⟩) 0 0) 0 [] := World.ownsRow_lit _ _ _ hB.size (by unfold maxLen; omega) rfl
    have hnum : (World.heap W2.drew).size = W2.heap.size := by first | rfl | simp
    rw [hnum] at h9
    clear hnum
    clear hK K hHeld hB
    have hHeld := hH2
    have hB := hBn
    clear hH2 hBn
    try simp only [Act.put, List.setIfInBounds_toArray, List.set_cons_zero, List.set_cons_succ]
    refine wpAnyH_ready (rs := [3, 4]) (by kernel_rfl) (by simp) ?_
    refine AllReadyH.cons (i := 3) rfl (fun K hK => ?_) ?_
    · refine step_own 6 rfl rfl _ _ 24 rfl W2.heap.size 9 i0 (.string ⟨#[]⟩) 1 16 Try.underlying24 hi hz0 hz1 hz2 rfl (by decide) (.slice (some ⟨W2.heap.size, 0, none⟩) 0 0) 0 [] rfl h9 ⟨g1, o1, none⟩ xs.length ca (strV xs) rfl (by simp [strV]) (news_of (HR.out.later hB)) (one_str xs) (by unfold maxLen; omega) (by omega) hB.size ?_
      intro v9n u2 hn9 hgr
      have hBn : Below W2.heap.size W2 u2 := hB.grown hgr hB.size (fun k hk => (h9.lt k hk).1)
      refine hK.out _ _ ⟨(hBn.cell (L0 0)).trans c0, (hBn.cell (L0 1)).trans c1⟩ (fun hH2 => ?_)
      simp only [Nat.zero_add, List.nil_append] at hn9
      clear h9 hgr hK K hHeld hB
      have h9 := hn9
      have hHeld := hH2
      have hB := hBn
      clear hH2 hn9 hBn
      try simp only [Act.put, List.setIfInBounds_toArray, List.set_cons_zero, List.set_cons_succ]
      refine wpAnyH_ready (rs := [4]) (by kernel_rfl) (by simp) ?_
      refine AllReadyH.cons (i := 4) rfl (fun K hK => ?_) AllReadyH.nil
      go_simp
      have hBn : Below W2.heap.size W2 (World.alloc u2 (.cells #[] 3)) := hB.alloc hB.size _
      refine hK.out _ _ ⟨(hBn.cell (L0 0)).trans c0, (hBn.cell (L0 1)).trans c1⟩ (fun hH2 => ?_)
      have h3 : World.ownsRow (World.alloc u2 (.cells #[] 3)) W2.heap.size 3 1 (.slice (some ⟨World.heap u2 |>.size, 0, none⟩) 0 0) 0 [] := World.ownsRow_lit _ _ _ hB.size (by unfold maxLen; omega) rfl
      have hnum : (World.heap u2).size = u2.heap.size := by first | rfl | simp
      rw [hnum] at h3
      clear hnum
      have h9' := h9.alloc (.cells #[] 3)
      clear h9
      have h9 := h9'
      clear h9'
      clear hK K hHeld hB
      have hHeld := hH2
      have hB := hBn
      clear hH2 hBn
      try simp only [Act.put, List.setIfInBounds_toArray, List.set_cons_zero, List.set_cons_succ]
      refine wpAnyH_ready (rs := [7]) (by kernel_rfl) (by simp) ?_
      refine AllReadyH.cons (i := 7) rfl (fun K hK => ?_) AllReadyH.nil
      refine step_own 10 rfl rfl _ _ 25 rfl W2.heap.size 3 j0 (.int .i64 0) 1 8 Try.underlying25 hj hy0 hy1 hy2 rfl (by decide) (.slice (some ⟨u2.heap.size, 0, none⟩) 0 0) 0 [] rfl h3 ⟨g2, o2, none⟩ ks.length cb (intV ks) rfl (by simp [intV]) (news_of (HQ.out.later hB)) (one_int ks) (by unfold maxLen; omega) (by omega) hB.size ?_
      intro v3n u4 hn3 hgr
      have hBn : Below W2.heap.size W2 u4 := hB.grown hgr hB.size (fun k hk => (h3.lt k hk).1)
      refine hK.out _ _ ⟨(hBn.cell (L0 0)).trans c0, (hBn.cell (L0 1)).trans c1⟩ (fun hH2 => ?_)
      have h9' := World.ownsRow.kept (w' := u4) h9 hgr (own_ne h9 h3)
      clear h9
      have h9 := h9'
      clear h9'
      simp only [Nat.zero_add, List.nil_append] at hn3
      clear h3 hgr hK K hHeld hB
      have h3 := hn3
      have hHeld := hH2
      have hB := hBn
      clear hH2 hn3 hBn
      try simp only [Act.put, List.setIfInBounds_toArray, List.set_cons_zero, List.set_cons_succ]
      obtain ⟨a9, k9, rfl, _, _⟩ := own_row h9
      obtain ⟨a3, k3, rfl, _, _⟩ := own_row h3
      have FF := FIN.out u4 _ _ hB h9 h3
      have d2 := (hB.cell (L1 0)).trans c2
      have d3 := (hB.cell (L1 1)).trans c3
      have x2 := (hB.frozen (L1 0)).trans f2
      have x3 := (hB.frozen (L1 1)).trans f3
      refine take_one 8 11 (v := ?_) rfl rfl (by kernel_rfl) (by kernel_rfl) (by kernel_rfl) (fun _ _ _ h => h) (Or.inl ⟨by rfl, ?_⟩) hHeld ?_
      rotate_left
      · intro w' hSw; (try dsimp only at hSw); go_simp; try with_reducible rfl
      try simp only [Act.put, List.setIfInBounds_toArray, List.set_cons_zero, List.set_cons_succ]
      refine wpAnyH_ready (rs := [9]) (by kernel_rfl) (by simp) ?_
      refine AllReadyH.cons (i := 9) rfl (fun K hK => ?_) AllReadyH.nil
      go_simp
      refine hK.out _ _ ⟨by rw [World.cell?_setCell_other _ _ _ _ (by simp), World.cell?_setCell_other _ _ _ _ (by simp)]; exact hHeld.1, by rw [World.cell?_setCell_other _ _ _ _ (by simp), World.cell?_setCell_other _ _ _ _ (by simp)]; exact hHeld.2⟩ (fun hH2 => ?_)
      clear hK K hHeld hH2 h9 h3 hB d2 d3 x2 x3
      refine wpAnyH_done (by kernel_rfl) ?_ _
      go_wp2
      refine bodyPost_ret (res_two rfl _ _ (w.heap.size + 1) _ _ rfl FF.1 FF.2.1) rfl ⟨_, rfl, FF.2.2.1, FF.2.2.2⟩
    refine AllReadyH.cons (i := 4) rfl (fun K hK => ?_) AllReadyH.nil
    go_simp
    have hBn : Below W2.heap.size W2 (World.alloc (World.alloc W2.drew (.cells #[] 9)) (.cells #[] 3)) := hB.alloc hB.size _
    refine hK.out _ _ ⟨(hBn.cell (L0 0)).trans c0, (hBn.cell (L0 1)).trans c1⟩ (fun hH2 => ?_)
    have h3 : World.ownsRow (World.alloc (World.alloc W2.drew (.cells #[] 9)) (.cells #[] 3)) W2.heap.size 3 1 (.slice (some ⟨World.heap (World.alloc W2.drew (.cells #[] 9)) |>.size, 0, none⟩) 0 0) 0 [] := World.ownsRow_lit _ _ _ hB.size (by unfold maxLen; omega) rfl
    have hnum : (World.heap (World.alloc W2.drew (.cells #[] 9))).size = W2.heap.size + 1 := by first | rfl | simp
    rw [hnum] at h3
    clear hnum
    have h9' := h9.alloc (.cells #[] 3)
    clear h9
    have h9 := h9'
    clear h9'
    clear hK K hHeld hB
    have hHeld := hH2
    have hB := hBn
    clear hH2 hBn
    try simp only [Act.put, List.setIfInBounds_toArray, List.set_cons_zero, List.set_cons_succ]
    refine wpAnyH_ready (rs := [3]) (by kernel_rfl) (by simp) ?_
    refine AllReadyH.cons (i := 3) rfl (fun K hK => ?_) AllReadyH.nil
    refine step_own 6 rfl rfl _ _ 24 rfl W2.heap.size 9 i0 (.string ⟨#[]⟩) 1 16 Try.underlying24 hi hz0 hz1 hz2 rfl (by decide) (.slice (some ⟨W2.heap.size, 0, none⟩) 0 0) 0 [] rfl h9 ⟨g1, o1, none⟩ xs.length ca (strV xs) rfl (by simp [strV]) (news_of (HR.out.later hB)) (one_str xs) (by unfold maxLen; omega) (by omega) hB.size ?_
    intro v9n u6 hn9 hgr
    have hBn : Below W2.heap.size W2 u6 := hB.grown hgr hB.size (fun k hk => (h9.lt k hk).1)
    refine hK.out _ _ ⟨(hBn.cell (L0 0)).trans c0, (hBn.cell (L0 1)).trans c1⟩ (fun hH2 => ?_)
    have h3' := World.ownsRow.kept (w' := u6) h3 hgr (own_ne' h9 h3)
    clear h3
    have h3 := h3'
    clear h3'
    simp only [Nat.zero_add, List.nil_append] at hn9
    clear h9 hgr hK K hHeld hB
    have h9 := hn9
    have hHeld := hH2
    have hB := hBn
    clear hH2 hn9 hBn
    try simp only [Act.put, List.setIfInBounds_toArray, List.set_cons_zero, List.set_cons_succ]
    refine wpAnyH_ready (rs := [7]) (by kernel_rfl) (by simp) ?_
    refine AllReadyH.cons (i := 7) rfl (fun K hK => ?_) AllReadyH.nil
    refine step_own 10 rfl rfl _ _ 25 rfl W2.heap.size 3 j0 (.int .i64 0) 1 8 Try.underlying25 hj hy0 hy1 hy2 rfl (by decide) (.slice (some ⟨W2.heap.size + 1, 0, none⟩) 0 0) 0 [] rfl h3 ⟨g2, o2, none⟩ ks.length cb (intV ks) rfl (by simp [intV]) (news_of (HQ.out.later hB)) (one_int ks) (by unfold maxLen; omega) (by omega) hB.size ?_
    intro v3n u7 hn3 hgr
    have hBn : Below W2.heap.size W2 u7 := hB.grown hgr hB.size (fun k hk => (h3.lt k hk).1)
    refine hK.out _ _ ⟨(hBn.cell (L0 0)).trans c0, (hBn.cell (L0 1)).trans c1⟩ (fun hH2 => ?_)
    have h9' := World.ownsRow.kept (w' := u7) h9 hgr (own_ne h9 h3)
    clear h9
    have h9 := h9'
    clear h9'
    simp only [Nat.zero_add, List.nil_append] at hn3
    clear h3 hgr hK K hHeld hB
    have h3 := hn3
    have hHeld := hH2
    have hB := hBn
    clear hH2 hn3 hBn
    try simp only [Act.put, List.setIfInBounds_toArray, List.set_cons_zero, List.set_cons_succ]
    obtain ⟨a9, k9, rfl, _, _⟩ := own_row h9
    obtain ⟨a3, k3, rfl, _, _⟩ := own_row h3
    have FF := FIN.out u7 _ _ hB h9 h3
    have d2 := (hB.cell (L1 0)).trans c2
    have d3 := (hB.cell (L1 1)).trans c3
    have x2 := (hB.frozen (L1 0)).trans f2
    have x3 := (hB.frozen (L1 1)).trans f3
    refine take_one 8 11 (v := ?_) rfl rfl (by kernel_rfl) (by kernel_rfl) (by kernel_rfl) (fun _ _ _ h => h) (Or.inl ⟨by rfl, ?_⟩) hHeld ?_
    rotate_left
    · intro w' hSw; (try dsimp only at hSw); go_simp; try with_reducible rfl
    try simp only [Act.put, List.setIfInBounds_toArray, List.set_cons_zero, List.set_cons_succ]
    refine wpAnyH_ready (rs := [9]) (by kernel_rfl) (by simp) ?_
    refine AllReadyH.cons (i := 9) rfl (fun K hK => ?_) AllReadyH.nil
    go_simp
    refine hK.out _ _ ⟨by rw [World.cell?_setCell_other _ _ _ _ (by simp), World.cell?_setCell_other _ _ _ _ (by simp)]; exact hHeld.1, by rw [World.cell?_setCell_other _ _ _ _ (by simp), World.cell?_setCell_other _ _ _ _ (by simp)]; exact hHeld.2⟩ (fun hH2 => ?_)
    clear hK K hHeld hH2 h9 h3 hB d2 d3 x2 x3
    refine wpAnyH_done (by kernel_rfl) ?_ _
    go_wp2
    refine bodyPost_ret (res_two rfl _ _ (w.heap.size + 1) _ _ rfl FF.1 FF.2.1) rfl ⟨_, rfl, FF.2.2.1, FF.2.2.2⟩
  refine AllReadyH.cons (i := 4) rfl (fun K hK => ?_) AllReadyH.nil
  go_simp
  have hBn : Below W2.heap.size W2 (World.alloc W2.drew (.cells #[] 3)) := hB.alloc hB.size _
  refine hK.out _ _ ⟨(hBn.cell (L0 0)).trans c0, (hBn.cell (L0 1)).trans c1⟩ (fun hH2 => ?_)
  have h3 : World.ownsRow (World.alloc W2.drew (.cells #[] 3)) W2.heap.size 3 1 (.slice (some ⟨World.heap W2.drew |>.size, 0, none⟩) 0 0) 0 [] := World.ownsRow_lit _ _ _ hB.size (by unfold maxLen; omega) rfl
  have hnum : (World.heap W2.drew).size = W2.heap.size := by first | rfl | simp
  rw [hnum] at h3
  clear hnum
  clear hK K hHeld hB
  have hHeld := hH2
  have hB := hBn
  clear hH2 hBn
  try simp only [Act.put, List.setIfInBounds_toArray, List.set_cons_zero, List.set_cons_succ]
  refine wpAnyH_ready (rs := [0]) (by kernel_rfl) (by simp) ?_
  refine AllReadyH.cons (i := 0) rfl (fun K hK => ?_) AllReadyH.nil
  go_simp
  have hBn : Below W2.heap.size W2 (World.alloc (World.alloc W2.drew (.cells #[] 3)) (.cells #[] 9)) := hB.alloc hB.size _
  refine hK.out _ _ ⟨(hBn.cell (L0 0)).trans c0, (hBn.cell (L0 1)).trans c1⟩ (fun hH2 => ?_)
  have h9 : World.ownsRow (World.alloc (World.alloc W2.drew (.cells #[] 3)) (.cells #[] 9)) W2.heap.size 9 1 (.slice (some ⟨World.heap (World.alloc W2.drew (.cells #[] 3)) |>.size, 0, none⟩) 0 0) 0 [] := World.ownsRow_lit _ _ _ hB.size (by unfold maxLen; omega) rfl
  have hnum : (World.heap (World.alloc W2.drew (.cells #[] 3))).size = W2.heap.size + 1 := by first | rfl | simp
  rw [hnum] at h9
  clear hnum
  have h3' := h3.alloc (.cells #[] 9)
  clear h3
  have h3 := h3'
  clear h3'
  clear hK K hHeld hB
  have hHeld := hH2
  have hB := hBn
  clear hH2 hBn
  try simp only [Act.put, List.setIfInBounds_toArray, List.set_cons_zero, List.set_cons_succ]
  refine wpAnyH_ready (rs := [3]) (by kernel_rfl) (by simp) ?_
  refine AllReadyH.cons (i := 3) rfl (fun K hK => ?_) AllReadyH.nil
  refine step_own 6 rfl rfl _ _ 24 rfl W2.heap.size 9 i0 (.string ⟨#[]⟩) 1 16 Try.underlying24 hi hz0 hz1 hz2 rfl (by decide) (.slice (some ⟨W2.heap.size + 1, 0, none⟩) 0 0) 0 [] rfl h9 ⟨g1, o1, none⟩ xs.length ca (strV xs) rfl (by simp [strV]) (news_of (HR.out.later hB)) (one_str xs) (by unfold maxLen; omega) (by omega) hB.size ?_
  intro v9n u10 hn9 hgr
  have hBn : Below W2.heap.size W2 u10 := hB.grown hgr hB.size (fun k hk => (h9.lt k hk).1)
  refine hK.out _ _ ⟨(hBn.cell (L0 0)).trans c0, (hBn.cell (L0 1)).trans c1⟩ (fun hH2 => ?_)
  have h3' := World.ownsRow.kept (w' := u10) h3 hgr (own_ne' h9 h3)
  clear h3
  have h3 := h3'
  clear h3'
  simp only [Nat.zero_add, List.nil_append] at hn9
  clear h9 hgr hK K hHeld hB
  have h9 := hn9
  have hHeld := hH2
  have hB := hBn
  clear hH2 hn9 hBn
  try simp only [Act.put, List.setIfInBounds_toArray, List.set_cons_zero, List.set_cons_succ]
  refine wpAnyH_ready (rs := [7]) (by kernel_rfl) (by simp) ?_
  refine AllReadyH.cons (i := 7) rfl (fun K hK => ?_) AllReadyH.nil
  refine step_own 10 rfl rfl _ _ 25 rfl W2.heap.size 3 j0 (.int .i64 0) 1 8 Try.underlying25 hj hy0 hy1 hy2 rfl (by decide) (.slice (some ⟨W2.heap.size, 0, none⟩) 0 0) 0 [] rfl h3 ⟨g2, o2, none⟩ ks.length cb (intV ks) rfl (by simp [intV]) (news_of (HQ.out.later hB)) (one_int ks) (by unfold maxLen; omega) (by omega) hB.size ?_
  intro v3n u11 hn3 hgr
  have hBn : Below W2.heap.size W2 u11 := hB.grown hgr hB.size (fun k hk => (h3.lt k hk).1)
  refine hK.out _ _ ⟨(hBn.cell (L0 0)).trans c0, (hBn.cell (L0 1)).trans c1⟩ (fun hH2 => ?_)
  have h9' := World.ownsRow.kept (w' := u11) h9 hgr (own_ne h9 h3)
  clear h9
  have h9 := h9'
  clear h9'
  simp only [Nat.zero_add, List.nil_append] at hn3
  clear h3 hgr hK K hHeld hB
  have h3 := hn3
  have hHeld := hH2
  have hB := hBn
  clear hH2 hn3 hBn
  try simp only [Act.put, List.setIfInBounds_toArray, List.set_cons_zero, List.set_cons_succ]
  obtain ⟨a9, k9, rfl, _, _⟩ := own_row h9
  obtain ⟨a3, k3, rfl, _, _⟩ := own_row h3
  have FF := FIN.out u11 _ _ hB h9 h3
  have d2 := (hB.cell (L1 0)).trans c2
  have d3 := (hB.cell (L1 1)).trans c3
  have x2 := (hB.frozen (L1 0)).trans f2
  have x3 := (hB.frozen (L1 1)).trans f3
  refine take_one 8 11 (v := ?_) rfl rfl (by kernel_rfl) (by kernel_rfl) (by kernel_rfl) (fun _ _ _ h => h) (Or.inl ⟨by rfl, ?_⟩) hHeld ?_
  rotate_left
  · intro w' hSw; (try dsimp only at hSw); go_simp; try with_reducible rfl
  try simp only [Act.put, List.setIfInBounds_toArray, List.set_cons_zero, List.set_cons_succ]
  refine wpAnyH_ready (rs := [9]) (by kernel_rfl) (by simp) ?_
  refine AllReadyH.cons (i := 9) rfl (fun K hK => ?_) AllReadyH.nil
  go_simp
  refine hK.out _ _ ⟨by rw [World.cell?_setCell_other _ _ _ _ (by simp), World.cell?_setCell_other _ _ _ _ (by simp)]; exact hHeld.1, by rw [World.cell?_setCell_other _ _ _ _ (by simp), World.cell?_setCell_other _ _ _ _ (by simp)]; exact hHeld.2⟩ (fun hH2 => ?_)
  clear hK K hHeld hH2 h9 h3 hB d2 d3 x2 x3
  refine wpAnyH_done (by kernel_rfl) ?_ _
  go_wp2
  refine bodyPost_ret (res_two rfl _ _ (w.heap.size + 1) _ _ rfl FF.1 FF.2.1) rfl ⟨_, rfl, FF.2.2.1, FF.2.2.2⟩
end Go.Proofs.Ytkekfogepdhjhaa
