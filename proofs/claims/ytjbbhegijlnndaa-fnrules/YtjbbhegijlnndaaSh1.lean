/- ShowRules of the model. -/
import Derived.Test.YtjbbhegijlnndaaSh0
import Derived.Test.YtjbbhegijlnndaaLr1
import Derived.Test.YtjbbhegijlnndaaRn2
set_option linter.unusedVariables false
set_option maxRecDepth 100000
namespace Go.Proofs.Ytjbbhegijlnndaa.Nd
open Go Go.RowKit Go.Joins Own Draw Go.Proofs.Ytjbbhegijlnndaa Go.Proofs.Ytjbbhegijlnndaa.Var

set_option maxHeartbeats 6400000 in
theorem specShow_is (r : Rw TT) (w : World) (hr : RpT w r) (lr : rtT r ≤ 1048576) :
    Calls Try.prog 29 #[.slice r.1 r.2.2.length r.2.1] w fun e w' => e = .returned (.string (showP (rsT r))) ∧ Below w.heap.size w w' := by
  have p1 := rt_parts lr
  have K0 := specRulesOk_is r w hr p1.2 p1.1
  have HD : Hid (showP (rsT r) = if okL (rsT r) = true then shS (varOf ((rsT r).length : Int)) (rsT r) else ⟨#[]⟩) := (rfl : showP (rsT r) = _)
  generalize showP (rsT r) = ans at HD ⊢
  go_enter Try.func29, Try.ntmps29
  by_cases hok : okL (rsT r) = true
  rotate_left
  · have HD2 : Hid (ans = ⟨#[]⟩) := by show _ = _; rw [HD.out, if_neg hok]
    rw [Bool.not_eq_true] at hok
    rw [hok] at K0
    clear HD p1 lr hr
    go_wp2_with fail
    refine K0.mono ?_
    clear K0
    rintro en W1 ⟨rfl, BC⟩
    go_wp2
    go_ret
    exact ⟨by rw [HD2.out]; rfl, BC⟩
  have HD2 : Hid (ans = shS (varOf ((rsT r).length : Int)) (rsT r)) := by show _ = _; rw [HD.out, if_pos hok]
  have hl20 := (okL_mem hok).1
  have hall := (okL_mem hok).2
  rw [hok] at K0
  clear HD p1 lr
  obtain ⟨a, cap, xs⟩ := r
  obtain ⟨hrow, hdp⟩ := hr
  dsimp only at hrow hdp ⊢
  have hlen : (rsT (a, cap, xs)).length = xs.length := by unfold rsT; simp
  rw [hlen] at HD2 hl20
  have h31 : ∀ p ∈ xs.map stT, p.2.1.length ≤ 31 := fun p hp => ri_len (show riB (-1) p.2.1 = true from okP_set (hall p hp))
  have HD3 : Hid (ans = shS (varOf (xs.length : Int)) (xs.map stT)) := HD2
  clear hall HD2 hlen hok
  have hv0 := varOf_size (xs.length : Int)
  go_wp2_with fail
  refine K0.mono ?_
  clear K0
  rintro en W1 ⟨rfl, BC⟩
  go_wp2_with fail
  refine (spec_var (xs.length : Int) W1).mono ?_
  rintro en W2 ⟨rfl, hb⟩
  replace BC := BC.trans (hb.mono BC.size)
  clear hb
  generalize varOf (xs.length : Int) = s0 at hv0 HD3
  go_wp2
  go_loopw [3, 4] (fun sv iv wr => ∃ j : Nat, j ≤ xs.length ∧ iv = .int .i64 j ∧ sv = .string (shS s0 ((xs.map stT).take j)) ∧ Below w.heap.size w wr) (fun _ iv _ => xs.length - (intOf iv).toNat)
  case atStart => exact ⟨0, Nat.zero_le _, rfl, rfl, BC⟩
  case round =>
    clear BC
    obtain ⟨j, hj, rfl, rfl, BC⟩ := hrel
    obtain ⟨wo, hwo⟩ : ∃ wo, wo = wr := ⟨_, rfl⟩
    subst hwo
    by_cases hlt : j < xs.length
    · obtain ⟨b, off, rfl, hb0, hc⟩ := hrow j hlt
      have hlt2 : (j : Int) < (xs.length : Int) := by omega
      have hjm : j < (xs.map stT).length := by simpa using hlt
      have HS : Hid (shS s0 ((xs.map stT).take (j + 1)) = shN (shS s0 ((xs.map stT).take j) ++ shH (stT xs[j])) xs[j].2.1.2.2) := by
        show _ = _
        rw [shS_step hjm]
        simp only [List.getElem_map]
        rfl
      have hsz : (shS s0 ((xs.map stT).take j)).size ≤ 5000 := by
        have h_ := shS_size ((xs.map stT).take j) s0 (fun p hp => h31 p (List.mem_of_mem_take hp))
        have h2_ : ((xs.map stT).take j).length ≤ 20 := by rw [List.length_take]; omega
        omega
      have hx31 : xs[j].2.1.2.2.length ≤ 31 := h31 (stT xs[j]) (List.mem_map_of_mem (List.getElem_mem hlt))
      have c0 : wo.cell? ⟨b, off + j * 3, none⟩ = some (.int .i64 xs[j].1) := (BC.cell (p := ⟨b, off + j * 3, none⟩) hb0).trans (hc 0 _ rfl)
      have c1 : wo.cell? ⟨b, off + j * 3 + 1, none⟩ = some (.slice xs[j].2.1.1 xs[j].2.1.2.2.length xs[j].2.1.2.1) := (BC.cell (p := ⟨b, off + j * 3 + 1, none⟩) hb0).trans (hc 1 _ rfl)
      have c2 : wo.cell? ⟨b, off + j * 3 + 2, none⟩ = some (.int .i64 xs[j].2.2) := (BC.cell (p := ⟨b, off + j * 3 + 2, none⟩) hb0).trans (hc 2 _ rfl)
      have hset : RowAt (Value.int .i64) w xs[j].2.1.1 xs[j].2.1.2.2 := hdp _ (List.getElem_mem hlt)
      have HNX : Hid (∀ W : World, Below w.heap.size w W → ∃ j' : Nat, j' ≤ xs.length ∧ Value.int .i64 ((j : Int) + 1) = .int .i64 j' ∧ Value.string (shN (shS s0 ((xs.map stT).take j) ++ shH (stT xs[j])) xs[j].2.1.2.2) = .string (shS s0 ((xs.map stT).take j')) ∧ Below w.heap.size w W) := fun W hW => ⟨j + 1, by omega, by go_num, by rw [HS.out], hW⟩
      generalize xs[j] = x at HNX hx31 c0 c1 c2 hset
      generalize shS s0 ((xs.map stT).take j) = st at HNX hsz
      have HH : Hid (st ++ shH (stT x) = st ++ varOf x.1 ++ varOf x.2.2 ++ varOf (x.2.1.2.2.length : Int)) := (ba_assoc4 _ _ _ _).symm
      have q1 := varOf_size x.1
      have q2 := varOf_size x.2.2
      have q3 := varOf_size (x.2.1.2.2.length : Int)
      have hHs := shH_size (stT x)
      have z1 : ¬ 9223372036854775807 < st.size + (varOf x.1).size := by omega
      have z2 : ¬ 9223372036854775807 < st.size + (varOf x.1).size + (varOf x.2.2).size := by omega
      have z3 : ¬ 9223372036854775807 < st.size + (varOf x.1).size + (varOf x.2.2).size + (varOf (x.2.1.2.2.length : Int)).size := by omega
      clear HS hc
      go_wp2_with fail
      replace c0 : wo.drew.cell? ⟨b, off + j * 3, none⟩ = _ := c0
      replace c1 : wo.drew.cell? ⟨b, off + j * 3 + 1, none⟩ = _ := c1
      replace c2 : wo.drew.cell? ⟨b, off + j * 3 + 2, none⟩ = _ := c2
      replace BC := BC.drew
      refine wp_region_held_drew (S := (fun Vw => Vw.cell? ⟨b, off + j * 3, none⟩ = some (.int .i64 x.1) ∧ Vw.cell? ⟨b, off + j * 3 + 1, none⟩ = some (.slice x.2.1.1 x.2.1.2.2.length x.2.1.2.1) ∧ Vw.cell? ⟨b, off + j * 3 + 2, none⟩ = some (.int .i64 x.2.2))) (by kernel_rfl) ⟨c0, c1, c2⟩ (fun hHeld => ?_)
      refine take_one 0 18 (v := ?_) rfl rfl (by kernel_rfl) (by kernel_rfl) (by kernel_rfl) (fun _ _ _ h => h) (Or.inl ⟨by rfl, ?_⟩) hHeld ?_
      rotate_left
      · intro w' hSw; (try dsimp only at hSw); obtain ⟨k0, k1, k2⟩ := hSw; go_simp; try with_reducible rfl
      try simp only [Act.put, List.setIfInBounds_toArray, List.set_cons_zero, List.set_cons_succ]
      refine take_one 1 19 (v := ?_) rfl rfl (by kernel_rfl) (by kernel_rfl) (by kernel_rfl) (fun _ _ _ h => h) (Or.inl ⟨by rfl, ?_⟩) hHeld ?_
      rotate_left
      · intro w' hSw; (try dsimp only at hSw); obtain ⟨k0, k1, k2⟩ := hSw; go_simp; try with_reducible rfl
      try simp only [Act.put, List.setIfInBounds_toArray, List.set_cons_zero, List.set_cons_succ]
      refine take_one 2 20 (v := ?_) rfl rfl (by kernel_rfl) (by kernel_rfl) (by kernel_rfl) (fun _ _ _ h => h) (Or.inl ⟨by rfl, ?_⟩) hHeld ?_
      rotate_left
      · intro w' hSw; (try dsimp only at hSw); obtain ⟨k0, k1, k2⟩ := hSw; go_simp; try with_reducible rfl
      try simp only [Act.put, List.setIfInBounds_toArray, List.set_cons_zero, List.set_cons_succ]
      refine take_one 3 21 (v := ?_) rfl rfl (by kernel_rfl) (by kernel_rfl) (by kernel_rfl) (fun _ _ _ h => h) (Or.inl ⟨by rfl, ?_⟩) hHeld ?_
      rotate_left
      · intro w' hSw; (try dsimp only at hSw); obtain ⟨k0, k1, k2⟩ := hSw; go_simp; try with_reducible rfl
      try simp only [Act.put, List.setIfInBounds_toArray, List.set_cons_zero, List.set_cons_succ]
      refine take_one 4 22 (v := ?_) rfl rfl (by kernel_rfl) (by kernel_rfl) (by kernel_rfl) (fun _ _ _ h => h) (Or.inl ⟨by rfl, ?_⟩) hHeld ?_
      rotate_left
      · intro w' hSw; (try dsimp only at hSw); obtain ⟨k0, k1, k2⟩ := hSw; go_simp; try with_reducible rfl
      try simp only [Act.put, List.setIfInBounds_toArray, List.set_cons_zero, List.set_cons_succ]
      refine take_one 5 23 (v := ?_) rfl rfl (by kernel_rfl) (by kernel_rfl) (by kernel_rfl) (fun _ _ _ h => h) (Or.inl ⟨by rfl, ?_⟩) hHeld ?_
      rotate_left
      · intro w' hSw; (try dsimp only at hSw); obtain ⟨k0, k1, k2⟩ := hSw; go_simp; try with_reducible rfl
      try simp only [Act.put, List.setIfInBounds_toArray, List.set_cons_zero, List.set_cons_succ]
      refine take_one 8 26 (v := ?_) rfl rfl (by kernel_rfl) (by kernel_rfl) (by kernel_rfl) (fun _ _ _ h => h) (Or.inl ⟨by rfl, ?_⟩) hHeld ?_
      rotate_left
      · intro w' hSw; (try dsimp only at hSw); obtain ⟨k0, k1, k2⟩ := hSw; go_simp; try with_reducible rfl
      try simp only [Act.put, List.setIfInBounds_toArray, List.set_cons_zero, List.set_cons_succ]
      refine take_one 9 27 (v := ?_) rfl rfl (by kernel_rfl) (by kernel_rfl) (by kernel_rfl) (fun _ _ _ h => h) (Or.inl ⟨by rfl, ?_⟩) hHeld ?_
      rotate_left
      · intro w' hSw; (try dsimp only at hSw); obtain ⟨k0, k1, k2⟩ := hSw; go_simp; try with_reducible rfl
      try simp only [Act.put, List.setIfInBounds_toArray, List.set_cons_zero, List.set_cons_succ]
      refine take_one 10 28 (v := ?_) rfl rfl (by kernel_rfl) (by kernel_rfl) (by kernel_rfl) (fun _ _ _ h => h) (Or.inl ⟨by rfl, ?_⟩) hHeld ?_
      rotate_left
      · intro w' hSw; (try dsimp only at hSw); obtain ⟨k0, k1, k2⟩ := hSw; go_simp; try with_reducible rfl
      try simp only [Act.put, List.setIfInBounds_toArray, List.set_cons_zero, List.set_cons_succ]
      refine take_one 11 29 (v := ?_) rfl rfl (by kernel_rfl) (by kernel_rfl) (by kernel_rfl) (fun _ _ _ h => h) (Or.inl ⟨by rfl, ?_⟩) hHeld ?_
      rotate_left
      · intro w' hSw; (try dsimp only at hSw); obtain ⟨k0, k1, k2⟩ := hSw; go_simp; try with_reducible rfl
      try simp only [Act.put, List.setIfInBounds_toArray, List.set_cons_zero, List.set_cons_succ]
      refine take_one 12 30 (v := ?_) rfl rfl (by kernel_rfl) (by kernel_rfl) (by kernel_rfl) (fun _ _ _ h => h) (Or.inl ⟨by rfl, ?_⟩) hHeld ?_
      rotate_left
      · intro w' hSw; (try dsimp only at hSw); obtain ⟨k0, k1, k2⟩ := hSw; go_simp; try with_reducible rfl
      try simp only [Act.put, List.setIfInBounds_toArray, List.set_cons_zero, List.set_cons_succ]
      refine take_one 15 33 (v := ?_) rfl rfl (by kernel_rfl) (by kernel_rfl) (by kernel_rfl) (fun _ _ _ h => h) (Or.inl ⟨by rfl, ?_⟩) hHeld ?_
      rotate_left
      · intro w' hSw; (try dsimp only at hSw); obtain ⟨k0, k1, k2⟩ := hSw; go_simp; try with_reducible rfl
      try simp only [Act.put, List.setIfInBounds_toArray, List.set_cons_zero, List.set_cons_succ]
      refine take_one 16 34 (v := ?_) rfl rfl (by kernel_rfl) (by kernel_rfl) (by kernel_rfl) (fun _ _ _ h => h) (Or.inl ⟨by rfl, ?_⟩) hHeld ?_
      rotate_left
      · intro w' hSw; (try dsimp only at hSw); obtain ⟨k0, k1, k2⟩ := hSw; go_simp; try with_reducible rfl
      try simp only [Act.put, List.setIfInBounds_toArray, List.set_cons_zero, List.set_cons_succ]
      refine take_one 17 35 (v := ?_) rfl rfl (by kernel_rfl) (by kernel_rfl) (by kernel_rfl) (fun _ _ _ h => h) (Or.inl ⟨by rfl, ?_⟩) hHeld ?_
      rotate_left
      · intro w' hSw; (try dsimp only at hSw); obtain ⟨k0, k1, k2⟩ := hSw; go_simp; try with_reducible rfl
      try simp only [Act.put, List.setIfInBounds_toArray, List.set_cons_zero, List.set_cons_succ]
      refine take_one 18 36 (v := ?_) rfl rfl (by kernel_rfl) (by kernel_rfl) (by kernel_rfl) (fun _ _ _ h => h) (Or.inl ⟨by rfl, ?_⟩) hHeld ?_
      rotate_left
      · intro w' hSw; (try dsimp only at hSw); obtain ⟨k0, k1, k2⟩ := hSw; go_simp; try with_reducible rfl
      try simp only [Act.put, List.setIfInBounds_toArray, List.set_cons_zero, List.set_cons_succ]
      refine take_one 19 37 (v := ?_) rfl rfl (by kernel_rfl) (by kernel_rfl) (by kernel_rfl) (fun _ _ _ h => h) (Or.inl ⟨by rfl, ?_⟩) hHeld ?_
      rotate_left
      · intro w' hSw; (try dsimp only at hSw); obtain ⟨k0, k1, k2⟩ := hSw; go_simp; try with_reducible rfl
      try simp only [Act.put, List.setIfInBounds_toArray, List.set_cons_zero, List.set_cons_succ]
      refine take_one 20 38 (v := ?_) rfl rfl (by kernel_rfl) (by kernel_rfl) (by kernel_rfl) (fun _ _ _ h => h) (Or.inl ⟨by rfl, ?_⟩) hHeld ?_
      rotate_left
      · intro w' hSw; (try dsimp only at hSw); obtain ⟨k0, k1, k2⟩ := hSw; go_simp; try with_reducible rfl
      try simp only [Act.put, List.setIfInBounds_toArray, List.set_cons_zero, List.set_cons_succ]
      refine wpAnyH_ready (rs := [6]) (by kernel_rfl) (by simp) ?_
      refine AllReadyH.cons (i := 6) rfl (fun K hK => ?_) AllReadyH.nil
      go_simp
      refine (spec_var x.1 _).mono ?_
      rintro en v1 ⟨rfl, hb⟩
      replace c0 := (hb.cell (p := ⟨b, off + j * 3, none⟩) (Nat.lt_of_lt_of_le hb0 BC.size)).trans c0
      replace c1 := (hb.cell (p := ⟨b, off + j * 3 + 1, none⟩) (Nat.lt_of_lt_of_le hb0 BC.size)).trans c1
      replace c2 := (hb.cell (p := ⟨b, off + j * 3 + 2, none⟩) (Nat.lt_of_lt_of_le hb0 BC.size)).trans c2
      replace BC := BC.trans (hb.mono BC.size)
      clear hb
      go_wp2_with fail
      refine hK.out _ _ ⟨c0, c1, c2⟩ (fun hHeld2 => ?_)
      clear hK K hHeld
      have hHeld := hHeld2
      clear hHeld2
      try simp only [Act.put, List.setIfInBounds_toArray, List.set_cons_zero, List.set_cons_succ]
      refine take_one 7 25 (v := ?_) rfl rfl (by kernel_rfl) (by kernel_rfl) (by kernel_rfl) (fun _ _ _ h => h) (Or.inl ⟨by rfl, ?_⟩) hHeld ?_
      rotate_left
      · intro w' hSw; (try dsimp only at hSw); obtain ⟨k0, k1, k2⟩ := hSw; go_simp; try with_reducible rfl
      try simp only [Act.put, List.setIfInBounds_toArray, List.set_cons_zero, List.set_cons_succ]
      refine wpAnyH_ready (rs := [13]) (by kernel_rfl) (by simp) ?_
      refine AllReadyH.cons (i := 13) rfl (fun K hK => ?_) AllReadyH.nil
      go_simp
      refine (spec_var x.2.2 _).mono ?_
      rintro en v2 ⟨rfl, hb⟩
      replace c0 := (hb.cell (p := ⟨b, off + j * 3, none⟩) (Nat.lt_of_lt_of_le hb0 BC.size)).trans c0
      replace c1 := (hb.cell (p := ⟨b, off + j * 3 + 1, none⟩) (Nat.lt_of_lt_of_le hb0 BC.size)).trans c1
      replace c2 := (hb.cell (p := ⟨b, off + j * 3 + 2, none⟩) (Nat.lt_of_lt_of_le hb0 BC.size)).trans c2
      replace BC := BC.trans (hb.mono BC.size)
      clear hb
      go_wp2_with fail
      refine hK.out _ _ ⟨c0, c1, c2⟩ (fun hHeld2 => ?_)
      clear hK K hHeld
      have hHeld := hHeld2
      clear hHeld2
      try simp only [Act.put, List.setIfInBounds_toArray, List.set_cons_zero, List.set_cons_succ]
      refine take_one 14 32 (v := ?_) rfl rfl (by kernel_rfl) (by kernel_rfl) (by kernel_rfl) (fun _ _ _ h => h) (Or.inl ⟨by rfl, ?_⟩) hHeld ?_
      rotate_left
      · intro w' hSw; (try dsimp only at hSw); obtain ⟨k0, k1, k2⟩ := hSw; go_simp; try with_reducible rfl
      try simp only [Act.put, List.setIfInBounds_toArray, List.set_cons_zero, List.set_cons_succ]
      refine wpAnyH_ready (rs := [21]) (by kernel_rfl) (by simp) ?_
      refine AllReadyH.cons (i := 21) rfl (fun K hK => ?_) AllReadyH.nil
      go_simp
      refine (spec_var (x.2.1.2.2.length : Int) _).mono ?_
      rintro en v3 ⟨rfl, hb⟩
      replace c0 := (hb.cell (p := ⟨b, off + j * 3, none⟩) (Nat.lt_of_lt_of_le hb0 BC.size)).trans c0
      replace c1 := (hb.cell (p := ⟨b, off + j * 3 + 1, none⟩) (Nat.lt_of_lt_of_le hb0 BC.size)).trans c1
      replace c2 := (hb.cell (p := ⟨b, off + j * 3 + 2, none⟩) (Nat.lt_of_lt_of_le hb0 BC.size)).trans c2
      replace BC := BC.trans (hb.mono BC.size)
      clear hb
      go_wp2_with fail
      refine hK.out _ _ ⟨c0, c1, c2⟩ (fun hHeld2 => ?_)
      clear hK K hHeld
      have hHeld := hHeld2
      clear hHeld2
      try simp only [Act.put, List.setIfInBounds_toArray, List.set_cons_zero, List.set_cons_succ]
      refine take_one 22 40 (v := ?_) rfl rfl (by kernel_rfl) (by kernel_rfl) (by kernel_rfl) (fun _ _ _ h => h) (Or.inl ⟨by rfl, ?_⟩) hHeld ?_
      rotate_left
      · intro w' hSw; (try dsimp only at hSw); obtain ⟨k0, k1, k2⟩ := hSw; go_simp; try with_reducible rfl
      try simp only [Act.put, List.setIfInBounds_toArray, List.set_cons_zero, List.set_cons_succ]
      refine take_one 23 3 (v := ?_) rfl rfl (by kernel_rfl) (by kernel_rfl) (by kernel_rfl) (fun _ _ _ h => h) (Or.inl ⟨by rfl, ?_⟩) hHeld ?_
      rotate_left
      · intro w' hSw; (try dsimp only at hSw); obtain ⟨k0, k1, k2⟩ := hSw; go_simp; try with_reducible rfl
      try simp only [Act.put, List.setIfInBounds_toArray, List.set_cons_zero, List.set_cons_succ]
      refine wpAnyH_done (by kernel_rfl) ?_ _
      rw [← HH.out]
      generalize hst : st ++ shH (stT x) = s1 at HNX HH
      have hs1 : s1.size ≤ 5021 := by rw [← hst, ba_size]; omega
      clear hst HH z1 z2 z3 q1 q2 q3 hHs
      have HX : Hid (∀ x1 : ByteArray, x1 = shN s1 x.2.1.2.2 → ∀ W, Below w.heap.size w W → ∃ j' : Nat, j' ≤ xs.length ∧ Value.int .i64 ((j : Int) + 1) = .int .i64 j' ∧ Value.string x1 = .string (shS s0 ((xs.map stT).take j')) ∧ Below w.heap.size w W) := fun x1 e W hW => by rw [e]; exact HNX.out W hW
      clear HNX hHeld
      have hBC := BC
      go_wp2
      go_loopw [3, 5] (fun sv iv wr => ∃ k : Nat, k ≤ x.2.1.2.2.length ∧ iv = .int .i64 k ∧ sv = .string (shN s1 (x.2.1.2.2.take k)) ∧ Below v3.heap.size v3 wr) (fun _ iv _ => x.2.1.2.2.length - (intOf iv).toNat)
      case atStart => exact ⟨0, Nat.zero_le _, rfl, rfl, Below.refl _ _⟩
      case round =>
        obtain ⟨k, hk, rfl, rfl, hb2⟩ := hrel
        have d1 : wr.cell? ⟨b, off + j * 3 + 1, none⟩ = some (.slice x.2.1.1 x.2.1.2.2.length x.2.1.2.1) := (hb2.cell (p := ⟨b, off + j * 3 + 1, none⟩) (Nat.lt_of_lt_of_le hb0 BC.size)).trans c1
        have BB := BC.trans (hb2.mono BC.size)
        by_cases hlk : k < x.2.1.2.2.length
        · obtain ⟨g, o2, e2, hg2, hcg⟩ := hset k hlk
          have d2 := (BB.cell (p := ⟨g, o2 + k, none⟩) hg2).trans hcg
          have hlk2 : (k : Int) < (x.2.1.2.2.length : Int) := by omega
          have HS2 : Hid (shN s1 (x.2.1.2.2.take (k + 1)) = shN s1 (x.2.1.2.2.take k) ++ varOf x.2.1.2.2[k]) := shN_step hlk s1
          have hz2 := shN_size (x.2.1.2.2.take k) s1
          have hz3 : (x.2.1.2.2.take k).length ≤ 31 := by rw [List.length_take]; omega
          have HN2 : Hid (∀ W : World, Below v3.heap.size v3 W → ∃ k' : Nat, k' ≤ x.2.1.2.2.length ∧ Value.int .i64 ((k : Int) + 1) = .int .i64 k' ∧ Value.string (shN s1 (x.2.1.2.2.take k) ++ varOf x.2.1.2.2[k]) = .string (shN s1 (x.2.1.2.2.take k')) ∧ Below v3.heap.size v3 W) := fun W hW => ⟨k + 1, by omega, by go_num, by rw [HS2.out], hW⟩
          generalize x.2.1.2.2[k] = nn at HN2 d2
          generalize shN s1 (x.2.1.2.2.take k) = st2 at HN2 hz2
          have q1 := varOf_size nn
          have z1 : ¬ 9223372036854775807 < st2.size + (varOf nn).size := by omega
          rw [e2] at d1
          clear HS2 hcg hset e2
          go_wp2_with fail
          refine (spec_var nn wr).mono ?_
          rintro en v4 ⟨rfl, hb⟩
          have HR := HN2.out v4 (hb2.trans (hb.mono hb2.size))
          clear HN2 hb
          go_wp2
          go_roundw
          case rel => exact HR
          case measure => simp [intOf]; omega
        · obtain rfl : k = x.2.1.2.2.length := by omega
          have hlk2 : ¬ ((x.2.1.2.2.length : Int) < (x.2.1.2.2.length : Int)) := by omega
          have HR := HX.out (shN s1 (x.2.1.2.2.take x.2.1.2.2.length)) (by rw [List.take_length]) wr BB
          clear HX
          go_wp2
          go_roundw
          case rel => exact HR
          case measure => simp [intOf]; omega
    · obtain rfl : j = xs.length := by omega
      have hlt2 : ¬ ((xs.length : Int) < (xs.length : Int)) := by omega
      have HF : Hid (ans = shS s0 ((xs.map stT).take xs.length)) := by show _ = _; rw [HD3.out, List.take_of_length_le (by simp)]
      generalize shS s0 ((xs.map stT).take xs.length) = fin at HF
      clear HD3
      go_wp2
      go_ret
      exact ⟨by rw [HF.out]; rfl, BC⟩
end Go.Proofs.Ytjbbhegijlnndaa.Nd
