/- Rules compared. -/
import Derived.Test.YtjbbhegijlnndaaNc1
set_option linter.unusedVariables false
set_option maxRecDepth 100000
namespace Go.Proofs.Ytjbbhegijlnndaa.Nd
open Go Go.RowKit Go.Joins Own Draw

set_option maxRecDepth 100000 in
set_option maxHeartbeats 6400000 in
theorem eqT_is (x y : TT) (w : World) (hx : DpT w x) (hy : DpT w y) (hs : stT x = stT y) (hl : totT x ≤ 1048576) : Calls Try.prog 70 #[vT x, vT y] w fun en w' => en = .returned (.bool true) ∧ Below w.heap.size w w' := by
  obtain ⟨f0, f1, f2⟩ := x
  obtain ⟨g0, g1, g2⟩ := y
  unfold stT at hs
  unfold DpT at hx hy
  unfold totT at hl
  dsimp only at hx hy hl
  simp only [Prod.mk.injEq] at hs
  obtain ⟨e0, e1, e2⟩ := hs
  have hx1 := hx
  have hy1 := hy
  subst e0
  subst e2
  obtain ⟨V, hV⟩ : ∃ V, (w.alloc (.cells #[.int .i64 f0, .slice f1.1 f1.2.2.length f1.2.1, .int .i64 f2] 59)).alloc (.cells #[.int .i64 f0, .slice g1.1 g1.2.2.length g1.2.1, .int .i64 f2] 59) = V := ⟨_, rfl⟩
  have BC : Below w.heap.size w V := by rw [← hV]; exact ((Below.refl _ _).alloc (Nat.le_refl _) _).alloc (by simp) _
  have TA : Blk w.heap.size [.int .i64 f0, .slice f1.1 f1.2.2.length f1.2.1, .int .i64 f2] V := by rw [← hV]; exact (Blk.new w #[.int .i64 f0, .slice f1.1 f1.2.2.length f1.2.1, .int .i64 f2] 59).alloc (by simp) _
  have TB : Blk (w.heap.size + 1) [.int .i64 f0, .slice g1.1 g1.2.2.length g1.2.1, .int .i64 f2] V := by rw [← hV]; have := Blk.new (w.alloc (.cells #[.int .i64 f0, .slice f1.1 f1.2.2.length f1.2.1, .int .i64 f2] 59)) #[.int .i64 f0, .slice g1.1 g1.2.2.length g1.2.1, .int .i64 f2] 59; simpa using this
  have p0 := TA.at 0 rfl
  have q0 := TB.at 0 rfl
  have p1 := TA.at 1 rfl
  have q1 := TB.at 1 rfl
  go_enter Try.func70, Try.ntmps70
  go_wp2_with fail
  try rw [hV]
  refine (eqSI_u f1 g1 _ (hx1.later BC) (hy1.later BC) e1 (by omega)).mono ?_
  clear hV p0 q0 p1 q1
  rintro en v1 ⟨rfl, hb⟩
  replace TA := TA.later hb (World.block_lt_of_cell? _ _ (TA.at 0 rfl))
  replace TB := TB.later hb (World.block_lt_of_cell? _ _ (TB.at 0 rfl))
  replace BC := BC.trans (hb.mono BC.size)
  clear hb
  have p2 := TA.at 2 rfl
  have q2 := TB.at 2 rfl
  go_wp2
  go_ret
  exact ⟨rfl, BC⟩
set_option maxRecDepth 100000 in
set_option maxHeartbeats 3200000 in
theorem eqST_is (r q : Rw TT) (w : World) (hr : RpT w r) (hq : RpT w q) (hs : rsT r = rsT q) (hl : rtT r ≤ 1048576) : Calls Try.prog 33 #[.slice r.1 r.2.2.length r.2.1, .slice q.1 q.2.2.length q.2.1] w fun en w' => en = .returned (.bool true) ∧ Below w.heap.size w w' := by
  have hlen := rsT_len hs
  obtain ⟨a, ca, xs⟩ := r
  obtain ⟨b, cb, ys⟩ := q
  obtain ⟨ha, hDx⟩ := hr
  obtain ⟨hb, hDy⟩ := hq
  dsimp only at ha hDx hb hDy hl hlen ⊢
  have hst : ∀ k (h : k < xs.length) (h' : k < ys.length), stT xs[k] = stT ys[k] := fun k h h' => by
    have h1 : xs.map stT = ys.map stT := hs
    have h2 : (xs.map stT)[k]'(by simpa using h) = (ys.map stT)[k]'(by simpa using h') := by simp only [h1]
    simpa using h2
  have hte : ∀ x ∈ xs, totT x ≤ 1048576 := fun x hx => by
    have h1 : totT x ≤ (xs.map totT).sum := le_sum_of_mem (List.mem_map_of_mem hx)
    have h2 : rtT (a, ca, xs) = xs.length + (xs.map totT).sum := rfl
    omega
  have hxl := rtT_len (a, ca, xs)
  dsimp only at hxl
  rw [← hlen]
  clear hs
  replace hlen : Hid (xs.length = ys.length) := hlen
  go_enter Try.func33, Try.ntmps33
  go_wp2
  go_loopw [5] (fun i wr => ∃ k : Nat, k ≤ xs.length ∧ i = .int .i64 k ∧ Below w.heap.size w wr) (fun i _ => xs.length - (intOf i).toNat)
  case atStart => exact ⟨0, by omega, rfl, Below.refl _ _⟩
  case round =>
    obtain ⟨k, hk, rfl, hbel⟩ := hrel
    by_cases hlt : k < xs.length
    · have hlt' : k < ys.length := by have := hlen.out; omega
      obtain ⟨b1, o1, rfl, l1, h⟩ := ha k hlt
      obtain ⟨b2, o2, rfl, l2, g⟩ := hb k hlt'
      have hlt2 : (k : Int) < (xs.length : Int) := by omega
      have m1 : b1 < wr.drew.heap.size := Nat.lt_of_lt_of_le l1 hbel.size
      have m2 : b2 < wr.drew.heap.size := Nat.lt_of_lt_of_le l2 hbel.size
      have BD := hbel.drew
      have K1 := eqT_is xs[k] ys[k] wr.drew ((hDx _ (List.getElem_mem hlt)).later BD) ((hDy _ (List.getElem_mem hlt')).later BD) (hst k hlt hlt') (hte _ (List.getElem_mem hlt))
      have h0 : wr.drew.cell? ⟨b1, o1 + k * 3, none⟩ = some (.int .i64 xs[k].1) := (hbel.cell (p := ⟨b1, o1 + k * 3, none⟩) l1).trans (h 0 _ rfl)
      have h1 : wr.drew.cell? ⟨b1, o1 + k * 3 + 1, none⟩ = some (.slice xs[k].2.1.1 xs[k].2.1.2.2.length xs[k].2.1.2.1) := (hbel.cell (p := ⟨b1, o1 + k * 3 + 1, none⟩) l1).trans (h 1 _ rfl)
      have h2 : wr.drew.cell? ⟨b1, o1 + k * 3 + 2, none⟩ = some (.int .i64 xs[k].2.2) := (hbel.cell (p := ⟨b1, o1 + k * 3 + 2, none⟩) l1).trans (h 2 _ rfl)
      have g0 : wr.drew.cell? ⟨b2, o2 + k * 3, none⟩ = some (.int .i64 ys[k].1) := (hbel.cell (p := ⟨b2, o2 + k * 3, none⟩) l2).trans (g 0 _ rfl)
      have g1 : wr.drew.cell? ⟨b2, o2 + k * 3 + 1, none⟩ = some (.slice ys[k].2.1.1 ys[k].2.1.2.2.length ys[k].2.1.2.1) := (hbel.cell (p := ⟨b2, o2 + k * 3 + 1, none⟩) l2).trans (g 1 _ rfl)
      have g2 : wr.drew.cell? ⟨b2, o2 + k * 3 + 2, none⟩ = some (.int .i64 ys[k].2.2) := (hbel.cell (p := ⟨b2, o2 + k * 3 + 2, none⟩) l2).trans (g 2 _ rfl)
      clear h g
      generalize xs[k] = x at K1 h0 h1 h2
      generalize ys[k] = y at K1 g0 g1 g2
      clear hDx hDy hst hte
      go_wp2_with fail
      refine wp_region_held_drew (S := (fun V : World => V.cell? ⟨b1, o1 + k * 3, none⟩ = some (.int .i64 x.1) ∧ V.cell? ⟨b1, o1 + k * 3 + 1, none⟩ = some (.slice x.2.1.1 x.2.1.2.2.length x.2.1.2.1) ∧ V.cell? ⟨b1, o1 + k * 3 + 2, none⟩ = some (.int .i64 x.2.2) ∧ V.cell? ⟨b2, o2 + k * 3, none⟩ = some (.int .i64 y.1) ∧ V.cell? ⟨b2, o2 + k * 3 + 1, none⟩ = some (.slice y.2.1.1 y.2.1.2.2.length y.2.1.2.1) ∧ V.cell? ⟨b2, o2 + k * 3 + 2, none⟩ = some (.int .i64 y.2.2))) (by kernel_rfl) ⟨h0, h1, h2, g0, g1, g2⟩ (fun hHeld => ?_)
      refine take_one 0 17 (v := ?_) rfl rfl (by kernel_rfl) (by kernel_rfl) (by kernel_rfl) (fun _ _ _ h => h) (Or.inl ⟨by rfl, ?_⟩) hHeld ?_
      rotate_left
      · intro w' hSw; (try dsimp only at hSw); obtain ⟨c0, c1, c2, c3, c4, c5⟩ := hSw; go_simp; try with_reducible rfl
      try simp only [Act.put, List.setIfInBounds_toArray, List.set_cons_zero, List.set_cons_succ]
      refine take_one 1 18 (v := ?_) rfl rfl (by kernel_rfl) (by kernel_rfl) (by kernel_rfl) (fun _ _ _ h => h) (Or.inl ⟨by rfl, ?_⟩) hHeld ?_
      rotate_left
      · intro w' hSw; (try dsimp only at hSw); obtain ⟨c0, c1, c2, c3, c4, c5⟩ := hSw; go_simp; try with_reducible rfl
      try simp only [Act.put, List.setIfInBounds_toArray, List.set_cons_zero, List.set_cons_succ]
      refine take_one 2 19 (v := ?_) rfl rfl (by kernel_rfl) (by kernel_rfl) (by kernel_rfl) (fun _ _ _ h => h) (Or.inl ⟨by rfl, ?_⟩) hHeld ?_
      rotate_left
      · intro w' hSw; (try dsimp only at hSw); obtain ⟨c0, c1, c2, c3, c4, c5⟩ := hSw; go_simp; try with_reducible rfl
      try simp only [Act.put, List.setIfInBounds_toArray, List.set_cons_zero, List.set_cons_succ]
      refine take_one 3 20 (v := ?_) rfl rfl (by kernel_rfl) (by kernel_rfl) (by kernel_rfl) (fun _ _ _ h => h) (Or.inl ⟨by rfl, ?_⟩) hHeld ?_
      rotate_left
      · intro w' hSw; (try dsimp only at hSw); obtain ⟨c0, c1, c2, c3, c4, c5⟩ := hSw; go_simp; try with_reducible rfl
      try simp only [Act.put, List.setIfInBounds_toArray, List.set_cons_zero, List.set_cons_succ]
      refine take_one 4 21 (v := ?_) rfl rfl (by kernel_rfl) (by kernel_rfl) (by kernel_rfl) (fun _ _ _ h => h) (Or.inl ⟨by rfl, ?_⟩) hHeld ?_
      rotate_left
      · intro w' hSw; (try dsimp only at hSw); obtain ⟨c0, c1, c2, c3, c4, c5⟩ := hSw; go_simp; try with_reducible rfl
      try simp only [Act.put, List.setIfInBounds_toArray, List.set_cons_zero, List.set_cons_succ]
      refine take_one 5 22 (v := ?_) rfl rfl (by kernel_rfl) (by kernel_rfl) (by kernel_rfl) (fun _ _ _ h => h) (Or.inl ⟨by rfl, ?_⟩) hHeld ?_
      rotate_left
      · intro w' hSw; (try dsimp only at hSw); obtain ⟨c0, c1, c2, c3, c4, c5⟩ := hSw; go_simp; try with_reducible rfl
      try simp only [Act.put, List.setIfInBounds_toArray, List.set_cons_zero, List.set_cons_succ]
      refine take_one 6 23 (v := ?_) rfl rfl (by kernel_rfl) (by kernel_rfl) (by kernel_rfl) (fun _ _ _ h => h) (Or.inl ⟨by rfl, ?_⟩) hHeld ?_
      rotate_left
      · intro w' hSw; (try dsimp only at hSw); obtain ⟨c0, c1, c2, c3, c4, c5⟩ := hSw; go_simp; try with_reducible rfl
      try simp only [Act.put, List.setIfInBounds_toArray, List.set_cons_zero, List.set_cons_succ]
      refine take_one 7 24 (v := ?_) rfl rfl (by kernel_rfl) (by kernel_rfl) (by kernel_rfl) (fun _ _ _ h => h) (Or.inl ⟨by rfl, ?_⟩) hHeld ?_
      rotate_left
      · intro w' hSw; (try dsimp only at hSw); obtain ⟨c0, c1, c2, c3, c4, c5⟩ := hSw; go_simp; try with_reducible rfl
      try simp only [Act.put, List.setIfInBounds_toArray, List.set_cons_zero, List.set_cons_succ]
      refine wpAnyH_ready (rs := [8]) (by kernel_rfl) (by simp) ?_
      refine AllReadyH.cons (i := 8) rfl (fun K hK => ?_) AllReadyH.nil
      go_simp
      refine K1.mono ?_
      clear K1
      rintro e w2 ⟨rfl, hb2⟩
      go_wp2_with fail
      refine hK.out _ _ ⟨(hb2.cell (p := ⟨b1, o1 + k * 3, none⟩) m1).trans h0, (hb2.cell (p := ⟨b1, o1 + k * 3 + 1, none⟩) m1).trans h1, (hb2.cell (p := ⟨b1, o1 + k * 3 + 2, none⟩) m1).trans h2, (hb2.cell (p := ⟨b2, o2 + k * 3, none⟩) m2).trans g0, (hb2.cell (p := ⟨b2, o2 + k * 3 + 1, none⟩) m2).trans g1, (hb2.cell (p := ⟨b2, o2 + k * 3 + 2, none⟩) m2).trans g2⟩ (fun hHeld2 => ?_)
      clear hK K hHeld
      have hHeld := hHeld2
      clear hHeld2
      try simp only [Act.put, List.setIfInBounds_toArray, List.set_cons_zero, List.set_cons_succ]
      refine take_one 9 26 (v := ?_) rfl rfl (by kernel_rfl) (by kernel_rfl) (by kernel_rfl) (fun _ _ _ h => h) (Or.inl ⟨by rfl, ?_⟩) hHeld ?_
      rotate_left
      · intro w' hSw; (try dsimp only at hSw); obtain ⟨c0, c1, c2, c3, c4, c5⟩ := hSw; go_simp; try with_reducible rfl
      try simp only [Act.put, List.setIfInBounds_toArray, List.set_cons_zero, List.set_cons_succ]
      refine wpAnyH_done (by kernel_rfl) ?_ _
      have B2 := BD.trans (hb2.mono BD.size)
      clear hHeld h0 h1 h2 g0 g1 g2
      go_wp2
      go_roundw
      case rel => exact ⟨k + 1, by omega, by go_num, B2⟩
      case measure => simp [intOf]; omega
    · go_wp2
      go_ret
      exact ⟨rfl, hbel⟩
end Go.Proofs.Ytjbbhegijlnndaa.Nd
