/- Chapter 16: what the laws draw. -/
import Derived.Test.YtaeecaebjafnpaaBig
import Derived.Test.YtaeecaebjafnpaaDrawSpoil
import Derived.Test.YtaeecaebjafnpaaTm1
set_option linter.unusedVariables false
set_option maxRecDepth 100000
namespace Go.Proofs.Ytaeecaebjafnpaa
open Go Go.RowKit Draw

theorem big_go (a : Option Addr) (len cap : Nat) (W : World) (h : len ≤ 1048576) :
    Calls Try.prog 11 #[.slice a len cap] W fun e w' => e = .returned (.bool false) ∧ W = w' := by
  have hd : decide ((1048576 : Int) < (len : Int)) = false := by simp; omega
  go_enter Try.func11, Try.ntmps11
  go_wp2
  go_ret
  exact ⟨rfl, rfl⟩
theorem big_yes (a : Option Addr) (len cap : Nat) (W : World) (h : 1048576 < len) (h2 : len ≤ maxLen) :
    Calls Try.prog 11 #[.slice a len cap] W fun e w' => e = .returned (.bool true) ∧ W = w' := by
  unfold maxLen at h2
  have hd : decide ((1048576 : Int) < (len : Int)) = true := by simp; omega
  go_enter Try.func11, Try.ntmps11
  go_wp2
  go_ret
  exact ⟨rfl, rfl⟩
theorem newW (a : Option Addr) (len cap : Nat) (zs : List Int) (W : World) (hz : CodeAt W W.heap.size a len zs) :
    Calls Try.prog 32 #[.slice a len cap] W fun e w' => e = .returned (.pointer (some ⟨W.heap.size, 0, none⟩)) ∧ Cu W.heap.size a len cap zs w' w' ∧ Below W.heap.size W w' := by
  refine (new_go a len cap zs W hz).mono ?_
  rintro e w' ⟨rfl, h1, h2, h3⟩
  exact ⟨rfl, Cu.start ⟨h1, hz.below h2, Nat.zero_le _⟩, h2⟩
theorem spoilW {p : Nat} {a : Option Addr} {len cap : Nat} {zs : List Int} {w : World} (t : ByteArray) (h : Cu p a len cap zs w w) (ht : t.size ≤ 900) :
    Calls Try.prog 45 #[.pointer (some ⟨p, 0, none⟩), .string t] w fun e w' => ∃ s : ByteArray, s.size ≤ 1000 ∧ e = .returned (.string s) ∧ Cu p a len cap zs w w' := by
  obtain ⟨⟨s, h⟩, _⟩ := h
  refine (spoilD p a len cap zs s w t h (by omega)).mono ?_
  rintro e w' ⟨rfl, ⟨s', d⟩, o⟩
  exact ⟨_, Nat.le_trans (spoilV_size _ _ _ _) (by omega), rfl, ⟨s', d⟩, o⟩
set_option maxRecDepth 100000 in
set_option maxHeartbeats 1600000 in
theorem at_go (a : Option Addr) (len cap : Nat) (zs : List Int) (W : World) (i : Nat) (hi : i ≤ 100) (hz : CodeAt W W.heap.size a len zs) :
    Calls Try.prog 19 #[.slice a len cap, .int .i64 (i : Int)] W fun e w' => ∃ z : Int, e = .returned (.int .i64 z) ∧ 0 ≤ z ∧ z ≤ 255 ∧ W = w' := by
  have hl := hz.1
  by_cases h : i < len
  · obtain ⟨⟨h1, h2⟩, b, off, e, hp, hc⟩ := hz.2 i h
    subst e
    generalize zs.getD i 0 = z at h1 h2 hc
    have hd : decide ((i : Int) < (len : Int)) = true := by simp; omega
    have hi2 : (i : Int) < (len : Int) := by omega
    go_enter Try.func19, Try.ntmps19
    go_wp2
    go_ret
    exact ⟨z, by go_num, h1, h2, rfl⟩
  · have hd : decide ((i : Int) < (len : Int)) = false := by simp; omega
    go_enter Try.func19, Try.ntmps19
    go_wp2
    go_ret
    exact ⟨((i : Int) * 37 + (len : Int) * 11) % 256, by first | rfl | go_num, by omega, by omega, rfl⟩
theorem Draw.Cu.sets' {p : Nat} {a : Option Addr} {len cap : Nat} {zs : List Int} {W : World} (hp : p < W.heap.size) {g : Nat} (hg : W.heap.size ≤ g) : ∀ (vs : List Value) (i : Nat) {w : World}, Cu p a len cap zs W w → Cu p a len cap zs W (w.setCells g i vs)
  | [], _, _, h => h
  | v :: vs, i, _, h => by
    rw [World.setCells]
    exact Draw.Cu.sets' hp hg vs (i + 1) (h.setCell hp hg i v)
theorem Draw.Cu.sets {p : Nat} {a : Option Addr} {len cap : Nat} {zs : List Int} {W w : World} (h : Cu p a len cap zs W w) (hp : p < W.heap.size) {g : Nat} (hg : W.heap.size ≤ g) (vs : List Value) (i : Nat) : Cu p a len cap zs W (w.setCells g i vs) := Draw.Cu.sets' hp hg vs i h
set_option maxHeartbeats 6400000 in
theorem timesW {p : Nat} {ad : Option Addr} {len cap : Nat} {zs : List Int} {W : World} (hC : Cu p ad len cap zs W W) : Calls Try.prog 33 #[.pointer (some ⟨p, 0, none⟩)] W fun en w' => ∃ a b c d : Int, en = .returned (tv a b c d) ∧ Cu p ad len cap zs W w' := by
  obtain ⟨ie, hie, hsz⟩ := info_times
  obtain ⟨i1, hi1, hz1⟩ := info_int
  have hpW : p < W.heap.size := hC.lt
  obtain ⟨W1, hW1⟩ : ∃ W1, W.alloc (.cells #[.int .i64 0, .int .i64 0, .int .i64 0, .int .i64 0] 25) = W1 := ⟨_, rfl⟩
  have RB : Blk W.heap.size [.int .i64 0, .int .i64 0, .int .i64 0, .int .i64 0] W1 := by rw [← hW1]; exact Blk.new _ _ _
  have CC : Cu p ad len cap zs W W1 := by rw [← hW1]; exact hC.alloc _
  clear hC
  go_enter Try.func33, Try.ntmps33
  have HX := belowW 20 CC.here (by omega) (by omega)
  go_wp2_with fail
  try rw [hW1]
  refine HX.mono ?_
  rintro en w1 ⟨x0, rfl, x0a, x0b, C⟩
  replace RB := RB.only C.2 RB.lt (by omega)
  replace CC := CC.next C
  clear C HX
  clear hW1
  obtain ⟨q, hq⟩ : ∃ q_, w1.heap.size = q_ := ⟨_, rfl⟩
  obtain ⟨V2, hV2⟩ : ∃ v, w1.alloc (.cells #[.int .i64 x0, .int .i64 0, .int .i64 0, .int .i64 0] 25) = v := ⟨_, rfl⟩
  have qp : p < q := by have h_ := CC.lt; omega
  have qW : W.heap.size ≤ q := by have h_ := CC.size; omega
  have RBq : W.heap.size < q := by have h_ := RB.lt; omega
  have QB : Blk q [.int .i64 x0, .int .i64 0, .int .i64 0, .int .i64 0] V2 := by rw [← hV2, ← hq]; exact Blk.new _ _ _
  replace RB : Blk W.heap.size [.int .i64 0, .int .i64 0, .int .i64 0, .int .i64 0] V2 := by rw [← hV2]; exact RB.alloc RB.lt _
  replace CC := CC.alloc (.cells #[.int .i64 x0, .int .i64 0, .int .i64 0, .int .i64 0] 25)
  rw [hV2] at CC
  have HV2 : Hid (w1.alloc (.cells #[.int .i64 x0, .int .i64 0, .int .i64 0, .int .i64 0] 25) = V2) := hV2
  have Hq : Hid (w1.heap.size = q) := hq
  clear hV2 hq
  go_wp2_with fail
  try rw [HV2.out]
  try rw [Hq.out]
  clear HV2 Hq
  replace RB := RB.drew
  replace QB := QB.drew
  replace CC := CC.drew
  refine wp_region_held_drew (S := (fun Vw => Vw.cell? ⟨q, 0, none⟩ = some (.int .i64 x0))) (by kernel_rfl) (QB.at 0 rfl) (fun hHeld => ?_)
  generalize World.drew V2 = wd0 at *
  refine take_one 0 7 (v := ?_) rfl rfl (by kernel_rfl) (by kernel_rfl) (by kernel_rfl) (fun _ _ _ h => h) (Or.inl ⟨by rfl, ?_⟩) hHeld ?_
  rotate_left
  · intro w' hSw; (try dsimp only at hSw); go_simp; try with_reducible rfl
  try simp only [Act.put, List.setIfInBounds_toArray, List.set_cons_zero, List.set_cons_succ]
  refine take_one 1 8 (v := ?_) rfl rfl (by kernel_rfl) (by kernel_rfl) (by kernel_rfl) (fun _ _ _ h => h) (Or.inl ⟨by rfl, ?_⟩) hHeld ?_
  rotate_left
  · intro w' hSw; (try dsimp only at hSw); go_simp; try with_reducible rfl
  try simp only [Act.put, List.setIfInBounds_toArray, List.set_cons_zero, List.set_cons_succ]
  refine take_one 2 9 (v := ?_) rfl rfl (by kernel_rfl) (by kernel_rfl) (by kernel_rfl) (fun _ _ _ h => h) (Or.inl ⟨by rfl, ?_⟩) hHeld ?_
  rotate_left
  · intro w' hSw; (try dsimp only at hSw); go_simp; try with_reducible rfl
  try simp only [Act.put, List.setIfInBounds_toArray, List.set_cons_zero, List.set_cons_succ]
  have HX := belowW 10 CC.here (by omega) (by omega)
  refine wpAnyH_ready (rs := [3]) (by kernel_rfl) (by simp) ?_
  refine AllReadyH.cons (i := 3) rfl (fun K hK => ?_) AllReadyH.nil
  go_simp
  refine HX.mono ?_
  rintro en wc0 ⟨z0, rfl, z0a, z0b, C⟩
  replace RB := RB.only C.2 RB.lt (by omega)
  replace QB := QB.only C.2 QB.lt (by omega)
  replace CC := CC.next C
  clear C HX
  obtain ⟨x1, hx1⟩ : ∃ y_, x0 + z0 = y_ := ⟨_, rfl⟩
  have x1a : 0 ≤ x1 := by omega
  have x1b : x1 ≤ 200 := by omega
  go_wp2_with fail
  refine hK.out _ _ (QB.at 0 rfl) (fun hHeld2 => ?_)
  clear hK K hHeld
  have hHeld := hHeld2
  clear hHeld2
  try simp only [Act.put, List.setIfInBounds_toArray, List.set_cons_zero, List.set_cons_succ]
  refine take_one 4 11 (v := (.int .i64 x1)) rfl rfl (by kernel_rfl) (by kernel_rfl) (by kernel_rfl) (fun _ _ _ h => h) (Or.inl ⟨by rfl, ?_⟩) hHeld ?_
  · intro w' hSw; (try dsimp only at hSw); go_simp; rw [← hx1, IntKind.wrap_i64]; omega
  try simp only [Act.put, List.setIfInBounds_toArray, List.set_cons_zero, List.set_cons_succ]
  refine take_one 5 12 (v := ?_) rfl rfl (by kernel_rfl) (by kernel_rfl) (by kernel_rfl) (fun _ _ _ h => h) (Or.inl ⟨by rfl, ?_⟩) hHeld ?_
  rotate_left
  · intro w' hSw; (try dsimp only at hSw); go_simp; try with_reducible rfl
  try simp only [Act.put, List.setIfInBounds_toArray, List.set_cons_zero, List.set_cons_succ]
  have QB_ : Blk q [.int .i64 x0, .int .i64 x1, .int .i64 0, .int .i64 0] ((wc0).setCells q 1 [.int .i64 x1]) := QB.part 1 [.int .i64 x1] _ (by simp) rfl
  have RB_ := Blk.farS (q := q) (by omega) [.int .i64 x1] 1 _ RB
  have CC_ := CC.sets hpW (g := q) (by omega) [.int .i64 x1] 1
  have s0 := QB.at 1 rfl
  have f0 := QB.fz 1 rfl
  refine wpAnyH_ready (rs := [6]) (by kernel_rfl) (by simp) ?_
  refine AllReadyH.cons (i := 6) rfl (fun K hK => ?_) AllReadyH.nil
  go_simp
  clear s0 f0
  change K _ ((wc0).setCells q 1 [.int .i64 x1])
  obtain ⟨Vs0, hVs0⟩ : ∃ Wz, (wc0).setCells (q) 1 [.int .i64 x1] = Wz := ⟨_, rfl⟩
  rw [hVs0] at QB_ RB_ CC_ ⊢
  clear hVs0 QB RB CC
  have QB := QB_
  have RB := RB_
  have CC := CC_
  clear QB_ RB_ CC_
  refine hK.out _ _ (QB.at 0 rfl) (fun hHeld2 => ?_)
  clear hK K hHeld
  have hHeld := hHeld2
  clear hHeld2
  try simp only [Act.put, List.setIfInBounds_toArray, List.set_cons_zero, List.set_cons_succ]
  refine wpAnyH_done (by kernel_rfl) ?_ _
  clear hx1
  go_wp2_with fail
  replace RB := RB.drew
  replace QB := QB.drew
  replace CC := CC.drew
  refine wp_region_held_drew (S := (fun Vw => Vw.cell? ⟨q, 1, none⟩ = some (.int .i64 x1))) (by kernel_rfl) (QB.at 1 rfl) (fun hHeld => ?_)
  generalize World.drew Vs0 = wd1 at *
  refine take_one 0 13 (v := ?_) rfl rfl (by kernel_rfl) (by kernel_rfl) (by kernel_rfl) (fun _ _ _ h => h) (Or.inl ⟨by rfl, ?_⟩) hHeld ?_
  rotate_left
  · intro w' hSw; (try dsimp only at hSw); go_simp; try with_reducible rfl
  try simp only [Act.put, List.setIfInBounds_toArray, List.set_cons_zero, List.set_cons_succ]
  refine take_one 1 14 (v := ?_) rfl rfl (by kernel_rfl) (by kernel_rfl) (by kernel_rfl) (fun _ _ _ h => h) (Or.inl ⟨by rfl, ?_⟩) hHeld ?_
  rotate_left
  · intro w' hSw; (try dsimp only at hSw); go_simp; try with_reducible rfl
  try simp only [Act.put, List.setIfInBounds_toArray, List.set_cons_zero, List.set_cons_succ]
  refine take_one 2 15 (v := ?_) rfl rfl (by kernel_rfl) (by kernel_rfl) (by kernel_rfl) (fun _ _ _ h => h) (Or.inl ⟨by rfl, ?_⟩) hHeld ?_
  rotate_left
  · intro w' hSw; (try dsimp only at hSw); go_simp; try with_reducible rfl
  try simp only [Act.put, List.setIfInBounds_toArray, List.set_cons_zero, List.set_cons_succ]
  have HX := belowW 30 CC.here (by omega) (by omega)
  refine wpAnyH_ready (rs := [3]) (by kernel_rfl) (by simp) ?_
  refine AllReadyH.cons (i := 3) rfl (fun K hK => ?_) AllReadyH.nil
  go_simp
  refine HX.mono ?_
  rintro en wc1 ⟨z1, rfl, z1a, z1b, C⟩
  replace RB := RB.only C.2 RB.lt (by omega)
  replace QB := QB.only C.2 QB.lt (by omega)
  replace CC := CC.next C
  clear C HX
  obtain ⟨x2, hx2⟩ : ∃ y_, x1 + z1 = y_ := ⟨_, rfl⟩
  have x2a : 0 ≤ x2 := by omega
  have x2b : x2 ≤ 400 := by omega
  go_wp2_with fail
  refine hK.out _ _ (QB.at 1 rfl) (fun hHeld2 => ?_)
  clear hK K hHeld
  have hHeld := hHeld2
  clear hHeld2
  try simp only [Act.put, List.setIfInBounds_toArray, List.set_cons_zero, List.set_cons_succ]
  refine take_one 4 17 (v := (.int .i64 x2)) rfl rfl (by kernel_rfl) (by kernel_rfl) (by kernel_rfl) (fun _ _ _ h => h) (Or.inl ⟨by rfl, ?_⟩) hHeld ?_
  · intro w' hSw; (try dsimp only at hSw); go_simp; rw [← hx2, IntKind.wrap_i64]; omega
  try simp only [Act.put, List.setIfInBounds_toArray, List.set_cons_zero, List.set_cons_succ]
  refine take_one 5 18 (v := ?_) rfl rfl (by kernel_rfl) (by kernel_rfl) (by kernel_rfl) (fun _ _ _ h => h) (Or.inl ⟨by rfl, ?_⟩) hHeld ?_
  rotate_left
  · intro w' hSw; (try dsimp only at hSw); go_simp; try with_reducible rfl
  try simp only [Act.put, List.setIfInBounds_toArray, List.set_cons_zero, List.set_cons_succ]
  have QB_ : Blk q [.int .i64 x0, .int .i64 x1, .int .i64 x2, .int .i64 0] ((wc1).setCells q 2 [.int .i64 x2]) := QB.part 2 [.int .i64 x2] _ (by simp) rfl
  have RB_ := Blk.farS (q := q) (by omega) [.int .i64 x2] 2 _ RB
  have CC_ := CC.sets hpW (g := q) (by omega) [.int .i64 x2] 2
  have s0 := QB.at 2 rfl
  have f0 := QB.fz 2 rfl
  refine wpAnyH_ready (rs := [6]) (by kernel_rfl) (by simp) ?_
  refine AllReadyH.cons (i := 6) rfl (fun K hK => ?_) AllReadyH.nil
  go_simp
  clear s0 f0
  change K _ ((wc1).setCells q 2 [.int .i64 x2])
  obtain ⟨Vs1, hVs1⟩ : ∃ Wz, (wc1).setCells (q) 2 [.int .i64 x2] = Wz := ⟨_, rfl⟩
  rw [hVs1] at QB_ RB_ CC_ ⊢
  clear hVs1 QB RB CC
  have QB := QB_
  have RB := RB_
  have CC := CC_
  clear QB_ RB_ CC_
  refine hK.out _ _ (QB.at 1 rfl) (fun hHeld2 => ?_)
  clear hK K hHeld
  have hHeld := hHeld2
  clear hHeld2
  try simp only [Act.put, List.setIfInBounds_toArray, List.set_cons_zero, List.set_cons_succ]
  refine wpAnyH_done (by kernel_rfl) ?_ _
  clear hx2
  go_wp2_with fail
  replace RB := RB.drew
  replace QB := QB.drew
  replace CC := CC.drew
  refine wp_region_held_drew (S := (fun Vw => Vw.cell? ⟨q, 2, none⟩ = some (.int .i64 x2))) (by kernel_rfl) (QB.at 2 rfl) (fun hHeld => ?_)
  generalize World.drew Vs1 = wd2 at *
  refine take_one 0 19 (v := ?_) rfl rfl (by kernel_rfl) (by kernel_rfl) (by kernel_rfl) (fun _ _ _ h => h) (Or.inl ⟨by rfl, ?_⟩) hHeld ?_
  rotate_left
  · intro w' hSw; (try dsimp only at hSw); go_simp; try with_reducible rfl
  try simp only [Act.put, List.setIfInBounds_toArray, List.set_cons_zero, List.set_cons_succ]
  refine take_one 1 20 (v := ?_) rfl rfl (by kernel_rfl) (by kernel_rfl) (by kernel_rfl) (fun _ _ _ h => h) (Or.inl ⟨by rfl, ?_⟩) hHeld ?_
  rotate_left
  · intro w' hSw; (try dsimp only at hSw); go_simp; try with_reducible rfl
  try simp only [Act.put, List.setIfInBounds_toArray, List.set_cons_zero, List.set_cons_succ]
  refine take_one 2 21 (v := ?_) rfl rfl (by kernel_rfl) (by kernel_rfl) (by kernel_rfl) (fun _ _ _ h => h) (Or.inl ⟨by rfl, ?_⟩) hHeld ?_
  rotate_left
  · intro w' hSw; (try dsimp only at hSw); go_simp; try with_reducible rfl
  try simp only [Act.put, List.setIfInBounds_toArray, List.set_cons_zero, List.set_cons_succ]
  have HX := belowW 50 CC.here (by omega) (by omega)
  refine wpAnyH_ready (rs := [3]) (by kernel_rfl) (by simp) ?_
  refine AllReadyH.cons (i := 3) rfl (fun K hK => ?_) AllReadyH.nil
  go_simp
  refine HX.mono ?_
  rintro en wc2 ⟨z2, rfl, z2a, z2b, C⟩
  replace RB := RB.only C.2 RB.lt (by omega)
  replace QB := QB.only C.2 QB.lt (by omega)
  replace CC := CC.next C
  clear C HX
  obtain ⟨x3, hx3⟩ : ∃ y_, x2 + z2 = y_ := ⟨_, rfl⟩
  have x3a : 0 ≤ x3 := by omega
  have x3b : x3 ≤ 600 := by omega
  go_wp2_with fail
  refine hK.out _ _ (QB.at 2 rfl) (fun hHeld2 => ?_)
  clear hK K hHeld
  have hHeld := hHeld2
  clear hHeld2
  try simp only [Act.put, List.setIfInBounds_toArray, List.set_cons_zero, List.set_cons_succ]
  refine take_one 4 23 (v := (.int .i64 x3)) rfl rfl (by kernel_rfl) (by kernel_rfl) (by kernel_rfl) (fun _ _ _ h => h) (Or.inl ⟨by rfl, ?_⟩) hHeld ?_
  · intro w' hSw; (try dsimp only at hSw); go_simp; rw [← hx3, IntKind.wrap_i64]; omega
  try simp only [Act.put, List.setIfInBounds_toArray, List.set_cons_zero, List.set_cons_succ]
  refine take_one 5 24 (v := ?_) rfl rfl (by kernel_rfl) (by kernel_rfl) (by kernel_rfl) (fun _ _ _ h => h) (Or.inl ⟨by rfl, ?_⟩) hHeld ?_
  rotate_left
  · intro w' hSw; (try dsimp only at hSw); go_simp; try with_reducible rfl
  try simp only [Act.put, List.setIfInBounds_toArray, List.set_cons_zero, List.set_cons_succ]
  have QB_ : Blk q [.int .i64 x0, .int .i64 x1, .int .i64 x2, .int .i64 x3] ((wc2).setCells q 3 [.int .i64 x3]) := QB.part 3 [.int .i64 x3] _ (by simp) rfl
  have RB_ := Blk.farS (q := q) (by omega) [.int .i64 x3] 3 _ RB
  have CC_ := CC.sets hpW (g := q) (by omega) [.int .i64 x3] 3
  have s0 := QB.at 3 rfl
  have f0 := QB.fz 3 rfl
  refine wpAnyH_ready (rs := [6]) (by kernel_rfl) (by simp) ?_
  refine AllReadyH.cons (i := 6) rfl (fun K hK => ?_) AllReadyH.nil
  go_simp
  clear s0 f0
  change K _ ((wc2).setCells q 3 [.int .i64 x3])
  obtain ⟨Vs2, hVs2⟩ : ∃ Wz, (wc2).setCells (q) 3 [.int .i64 x3] = Wz := ⟨_, rfl⟩
  rw [hVs2] at QB_ RB_ CC_ ⊢
  clear hVs2 QB RB CC
  have QB := QB_
  have RB := RB_
  have CC := CC_
  clear QB_ RB_ CC_
  refine hK.out _ _ (QB.at 2 rfl) (fun hHeld2 => ?_)
  clear hK K hHeld
  have hHeld := hHeld2
  clear hHeld2
  try simp only [Act.put, List.setIfInBounds_toArray, List.set_cons_zero, List.set_cons_succ]
  refine wpAnyH_done (by kernel_rfl) ?_ _
  clear hx3
  have HX := onceW 10 CC.here (by omega)
  go_wp2_with fail
  refine HX.mono ?_
  rintro en w3 ⟨bb, rfl, C⟩
  replace RB := RB.only C.2 RB.lt (by omega)
  replace QB := QB.only C.2 QB.lt (by omega)
  replace CC := CC.next C
  clear C HX
  cases bb with
  | false =>
    have FU := RB.sets [.int .i64 x0, .int .i64 x1, .int .i64 x2, .int .i64 x3] rfl
    have FC := CC.sets hpW (g := W.heap.size) (Nat.le_refl _) [.int .i64 x0, .int .i64 x1, .int .i64 x2, .int .i64 x3] 0
    go_wp2_with (first | (refine wpList_ldB 25 _ q 0 [.int .i64 x0, .int .i64 x1, .int .i64 x2, .int .i64 x3] [.int .i64 x0, .int .i64 x1, .int .i64 x2, .int .i64 x3] ie hie ag25 QB (by rw [hsz]; rfl) rfl rfl rfl rfl ?_; try simp only [Act.put]) | (refine wpList_stB 25 _ _ W.heap.size 0 [.int .i64 0, .int .i64 0, .int .i64 0, .int .i64 0] [.int .i64 x0, .int .i64 x1, .int .i64 x2, .int .i64 x3] ie hie RB (by rw [hsz]; rfl) (by simp) rfl rfl rfl rfl rfl ?_; try simp only [Act.put]))
    exact bodyPost_ret (res_B1 rfl _ _ W.heap.size _ ie hie ag25 FU (by rw [hsz]; rfl) rfl) rfl ⟨_, _, _, _, rfl, FC⟩
  | true =>
    have HX := belowW 4 CC.here (by omega) (by omega)
    go_wp2_with fail
    refine HX.mono ?_
    rintro en w4 ⟨z, rfl, za, zb, C⟩
    replace RB := RB.only C.2 RB.lt (by omega)
    replace QB := QB.only C.2 QB.lt (by omega)
    replace CC := CC.next C
    clear C HX
    obtain rfl | rfl | rfl | rfl : z = 0 ∨ z = 1 ∨ z = 2 ∨ z = 3 := by omega
    · skip
      obtain ⟨qL, hqL⟩ : ∃ q_, w4.heap.size = q_ := ⟨_, rfl⟩
      obtain ⟨V5, hV5⟩ : ∃ v, w4.alloc (.cells #[.int .i64 (-1), .int .i64 90] 3) = v := ⟨_, rfl⟩
      have qLp : p < qL := by have h_ := CC.lt; omega
      have qLW : W.heap.size ≤ qL := by have h_ := CC.size; omega
      have RBqL : W.heap.size < qL := by have h_ := RB.lt; omega
      have QBqL : q < qL := by have h_ := QB.lt; omega
      have LB : Blk qL [.int .i64 (-1), .int .i64 90] V5 := by rw [← hV5, ← hqL]; exact Blk.new _ _ _
      replace RB : Blk W.heap.size [.int .i64 0, .int .i64 0, .int .i64 0, .int .i64 0] V5 := by rw [← hV5]; exact RB.alloc RB.lt _
      replace QB : Blk q [.int .i64 x0, .int .i64 x1, .int .i64 x2, .int .i64 x3] V5 := by rw [← hV5]; exact QB.alloc QB.lt _
      replace CC := CC.alloc (.cells #[.int .i64 (-1), .int .i64 90] 3)
      rw [hV5] at CC
      have HV5 : Hid (w4.alloc (.cells #[.int .i64 (-1), .int .i64 90] 3) = V5) := hV5
      have HqL : Hid (w4.heap.size = qL) := hqL
      clear hV5 hqL
      have HX := pickI qL 2 [-1, 90] CC.here (by omega) (by omega) qLp LB.lt (by decide) LB (by decide)
      go_wp2_with fail
      try rw [HV5.out]
      try rw [HqL.out]
      refine HX.mono ?_
      rintro en w6 ⟨y, rfl, yi, C⟩
      replace RB := RB.only C.2 RB.lt (by omega)
      replace QB := QB.only C.2 QB.lt (by omega)
      replace LB := LB.only C.2 LB.lt (by omega)
      replace CC := CC.next C
      clear C HX
      clear HV5 HqL
      clear LB
      obtain ⟨Vf, hVf⟩ : ∃ Wz, (World.setCells w6 q 0 [.int .i64 y]) = Wz := ⟨_, rfl⟩
      have QB_ : Blk q [.int .i64 y, .int .i64 x1, .int .i64 x2, .int .i64 x3] Vf := by rw [← hVf]; exact QB.part 0 [.int .i64 y] _ (by simp) rfl
      have RB_ : Blk W.heap.size [.int .i64 0, .int .i64 0, .int .i64 0, .int .i64 0] Vf := by rw [← hVf]; exact Blk.farS (q := q) (by omega) [.int .i64 y] 0 _ RB
      have CC_ := CC.sets hpW (g := q) (by omega) [.int .i64 y] 0
      rw [hVf] at CC_
      have QB0Vf := QB
      clear RB QB CC
      have RB := RB_
      have QB := QB_
      have CC := CC_
      clear RB_ QB_ CC_
      have FU := RB.sets [.int .i64 y, .int .i64 x1, .int .i64 x2, .int .i64 x3] rfl
      have FC := CC.sets hpW (g := W.heap.size) (Nat.le_refl _) [.int .i64 y, .int .i64 x1, .int .i64 x2, .int .i64 x3] 0
      go_wp2_with (first | (refine wpList_st1 3 _ _ q 0 [.int .i64 x0, .int .i64 x1, .int .i64 x2, .int .i64 x3] (.int .i64 y) i1 hi1 QB0Vf hz1 (by simp) rfl rfl rfl rfl rfl ?_; try simp only [Act.put]; rw [hVf]) | (refine wpList_ldB 25 _ q 0 [.int .i64 y, .int .i64 x1, .int .i64 x2, .int .i64 x3] [.int .i64 y, .int .i64 x1, .int .i64 x2, .int .i64 x3] ie hie ag25 QB (by rw [hsz]; rfl) rfl rfl rfl rfl ?_; try simp only [Act.put]) | (refine wpList_stB 25 _ _ W.heap.size 0 [.int .i64 0, .int .i64 0, .int .i64 0, .int .i64 0] [.int .i64 y, .int .i64 x1, .int .i64 x2, .int .i64 x3] ie hie RB (by rw [hsz]; rfl) (by simp) rfl rfl rfl rfl rfl ?_; try simp only [Act.put]))
      exact bodyPost_ret (res_B1 rfl _ _ W.heap.size _ ie hie ag25 FU (by rw [hsz]; rfl) rfl) rfl ⟨_, _, _, _, rfl, FC⟩
    · skip
      have HX := belowW 60 CC.here (by omega) (by omega)
      go_wp2_with fail
      refine HX.mono ?_
      rintro en w5 ⟨y, rfl, ya, yb, C⟩
      replace RB := RB.only C.2 RB.lt (by omega)
      replace QB := QB.only C.2 QB.lt (by omega)
      replace CC := CC.next C
      clear C HX
      obtain ⟨Vf, hVf⟩ : ∃ Wz, (World.setCells w5 q 1 [.int .i64 y]) = Wz := ⟨_, rfl⟩
      have QB_ : Blk q [.int .i64 x0, .int .i64 y, .int .i64 x2, .int .i64 x3] Vf := by rw [← hVf]; exact QB.part 1 [.int .i64 y] _ (by simp) rfl
      have RB_ : Blk W.heap.size [.int .i64 0, .int .i64 0, .int .i64 0, .int .i64 0] Vf := by rw [← hVf]; exact Blk.farS (q := q) (by omega) [.int .i64 y] 1 _ RB
      have CC_ := CC.sets hpW (g := q) (by omega) [.int .i64 y] 1
      rw [hVf] at CC_
      have QB0Vf := QB
      clear RB QB CC
      have RB := RB_
      have QB := QB_
      have CC := CC_
      clear RB_ QB_ CC_
      have FU := RB.sets [.int .i64 x0, .int .i64 y, .int .i64 x2, .int .i64 x3] rfl
      have FC := CC.sets hpW (g := W.heap.size) (Nat.le_refl _) [.int .i64 x0, .int .i64 y, .int .i64 x2, .int .i64 x3] 0
      go_wp2_with (first | (refine wpList_st1 3 _ _ q 1 [.int .i64 x0, .int .i64 x1, .int .i64 x2, .int .i64 x3] (.int .i64 y) i1 hi1 QB0Vf hz1 (by simp) rfl rfl rfl rfl rfl ?_; try simp only [Act.put]; rw [hVf]) | (refine wpList_ldB 25 _ q 0 [.int .i64 x0, .int .i64 y, .int .i64 x2, .int .i64 x3] [.int .i64 x0, .int .i64 y, .int .i64 x2, .int .i64 x3] ie hie ag25 QB (by rw [hsz]; rfl) rfl rfl rfl rfl ?_; try simp only [Act.put]) | (refine wpList_stB 25 _ _ W.heap.size 0 [.int .i64 0, .int .i64 0, .int .i64 0, .int .i64 0] [.int .i64 x0, .int .i64 y, .int .i64 x2, .int .i64 x3] ie hie RB (by rw [hsz]; rfl) (by simp) rfl rfl rfl rfl rfl ?_; try simp only [Act.put]))
      exact bodyPost_ret (res_B1 rfl _ _ W.heap.size _ ie hie ag25 FU (by rw [hsz]; rfl) rfl) rfl ⟨_, _, _, _, rfl, FC⟩
    · skip
      have HX := belowW 60 CC.here (by omega) (by omega)
      go_wp2_with fail
      refine HX.mono ?_
      rintro en w5 ⟨y, rfl, ya, yb, C⟩
      replace RB := RB.only C.2 RB.lt (by omega)
      replace QB := QB.only C.2 QB.lt (by omega)
      replace CC := CC.next C
      clear C HX
      obtain ⟨Vf, hVf⟩ : ∃ Wz, (World.setCells w5 q 2 [.int .i64 y]) = Wz := ⟨_, rfl⟩
      have QB_ : Blk q [.int .i64 x0, .int .i64 x1, .int .i64 y, .int .i64 x3] Vf := by rw [← hVf]; exact QB.part 2 [.int .i64 y] _ (by simp) rfl
      have RB_ : Blk W.heap.size [.int .i64 0, .int .i64 0, .int .i64 0, .int .i64 0] Vf := by rw [← hVf]; exact Blk.farS (q := q) (by omega) [.int .i64 y] 2 _ RB
      have CC_ := CC.sets hpW (g := q) (by omega) [.int .i64 y] 2
      rw [hVf] at CC_
      have QB0Vf := QB
      clear RB QB CC
      have RB := RB_
      have QB := QB_
      have CC := CC_
      clear RB_ QB_ CC_
      have FU := RB.sets [.int .i64 x0, .int .i64 x1, .int .i64 y, .int .i64 x3] rfl
      have FC := CC.sets hpW (g := W.heap.size) (Nat.le_refl _) [.int .i64 x0, .int .i64 x1, .int .i64 y, .int .i64 x3] 0
      go_wp2_with (first | (refine wpList_st1 3 _ _ q 2 [.int .i64 x0, .int .i64 x1, .int .i64 x2, .int .i64 x3] (.int .i64 y) i1 hi1 QB0Vf hz1 (by simp) rfl rfl rfl rfl rfl ?_; try simp only [Act.put]; rw [hVf]) | (refine wpList_ldB 25 _ q 0 [.int .i64 x0, .int .i64 x1, .int .i64 y, .int .i64 x3] [.int .i64 x0, .int .i64 x1, .int .i64 y, .int .i64 x3] ie hie ag25 QB (by rw [hsz]; rfl) rfl rfl rfl rfl ?_; try simp only [Act.put]) | (refine wpList_stB 25 _ _ W.heap.size 0 [.int .i64 0, .int .i64 0, .int .i64 0, .int .i64 0] [.int .i64 x0, .int .i64 x1, .int .i64 y, .int .i64 x3] ie hie RB (by rw [hsz]; rfl) (by simp) rfl rfl rfl rfl rfl ?_; try simp only [Act.put]))
      exact bodyPost_ret (res_B1 rfl _ _ W.heap.size _ ie hie ag25 FU (by rw [hsz]; rfl) rfl) rfl ⟨_, _, _, _, rfl, FC⟩
    · skip
      obtain ⟨qL, hqL⟩ : ∃ q_, w4.heap.size = q_ := ⟨_, rfl⟩
      obtain ⟨V5, hV5⟩ : ∃ v, w4.alloc (.cells #[.int .i64 100000, .int .i64 100001, .int .i64 0] 3) = v := ⟨_, rfl⟩
      have qLp : p < qL := by have h_ := CC.lt; omega
      have qLW : W.heap.size ≤ qL := by have h_ := CC.size; omega
      have RBqL : W.heap.size < qL := by have h_ := RB.lt; omega
      have QBqL : q < qL := by have h_ := QB.lt; omega
      have LB : Blk qL [.int .i64 100000, .int .i64 100001, .int .i64 0] V5 := by rw [← hV5, ← hqL]; exact Blk.new _ _ _
      replace RB : Blk W.heap.size [.int .i64 0, .int .i64 0, .int .i64 0, .int .i64 0] V5 := by rw [← hV5]; exact RB.alloc RB.lt _
      replace QB : Blk q [.int .i64 x0, .int .i64 x1, .int .i64 x2, .int .i64 x3] V5 := by rw [← hV5]; exact QB.alloc QB.lt _
      replace CC := CC.alloc (.cells #[.int .i64 100000, .int .i64 100001, .int .i64 0] 3)
      rw [hV5] at CC
      have HV5 : Hid (w4.alloc (.cells #[.int .i64 100000, .int .i64 100001, .int .i64 0] 3) = V5) := hV5
      have HqL : Hid (w4.heap.size = qL) := hqL
      clear hV5 hqL
      have HX := pickI qL 3 [100000, 100001, 0] CC.here (by omega) (by omega) qLp LB.lt (by decide) LB (by decide)
      go_wp2_with fail
      try rw [HV5.out]
      try rw [HqL.out]
      refine HX.mono ?_
      rintro en w6 ⟨y, rfl, yi, C⟩
      replace RB := RB.only C.2 RB.lt (by omega)
      replace QB := QB.only C.2 QB.lt (by omega)
      replace LB := LB.only C.2 LB.lt (by omega)
      replace CC := CC.next C
      clear C HX
      clear HV5 HqL
      clear LB
      obtain ⟨Vf, hVf⟩ : ∃ Wz, (World.setCells w6 q 3 [.int .i64 y]) = Wz := ⟨_, rfl⟩
      have QB_ : Blk q [.int .i64 x0, .int .i64 x1, .int .i64 x2, .int .i64 y] Vf := by rw [← hVf]; exact QB.part 3 [.int .i64 y] _ (by simp) rfl
      have RB_ : Blk W.heap.size [.int .i64 0, .int .i64 0, .int .i64 0, .int .i64 0] Vf := by rw [← hVf]; exact Blk.farS (q := q) (by omega) [.int .i64 y] 3 _ RB
      have CC_ := CC.sets hpW (g := q) (by omega) [.int .i64 y] 3
      rw [hVf] at CC_
      have QB0Vf := QB
      clear RB QB CC
      have RB := RB_
      have QB := QB_
      have CC := CC_
      clear RB_ QB_ CC_
      have FU := RB.sets [.int .i64 x0, .int .i64 x1, .int .i64 x2, .int .i64 y] rfl
      have FC := CC.sets hpW (g := W.heap.size) (Nat.le_refl _) [.int .i64 x0, .int .i64 x1, .int .i64 x2, .int .i64 y] 0
      go_wp2_with (first | (refine wpList_st1 3 _ _ q 3 [.int .i64 x0, .int .i64 x1, .int .i64 x2, .int .i64 x3] (.int .i64 y) i1 hi1 QB0Vf hz1 (by simp) rfl rfl rfl rfl rfl ?_; try simp only [Act.put]; rw [hVf]) | (refine wpList_ldB 25 _ q 0 [.int .i64 x0, .int .i64 x1, .int .i64 x2, .int .i64 y] [.int .i64 x0, .int .i64 x1, .int .i64 x2, .int .i64 y] ie hie ag25 QB (by rw [hsz]; rfl) rfl rfl rfl rfl ?_; try simp only [Act.put]) | (refine wpList_stB 25 _ _ W.heap.size 0 [.int .i64 0, .int .i64 0, .int .i64 0, .int .i64 0] [.int .i64 x0, .int .i64 x1, .int .i64 x2, .int .i64 y] ie hie RB (by rw [hsz]; rfl) (by simp) rfl rfl rfl rfl rfl ?_; try simp only [Act.put]))
      exact bodyPost_ret (res_B1 rfl _ _ W.heap.size _ ie hie ag25 FU (by rw [hsz]; rfl) rfl) rfl ⟨_, _, _, _, rfl, FC⟩
end Go.Proofs.Ytaeecaebjafnpaa
