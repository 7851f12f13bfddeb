/- Two slots compared, a row that rises: the program. -/
import Derived.Test.YtkfjpgkpmdbnoaaPa1
import Derived.Test.YtkfjpgkpmdbnoaaRge
set_option linter.unusedVariables false
set_option maxRecDepth 100000
namespace Go.Proofs.Ytkfjpgkpmdbnoaa
open Go Go.RowKit Go.Joins Own Draw

theorem news2 (w : World) (x y : Value) (t : TypeId) : Blk w.heap.size [x, y] (w.alloc (.cells #[x, y] t)) := Blk.new _ _ _
set_option maxHeartbeats 6400000 in
theorem compare_is (x0 x1 x2 y0 y1 y2 : Int) (w : World) : Calls Try.prog 41 #[.agg #[.int .i64 x0, .int .i64 x1, .int .i64 x2], .agg #[.int .i64 y0, .int .i64 y1, .int .i64 y2]] w fun e w' => e = .returned (.int .i64 (cmpS (x0, x1, x2) (y0, y1, y2))) ∧ Below w.heap.size w w' := by
  obtain ⟨V1, hV1⟩ : ∃ V, w.alloc (.cells #[.int .i64 x0, .int .i64 x1, .int .i64 x2] 31) = V := ⟨_, rfl⟩
  have T1 : Blk w.heap.size [.int .i64 x0, .int .i64 x1, .int .i64 x2] V1 := by rw [← hV1]; exact Blk.new _ _ _
  have B1 : Below w.heap.size w V1 := by rw [← hV1]; exact (Below.refl _ _).alloc (Nat.le_refl _) _
  have Z1 : V1.heap.size = w.heap.size + 1 := by rw [← hV1]; simp
  obtain ⟨V2, hV2⟩ : ∃ V, V1.alloc (.cells #[.int .i64 y0, .int .i64 y1, .int .i64 y2] 31) = V := ⟨_, rfl⟩
  have T2 : Blk (w.heap.size + 1) [.int .i64 y0, .int .i64 y1, .int .i64 y2] V2 := by rw [← hV2, ← Z1]; exact Blk.new _ _ _
  have T3 : Blk w.heap.size [.int .i64 x0, .int .i64 x1, .int .i64 x2] V2 := by rw [← hV2]; exact T1.alloc (by omega) _
  have B2 : Below w.heap.size w V2 := by rw [← hV2]; exact B1.alloc B1.size _
  have hE : cmpS (x0, x1, x2) (y0, y1, y2) = if cmpI x0 y0 = 0 then cmpI x1 y1 else cmpI x0 y0 := rfl
  generalize cmpS (x0, x1, x2) (y0, y1, y2) = ans at hE ⊢
  have HE : Hid (ans = if cmpI x0 y0 = 0 then cmpI x1 y1 else cmpI x0 y0) := hE
  clear hE
  go_enter Try.func41, Try.ntmps41
  go_wp2_with fail
  try rw [hV1]
  try rw [hV2]
  clear hV1 hV2 B1 T1 Z1
  replace T2 := T2.drew
  replace T3 := T3.drew
  replace B2 := B2.drew
  refine drew_E 12 ((fun Vw => Blk w.heap.size [.int .i64 x0, .int .i64 x1, .int .i64 x2] Vw ∧ Blk (w.heap.size + 1) [.int .i64 y0, .int .i64 y1, .int .i64 y2] Vw)) (by kernel_rfl) ⟨T3, T2⟩ (fun hHeld => ?_)
  refine take_E 0 5 (v := ?_) rfl rfl (by kernel_rfl) (by kernel_rfl) (by kernel_rfl) (by kernel_rfl) (fun _ _ _ h => h) (Or.inl ⟨by rfl, ?_⟩) hHeld ?_
  rotate_left
  · intro w' hSw; (try dsimp only at hSw); obtain ⟨hA_, hB_⟩ := hSw; have k0 := hA_.at 0 rfl; have k1 := hA_.at 1 rfl; have j0 := hB_.at 0 rfl; have j1 := hB_.at 1 rfl; go_simp; try with_reducible rfl
  try simp only [Act.put, List.setIfInBounds_toArray, List.set_cons_zero, List.set_cons_succ]
  refine take_E 1 6 (v := ?_) rfl rfl (by kernel_rfl) (by kernel_rfl) (by kernel_rfl) (by kernel_rfl) (fun _ _ _ h => h) (Or.inl ⟨by rfl, ?_⟩) hHeld ?_
  rotate_left
  · intro w' hSw; (try dsimp only at hSw); obtain ⟨hA_, hB_⟩ := hSw; have k0 := hA_.at 0 rfl; have k1 := hA_.at 1 rfl; have j0 := hB_.at 0 rfl; have j1 := hB_.at 1 rfl; go_simp; try with_reducible rfl
  try simp only [Act.put, List.setIfInBounds_toArray, List.set_cons_zero, List.set_cons_succ]
  refine take_E 2 7 (v := ?_) rfl rfl (by kernel_rfl) (by kernel_rfl) (by kernel_rfl) (by kernel_rfl) (fun _ _ _ h => h) (Or.inl ⟨by rfl, ?_⟩) hHeld ?_
  rotate_left
  · intro w' hSw; (try dsimp only at hSw); obtain ⟨hA_, hB_⟩ := hSw; have k0 := hA_.at 0 rfl; have k1 := hA_.at 1 rfl; have j0 := hB_.at 0 rfl; have j1 := hB_.at 1 rfl; go_simp; try with_reducible rfl
  try simp only [Act.put, List.setIfInBounds_toArray, List.set_cons_zero, List.set_cons_succ]
  refine take_E 3 8 (v := ?_) rfl rfl (by kernel_rfl) (by kernel_rfl) (by kernel_rfl) (by kernel_rfl) (fun _ _ _ h => h) (Or.inl ⟨by rfl, ?_⟩) hHeld ?_
  rotate_left
  · intro w' hSw; (try dsimp only at hSw); obtain ⟨hA_, hB_⟩ := hSw; have k0 := hA_.at 0 rfl; have k1 := hA_.at 1 rfl; have j0 := hB_.at 0 rfl; have j1 := hB_.at 1 rfl; go_simp; try with_reducible rfl
  try simp only [Act.put, List.setIfInBounds_toArray, List.set_cons_zero, List.set_cons_succ]
  refine take_E 5 10 (v := ?_) rfl rfl (by kernel_rfl) (by kernel_rfl) (by kernel_rfl) (by kernel_rfl) (fun _ _ _ h => h) (Or.inl ⟨by rfl, ?_⟩) hHeld ?_
  rotate_left
  · intro w' hSw; (try dsimp only at hSw); obtain ⟨hA_, hB_⟩ := hSw; have k0 := hA_.at 0 rfl; have k1 := hA_.at 1 rfl; have j0 := hB_.at 0 rfl; have j1 := hB_.at 1 rfl; go_simp; try with_reducible rfl
  try simp only [Act.put, List.setIfInBounds_toArray, List.set_cons_zero, List.set_cons_succ]
  refine take_E 6 11 (v := ?_) rfl rfl (by kernel_rfl) (by kernel_rfl) (by kernel_rfl) (by kernel_rfl) (fun _ _ _ h => h) (Or.inl ⟨by rfl, ?_⟩) hHeld ?_
  rotate_left
  · intro w' hSw; (try dsimp only at hSw); obtain ⟨hA_, hB_⟩ := hSw; have k0 := hA_.at 0 rfl; have k1 := hA_.at 1 rfl; have j0 := hB_.at 0 rfl; have j1 := hB_.at 1 rfl; go_simp; try with_reducible rfl
  try simp only [Act.put, List.setIfInBounds_toArray, List.set_cons_zero, List.set_cons_succ]
  refine take_E 7 12 (v := ?_) rfl rfl (by kernel_rfl) (by kernel_rfl) (by kernel_rfl) (by kernel_rfl) (fun _ _ _ h => h) (Or.inl ⟨by rfl, ?_⟩) hHeld ?_
  rotate_left
  · intro w' hSw; (try dsimp only at hSw); obtain ⟨hA_, hB_⟩ := hSw; have k0 := hA_.at 0 rfl; have k1 := hA_.at 1 rfl; have j0 := hB_.at 0 rfl; have j1 := hB_.at 1 rfl; go_simp; try with_reducible rfl
  try simp only [Act.put, List.setIfInBounds_toArray, List.set_cons_zero, List.set_cons_succ]
  refine take_E 8 13 (v := ?_) rfl rfl (by kernel_rfl) (by kernel_rfl) (by kernel_rfl) (by kernel_rfl) (fun _ _ _ h => h) (Or.inl ⟨by rfl, ?_⟩) hHeld ?_
  rotate_left
  · intro w' hSw; (try dsimp only at hSw); obtain ⟨hA_, hB_⟩ := hSw; have k0 := hA_.at 0 rfl; have k1 := hA_.at 1 rfl; have j0 := hB_.at 0 rfl; have j1 := hB_.at 1 rfl; go_simp; try with_reducible rfl
  try simp only [Act.put, List.setIfInBounds_toArray, List.set_cons_zero, List.set_cons_succ]
  refine one_E 4 (by kernel_rfl) rfl (fun K hK => ?_)
  go_simp
  refine (cmp_is x0 y0 _).mono ?_
  rintro en v1 ⟨rfl, rfl⟩
  generalize cmpI x0 y0 = c at HE ⊢
  go_wp2_with fail
  refine hK.out _ _ ⟨T3, T2⟩ (fun hHeld2 => ?_)
  clear hK K hHeld
  have hHeld := hHeld2
  clear hHeld2
  try simp only [Act.put, List.setIfInBounds_toArray, List.set_cons_zero, List.set_cons_succ]
  refine one_E 9 (by kernel_rfl) rfl (fun K hK => ?_)
  go_simp
  refine (cmp_is x1 y1 _).mono ?_
  rintro en v2 ⟨rfl, rfl⟩
  generalize cmpI x1 y1 = d at HE ⊢
  go_wp2_with fail
  refine hK.out _ _ ⟨T3, T2⟩ (fun hHeld2 => ?_)
  clear hK K hHeld
  have hHeld := hHeld2
  clear hHeld2
  try simp only [Act.put, List.setIfInBounds_toArray, List.set_cons_zero, List.set_cons_succ]
  refine one_E 10 (by kernel_rfl) rfl (fun K hK => ?_)
  go_simp
  have T4 := news2 (V2.drew) (.int .i64 c) (.int .i64 d) 3
  have XA : Below V2.drew.heap.size V2.drew (V2.drew.alloc (.cells #[.int .i64 c, .int .i64 d] 3)) := (Below.refl _ _).alloc (Nat.le_refl _) _
  replace T2 := T2.later XA T2.lt
  replace T3 := T3.later XA T3.lt
  replace B2 := B2.trans (XA.mono B2.size)
  clear XA
  refine hK.out _ _ ⟨T3, T2⟩ (fun hHeld2 => ?_)
  clear hK K hHeld
  have hHeld := hHeld2
  clear hHeld2
  try simp only [Act.put, List.setIfInBounds_toArray, List.set_cons_zero, List.set_cons_succ]
  refine one_E 11 (by kernel_rfl) rfl (fun K hK => ?_)
  go_simp
  refine (or_is _ c d _ T4).mono ?_
  rintro en v3 ⟨rfl, hb⟩
  generalize (if c = 0 then d else c) = z at HE ⊢
  replace T2 := T2.later hb T2.lt
  replace T3 := T3.later hb T3.lt
  replace B2 := B2.trans (hb.mono B2.size)
  clear hb
  go_wp2_with fail
  refine hK.out _ _ ⟨T3, T2⟩ (fun hHeld2 => ?_)
  clear hK K hHeld
  have hHeld := hHeld2
  clear hHeld2
  try simp only [Act.put, List.setIfInBounds_toArray, List.set_cons_zero, List.set_cons_succ]
  refine last_E (by kernel_rfl) rfl (by kernel_rfl) (fun K hK => ?_)
  go_simp
  refine hK.out _ _ ?_
  clear hK K hHeld
  go_wp2
  go_ret
  exact ⟨by first | (rw [HE.out]; rfl) | rw [HE.out], B2⟩
set_option maxHeartbeats 6400000 in
theorem rise_is (a : Option Addr) (cap : Nat) (xs : List TS) (w : World) (hr : FRow 3 cS w a xs) (hl : xs.length ≤ 1048576) :
    Calls Try.prog 56 #[.slice a xs.length cap] w fun e w' => e = .returned (.bool (riS xs)) ∧ Below w.heap.size w w' := by
  go_enter Try.func56, Try.ntmps56
  go_wp2
  go_loopw [6] (fun i wr => ∃ k : Nat, k ≤ xs.length ∧ i = .int .i64 k ∧ Hid (∀ i (h : i < xs.length), i < k → ∀ (h0 : 0 < i), ltS (xs[i - 1]'(by omega)) xs[i]) ∧ Below w.heap.size w wr) (fun i _ => xs.length - (intOf i).toNat)
  case atStart => exact ⟨0, by omega, rfl, fun i h hj => absurd hj (by omega), Below.refl _ _⟩
  case round =>
    obtain ⟨k, hk, rfl, hno, hbel⟩ := hrel
    by_cases hlt : k < xs.length
    · have hlt2 : (k : Int) < (xs.length : Int) := by omega
      by_cases hz : k = 0
      · have HN : Hid (∀ i (h : i < xs.length), i < k + 1 → ∀ (h0 : 0 < i), ltS (xs[i - 1]'(by omega)) xs[i]) := fun i h hj h0 => absurd h0 (by omega)
        clear hr hno
        have kz : (k : Int) = 0 := by omega
        go_wp2
        rw [kz]
        replace kz : Hid ((k : Int) = 0) := kz
        clear hlt2 hz
        refine wp_region_held_drew (S := (fun _ => True)) (by kernel_rfl) trivial (fun hHeld => ?_)
        refine take_one 0 9 (v := ?_) rfl rfl (by kernel_rfl) (by kernel_rfl) (by kernel_rfl) (fun _ _ _ h => h) (Or.inl ⟨by rfl, ?_⟩) hHeld ?_
        rotate_left
        · intro w' hSw; (try dsimp only at hSw); go_simp; try with_reducible rfl
        try simp only [Act.put, List.setIfInBounds_toArray, List.set_cons_zero, List.set_cons_succ]
        refine take_one 1 10 (v := ?_) rfl rfl (by kernel_rfl) (by kernel_rfl) (by kernel_rfl) (fun _ _ _ h => h) (Or.inl ⟨by rfl, ?_⟩) hHeld ?_
        rotate_left
        · intro w' hSw; (try dsimp only at hSw); go_simp; try with_reducible rfl
        try simp only [Act.put, List.setIfInBounds_toArray, List.set_cons_zero, List.set_cons_succ]
        refine take_one 2 11 (v := ?_) rfl rfl (by kernel_rfl) (by kernel_rfl) (by kernel_rfl) (fun _ _ _ h => h) (Or.inl ⟨by rfl, ?_⟩) hHeld ?_
        rotate_left
        · intro w' hSw; (try dsimp only at hSw); go_simp; try with_reducible rfl
        try simp only [Act.put, List.setIfInBounds_toArray, List.set_cons_zero, List.set_cons_succ]
        refine skip_one 3 12 rfl rfl (by kernel_rfl) (by kernel_rfl) (by kernel_rfl) (fun _ _ _ h => h) (unwanted (c := false) rfl rfl (by simp) rfl) hHeld ?_
        try simp only [Act.put, List.setIfInBounds_toArray, List.set_cons_zero, List.set_cons_succ]
        refine skip_one 4 13 rfl rfl (by kernel_rfl) (by kernel_rfl) (by kernel_rfl) (fun _ _ _ h => h) (unwanted (c := false) rfl rfl (by simp) rfl) hHeld ?_
        try simp only [Act.put, List.setIfInBounds_toArray, List.set_cons_zero, List.set_cons_succ]
        refine skip_one 5 14 rfl rfl (by kernel_rfl) (by kernel_rfl) (by kernel_rfl) (fun _ _ _ h => h) (unwanted (c := false) rfl rfl (by simp) rfl) hHeld ?_
        try simp only [Act.put, List.setIfInBounds_toArray, List.set_cons_zero, List.set_cons_succ]
        refine skip_one 6 15 rfl rfl (by kernel_rfl) (by kernel_rfl) (by kernel_rfl) (fun _ _ _ h => h) (unwanted (c := false) rfl rfl (by simp) rfl) hHeld ?_
        try simp only [Act.put, List.setIfInBounds_toArray, List.set_cons_zero, List.set_cons_succ]
        refine skip_one 7 16 rfl rfl (by kernel_rfl) (by kernel_rfl) (by kernel_rfl) (fun _ _ _ h => h) (unwanted (c := false) rfl rfl (by simp) rfl) hHeld ?_
        try simp only [Act.put, List.setIfInBounds_toArray, List.set_cons_zero, List.set_cons_succ]
        refine skip_one 8 17 rfl rfl (by kernel_rfl) (by kernel_rfl) (by kernel_rfl) (fun _ _ _ h => h) (unwanted (c := false) rfl rfl (by simp) rfl) hHeld ?_
        try simp only [Act.put, List.setIfInBounds_toArray, List.set_cons_zero, List.set_cons_succ]
        refine skip_one 9 18 rfl rfl (by kernel_rfl) (by kernel_rfl) (by kernel_rfl) (fun _ _ _ h => h) (unwanted (c := false) rfl rfl (by simp) rfl) hHeld ?_
        try simp only [Act.put, List.setIfInBounds_toArray, List.set_cons_zero, List.set_cons_succ]
        refine skip_one 10 19 rfl rfl (by kernel_rfl) (by kernel_rfl) (by kernel_rfl) (fun _ _ _ h => h) (unwanted (c := false) rfl rfl (by simp) rfl) hHeld ?_
        try simp only [Act.put, List.setIfInBounds_toArray, List.set_cons_zero, List.set_cons_succ]
        refine skip_one 11 20 rfl rfl (by kernel_rfl) (by kernel_rfl) (by kernel_rfl) (fun _ _ _ h => h) (unwanted (c := false) rfl rfl (by simp) rfl) hHeld ?_
        try simp only [Act.put, List.setIfInBounds_toArray, List.set_cons_zero, List.set_cons_succ]
        refine skip_one 12 21 rfl rfl (by kernel_rfl) (by kernel_rfl) (by kernel_rfl) (fun _ _ _ h => h) (unwanted (c := false) rfl rfl (by simp) rfl) hHeld ?_
        try simp only [Act.put, List.setIfInBounds_toArray, List.set_cons_zero, List.set_cons_succ]
        refine skip_one 13 22 rfl rfl (by kernel_rfl) (by kernel_rfl) (by kernel_rfl) (fun _ _ _ h => h) (unwanted (c := false) rfl rfl (by simp) rfl) hHeld ?_
        try simp only [Act.put, List.setIfInBounds_toArray, List.set_cons_zero, List.set_cons_succ]
        refine take_one 14 23 (v := ?_) rfl rfl (by kernel_rfl) (by kernel_rfl) (by kernel_rfl) (fun _ _ _ h => h) (Or.inl ⟨by rfl, ?_⟩) hHeld ?_
        rotate_left
        · intro w' hSw; (try dsimp only at hSw); go_simp; try with_reducible rfl
        try simp only [Act.put, List.setIfInBounds_toArray, List.set_cons_zero, List.set_cons_succ]
        refine wpAnyH_done (by kernel_rfl) ?_ _
        go_wp2
        go_roundw
        case rel => exact ⟨k + 1, by omega, by have := kz.out; go_num, HN, hbel.drew⟩
        case measure => have := kz.out; simp [intOf]; omega
      · obtain ⟨p, hp⟩ : ∃ p, k = p + 1 := ⟨k - 1, by omega⟩
        have hpl : p < xs.length := by omega
        obtain ⟨b1, o1, rfl, l1, hc⟩ := hr k hlt
        obtain ⟨b2, o2, e2, l2, hd⟩ := hr p hpl
        injection e2 with e2
        injection e2 with e2 e3
        subst e2 e3
        have RK : ∀ W : World, Below w.heap.size w W → (W.cell? ⟨b1, o1 + k * 3, none⟩ = some (.int .i64 xs[k].1) ∧ W.cell? ⟨b1, o1 + k * 3 + 1, none⟩ = some (.int .i64 xs[k].2.1) ∧ W.cell? ⟨b1, o1 + k * 3 + 2, none⟩ = some (.int .i64 xs[k].2.2)) ∧ (W.cell? ⟨b1, o1 + p * 3, none⟩ = some (.int .i64 xs[p].1) ∧ W.cell? ⟨b1, o1 + p * 3 + 1, none⟩ = some (.int .i64 xs[p].2.1) ∧ W.cell? ⟨b1, o1 + p * 3 + 2, none⟩ = some (.int .i64 xs[p].2.2)) := fun W hb =>
          ⟨⟨(hb.cell (p := ⟨b1, o1 + k * 3, none⟩) l1).trans (hc 0 _ rfl), (hb.cell (p := ⟨b1, o1 + k * 3 + 1, none⟩) l1).trans (hc 1 _ rfl), (hb.cell (p := ⟨b1, o1 + k * 3 + 2, none⟩) l1).trans (hc 2 _ rfl)⟩,
            ⟨(hb.cell (p := ⟨b1, o1 + p * 3, none⟩) l1).trans (hd 0 _ rfl), (hb.cell (p := ⟨b1, o1 + p * 3 + 1, none⟩) l1).trans (hd 1 _ rfl), (hb.cell (p := ⟨b1, o1 + p * 3 + 2, none⟩) l1).trans (hd 2 _ rfl)⟩⟩
        replace RK : Hid (∀ W : World, Below w.heap.size w W → _ ∧ _) := RK
        have HY : Hid (ltS xs[p] xs[k] → ∀ i (h : i < xs.length), i < k + 1 → ∀ (h0 : 0 < i), ltS (xs[i - 1]'(by omega)) xs[i]) := fun c i h hj h0 => by
          by_cases e : i = k
          · subst e hp; exact c
          · exact hno.out i h (by omega) h0
        have HX : Hid (¬ ltS xs[p] xs[k] → riS xs = false) := fun c => ri_no hlt (by omega) (by subst hp; exact c)
        have kp : (k : Int) > 0 := by omega
        have hps : (k : Int) - 1 = (p : Int) := by omega
        have kz0 : 0 < k := by omega
        have hpl2 : (p : Int) < (xs.length : Int) := by omega
        clear hno hr hc hd l1 l2 hz hp
        generalize xs[p] = y at RK HY HX
        generalize xs[k] = x at RK HY HX
        have hcl : Hid (cmpS (y.1, y.2.1, y.2.2) (x.1, x.2.1, x.2.2) < 0 ↔ ltS y x) := cmp_lt y x
        have hcg : Hid (cmpS (y.1, y.2.1, y.2.2) (x.1, x.2.1, x.2.2) ≥ 0 ↔ ¬ ltS y x) := cmp_ge y x
        go_wp2
        have hB := hbel.drew
        refine wp_region_held_drew (S := (fun Vw => (Vw.cell? ⟨b1, o1 + k * 3, none⟩ = some (.int .i64 x.1) ∧ Vw.cell? ⟨b1, o1 + k * 3 + 1, none⟩ = some (.int .i64 x.2.1) ∧ Vw.cell? ⟨b1, o1 + k * 3 + 2, none⟩ = some (.int .i64 x.2.2)) ∧ (Vw.cell? ⟨b1, o1 + p * 3, none⟩ = some (.int .i64 y.1) ∧ Vw.cell? ⟨b1, o1 + p * 3 + 1, none⟩ = some (.int .i64 y.2.1) ∧ Vw.cell? ⟨b1, o1 + p * 3 + 2, none⟩ = some (.int .i64 y.2.2)))) (by kernel_rfl) (RK.out _ hB) (fun hHeld => ?_)
        refine take_one 0 9 (v := ?_) rfl rfl (by kernel_rfl) (by kernel_rfl) (by kernel_rfl) (fun _ _ _ h => h) (Or.inl ⟨by rfl, ?_⟩) hHeld ?_
        rotate_left
        · intro w' hSw; (try dsimp only at hSw); obtain ⟨⟨k0, k1, k2⟩, ⟨j0, j1, j2⟩⟩ := hSw; go_simp; try with_reducible rfl
        try simp only [Act.put, List.setIfInBounds_toArray, List.set_cons_zero, List.set_cons_succ]
        refine take_one 1 10 (v := .bool true) rfl rfl (by kernel_rfl) (by kernel_rfl) (by kernel_rfl) (fun _ _ _ h => h) (Or.inl ⟨by rfl, ?_⟩) hHeld ?_
        · intro w' hSw; (try dsimp only at hSw); go_simp; all_goals exact kz0
        try simp only [Act.put, List.setIfInBounds_toArray, List.set_cons_zero, List.set_cons_succ]
        refine take_one 2 11 (v := ?_) rfl rfl (by kernel_rfl) (by kernel_rfl) (by kernel_rfl) (fun _ _ _ h => h) (Or.inl ⟨by rfl, ?_⟩) hHeld ?_
        rotate_left
        · intro w' hSw; (try dsimp only at hSw); obtain ⟨⟨k0, k1, k2⟩, ⟨j0, j1, j2⟩⟩ := hSw; go_simp; try with_reducible rfl
        try simp only [Act.put, List.setIfInBounds_toArray, List.set_cons_zero, List.set_cons_succ]
        refine take_one 3 12 (v := ?_) rfl rfl (by kernel_rfl) (by kernel_rfl) (by kernel_rfl) (fun _ _ _ h => h) (Or.inl ⟨by rfl, ?_⟩) hHeld ?_
        rotate_left
        · intro w' hSw; (try dsimp only at hSw); obtain ⟨⟨k0, k1, k2⟩, ⟨j0, j1, j2⟩⟩ := hSw; go_simp; try with_reducible rfl
        try simp only [Act.put, List.setIfInBounds_toArray, List.set_cons_zero, List.set_cons_succ]
        refine take_one 4 13 (v := ?_) rfl rfl (by kernel_rfl) (by kernel_rfl) (by kernel_rfl) (fun _ _ _ h => h) (Or.inl ⟨by rfl, ?_⟩) hHeld ?_
        rotate_left
        · intro w' hSw; (try dsimp only at hSw); obtain ⟨⟨k0, k1, k2⟩, ⟨j0, j1, j2⟩⟩ := hSw; go_simp; try with_reducible rfl
        try simp only [Act.put, List.setIfInBounds_toArray, List.set_cons_zero, List.set_cons_succ]
        refine take_one 5 14 (v := .int .i64 (p : Int)) rfl rfl (by kernel_rfl) (by kernel_rfl) (by kernel_rfl) (fun _ _ _ h => h) (Or.inl ⟨by rfl, ?_⟩) hHeld ?_
        · intro w' hSw; (try dsimp only at hSw); go_simp; all_goals (rw [IntKind.wrap_i64]; omega)
        try simp only [Act.put, List.setIfInBounds_toArray, List.set_cons_zero, List.set_cons_succ]
        refine take_one 6 15 (v := ?_) rfl rfl (by kernel_rfl) (by kernel_rfl) (by kernel_rfl) (fun _ _ _ h => h) (Or.inl ⟨by rfl, ?_⟩) hHeld ?_
        rotate_left
        · intro w' hSw; (try dsimp only at hSw); obtain ⟨⟨k0, k1, k2⟩, ⟨j0, j1, j2⟩⟩ := hSw; go_simp; try with_reducible rfl
        try simp only [Act.put, List.setIfInBounds_toArray, List.set_cons_zero, List.set_cons_succ]
        refine take_one 7 16 (v := ?_) rfl rfl (by kernel_rfl) (by kernel_rfl) (by kernel_rfl) (fun _ _ _ h => h) (Or.inl ⟨by rfl, ?_⟩) hHeld ?_
        rotate_left
        · intro w' hSw; (try dsimp only at hSw); obtain ⟨⟨k0, k1, k2⟩, ⟨j0, j1, j2⟩⟩ := hSw; go_simp; try with_reducible rfl
        try simp only [Act.put, List.setIfInBounds_toArray, List.set_cons_zero, List.set_cons_succ]
        refine take_one 8 17 (v := ?_) rfl rfl (by kernel_rfl) (by kernel_rfl) (by kernel_rfl) (fun _ _ _ h => h) (Or.inl ⟨by rfl, ?_⟩) hHeld ?_
        rotate_left
        · intro w' hSw; (try dsimp only at hSw); obtain ⟨⟨k0, k1, k2⟩, ⟨j0, j1, j2⟩⟩ := hSw; go_simp; try with_reducible rfl
        try simp only [Act.put, List.setIfInBounds_toArray, List.set_cons_zero, List.set_cons_succ]
        refine take_one 9 18 (v := ?_) rfl rfl (by kernel_rfl) (by kernel_rfl) (by kernel_rfl) (fun _ _ _ h => h) (Or.inl ⟨by rfl, ?_⟩) hHeld ?_
        rotate_left
        · intro w' hSw; (try dsimp only at hSw); obtain ⟨⟨k0, k1, k2⟩, ⟨j0, j1, j2⟩⟩ := hSw; go_simp; try with_reducible rfl
        try simp only [Act.put, List.setIfInBounds_toArray, List.set_cons_zero, List.set_cons_succ]
        refine take_one 10 19 (v := ?_) rfl rfl (by kernel_rfl) (by kernel_rfl) (by kernel_rfl) (fun _ _ _ h => h) (Or.inl ⟨by rfl, ?_⟩) hHeld ?_
        rotate_left
        · intro w' hSw; (try dsimp only at hSw); obtain ⟨⟨k0, k1, k2⟩, ⟨j0, j1, j2⟩⟩ := hSw; go_simp; try with_reducible rfl
        try simp only [Act.put, List.setIfInBounds_toArray, List.set_cons_zero, List.set_cons_succ]
        refine take_one 11 20 (v := ?_) rfl rfl (by kernel_rfl) (by kernel_rfl) (by kernel_rfl) (fun _ _ _ h => h) (Or.inl ⟨by rfl, ?_⟩) hHeld ?_
        rotate_left
        · intro w' hSw; (try dsimp only at hSw); obtain ⟨⟨k0, k1, k2⟩, ⟨j0, j1, j2⟩⟩ := hSw; go_simp; try with_reducible rfl
        try simp only [Act.put, List.setIfInBounds_toArray, List.set_cons_zero, List.set_cons_succ]
        refine wpAnyH_ready (rs := [12]) (by kernel_rfl) (by simp) ?_
        refine AllReadyH.cons (i := 12) rfl (fun K hK => ?_) AllReadyH.nil
        go_simp
        refine (compare_is y.1 y.2.1 y.2.2 x.1 x.2.1 x.2.2 _).mono ?_
        rintro en v1 ⟨rfl, hb⟩
        generalize cmpS (y.1, y.2.1, y.2.2) (x.1, x.2.1, x.2.2) = cv at hcl hcg ⊢
        replace hB := hB.trans (hb.mono hB.size)
        clear hb
        go_wp2_with fail
        refine hK.out _ _ (RK.out _ hB) (fun hHeld2 => ?_)
        clear hK K hHeld
        have hHeld := hHeld2
        clear hHeld2
        try simp only [Act.put, List.setIfInBounds_toArray, List.set_cons_zero, List.set_cons_succ]
        refine take_one 13 22 (v := ?_) rfl rfl (by kernel_rfl) (by kernel_rfl) (by kernel_rfl) (fun _ _ _ h => h) (Or.inl ⟨by rfl, ?_⟩) hHeld ?_
        rotate_left
        · intro w' hSw; (try dsimp only at hSw); obtain ⟨⟨k0, k1, k2⟩, ⟨j0, j1, j2⟩⟩ := hSw; go_simp; try with_reducible rfl
        try simp only [Act.put, List.setIfInBounds_toArray, List.set_cons_zero, List.set_cons_succ]
        refine take_one 14 23 (v := ?_) rfl rfl (by kernel_rfl) (by kernel_rfl) (by kernel_rfl) (fun _ _ _ h => h) (Or.inl ⟨by rfl, ?_⟩) hHeld ?_
        rotate_left
        · intro w' hSw; (try dsimp only at hSw); obtain ⟨⟨k0, k1, k2⟩, ⟨j0, j1, j2⟩⟩ := hSw; go_simp; try with_reducible rfl
        try simp only [Act.put, List.setIfInBounds_toArray, List.set_cons_zero, List.set_cons_succ]
        refine wpAnyH_done (by kernel_rfl) ?_ _
        clear hHeld
        by_cases c : cv < 0
        · have HN := HY.out (hcl.out.1 c)
          have c2 : ¬ (cv ≥ 0) := by omega
          replace HN : Hid _ := HN
          clear HY HX hcl hcg RK
          go_wp2
          go_roundw
          case rel => exact ⟨k + 1, by omega, by go_num, HN.out, hB⟩
          case measure => simp [intOf]; omega
        · have HN : Hid (riS xs = false) := HX.out (hcg.out.1 (by omega))
          have c2 : cv ≥ 0 := by omega
          clear HY HX hcl hcg RK
          go_wp2
          go_ret
          exact ⟨by first | (rw [HN.out]; rfl) | rw [HN.out], hB⟩
    · obtain rfl : k = xs.length := by omega
      have HV : Hid (riS xs = true) := ri_yes fun i h h0 => hno.out i h h h0
      clear hno hr
      go_wp2
      go_ret
      exact ⟨by first | (rw [HV.out]; rfl) | rw [HV.out], hbel⟩
end Go.Proofs.Ytkfjpgkpmdbnoaa
