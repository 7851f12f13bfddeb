/- slices.BinarySearchFunc over slots; a row put among others. -/
import Derived.Test.YtkfjpgkpmdbnoaaPa2
import Derived.Test.YtkfjpgkpmdbnoaaCt0
set_option linter.unusedVariables false
set_option maxRecDepth 100000
namespace Go.Proofs.Ytkfjpgkpmdbnoaa
open Go Go.RowKit Go.Joins Own Draw

/-- Where x belongs in a row in order. -/
def SrP (n : Nat) (e : Ending) : Prop := ∃ b : Bool, e = .returned (.tuple #[.int .i64 (n : Int), .bool b])
set_option maxHeartbeats 12800000 in
theorem search_is (a : Option Addr) (cap : Nat) (xs : List TS) (x : TS) (w : World) (hr : FRow 3 cS w a xs) (hl : xs.length ≤ 1048576) (hs : xs.Pairwise leS) :
    Calls Try.prog 59 #[.slice a xs.length cap, vS x, .func (.func 41) #[] #[]] w fun e w' => SrP (cnS xs x) e ∧ Below w.heap.size w w' := by
  have HSP : Hid ((∀ t (ht : t < xs.length), t < cnS xs x → ltS xs[t] x) ∧ (∀ t (ht : t < xs.length), cnS xs x ≤ t → ¬ ltS xs[t] x)) := cn_spec hs x
  have HLE := cn_le xs x
  obtain ⟨x0, x1, x2⟩ := x
  dsimp only [vS]
  generalize cnS xs (x0, x1, x2) = n at HSP HLE
  obtain ⟨V, hV⟩ : ∃ V, w.alloc (.cells #[.int .i64 x0, .int .i64 x1, .int .i64 x2] 31) = V := ⟨_, rfl⟩
  have TV : Blk w.heap.size [.int .i64 x0, .int .i64 x1, .int .i64 x2] V := by rw [← hV]; exact Blk.new _ _ _
  have BV : Below w.heap.size w V := by rw [← hV]; exact (Below.refl _ _).alloc (Nat.le_refl _) _
  go_enter Try.func59, Try.ntmps59
  go_wp2_with fail
  try rw [hV]
  clear hV
  go_loopw [9, 10] (fun iv jv wr => ∃ i j : Nat, i ≤ n ∧ n ≤ j ∧ j ≤ xs.length ∧ iv = .int .i64 (i : Int) ∧ jv = .int .i64 (j : Int) ∧ Blk w.heap.size [.int .i64 x0, .int .i64 x1, .int .i64 x2] wr ∧ Below w.heap.size w wr) (fun iv jv _ => (intOf jv).toNat - (intOf iv).toNat)
  case atStart => exact ⟨0, xs.length, by omega, HLE, Nat.le_refl _, rfl, rfl, TV, BV⟩
  case round =>
    clear TV BV
    obtain ⟨i, j, hi, hj, hjl, rfl, rfl, TV, BV⟩ := hrel
    by_cases hlt : i < j
    · have hlt2 : (i : Int) < (j : Int) := by omega
      obtain ⟨m, hm⟩ : ∃ m : Nat, ((i : Int) + (j : Int)) / 2 = (m : Int) := ⟨(i + j) / 2, by omega⟩
      have hm0 : i ≤ m := by omega
      have hm1 : m < j := by omega
      have hml : m < xs.length := by omega
      have hml2 : (m : Int) < (xs.length : Int) := by omega
      obtain ⟨b1, o1, rfl, l1, hc⟩ := hr m hml
      have RK : Hid (∀ W : World, Below w.heap.size w W → (W.cell? ⟨b1, o1 + m * 3, none⟩ = some (.int .i64 xs[m].1) ∧ W.cell? ⟨b1, o1 + m * 3 + 1, none⟩ = some (.int .i64 xs[m].2.1) ∧ W.cell? ⟨b1, o1 + m * 3 + 2, none⟩ = some (.int .i64 xs[m].2.2))) := fun W hb =>
        ⟨(hb.cell (p := ⟨b1, o1 + m * 3, none⟩) l1).trans (hc 0 _ rfl), (hb.cell (p := ⟨b1, o1 + m * 3 + 1, none⟩) l1).trans (hc 1 _ rfl), (hb.cell (p := ⟨b1, o1 + m * 3 + 2, none⟩) l1).trans (hc 2 _ rfl)⟩
      have H1 : Hid (ltS xs[m] (x0, x1, x2) → m + 1 ≤ n) := fun c => Nat.lt_of_not_le fun h => HSP.out.2 m hml h c
      have H2 : Hid (¬ ltS xs[m] (x0, x1, x2) → n ≤ m) := fun c => Nat.le_of_not_lt fun h => c (HSP.out.1 m hml h)
      clear hc hr l1
      generalize xs[m] = y at RK H1 H2
      have hcl : Hid (cmpS (y.1, y.2.1, y.2.2) (x0, x1, x2) < 0 ↔ ltS y (x0, x1, x2)) := cmp_lt y _
      go_wp2_with fail
      try rw [hm]
      clear hm
      have hB := BV.drew
      have hT := TV.drew
      refine wp_region_held_drew (S := (fun Vw => (Vw.cell? ⟨b1, o1 + m * 3, none⟩ = some (.int .i64 y.1) ∧ Vw.cell? ⟨b1, o1 + m * 3 + 1, none⟩ = some (.int .i64 y.2.1) ∧ Vw.cell? ⟨b1, o1 + m * 3 + 2, none⟩ = some (.int .i64 y.2.2)) ∧ Blk w.heap.size [.int .i64 x0, .int .i64 x1, .int .i64 x2] Vw)) (by kernel_rfl) ⟨RK.out _ hB, hT⟩ (fun hHeld => ?_)
      refine take_one 0 24 (v := ?_) rfl rfl (by kernel_rfl) (by kernel_rfl) (by kernel_rfl) (fun _ _ _ h => h) (Or.inl ⟨by rfl, ?_⟩) hHeld ?_
      rotate_left
      · intro w' hSw; (try dsimp only at hSw); obtain ⟨⟨k0, k1, k2⟩, hA_⟩ := hSw; have j0 := hA_.at 0 rfl; have j1 := hA_.at 1 rfl; have j2 := hA_.at 2 rfl; go_simp; try with_reducible rfl
      try simp only [Act.put, List.setIfInBounds_toArray, List.set_cons_zero, List.set_cons_succ]
      refine take_one 1 25 (v := ?_) rfl rfl (by kernel_rfl) (by kernel_rfl) (by kernel_rfl) (fun _ _ _ h => h) (Or.inl ⟨by rfl, ?_⟩) hHeld ?_
      rotate_left
      · intro w' hSw; (try dsimp only at hSw); obtain ⟨⟨k0, k1, k2⟩, hA_⟩ := hSw; have j0 := hA_.at 0 rfl; have j1 := hA_.at 1 rfl; have j2 := hA_.at 2 rfl; go_simp; try with_reducible rfl
      try simp only [Act.put, List.setIfInBounds_toArray, List.set_cons_zero, List.set_cons_succ]
      refine take_one 2 26 (v := ?_) rfl rfl (by kernel_rfl) (by kernel_rfl) (by kernel_rfl) (fun _ _ _ h => h) (Or.inl ⟨by rfl, ?_⟩) hHeld ?_
      rotate_left
      · intro w' hSw; (try dsimp only at hSw); obtain ⟨⟨k0, k1, k2⟩, hA_⟩ := hSw; have j0 := hA_.at 0 rfl; have j1 := hA_.at 1 rfl; have j2 := hA_.at 2 rfl; go_simp; try with_reducible rfl
      try simp only [Act.put, List.setIfInBounds_toArray, List.set_cons_zero, List.set_cons_succ]
      refine take_one 3 27 (v := ?_) rfl rfl (by kernel_rfl) (by kernel_rfl) (by kernel_rfl) (fun _ _ _ h => h) (Or.inl ⟨by rfl, ?_⟩) hHeld ?_
      rotate_left
      · intro w' hSw; (try dsimp only at hSw); obtain ⟨⟨k0, k1, k2⟩, hA_⟩ := hSw; have j0 := hA_.at 0 rfl; have j1 := hA_.at 1 rfl; have j2 := hA_.at 2 rfl; go_simp; try with_reducible rfl
      try simp only [Act.put, List.setIfInBounds_toArray, List.set_cons_zero, List.set_cons_succ]
      refine take_one 4 28 (v := ?_) rfl rfl (by kernel_rfl) (by kernel_rfl) (by kernel_rfl) (fun _ _ _ h => h) (Or.inl ⟨by rfl, ?_⟩) hHeld ?_
      rotate_left
      · intro w' hSw; (try dsimp only at hSw); obtain ⟨⟨k0, k1, k2⟩, hA_⟩ := hSw; have j0 := hA_.at 0 rfl; have j1 := hA_.at 1 rfl; have j2 := hA_.at 2 rfl; go_simp; try with_reducible rfl
      try simp only [Act.put, List.setIfInBounds_toArray, List.set_cons_zero, List.set_cons_succ]
      refine take_one 5 29 (v := ?_) rfl rfl (by kernel_rfl) (by kernel_rfl) (by kernel_rfl) (fun _ _ _ h => h) (Or.inl ⟨by rfl, ?_⟩) hHeld ?_
      rotate_left
      · intro w' hSw; (try dsimp only at hSw); obtain ⟨⟨k0, k1, k2⟩, hA_⟩ := hSw; have j0 := hA_.at 0 rfl; have j1 := hA_.at 1 rfl; have j2 := hA_.at 2 rfl; go_simp; try with_reducible rfl
      try simp only [Act.put, List.setIfInBounds_toArray, List.set_cons_zero, List.set_cons_succ]
      refine wpAnyH_ready (rs := [6]) (by kernel_rfl) (by simp) ?_
      refine AllReadyH.cons (i := 6) rfl (fun K hK => ?_) AllReadyH.nil
      go_simp
      refine (compare_is y.1 y.2.1 y.2.2 x0 x1 x2 _).mono ?_
      rintro en v1 ⟨rfl, hb⟩
      generalize cmpS (y.1, y.2.1, y.2.2) (x0, x1, x2) = cv at hcl ⊢
      replace hT := hT.later hb hT.lt
      replace hB := hB.trans (hb.mono hB.size)
      clear hb
      go_wp2_with fail
      refine hK.out _ _ ⟨RK.out _ hB, hT⟩ (fun hHeld2 => ?_)
      clear hK K hHeld
      have hHeld := hHeld2
      clear hHeld2
      try simp only [Act.put, List.setIfInBounds_toArray, List.set_cons_zero, List.set_cons_succ]
      refine take_one 7 31 (v := ?_) rfl rfl (by kernel_rfl) (by kernel_rfl) (by kernel_rfl) (fun _ _ _ h => h) (Or.inl ⟨by rfl, ?_⟩) hHeld ?_
      rotate_left
      · intro w' hSw; (try dsimp only at hSw); obtain ⟨⟨k0, k1, k2⟩, hA_⟩ := hSw; have j0 := hA_.at 0 rfl; have j1 := hA_.at 1 rfl; have j2 := hA_.at 2 rfl; go_simp; try with_reducible rfl
      try simp only [Act.put, List.setIfInBounds_toArray, List.set_cons_zero, List.set_cons_succ]
      refine wpAnyH_done (by kernel_rfl) ?_ _
      clear hHeld
      by_cases c : cv < 0
      · have hn := H1.out (hcl.out.1 c)
        clear hcl H1 H2 RK
        go_wp2
        go_roundw
        case rel => exact ⟨m + 1, j, hn, hj, hjl, by go_num, rfl, hT, hB⟩
        case measure => simp [intOf]; omega
      · have hn := H2.out (fun h => c (hcl.out.2 h))
        clear hcl H1 H2 RK
        go_wp2
        go_roundw
        case rel => exact ⟨i, m, hi, hn, by omega, rfl, by go_num, hT, hB⟩
        case measure => simp [intOf]; omega
    · obtain rfl : i = n := by omega
      obtain rfl : j = i := by omega
      have hlt2 : ¬ ((j : Int) < (j : Int)) := by omega
      by_cases hjl2 : j < xs.length
      · have hjl3 : (j : Int) < (xs.length : Int) := by omega
        obtain ⟨b1, o1, rfl, l1, hc⟩ := hr j hjl2
        have RK : Hid (∀ W : World, Below w.heap.size w W → (W.cell? ⟨b1, o1 + j * 3, none⟩ = some (.int .i64 xs[j].1) ∧ W.cell? ⟨b1, o1 + j * 3 + 1, none⟩ = some (.int .i64 xs[j].2.1) ∧ W.cell? ⟨b1, o1 + j * 3 + 2, none⟩ = some (.int .i64 xs[j].2.2))) := fun W hb =>
          ⟨(hb.cell (p := ⟨b1, o1 + j * 3, none⟩) l1).trans (hc 0 _ rfl), (hb.cell (p := ⟨b1, o1 + j * 3 + 1, none⟩) l1).trans (hc 1 _ rfl), (hb.cell (p := ⟨b1, o1 + j * 3 + 2, none⟩) l1).trans (hc 2 _ rfl)⟩
        clear hc hr l1 HSP
        generalize xs[j] = y at RK
        go_wp2_with fail
        have hB := BV.drew
        have hT := TV.drew
        refine wp_region_held_drew (S := (fun Vw => (Vw.cell? ⟨b1, o1 + j * 3, none⟩ = some (.int .i64 y.1) ∧ Vw.cell? ⟨b1, o1 + j * 3 + 1, none⟩ = some (.int .i64 y.2.1) ∧ Vw.cell? ⟨b1, o1 + j * 3 + 2, none⟩ = some (.int .i64 y.2.2)) ∧ Blk w.heap.size [.int .i64 x0, .int .i64 x1, .int .i64 x2] Vw)) (by kernel_rfl) ⟨RK.out _ hB, hT⟩ (fun hHeld => ?_)
        refine take_one 0 35 (v := ?_) rfl rfl (by kernel_rfl) (by kernel_rfl) (by kernel_rfl) (fun _ _ _ h => h) (Or.inl ⟨by rfl, ?_⟩) hHeld ?_
        rotate_left
        · intro w' hSw; (try dsimp only at hSw); obtain ⟨⟨k0, k1, k2⟩, hA_⟩ := hSw; have j0 := hA_.at 0 rfl; have j1 := hA_.at 1 rfl; have j2 := hA_.at 2 rfl; go_simp; try with_reducible rfl
        try simp only [Act.put, List.setIfInBounds_toArray, List.set_cons_zero, List.set_cons_succ]
        refine take_one 1 36 (v := ?_) rfl rfl (by kernel_rfl) (by kernel_rfl) (by kernel_rfl) (fun _ _ _ h => h) (Or.inl ⟨by rfl, ?_⟩) hHeld ?_
        rotate_left
        · intro w' hSw; (try dsimp only at hSw); obtain ⟨⟨k0, k1, k2⟩, hA_⟩ := hSw; have j0 := hA_.at 0 rfl; have j1 := hA_.at 1 rfl; have j2 := hA_.at 2 rfl; go_simp; try with_reducible rfl
        try simp only [Act.put, List.setIfInBounds_toArray, List.set_cons_zero, List.set_cons_succ]
        refine take_one 2 37 (v := ?_) rfl rfl (by kernel_rfl) (by kernel_rfl) (by kernel_rfl) (fun _ _ _ h => h) (Or.inl ⟨by rfl, ?_⟩) hHeld ?_
        rotate_left
        · intro w' hSw; (try dsimp only at hSw); obtain ⟨⟨k0, k1, k2⟩, hA_⟩ := hSw; have j0 := hA_.at 0 rfl; have j1 := hA_.at 1 rfl; have j2 := hA_.at 2 rfl; go_simp; try with_reducible rfl
        try simp only [Act.put, List.setIfInBounds_toArray, List.set_cons_zero, List.set_cons_succ]
        refine take_one 3 38 (v := ?_) rfl rfl (by kernel_rfl) (by kernel_rfl) (by kernel_rfl) (fun _ _ _ h => h) (Or.inl ⟨by rfl, ?_⟩) hHeld ?_
        rotate_left
        · intro w' hSw; (try dsimp only at hSw); obtain ⟨⟨k0, k1, k2⟩, hA_⟩ := hSw; have j0 := hA_.at 0 rfl; have j1 := hA_.at 1 rfl; have j2 := hA_.at 2 rfl; go_simp; try with_reducible rfl
        try simp only [Act.put, List.setIfInBounds_toArray, List.set_cons_zero, List.set_cons_succ]
        refine take_one 4 39 (v := ?_) rfl rfl (by kernel_rfl) (by kernel_rfl) (by kernel_rfl) (fun _ _ _ h => h) (Or.inl ⟨by rfl, ?_⟩) hHeld ?_
        rotate_left
        · intro w' hSw; (try dsimp only at hSw); obtain ⟨⟨k0, k1, k2⟩, hA_⟩ := hSw; have j0 := hA_.at 0 rfl; have j1 := hA_.at 1 rfl; have j2 := hA_.at 2 rfl; go_simp; try with_reducible rfl
        try simp only [Act.put, List.setIfInBounds_toArray, List.set_cons_zero, List.set_cons_succ]
        refine take_one 5 40 (v := ?_) rfl rfl (by kernel_rfl) (by kernel_rfl) (by kernel_rfl) (fun _ _ _ h => h) (Or.inl ⟨by rfl, ?_⟩) hHeld ?_
        rotate_left
        · intro w' hSw; (try dsimp only at hSw); obtain ⟨⟨k0, k1, k2⟩, hA_⟩ := hSw; have j0 := hA_.at 0 rfl; have j1 := hA_.at 1 rfl; have j2 := hA_.at 2 rfl; go_simp; try with_reducible rfl
        try simp only [Act.put, List.setIfInBounds_toArray, List.set_cons_zero, List.set_cons_succ]
        refine take_one 6 41 (v := ?_) rfl rfl (by kernel_rfl) (by kernel_rfl) (by kernel_rfl) (fun _ _ _ h => h) (Or.inl ⟨by rfl, ?_⟩) hHeld ?_
        rotate_left
        · intro w' hSw; (try dsimp only at hSw); obtain ⟨⟨k0, k1, k2⟩, hA_⟩ := hSw; have j0 := hA_.at 0 rfl; have j1 := hA_.at 1 rfl; have j2 := hA_.at 2 rfl; go_simp; try with_reducible rfl
        try simp only [Act.put, List.setIfInBounds_toArray, List.set_cons_zero, List.set_cons_succ]
        refine take_one 7 42 (v := ?_) rfl rfl (by kernel_rfl) (by kernel_rfl) (by kernel_rfl) (fun _ _ _ h => h) (Or.inl ⟨by rfl, ?_⟩) hHeld ?_
        rotate_left
        · intro w' hSw; (try dsimp only at hSw); obtain ⟨⟨k0, k1, k2⟩, hA_⟩ := hSw; have j0 := hA_.at 0 rfl; have j1 := hA_.at 1 rfl; have j2 := hA_.at 2 rfl; go_simp; try with_reducible rfl
        try simp only [Act.put, List.setIfInBounds_toArray, List.set_cons_zero, List.set_cons_succ]
        refine take_one 8 43 (v := ?_) rfl rfl (by kernel_rfl) (by kernel_rfl) (by kernel_rfl) (fun _ _ _ h => h) (Or.inl ⟨by rfl, ?_⟩) hHeld ?_
        rotate_left
        · intro w' hSw; (try dsimp only at hSw); obtain ⟨⟨k0, k1, k2⟩, hA_⟩ := hSw; have j0 := hA_.at 0 rfl; have j1 := hA_.at 1 rfl; have j2 := hA_.at 2 rfl; go_simp; try with_reducible rfl
        try simp only [Act.put, List.setIfInBounds_toArray, List.set_cons_zero, List.set_cons_succ]
        refine take_one 9 44 (v := ?_) rfl rfl (by kernel_rfl) (by kernel_rfl) (by kernel_rfl) (fun _ _ _ h => h) (Or.inl ⟨by rfl, ?_⟩) hHeld ?_
        rotate_left
        · intro w' hSw; (try dsimp only at hSw); obtain ⟨⟨k0, k1, k2⟩, hA_⟩ := hSw; have j0 := hA_.at 0 rfl; have j1 := hA_.at 1 rfl; have j2 := hA_.at 2 rfl; go_simp; try with_reducible rfl
        try simp only [Act.put, List.setIfInBounds_toArray, List.set_cons_zero, List.set_cons_succ]
        refine take_one 10 45 (v := ?_) rfl rfl (by kernel_rfl) (by kernel_rfl) (by kernel_rfl) (fun _ _ _ h => h) (Or.inl ⟨by rfl, ?_⟩) hHeld ?_
        rotate_left
        · intro w' hSw; (try dsimp only at hSw); obtain ⟨⟨k0, k1, k2⟩, hA_⟩ := hSw; have j0 := hA_.at 0 rfl; have j1 := hA_.at 1 rfl; have j2 := hA_.at 2 rfl; go_simp; try with_reducible rfl
        try simp only [Act.put, List.setIfInBounds_toArray, List.set_cons_zero, List.set_cons_succ]
        refine wpAnyH_ready (rs := [11]) (by kernel_rfl) (by simp) ?_
        refine AllReadyH.cons (i := 11) rfl (fun K hK => ?_) AllReadyH.nil
        go_simp
        refine (compare_is y.1 y.2.1 y.2.2 x0 x1 x2 _).mono ?_
        rintro en v1 ⟨rfl, hb⟩
        generalize cmpS (y.1, y.2.1, y.2.2) (x0, x1, x2) = cv
        replace hT := hT.later hb hT.lt
        replace hB := hB.trans (hb.mono hB.size)
        clear hb
        go_wp2_with fail
        refine hK.out _ _ ⟨RK.out _ hB, hT⟩ (fun hHeld2 => ?_)
        clear hK K hHeld
        have hHeld := hHeld2
        clear hHeld2
        try simp only [Act.put, List.setIfInBounds_toArray, List.set_cons_zero, List.set_cons_succ]
        refine take_one 12 47 (v := ?_) rfl rfl (by kernel_rfl) (by kernel_rfl) (by kernel_rfl) (fun _ _ _ h => h) (Or.inl ⟨by rfl, ?_⟩) hHeld ?_
        rotate_left
        · intro w' hSw; (try dsimp only at hSw); obtain ⟨⟨k0, k1, k2⟩, hA_⟩ := hSw; have j0 := hA_.at 0 rfl; have j1 := hA_.at 1 rfl; have j2 := hA_.at 2 rfl; go_simp; try with_reducible rfl
        try simp only [Act.put, List.setIfInBounds_toArray, List.set_cons_zero, List.set_cons_succ]
        refine take_one 13 48 (v := ?_) rfl rfl (by kernel_rfl) (by kernel_rfl) (by kernel_rfl) (fun _ _ _ h => h) (Or.inl ⟨by rfl, ?_⟩) hHeld ?_
        rotate_left
        · intro w' hSw; (try dsimp only at hSw); obtain ⟨⟨k0, k1, k2⟩, hA_⟩ := hSw; have j0 := hA_.at 0 rfl; have j1 := hA_.at 1 rfl; have j2 := hA_.at 2 rfl; go_simp; try with_reducible rfl
        try simp only [Act.put, List.setIfInBounds_toArray, List.set_cons_zero, List.set_cons_succ]
        refine take_one 14 6 (v := ?_) rfl rfl (by kernel_rfl) (by kernel_rfl) (by kernel_rfl) (fun _ _ _ h => h) (Or.inl ⟨by rfl, ?_⟩) hHeld ?_
        rotate_left
        · intro w' hSw; (try dsimp only at hSw); obtain ⟨⟨k0, k1, k2⟩, hA_⟩ := hSw; have j0 := hA_.at 0 rfl; have j1 := hA_.at 1 rfl; have j2 := hA_.at 2 rfl; go_simp; try with_reducible rfl
        try simp only [Act.put, List.setIfInBounds_toArray, List.set_cons_zero, List.set_cons_succ]
        refine take_one 15 7 (v := ?_) rfl rfl (by kernel_rfl) (by kernel_rfl) (by kernel_rfl) (fun _ _ _ h => h) (Or.inl ⟨by rfl, ?_⟩) hHeld ?_
        rotate_left
        · intro w' hSw; (try dsimp only at hSw); obtain ⟨⟨k0, k1, k2⟩, hA_⟩ := hSw; have j0 := hA_.at 0 rfl; have j1 := hA_.at 1 rfl; have j2 := hA_.at 2 rfl; go_simp; try with_reducible rfl
        try simp only [Act.put, List.setIfInBounds_toArray, List.set_cons_zero, List.set_cons_succ]
        refine wpAnyH_done (by kernel_rfl) ?_ _
        clear hHeld RK
        go_wp2
        go_ret2
        exact ⟨⟨_, rfl⟩, hB⟩
      · have hjl3 : ¬ ((j : Int) < (xs.length : Int)) := by omega
        clear hr HSP
        go_wp2_with fail
        refine wp_region_held_drew (S := (fun _ => True)) (by kernel_rfl) trivial (fun hHeld => ?_)
        refine take_one 0 35 (v := ?_) rfl rfl (by kernel_rfl) (by kernel_rfl) (by kernel_rfl) (fun _ _ _ h => h) (Or.inl ⟨by rfl, ?_⟩) hHeld ?_
        rotate_left
        · intro w' hSw; (try dsimp only at hSw); go_simp; try with_reducible rfl
        try simp only [Act.put, List.setIfInBounds_toArray, List.set_cons_zero, List.set_cons_succ]
        refine take_one 1 36 (v := ?_) rfl rfl (by kernel_rfl) (by kernel_rfl) (by kernel_rfl) (fun _ _ _ h => h) (Or.inl ⟨by rfl, ?_⟩) hHeld ?_
        rotate_left
        · intro w' hSw; (try dsimp only at hSw); go_simp; try with_reducible rfl
        try simp only [Act.put, List.setIfInBounds_toArray, List.set_cons_zero, List.set_cons_succ]
        refine take_one 2 37 (v := ?_) rfl rfl (by kernel_rfl) (by kernel_rfl) (by kernel_rfl) (fun _ _ _ h => h) (Or.inl ⟨by rfl, ?_⟩) hHeld ?_
        rotate_left
        · intro w' hSw; (try dsimp only at hSw); go_simp; try with_reducible rfl
        try simp only [Act.put, List.setIfInBounds_toArray, List.set_cons_zero, List.set_cons_succ]
        refine take_one 3 38 (v := ?_) rfl rfl (by kernel_rfl) (by kernel_rfl) (by kernel_rfl) (fun _ _ _ h => h) (Or.inl ⟨by rfl, ?_⟩) hHeld ?_
        rotate_left
        · intro w' hSw; (try dsimp only at hSw); go_simp; try with_reducible rfl
        try simp only [Act.put, List.setIfInBounds_toArray, List.set_cons_zero, List.set_cons_succ]
        refine take_one 4 39 (v := ?_) rfl rfl (by kernel_rfl) (by kernel_rfl) (by kernel_rfl) (fun _ _ _ h => h) (Or.inl ⟨by rfl, ?_⟩) hHeld ?_
        rotate_left
        · intro w' hSw; (try dsimp only at hSw); go_simp; try with_reducible rfl
        try simp only [Act.put, List.setIfInBounds_toArray, List.set_cons_zero, List.set_cons_succ]
        refine skip_one 5 40 rfl rfl (by kernel_rfl) (by kernel_rfl) (by kernel_rfl) (fun _ _ _ h => h) (unwanted (c := false) rfl rfl (by simp) rfl) hHeld ?_
        try simp only [Act.put, List.setIfInBounds_toArray, List.set_cons_zero, List.set_cons_succ]
        refine skip_one 6 41 rfl rfl (by kernel_rfl) (by kernel_rfl) (by kernel_rfl) (fun _ _ _ h => h) (unwanted (c := false) rfl rfl (by simp) rfl) hHeld ?_
        try simp only [Act.put, List.setIfInBounds_toArray, List.set_cons_zero, List.set_cons_succ]
        refine skip_one 7 42 rfl rfl (by kernel_rfl) (by kernel_rfl) (by kernel_rfl) (fun _ _ _ h => h) (unwanted (c := false) rfl rfl (by simp) rfl) hHeld ?_
        try simp only [Act.put, List.setIfInBounds_toArray, List.set_cons_zero, List.set_cons_succ]
        refine skip_one 8 43 rfl rfl (by kernel_rfl) (by kernel_rfl) (by kernel_rfl) (fun _ _ _ h => h) (unwanted (c := false) rfl rfl (by simp) rfl) hHeld ?_
        try simp only [Act.put, List.setIfInBounds_toArray, List.set_cons_zero, List.set_cons_succ]
        refine skip_one 9 44 rfl rfl (by kernel_rfl) (by kernel_rfl) (by kernel_rfl) (fun _ _ _ h => h) (unwanted (c := false) rfl rfl (by simp) rfl) hHeld ?_
        try simp only [Act.put, List.setIfInBounds_toArray, List.set_cons_zero, List.set_cons_succ]
        refine skip_one 10 45 rfl rfl (by kernel_rfl) (by kernel_rfl) (by kernel_rfl) (fun _ _ _ h => h) (unwanted (c := false) rfl rfl (by simp) rfl) hHeld ?_
        try simp only [Act.put, List.setIfInBounds_toArray, List.set_cons_zero, List.set_cons_succ]
        refine skip_one 11 46 rfl rfl (by kernel_rfl) (by kernel_rfl) (by kernel_rfl) (fun _ _ _ h => h) (unwanted (c := false) rfl rfl (by simp) rfl) hHeld ?_
        try simp only [Act.put, List.setIfInBounds_toArray, List.set_cons_zero, List.set_cons_succ]
        refine skip_one 12 47 rfl rfl (by kernel_rfl) (by kernel_rfl) (by kernel_rfl) (fun _ _ _ h => h) (unwanted (c := false) rfl rfl (by simp) rfl) hHeld ?_
        try simp only [Act.put, List.setIfInBounds_toArray, List.set_cons_zero, List.set_cons_succ]
        refine take_one 13 48 (v := ?_) rfl rfl (by kernel_rfl) (by kernel_rfl) (by kernel_rfl) (fun _ _ _ h => h) (Or.inl ⟨by rfl, ?_⟩) hHeld ?_
        rotate_left
        · intro w' hSw; (try dsimp only at hSw); go_simp; try with_reducible rfl
        try simp only [Act.put, List.setIfInBounds_toArray, List.set_cons_zero, List.set_cons_succ]
        refine take_one 14 6 (v := ?_) rfl rfl (by kernel_rfl) (by kernel_rfl) (by kernel_rfl) (fun _ _ _ h => h) (Or.inl ⟨by rfl, ?_⟩) hHeld ?_
        rotate_left
        · intro w' hSw; (try dsimp only at hSw); go_simp; try with_reducible rfl
        try simp only [Act.put, List.setIfInBounds_toArray, List.set_cons_zero, List.set_cons_succ]
        refine take_one 15 7 (v := ?_) rfl rfl (by kernel_rfl) (by kernel_rfl) (by kernel_rfl) (fun _ _ _ h => h) (Or.inl ⟨by rfl, ?_⟩) hHeld ?_
        rotate_left
        · intro w' hSw; (try dsimp only at hSw); go_simp; try with_reducible rfl
        try simp only [Act.put, List.setIfInBounds_toArray, List.set_cons_zero, List.set_cons_succ]
        refine wpAnyH_done (by kernel_rfl) ?_ _
        clear hHeld
        go_wp2
        go_ret2
        exact ⟨⟨_, rfl⟩, BV.drew⟩
end Go.Proofs.Ytkfjpgkpmdbnoaa
