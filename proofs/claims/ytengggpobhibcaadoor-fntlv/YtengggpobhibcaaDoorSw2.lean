/- The program: a node alone. -/
import Derived.Test.YtengggpobhibcaaDoorSw1
import Derived.Test.YtengggpobhibcaaDoorIvar
set_option linter.unusedVariables false
set_option maxRecDepth 100000
namespace Go.Proofs.YtengggpobhibcaaDoor.Nd
open Go Go.RowKit Go.Joins Own Draw Var

theorem tag_is (n : Int) (w : World) : Calls Tryd.prog 41 #[.int .i64 n] w fun e w' => e = .returned (.bool (decide (1 ≤ n) && decide (n ≤ 100))) ∧ w = w' := by
  by_cases h0 : 1 ≤ n
  · by_cases h1 : n ≤ 100
    · go_enter Tryd.func41, Tryd.ntmps41
      go_wp2
      go_ret
      exact ⟨by simp [h0, h1], rfl⟩
    · go_enter Tryd.func41, Tryd.ntmps41
      go_wp2
      go_ret
      exact ⟨by simp [h1], rfl⟩
  · go_enter Tryd.func41, Tryd.ntmps41
    go_wp2
    go_ret
    exact ⟨by rw [decide_eq_false (by omega)]; rfl, rfl⟩
set_option maxRecDepth 100000 in
set_option maxHeartbeats 3200000 in
theorem aro_is (x : TT) (t : ByteArray) (w : World) (hx : 1 ≤ x.1 ∧ x.1 ≤ 100) (ht : t.size ≤ 1000000) : Calls Tryd.prog 42 #[.agg #[.int .i64 x.1, .bool x.2.1, .string x.2.2.1, .slice x.2.2.2.1 x.2.2.2.2.2.length x.2.2.2.2.1], .string t] w fun e w' => e = .returned (.string (txS (stT x) t)) ∧ Below w.heap.size w w' := by
  obtain ⟨A1, hA1⟩ : ∃ Y, w.alloc (.cells #[.int .i64 x.1, .bool x.2.1, .string x.2.2.1, .slice x.2.2.2.1 x.2.2.2.2.2.length x.2.2.2.2.1] 61) = Y := ⟨_, rfl⟩
  have TX1 : Blk w.heap.size [.int .i64 x.1, .bool x.2.1, .string x.2.2.1, .slice x.2.2.2.1 x.2.2.2.2.2.length x.2.2.2.2.1] A1 := by rw [← hA1]; exact Blk.new _ _ _
  have B1 : Below w.heap.size w A1 := by rw [← hA1]; exact (Below.refl _ _).alloc (Nat.le_refl _) _
  have sA : w.heap.size < A1.heap.size := TX1.lt
  have p0 := TX1.at 0 rfl
  have p1 := TX1.at 1 rfl
  have hv7 : (varOf (t.size : Int)).size ≤ 7 := by rw [va_of (by omega), vaS_size]; exact varB_seven _ (by omega)
  have hs1 : ¬ 9223372036854775807 < 1 + (varOf (t.size : Int)).size := by have := hv7; omega
  have hs2 : ¬ 9223372036854775807 < 1 + (varOf (t.size : Int)).size + t.size := by have := hv7; omega
  go_enter Tryd.func42, Tryd.ntmps42
  cases hl : x.2.1 with
  | true =>
    rw [hl] at p1
    rw [hl] at hA1
    go_wp2
    try rw [hA1]
    refine wp_region_held_drew (S := (fun _ : World => True)) (by kernel_rfl) trivial (fun hHeld => ?_)
    refine take_one 0 13 (v := ?_) rfl rfl (by kernel_rfl) (by kernel_rfl) (by kernel_rfl) (fun _ _ _ h => h) (Or.inl ⟨by rfl, ?_⟩) hHeld ?_
    rotate_left
    · intro w' hSw; (try dsimp only at hSw); go_simp; try with_reducible rfl
    try simp only [Act.put, List.setIfInBounds_toArray, List.set_cons_zero, List.set_cons_succ]
    refine take_one 1 14 (v := ?_) rfl rfl (by kernel_rfl) (by kernel_rfl) (by kernel_rfl) (fun _ _ _ h => h) (Or.inl ⟨by rfl, ?_⟩) hHeld ?_
    rotate_left
    · intro w' hSw; (try dsimp only at hSw); go_simp; try with_reducible rfl
    try simp only [Act.put, List.setIfInBounds_toArray, List.set_cons_zero, List.set_cons_succ]
    refine take_one 4 17 (v := ?_) rfl rfl (by kernel_rfl) (by kernel_rfl) (by kernel_rfl) (fun _ _ _ h => h) (Or.inl ⟨by rfl, ?_⟩) hHeld ?_
    rotate_left
    · intro w' hSw; (try dsimp only at hSw); go_simp; try with_reducible rfl
    try simp only [Act.put, List.setIfInBounds_toArray, List.set_cons_zero, List.set_cons_succ]
    refine take_one 5 18 (v := ?_) rfl rfl (by kernel_rfl) (by kernel_rfl) (by kernel_rfl) (fun _ _ _ h => h) (Or.inl ⟨by rfl, ?_⟩) hHeld ?_
    rotate_left
    · intro w' hSw; (try dsimp only at hSw); go_simp; try with_reducible rfl
    try simp only [Act.put, List.setIfInBounds_toArray, List.set_cons_zero, List.set_cons_succ]
    refine take_one 8 21 (v := ?_) rfl rfl (by kernel_rfl) (by kernel_rfl) (by kernel_rfl) (fun _ _ _ h => h) (Or.inl ⟨by rfl, ?_⟩) hHeld ?_
    rotate_left
    · intro w' hSw; (try dsimp only at hSw); go_simp; try with_reducible rfl
    try simp only [Act.put, List.setIfInBounds_toArray, List.set_cons_zero, List.set_cons_succ]
    refine wpAnyH_ready (rs := [2, 6]) (by kernel_rfl) (by simp) ?_
    refine AllReadyH.cons (i := 2) rfl (fun K hK => ?_) (AllReadyH.cons (i := 6) rfl (fun K hK => ?_) AllReadyH.nil)
    ·
      go_simp
      refine hK.out _ _ trivial (fun hHeld2 => ?_)
      clear hK K hHeld
      have hHeld := hHeld2
      clear hHeld2
      try simp only [Act.put, List.setIfInBounds_toArray, List.set_cons_zero, List.set_cons_succ]
      refine wpAnyH_ready (rs := [3, 6]) (by kernel_rfl) (by simp) ?_
      refine AllReadyH.cons (i := 3) rfl (fun K hK => ?_) (AllReadyH.cons (i := 6) rfl (fun K hK => ?_) AllReadyH.nil)
      ·
        have hcc : ((A1.alloc (.cells #[.int .u8 (IntKind.u8.wrap x.1)] 5)).drew).cell? ⟨A1.heap.size, 0, none⟩ = some (.int .u8 (IntKind.u8.wrap x.1)) := by simp
        have hcv2 := conv_at (P := Tryd.prog) 22 9 5 Tryd.underlying22 Tryd.underlying5 Tryd.underlying9 ((A1.alloc (.cells #[.int .u8 (IntKind.u8.wrap x.1)] 5)).drew) _ _ hcc
        go_simp
        refine hK.out _ _ trivial (fun hHeld2 => ?_)
        clear hK K hHeld
        have hHeld := hHeld2
        clear hHeld2
        try simp only [Act.put, List.setIfInBounds_toArray, List.set_cons_zero, List.set_cons_succ]
        refine wpAnyH_ready (rs := [6]) (by kernel_rfl) (by simp) ?_
        refine AllReadyH.cons (i := 6) rfl (fun K hK => ?_) AllReadyH.nil
        go_simp
        refine (impl_var _ _).mono ?_
        rintro e w2 ⟨rfl, hb⟩
        go_wp2_with fail
        refine hK.out _ _ trivial (fun hHeld2 => ?_)
        clear hK K hHeld
        have hHeld := hHeld2
        clear hHeld2
        try simp only [Act.put, List.setIfInBounds_toArray, List.set_cons_zero, List.set_cons_succ]
        refine take_one 7 20 (v := ?_) rfl rfl (by kernel_rfl) (by kernel_rfl) (by kernel_rfl) (fun _ _ _ h => h) (Or.inl ⟨by rfl, ?_⟩) hHeld ?_
        rotate_left
        · intro w' hSw; (try dsimp only at hSw); go_simp; try with_reducible rfl
        try simp only [Act.put, List.setIfInBounds_toArray, List.set_cons_zero, List.set_cons_succ]
        refine take_one 9 22 (v := ?_) rfl rfl (by kernel_rfl) (by kernel_rfl) (by kernel_rfl) (fun _ _ _ h => h) (Or.inl ⟨by rfl, ?_⟩) hHeld ?_
        rotate_left
        · intro w' hSw; (try dsimp only at hSw); go_simp; try with_reducible rfl
        try simp only [Act.put, List.setIfInBounds_toArray, List.set_cons_zero, List.set_cons_succ]
        refine take_one 10 4 (v := ?_) rfl rfl (by kernel_rfl) (by kernel_rfl) (by kernel_rfl) (fun _ _ _ h => h) (Or.inl ⟨by rfl, ?_⟩) hHeld ?_
        rotate_left
        · intro w' hSw; (try dsimp only at hSw); go_simp; try with_reducible rfl
        try simp only [Act.put, List.setIfInBounds_toArray, List.set_cons_zero, List.set_cons_succ]
        refine wpAnyH_done (by kernel_rfl) ?_ _
        go_wp2
        go_ret
        exact ⟨congrArg (fun t => Ending.returned (.string t)) (tx_val (x := stT x) (v := x.1) (by rw [if_pos (show (stT x).2.1 = true from hl)]; rfl) (by omega) (by omega)), ((((B1).alloc (Nat.le_of_lt sA) _).drew).trans (hb.mono (by simp; omega)))⟩
      ·
        go_simp
        refine (impl_var _ _).mono ?_
        rintro e w2 ⟨rfl, hb⟩
        go_wp2_with fail
        refine hK.out _ _ trivial (fun hHeld2 => ?_)
        clear hK K hHeld
        have hHeld := hHeld2
        clear hHeld2
        try simp only [Act.put, List.setIfInBounds_toArray, List.set_cons_zero, List.set_cons_succ]
        refine wpAnyH_ready (rs := [3]) (by kernel_rfl) (by simp) ?_
        refine AllReadyH.cons (i := 3) rfl (fun K hK => ?_) AllReadyH.nil
        have hcc : (w2).cell? ⟨A1.heap.size, 0, none⟩ = some (.int .u8 (IntKind.u8.wrap x.1)) := (hb.cell (p := ⟨A1.heap.size, 0, none⟩) (by simp)).trans (by simp)
        have hcv2 := conv_at (P := Tryd.prog) 22 9 5 Tryd.underlying22 Tryd.underlying5 Tryd.underlying9 (w2) _ _ hcc
        go_simp
        refine hK.out _ _ trivial (fun hHeld2 => ?_)
        clear hK K hHeld
        have hHeld := hHeld2
        clear hHeld2
        try simp only [Act.put, List.setIfInBounds_toArray, List.set_cons_zero, List.set_cons_succ]
        refine take_one 7 20 (v := ?_) rfl rfl (by kernel_rfl) (by kernel_rfl) (by kernel_rfl) (fun _ _ _ h => h) (Or.inl ⟨by rfl, ?_⟩) hHeld ?_
        rotate_left
        · intro w' hSw; (try dsimp only at hSw); go_simp; try with_reducible rfl
        try simp only [Act.put, List.setIfInBounds_toArray, List.set_cons_zero, List.set_cons_succ]
        refine take_one 9 22 (v := ?_) rfl rfl (by kernel_rfl) (by kernel_rfl) (by kernel_rfl) (fun _ _ _ h => h) (Or.inl ⟨by rfl, ?_⟩) hHeld ?_
        rotate_left
        · intro w' hSw; (try dsimp only at hSw); go_simp; try with_reducible rfl
        try simp only [Act.put, List.setIfInBounds_toArray, List.set_cons_zero, List.set_cons_succ]
        refine take_one 10 4 (v := ?_) rfl rfl (by kernel_rfl) (by kernel_rfl) (by kernel_rfl) (fun _ _ _ h => h) (Or.inl ⟨by rfl, ?_⟩) hHeld ?_
        rotate_left
        · intro w' hSw; (try dsimp only at hSw); go_simp; try with_reducible rfl
        try simp only [Act.put, List.setIfInBounds_toArray, List.set_cons_zero, List.set_cons_succ]
        refine wpAnyH_done (by kernel_rfl) ?_ _
        go_wp2
        go_ret
        exact ⟨congrArg (fun t => Ending.returned (.string t)) (tx_val (x := stT x) (v := x.1) (by rw [if_pos (show (stT x).2.1 = true from hl)]; rfl) (by omega) (by omega)), ((((B1).alloc (Nat.le_of_lt sA) _).drew).trans (hb.mono (by simp; omega)))⟩
    ·
      go_simp
      refine (impl_var _ _).mono ?_
      rintro e w2 ⟨rfl, hb⟩
      go_wp2_with fail
      refine hK.out _ _ trivial (fun hHeld2 => ?_)
      clear hK K hHeld
      have hHeld := hHeld2
      clear hHeld2
      try simp only [Act.put, List.setIfInBounds_toArray, List.set_cons_zero, List.set_cons_succ]
      refine wpAnyH_ready (rs := [2]) (by kernel_rfl) (by simp) ?_
      refine AllReadyH.cons (i := 2) rfl (fun K hK => ?_) AllReadyH.nil
      go_simp
      refine hK.out _ _ trivial (fun hHeld2 => ?_)
      clear hK K hHeld
      have hHeld := hHeld2
      clear hHeld2
      try simp only [Act.put, List.setIfInBounds_toArray, List.set_cons_zero, List.set_cons_succ]
      refine wpAnyH_ready (rs := [3]) (by kernel_rfl) (by simp) ?_
      refine AllReadyH.cons (i := 3) rfl (fun K hK => ?_) AllReadyH.nil
      have hcc : (w2.alloc (.cells #[.int .u8 (IntKind.u8.wrap x.1)] 5)).cell? ⟨w2.heap.size, 0, none⟩ = some (.int .u8 (IntKind.u8.wrap x.1)) := by simp
      have hcv2 := conv_at (P := Tryd.prog) 22 9 5 Tryd.underlying22 Tryd.underlying5 Tryd.underlying9 (w2.alloc (.cells #[.int .u8 (IntKind.u8.wrap x.1)] 5)) _ _ hcc
      go_simp
      refine hK.out _ _ trivial (fun hHeld2 => ?_)
      clear hK K hHeld
      have hHeld := hHeld2
      clear hHeld2
      try simp only [Act.put, List.setIfInBounds_toArray, List.set_cons_zero, List.set_cons_succ]
      refine take_one 7 20 (v := ?_) rfl rfl (by kernel_rfl) (by kernel_rfl) (by kernel_rfl) (fun _ _ _ h => h) (Or.inl ⟨by rfl, ?_⟩) hHeld ?_
      rotate_left
      · intro w' hSw; (try dsimp only at hSw); go_simp; try with_reducible rfl
      try simp only [Act.put, List.setIfInBounds_toArray, List.set_cons_zero, List.set_cons_succ]
      refine take_one 9 22 (v := ?_) rfl rfl (by kernel_rfl) (by kernel_rfl) (by kernel_rfl) (fun _ _ _ h => h) (Or.inl ⟨by rfl, ?_⟩) hHeld ?_
      rotate_left
      · intro w' hSw; (try dsimp only at hSw); go_simp; try with_reducible rfl
      try simp only [Act.put, List.setIfInBounds_toArray, List.set_cons_zero, List.set_cons_succ]
      refine take_one 10 4 (v := ?_) rfl rfl (by kernel_rfl) (by kernel_rfl) (by kernel_rfl) (fun _ _ _ h => h) (Or.inl ⟨by rfl, ?_⟩) hHeld ?_
      rotate_left
      · intro w' hSw; (try dsimp only at hSw); go_simp; try with_reducible rfl
      try simp only [Act.put, List.setIfInBounds_toArray, List.set_cons_zero, List.set_cons_succ]
      refine wpAnyH_done (by kernel_rfl) ?_ _
      go_wp2
      go_ret
      exact ⟨congrArg (fun t => Ending.returned (.string t)) (tx_val (x := stT x) (v := x.1) (by rw [if_pos (show (stT x).2.1 = true from hl)]; rfl) (by omega) (by omega)), ((((B1).drew).trans (hb.mono (by simp; omega))).alloc (by have := hb.size; simp at this; omega) _)⟩
  | false =>
    rw [hl] at p1
    rw [hl] at hA1
    go_wp2
    try rw [hA1]
    refine wp_region_held_drew (S := (fun _ : World => True)) (by kernel_rfl) trivial (fun hHeld => ?_)
    refine take_one 0 13 (v := ?_) rfl rfl (by kernel_rfl) (by kernel_rfl) (by kernel_rfl) (fun _ _ _ h => h) (Or.inl ⟨by rfl, ?_⟩) hHeld ?_
    rotate_left
    · intro w' hSw; (try dsimp only at hSw); go_simp; try with_reducible rfl
    try simp only [Act.put, List.setIfInBounds_toArray, List.set_cons_zero, List.set_cons_succ]
    refine take_one 1 14 (v := ?_) rfl rfl (by kernel_rfl) (by kernel_rfl) (by kernel_rfl) (fun _ _ _ h => h) (Or.inl ⟨by rfl, ?_⟩) hHeld ?_
    rotate_left
    · intro w' hSw; (try dsimp only at hSw); go_simp; try with_reducible rfl
    try simp only [Act.put, List.setIfInBounds_toArray, List.set_cons_zero, List.set_cons_succ]
    refine take_one 4 17 (v := ?_) rfl rfl (by kernel_rfl) (by kernel_rfl) (by kernel_rfl) (fun _ _ _ h => h) (Or.inl ⟨by rfl, ?_⟩) hHeld ?_
    rotate_left
    · intro w' hSw; (try dsimp only at hSw); go_simp; try with_reducible rfl
    try simp only [Act.put, List.setIfInBounds_toArray, List.set_cons_zero, List.set_cons_succ]
    refine take_one 5 18 (v := ?_) rfl rfl (by kernel_rfl) (by kernel_rfl) (by kernel_rfl) (fun _ _ _ h => h) (Or.inl ⟨by rfl, ?_⟩) hHeld ?_
    rotate_left
    · intro w' hSw; (try dsimp only at hSw); go_simp; try with_reducible rfl
    try simp only [Act.put, List.setIfInBounds_toArray, List.set_cons_zero, List.set_cons_succ]
    refine take_one 8 21 (v := ?_) rfl rfl (by kernel_rfl) (by kernel_rfl) (by kernel_rfl) (fun _ _ _ h => h) (Or.inl ⟨by rfl, ?_⟩) hHeld ?_
    rotate_left
    · intro w' hSw; (try dsimp only at hSw); go_simp; try with_reducible rfl
    try simp only [Act.put, List.setIfInBounds_toArray, List.set_cons_zero, List.set_cons_succ]
    refine wpAnyH_ready (rs := [2, 6]) (by kernel_rfl) (by simp) ?_
    refine AllReadyH.cons (i := 2) rfl (fun K hK => ?_) (AllReadyH.cons (i := 6) rfl (fun K hK => ?_) AllReadyH.nil)
    ·
      go_simp
      refine hK.out _ _ trivial (fun hHeld2 => ?_)
      clear hK K hHeld
      have hHeld := hHeld2
      clear hHeld2
      try simp only [Act.put, List.setIfInBounds_toArray, List.set_cons_zero, List.set_cons_succ]
      refine wpAnyH_ready (rs := [3, 6]) (by kernel_rfl) (by simp) ?_
      refine AllReadyH.cons (i := 3) rfl (fun K hK => ?_) (AllReadyH.cons (i := 6) rfl (fun K hK => ?_) AllReadyH.nil)
      ·
        have hcc : ((A1.alloc (.cells #[.int .u8 (IntKind.u8.wrap (x.1 + 128))] 5)).drew).cell? ⟨A1.heap.size, 0, none⟩ = some (.int .u8 (IntKind.u8.wrap (x.1 + 128))) := by simp
        have hcv2 := conv_at (P := Tryd.prog) 22 9 5 Tryd.underlying22 Tryd.underlying5 Tryd.underlying9 ((A1.alloc (.cells #[.int .u8 (IntKind.u8.wrap (x.1 + 128))] 5)).drew) _ _ hcc
        go_simp
        refine hK.out _ _ trivial (fun hHeld2 => ?_)
        clear hK K hHeld
        have hHeld := hHeld2
        clear hHeld2
        try simp only [Act.put, List.setIfInBounds_toArray, List.set_cons_zero, List.set_cons_succ]
        refine wpAnyH_ready (rs := [6]) (by kernel_rfl) (by simp) ?_
        refine AllReadyH.cons (i := 6) rfl (fun K hK => ?_) AllReadyH.nil
        go_simp
        refine (impl_var _ _).mono ?_
        rintro e w2 ⟨rfl, hb⟩
        go_wp2_with fail
        refine hK.out _ _ trivial (fun hHeld2 => ?_)
        clear hK K hHeld
        have hHeld := hHeld2
        clear hHeld2
        try simp only [Act.put, List.setIfInBounds_toArray, List.set_cons_zero, List.set_cons_succ]
        refine take_one 7 20 (v := ?_) rfl rfl (by kernel_rfl) (by kernel_rfl) (by kernel_rfl) (fun _ _ _ h => h) (Or.inl ⟨by rfl, ?_⟩) hHeld ?_
        rotate_left
        · intro w' hSw; (try dsimp only at hSw); go_simp; try with_reducible rfl
        try simp only [Act.put, List.setIfInBounds_toArray, List.set_cons_zero, List.set_cons_succ]
        refine take_one 9 22 (v := ?_) rfl rfl (by kernel_rfl) (by kernel_rfl) (by kernel_rfl) (fun _ _ _ h => h) (Or.inl ⟨by rfl, ?_⟩) hHeld ?_
        rotate_left
        · intro w' hSw; (try dsimp only at hSw); go_simp; try with_reducible rfl
        try simp only [Act.put, List.setIfInBounds_toArray, List.set_cons_zero, List.set_cons_succ]
        refine take_one 10 4 (v := ?_) rfl rfl (by kernel_rfl) (by kernel_rfl) (by kernel_rfl) (fun _ _ _ h => h) (Or.inl ⟨by rfl, ?_⟩) hHeld ?_
        rotate_left
        · intro w' hSw; (try dsimp only at hSw); go_simp; try with_reducible rfl
        try simp only [Act.put, List.setIfInBounds_toArray, List.set_cons_zero, List.set_cons_succ]
        refine wpAnyH_done (by kernel_rfl) ?_ _
        go_wp2
        go_ret
        exact ⟨congrArg (fun t => Ending.returned (.string t)) (tx_val (x := stT x) (v := (x.1 + 128)) (by rw [if_neg (show ¬ (stT x).2.1 = true by rw [show (stT x).2.1 = false from hl]; simp)]; rfl) (by omega) (by omega)), ((((B1).alloc (Nat.le_of_lt sA) _).drew).trans (hb.mono (by simp; omega)))⟩
      ·
        go_simp
        refine (impl_var _ _).mono ?_
        rintro e w2 ⟨rfl, hb⟩
        go_wp2_with fail
        refine hK.out _ _ trivial (fun hHeld2 => ?_)
        clear hK K hHeld
        have hHeld := hHeld2
        clear hHeld2
        try simp only [Act.put, List.setIfInBounds_toArray, List.set_cons_zero, List.set_cons_succ]
        refine wpAnyH_ready (rs := [3]) (by kernel_rfl) (by simp) ?_
        refine AllReadyH.cons (i := 3) rfl (fun K hK => ?_) AllReadyH.nil
        have hcc : (w2).cell? ⟨A1.heap.size, 0, none⟩ = some (.int .u8 (IntKind.u8.wrap (x.1 + 128))) := (hb.cell (p := ⟨A1.heap.size, 0, none⟩) (by simp)).trans (by simp)
        have hcv2 := conv_at (P := Tryd.prog) 22 9 5 Tryd.underlying22 Tryd.underlying5 Tryd.underlying9 (w2) _ _ hcc
        go_simp
        refine hK.out _ _ trivial (fun hHeld2 => ?_)
        clear hK K hHeld
        have hHeld := hHeld2
        clear hHeld2
        try simp only [Act.put, List.setIfInBounds_toArray, List.set_cons_zero, List.set_cons_succ]
        refine take_one 7 20 (v := ?_) rfl rfl (by kernel_rfl) (by kernel_rfl) (by kernel_rfl) (fun _ _ _ h => h) (Or.inl ⟨by rfl, ?_⟩) hHeld ?_
        rotate_left
        · intro w' hSw; (try dsimp only at hSw); go_simp; try with_reducible rfl
        try simp only [Act.put, List.setIfInBounds_toArray, List.set_cons_zero, List.set_cons_succ]
        refine take_one 9 22 (v := ?_) rfl rfl (by kernel_rfl) (by kernel_rfl) (by kernel_rfl) (fun _ _ _ h => h) (Or.inl ⟨by rfl, ?_⟩) hHeld ?_
        rotate_left
        · intro w' hSw; (try dsimp only at hSw); go_simp; try with_reducible rfl
        try simp only [Act.put, List.setIfInBounds_toArray, List.set_cons_zero, List.set_cons_succ]
        refine take_one 10 4 (v := ?_) rfl rfl (by kernel_rfl) (by kernel_rfl) (by kernel_rfl) (fun _ _ _ h => h) (Or.inl ⟨by rfl, ?_⟩) hHeld ?_
        rotate_left
        · intro w' hSw; (try dsimp only at hSw); go_simp; try with_reducible rfl
        try simp only [Act.put, List.setIfInBounds_toArray, List.set_cons_zero, List.set_cons_succ]
        refine wpAnyH_done (by kernel_rfl) ?_ _
        go_wp2
        go_ret
        exact ⟨congrArg (fun t => Ending.returned (.string t)) (tx_val (x := stT x) (v := (x.1 + 128)) (by rw [if_neg (show ¬ (stT x).2.1 = true by rw [show (stT x).2.1 = false from hl]; simp)]; rfl) (by omega) (by omega)), ((((B1).alloc (Nat.le_of_lt sA) _).drew).trans (hb.mono (by simp; omega)))⟩
    ·
      go_simp
      refine (impl_var _ _).mono ?_
      rintro e w2 ⟨rfl, hb⟩
      go_wp2_with fail
      refine hK.out _ _ trivial (fun hHeld2 => ?_)
      clear hK K hHeld
      have hHeld := hHeld2
      clear hHeld2
      try simp only [Act.put, List.setIfInBounds_toArray, List.set_cons_zero, List.set_cons_succ]
      refine wpAnyH_ready (rs := [2]) (by kernel_rfl) (by simp) ?_
      refine AllReadyH.cons (i := 2) rfl (fun K hK => ?_) AllReadyH.nil
      go_simp
      refine hK.out _ _ trivial (fun hHeld2 => ?_)
      clear hK K hHeld
      have hHeld := hHeld2
      clear hHeld2
      try simp only [Act.put, List.setIfInBounds_toArray, List.set_cons_zero, List.set_cons_succ]
      refine wpAnyH_ready (rs := [3]) (by kernel_rfl) (by simp) ?_
      refine AllReadyH.cons (i := 3) rfl (fun K hK => ?_) AllReadyH.nil
      have hcc : (w2.alloc (.cells #[.int .u8 (IntKind.u8.wrap (x.1 + 128))] 5)).cell? ⟨w2.heap.size, 0, none⟩ = some (.int .u8 (IntKind.u8.wrap (x.1 + 128))) := by simp
      have hcv2 := conv_at (P := Tryd.prog) 22 9 5 Tryd.underlying22 Tryd.underlying5 Tryd.underlying9 (w2.alloc (.cells #[.int .u8 (IntKind.u8.wrap (x.1 + 128))] 5)) _ _ hcc
      go_simp
      refine hK.out _ _ trivial (fun hHeld2 => ?_)
      clear hK K hHeld
      have hHeld := hHeld2
      clear hHeld2
      try simp only [Act.put, List.setIfInBounds_toArray, List.set_cons_zero, List.set_cons_succ]
      refine take_one 7 20 (v := ?_) rfl rfl (by kernel_rfl) (by kernel_rfl) (by kernel_rfl) (fun _ _ _ h => h) (Or.inl ⟨by rfl, ?_⟩) hHeld ?_
      rotate_left
      · intro w' hSw; (try dsimp only at hSw); go_simp; try with_reducible rfl
      try simp only [Act.put, List.setIfInBounds_toArray, List.set_cons_zero, List.set_cons_succ]
      refine take_one 9 22 (v := ?_) rfl rfl (by kernel_rfl) (by kernel_rfl) (by kernel_rfl) (fun _ _ _ h => h) (Or.inl ⟨by rfl, ?_⟩) hHeld ?_
      rotate_left
      · intro w' hSw; (try dsimp only at hSw); go_simp; try with_reducible rfl
      try simp only [Act.put, List.setIfInBounds_toArray, List.set_cons_zero, List.set_cons_succ]
      refine take_one 10 4 (v := ?_) rfl rfl (by kernel_rfl) (by kernel_rfl) (by kernel_rfl) (fun _ _ _ h => h) (Or.inl ⟨by rfl, ?_⟩) hHeld ?_
      rotate_left
      · intro w' hSw; (try dsimp only at hSw); go_simp; try with_reducible rfl
      try simp only [Act.put, List.setIfInBounds_toArray, List.set_cons_zero, List.set_cons_succ]
      refine wpAnyH_done (by kernel_rfl) ?_ _
      go_wp2
      go_ret
      exact ⟨congrArg (fun t => Ending.returned (.string t)) (tx_val (x := stT x) (v := (x.1 + 128)) (by rw [if_neg (show ¬ (stT x).2.1 = true by rw [show (stT x).2.1 = false from hl]; simp)]; rfl) (by omega) (by omega)), ((((B1).drew).trans (hb.mono (by simp; omega))).alloc (by have := hb.size; simp at this; omega) _)⟩
end Go.Proofs.YtengggpobhibcaaDoor.Nd

set_option linter.unusedVariables false
set_option maxRecDepth 100000
namespace Go.Proofs.YtengggpobhibcaaDoor.Nd
open Go Go.RowKit Go.Joins Own Draw Var

theorem ne_nil (s : ByteArray) (h : 1 ≤ s.size) : (s.toList == []) = false := by
  rw [Bool.eq_false_iff]; intro hh; simp at hh
  rw [ByteArray.toList_eq] at hh
  have h1 := congrArg List.length hh
  have h2 : s.data.toList.length = s.size := rfl
  rw [h2] at h1
  simp at h1
  rw [h1] at h
  exact absurd h (by decide)
theorem nil_is {s : ByteArray} (h : s = ⟨#[]⟩) : (s.toList == []) = true := by
  rw [h, ByteArray.toList_eq]; rfl
theorem sz_pos {s : ByteArray} (h : ¬ s = ⟨#[]⟩) : 1 ≤ s.size := by
  rcases Nat.eq_zero_or_pos s.size with h0 | h0
  · exact absurd (ba_ext (by rw [List.eq_nil_of_length_eq_zero (show s.data.toList.length = 0 from h0)])) h
  · exact h0
set_option maxRecDepth 100000 in
set_option maxHeartbeats 3200000 in
theorem rig_is (x : TT) (w : World) (hk : x.2.2.2.2.2.length ≤ 1048576) (hd : x.2.2.1.size ≤ 1048576) : Calls Tryd.prog 29 #[.agg #[.int .i64 x.1, .bool x.2.1, .string x.2.2.1, .slice x.2.2.2.1 x.2.2.2.2.2.length x.2.2.2.2.1]] w fun e w' => BiF (riS (stT x)) e ∧ Below w.heap.size w w' := by
  obtain ⟨A1, hA1⟩ : ∃ Y, w.alloc (.cells #[.int .i64 x.1, .bool x.2.1, .string x.2.2.1, .slice x.2.2.2.1 x.2.2.2.2.2.length x.2.2.2.2.1] 61) = Y := ⟨_, rfl⟩
  have TX1 : Blk w.heap.size [.int .i64 x.1, .bool x.2.1, .string x.2.2.1, .slice x.2.2.2.1 x.2.2.2.2.2.length x.2.2.2.2.1] A1 := by rw [← hA1]; exact Blk.new _ _ _
  have B1 : Below w.heap.size w A1 := by rw [← hA1]; exact (Below.refl _ _).alloc (Nat.le_refl _) _
  have p0 := TX1.at 0 rfl
  have p1 := TX1.at 1 rfl
  have p2 := TX1.at 2 rfl
  have p3 := TX1.at 3 rfl
  have KT := tag_is x.1 A1
  go_enter Tryd.func29, Tryd.ntmps29
  cases hl : x.2.1 with
  | true =>
    have HR : Hid (riS (stT x) ↔ (decide (1 ≤ x.1) && decide (x.1 ≤ 100)) = true ∧ x.2.2.2.2.2.length = 0 ∧ x.2.2.1.size ≤ 900) := by
      show _ ↔ _
      unfold riS
      rw [if_pos (show (stT x).2.1 = true from hl)]
      exact Iff.rfl
    rw [hl] at p1 hA1
    go_wp2_with fail
    try rw [hA1]
    refine KT.mono ?_
    clear KT
    rintro ex ux ⟨rfl, rfl⟩
    cases hb : (decide (1 ≤ x.1) && decide (x.1 ≤ 100)) with
    | false =>
      have HN : Hid (¬ riS (stT x)) := fun c => by have := (HR.out.1 c).1; rw [hb] at this; cases this
      clear HR hb
      go_wp2
      go_ret
      exact ⟨⟨false, rfl, ⟨fun c => (by cases c), fun c => absurd c HN.out⟩⟩, B1⟩
    | true =>
      by_cases h0 : x.2.2.2.2.2.length = 0
      · have c0 : ((x.2.2.2.2.2.length : Int) == 0) = true := by rw [h0]; rfl
        have HB : Hid ((decide (1 ≤ x.1) && decide (x.1 ≤ 100)) = true) := hb
        have H0 : Hid (x.2.2.2.2.2.length = 0) := h0
        clear hb h0
        go_wp2
        go_ret
        exact ⟨⟨decide ((x.2.2.1.size : Int) ≤ 900), rfl, ⟨fun c => HR.out.2 ⟨HB.out, H0.out, by have := of_decide_eq_true c; omega⟩, fun c => decide_eq_true (by have := (HR.out.1 c).2.2; omega)⟩⟩, B1⟩
      · have c0 : ((x.2.2.2.2.2.length : Int) == 0) = false := by rw [beq_eq_false_iff_ne]; omega
        have HN : Hid (¬ riS (stT x)) := fun c => h0 (HR.out.1 c).2.1
        clear HR hb h0
        go_wp2
        go_ret
        exact ⟨⟨false, rfl, ⟨fun c => (by cases c), fun c => absurd c HN.out⟩⟩, B1⟩
  | false =>
    have HR : Hid (riS (stT x) ↔ (decide (1 ≤ x.1) && decide (x.1 ≤ 100)) = true ∧ x.2.2.1 = ⟨#[]⟩) := by
      show _ ↔ _
      unfold riS
      rw [if_neg (show ¬ (stT x).2.1 = true by rw [show (stT x).2.1 = false from hl]; simp)]
      exact Iff.rfl
    rw [hl] at p1 hA1
    go_wp2_with fail
    try rw [hA1]
    refine KT.mono ?_
    clear KT
    rintro ex ux ⟨rfl, rfl⟩
    cases hb : (decide (1 ≤ x.1) && decide (x.1 ≤ 100)) with
    | false =>
      have HN : Hid (¬ riS (stT x)) := fun c => by have := (HR.out.1 c).1; rw [hb] at this; cases this
      clear HR hb
      go_wp2
      go_ret
      exact ⟨⟨false, rfl, ⟨fun c => (by cases c), fun c => absurd c HN.out⟩⟩, B1⟩
    | true =>
      by_cases h0 : x.2.2.1 = ⟨#[]⟩
      · have c0 := nil_is h0
        have HY : Hid (riS (stT x)) := HR.out.2 ⟨hb, h0⟩
        clear HR hb h0
        go_wp2
        go_ret
        exact ⟨⟨true, rfl, ⟨fun _ => HY.out, fun _ => rfl⟩⟩, B1⟩
      · have c0 := ne_nil _ (sz_pos h0)
        have HN : Hid (¬ riS (stT x)) := fun c => h0 (HR.out.1 c).2
        clear HR hb h0
        go_wp2
        go_ret
        exact ⟨⟨false, rfl, ⟨fun c => (by cases c), fun c => absurd c HN.out⟩⟩, B1⟩
end Go.Proofs.YtengggpobhibcaaDoor.Nd

set_option linter.unusedVariables false
set_option maxRecDepth 100000
namespace Go.Proofs.YtengggpobhibcaaDoor.Nd
open Go Go.RowKit Go.Joins Own Draw Var

abbrev cE (e : En) : List Value := [.int .i64 (e.1 : Int), .string e.2.1, .int .i64 (e.2.2 : Int)]
theorem lE (e : En) : (cE e).length = 3 := rfl
theorem info_E : ∃ ie, Tryd.prog.info? 65 = some ie ∧ ie.size = 3 := by
  have h : (Tryd.prog.info? 65).map (fun i => i.size) = some 3 := by kernel_rfl
  cases e : Tryd.prog.info? 65 with
  | none => rw [e] at h; cases h
  | some i => rw [e] at h; exact ⟨i, rfl, by simpa using h⟩
theorem ld_E {U : World} {b o j : Nat} {x : En} (ie : TypeInfo) (hie : Tryd.prog.info? 65 = some ie) (his : ie.size = 3) (hc : ∀ i v, (cE x)[i]? = some v → U.cell? ⟨b, o + j * 3 + i, none⟩ = some v) : LdV Tryd.prog 65 b (o + j * 3) (.agg #[.int .i64 (x.1 : Int), .string x.2.1, .int .i64 (x.2.2 : Int)]) U := by
  refine ⟨?_⟩
  refine Go.Lib.rl_loadVar_cells 65 ie hie Tryd.isAgg65 b (o + j * 3) (cE x) (by rw [his]; rfl) U ?_
  intro k v e
  exact hc k v e
theorem blk_dN {g : Nat} {vs : List Value} {W : World} (h : Blk g vs W) (n : Nat) : Blk g vs (W.drewN n) := ⟨fun i v e => h.out i v e⟩
theorem bel_dN {B : Nat} {a w : World} (h : Below B a w) (n : Nat) : Below B a (w.drewN n) := ⟨h.os, h.tape, h.output, h.size, h.block⟩
theorem inS_snoc (d : ByteArray) (es : List En) (e : En) : inS d (es ++ [e]) = inS d es ++ e.2.1 := by unfold inS; rw [List.foldl_append]; rfl
theorem neS_snoc (es : List En) (e : En) : neS (es ++ [e]) = max (neS es) (e.2.2 + 1) := by unfold neS; rw [List.foldl_append]; rfl
theorem inS_size (d : ByteArray) : ∀ (es : List En), (∀ e ∈ es, e.2.1.size ≤ 900) → (inS d es).size ≤ d.size + 900 * es.length := by
  intro es h
  induction es generalizing d with
  | nil => simp [inS]
  | cons e es ih =>
    rw [inS_cons]
    have h1 := ih (d ++ e.2.1) (fun x hx => h x (by simp [hx]))
    have h2 := h e (by simp)
    rw [ByteArray.size_append] at h1
    rw [List.length_cons]
    omega
theorem neS_small (es : List En) (h : ∀ e ∈ es, e.2.2 ≤ 8) : neS es ≤ 9 := neS_le es 1 8 (by omega) h
def ShoP (x : TT) (i : Nat) (es : List En) (w : World) (e : Ending) (w' : World) : Prop := ∃ (n : En) (b : Bool), e = .returned (.tuple #[.agg #[.int .i64 (n.1 : Int), .string n.2.1, .int .i64 (n.2.2 : Int)], .bool b]) ∧ (b = true ↔ fiS (stT x) es) ∧ (b = true → n = (i, txS (stT x) (inS x.2.2.1 es), neS es)) ∧ Below w.heap.size w w'
set_option maxRecDepth 100000 in
set_option maxHeartbeats 3200000 in
theorem sho_is (x : TT) (i : Nat) (es : List En) (a : Option Addr) (ca : Nat) (w : World) (hrow : FRow 3 cE w a es) (hkw : RowAt (Value.int .i64) w x.2.2.2.1 x.2.2.2.2.2) (hl : es.length = x.2.2.2.2.2.length) (hx : 1 ≤ x.1 ∧ x.1 ≤ 100) (hd : x.2.2.1.size ≤ 900) (he : ∀ e ∈ es, e.2.1.size ≤ 900 ∧ e.2.2 ≤ 8) (hes : es.length ≤ 60) :
    Calls Tryd.prog 30 #[.agg #[.int .i64 x.1, .bool x.2.1, .string x.2.2.1, .slice x.2.2.2.1 x.2.2.2.2.2.length x.2.2.2.2.1], .int .i64 (i : Int), .slice a es.length ca] w fun e w' => ShoP x i es w e w' := by
  obtain ⟨it, hit, hits⟩ := info_T
  obtain ⟨ie, hie, hies⟩ := info_E
  obtain ⟨A0, hA0⟩ : ∃ Y, w.alloc (.cells #[.int .i64 x.1, .bool x.2.1, .string x.2.2.1, .slice x.2.2.2.1 x.2.2.2.2.2.length x.2.2.2.2.1] 61) = Y := ⟨_, rfl⟩
  have TX0 : Blk w.heap.size [.int .i64 x.1, .bool x.2.1, .string x.2.2.1, .slice x.2.2.2.1 x.2.2.2.2.2.length x.2.2.2.2.1] A0 := by rw [← hA0]; exact Blk.new _ _ _
  have B0 : Below w.heap.size w A0 := by rw [← hA0]; exact (Below.refl _ _).alloc (Nat.le_refl _) _
  have s0 : A0.heap.size = w.heap.size + 1 := by rw [← hA0]; simp
  obtain ⟨A1, hA1⟩ : ∃ Y, A0.alloc (.cells #[.int .i64 0, .string ⟨#[]⟩, .int .i64 0] 65) = Y := ⟨_, rfl⟩
  have TR : Blk (w.heap.size + 1) [.int .i64 0, .string ⟨#[]⟩, .int .i64 0] A1 := by rw [← hA1, ← s0]; exact Blk.new _ _ _
  have TX : Blk w.heap.size [.int .i64 x.1, .bool x.2.1, .string x.2.2.1, .slice x.2.2.2.1 x.2.2.2.2.2.length x.2.2.2.2.1] A1 := by rw [← hA1]; exact TX0.alloc TX0.lt _
  have B1 : Below w.heap.size w A1 := by rw [← hA1]; exact B0.alloc B0.size _
  have s1 : w.heap.size + 1 < A1.heap.size := TR.lt
  have p2 := TX.at 2 rfl
  have HL : Hid (es.length = x.2.2.2.2.2.length) := hl
  clear TX0 B0 hl
  go_enter Tryd.func30, Tryd.ntmps30
  go_wp2
  go_loopw [8, 9, 17] (fun s n k wr => ∃ (j : Nat), j ≤ es.length ∧ s = .string (inS x.2.2.1 (es.take j)) ∧ n = .int .i64 ((neS (es.take j) : Nat) : Int) ∧ k = .int .i64 j ∧ Hid (x.2.2.2.2.2.take j = (es.map (fun e => (e.1 : Int))).take j) ∧ Below w.heap.size w wr ∧ Below A1.heap.size A1 wr) (fun _ _ k _ => es.length - (intOf k).toNat)
  case atStart => exact ⟨0, Nat.zero_le _, rfl, rfl, rfl, rfl, B1, Below.refl _ _⟩
  case round =>
    obtain ⟨j, hj, rfl, rfl, rfl, HP, bw, ba⟩ := hrel
    have TXr := TX.later ba TX.lt
    have TRr := TR.later ba TR.lt
    have hst : (inS x.2.2.1 (es.take j)).size ≤ 54900 := by have := inS_size x.2.2.1 (es.take j) (fun e h => (he e (List.mem_of_mem_take h)).1); rw [List.length_take] at this; omega
    have hnt : neS (es.take j) ≤ 9 := neS_small _ (fun e h => (he e (List.mem_of_mem_take h)).2)
    by_cases hlt : j < es.length
    · have hltI : (j : Int) < (es.length : Int) := by omega
      have hltM : j < x.2.2.2.2.2.length := by have := HL.out; omega
      have hltN : (j : Int) < (x.2.2.2.2.2.length : Int) := by omega
      obtain ⟨b1, o1, rfl, l1, hc1⟩ := hrow j hlt
      have hd1 : ∀ i v, (cE es[j])[i]? = some v → wr.cell? ⟨b1, o1 + j * 3 + i, none⟩ = some v := fun i v e => (bw.cell (p := ⟨b1, o1 + j * 3 + i, none⟩) l1).trans (hc1 i v e)
      have ld1 := ld_E ie hie hies hd1
      obtain ⟨b2, o2, e2, l2, hc2⟩ := hkw j hltM
      have hej := he es[j] (List.getElem_mem hlt)
      have HTK : Hid (es.take (j + 1) = es.take j ++ [es[j]]) := List.take_succ_eq_append_getElem hlt
      have HTM : Hid (x.2.2.2.2.2.take (j + 1) = x.2.2.2.2.2.take j ++ [x.2.2.2.2.2[j]]) := List.take_succ_eq_append_getElem hltM
      have HNO : Hid (¬ x.2.2.2.2.2[j] = (es[j].1 : Int) → ¬ fiS (stT x) es) := fun hn c => hn (by have := c.1; have h1 : x.2.2.2.2.2 = es.map (fun e => (e.1 : Int)) := this; simp only [h1, List.getElem_map])
      generalize es[j] = e at ld1 hej HTK HNO
      generalize x.2.2.2.2.2[j] = v at hc2 HTM HNO
      clear hc1 hd1
      obtain ⟨C0, hC0⟩ : ∃ Y, wr.alloc (.cells #[.int .i64 0, .string ⟨#[]⟩, .int .i64 0] 65) = Y := ⟨_, rfl⟩
      have TC0 : Blk wr.heap.size [.int .i64 0, .string ⟨#[]⟩, .int .i64 0] C0 := by rw [← hC0]; exact Blk.new _ _ _
      have BC0 : Below wr.heap.size wr C0 := by rw [← hC0]; exact (Below.refl _ _).alloc (Nat.le_refl _) _
      obtain ⟨C1, hC1⟩ : ∃ Y, C0.setCells wr.heap.size 0 [.int .i64 (e.1 : Int), .string e.2.1, .int .i64 (e.2.2 : Int)] = Y := ⟨_, rfl⟩
      have TE : Blk wr.heap.size [.int .i64 (e.1 : Int), .string e.2.1, .int .i64 (e.2.2 : Int)] C1 := by rw [← hC1]; exact TC0.sets _ rfl
      have BC : Below wr.heap.size wr C1 := by rw [← hC1]; exact below_sets (Nat.le_refl _) _ _ _ BC0
      have TXc := TXr.later BC TXr.lt
      have p3 := TXc.at 3 rfl
      rw [e2] at p3
      have bwC := bw.trans (BC.mono bw.size)
      have hc3 : C1.cell? ⟨b2, o2 + j, none⟩ = some (.int .i64 v) := (bwC.cell (p := ⟨b2, o2 + j, none⟩) l2).trans hc2
      have t0 := TE.at 0 rfl
      clear hc2
      go_wp2_with (first | (refine wpList_ldV 65 _ b1 (o1 + j * 3) _ ld1 rfl rfl rfl ?_) | (refine wpList_stB 65 _ _ wr.heap.size 0 _ [.int .i64 (e.1 : Int), .string e.2.1, .int .i64 (e.2.2 : Int)] ie hie TC0 hies.symm (by simp) rfl rfl rfl rfl rfl ?_; rw [hC1]))
      clear ld1 TC0 BC0 hC0 hC1
      go_quiet (fail)
      have TEd := blk_dN TE nq
      have TRd := blk_dN (TRr.later BC TRr.lt) nq
      have baC := bel_dN (ba.trans (BC.mono ba.size)) nq
      have bwD := bel_dN bwC nq
      obtain ⟨D, hD⟩ : ∃ Y, C1.drewN nq = Y := ⟨_, rfl⟩
      rw [hD] at TEd TRd baC bwD ⊢
      clear hD
      clear p3 hc3 t0 TXc TE BC TXr TRr
      by_cases hm : v = (e.1 : Int)
      · have cm : (v != (e.1 : Int)) = false := by rw [hm]; simp
        have t1 := TEd.at 1 rfl
        have t2 := TEd.at 2 rfl
        have hs : ¬ 9223372036854775807 < (inS x.2.2.1 (es.take j)).size + e.2.1.size := by omega
        have HI : Hid (inS x.2.2.1 (es.take (j + 1)) = inS x.2.2.1 (es.take j) ++ e.2.1) := by show _ = _; rw [HTK.out, inS_snoc]
        have HN : Hid (neS (es.take (j + 1)) = max (neS (es.take j)) (e.2.2 + 1)) := by show _ = _; rw [HTK.out, neS_snoc]
        have HP2 : Hid (x.2.2.2.2.2.take (j + 1) = (es.map (fun e => (e.1 : Int))).take (j + 1)) := by show _ = _; rw [← List.map_take, HTM.out, HTK.out, List.map_append, HP.out, ← List.map_take, hm]; rfl
        have HR : Hid (∀ nv : Int, nv = ((neS (es.take (j + 1)) : Nat) : Int) → ∃ j' : Nat, j' ≤ es.length ∧ Value.string (inS x.2.2.1 (es.take j) ++ e.2.1) = .string (inS x.2.2.1 (es.take j')) ∧ Value.int .i64 nv = .int .i64 ((neS (es.take j') : Nat) : Int) ∧ Value.int .i64 ((j : Int) + 1) = .int .i64 (j' : Int) ∧ Hid (x.2.2.2.2.2.take j' = (es.map (fun e => (e.1 : Int))).take j')) := fun nv hnv => ⟨j + 1, by omega, by rw [HI.out], by rw [hnv], by rfl, HP2⟩
        clear HTK HTM HNO hm HP HP2 HI
        go_wp2
        all_goals
          go_roundw
          case rel =>
            (repeat apply Exists.intro)
            refine ⟨HR.out _ ?_, rfl, rfl, rfl, rfl, rfl, rfl⟩
            rw [HN.out]; omega
          case measure => simp [intOf]; omega
      · have cm : (v != (e.1 : Int)) = true := by simpa using hm
        have HN : Hid (¬ fiS (stT x) es) := HNO.out hm
        obtain ⟨F, hF⟩ : ∃ Y, D.setCells (w.heap.size + 1) 0 [.int .i64 0, .string ⟨#[]⟩, .int .i64 0] = Y := ⟨_, rfl⟩
        have TF : Blk (w.heap.size + 1) [.int .i64 0, .string ⟨#[]⟩, .int .i64 0] F := by rw [← hF]; exact TRd.sets _ rfl
        have BF : Below w.heap.size w F := by rw [← hF]; exact below_sets (by omega) _ _ _ bwD
        clear HTK HTM HNO hm HP
        go_wp2_with (first | (refine wpList_stB 65 _ _ (w.heap.size + 1) 0 _ [.int .i64 0, .string ⟨#[]⟩, .int .i64 0] ie hie TRd hies.symm (by simp) rfl rfl rfl rfl rfl ?_; rw [hF]))
        exact bodyPost_ret (res_B2 rfl _ _ (w.heap.size + 1) [.int .i64 0, .string ⟨#[]⟩, .int .i64 0] (.bool false) ie hie (Tryd.isAgg65) TF hies.symm rfl rfl) rfl ⟨(0, ⟨#[]⟩, 0), false, rfl, ⟨fun c => (by cases c), fun c => absurd c HN.out⟩, (fun c => (by cases c)), BF⟩
    · have hje : j = es.length := by omega
      have hltI : ¬ (j : Int) < (es.length : Int) := by omega
      have hta : es.take j = es := by rw [hje, List.take_length]
      have htm : x.2.2.2.2.2.take j = x.2.2.2.2.2 := by rw [hje, HL.out, List.take_length]
      have hP := HP.out
      rw [← List.map_take] at hP
      rw [hta] at hP hst hnt ⊢
      rw [htm] at hP
      have KA := aro_is x (inS x.2.2.1 es) wr hx (by omega)
      have HF : Hid (fiS (stT x) es ↔ neS es ≤ 8 ∧ (txS (stT x) (inS x.2.2.1 es)).size ≤ 900) := ⟨fun c => c.2, fun c => ⟨hP, c⟩⟩
      clear HP hP hta htm hrow hkw p2
      go_wp2_with (first | (refine wpList_ldB 61 _ w.heap.size 0 _ [.int .i64 x.1, .bool x.2.1, .string x.2.2.1, .slice x.2.2.2.1 x.2.2.2.2.2.length x.2.2.2.2.1] it hit (Tryd.isAgg61) TXr hits.symm rfl rfl rfl rfl ?_))
      refine KA.mono ?_
      clear KA
      rintro ex w2 ⟨rfl, hb⟩
      have TR2 := TRr.later hb TRr.lt
      have bw2 := bw.trans (hb.mono bw.size)
      clear bw hb TRr TXr ba
      obtain ⟨tx, htx⟩ : ∃ t, txS (stT x) (inS x.2.2.1 es) = t := ⟨_, rfl⟩
      rw [htx] at HF ⊢
      obtain ⟨F, hF⟩ : ∃ Y, w2.setCells (w.heap.size + 1) 0 [.int .i64 (i : Int), .string tx, .int .i64 ((neS es : Nat) : Int)] = Y := ⟨_, rfl⟩
      have TF : Blk (w.heap.size + 1) [.int .i64 (i : Int), .string tx, .int .i64 ((neS es : Nat) : Int)] F := by rw [← hF]; exact TR2.sets _ rfl
      have BF : Below w.heap.size w F := by rw [← hF]; exact below_sets (by omega) _ _ _ bw2
      have HT : Hid (txS (stT x) (inS x.2.2.1 es) = tx) := htx
      clear htx
      by_cases h8 : neS es ≤ 8
      · have c8 : ((neS es : Nat) : Int) ≤ 8 := by omega
        go_wp2_with (first | (refine wpList_stB 65 _ _ (w.heap.size + 1) 0 _ [.int .i64 (i : Int), .string tx, .int .i64 ((neS es : Nat) : Int)] ie hie TR2 hies.symm (by simp) rfl rfl rfl rfl rfl ?_; rw [hF]))
        exact bodyPost_ret (res_B2 rfl _ _ (w.heap.size + 1) [.int .i64 (i : Int), .string tx, .int .i64 ((neS es : Nat) : Int)] (.bool (decide ((tx.size : Int) ≤ 900))) ie hie (Tryd.isAgg65) TF hies.symm rfl rfl) rfl ⟨(i, tx, neS es), decide ((tx.size : Int) ≤ 900), rfl, ⟨fun c => HF.out.2 ⟨by omega, by have := of_decide_eq_true c; omega⟩, fun c => decide_eq_true (by have := (HF.out.1 c).2; omega)⟩, (fun _ => by rw [HT.out]), BF⟩
      · have c8 : ¬ ((neS es : Nat) : Int) ≤ 8 := by omega
        have HN : Hid (¬ fiS (stT x) es) := fun c => h8 (HF.out.1 c).1
        go_wp2_with (first | (refine wpList_stB 65 _ _ (w.heap.size + 1) 0 _ [.int .i64 (i : Int), .string tx, .int .i64 ((neS es : Nat) : Int)] ie hie TR2 hies.symm (by simp) rfl rfl rfl rfl rfl ?_; rw [hF]))
        exact bodyPost_ret (res_B2 rfl _ _ (w.heap.size + 1) [.int .i64 (i : Int), .string tx, .int .i64 ((neS es : Nat) : Int)] (.bool false) ie hie (Tryd.isAgg65) TF hies.symm rfl rfl) rfl ⟨(i, tx, neS es), false, rfl, ⟨fun c => (by cases c), fun c => absurd c HN.out⟩, (fun c => (by cases c)), BF⟩
end Go.Proofs.YtengggpobhibcaaDoor.Nd
