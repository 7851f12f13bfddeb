/- The law on what is tried at a Cache, walked. -/
import Derived.Test.YtmiceknaipimiaaSTry
set_option linter.unusedVariables false
namespace Go.Proofs.Ytmiceknaipimiaa
open Go Go.RowKit Go.Joins Own Draw

theorem own_far {w : World} {B c p : Nat} {a : Option Addr} {xs : List A3} (h : Own3 B a c xs w) (hn : ∀ kk, (Value.slice a xs.length c).ownBlock = some kk → kk ≠ p) (i : Nat) (u : Value) : Own3 B a c xs (w.setCell ⟨p, i, none⟩ u) := by
  have hg : w.grownBy (w.setCell ⟨p, i, none⟩ u) (some p) := ⟨rfl, rfl, rfl, by simp, fun j _ hj => Below.heap_setCell w ⟨p, i, none⟩ u j (fun e => hj (by rw [e]))⟩
  refine World.ownsRow.kept h hg ?_
  cases hv : (Value.slice a xs.length c).ownBlock with
  | none => exact Or.inl rfl
  | some kk => right; intro e; exact hn kk hv (Option.some.inj e)
theorem Blk.grown {g : Nat} {vs : List Value} {w w' : World} {r : Option Nat} (h : Blk g vs w) (hg : w.grownBy w' r) (lt : g < w.heap.size) (hn : r ≠ some g) : Blk g vs w' := by
  have e : w'.heap[g]? = w.heap[g]? := hg.block g lt (fun e => hn e.symm)
  exact ⟨fun i v hv => ⟨by simpa only [World.cell?, e] using (h.out i v hv).1, by simpa only [World.frozen?, e] using (h.out i v hv).2⟩⟩
theorem Own3.drew {w : World} {B c : Nat} {a : Option Addr} {xs : List A3} (h : Own3 B a c xs w) : Own3 B a c xs w.drew := World.ownsRow.drew h
/-- A row that the call owns, marked. -/
def OwnM (B : Nat) (a : Option Addr) (cap n : Nat) (w : World) : Prop := w.ownsRow B 28 3 (.slice a n cap) n (trV (mk3 n))
theorem OwnM.later {B cap n : Nat} {a : Option Addr} {w w' : World} (h : OwnM B a cap n w) (hb : Below w.heap.size w w') : OwnM B a cap n w' := own_later h hb
theorem OwnM.row {B cap n : Nat} {a : Option Addr} {w : World} (h : OwnM B a cap n w) : ARow w a (mk3 n) := own_trips h (mk3_len n)
theorem tl_len (q : Int) (xs : List A3) (x y z n k : Int) : (tlV q xs x y z n k).length ≤ 7 := by
  unfold tlV
  by_cases h : cOk q xs = true
  · rw [if_pos h]
    obtain ⟨_, h6, _⟩ := cOk_parts h
    split
    · have := stay_len n k xs; simp; omega
    · omega
  · rw [if_neg h]; simp

set_option maxRecDepth 100000 in
set_option maxHeartbeats 25600000 in
theorem law_cacheTry (q : Int) (a : Option Addr) (cap : Nat) (xs : List A3) (x y z n k : Int) (w : World) (hr : ARow w a xs) (hm : xs.length ≤ maxLen) : Calls Try.prog 7 #[cv q a xs.length cap, av x y z, .int .i64 n, .int .i64 k] w fun e w' => e = .returned (.bool true) ∧ Below w.heap.size w w' := by
  by_cases hl : xs.length ≤ 1048576
  · have hz : szV xs.length 1048576 = ((1048576 - xs.length : Nat) : Int) := if_pos hl
    have hz2 : decide (((1048576 - xs.length : Nat) : Int) < 0) = false := decide_eq_false (by omega)
    generalize ((1048576 - xs.length : Nat) : Int) = left at hz hz2
    have HS := fun a' c' W (h : ARow W a' xs) (hc : xs.length ≤ c') => specTry_is q a' c' xs x y z n k W h hl hc
    have HI := fun a' c' W (h : ARow W a' xs) => implTry_is q a' c' xs x y z n k W h hl
    have ht7 := tl_len q xs x y z n k
    generalize tqV q xs = tq at HS HI
    generalize tlV q xs x y z n k = tl at HS HI ht7
    generalize tkV q xs x y z n k = tk at HS HI
    have b0 : Below w.heap.size w w := Below.refl _ _
    go_enter Try.func7, Try.ntmps7
    obtain ⟨W, hW⟩ : ∃ W, (w.alloc (.cells #[.int .i64 q, .slice a xs.length cap] 38)).alloc (.cells #[.int .i64 x, .int .i64 y, .int .i64 z] 47) = W := ⟨_, rfl⟩
    have BW : Below w.heap.size w W := by rw [← hW]; exact ((Below.refl _ _).alloc (Nat.le_refl _) _).alloc (by simp) _
    have T0 : Blk w.heap.size [.int .i64 q, .slice a xs.length cap] W := by rw [← hW]; exact (Blk.new _ _ _).alloc (by simp) _
    have T1 : Blk (w.heap.size + 1) [.int .i64 x, .int .i64 y, .int .i64 z] W := by rw [← hW]; have h := Blk.new (w.alloc (.cells #[.int .i64 q, .slice a xs.length cap] 38)) #[.int .i64 x, .int .i64 y, .int .i64 z] 47; rw [World.size_alloc] at h; exact h
    replace b0 := b0.trans (BW.mono b0.size)
    clear BW
    have q_T0_0 := T0.at 0 rfl
    have q_T0_1 := T0.at 1 rfl
    have q_T1_0 := T1.at 0 rfl
    have q_T1_1 := T1.at 1 rfl
    have q_T1_2 := T1.at 2 rfl
    have HX := szC_is q a xs.length cap W hm
    go_wp2_with fail
    try rw [hW]
    refine HX.mono ?_
    clear HX q_T0_0 q_T0_1 q_T1_0 q_T1_1 q_T1_2 hW 
    rintro e w1 ⟨rfl, hb1⟩
    replace T0 := T0.later hb1 T0.lt
    replace T1 := T1.later hb1 T1.lt
    replace b0 := b0.trans (hb1.mono b0.size)
    clear hb1
    rw [hz]
    clear hz
    go_wp2_with fail
    refine Code.wp_mono (Q := (fun ex a' w' => ∃ pa g1 c1 gt, ex = .normal ∧ a' = { tmps := #[cv q a xs.length cap, av x y z, Value.int IntKind.i64 n, Value.int IntKind.i64 k, Value.pointer (some { block := w.heap.size, off := 0 }), Value.pointer (some { block := w.heap.size + 1, off := 0 }), undef, undef, Value.bool false, Value.int IntKind.i64 left, .pointer (some ⟨pa, 0, none⟩), .int .i64 tk, undef, undef, undef, undef, undef, undef, undef, undef, Value.agg #[Value.int IntKind.i64 q, Value.slice a xs.length cap], Value.int IntKind.i64 1048576, Value.int IntKind.i64 left, Value.int IntKind.i64 left, Value.bool false, .tuple #[cv tq g1 tl.length c1, .int .i64 tk], .agg #[.int .i64 q, .slice a xs.length cap], cv q (some ⟨gt, 0, none⟩) xs.length xs.length, .agg #[.int .i64 x, .int .i64 y, .int .i64 z], av x y z, .int .i64 n, .int .i64 k, .tuple #[cv tq g1 tl.length c1, .int .i64 tk], cv tq g1 tl.length c1, .int .i64 tk, undef, undef, undef, undef, undef, undef, undef, undef, undef, undef, undef, undef, undef, undef, undef, undef, undef, undef, undef, undef, undef, undef, undef, undef, undef, undef, undef, undef, undef, undef, undef, undef, undef, undef, undef, undef, undef, undef, undef, undef, undef, undef, undef, undef, undef, undef, undef, undef, undef, undef, undef, undef, undef, undef, undef, undef, undef, undef, undef, undef, undef, undef, undef, undef, undef, undef, undef, undef, undef, undef, undef, undef, undef, undef, undef, undef, undef, undef, undef], defers := [] } ∧ Blk pa [.int .i64 tq, .slice g1 tl.length c1] w' ∧ Own3 w1.heap.size g1 c1 tl w' ∧ Below w1.heap.size w1 w' ∧ w1.heap.size ≤ pa ∧ pa < w'.heap.size ∧ ∀ kk, (Value.slice g1 tl.length c1).ownBlock = some kk → kk ≠ pa)) ?imp5 ?reg5
    case reg5 =>
      have BC : Below w1.heap.size w1 w1.drew := (Below.refl _ _).drew
      have N_T0 : Hid (_ < w1.heap.size) := T0.lt
      have N_T1 : Hid (_ < w1.heap.size) := T1.lt
      replace T0 := T0.drew
      replace T1 := T1.drew
      refine wp_region_held_drew (S := (fun V : World => Blk w.heap.size [.int .i64 q, .slice a xs.length cap] V ∧ Blk (w.heap.size + 1) [.int .i64 x, .int .i64 y, .int .i64 z] V)) (by kernel_rfl) ⟨T0, T1⟩ (fun hHeld => ?_)
      refine take_one 0 26 (v := ?_) rfl rfl (by kernel_rfl) (by kernel_rfl) (by kernel_rfl) (fun _ _ _ h => by obtain ⟨_, _, _, _, h, _⟩ := h; cases h) (Or.inl ⟨by rfl, ?_⟩) hHeld ?_
      rotate_left
      · intro w' hSw; (try dsimp only at hSw); have c0 := hSw.1.at 0 rfl; have c1 := hSw.1.at 1 rfl; have c2 := hSw.2.at 0 rfl; have c3 := hSw.2.at 1 rfl; have c4 := hSw.2.at 2 rfl; go_simp; try with_reducible rfl
      try simp only [Act.put, List.setIfInBounds_toArray, List.set_cons_zero, List.set_cons_succ]
      refine take_one 2 28 (v := ?_) rfl rfl (by kernel_rfl) (by kernel_rfl) (by kernel_rfl) (fun _ _ _ h => by obtain ⟨_, _, _, _, h, _⟩ := h; cases h) (Or.inl ⟨by rfl, ?_⟩) hHeld ?_
      rotate_left
      · intro w' hSw; (try dsimp only at hSw); have c0 := hSw.1.at 0 rfl; have c1 := hSw.1.at 1 rfl; have c2 := hSw.2.at 0 rfl; have c3 := hSw.2.at 1 rfl; have c4 := hSw.2.at 2 rfl; go_simp; try with_reducible rfl
      try simp only [Act.put, List.setIfInBounds_toArray, List.set_cons_zero, List.set_cons_succ]
      refine take_one 4 30 (v := ?_) rfl rfl (by kernel_rfl) (by kernel_rfl) (by kernel_rfl) (fun _ _ _ h => by obtain ⟨_, _, _, _, h, _⟩ := h; cases h) (Or.inl ⟨by rfl, ?_⟩) hHeld ?_
      rotate_left
      · intro w' hSw; (try dsimp only at hSw); have c0 := hSw.1.at 0 rfl; have c1 := hSw.1.at 1 rfl; have c2 := hSw.2.at 0 rfl; have c3 := hSw.2.at 1 rfl; have c4 := hSw.2.at 2 rfl; go_simp; try with_reducible rfl
      try simp only [Act.put, List.setIfInBounds_toArray, List.set_cons_zero, List.set_cons_succ]
      refine take_one 5 31 (v := ?_) rfl rfl (by kernel_rfl) (by kernel_rfl) (by kernel_rfl) (fun _ _ _ h => by obtain ⟨_, _, _, _, h, _⟩ := h; cases h) (Or.inl ⟨by rfl, ?_⟩) hHeld ?_
      rotate_left
      · intro w' hSw; (try dsimp only at hSw); have c0 := hSw.1.at 0 rfl; have c1 := hSw.1.at 1 rfl; have c2 := hSw.2.at 0 rfl; have c3 := hSw.2.at 1 rfl; have c4 := hSw.2.at 2 rfl; go_simp; try with_reducible rfl
      try simp only [Act.put, List.setIfInBounds_toArray, List.set_cons_zero, List.set_cons_succ]
      refine wpAnyH_ready (rs := [1, 10]) (by kernel_rfl) (by simp) ?_
      refine AllReadyH.cons (i := 1) rfl (fun K hK => ?_) (AllReadyH.cons (i := 10) rfl (fun K hK => ?_) AllReadyH.nil)
      ·
        go_simp
        refine (toC_is q a cap xs _ (hr.later (b0.trans (BC.mono b0.size))) hl).mono ?_
        rintro e u0 ⟨gt, rfl, ot, hbu⟩
        replace T0 := T0.later hbu T0.lt
        replace T1 := T1.later hbu T1.lt
        replace BC := BC.trans (hbu.mono BC.size)
        clear hbu
        go_wp2_with fail
        refine hK.out _ _ ⟨T0, T1⟩ (fun hHeld2 => ?_)
        clear hK K hHeld
        have hHeld := hHeld2
        clear hHeld2
        try simp only [Act.put, List.setIfInBounds_toArray, List.set_cons_zero, List.set_cons_succ]
        refine wpAnyH_ready (rs := [3, 10]) (by kernel_rfl) (by simp) ?_
        refine AllReadyH.cons (i := 3) rfl (fun K hK => ?_) (AllReadyH.cons (i := 10) rfl (fun K hK => ?_) AllReadyH.nil)
        ·
          go_simp
          refine (toAuth_is x y z _).mono ?_
          rintro e u1 ⟨rfl, hbu⟩
          replace T0 := T0.later hbu T0.lt
          replace T1 := T1.later hbu T1.lt
          replace ot := ot.later hbu
          replace BC := BC.trans (hbu.mono BC.size)
          clear hbu
          go_wp2_with fail
          refine hK.out _ _ ⟨T0, T1⟩ (fun hHeld2 => ?_)
          clear hK K hHeld
          have hHeld := hHeld2
          clear hHeld2
          try simp only [Act.put, List.setIfInBounds_toArray, List.set_cons_zero, List.set_cons_succ]
          refine wpAnyH_ready (rs := [6, 10]) (by kernel_rfl) (by simp) ?_
          refine AllReadyH.cons (i := 6) rfl (fun K hK => ?_) (AllReadyH.cons (i := 10) rfl (fun K hK => ?_) AllReadyH.nil)
          ·
            go_simp
            refine (HS (some ⟨gt, 0, none⟩) xs.length _ ot.row (Nat.le_refl _)).mono ?_
            rintro e u2 ⟨g1, c1, rfl, o1, hbu⟩
            replace o1 := Own3.le o1 BC.size
            replace T0 := T0.later hbu T0.lt
            replace T1 := T1.later hbu T1.lt
            replace ot := ot.later hbu
            replace BC := BC.trans (hbu.mono BC.size)
            clear hbu
            go_wp2_with fail
            refine hK.out _ _ ⟨T0, T1⟩ (fun hHeld2 => ?_)
            clear hK K hHeld
            have hHeld := hHeld2
            clear hHeld2
            try simp only [Act.put, List.setIfInBounds_toArray, List.set_cons_zero, List.set_cons_succ]
            refine take_one 7 25 (v := ?_) rfl rfl (by kernel_rfl) (by kernel_rfl) (by kernel_rfl) (fun _ _ _ h => by obtain ⟨_, _, _, _, h, _⟩ := h; cases h) (Or.inl ⟨by rfl, ?_⟩) hHeld ?_
            rotate_left
            · intro w' hSw; (try dsimp only at hSw); have c0 := hSw.1.at 0 rfl; have c1 := hSw.1.at 1 rfl; have c2 := hSw.2.at 0 rfl; have c3 := hSw.2.at 1 rfl; have c4 := hSw.2.at 2 rfl; go_simp; try with_reducible rfl
            try simp only [Act.put, List.setIfInBounds_toArray, List.set_cons_zero, List.set_cons_succ]
            refine take_one 8 33 (v := ?_) rfl rfl (by kernel_rfl) (by kernel_rfl) (by kernel_rfl) (fun _ _ _ h => by obtain ⟨_, _, _, _, h, _⟩ := h; cases h) (Or.inl ⟨by rfl, ?_⟩) hHeld ?_
            rotate_left
            · intro w' hSw; (try dsimp only at hSw); have c0 := hSw.1.at 0 rfl; have c1 := hSw.1.at 1 rfl; have c2 := hSw.2.at 0 rfl; have c3 := hSw.2.at 1 rfl; have c4 := hSw.2.at 2 rfl; go_simp; try with_reducible rfl
            try simp only [Act.put, List.setIfInBounds_toArray, List.set_cons_zero, List.set_cons_succ]
            refine take_one 9 34 (v := ?_) rfl rfl (by kernel_rfl) (by kernel_rfl) (by kernel_rfl) (fun _ _ _ h => by obtain ⟨_, _, _, _, h, _⟩ := h; cases h) (Or.inl ⟨by rfl, ?_⟩) hHeld ?_
            rotate_left
            · intro w' hSw; (try dsimp only at hSw); have c0 := hSw.1.at 0 rfl; have c1 := hSw.1.at 1 rfl; have c2 := hSw.2.at 0 rfl; have c3 := hSw.2.at 1 rfl; have c4 := hSw.2.at 2 rfl; go_simp; try with_reducible rfl
            try simp only [Act.put, List.setIfInBounds_toArray, List.set_cons_zero, List.set_cons_succ]
            refine wpAnyH_ready (rs := [10]) (by kernel_rfl) (by simp) ?_
            refine AllReadyH.cons (i := 10) rfl (fun K hK => ?_) AllReadyH.nil
            go_simp
            obtain ⟨Va, hVa⟩ : ∃ V, World.alloc u2 (.cells #[.int .i64 0, .slice none 0 0] 26) = V := ⟨_, rfl⟩
            have hba : Below u2.heap.size u2 Va := by rw [← hVa]; exact (Below.refl _ u2).alloc (show u2.heap.size ≤ u2.heap.size from Nat.le_refl _) _
            have TA : Blk u2.heap.size [.int .i64 0, .slice none 0 0] Va := by rw [← hVa]; exact Blk.new u2 _ _
            have hap : w1.heap.size ≤ u2.heap.size := BC.size
            have hne : ∀ kk, (Value.slice g1 tl.length c1).ownBlock = some kk → kk ≠ u2.heap.size := fun kk hkk => by have := (World.ownsRow.lt o1 kk hkk).2; omega
            replace T0 := T0.later hba T0.lt
            replace T1 := T1.later hba T1.lt
            replace ot := ot.later hba
            replace o1 := o1.later hba
            replace BC := BC.trans (hba.mono BC.size)
            rw [hVa]
            clear hVa hba
            refine hK.out _ _ ⟨T0, T1⟩ (fun hHeld2 => ?_)
            clear hK K hHeld
            have hHeld := hHeld2
            clear hHeld2
            try simp only [Act.put, List.setIfInBounds_toArray, List.set_cons_zero, List.set_cons_succ]
            have e0 := TA.at 0 rfl
            have f0 := TA.fz 0 rfl
            have e1 := TA.at 1 rfl
            have f1 := TA.fz 1 rfl
            have RA : Blk (u2.heap.size) [.int .i64 tq, .slice g1 tl.length c1] ((Va.setCell ⟨u2.heap.size, 0, none⟩ (.int .i64 tq)).setCell ⟨u2.heap.size, 1, none⟩ (.slice g1 tl.length c1)) := (TA.set 0 (.int .i64 tq)).set 1 (.slice g1 tl.length c1)
            have hbz : Below w1.heap.size w1 ((Va.setCell ⟨u2.heap.size, 0, none⟩ (.int .i64 tq)).setCell ⟨u2.heap.size, 1, none⟩ (.slice g1 tl.length c1)) := (BC.setCell (p := ⟨u2.heap.size, 0, none⟩) hap _).setCell (p := ⟨u2.heap.size, 1, none⟩) hap _
            have oz : Own3 w1.heap.size g1 c1 tl ((Va.setCell ⟨u2.heap.size, 0, none⟩ (.int .i64 tq)).setCell ⟨u2.heap.size, 1, none⟩ (.slice g1 tl.length c1)) := own_far (own_far o1 hne 0 _) hne 1 _
            have sz : u2.heap.size < ((Va.setCell ⟨u2.heap.size, 0, none⟩ (.int .i64 tq)).setCell ⟨u2.heap.size, 1, none⟩ (.slice g1 tl.length c1)).heap.size := by have := TA.lt; simpa using this
            have Z_T0 := (T0.far (g' := u2.heap.size) (fun e => by have := N_T0.out; omega) 0 (.int .i64 tq)).far (g' := u2.heap.size) (fun e => by have := N_T0.out; omega) 1 (.slice g1 tl.length c1)
            have Z_T1 := (T1.far (g' := u2.heap.size) (fun e => by have := N_T1.out; omega) 0 (.int .i64 tq)).far (g' := u2.heap.size) (fun e => by have := N_T1.out; omega) 1 (.slice g1 tl.length c1)
            refine wpAnyH_ready (rs := [11]) (by kernel_rfl) (by simp) ?_
            refine AllReadyH.cons (i := 11) rfl (fun K hK => ?_) AllReadyH.nil
            go_simp
            refine hK.out _ _ ⟨Z_T0, Z_T1⟩ (fun hHeld2 => ?_)
            clear hK K hHeld
            have hHeld := hHeld2
            clear hHeld2
            try simp only [Act.put, List.setIfInBounds_toArray, List.set_cons_zero, List.set_cons_succ]
            refine take_one 12 11 (v := ?_) rfl rfl (by kernel_rfl) (by kernel_rfl) (by kernel_rfl) (fun _ _ _ h => by obtain ⟨_, _, _, _, h, _⟩ := h; cases h) (Or.inl ⟨by rfl, ?_⟩) hHeld ?_
            rotate_left
            · intro w' hSw; (try dsimp only at hSw); have c0 := hSw.1.at 0 rfl; have c1 := hSw.1.at 1 rfl; have c2 := hSw.2.at 0 rfl; have c3 := hSw.2.at 1 rfl; have c4 := hSw.2.at 2 rfl; go_simp; try with_reducible rfl
            try simp only [Act.put, List.setIfInBounds_toArray, List.set_cons_zero, List.set_cons_succ]
            refine wpAnyH_done (by kernel_rfl) ?_ _
            exact ⟨_, g1, c1, gt, rfl, rfl, RA, oz, hbz, hap, sz, hne⟩
          ·
            go_simp
            obtain ⟨Va, hVa⟩ : ∃ V, World.alloc u1 (.cells #[.int .i64 0, .slice none 0 0] 26) = V := ⟨_, rfl⟩
            have hba : Below u1.heap.size u1 Va := by rw [← hVa]; exact (Below.refl _ u1).alloc (show u1.heap.size ≤ u1.heap.size from Nat.le_refl _) _
            have TA : Blk u1.heap.size [.int .i64 0, .slice none 0 0] Va := by rw [← hVa]; exact Blk.new u1 _ _
            have hap : w1.heap.size ≤ u1.heap.size := BC.size
            replace T0 := T0.later hba T0.lt
            replace T1 := T1.later hba T1.lt
            replace ot := ot.later hba
            replace BC := BC.trans (hba.mono BC.size)
            rw [hVa]
            clear hVa hba
            refine hK.out _ _ ⟨T0, T1⟩ (fun hHeld2 => ?_)
            clear hK K hHeld
            have hHeld := hHeld2
            clear hHeld2
            try simp only [Act.put, List.setIfInBounds_toArray, List.set_cons_zero, List.set_cons_succ]
            refine wpAnyH_ready (rs := [6]) (by kernel_rfl) (by simp) ?_
            refine AllReadyH.cons (i := 6) rfl (fun K hK => ?_) AllReadyH.nil
            go_simp
            refine (HS (some ⟨gt, 0, none⟩) xs.length _ ot.row (Nat.le_refl _)).mono ?_
            rintro e u2 ⟨g1, c1, rfl, o1, hbu⟩
            have hne : ∀ kk, (Value.slice g1 tl.length c1).ownBlock = some kk → kk ≠ u1.heap.size := fun kk hkk => by have := (World.ownsRow.lt o1 kk hkk).1; have := TA.lt; omega
            replace o1 := Own3.le o1 BC.size
            replace TA := TA.later hbu TA.lt
            replace T0 := T0.later hbu T0.lt
            replace T1 := T1.later hbu T1.lt
            replace ot := ot.later hbu
            replace BC := BC.trans (hbu.mono BC.size)
            clear hbu
            go_wp2_with fail
            refine hK.out _ _ ⟨T0, T1⟩ (fun hHeld2 => ?_)
            clear hK K hHeld
            have hHeld := hHeld2
            clear hHeld2
            try simp only [Act.put, List.setIfInBounds_toArray, List.set_cons_zero, List.set_cons_succ]
            refine take_one 7 25 (v := ?_) rfl rfl (by kernel_rfl) (by kernel_rfl) (by kernel_rfl) (fun _ _ _ h => by obtain ⟨_, _, _, _, h, _⟩ := h; cases h) (Or.inl ⟨by rfl, ?_⟩) hHeld ?_
            rotate_left
            · intro w' hSw; (try dsimp only at hSw); have c0 := hSw.1.at 0 rfl; have c1 := hSw.1.at 1 rfl; have c2 := hSw.2.at 0 rfl; have c3 := hSw.2.at 1 rfl; have c4 := hSw.2.at 2 rfl; go_simp; try with_reducible rfl
            try simp only [Act.put, List.setIfInBounds_toArray, List.set_cons_zero, List.set_cons_succ]
            refine take_one 8 33 (v := ?_) rfl rfl (by kernel_rfl) (by kernel_rfl) (by kernel_rfl) (fun _ _ _ h => by obtain ⟨_, _, _, _, h, _⟩ := h; cases h) (Or.inl ⟨by rfl, ?_⟩) hHeld ?_
            rotate_left
            · intro w' hSw; (try dsimp only at hSw); have c0 := hSw.1.at 0 rfl; have c1 := hSw.1.at 1 rfl; have c2 := hSw.2.at 0 rfl; have c3 := hSw.2.at 1 rfl; have c4 := hSw.2.at 2 rfl; go_simp; try with_reducible rfl
            try simp only [Act.put, List.setIfInBounds_toArray, List.set_cons_zero, List.set_cons_succ]
            refine take_one 9 34 (v := ?_) rfl rfl (by kernel_rfl) (by kernel_rfl) (by kernel_rfl) (fun _ _ _ h => by obtain ⟨_, _, _, _, h, _⟩ := h; cases h) (Or.inl ⟨by rfl, ?_⟩) hHeld ?_
            rotate_left
            · intro w' hSw; (try dsimp only at hSw); have c0 := hSw.1.at 0 rfl; have c1 := hSw.1.at 1 rfl; have c2 := hSw.2.at 0 rfl; have c3 := hSw.2.at 1 rfl; have c4 := hSw.2.at 2 rfl; go_simp; try with_reducible rfl
            try simp only [Act.put, List.setIfInBounds_toArray, List.set_cons_zero, List.set_cons_succ]
            have e0 := TA.at 0 rfl
            have f0 := TA.fz 0 rfl
            have e1 := TA.at 1 rfl
            have f1 := TA.fz 1 rfl
            have RA : Blk (u1.heap.size) [.int .i64 tq, .slice g1 tl.length c1] ((u2.setCell ⟨u1.heap.size, 0, none⟩ (.int .i64 tq)).setCell ⟨u1.heap.size, 1, none⟩ (.slice g1 tl.length c1)) := (TA.set 0 (.int .i64 tq)).set 1 (.slice g1 tl.length c1)
            have hbz : Below w1.heap.size w1 ((u2.setCell ⟨u1.heap.size, 0, none⟩ (.int .i64 tq)).setCell ⟨u1.heap.size, 1, none⟩ (.slice g1 tl.length c1)) := (BC.setCell (p := ⟨u1.heap.size, 0, none⟩) hap _).setCell (p := ⟨u1.heap.size, 1, none⟩) hap _
            have oz : Own3 w1.heap.size g1 c1 tl ((u2.setCell ⟨u1.heap.size, 0, none⟩ (.int .i64 tq)).setCell ⟨u1.heap.size, 1, none⟩ (.slice g1 tl.length c1)) := own_far (own_far o1 hne 0 _) hne 1 _
            have sz : u1.heap.size < ((u2.setCell ⟨u1.heap.size, 0, none⟩ (.int .i64 tq)).setCell ⟨u1.heap.size, 1, none⟩ (.slice g1 tl.length c1)).heap.size := by have := TA.lt; simpa using this
            have Z_T0 := (T0.far (g' := u1.heap.size) (fun e => by have := N_T0.out; omega) 0 (.int .i64 tq)).far (g' := u1.heap.size) (fun e => by have := N_T0.out; omega) 1 (.slice g1 tl.length c1)
            have Z_T1 := (T1.far (g' := u1.heap.size) (fun e => by have := N_T1.out; omega) 0 (.int .i64 tq)).far (g' := u1.heap.size) (fun e => by have := N_T1.out; omega) 1 (.slice g1 tl.length c1)
            refine wpAnyH_ready (rs := [11]) (by kernel_rfl) (by simp) ?_
            refine AllReadyH.cons (i := 11) rfl (fun K hK => ?_) AllReadyH.nil
            go_simp
            refine hK.out _ _ ⟨Z_T0, Z_T1⟩ (fun hHeld2 => ?_)
            clear hK K hHeld
            have hHeld := hHeld2
            clear hHeld2
            try simp only [Act.put, List.setIfInBounds_toArray, List.set_cons_zero, List.set_cons_succ]
            refine take_one 12 11 (v := ?_) rfl rfl (by kernel_rfl) (by kernel_rfl) (by kernel_rfl) (fun _ _ _ h => by obtain ⟨_, _, _, _, h, _⟩ := h; cases h) (Or.inl ⟨by rfl, ?_⟩) hHeld ?_
            rotate_left
            · intro w' hSw; (try dsimp only at hSw); have c0 := hSw.1.at 0 rfl; have c1 := hSw.1.at 1 rfl; have c2 := hSw.2.at 0 rfl; have c3 := hSw.2.at 1 rfl; have c4 := hSw.2.at 2 rfl; go_simp; try with_reducible rfl
            try simp only [Act.put, List.setIfInBounds_toArray, List.set_cons_zero, List.set_cons_succ]
            refine wpAnyH_done (by kernel_rfl) ?_ _
            exact ⟨_, g1, c1, gt, rfl, rfl, RA, oz, hbz, hap, sz, hne⟩
        ·
          go_simp
          obtain ⟨Va, hVa⟩ : ∃ V, World.alloc u0 (.cells #[.int .i64 0, .slice none 0 0] 26) = V := ⟨_, rfl⟩
          have hba : Below u0.heap.size u0 Va := by rw [← hVa]; exact (Below.refl _ u0).alloc (show u0.heap.size ≤ u0.heap.size from Nat.le_refl _) _
          have TA : Blk u0.heap.size [.int .i64 0, .slice none 0 0] Va := by rw [← hVa]; exact Blk.new u0 _ _
          have hap : w1.heap.size ≤ u0.heap.size := BC.size
          replace T0 := T0.later hba T0.lt
          replace T1 := T1.later hba T1.lt
          replace ot := ot.later hba
          replace BC := BC.trans (hba.mono BC.size)
          rw [hVa]
          clear hVa hba
          refine hK.out _ _ ⟨T0, T1⟩ (fun hHeld2 => ?_)
          clear hK K hHeld
          have hHeld := hHeld2
          clear hHeld2
          try simp only [Act.put, List.setIfInBounds_toArray, List.set_cons_zero, List.set_cons_succ]
          refine wpAnyH_ready (rs := [3]) (by kernel_rfl) (by simp) ?_
          refine AllReadyH.cons (i := 3) rfl (fun K hK => ?_) AllReadyH.nil
          go_simp
          refine (toAuth_is x y z _).mono ?_
          rintro e u1 ⟨rfl, hbu⟩
          replace TA := TA.later hbu TA.lt
          replace T0 := T0.later hbu T0.lt
          replace T1 := T1.later hbu T1.lt
          replace ot := ot.later hbu
          replace BC := BC.trans (hbu.mono BC.size)
          clear hbu
          go_wp2_with fail
          refine hK.out _ _ ⟨T0, T1⟩ (fun hHeld2 => ?_)
          clear hK K hHeld
          have hHeld := hHeld2
          clear hHeld2
          try simp only [Act.put, List.setIfInBounds_toArray, List.set_cons_zero, List.set_cons_succ]
          refine wpAnyH_ready (rs := [6]) (by kernel_rfl) (by simp) ?_
          refine AllReadyH.cons (i := 6) rfl (fun K hK => ?_) AllReadyH.nil
          go_simp
          refine (HS (some ⟨gt, 0, none⟩) xs.length _ ot.row (Nat.le_refl _)).mono ?_
          rintro e u2 ⟨g1, c1, rfl, o1, hbu⟩
          have hne : ∀ kk, (Value.slice g1 tl.length c1).ownBlock = some kk → kk ≠ u0.heap.size := fun kk hkk => by have := (World.ownsRow.lt o1 kk hkk).1; have := TA.lt; omega
          replace o1 := Own3.le o1 BC.size
          replace TA := TA.later hbu TA.lt
          replace T0 := T0.later hbu T0.lt
          replace T1 := T1.later hbu T1.lt
          replace ot := ot.later hbu
          replace BC := BC.trans (hbu.mono BC.size)
          clear hbu
          go_wp2_with fail
          refine hK.out _ _ ⟨T0, T1⟩ (fun hHeld2 => ?_)
          clear hK K hHeld
          have hHeld := hHeld2
          clear hHeld2
          try simp only [Act.put, List.setIfInBounds_toArray, List.set_cons_zero, List.set_cons_succ]
          refine take_one 7 25 (v := ?_) rfl rfl (by kernel_rfl) (by kernel_rfl) (by kernel_rfl) (fun _ _ _ h => by obtain ⟨_, _, _, _, h, _⟩ := h; cases h) (Or.inl ⟨by rfl, ?_⟩) hHeld ?_
          rotate_left
          · intro w' hSw; (try dsimp only at hSw); have c0 := hSw.1.at 0 rfl; have c1 := hSw.1.at 1 rfl; have c2 := hSw.2.at 0 rfl; have c3 := hSw.2.at 1 rfl; have c4 := hSw.2.at 2 rfl; go_simp; try with_reducible rfl
          try simp only [Act.put, List.setIfInBounds_toArray, List.set_cons_zero, List.set_cons_succ]
          refine take_one 8 33 (v := ?_) rfl rfl (by kernel_rfl) (by kernel_rfl) (by kernel_rfl) (fun _ _ _ h => by obtain ⟨_, _, _, _, h, _⟩ := h; cases h) (Or.inl ⟨by rfl, ?_⟩) hHeld ?_
          rotate_left
          · intro w' hSw; (try dsimp only at hSw); have c0 := hSw.1.at 0 rfl; have c1 := hSw.1.at 1 rfl; have c2 := hSw.2.at 0 rfl; have c3 := hSw.2.at 1 rfl; have c4 := hSw.2.at 2 rfl; go_simp; try with_reducible rfl
          try simp only [Act.put, List.setIfInBounds_toArray, List.set_cons_zero, List.set_cons_succ]
          refine take_one 9 34 (v := ?_) rfl rfl (by kernel_rfl) (by kernel_rfl) (by kernel_rfl) (fun _ _ _ h => by obtain ⟨_, _, _, _, h, _⟩ := h; cases h) (Or.inl ⟨by rfl, ?_⟩) hHeld ?_
          rotate_left
          · intro w' hSw; (try dsimp only at hSw); have c0 := hSw.1.at 0 rfl; have c1 := hSw.1.at 1 rfl; have c2 := hSw.2.at 0 rfl; have c3 := hSw.2.at 1 rfl; have c4 := hSw.2.at 2 rfl; go_simp; try with_reducible rfl
          try simp only [Act.put, List.setIfInBounds_toArray, List.set_cons_zero, List.set_cons_succ]
          have e0 := TA.at 0 rfl
          have f0 := TA.fz 0 rfl
          have e1 := TA.at 1 rfl
          have f1 := TA.fz 1 rfl
          have RA : Blk (u0.heap.size) [.int .i64 tq, .slice g1 tl.length c1] ((u2.setCell ⟨u0.heap.size, 0, none⟩ (.int .i64 tq)).setCell ⟨u0.heap.size, 1, none⟩ (.slice g1 tl.length c1)) := (TA.set 0 (.int .i64 tq)).set 1 (.slice g1 tl.length c1)
          have hbz : Below w1.heap.size w1 ((u2.setCell ⟨u0.heap.size, 0, none⟩ (.int .i64 tq)).setCell ⟨u0.heap.size, 1, none⟩ (.slice g1 tl.length c1)) := (BC.setCell (p := ⟨u0.heap.size, 0, none⟩) hap _).setCell (p := ⟨u0.heap.size, 1, none⟩) hap _
          have oz : Own3 w1.heap.size g1 c1 tl ((u2.setCell ⟨u0.heap.size, 0, none⟩ (.int .i64 tq)).setCell ⟨u0.heap.size, 1, none⟩ (.slice g1 tl.length c1)) := own_far (own_far o1 hne 0 _) hne 1 _
          have sz : u0.heap.size < ((u2.setCell ⟨u0.heap.size, 0, none⟩ (.int .i64 tq)).setCell ⟨u0.heap.size, 1, none⟩ (.slice g1 tl.length c1)).heap.size := by have := TA.lt; simpa using this
          have Z_T0 := (T0.far (g' := u0.heap.size) (fun e => by have := N_T0.out; omega) 0 (.int .i64 tq)).far (g' := u0.heap.size) (fun e => by have := N_T0.out; omega) 1 (.slice g1 tl.length c1)
          have Z_T1 := (T1.far (g' := u0.heap.size) (fun e => by have := N_T1.out; omega) 0 (.int .i64 tq)).far (g' := u0.heap.size) (fun e => by have := N_T1.out; omega) 1 (.slice g1 tl.length c1)
          refine wpAnyH_ready (rs := [11]) (by kernel_rfl) (by simp) ?_
          refine AllReadyH.cons (i := 11) rfl (fun K hK => ?_) AllReadyH.nil
          go_simp
          refine hK.out _ _ ⟨Z_T0, Z_T1⟩ (fun hHeld2 => ?_)
          clear hK K hHeld
          have hHeld := hHeld2
          clear hHeld2
          try simp only [Act.put, List.setIfInBounds_toArray, List.set_cons_zero, List.set_cons_succ]
          refine take_one 12 11 (v := ?_) rfl rfl (by kernel_rfl) (by kernel_rfl) (by kernel_rfl) (fun _ _ _ h => by obtain ⟨_, _, _, _, h, _⟩ := h; cases h) (Or.inl ⟨by rfl, ?_⟩) hHeld ?_
          rotate_left
          · intro w' hSw; (try dsimp only at hSw); have c0 := hSw.1.at 0 rfl; have c1 := hSw.1.at 1 rfl; have c2 := hSw.2.at 0 rfl; have c3 := hSw.2.at 1 rfl; have c4 := hSw.2.at 2 rfl; go_simp; try with_reducible rfl
          try simp only [Act.put, List.setIfInBounds_toArray, List.set_cons_zero, List.set_cons_succ]
          refine wpAnyH_done (by kernel_rfl) ?_ _
          exact ⟨_, g1, c1, gt, rfl, rfl, RA, oz, hbz, hap, sz, hne⟩
      ·
        go_simp
        obtain ⟨Va, hVa⟩ : ∃ V, World.alloc w1.drew (.cells #[.int .i64 0, .slice none 0 0] 26) = V := ⟨_, rfl⟩
        have hba : Below w1.heap.size w1.drew Va := by rw [← hVa]; exact (Below.refl _ w1.drew).alloc (show w1.heap.size ≤ w1.drew.heap.size from Nat.le_refl _) _
        have TA : Blk w1.heap.size [.int .i64 0, .slice none 0 0] Va := by rw [← hVa]; exact Blk.new w1.drew _ _
        have hap : w1.heap.size ≤ w1.heap.size := BC.size
        replace T0 := T0.later hba T0.lt
        replace T1 := T1.later hba T1.lt
        replace BC := BC.trans (hba.mono BC.size)
        rw [show (World.alloc w1 (.cells #[.int .i64 0, .slice none 0 0] 26)).drew = Va from hVa]
        clear hVa hba
        refine hK.out _ _ ⟨T0, T1⟩ (fun hHeld2 => ?_)
        clear hK K hHeld
        have hHeld := hHeld2
        clear hHeld2
        try simp only [Act.put, List.setIfInBounds_toArray, List.set_cons_zero, List.set_cons_succ]
        refine wpAnyH_ready (rs := [1]) (by kernel_rfl) (by simp) ?_
        refine AllReadyH.cons (i := 1) rfl (fun K hK => ?_) AllReadyH.nil
        go_simp
        refine (toC_is q a cap xs _ (hr.later (b0.trans (BC.mono b0.size))) hl).mono ?_
        rintro e u0 ⟨gt, rfl, ot, hbu⟩
        replace TA := TA.later hbu TA.lt
        replace T0 := T0.later hbu T0.lt
        replace T1 := T1.later hbu T1.lt
        replace BC := BC.trans (hbu.mono BC.size)
        clear hbu
        go_wp2_with fail
        refine hK.out _ _ ⟨T0, T1⟩ (fun hHeld2 => ?_)
        clear hK K hHeld
        have hHeld := hHeld2
        clear hHeld2
        try simp only [Act.put, List.setIfInBounds_toArray, List.set_cons_zero, List.set_cons_succ]
        refine wpAnyH_ready (rs := [3]) (by kernel_rfl) (by simp) ?_
        refine AllReadyH.cons (i := 3) rfl (fun K hK => ?_) AllReadyH.nil
        go_simp
        refine (toAuth_is x y z _).mono ?_
        rintro e u1 ⟨rfl, hbu⟩
        replace TA := TA.later hbu TA.lt
        replace T0 := T0.later hbu T0.lt
        replace T1 := T1.later hbu T1.lt
        replace ot := ot.later hbu
        replace BC := BC.trans (hbu.mono BC.size)
        clear hbu
        go_wp2_with fail
        refine hK.out _ _ ⟨T0, T1⟩ (fun hHeld2 => ?_)
        clear hK K hHeld
        have hHeld := hHeld2
        clear hHeld2
        try simp only [Act.put, List.setIfInBounds_toArray, List.set_cons_zero, List.set_cons_succ]
        refine wpAnyH_ready (rs := [6]) (by kernel_rfl) (by simp) ?_
        refine AllReadyH.cons (i := 6) rfl (fun K hK => ?_) AllReadyH.nil
        go_simp
        refine (HS (some ⟨gt, 0, none⟩) xs.length _ ot.row (Nat.le_refl _)).mono ?_
        rintro e u2 ⟨g1, c1, rfl, o1, hbu⟩
        have hne : ∀ kk, (Value.slice g1 tl.length c1).ownBlock = some kk → kk ≠ w1.heap.size := fun kk hkk => by have := (World.ownsRow.lt o1 kk hkk).1; have := TA.lt; omega
        replace o1 := Own3.le o1 BC.size
        replace TA := TA.later hbu TA.lt
        replace T0 := T0.later hbu T0.lt
        replace T1 := T1.later hbu T1.lt
        replace ot := ot.later hbu
        replace BC := BC.trans (hbu.mono BC.size)
        clear hbu
        go_wp2_with fail
        refine hK.out _ _ ⟨T0, T1⟩ (fun hHeld2 => ?_)
        clear hK K hHeld
        have hHeld := hHeld2
        clear hHeld2
        try simp only [Act.put, List.setIfInBounds_toArray, List.set_cons_zero, List.set_cons_succ]
        refine take_one 7 25 (v := ?_) rfl rfl (by kernel_rfl) (by kernel_rfl) (by kernel_rfl) (fun _ _ _ h => by obtain ⟨_, _, _, _, h, _⟩ := h; cases h) (Or.inl ⟨by rfl, ?_⟩) hHeld ?_
        rotate_left
        · intro w' hSw; (try dsimp only at hSw); have c0 := hSw.1.at 0 rfl; have c1 := hSw.1.at 1 rfl; have c2 := hSw.2.at 0 rfl; have c3 := hSw.2.at 1 rfl; have c4 := hSw.2.at 2 rfl; go_simp; try with_reducible rfl
        try simp only [Act.put, List.setIfInBounds_toArray, List.set_cons_zero, List.set_cons_succ]
        refine take_one 8 33 (v := ?_) rfl rfl (by kernel_rfl) (by kernel_rfl) (by kernel_rfl) (fun _ _ _ h => by obtain ⟨_, _, _, _, h, _⟩ := h; cases h) (Or.inl ⟨by rfl, ?_⟩) hHeld ?_
        rotate_left
        · intro w' hSw; (try dsimp only at hSw); have c0 := hSw.1.at 0 rfl; have c1 := hSw.1.at 1 rfl; have c2 := hSw.2.at 0 rfl; have c3 := hSw.2.at 1 rfl; have c4 := hSw.2.at 2 rfl; go_simp; try with_reducible rfl
        try simp only [Act.put, List.setIfInBounds_toArray, List.set_cons_zero, List.set_cons_succ]
        refine take_one 9 34 (v := ?_) rfl rfl (by kernel_rfl) (by kernel_rfl) (by kernel_rfl) (fun _ _ _ h => by obtain ⟨_, _, _, _, h, _⟩ := h; cases h) (Or.inl ⟨by rfl, ?_⟩) hHeld ?_
        rotate_left
        · intro w' hSw; (try dsimp only at hSw); have c0 := hSw.1.at 0 rfl; have c1 := hSw.1.at 1 rfl; have c2 := hSw.2.at 0 rfl; have c3 := hSw.2.at 1 rfl; have c4 := hSw.2.at 2 rfl; go_simp; try with_reducible rfl
        try simp only [Act.put, List.setIfInBounds_toArray, List.set_cons_zero, List.set_cons_succ]
        have e0 := TA.at 0 rfl
        have f0 := TA.fz 0 rfl
        have e1 := TA.at 1 rfl
        have f1 := TA.fz 1 rfl
        have RA : Blk (w1.heap.size) [.int .i64 tq, .slice g1 tl.length c1] ((u2.setCell ⟨w1.heap.size, 0, none⟩ (.int .i64 tq)).setCell ⟨w1.heap.size, 1, none⟩ (.slice g1 tl.length c1)) := (TA.set 0 (.int .i64 tq)).set 1 (.slice g1 tl.length c1)
        have hbz : Below w1.heap.size w1 ((u2.setCell ⟨w1.heap.size, 0, none⟩ (.int .i64 tq)).setCell ⟨w1.heap.size, 1, none⟩ (.slice g1 tl.length c1)) := (BC.setCell (p := ⟨w1.heap.size, 0, none⟩) hap _).setCell (p := ⟨w1.heap.size, 1, none⟩) hap _
        have oz : Own3 w1.heap.size g1 c1 tl ((u2.setCell ⟨w1.heap.size, 0, none⟩ (.int .i64 tq)).setCell ⟨w1.heap.size, 1, none⟩ (.slice g1 tl.length c1)) := own_far (own_far o1 hne 0 _) hne 1 _
        have sz : w1.heap.size < ((u2.setCell ⟨w1.heap.size, 0, none⟩ (.int .i64 tq)).setCell ⟨w1.heap.size, 1, none⟩ (.slice g1 tl.length c1)).heap.size := by have := TA.lt; simpa using this
        have Z_T0 := (T0.far (g' := w1.heap.size) (fun e => by have := N_T0.out; omega) 0 (.int .i64 tq)).far (g' := w1.heap.size) (fun e => by have := N_T0.out; omega) 1 (.slice g1 tl.length c1)
        have Z_T1 := (T1.far (g' := w1.heap.size) (fun e => by have := N_T1.out; omega) 0 (.int .i64 tq)).far (g' := w1.heap.size) (fun e => by have := N_T1.out; omega) 1 (.slice g1 tl.length c1)
        refine wpAnyH_ready (rs := [11]) (by kernel_rfl) (by simp) ?_
        refine AllReadyH.cons (i := 11) rfl (fun K hK => ?_) AllReadyH.nil
        go_simp
        refine hK.out _ _ ⟨Z_T0, Z_T1⟩ (fun hHeld2 => ?_)
        clear hK K hHeld
        have hHeld := hHeld2
        clear hHeld2
        try simp only [Act.put, List.setIfInBounds_toArray, List.set_cons_zero, List.set_cons_succ]
        refine take_one 12 11 (v := ?_) rfl rfl (by kernel_rfl) (by kernel_rfl) (by kernel_rfl) (fun _ _ _ h => by obtain ⟨_, _, _, _, h, _⟩ := h; cases h) (Or.inl ⟨by rfl, ?_⟩) hHeld ?_
        rotate_left
        · intro w' hSw; (try dsimp only at hSw); have c0 := hSw.1.at 0 rfl; have c1 := hSw.1.at 1 rfl; have c2 := hSw.2.at 0 rfl; have c3 := hSw.2.at 1 rfl; have c4 := hSw.2.at 2 rfl; go_simp; try with_reducible rfl
        try simp only [Act.put, List.setIfInBounds_toArray, List.set_cons_zero, List.set_cons_succ]
        refine wpAnyH_done (by kernel_rfl) ?_ _
        exact ⟨_, g1, c1, gt, rfl, rfl, RA, oz, hbz, hap, sz, hne⟩
    rintro ex a' w2 ⟨p2, g2, c2, gt2, rfl, rfl, Tw, ow, hbz, hp2, hq2, hne2⟩
    replace T0 := T0.later hbz T0.lt
    replace T1 := T1.later hbz T1.lt
    replace b0 := b0.trans (hbz.mono b0.size)
    clear hbz
    have Z1 : Hid (w.heap.size + 1 < w2.heap.size) := T1.lt
    have uw : ∀ kk, (Value.slice g2 tl.length c2).ownBlock = some kk → kk < w2.heap.size := fun kk hkk => (World.ownsRow.lt ow kk hkk).2
    have q_T0_0 := T0.at 0 rfl
    have q_T0_1 := T0.at 1 rfl
    have q_T1_0 := T1.at 0 rfl
    have q_T1_1 := T1.at 1 rfl
    have q_T1_2 := T1.at 2 rfl
    have q_Tw_0 := Tw.at 0 rfl
    have q_Tw_1 := Tw.at 1 rfl
    have HX := toC_is q a cap xs w2 (hr.later b0) hl
    go_wp2_with fail
    refine HX.mono ?_
    clear HX q_T0_0 q_T0_1 q_T1_0 q_T1_1 q_T1_2 q_Tw_0 q_Tw_1
    rintro e w3 ⟨gx, rfl, ox, hb3⟩
    replace T0 := T0.later hb3 T0.lt
    replace T1 := T1.later hb3 T1.lt
    replace Tw := Tw.later hb3 Tw.lt
    replace ow := ow.later hb3
    replace b0 := b0.trans (hb3.mono b0.size)
    have gx1 : w2.heap.size ≤ gx := (World.ownsRow.lt ox gx rfl).1
    have gx2 : gx < w3.heap.size := (World.ownsRow.lt ox gx rfl).2
    clear hb3
    obtain ⟨V3_Tx, hV3_Tx⟩ : ∃ V, w3.alloc (.cells #[.int .i64 q, .slice (some ⟨gx, 0, none⟩) xs.length xs.length] 26) = V := ⟨_, rfl⟩
    have aV3_Tx : Below w3.heap.size w3 V3_Tx := by rw [← hV3_Tx]; exact (Below.refl _ _).alloc (Nat.le_refl _) _
    have Tx : Blk w3.heap.size [.int .i64 q, .slice (some ⟨gx, 0, none⟩) xs.length xs.length] V3_Tx := by rw [← hV3_Tx]; exact Blk.new _ _ _
    replace T0 := T0.later aV3_Tx T0.lt
    replace T1 := T1.later aV3_Tx T1.lt
    replace Tw := Tw.later aV3_Tx Tw.lt
    replace ow := ow.later aV3_Tx
    replace ox := ox.later aV3_Tx
    replace b0 := b0.trans (aV3_Tx.mono b0.size)
    clear aV3_Tx
    have gx3 : w3.heap.size < V3_Tx.heap.size := Tx.lt
    have q_T0_0 := T0.at 0 rfl
    have q_T0_1 := T0.at 1 rfl
    have q_T1_0 := T1.at 0 rfl
    have q_T1_1 := T1.at 1 rfl
    have q_T1_2 := T1.at 2 rfl
    have q_Tw_0 := Tw.at 0 rfl
    have q_Tw_1 := Tw.at 1 rfl
    have q_Tx_0 := Tx.at 0 rfl
    have q_Tx_1 := Tx.at 1 rfl
    go_wp2_with fail
    try rw [hV3_Tx]
    clear q_T0_0 q_T0_1 q_T1_0 q_T1_1 q_T1_2 q_Tw_0 q_Tw_1 q_Tx_0 q_Tx_1 hV3_Tx
    skip

    refine Code.wp_mono (Q := (fun ex a' w' => ∃ pa g1 c1, ex = .normal ∧ a' = { tmps := #[cv q a xs.length cap, av x y z, Value.int IntKind.i64 n, Value.int IntKind.i64 k, Value.pointer (some { block := w.heap.size, off := 0 }), Value.pointer (some { block := w.heap.size + 1, off := 0 }), undef, undef, Value.bool false, Value.int IntKind.i64 left, Value.pointer (some { block := p2, off := 0 }), Value.int IntKind.i64 tk, Value.pointer (some { block := w3.heap.size, off := 0 }), .pointer (some ⟨pa, 0, none⟩), .int .i64 tk, undef, undef, undef, undef, undef, Value.agg #[Value.int IntKind.i64 q, Value.slice a xs.length cap], Value.int IntKind.i64 1048576, Value.int IntKind.i64 left, Value.int IntKind.i64 left, Value.bool false, Value.tuple #[cv tq g2 tl.length c2, Value.int IntKind.i64 tk], Value.agg #[Value.int IntKind.i64 q, Value.slice a xs.length cap], cv q (some { block := gt2, off := 0 }) xs.length xs.length, Value.agg #[Value.int IntKind.i64 x, Value.int IntKind.i64 y, Value.int IntKind.i64 z], av x y z, Value.int IntKind.i64 n, Value.int IntKind.i64 k, Value.tuple #[cv tq g2 tl.length c2, Value.int IntKind.i64 tk], cv tq g2 tl.length c2, Value.int IntKind.i64 tk, Value.agg #[Value.int IntKind.i64 q, Value.slice a xs.length cap], cv q (some { block := gx, off := 0 }) xs.length xs.length, .tuple #[cv tq g1 tl.length c1, .int .i64 tk], .agg #[.int .i64 q, .slice (some ⟨gx, 0, none⟩) xs.length xs.length], .agg #[.int .i64 x, .int .i64 y, .int .i64 z], av x y z, .int .i64 n, .int .i64 k, .tuple #[cv tq g1 tl.length c1, .int .i64 tk], cv tq g1 tl.length c1, .int .i64 tk, undef, undef, undef, undef, undef, undef, undef, undef, undef, undef, undef, undef, undef, undef, undef, undef, undef, undef, undef, undef, undef, undef, undef, undef, undef, undef, undef, undef, undef, undef, undef, undef, undef, undef, undef, undef, undef, undef, undef, undef, undef, undef, undef, undef, undef, undef, undef, undef, undef, undef, undef, undef, undef, undef, undef, undef, undef, undef, undef, undef, undef, undef, undef, undef, undef, undef, undef, undef], defers := [] } ∧ Blk pa [.int .i64 tq, .slice g1 tl.length c1] w' ∧ Own3 V3_Tx.heap.size g1 c1 tl w' ∧ Below V3_Tx.heap.size V3_Tx w' ∧ V3_Tx.heap.size ≤ pa ∧ pa < w'.heap.size ∧ ∀ kk, (Value.slice g1 tl.length c1).ownBlock = some kk → kk ≠ pa)) ?imp7 ?reg7
    case reg7 =>
      have BC : Below V3_Tx.heap.size V3_Tx V3_Tx.drew := (Below.refl _ _).drew
      have N_Tx : Hid (_ < V3_Tx.heap.size) := Tx.lt
      have N_T1 : Hid (_ < V3_Tx.heap.size) := T1.lt
      replace Tx := Tx.drew
      replace T1 := T1.drew
      replace ox := ox.drew
      refine wp_region_held_drew (S := (fun V : World => Blk w3.heap.size [.int .i64 q, .slice (some ⟨gx, 0, none⟩) xs.length xs.length] V ∧ Blk (w.heap.size + 1) [.int .i64 x, .int .i64 y, .int .i64 z] V)) (by kernel_rfl) ⟨Tx, T1⟩ (fun hHeld => ?_)
      refine take_one 0 38 (v := ?_) rfl rfl (by kernel_rfl) (by kernel_rfl) (by kernel_rfl) (fun _ _ _ h => by obtain ⟨_, _, _, h, _⟩ := h; cases h) (Or.inl ⟨by rfl, ?_⟩) hHeld ?_
      rotate_left
      · intro w' hSw; (try dsimp only at hSw); have c0 := hSw.1.at 0 rfl; have c1 := hSw.1.at 1 rfl; have c2 := hSw.2.at 0 rfl; have c3 := hSw.2.at 1 rfl; have c4 := hSw.2.at 2 rfl; go_simp; try with_reducible rfl
      try simp only [Act.put, List.setIfInBounds_toArray, List.set_cons_zero, List.set_cons_succ]
      refine take_one 1 39 (v := ?_) rfl rfl (by kernel_rfl) (by kernel_rfl) (by kernel_rfl) (fun _ _ _ h => by obtain ⟨_, _, _, h, _⟩ := h; cases h) (Or.inl ⟨by rfl, ?_⟩) hHeld ?_
      rotate_left
      · intro w' hSw; (try dsimp only at hSw); have c0 := hSw.1.at 0 rfl; have c1 := hSw.1.at 1 rfl; have c2 := hSw.2.at 0 rfl; have c3 := hSw.2.at 1 rfl; have c4 := hSw.2.at 2 rfl; go_simp; try with_reducible rfl
      try simp only [Act.put, List.setIfInBounds_toArray, List.set_cons_zero, List.set_cons_succ]
      refine take_one 3 41 (v := ?_) rfl rfl (by kernel_rfl) (by kernel_rfl) (by kernel_rfl) (fun _ _ _ h => by obtain ⟨_, _, _, h, _⟩ := h; cases h) (Or.inl ⟨by rfl, ?_⟩) hHeld ?_
      rotate_left
      · intro w' hSw; (try dsimp only at hSw); have c0 := hSw.1.at 0 rfl; have c1 := hSw.1.at 1 rfl; have c2 := hSw.2.at 0 rfl; have c3 := hSw.2.at 1 rfl; have c4 := hSw.2.at 2 rfl; go_simp; try with_reducible rfl
      try simp only [Act.put, List.setIfInBounds_toArray, List.set_cons_zero, List.set_cons_succ]
      refine take_one 4 42 (v := ?_) rfl rfl (by kernel_rfl) (by kernel_rfl) (by kernel_rfl) (fun _ _ _ h => by obtain ⟨_, _, _, h, _⟩ := h; cases h) (Or.inl ⟨by rfl, ?_⟩) hHeld ?_
      rotate_left
      · intro w' hSw; (try dsimp only at hSw); have c0 := hSw.1.at 0 rfl; have c1 := hSw.1.at 1 rfl; have c2 := hSw.2.at 0 rfl; have c3 := hSw.2.at 1 rfl; have c4 := hSw.2.at 2 rfl; go_simp; try with_reducible rfl
      try simp only [Act.put, List.setIfInBounds_toArray, List.set_cons_zero, List.set_cons_succ]
      refine wpAnyH_ready (rs := [2, 9]) (by kernel_rfl) (by simp) ?_
      refine AllReadyH.cons (i := 2) rfl (fun K hK => ?_) (AllReadyH.cons (i := 9) rfl (fun K hK => ?_) AllReadyH.nil)
      ·
        go_simp
        refine (toAuth_is x y z _).mono ?_
        rintro e u0 ⟨rfl, hbu⟩
        replace Tx := Tx.later hbu Tx.lt
        replace T1 := T1.later hbu T1.lt
        replace ox := ox.later hbu
        replace BC := BC.trans (hbu.mono BC.size)
        clear hbu
        go_wp2_with fail
        refine hK.out _ _ ⟨Tx, T1⟩ (fun hHeld2 => ?_)
        clear hK K hHeld
        have hHeld := hHeld2
        clear hHeld2
        try simp only [Act.put, List.setIfInBounds_toArray, List.set_cons_zero, List.set_cons_succ]
        refine wpAnyH_ready (rs := [5, 9]) (by kernel_rfl) (by simp) ?_
        refine AllReadyH.cons (i := 5) rfl (fun K hK => ?_) (AllReadyH.cons (i := 9) rfl (fun K hK => ?_) AllReadyH.nil)
        ·
          go_simp
          refine (HI (some ⟨gx, 0, none⟩) xs.length _ ox.row).mono ?_
          rintro e u1 ⟨g1, c1, rfl, o1, hbu⟩
          replace o1 := Own3.le o1 BC.size
          replace Tx := Tx.later hbu Tx.lt
          replace T1 := T1.later hbu T1.lt
          replace ox := ox.later hbu
          replace BC := BC.trans (hbu.mono BC.size)
          clear hbu
          go_wp2_with fail
          refine hK.out _ _ ⟨Tx, T1⟩ (fun hHeld2 => ?_)
          clear hK K hHeld
          have hHeld := hHeld2
          clear hHeld2
          try simp only [Act.put, List.setIfInBounds_toArray, List.set_cons_zero, List.set_cons_succ]
          refine take_one 6 37 (v := ?_) rfl rfl (by kernel_rfl) (by kernel_rfl) (by kernel_rfl) (fun _ _ _ h => by obtain ⟨_, _, _, h, _⟩ := h; cases h) (Or.inl ⟨by rfl, ?_⟩) hHeld ?_
          rotate_left
          · intro w' hSw; (try dsimp only at hSw); have c0 := hSw.1.at 0 rfl; have c1 := hSw.1.at 1 rfl; have c2 := hSw.2.at 0 rfl; have c3 := hSw.2.at 1 rfl; have c4 := hSw.2.at 2 rfl; go_simp; try with_reducible rfl
          try simp only [Act.put, List.setIfInBounds_toArray, List.set_cons_zero, List.set_cons_succ]
          refine take_one 7 44 (v := ?_) rfl rfl (by kernel_rfl) (by kernel_rfl) (by kernel_rfl) (fun _ _ _ h => by obtain ⟨_, _, _, h, _⟩ := h; cases h) (Or.inl ⟨by rfl, ?_⟩) hHeld ?_
          rotate_left
          · intro w' hSw; (try dsimp only at hSw); have c0 := hSw.1.at 0 rfl; have c1 := hSw.1.at 1 rfl; have c2 := hSw.2.at 0 rfl; have c3 := hSw.2.at 1 rfl; have c4 := hSw.2.at 2 rfl; go_simp; try with_reducible rfl
          try simp only [Act.put, List.setIfInBounds_toArray, List.set_cons_zero, List.set_cons_succ]
          refine take_one 8 45 (v := ?_) rfl rfl (by kernel_rfl) (by kernel_rfl) (by kernel_rfl) (fun _ _ _ h => by obtain ⟨_, _, _, h, _⟩ := h; cases h) (Or.inl ⟨by rfl, ?_⟩) hHeld ?_
          rotate_left
          · intro w' hSw; (try dsimp only at hSw); have c0 := hSw.1.at 0 rfl; have c1 := hSw.1.at 1 rfl; have c2 := hSw.2.at 0 rfl; have c3 := hSw.2.at 1 rfl; have c4 := hSw.2.at 2 rfl; go_simp; try with_reducible rfl
          try simp only [Act.put, List.setIfInBounds_toArray, List.set_cons_zero, List.set_cons_succ]
          refine wpAnyH_ready (rs := [9]) (by kernel_rfl) (by simp) ?_
          refine AllReadyH.cons (i := 9) rfl (fun K hK => ?_) AllReadyH.nil
          go_simp
          obtain ⟨Va, hVa⟩ : ∃ V, World.alloc u1 (.cells #[.int .i64 0, .slice none 0 0] 26) = V := ⟨_, rfl⟩
          have hba : Below u1.heap.size u1 Va := by rw [← hVa]; exact (Below.refl _ u1).alloc (show u1.heap.size ≤ u1.heap.size from Nat.le_refl _) _
          have TA : Blk u1.heap.size [.int .i64 0, .slice none 0 0] Va := by rw [← hVa]; exact Blk.new u1 _ _
          have hap : V3_Tx.heap.size ≤ u1.heap.size := BC.size
          have hne : ∀ kk, (Value.slice g1 tl.length c1).ownBlock = some kk → kk ≠ u1.heap.size := fun kk hkk => by have := (World.ownsRow.lt o1 kk hkk).2; omega
          replace Tx := Tx.later hba Tx.lt
          replace T1 := T1.later hba T1.lt
          replace ox := ox.later hba
          replace o1 := o1.later hba
          replace BC := BC.trans (hba.mono BC.size)
          rw [hVa]
          clear hVa hba
          refine hK.out _ _ ⟨Tx, T1⟩ (fun hHeld2 => ?_)
          clear hK K hHeld
          have hHeld := hHeld2
          clear hHeld2
          try simp only [Act.put, List.setIfInBounds_toArray, List.set_cons_zero, List.set_cons_succ]
          have e0 := TA.at 0 rfl
          have f0 := TA.fz 0 rfl
          have e1 := TA.at 1 rfl
          have f1 := TA.fz 1 rfl
          have RA : Blk (u1.heap.size) [.int .i64 tq, .slice g1 tl.length c1] ((Va.setCell ⟨u1.heap.size, 0, none⟩ (.int .i64 tq)).setCell ⟨u1.heap.size, 1, none⟩ (.slice g1 tl.length c1)) := (TA.set 0 (.int .i64 tq)).set 1 (.slice g1 tl.length c1)
          have hbz : Below V3_Tx.heap.size V3_Tx ((Va.setCell ⟨u1.heap.size, 0, none⟩ (.int .i64 tq)).setCell ⟨u1.heap.size, 1, none⟩ (.slice g1 tl.length c1)) := (BC.setCell (p := ⟨u1.heap.size, 0, none⟩) hap _).setCell (p := ⟨u1.heap.size, 1, none⟩) hap _
          have oz : Own3 V3_Tx.heap.size g1 c1 tl ((Va.setCell ⟨u1.heap.size, 0, none⟩ (.int .i64 tq)).setCell ⟨u1.heap.size, 1, none⟩ (.slice g1 tl.length c1)) := own_far (own_far o1 hne 0 _) hne 1 _
          have sz : u1.heap.size < ((Va.setCell ⟨u1.heap.size, 0, none⟩ (.int .i64 tq)).setCell ⟨u1.heap.size, 1, none⟩ (.slice g1 tl.length c1)).heap.size := by have := TA.lt; simpa using this
          have Z_Tx := (Tx.far (g' := u1.heap.size) (fun e => by have := N_Tx.out; omega) 0 (.int .i64 tq)).far (g' := u1.heap.size) (fun e => by have := N_Tx.out; omega) 1 (.slice g1 tl.length c1)
          have Z_T1 := (T1.far (g' := u1.heap.size) (fun e => by have := N_T1.out; omega) 0 (.int .i64 tq)).far (g' := u1.heap.size) (fun e => by have := N_T1.out; omega) 1 (.slice g1 tl.length c1)
          refine wpAnyH_ready (rs := [10]) (by kernel_rfl) (by simp) ?_
          refine AllReadyH.cons (i := 10) rfl (fun K hK => ?_) AllReadyH.nil
          go_simp
          refine hK.out _ _ ⟨Z_Tx, Z_T1⟩ (fun hHeld2 => ?_)
          clear hK K hHeld
          have hHeld := hHeld2
          clear hHeld2
          try simp only [Act.put, List.setIfInBounds_toArray, List.set_cons_zero, List.set_cons_succ]
          refine take_one 11 14 (v := ?_) rfl rfl (by kernel_rfl) (by kernel_rfl) (by kernel_rfl) (fun _ _ _ h => by obtain ⟨_, _, _, h, _⟩ := h; cases h) (Or.inl ⟨by rfl, ?_⟩) hHeld ?_
          rotate_left
          · intro w' hSw; (try dsimp only at hSw); have c0 := hSw.1.at 0 rfl; have c1 := hSw.1.at 1 rfl; have c2 := hSw.2.at 0 rfl; have c3 := hSw.2.at 1 rfl; have c4 := hSw.2.at 2 rfl; go_simp; try with_reducible rfl
          try simp only [Act.put, List.setIfInBounds_toArray, List.set_cons_zero, List.set_cons_succ]
          refine wpAnyH_done (by kernel_rfl) ?_ _
          exact ⟨_, g1, c1, rfl, rfl, RA, oz, hbz, hap, sz, hne⟩
        ·
          go_simp
          obtain ⟨Va, hVa⟩ : ∃ V, World.alloc u0 (.cells #[.int .i64 0, .slice none 0 0] 26) = V := ⟨_, rfl⟩
          have hba : Below u0.heap.size u0 Va := by rw [← hVa]; exact (Below.refl _ u0).alloc (show u0.heap.size ≤ u0.heap.size from Nat.le_refl _) _
          have TA : Blk u0.heap.size [.int .i64 0, .slice none 0 0] Va := by rw [← hVa]; exact Blk.new u0 _ _
          have hap : V3_Tx.heap.size ≤ u0.heap.size := BC.size
          replace Tx := Tx.later hba Tx.lt
          replace T1 := T1.later hba T1.lt
          replace ox := ox.later hba
          replace BC := BC.trans (hba.mono BC.size)
          rw [hVa]
          clear hVa hba
          refine hK.out _ _ ⟨Tx, T1⟩ (fun hHeld2 => ?_)
          clear hK K hHeld
          have hHeld := hHeld2
          clear hHeld2
          try simp only [Act.put, List.setIfInBounds_toArray, List.set_cons_zero, List.set_cons_succ]
          refine wpAnyH_ready (rs := [5]) (by kernel_rfl) (by simp) ?_
          refine AllReadyH.cons (i := 5) rfl (fun K hK => ?_) AllReadyH.nil
          go_simp
          refine (HI (some ⟨gx, 0, none⟩) xs.length _ ox.row).mono ?_
          rintro e u1 ⟨g1, c1, rfl, o1, hbu⟩
          have hne : ∀ kk, (Value.slice g1 tl.length c1).ownBlock = some kk → kk ≠ u0.heap.size := fun kk hkk => by have := (World.ownsRow.lt o1 kk hkk).1; have := TA.lt; omega
          replace o1 := Own3.le o1 BC.size
          replace TA := TA.later hbu TA.lt
          replace Tx := Tx.later hbu Tx.lt
          replace T1 := T1.later hbu T1.lt
          replace ox := ox.later hbu
          replace BC := BC.trans (hbu.mono BC.size)
          clear hbu
          go_wp2_with fail
          refine hK.out _ _ ⟨Tx, T1⟩ (fun hHeld2 => ?_)
          clear hK K hHeld
          have hHeld := hHeld2
          clear hHeld2
          try simp only [Act.put, List.setIfInBounds_toArray, List.set_cons_zero, List.set_cons_succ]
          refine take_one 6 37 (v := ?_) rfl rfl (by kernel_rfl) (by kernel_rfl) (by kernel_rfl) (fun _ _ _ h => by obtain ⟨_, _, _, h, _⟩ := h; cases h) (Or.inl ⟨by rfl, ?_⟩) hHeld ?_
          rotate_left
          · intro w' hSw; (try dsimp only at hSw); have c0 := hSw.1.at 0 rfl; have c1 := hSw.1.at 1 rfl; have c2 := hSw.2.at 0 rfl; have c3 := hSw.2.at 1 rfl; have c4 := hSw.2.at 2 rfl; go_simp; try with_reducible rfl
          try simp only [Act.put, List.setIfInBounds_toArray, List.set_cons_zero, List.set_cons_succ]
          refine take_one 7 44 (v := ?_) rfl rfl (by kernel_rfl) (by kernel_rfl) (by kernel_rfl) (fun _ _ _ h => by obtain ⟨_, _, _, h, _⟩ := h; cases h) (Or.inl ⟨by rfl, ?_⟩) hHeld ?_
          rotate_left
          · intro w' hSw; (try dsimp only at hSw); have c0 := hSw.1.at 0 rfl; have c1 := hSw.1.at 1 rfl; have c2 := hSw.2.at 0 rfl; have c3 := hSw.2.at 1 rfl; have c4 := hSw.2.at 2 rfl; go_simp; try with_reducible rfl
          try simp only [Act.put, List.setIfInBounds_toArray, List.set_cons_zero, List.set_cons_succ]
          refine take_one 8 45 (v := ?_) rfl rfl (by kernel_rfl) (by kernel_rfl) (by kernel_rfl) (fun _ _ _ h => by obtain ⟨_, _, _, h, _⟩ := h; cases h) (Or.inl ⟨by rfl, ?_⟩) hHeld ?_
          rotate_left
          · intro w' hSw; (try dsimp only at hSw); have c0 := hSw.1.at 0 rfl; have c1 := hSw.1.at 1 rfl; have c2 := hSw.2.at 0 rfl; have c3 := hSw.2.at 1 rfl; have c4 := hSw.2.at 2 rfl; go_simp; try with_reducible rfl
          try simp only [Act.put, List.setIfInBounds_toArray, List.set_cons_zero, List.set_cons_succ]
          have e0 := TA.at 0 rfl
          have f0 := TA.fz 0 rfl
          have e1 := TA.at 1 rfl
          have f1 := TA.fz 1 rfl
          have RA : Blk (u0.heap.size) [.int .i64 tq, .slice g1 tl.length c1] ((u1.setCell ⟨u0.heap.size, 0, none⟩ (.int .i64 tq)).setCell ⟨u0.heap.size, 1, none⟩ (.slice g1 tl.length c1)) := (TA.set 0 (.int .i64 tq)).set 1 (.slice g1 tl.length c1)
          have hbz : Below V3_Tx.heap.size V3_Tx ((u1.setCell ⟨u0.heap.size, 0, none⟩ (.int .i64 tq)).setCell ⟨u0.heap.size, 1, none⟩ (.slice g1 tl.length c1)) := (BC.setCell (p := ⟨u0.heap.size, 0, none⟩) hap _).setCell (p := ⟨u0.heap.size, 1, none⟩) hap _
          have oz : Own3 V3_Tx.heap.size g1 c1 tl ((u1.setCell ⟨u0.heap.size, 0, none⟩ (.int .i64 tq)).setCell ⟨u0.heap.size, 1, none⟩ (.slice g1 tl.length c1)) := own_far (own_far o1 hne 0 _) hne 1 _
          have sz : u0.heap.size < ((u1.setCell ⟨u0.heap.size, 0, none⟩ (.int .i64 tq)).setCell ⟨u0.heap.size, 1, none⟩ (.slice g1 tl.length c1)).heap.size := by have := TA.lt; simpa using this
          have Z_Tx := (Tx.far (g' := u0.heap.size) (fun e => by have := N_Tx.out; omega) 0 (.int .i64 tq)).far (g' := u0.heap.size) (fun e => by have := N_Tx.out; omega) 1 (.slice g1 tl.length c1)
          have Z_T1 := (T1.far (g' := u0.heap.size) (fun e => by have := N_T1.out; omega) 0 (.int .i64 tq)).far (g' := u0.heap.size) (fun e => by have := N_T1.out; omega) 1 (.slice g1 tl.length c1)
          refine wpAnyH_ready (rs := [10]) (by kernel_rfl) (by simp) ?_
          refine AllReadyH.cons (i := 10) rfl (fun K hK => ?_) AllReadyH.nil
          go_simp
          refine hK.out _ _ ⟨Z_Tx, Z_T1⟩ (fun hHeld2 => ?_)
          clear hK K hHeld
          have hHeld := hHeld2
          clear hHeld2
          try simp only [Act.put, List.setIfInBounds_toArray, List.set_cons_zero, List.set_cons_succ]
          refine take_one 11 14 (v := ?_) rfl rfl (by kernel_rfl) (by kernel_rfl) (by kernel_rfl) (fun _ _ _ h => by obtain ⟨_, _, _, h, _⟩ := h; cases h) (Or.inl ⟨by rfl, ?_⟩) hHeld ?_
          rotate_left
          · intro w' hSw; (try dsimp only at hSw); have c0 := hSw.1.at 0 rfl; have c1 := hSw.1.at 1 rfl; have c2 := hSw.2.at 0 rfl; have c3 := hSw.2.at 1 rfl; have c4 := hSw.2.at 2 rfl; go_simp; try with_reducible rfl
          try simp only [Act.put, List.setIfInBounds_toArray, List.set_cons_zero, List.set_cons_succ]
          refine wpAnyH_done (by kernel_rfl) ?_ _
          exact ⟨_, g1, c1, rfl, rfl, RA, oz, hbz, hap, sz, hne⟩
      ·
        go_simp
        obtain ⟨Va, hVa⟩ : ∃ V, World.alloc V3_Tx.drew (.cells #[.int .i64 0, .slice none 0 0] 26) = V := ⟨_, rfl⟩
        have hba : Below V3_Tx.heap.size V3_Tx.drew Va := by rw [← hVa]; exact (Below.refl _ V3_Tx.drew).alloc (show V3_Tx.heap.size ≤ V3_Tx.drew.heap.size from Nat.le_refl _) _
        have TA : Blk V3_Tx.heap.size [.int .i64 0, .slice none 0 0] Va := by rw [← hVa]; exact Blk.new V3_Tx.drew _ _
        have hap : V3_Tx.heap.size ≤ V3_Tx.heap.size := BC.size
        replace Tx := Tx.later hba Tx.lt
        replace T1 := T1.later hba T1.lt
        replace ox := ox.later hba
        replace BC := BC.trans (hba.mono BC.size)
        rw [show (World.alloc V3_Tx (.cells #[.int .i64 0, .slice none 0 0] 26)).drew = Va from hVa]
        clear hVa hba
        refine hK.out _ _ ⟨Tx, T1⟩ (fun hHeld2 => ?_)
        clear hK K hHeld
        have hHeld := hHeld2
        clear hHeld2
        try simp only [Act.put, List.setIfInBounds_toArray, List.set_cons_zero, List.set_cons_succ]
        refine wpAnyH_ready (rs := [2]) (by kernel_rfl) (by simp) ?_
        refine AllReadyH.cons (i := 2) rfl (fun K hK => ?_) AllReadyH.nil
        go_simp
        refine (toAuth_is x y z _).mono ?_
        rintro e u0 ⟨rfl, hbu⟩
        replace TA := TA.later hbu TA.lt
        replace Tx := Tx.later hbu Tx.lt
        replace T1 := T1.later hbu T1.lt
        replace ox := ox.later hbu
        replace BC := BC.trans (hbu.mono BC.size)
        clear hbu
        go_wp2_with fail
        refine hK.out _ _ ⟨Tx, T1⟩ (fun hHeld2 => ?_)
        clear hK K hHeld
        have hHeld := hHeld2
        clear hHeld2
        try simp only [Act.put, List.setIfInBounds_toArray, List.set_cons_zero, List.set_cons_succ]
        refine wpAnyH_ready (rs := [5]) (by kernel_rfl) (by simp) ?_
        refine AllReadyH.cons (i := 5) rfl (fun K hK => ?_) AllReadyH.nil
        go_simp
        refine (HI (some ⟨gx, 0, none⟩) xs.length _ ox.row).mono ?_
        rintro e u1 ⟨g1, c1, rfl, o1, hbu⟩
        have hne : ∀ kk, (Value.slice g1 tl.length c1).ownBlock = some kk → kk ≠ V3_Tx.heap.size := fun kk hkk => by have := (World.ownsRow.lt o1 kk hkk).1; have := TA.lt; omega
        replace o1 := Own3.le o1 BC.size
        replace TA := TA.later hbu TA.lt
        replace Tx := Tx.later hbu Tx.lt
        replace T1 := T1.later hbu T1.lt
        replace ox := ox.later hbu
        replace BC := BC.trans (hbu.mono BC.size)
        clear hbu
        go_wp2_with fail
        refine hK.out _ _ ⟨Tx, T1⟩ (fun hHeld2 => ?_)
        clear hK K hHeld
        have hHeld := hHeld2
        clear hHeld2
        try simp only [Act.put, List.setIfInBounds_toArray, List.set_cons_zero, List.set_cons_succ]
        refine take_one 6 37 (v := ?_) rfl rfl (by kernel_rfl) (by kernel_rfl) (by kernel_rfl) (fun _ _ _ h => by obtain ⟨_, _, _, h, _⟩ := h; cases h) (Or.inl ⟨by rfl, ?_⟩) hHeld ?_
        rotate_left
        · intro w' hSw; (try dsimp only at hSw); have c0 := hSw.1.at 0 rfl; have c1 := hSw.1.at 1 rfl; have c2 := hSw.2.at 0 rfl; have c3 := hSw.2.at 1 rfl; have c4 := hSw.2.at 2 rfl; go_simp; try with_reducible rfl
        try simp only [Act.put, List.setIfInBounds_toArray, List.set_cons_zero, List.set_cons_succ]
        refine take_one 7 44 (v := ?_) rfl rfl (by kernel_rfl) (by kernel_rfl) (by kernel_rfl) (fun _ _ _ h => by obtain ⟨_, _, _, h, _⟩ := h; cases h) (Or.inl ⟨by rfl, ?_⟩) hHeld ?_
        rotate_left
        · intro w' hSw; (try dsimp only at hSw); have c0 := hSw.1.at 0 rfl; have c1 := hSw.1.at 1 rfl; have c2 := hSw.2.at 0 rfl; have c3 := hSw.2.at 1 rfl; have c4 := hSw.2.at 2 rfl; go_simp; try with_reducible rfl
        try simp only [Act.put, List.setIfInBounds_toArray, List.set_cons_zero, List.set_cons_succ]
        refine take_one 8 45 (v := ?_) rfl rfl (by kernel_rfl) (by kernel_rfl) (by kernel_rfl) (fun _ _ _ h => by obtain ⟨_, _, _, h, _⟩ := h; cases h) (Or.inl ⟨by rfl, ?_⟩) hHeld ?_
        rotate_left
        · intro w' hSw; (try dsimp only at hSw); have c0 := hSw.1.at 0 rfl; have c1 := hSw.1.at 1 rfl; have c2 := hSw.2.at 0 rfl; have c3 := hSw.2.at 1 rfl; have c4 := hSw.2.at 2 rfl; go_simp; try with_reducible rfl
        try simp only [Act.put, List.setIfInBounds_toArray, List.set_cons_zero, List.set_cons_succ]
        have e0 := TA.at 0 rfl
        have f0 := TA.fz 0 rfl
        have e1 := TA.at 1 rfl
        have f1 := TA.fz 1 rfl
        have RA : Blk (V3_Tx.heap.size) [.int .i64 tq, .slice g1 tl.length c1] ((u1.setCell ⟨V3_Tx.heap.size, 0, none⟩ (.int .i64 tq)).setCell ⟨V3_Tx.heap.size, 1, none⟩ (.slice g1 tl.length c1)) := (TA.set 0 (.int .i64 tq)).set 1 (.slice g1 tl.length c1)
        have hbz : Below V3_Tx.heap.size V3_Tx ((u1.setCell ⟨V3_Tx.heap.size, 0, none⟩ (.int .i64 tq)).setCell ⟨V3_Tx.heap.size, 1, none⟩ (.slice g1 tl.length c1)) := (BC.setCell (p := ⟨V3_Tx.heap.size, 0, none⟩) hap _).setCell (p := ⟨V3_Tx.heap.size, 1, none⟩) hap _
        have oz : Own3 V3_Tx.heap.size g1 c1 tl ((u1.setCell ⟨V3_Tx.heap.size, 0, none⟩ (.int .i64 tq)).setCell ⟨V3_Tx.heap.size, 1, none⟩ (.slice g1 tl.length c1)) := own_far (own_far o1 hne 0 _) hne 1 _
        have sz : V3_Tx.heap.size < ((u1.setCell ⟨V3_Tx.heap.size, 0, none⟩ (.int .i64 tq)).setCell ⟨V3_Tx.heap.size, 1, none⟩ (.slice g1 tl.length c1)).heap.size := by have := TA.lt; simpa using this
        have Z_Tx := (Tx.far (g' := V3_Tx.heap.size) (fun e => by have := N_Tx.out; omega) 0 (.int .i64 tq)).far (g' := V3_Tx.heap.size) (fun e => by have := N_Tx.out; omega) 1 (.slice g1 tl.length c1)
        have Z_T1 := (T1.far (g' := V3_Tx.heap.size) (fun e => by have := N_T1.out; omega) 0 (.int .i64 tq)).far (g' := V3_Tx.heap.size) (fun e => by have := N_T1.out; omega) 1 (.slice g1 tl.length c1)
        refine wpAnyH_ready (rs := [10]) (by kernel_rfl) (by simp) ?_
        refine AllReadyH.cons (i := 10) rfl (fun K hK => ?_) AllReadyH.nil
        go_simp
        refine hK.out _ _ ⟨Z_Tx, Z_T1⟩ (fun hHeld2 => ?_)
        clear hK K hHeld
        have hHeld := hHeld2
        clear hHeld2
        try simp only [Act.put, List.setIfInBounds_toArray, List.set_cons_zero, List.set_cons_succ]
        refine take_one 11 14 (v := ?_) rfl rfl (by kernel_rfl) (by kernel_rfl) (by kernel_rfl) (fun _ _ _ h => by obtain ⟨_, _, _, h, _⟩ := h; cases h) (Or.inl ⟨by rfl, ?_⟩) hHeld ?_
        rotate_left
        · intro w' hSw; (try dsimp only at hSw); have c0 := hSw.1.at 0 rfl; have c1 := hSw.1.at 1 rfl; have c2 := hSw.2.at 0 rfl; have c3 := hSw.2.at 1 rfl; have c4 := hSw.2.at 2 rfl; go_simp; try with_reducible rfl
        try simp only [Act.put, List.setIfInBounds_toArray, List.set_cons_zero, List.set_cons_succ]
        refine wpAnyH_done (by kernel_rfl) ?_ _
        exact ⟨_, g1, c1, rfl, rfl, RA, oz, hbz, hap, sz, hne⟩
    rintro ex a' w4 ⟨p4, g4, c4, rfl, rfl, Tg, og, hbz, hp4, hq4, hne4⟩
    replace T0 := T0.later hbz T0.lt
    replace T1 := T1.later hbz T1.lt
    replace Tw := Tw.later hbz Tw.lt
    replace Tx := Tx.later hbz Tx.lt
    replace ow := ow.later hbz
    replace ox := ox.later hbz
    replace b0 := b0.trans (hbz.mono b0.size)
    clear hbz
    have ug : ∀ kk, (Value.slice g4 tl.length c4).ownBlock = some kk → V3_Tx.heap.size ≤ kk := fun kk hkk => (World.ownsRow.lt og kk hkk).1
    have q_T0_0 := T0.at 0 rfl
    have q_T0_1 := T0.at 1 rfl
    have q_T1_0 := T1.at 0 rfl
    have q_T1_1 := T1.at 1 rfl
    have q_T1_2 := T1.at 2 rfl
    have q_Tw_0 := Tw.at 0 rfl
    have q_Tw_1 := Tw.at 1 rfl
    have q_Tx_0 := Tx.at 0 rfl
    have q_Tx_1 := Tx.at 1 rfl
    have q_Tg_0 := Tg.at 0 rfl
    have q_Tg_1 := Tg.at 1 rfl
    have HX := eqC_is tq g4 g2 c4 c2 tl w4 og.row ow.row (by omega)
    go_wp2_with fail
    refine HX.mono ?_
    clear HX q_T0_0 q_T0_1 q_T1_0 q_T1_1 q_T1_2 q_Tw_0 q_Tw_1 q_Tx_0 q_Tx_1 q_Tg_0 q_Tg_1
    rintro e w5 ⟨rfl, hb5⟩
    replace T0 := T0.later hb5 T0.lt
    replace T1 := T1.later hb5 T1.lt
    replace Tw := Tw.later hb5 Tw.lt
    replace Tx := Tx.later hb5 Tx.lt
    replace Tg := Tg.later hb5 Tg.lt
    replace ow := ow.later hb5
    replace ox := ox.later hb5
    replace og := og.later hb5
    replace b0 := b0.trans (hb5.mono b0.size)
    clear hb5
    have q_T0_0 := T0.at 0 rfl
    have q_T0_1 := T0.at 1 rfl
    have q_T1_0 := T1.at 0 rfl
    have q_T1_1 := T1.at 1 rfl
    have q_T1_2 := T1.at 2 rfl
    have q_Tw_0 := Tw.at 0 rfl
    have q_Tw_1 := Tw.at 1 rfl
    have q_Tx_0 := Tx.at 0 rfl
    have q_Tx_1 := Tx.at 1 rfl
    have q_Tg_0 := Tg.at 0 rfl
    have q_Tg_1 := Tg.at 1 rfl
    go_wp2_with fail
    clear q_T0_0 q_T0_1 q_T1_0 q_T1_1 q_T1_2 q_Tw_0 q_Tw_1 q_Tx_0 q_Tx_1 q_Tg_0 q_Tg_1
    refine wp_region_held_drew (S := (fun V : World => Blk w.heap.size [.int .i64 q, .slice a xs.length cap] V ∧ Blk w3.heap.size [.int .i64 q, .slice (some ⟨gx, 0, none⟩) xs.length xs.length] V)) (by kernel_rfl) ⟨T0.drew, Tx.drew⟩ (fun hHeld => ?_)
    refine take_one 0 55 (v := ?_) rfl rfl (by kernel_rfl) (by kernel_rfl) (by kernel_rfl) (fun _ _ _ h => h) (Or.inl ⟨by rfl, ?_⟩) hHeld ?_
    rotate_left
    · intro w' hSw; (try dsimp only at hSw); have c0 := hSw.1.at 0 rfl; have c1 := hSw.1.at 1 rfl; have c2 := hSw.2.at 0 rfl; have c3 := hSw.2.at 1 rfl; go_simp; try with_reducible rfl
    try simp only [Act.put, List.setIfInBounds_toArray, List.set_cons_zero, List.set_cons_succ]
    refine take_one 1 56 (v := ?_) rfl rfl (by kernel_rfl) (by kernel_rfl) (by kernel_rfl) (fun _ _ _ h => h) (Or.inl ⟨by rfl, ?_⟩) hHeld ?_
    rotate_left
    · intro w' hSw; (try dsimp only at hSw); have c0 := hSw.1.at 0 rfl; have c1 := hSw.1.at 1 rfl; have c2 := hSw.2.at 0 rfl; have c3 := hSw.2.at 1 rfl; go_simp; try with_reducible rfl
    try simp only [Act.put, List.setIfInBounds_toArray, List.set_cons_zero, List.set_cons_succ]
    refine wpAnyH_ready (rs := [2]) (by kernel_rfl) (by simp) ?_
    refine AllReadyH.cons (i := 2) rfl (fun K hK => ?_) AllReadyH.nil
    go_simp
    refine (toC_is q a cap xs w5.drew ((hr.later b0).drew) hl).mono ?_
    rintro e wa ⟨ga, rfl, oa, hba⟩
    go_wp2_with fail
    refine hK.out _ _ ⟨T0.drew.later hba T0.lt, Tx.drew.later hba Tx.lt⟩ (fun hHeld2 => ?_)
    clear hK K hHeld
    have hHeld := hHeld2
    clear hHeld2
    try simp only [Act.put, List.setIfInBounds_toArray, List.set_cons_zero, List.set_cons_succ]
    refine wpAnyH_ready (rs := [3]) (by kernel_rfl) (by simp) ?_
    refine AllReadyH.cons (i := 3) rfl (fun K hK => ?_) AllReadyH.nil
    go_simp
    refine (eqC_is q (some ⟨gx, 0, none⟩) (some ⟨ga, 0, none⟩) xs.length xs.length xs wa (ARow.later (ARow.drew ox.row) hba) oa.row hl).mono ?_
    rintro e wb ⟨rfl, hbb⟩
    go_wp2_with fail
    refine hK.out _ _ ⟨(T0.drew.later hba T0.lt).later hbb (Nat.lt_of_lt_of_le T0.lt hba.size), (Tx.drew.later hba Tx.lt).later hbb (Nat.lt_of_lt_of_le Tx.lt hba.size)⟩ (fun hHeld2 => ?_)
    clear hK K hHeld
    have hHeld := hHeld2
    clear hHeld2
    try simp only [Act.put, List.setIfInBounds_toArray, List.set_cons_zero, List.set_cons_succ]
    refine take_one 4 59 (v := ?_) rfl rfl (by kernel_rfl) (by kernel_rfl) (by kernel_rfl) (fun _ _ _ h => h) (Or.inl ⟨by rfl, ?_⟩) hHeld ?_
    rotate_left
    · intro w' hSw; (try dsimp only at hSw); have c0 := hSw.1.at 0 rfl; have c1 := hSw.1.at 1 rfl; have c2 := hSw.2.at 0 rfl; have c3 := hSw.2.at 1 rfl; go_simp; try with_reducible rfl
    try simp only [Act.put, List.setIfInBounds_toArray, List.set_cons_zero, List.set_cons_succ]
    refine wpAnyH_done (by kernel_rfl) ?_ _
    have hbd : Below w5.heap.size w5 wb := ((Below.refl _ _).drew.trans hba).trans (hbb.mono hba.size)
    replace T0 := T0.later hbd T0.lt
    replace T1 := T1.later hbd T1.lt
    replace Tw := Tw.later hbd Tw.lt
    replace Tx := Tx.later hbd Tx.lt
    replace Tg := Tg.later hbd Tg.lt
    replace ow := ow.later hbd
    replace ox := ox.later hbd
    replace og := og.later hbd
    replace b0 := b0.trans (hbd.mono b0.size)
    clear hbd hba hbb hHeld oa
    have q_T0_0 := T0.at 0 rfl
    have q_T0_1 := T0.at 1 rfl
    have q_T1_0 := T1.at 0 rfl
    have q_T1_1 := T1.at 1 rfl
    have q_T1_2 := T1.at 2 rfl
    have q_Tw_0 := Tw.at 0 rfl
    have q_Tw_1 := Tw.at 1 rfl
    have q_Tx_0 := Tx.at 0 rfl
    have q_Tx_1 := Tx.at 1 rfl
    have q_Tg_0 := Tg.at 0 rfl
    have q_Tg_1 := Tg.at 1 rfl
    have HX := markC_is w2.heap.size q (some ⟨gx, 0, none⟩) xs.length xs wb ox hl
    go_wp2_with fail
    refine HX.mono ?_
    clear HX q_T0_0 q_T0_1 q_T1_0 q_T1_1 q_T1_2 q_Tw_0 q_Tw_1 q_Tx_0 q_Tx_1 q_Tg_0 q_Tg_1
    rintro e w6 ⟨rfl, _, hg⟩
    have hmx : decide (((xs.length * 3 + 1 : Nat) : Int) < 0) = false := decide_eq_false (by omega)
    generalize ((xs.length * 3 + 1 : Nat) : Int) = mx at hmx
    have hg2 : wb.grownBy w6 (some gx) := hg
    have low0 := b0.size
    have z0 : w.heap.size + 1 < w2.heap.size := Z1.out
    replace T0 := T0.grown hg2 T0.lt (fun e => by have := Option.some.inj e; omega)
    replace T1 := T1.grown hg2 T1.lt (fun e => by have := Option.some.inj e; omega)
    replace Tw := Tw.grown hg2 Tw.lt (fun e => by have := Option.some.inj e; omega)
    replace Tg := Tg.grown hg2 Tg.lt (fun e => by have := Option.some.inj e; omega)
    replace ow := Own3.at (B' := 0) (a' := some ⟨gx, 0, none⟩) (c' := xs.length) (ys := xs) ow hg (fun kk hkk h2 => by have e1 : gx = kk := Option.some.inj hkk; have := uw kk h2; omega)
    replace og := Own3.at (B' := 0) (a' := some ⟨gx, 0, none⟩) (c' := xs.length) (ys := xs) og hg (fun kk hkk h2 => by have e1 : gx = kk := Option.some.inj hkk; have := ug kk h2; omega)
    replace b0 := b0.grown hg2 b0.size (fun kk e => by cases e; omega)
    clear hg hg2 ox Tx
    have q_T0_0 := T0.at 0 rfl
    have q_T0_1 := T0.at 1 rfl
    have q_T1_0 := T1.at 0 rfl
    have q_T1_1 := T1.at 1 rfl
    have q_T1_2 := T1.at 2 rfl
    have q_Tw_0 := Tw.at 0 rfl
    have q_Tw_1 := Tw.at 1 rfl
    have q_Tg_0 := Tg.at 0 rfl
    have q_Tg_1 := Tg.at 1 rfl
    have HX := eqC_is tq g4 g2 c4 c2 tl w6 og.row ow.row (by omega)
    go_wp2_with fail
    refine HX.mono ?_
    clear HX q_T0_0 q_T0_1 q_T1_0 q_T1_1 q_T1_2 q_Tw_0 q_Tw_1 q_Tg_0 q_Tg_1
    rintro e w7 ⟨rfl, hb7⟩
    replace T0 := T0.later hb7 T0.lt
    replace T1 := T1.later hb7 T1.lt
    replace Tw := Tw.later hb7 Tw.lt
    replace Tg := Tg.later hb7 Tg.lt
    replace ow := ow.later hb7
    replace og := og.later hb7
    replace b0 := b0.trans (hb7.mono b0.size)
    clear hb7
    have q_T0_0 := T0.at 0 rfl
    have q_T0_1 := T0.at 1 rfl
    have q_T1_0 := T1.at 0 rfl
    have q_T1_1 := T1.at 1 rfl
    have q_T1_2 := T1.at 2 rfl
    have q_Tw_0 := Tw.at 0 rfl
    have q_Tw_1 := Tw.at 1 rfl
    have q_Tg_0 := Tg.at 0 rfl
    have q_Tg_1 := Tg.at 1 rfl
    have HX := markC_is V3_Tx.heap.size tq g4 c4 tl w7 og (by omega)
    go_wp2_with fail
    refine HX.mono ?_
    clear HX q_T0_0 q_T0_1 q_T1_0 q_T1_1 q_T1_2 q_Tw_0 q_Tw_1 q_Tg_0 q_Tg_1
    rintro e w8 ⟨rfl, om0, hg⟩
    have om : OwnM V3_Tx.heap.size g4 c4 tl.length w8 := om0
    have hmg : decide (((tl.length * 3 + 1 : Nat) : Int) < 0) = false := decide_eq_false (by omega)
    have HH := fun W (h : ARow W g4 (mk3 tl.length)) => heldC_is tq g4 tl.length c4 W h (by omega)
    generalize ((tl.length * 3 + 1 : Nat) : Int) = mg at hmg HH
    replace T0 := T0.grown hg T0.lt (fun e => by have := ug _ e; omega)
    replace T1 := T1.grown hg T1.lt (fun e => by have := ug _ e; omega)
    replace Tw := Tw.grown hg Tw.lt (fun e => by have := ug _ e; omega)
    replace Tg := Tg.grown hg Tg.lt (fun e => hne4 _ e rfl)
    replace ow := Own3.at (B' := 0) (a' := g4) (c' := c4) (ys := tl) ow hg (fun kk hkk h2 => by have := uw kk h2; have := ug kk hkk; omega)
    replace b0 := b0.grown hg b0.size (fun kk e => by have := ug kk e; omega)
    clear hg og om0
    have q_T0_0 := T0.at 0 rfl
    have q_T0_1 := T0.at 1 rfl
    have q_T1_0 := T1.at 0 rfl
    have q_T1_1 := T1.at 1 rfl
    have q_T1_2 := T1.at 2 rfl
    have q_Tw_0 := Tw.at 0 rfl
    have q_Tw_1 := Tw.at 1 rfl
    have q_Tg_0 := Tg.at 0 rfl
    have q_Tg_1 := Tg.at 1 rfl
    have HX := HH w8 om.row
    go_wp2_with fail
    refine HX.mono ?_
    clear HX q_T0_0 q_T0_1 q_T1_0 q_T1_1 q_T1_2 q_Tw_0 q_Tw_1 q_Tg_0 q_Tg_1
    rintro e w9 ⟨rfl, hb9⟩
    replace T0 := T0.later hb9 T0.lt
    replace T1 := T1.later hb9 T1.lt
    replace Tw := Tw.later hb9 Tw.lt
    replace Tg := Tg.later hb9 Tg.lt
    replace ow := ow.later hb9
    replace om := om.later hb9
    replace b0 := b0.trans (hb9.mono b0.size)
    clear hb9
    go_wp2_with fail
    refine Code.wp_mono (Q := (fun ex a' w' => ∃ pa g1 c1 gt, ex = .normal ∧ a' = { tmps := #[cv q a xs.length cap, av x y z, Value.int IntKind.i64 n, Value.int IntKind.i64 k, Value.pointer (some { block := w.heap.size, off := 0 }), Value.pointer (some { block := w.heap.size + 1, off := 0 }), undef, undef, Value.bool false, Value.int IntKind.i64 left, Value.pointer (some { block := p2, off := 0 }), Value.int IntKind.i64 tk, Value.pointer (some { block := w3.heap.size, off := 0 }), Value.pointer (some { block := p4, off := 0 }), Value.int IntKind.i64 tk, Value.int IntKind.i64 mx, Value.int IntKind.i64 mg, Value.int IntKind.i64 mg, .pointer (some ⟨pa, 0, none⟩), .int .i64 tk, Value.agg #[Value.int IntKind.i64 q, Value.slice a xs.length cap], Value.int IntKind.i64 1048576, Value.int IntKind.i64 left, Value.int IntKind.i64 left, Value.bool false, Value.tuple #[cv tq g2 tl.length c2, Value.int IntKind.i64 tk], Value.agg #[Value.int IntKind.i64 q, Value.slice a xs.length cap], cv q (some { block := gt2, off := 0 }) xs.length xs.length, Value.agg #[Value.int IntKind.i64 x, Value.int IntKind.i64 y, Value.int IntKind.i64 z], av x y z, Value.int IntKind.i64 n, Value.int IntKind.i64 k, Value.tuple #[cv tq g2 tl.length c2, Value.int IntKind.i64 tk], cv tq g2 tl.length c2, Value.int IntKind.i64 tk, Value.agg #[Value.int IntKind.i64 q, Value.slice a xs.length cap], cv q (some { block := gx, off := 0 }) xs.length xs.length, Value.tuple #[cv tq g4 tl.length c4, Value.int IntKind.i64 tk], Value.agg #[Value.int IntKind.i64 q, Value.slice (some { block := gx, off := 0 }) xs.length xs.length], Value.agg #[Value.int IntKind.i64 x, Value.int IntKind.i64 y, Value.int IntKind.i64 z], av x y z, Value.int IntKind.i64 n, Value.int IntKind.i64 k, Value.tuple #[cv tq g4 tl.length c4, Value.int IntKind.i64 tk], cv tq g4 tl.length c4, Value.int IntKind.i64 tk, Value.agg #[Value.int IntKind.i64 tq, Value.slice g4 tl.length c4], Value.agg #[Value.int IntKind.i64 tq, Value.slice g2 tl.length c2], Value.bool true, Value.bool false, Value.bool false, Value.int IntKind.i64 tk, Value.int IntKind.i64 tk, Value.bool false, Value.bool false, Value.agg #[Value.int IntKind.i64 q, Value.slice (some { block := gx, off := 0 }) xs.length xs.length], Value.agg #[Value.int IntKind.i64 q, Value.slice a xs.length cap], cv q (some { block := ga, off := 0 }) xs.length xs.length, Value.bool true, Value.bool false, Value.agg #[Value.int IntKind.i64 q, Value.slice (some { block := gx, off := 0 }) xs.length xs.length], Value.int IntKind.i64 1, Value.int IntKind.i64 mx, Value.int IntKind.i64 mx, Value.bool false, Value.bool false, Value.agg #[Value.int IntKind.i64 tq, Value.slice g4 tl.length c4], Value.agg #[Value.int IntKind.i64 tq, Value.slice g2 tl.length c2], Value.bool true, Value.bool false, Value.bool false, Value.bool false, Value.int IntKind.i64 tk, Value.int IntKind.i64 tk, Value.bool false, Value.bool false, Value.agg #[Value.int IntKind.i64 tq, Value.slice g4 tl.length c4], Value.int IntKind.i64 1, Value.int IntKind.i64 mg, Value.agg #[Value.int IntKind.i64 tq, Value.slice g4 tl.length c4], Value.int IntKind.i64 1, Value.int IntKind.i64 mg, Value.int IntKind.i64 mg, Value.bool false, Value.int IntKind.i64 mg, Value.int IntKind.i64 mg, Value.bool false, .tuple #[cv tq g1 tl.length c1, .int .i64 tk], .agg #[.int .i64 q, .slice a xs.length cap], cv q (some ⟨gt, 0, none⟩) xs.length xs.length, .agg #[.int .i64 x, .int .i64 y, .int .i64 z], av x y z, .int .i64 n, .int .i64 k, .tuple #[cv tq g1 tl.length c1, .int .i64 tk], cv tq g1 tl.length c1, .int .i64 tk, undef, undef, undef, undef, undef, undef, undef, undef, undef, undef, undef, undef, undef, undef, undef, undef, undef], defers := [] } ∧ Blk pa [.int .i64 tq, .slice g1 tl.length c1] w' ∧ Own3 w9.heap.size g1 c1 tl w' ∧ Below w9.heap.size w9 w' ∧ w9.heap.size ≤ pa ∧ pa < w'.heap.size ∧ ∀ kk, (Value.slice g1 tl.length c1).ownBlock = some kk → kk ≠ pa)) ?imp24 ?reg24
    case reg24 =>
      have BC : Below w9.heap.size w9 w9.drew := (Below.refl _ _).drew
      have N_T0 : Hid (_ < w9.heap.size) := T0.lt
      have N_T1 : Hid (_ < w9.heap.size) := T1.lt
      replace T0 := T0.drew
      replace T1 := T1.drew
      refine wp_region_held_drew (S := (fun V : World => Blk w.heap.size [.int .i64 q, .slice a xs.length cap] V ∧ Blk (w.heap.size + 1) [.int .i64 x, .int .i64 y, .int .i64 z] V)) (by kernel_rfl) ⟨T0, T1⟩ (fun hHeld => ?_)
      refine take_one 0 88 (v := ?_) rfl rfl (by kernel_rfl) (by kernel_rfl) (by kernel_rfl) (fun _ _ _ h => by obtain ⟨_, _, _, _, h, _⟩ := h; cases h) (Or.inl ⟨by rfl, ?_⟩) hHeld ?_
      rotate_left
      · intro w' hSw; (try dsimp only at hSw); have c0 := hSw.1.at 0 rfl; have c1 := hSw.1.at 1 rfl; have c2 := hSw.2.at 0 rfl; have c3 := hSw.2.at 1 rfl; have c4 := hSw.2.at 2 rfl; go_simp; try with_reducible rfl
      try simp only [Act.put, List.setIfInBounds_toArray, List.set_cons_zero, List.set_cons_succ]
      refine take_one 2 90 (v := ?_) rfl rfl (by kernel_rfl) (by kernel_rfl) (by kernel_rfl) (fun _ _ _ h => by obtain ⟨_, _, _, _, h, _⟩ := h; cases h) (Or.inl ⟨by rfl, ?_⟩) hHeld ?_
      rotate_left
      · intro w' hSw; (try dsimp only at hSw); have c0 := hSw.1.at 0 rfl; have c1 := hSw.1.at 1 rfl; have c2 := hSw.2.at 0 rfl; have c3 := hSw.2.at 1 rfl; have c4 := hSw.2.at 2 rfl; go_simp; try with_reducible rfl
      try simp only [Act.put, List.setIfInBounds_toArray, List.set_cons_zero, List.set_cons_succ]
      refine take_one 4 92 (v := ?_) rfl rfl (by kernel_rfl) (by kernel_rfl) (by kernel_rfl) (fun _ _ _ h => by obtain ⟨_, _, _, _, h, _⟩ := h; cases h) (Or.inl ⟨by rfl, ?_⟩) hHeld ?_
      rotate_left
      · intro w' hSw; (try dsimp only at hSw); have c0 := hSw.1.at 0 rfl; have c1 := hSw.1.at 1 rfl; have c2 := hSw.2.at 0 rfl; have c3 := hSw.2.at 1 rfl; have c4 := hSw.2.at 2 rfl; go_simp; try with_reducible rfl
      try simp only [Act.put, List.setIfInBounds_toArray, List.set_cons_zero, List.set_cons_succ]
      refine take_one 5 93 (v := ?_) rfl rfl (by kernel_rfl) (by kernel_rfl) (by kernel_rfl) (fun _ _ _ h => by obtain ⟨_, _, _, _, h, _⟩ := h; cases h) (Or.inl ⟨by rfl, ?_⟩) hHeld ?_
      rotate_left
      · intro w' hSw; (try dsimp only at hSw); have c0 := hSw.1.at 0 rfl; have c1 := hSw.1.at 1 rfl; have c2 := hSw.2.at 0 rfl; have c3 := hSw.2.at 1 rfl; have c4 := hSw.2.at 2 rfl; go_simp; try with_reducible rfl
      try simp only [Act.put, List.setIfInBounds_toArray, List.set_cons_zero, List.set_cons_succ]
      refine wpAnyH_ready (rs := [1, 10]) (by kernel_rfl) (by simp) ?_
      refine AllReadyH.cons (i := 1) rfl (fun K hK => ?_) (AllReadyH.cons (i := 10) rfl (fun K hK => ?_) AllReadyH.nil)
      ·
        go_simp
        refine (toC_is q a cap xs _ (hr.later (b0.trans (BC.mono b0.size))) hl).mono ?_
        rintro e u0 ⟨gt, rfl, ot, hbu⟩
        replace T0 := T0.later hbu T0.lt
        replace T1 := T1.later hbu T1.lt
        replace BC := BC.trans (hbu.mono BC.size)
        clear hbu
        go_wp2_with fail
        refine hK.out _ _ ⟨T0, T1⟩ (fun hHeld2 => ?_)
        clear hK K hHeld
        have hHeld := hHeld2
        clear hHeld2
        try simp only [Act.put, List.setIfInBounds_toArray, List.set_cons_zero, List.set_cons_succ]
        refine wpAnyH_ready (rs := [3, 10]) (by kernel_rfl) (by simp) ?_
        refine AllReadyH.cons (i := 3) rfl (fun K hK => ?_) (AllReadyH.cons (i := 10) rfl (fun K hK => ?_) AllReadyH.nil)
        ·
          go_simp
          refine (toAuth_is x y z _).mono ?_
          rintro e u1 ⟨rfl, hbu⟩
          replace T0 := T0.later hbu T0.lt
          replace T1 := T1.later hbu T1.lt
          replace ot := ot.later hbu
          replace BC := BC.trans (hbu.mono BC.size)
          clear hbu
          go_wp2_with fail
          refine hK.out _ _ ⟨T0, T1⟩ (fun hHeld2 => ?_)
          clear hK K hHeld
          have hHeld := hHeld2
          clear hHeld2
          try simp only [Act.put, List.setIfInBounds_toArray, List.set_cons_zero, List.set_cons_succ]
          refine wpAnyH_ready (rs := [6, 10]) (by kernel_rfl) (by simp) ?_
          refine AllReadyH.cons (i := 6) rfl (fun K hK => ?_) (AllReadyH.cons (i := 10) rfl (fun K hK => ?_) AllReadyH.nil)
          ·
            go_simp
            refine (HI (some ⟨gt, 0, none⟩) xs.length _ ot.row).mono ?_
            rintro e u2 ⟨g1, c1, rfl, o1, hbu⟩
            replace o1 := Own3.le o1 BC.size
            replace T0 := T0.later hbu T0.lt
            replace T1 := T1.later hbu T1.lt
            replace ot := ot.later hbu
            replace BC := BC.trans (hbu.mono BC.size)
            clear hbu
            go_wp2_with fail
            refine hK.out _ _ ⟨T0, T1⟩ (fun hHeld2 => ?_)
            clear hK K hHeld
            have hHeld := hHeld2
            clear hHeld2
            try simp only [Act.put, List.setIfInBounds_toArray, List.set_cons_zero, List.set_cons_succ]
            refine take_one 7 87 (v := ?_) rfl rfl (by kernel_rfl) (by kernel_rfl) (by kernel_rfl) (fun _ _ _ h => by obtain ⟨_, _, _, _, h, _⟩ := h; cases h) (Or.inl ⟨by rfl, ?_⟩) hHeld ?_
            rotate_left
            · intro w' hSw; (try dsimp only at hSw); have c0 := hSw.1.at 0 rfl; have c1 := hSw.1.at 1 rfl; have c2 := hSw.2.at 0 rfl; have c3 := hSw.2.at 1 rfl; have c4 := hSw.2.at 2 rfl; go_simp; try with_reducible rfl
            try simp only [Act.put, List.setIfInBounds_toArray, List.set_cons_zero, List.set_cons_succ]
            refine take_one 8 95 (v := ?_) rfl rfl (by kernel_rfl) (by kernel_rfl) (by kernel_rfl) (fun _ _ _ h => by obtain ⟨_, _, _, _, h, _⟩ := h; cases h) (Or.inl ⟨by rfl, ?_⟩) hHeld ?_
            rotate_left
            · intro w' hSw; (try dsimp only at hSw); have c0 := hSw.1.at 0 rfl; have c1 := hSw.1.at 1 rfl; have c2 := hSw.2.at 0 rfl; have c3 := hSw.2.at 1 rfl; have c4 := hSw.2.at 2 rfl; go_simp; try with_reducible rfl
            try simp only [Act.put, List.setIfInBounds_toArray, List.set_cons_zero, List.set_cons_succ]
            refine take_one 9 96 (v := ?_) rfl rfl (by kernel_rfl) (by kernel_rfl) (by kernel_rfl) (fun _ _ _ h => by obtain ⟨_, _, _, _, h, _⟩ := h; cases h) (Or.inl ⟨by rfl, ?_⟩) hHeld ?_
            rotate_left
            · intro w' hSw; (try dsimp only at hSw); have c0 := hSw.1.at 0 rfl; have c1 := hSw.1.at 1 rfl; have c2 := hSw.2.at 0 rfl; have c3 := hSw.2.at 1 rfl; have c4 := hSw.2.at 2 rfl; go_simp; try with_reducible rfl
            try simp only [Act.put, List.setIfInBounds_toArray, List.set_cons_zero, List.set_cons_succ]
            refine wpAnyH_ready (rs := [10]) (by kernel_rfl) (by simp) ?_
            refine AllReadyH.cons (i := 10) rfl (fun K hK => ?_) AllReadyH.nil
            go_simp
            obtain ⟨Va, hVa⟩ : ∃ V, World.alloc u2 (.cells #[.int .i64 0, .slice none 0 0] 26) = V := ⟨_, rfl⟩
            have hba : Below u2.heap.size u2 Va := by rw [← hVa]; exact (Below.refl _ u2).alloc (show u2.heap.size ≤ u2.heap.size from Nat.le_refl _) _
            have TA : Blk u2.heap.size [.int .i64 0, .slice none 0 0] Va := by rw [← hVa]; exact Blk.new u2 _ _
            have hap : w9.heap.size ≤ u2.heap.size := BC.size
            have hne : ∀ kk, (Value.slice g1 tl.length c1).ownBlock = some kk → kk ≠ u2.heap.size := fun kk hkk => by have := (World.ownsRow.lt o1 kk hkk).2; omega
            replace T0 := T0.later hba T0.lt
            replace T1 := T1.later hba T1.lt
            replace ot := ot.later hba
            replace o1 := o1.later hba
            replace BC := BC.trans (hba.mono BC.size)
            rw [hVa]
            clear hVa hba
            refine hK.out _ _ ⟨T0, T1⟩ (fun hHeld2 => ?_)
            clear hK K hHeld
            have hHeld := hHeld2
            clear hHeld2
            try simp only [Act.put, List.setIfInBounds_toArray, List.set_cons_zero, List.set_cons_succ]
            have e0 := TA.at 0 rfl
            have f0 := TA.fz 0 rfl
            have e1 := TA.at 1 rfl
            have f1 := TA.fz 1 rfl
            have RA : Blk (u2.heap.size) [.int .i64 tq, .slice g1 tl.length c1] ((Va.setCell ⟨u2.heap.size, 0, none⟩ (.int .i64 tq)).setCell ⟨u2.heap.size, 1, none⟩ (.slice g1 tl.length c1)) := (TA.set 0 (.int .i64 tq)).set 1 (.slice g1 tl.length c1)
            have hbz : Below w9.heap.size w9 ((Va.setCell ⟨u2.heap.size, 0, none⟩ (.int .i64 tq)).setCell ⟨u2.heap.size, 1, none⟩ (.slice g1 tl.length c1)) := (BC.setCell (p := ⟨u2.heap.size, 0, none⟩) hap _).setCell (p := ⟨u2.heap.size, 1, none⟩) hap _
            have oz : Own3 w9.heap.size g1 c1 tl ((Va.setCell ⟨u2.heap.size, 0, none⟩ (.int .i64 tq)).setCell ⟨u2.heap.size, 1, none⟩ (.slice g1 tl.length c1)) := own_far (own_far o1 hne 0 _) hne 1 _
            have sz : u2.heap.size < ((Va.setCell ⟨u2.heap.size, 0, none⟩ (.int .i64 tq)).setCell ⟨u2.heap.size, 1, none⟩ (.slice g1 tl.length c1)).heap.size := by have := TA.lt; simpa using this
            have Z_T0 := (T0.far (g' := u2.heap.size) (fun e => by have := N_T0.out; omega) 0 (.int .i64 tq)).far (g' := u2.heap.size) (fun e => by have := N_T0.out; omega) 1 (.slice g1 tl.length c1)
            have Z_T1 := (T1.far (g' := u2.heap.size) (fun e => by have := N_T1.out; omega) 0 (.int .i64 tq)).far (g' := u2.heap.size) (fun e => by have := N_T1.out; omega) 1 (.slice g1 tl.length c1)
            refine wpAnyH_ready (rs := [11]) (by kernel_rfl) (by simp) ?_
            refine AllReadyH.cons (i := 11) rfl (fun K hK => ?_) AllReadyH.nil
            go_simp
            refine hK.out _ _ ⟨Z_T0, Z_T1⟩ (fun hHeld2 => ?_)
            clear hK K hHeld
            have hHeld := hHeld2
            clear hHeld2
            try simp only [Act.put, List.setIfInBounds_toArray, List.set_cons_zero, List.set_cons_succ]
            refine take_one 12 19 (v := ?_) rfl rfl (by kernel_rfl) (by kernel_rfl) (by kernel_rfl) (fun _ _ _ h => by obtain ⟨_, _, _, _, h, _⟩ := h; cases h) (Or.inl ⟨by rfl, ?_⟩) hHeld ?_
            rotate_left
            · intro w' hSw; (try dsimp only at hSw); have c0 := hSw.1.at 0 rfl; have c1 := hSw.1.at 1 rfl; have c2 := hSw.2.at 0 rfl; have c3 := hSw.2.at 1 rfl; have c4 := hSw.2.at 2 rfl; go_simp; try with_reducible rfl
            try simp only [Act.put, List.setIfInBounds_toArray, List.set_cons_zero, List.set_cons_succ]
            refine wpAnyH_done (by kernel_rfl) ?_ _
            exact ⟨_, g1, c1, gt, rfl, rfl, RA, oz, hbz, hap, sz, hne⟩
          ·
            go_simp
            obtain ⟨Va, hVa⟩ : ∃ V, World.alloc u1 (.cells #[.int .i64 0, .slice none 0 0] 26) = V := ⟨_, rfl⟩
            have hba : Below u1.heap.size u1 Va := by rw [← hVa]; exact (Below.refl _ u1).alloc (show u1.heap.size ≤ u1.heap.size from Nat.le_refl _) _
            have TA : Blk u1.heap.size [.int .i64 0, .slice none 0 0] Va := by rw [← hVa]; exact Blk.new u1 _ _
            have hap : w9.heap.size ≤ u1.heap.size := BC.size
            replace T0 := T0.later hba T0.lt
            replace T1 := T1.later hba T1.lt
            replace ot := ot.later hba
            replace BC := BC.trans (hba.mono BC.size)
            rw [hVa]
            clear hVa hba
            refine hK.out _ _ ⟨T0, T1⟩ (fun hHeld2 => ?_)
            clear hK K hHeld
            have hHeld := hHeld2
            clear hHeld2
            try simp only [Act.put, List.setIfInBounds_toArray, List.set_cons_zero, List.set_cons_succ]
            refine wpAnyH_ready (rs := [6]) (by kernel_rfl) (by simp) ?_
            refine AllReadyH.cons (i := 6) rfl (fun K hK => ?_) AllReadyH.nil
            go_simp
            refine (HI (some ⟨gt, 0, none⟩) xs.length _ ot.row).mono ?_
            rintro e u2 ⟨g1, c1, rfl, o1, hbu⟩
            have hne : ∀ kk, (Value.slice g1 tl.length c1).ownBlock = some kk → kk ≠ u1.heap.size := fun kk hkk => by have := (World.ownsRow.lt o1 kk hkk).1; have := TA.lt; omega
            replace o1 := Own3.le o1 BC.size
            replace TA := TA.later hbu TA.lt
            replace T0 := T0.later hbu T0.lt
            replace T1 := T1.later hbu T1.lt
            replace ot := ot.later hbu
            replace BC := BC.trans (hbu.mono BC.size)
            clear hbu
            go_wp2_with fail
            refine hK.out _ _ ⟨T0, T1⟩ (fun hHeld2 => ?_)
            clear hK K hHeld
            have hHeld := hHeld2
            clear hHeld2
            try simp only [Act.put, List.setIfInBounds_toArray, List.set_cons_zero, List.set_cons_succ]
            refine take_one 7 87 (v := ?_) rfl rfl (by kernel_rfl) (by kernel_rfl) (by kernel_rfl) (fun _ _ _ h => by obtain ⟨_, _, _, _, h, _⟩ := h; cases h) (Or.inl ⟨by rfl, ?_⟩) hHeld ?_
            rotate_left
            · intro w' hSw; (try dsimp only at hSw); have c0 := hSw.1.at 0 rfl; have c1 := hSw.1.at 1 rfl; have c2 := hSw.2.at 0 rfl; have c3 := hSw.2.at 1 rfl; have c4 := hSw.2.at 2 rfl; go_simp; try with_reducible rfl
            try simp only [Act.put, List.setIfInBounds_toArray, List.set_cons_zero, List.set_cons_succ]
            refine take_one 8 95 (v := ?_) rfl rfl (by kernel_rfl) (by kernel_rfl) (by kernel_rfl) (fun _ _ _ h => by obtain ⟨_, _, _, _, h, _⟩ := h; cases h) (Or.inl ⟨by rfl, ?_⟩) hHeld ?_
            rotate_left
            · intro w' hSw; (try dsimp only at hSw); have c0 := hSw.1.at 0 rfl; have c1 := hSw.1.at 1 rfl; have c2 := hSw.2.at 0 rfl; have c3 := hSw.2.at 1 rfl; have c4 := hSw.2.at 2 rfl; go_simp; try with_reducible rfl
            try simp only [Act.put, List.setIfInBounds_toArray, List.set_cons_zero, List.set_cons_succ]
            refine take_one 9 96 (v := ?_) rfl rfl (by kernel_rfl) (by kernel_rfl) (by kernel_rfl) (fun _ _ _ h => by obtain ⟨_, _, _, _, h, _⟩ := h; cases h) (Or.inl ⟨by rfl, ?_⟩) hHeld ?_
            rotate_left
            · intro w' hSw; (try dsimp only at hSw); have c0 := hSw.1.at 0 rfl; have c1 := hSw.1.at 1 rfl; have c2 := hSw.2.at 0 rfl; have c3 := hSw.2.at 1 rfl; have c4 := hSw.2.at 2 rfl; go_simp; try with_reducible rfl
            try simp only [Act.put, List.setIfInBounds_toArray, List.set_cons_zero, List.set_cons_succ]
            have e0 := TA.at 0 rfl
            have f0 := TA.fz 0 rfl
            have e1 := TA.at 1 rfl
            have f1 := TA.fz 1 rfl
            have RA : Blk (u1.heap.size) [.int .i64 tq, .slice g1 tl.length c1] ((u2.setCell ⟨u1.heap.size, 0, none⟩ (.int .i64 tq)).setCell ⟨u1.heap.size, 1, none⟩ (.slice g1 tl.length c1)) := (TA.set 0 (.int .i64 tq)).set 1 (.slice g1 tl.length c1)
            have hbz : Below w9.heap.size w9 ((u2.setCell ⟨u1.heap.size, 0, none⟩ (.int .i64 tq)).setCell ⟨u1.heap.size, 1, none⟩ (.slice g1 tl.length c1)) := (BC.setCell (p := ⟨u1.heap.size, 0, none⟩) hap _).setCell (p := ⟨u1.heap.size, 1, none⟩) hap _
            have oz : Own3 w9.heap.size g1 c1 tl ((u2.setCell ⟨u1.heap.size, 0, none⟩ (.int .i64 tq)).setCell ⟨u1.heap.size, 1, none⟩ (.slice g1 tl.length c1)) := own_far (own_far o1 hne 0 _) hne 1 _
            have sz : u1.heap.size < ((u2.setCell ⟨u1.heap.size, 0, none⟩ (.int .i64 tq)).setCell ⟨u1.heap.size, 1, none⟩ (.slice g1 tl.length c1)).heap.size := by have := TA.lt; simpa using this
            have Z_T0 := (T0.far (g' := u1.heap.size) (fun e => by have := N_T0.out; omega) 0 (.int .i64 tq)).far (g' := u1.heap.size) (fun e => by have := N_T0.out; omega) 1 (.slice g1 tl.length c1)
            have Z_T1 := (T1.far (g' := u1.heap.size) (fun e => by have := N_T1.out; omega) 0 (.int .i64 tq)).far (g' := u1.heap.size) (fun e => by have := N_T1.out; omega) 1 (.slice g1 tl.length c1)
            refine wpAnyH_ready (rs := [11]) (by kernel_rfl) (by simp) ?_
            refine AllReadyH.cons (i := 11) rfl (fun K hK => ?_) AllReadyH.nil
            go_simp
            refine hK.out _ _ ⟨Z_T0, Z_T1⟩ (fun hHeld2 => ?_)
            clear hK K hHeld
            have hHeld := hHeld2
            clear hHeld2
            try simp only [Act.put, List.setIfInBounds_toArray, List.set_cons_zero, List.set_cons_succ]
            refine take_one 12 19 (v := ?_) rfl rfl (by kernel_rfl) (by kernel_rfl) (by kernel_rfl) (fun _ _ _ h => by obtain ⟨_, _, _, _, h, _⟩ := h; cases h) (Or.inl ⟨by rfl, ?_⟩) hHeld ?_
            rotate_left
            · intro w' hSw; (try dsimp only at hSw); have c0 := hSw.1.at 0 rfl; have c1 := hSw.1.at 1 rfl; have c2 := hSw.2.at 0 rfl; have c3 := hSw.2.at 1 rfl; have c4 := hSw.2.at 2 rfl; go_simp; try with_reducible rfl
            try simp only [Act.put, List.setIfInBounds_toArray, List.set_cons_zero, List.set_cons_succ]
            refine wpAnyH_done (by kernel_rfl) ?_ _
            exact ⟨_, g1, c1, gt, rfl, rfl, RA, oz, hbz, hap, sz, hne⟩
        ·
          go_simp
          obtain ⟨Va, hVa⟩ : ∃ V, World.alloc u0 (.cells #[.int .i64 0, .slice none 0 0] 26) = V := ⟨_, rfl⟩
          have hba : Below u0.heap.size u0 Va := by rw [← hVa]; exact (Below.refl _ u0).alloc (show u0.heap.size ≤ u0.heap.size from Nat.le_refl _) _
          have TA : Blk u0.heap.size [.int .i64 0, .slice none 0 0] Va := by rw [← hVa]; exact Blk.new u0 _ _
          have hap : w9.heap.size ≤ u0.heap.size := BC.size
          replace T0 := T0.later hba T0.lt
          replace T1 := T1.later hba T1.lt
          replace ot := ot.later hba
          replace BC := BC.trans (hba.mono BC.size)
          rw [hVa]
          clear hVa hba
          refine hK.out _ _ ⟨T0, T1⟩ (fun hHeld2 => ?_)
          clear hK K hHeld
          have hHeld := hHeld2
          clear hHeld2
          try simp only [Act.put, List.setIfInBounds_toArray, List.set_cons_zero, List.set_cons_succ]
          refine wpAnyH_ready (rs := [3]) (by kernel_rfl) (by simp) ?_
          refine AllReadyH.cons (i := 3) rfl (fun K hK => ?_) AllReadyH.nil
          go_simp
          refine (toAuth_is x y z _).mono ?_
          rintro e u1 ⟨rfl, hbu⟩
          replace TA := TA.later hbu TA.lt
          replace T0 := T0.later hbu T0.lt
          replace T1 := T1.later hbu T1.lt
          replace ot := ot.later hbu
          replace BC := BC.trans (hbu.mono BC.size)
          clear hbu
          go_wp2_with fail
          refine hK.out _ _ ⟨T0, T1⟩ (fun hHeld2 => ?_)
          clear hK K hHeld
          have hHeld := hHeld2
          clear hHeld2
          try simp only [Act.put, List.setIfInBounds_toArray, List.set_cons_zero, List.set_cons_succ]
          refine wpAnyH_ready (rs := [6]) (by kernel_rfl) (by simp) ?_
          refine AllReadyH.cons (i := 6) rfl (fun K hK => ?_) AllReadyH.nil
          go_simp
          refine (HI (some ⟨gt, 0, none⟩) xs.length _ ot.row).mono ?_
          rintro e u2 ⟨g1, c1, rfl, o1, hbu⟩
          have hne : ∀ kk, (Value.slice g1 tl.length c1).ownBlock = some kk → kk ≠ u0.heap.size := fun kk hkk => by have := (World.ownsRow.lt o1 kk hkk).1; have := TA.lt; omega
          replace o1 := Own3.le o1 BC.size
          replace TA := TA.later hbu TA.lt
          replace T0 := T0.later hbu T0.lt
          replace T1 := T1.later hbu T1.lt
          replace ot := ot.later hbu
          replace BC := BC.trans (hbu.mono BC.size)
          clear hbu
          go_wp2_with fail
          refine hK.out _ _ ⟨T0, T1⟩ (fun hHeld2 => ?_)
          clear hK K hHeld
          have hHeld := hHeld2
          clear hHeld2
          try simp only [Act.put, List.setIfInBounds_toArray, List.set_cons_zero, List.set_cons_succ]
          refine take_one 7 87 (v := ?_) rfl rfl (by kernel_rfl) (by kernel_rfl) (by kernel_rfl) (fun _ _ _ h => by obtain ⟨_, _, _, _, h, _⟩ := h; cases h) (Or.inl ⟨by rfl, ?_⟩) hHeld ?_
          rotate_left
          · intro w' hSw; (try dsimp only at hSw); have c0 := hSw.1.at 0 rfl; have c1 := hSw.1.at 1 rfl; have c2 := hSw.2.at 0 rfl; have c3 := hSw.2.at 1 rfl; have c4 := hSw.2.at 2 rfl; go_simp; try with_reducible rfl
          try simp only [Act.put, List.setIfInBounds_toArray, List.set_cons_zero, List.set_cons_succ]
          refine take_one 8 95 (v := ?_) rfl rfl (by kernel_rfl) (by kernel_rfl) (by kernel_rfl) (fun _ _ _ h => by obtain ⟨_, _, _, _, h, _⟩ := h; cases h) (Or.inl ⟨by rfl, ?_⟩) hHeld ?_
          rotate_left
          · intro w' hSw; (try dsimp only at hSw); have c0 := hSw.1.at 0 rfl; have c1 := hSw.1.at 1 rfl; have c2 := hSw.2.at 0 rfl; have c3 := hSw.2.at 1 rfl; have c4 := hSw.2.at 2 rfl; go_simp; try with_reducible rfl
          try simp only [Act.put, List.setIfInBounds_toArray, List.set_cons_zero, List.set_cons_succ]
          refine take_one 9 96 (v := ?_) rfl rfl (by kernel_rfl) (by kernel_rfl) (by kernel_rfl) (fun _ _ _ h => by obtain ⟨_, _, _, _, h, _⟩ := h; cases h) (Or.inl ⟨by rfl, ?_⟩) hHeld ?_
          rotate_left
          · intro w' hSw; (try dsimp only at hSw); have c0 := hSw.1.at 0 rfl; have c1 := hSw.1.at 1 rfl; have c2 := hSw.2.at 0 rfl; have c3 := hSw.2.at 1 rfl; have c4 := hSw.2.at 2 rfl; go_simp; try with_reducible rfl
          try simp only [Act.put, List.setIfInBounds_toArray, List.set_cons_zero, List.set_cons_succ]
          have e0 := TA.at 0 rfl
          have f0 := TA.fz 0 rfl
          have e1 := TA.at 1 rfl
          have f1 := TA.fz 1 rfl
          have RA : Blk (u0.heap.size) [.int .i64 tq, .slice g1 tl.length c1] ((u2.setCell ⟨u0.heap.size, 0, none⟩ (.int .i64 tq)).setCell ⟨u0.heap.size, 1, none⟩ (.slice g1 tl.length c1)) := (TA.set 0 (.int .i64 tq)).set 1 (.slice g1 tl.length c1)
          have hbz : Below w9.heap.size w9 ((u2.setCell ⟨u0.heap.size, 0, none⟩ (.int .i64 tq)).setCell ⟨u0.heap.size, 1, none⟩ (.slice g1 tl.length c1)) := (BC.setCell (p := ⟨u0.heap.size, 0, none⟩) hap _).setCell (p := ⟨u0.heap.size, 1, none⟩) hap _
          have oz : Own3 w9.heap.size g1 c1 tl ((u2.setCell ⟨u0.heap.size, 0, none⟩ (.int .i64 tq)).setCell ⟨u0.heap.size, 1, none⟩ (.slice g1 tl.length c1)) := own_far (own_far o1 hne 0 _) hne 1 _
          have sz : u0.heap.size < ((u2.setCell ⟨u0.heap.size, 0, none⟩ (.int .i64 tq)).setCell ⟨u0.heap.size, 1, none⟩ (.slice g1 tl.length c1)).heap.size := by have := TA.lt; simpa using this
          have Z_T0 := (T0.far (g' := u0.heap.size) (fun e => by have := N_T0.out; omega) 0 (.int .i64 tq)).far (g' := u0.heap.size) (fun e => by have := N_T0.out; omega) 1 (.slice g1 tl.length c1)
          have Z_T1 := (T1.far (g' := u0.heap.size) (fun e => by have := N_T1.out; omega) 0 (.int .i64 tq)).far (g' := u0.heap.size) (fun e => by have := N_T1.out; omega) 1 (.slice g1 tl.length c1)
          refine wpAnyH_ready (rs := [11]) (by kernel_rfl) (by simp) ?_
          refine AllReadyH.cons (i := 11) rfl (fun K hK => ?_) AllReadyH.nil
          go_simp
          refine hK.out _ _ ⟨Z_T0, Z_T1⟩ (fun hHeld2 => ?_)
          clear hK K hHeld
          have hHeld := hHeld2
          clear hHeld2
          try simp only [Act.put, List.setIfInBounds_toArray, List.set_cons_zero, List.set_cons_succ]
          refine take_one 12 19 (v := ?_) rfl rfl (by kernel_rfl) (by kernel_rfl) (by kernel_rfl) (fun _ _ _ h => by obtain ⟨_, _, _, _, h, _⟩ := h; cases h) (Or.inl ⟨by rfl, ?_⟩) hHeld ?_
          rotate_left
          · intro w' hSw; (try dsimp only at hSw); have c0 := hSw.1.at 0 rfl; have c1 := hSw.1.at 1 rfl; have c2 := hSw.2.at 0 rfl; have c3 := hSw.2.at 1 rfl; have c4 := hSw.2.at 2 rfl; go_simp; try with_reducible rfl
          try simp only [Act.put, List.setIfInBounds_toArray, List.set_cons_zero, List.set_cons_succ]
          refine wpAnyH_done (by kernel_rfl) ?_ _
          exact ⟨_, g1, c1, gt, rfl, rfl, RA, oz, hbz, hap, sz, hne⟩
      ·
        go_simp
        obtain ⟨Va, hVa⟩ : ∃ V, World.alloc w9.drew (.cells #[.int .i64 0, .slice none 0 0] 26) = V := ⟨_, rfl⟩
        have hba : Below w9.heap.size w9.drew Va := by rw [← hVa]; exact (Below.refl _ w9.drew).alloc (show w9.heap.size ≤ w9.drew.heap.size from Nat.le_refl _) _
        have TA : Blk w9.heap.size [.int .i64 0, .slice none 0 0] Va := by rw [← hVa]; exact Blk.new w9.drew _ _
        have hap : w9.heap.size ≤ w9.heap.size := BC.size
        replace T0 := T0.later hba T0.lt
        replace T1 := T1.later hba T1.lt
        replace BC := BC.trans (hba.mono BC.size)
        rw [show (World.alloc w9 (.cells #[.int .i64 0, .slice none 0 0] 26)).drew = Va from hVa]
        clear hVa hba
        refine hK.out _ _ ⟨T0, T1⟩ (fun hHeld2 => ?_)
        clear hK K hHeld
        have hHeld := hHeld2
        clear hHeld2
        try simp only [Act.put, List.setIfInBounds_toArray, List.set_cons_zero, List.set_cons_succ]
        refine wpAnyH_ready (rs := [1]) (by kernel_rfl) (by simp) ?_
        refine AllReadyH.cons (i := 1) rfl (fun K hK => ?_) AllReadyH.nil
        go_simp
        refine (toC_is q a cap xs _ (hr.later (b0.trans (BC.mono b0.size))) hl).mono ?_
        rintro e u0 ⟨gt, rfl, ot, hbu⟩
        replace TA := TA.later hbu TA.lt
        replace T0 := T0.later hbu T0.lt
        replace T1 := T1.later hbu T1.lt
        replace BC := BC.trans (hbu.mono BC.size)
        clear hbu
        go_wp2_with fail
        refine hK.out _ _ ⟨T0, T1⟩ (fun hHeld2 => ?_)
        clear hK K hHeld
        have hHeld := hHeld2
        clear hHeld2
        try simp only [Act.put, List.setIfInBounds_toArray, List.set_cons_zero, List.set_cons_succ]
        refine wpAnyH_ready (rs := [3]) (by kernel_rfl) (by simp) ?_
        refine AllReadyH.cons (i := 3) rfl (fun K hK => ?_) AllReadyH.nil
        go_simp
        refine (toAuth_is x y z _).mono ?_
        rintro e u1 ⟨rfl, hbu⟩
        replace TA := TA.later hbu TA.lt
        replace T0 := T0.later hbu T0.lt
        replace T1 := T1.later hbu T1.lt
        replace ot := ot.later hbu
        replace BC := BC.trans (hbu.mono BC.size)
        clear hbu
        go_wp2_with fail
        refine hK.out _ _ ⟨T0, T1⟩ (fun hHeld2 => ?_)
        clear hK K hHeld
        have hHeld := hHeld2
        clear hHeld2
        try simp only [Act.put, List.setIfInBounds_toArray, List.set_cons_zero, List.set_cons_succ]
        refine wpAnyH_ready (rs := [6]) (by kernel_rfl) (by simp) ?_
        refine AllReadyH.cons (i := 6) rfl (fun K hK => ?_) AllReadyH.nil
        go_simp
        refine (HI (some ⟨gt, 0, none⟩) xs.length _ ot.row).mono ?_
        rintro e u2 ⟨g1, c1, rfl, o1, hbu⟩
        have hne : ∀ kk, (Value.slice g1 tl.length c1).ownBlock = some kk → kk ≠ w9.heap.size := fun kk hkk => by have := (World.ownsRow.lt o1 kk hkk).1; have := TA.lt; omega
        replace o1 := Own3.le o1 BC.size
        replace TA := TA.later hbu TA.lt
        replace T0 := T0.later hbu T0.lt
        replace T1 := T1.later hbu T1.lt
        replace ot := ot.later hbu
        replace BC := BC.trans (hbu.mono BC.size)
        clear hbu
        go_wp2_with fail
        refine hK.out _ _ ⟨T0, T1⟩ (fun hHeld2 => ?_)
        clear hK K hHeld
        have hHeld := hHeld2
        clear hHeld2
        try simp only [Act.put, List.setIfInBounds_toArray, List.set_cons_zero, List.set_cons_succ]
        refine take_one 7 87 (v := ?_) rfl rfl (by kernel_rfl) (by kernel_rfl) (by kernel_rfl) (fun _ _ _ h => by obtain ⟨_, _, _, _, h, _⟩ := h; cases h) (Or.inl ⟨by rfl, ?_⟩) hHeld ?_
        rotate_left
        · intro w' hSw; (try dsimp only at hSw); have c0 := hSw.1.at 0 rfl; have c1 := hSw.1.at 1 rfl; have c2 := hSw.2.at 0 rfl; have c3 := hSw.2.at 1 rfl; have c4 := hSw.2.at 2 rfl; go_simp; try with_reducible rfl
        try simp only [Act.put, List.setIfInBounds_toArray, List.set_cons_zero, List.set_cons_succ]
        refine take_one 8 95 (v := ?_) rfl rfl (by kernel_rfl) (by kernel_rfl) (by kernel_rfl) (fun _ _ _ h => by obtain ⟨_, _, _, _, h, _⟩ := h; cases h) (Or.inl ⟨by rfl, ?_⟩) hHeld ?_
        rotate_left
        · intro w' hSw; (try dsimp only at hSw); have c0 := hSw.1.at 0 rfl; have c1 := hSw.1.at 1 rfl; have c2 := hSw.2.at 0 rfl; have c3 := hSw.2.at 1 rfl; have c4 := hSw.2.at 2 rfl; go_simp; try with_reducible rfl
        try simp only [Act.put, List.setIfInBounds_toArray, List.set_cons_zero, List.set_cons_succ]
        refine take_one 9 96 (v := ?_) rfl rfl (by kernel_rfl) (by kernel_rfl) (by kernel_rfl) (fun _ _ _ h => by obtain ⟨_, _, _, _, h, _⟩ := h; cases h) (Or.inl ⟨by rfl, ?_⟩) hHeld ?_
        rotate_left
        · intro w' hSw; (try dsimp only at hSw); have c0 := hSw.1.at 0 rfl; have c1 := hSw.1.at 1 rfl; have c2 := hSw.2.at 0 rfl; have c3 := hSw.2.at 1 rfl; have c4 := hSw.2.at 2 rfl; go_simp; try with_reducible rfl
        try simp only [Act.put, List.setIfInBounds_toArray, List.set_cons_zero, List.set_cons_succ]
        have e0 := TA.at 0 rfl
        have f0 := TA.fz 0 rfl
        have e1 := TA.at 1 rfl
        have f1 := TA.fz 1 rfl
        have RA : Blk (w9.heap.size) [.int .i64 tq, .slice g1 tl.length c1] ((u2.setCell ⟨w9.heap.size, 0, none⟩ (.int .i64 tq)).setCell ⟨w9.heap.size, 1, none⟩ (.slice g1 tl.length c1)) := (TA.set 0 (.int .i64 tq)).set 1 (.slice g1 tl.length c1)
        have hbz : Below w9.heap.size w9 ((u2.setCell ⟨w9.heap.size, 0, none⟩ (.int .i64 tq)).setCell ⟨w9.heap.size, 1, none⟩ (.slice g1 tl.length c1)) := (BC.setCell (p := ⟨w9.heap.size, 0, none⟩) hap _).setCell (p := ⟨w9.heap.size, 1, none⟩) hap _
        have oz : Own3 w9.heap.size g1 c1 tl ((u2.setCell ⟨w9.heap.size, 0, none⟩ (.int .i64 tq)).setCell ⟨w9.heap.size, 1, none⟩ (.slice g1 tl.length c1)) := own_far (own_far o1 hne 0 _) hne 1 _
        have sz : w9.heap.size < ((u2.setCell ⟨w9.heap.size, 0, none⟩ (.int .i64 tq)).setCell ⟨w9.heap.size, 1, none⟩ (.slice g1 tl.length c1)).heap.size := by have := TA.lt; simpa using this
        have Z_T0 := (T0.far (g' := w9.heap.size) (fun e => by have := N_T0.out; omega) 0 (.int .i64 tq)).far (g' := w9.heap.size) (fun e => by have := N_T0.out; omega) 1 (.slice g1 tl.length c1)
        have Z_T1 := (T1.far (g' := w9.heap.size) (fun e => by have := N_T1.out; omega) 0 (.int .i64 tq)).far (g' := w9.heap.size) (fun e => by have := N_T1.out; omega) 1 (.slice g1 tl.length c1)
        refine wpAnyH_ready (rs := [11]) (by kernel_rfl) (by simp) ?_
        refine AllReadyH.cons (i := 11) rfl (fun K hK => ?_) AllReadyH.nil
        go_simp
        refine hK.out _ _ ⟨Z_T0, Z_T1⟩ (fun hHeld2 => ?_)
        clear hK K hHeld
        have hHeld := hHeld2
        clear hHeld2
        try simp only [Act.put, List.setIfInBounds_toArray, List.set_cons_zero, List.set_cons_succ]
        refine take_one 12 19 (v := ?_) rfl rfl (by kernel_rfl) (by kernel_rfl) (by kernel_rfl) (fun _ _ _ h => by obtain ⟨_, _, _, _, h, _⟩ := h; cases h) (Or.inl ⟨by rfl, ?_⟩) hHeld ?_
        rotate_left
        · intro w' hSw; (try dsimp only at hSw); have c0 := hSw.1.at 0 rfl; have c1 := hSw.1.at 1 rfl; have c2 := hSw.2.at 0 rfl; have c3 := hSw.2.at 1 rfl; have c4 := hSw.2.at 2 rfl; go_simp; try with_reducible rfl
        try simp only [Act.put, List.setIfInBounds_toArray, List.set_cons_zero, List.set_cons_succ]
        refine wpAnyH_done (by kernel_rfl) ?_ _
        exact ⟨_, g1, c1, gt, rfl, rfl, RA, oz, hbz, hap, sz, hne⟩
    rintro ex a' w10 ⟨p10, g10, c10, gt10, rfl, rfl, Th, oh, hbz, hp10, hq10, hne10⟩
    replace T0 := T0.later hbz T0.lt
    replace T1 := T1.later hbz T1.lt
    replace Tw := Tw.later hbz Tw.lt
    replace Tg := Tg.later hbz Tg.lt
    replace ow := ow.later hbz
    replace om := om.later hbz
    replace b0 := b0.trans (hbz.mono b0.size)
    clear hbz
    have q_T0_0 := T0.at 0 rfl
    have q_T0_1 := T0.at 1 rfl
    have q_T1_0 := T1.at 0 rfl
    have q_T1_1 := T1.at 1 rfl
    have q_T1_2 := T1.at 2 rfl
    have q_Tw_0 := Tw.at 0 rfl
    have q_Tw_1 := Tw.at 1 rfl
    have q_Tg_0 := Tg.at 0 rfl
    have q_Tg_1 := Tg.at 1 rfl
    have q_Th_0 := Th.at 0 rfl
    have q_Th_1 := Th.at 1 rfl
    have HX := eqC_is tq g10 g2 c10 c2 tl w10 oh.row ow.row (by omega)
    go_wp2_with fail
    refine HX.mono ?_
    clear HX q_T0_0 q_T0_1 q_T1_0 q_T1_1 q_T1_2 q_Tw_0 q_Tw_1 q_Tg_0 q_Tg_1 q_Th_0 q_Th_1
    rintro e w11 ⟨rfl, hb11⟩
    replace T0 := T0.later hb11 T0.lt
    replace T1 := T1.later hb11 T1.lt
    replace Tw := Tw.later hb11 Tw.lt
    replace Tg := Tg.later hb11 Tg.lt
    replace Th := Th.later hb11 Th.lt
    replace ow := ow.later hb11
    replace om := om.later hb11
    replace oh := oh.later hb11
    replace b0 := b0.trans (hb11.mono b0.size)
    clear hb11
    have q_T0_0 := T0.at 0 rfl
    have q_T0_1 := T0.at 1 rfl
    have q_T1_0 := T1.at 0 rfl
    have q_T1_1 := T1.at 1 rfl
    have q_T1_2 := T1.at 2 rfl
    have q_Tw_0 := Tw.at 0 rfl
    have q_Tw_1 := Tw.at 1 rfl
    have q_Tg_0 := Tg.at 0 rfl
    have q_Tg_1 := Tg.at 1 rfl
    have q_Th_0 := Th.at 0 rfl
    have q_Th_1 := Th.at 1 rfl
    have HX := HH w11 om.row
    go_wp2_with fail
    refine HX.mono ?_
    clear HX q_T0_0 q_T0_1 q_T1_0 q_T1_1 q_T1_2 q_Tw_0 q_Tw_1 q_Tg_0 q_Tg_1 q_Th_0 q_Th_1
    rintro e w12 ⟨rfl, hb12⟩
    replace T0 := T0.later hb12 T0.lt
    replace T1 := T1.later hb12 T1.lt
    replace Tw := Tw.later hb12 Tw.lt
    replace Tg := Tg.later hb12 Tg.lt
    replace Th := Th.later hb12 Th.lt
    replace ow := ow.later hb12
    replace om := om.later hb12
    replace oh := oh.later hb12
    replace b0 := b0.trans (hb12.mono b0.size)
    clear hb12
    go_wp2
    go_ret
    exact ⟨rfl, b0⟩
  · have hz : szV xs.length 1048576 = -1 := if_neg hl
    have b0 : Below w.heap.size w w := Below.refl _ _
    go_enter Try.func7, Try.ntmps7
    obtain ⟨W, hW⟩ : ∃ W, (w.alloc (.cells #[.int .i64 q, .slice a xs.length cap] 38)).alloc (.cells #[.int .i64 x, .int .i64 y, .int .i64 z] 47) = W := ⟨_, rfl⟩
    have BW : Below w.heap.size w W := by rw [← hW]; exact ((Below.refl _ _).alloc (Nat.le_refl _) _).alloc (by simp) _
    have T0 : Blk w.heap.size [.int .i64 q, .slice a xs.length cap] W := by rw [← hW]; exact (Blk.new _ _ _).alloc (by simp) _
    have T1 : Blk (w.heap.size + 1) [.int .i64 x, .int .i64 y, .int .i64 z] W := by rw [← hW]; have h := Blk.new (w.alloc (.cells #[.int .i64 q, .slice a xs.length cap] 38)) #[.int .i64 x, .int .i64 y, .int .i64 z] 47; rw [World.size_alloc] at h; exact h
    replace b0 := b0.trans (BW.mono b0.size)
    clear BW
    have q_T0_0 := T0.at 0 rfl
    have q_T0_1 := T0.at 1 rfl
    have q_T1_0 := T1.at 0 rfl
    have q_T1_1 := T1.at 1 rfl
    have q_T1_2 := T1.at 2 rfl
    have HX := szC_is q a xs.length cap W hm
    go_wp2_with fail
    try rw [hW]
    refine HX.mono ?_
    clear HX q_T0_0 q_T0_1 q_T1_0 q_T1_1 q_T1_2 hW 
    rintro e w1 ⟨rfl, hb1⟩
    replace T0 := T0.later hb1 T0.lt
    replace T1 := T1.later hb1 T1.lt
    replace b0 := b0.trans (hb1.mono b0.size)
    clear hb1
    rw [hz]
    clear hz
    go_wp2
    go_ret
    exact ⟨rfl, b0⟩
end Go.Proofs.Ytmiceknaipimiaa
