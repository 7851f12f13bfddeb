/- l14Show: the model. -/
import Derived.Test.YtengggpobhibcaaDoorSh3
import Derived.Test.YtengggpobhibcaaDoorTt1
set_option linter.unusedVariables false
set_option maxRecDepth 100000
namespace Go.Proofs.YtengggpobhibcaaDoor.Nd
open Go Go.RowKit Go.Joins Own Draw Var

theorem conv_at {P : Program} (src dst e : TypeId) (hs : P.underlying src = some (.slice e)) (he : P.underlying e = some (.int .u8)) (hd : P.underlying dst = some .string) (W : World) (g : Nat) (x : Int) (h : W.cell? ⟨g, 0, none⟩ = some (.int .u8 x)) :
    (convert src dst (.slice (some ⟨g, 0, none⟩) 1 1)).run P W = .ok (.string ⟨#[UInt8.ofNat x.toNat]⟩) W := by
  rw [run_convert_bytes_string _ src dst e _ 1 1 hs he hd]
  have hl := run_loadCells_list (P := P) W ⟨g, 0, none⟩ [Value.int .u8 x] (fun j v hj => by
    match j, hj with
    | 0, hj => simp at hj; subst hj; simpa [Addr.add] using h)
  rw [run_bytesToString _ _ 1 1 [x] (by simpa using hl)]
  rfl
theorem va_of {n : Nat} (h : n ≤ 562949953421311) : varOf (n : Int) = vaS n := by
  unfold varOf vaS
  rw [if_pos ⟨by omega, by omega⟩]
  rfl
theorem wr64 {v : Int} (h : 0 ≤ v ∧ v < 256) : IntKind.i64.wrap v = v := by
  unfold IntKind.wrap
  simp [IntKind.bits, IntKind.signed]
  omega
theorem wr8 {v : Int} (h : 0 ≤ v ∧ v < 256) : IntKind.u8.wrap v = v := by
  have : IntKind.u8.wrap v = v % 256 := rfl
  rw [this]
  omega
theorem tx_val {x : PT} {t : ByteArray} {v : Int} (hv : v = if x.2.1 = true then x.1 else x.1 + 128) (h : 0 ≤ v ∧ v < 256) (ht : t.size ≤ 562949953421311) : (⟨#[UInt8.ofNat (IntKind.u8.wrap v).toNat]⟩ : ByteArray) ++ varOf (t.size : Int) ++ t = txS x t := by
  rw [wr8 h, va_of ht, hv]
  rfl
theorem caS_take {ts : List ByteArray} (j : Nat) : (caS (ts.take j)).size ≤ (ts.map ByteArray.size).sum := by
  unfold caS
  rw [caS_size]
  have e : (ts.map ByteArray.size).sum = ((ts.take j).map ByteArray.size).sum + ((ts.drop j).map ByteArray.size).sum := by rw [← List.sum_append, ← List.map_append, List.take_append_drop]
  show 0 + _ ≤ _
  omega
set_option maxRecDepth 100000 in
set_option maxHeartbeats 3200000 in
theorem shw_is (xs : List TT) (hK : KdB (xs.map stT)) (ht : ∀ x ∈ xs, 1 ≤ x.1 ∧ x.1 ≤ 100) (hd : ∀ x ∈ xs, x.2.2.1.size ≤ 1048576) (hkl : ∀ x ∈ xs, x.2.2.2.2.2.length ≤ 1048576) (hsm : ∀ i, i < xs.length → ((kiN (xs.map stT) i).map (szN (xs.map stT))).sum ≤ 6000000000) (hxl : xs.length ≤ 60) : ∀ (f i : Nat), i < f → i < xs.length → ∀ (a : Option Addr) (ca : Nat) (w : World), RpT w (a, ca, xs) →
    Calls Tryd.prog 19 #[.slice a xs.length ca, .int .i64 i] w fun e w' => e = .returned (.string (shT (xs.map stT) i)) ∧ Below w.heap.size w w' := by
  intro f
  induction f with
  | zero => intro i h; exact absurd h (by omega)
  | succ f ih =>
    intro i hi hil a ca w hr
    obtain ⟨it, hit, hits⟩ := info_T
    have hrow := hr.1
    dsimp only at hrow
    obtain ⟨b1, o1, rfl, l1, hc1⟩ := hrow i hil
    have hlt2 : (i : Int) < (xs.length : Int) := by omega
    have ld1 := ld_T it hit hits hc1
    have hkw : RowAt (Value.int .i64) w xs[i].2.2.2.1 xs[i].2.2.2.2.2 := hr.2 xs[i] (List.getElem_mem hil)
    have hmx : (xs.map stT)[i]? = some (stT xs[i]) := by rw [List.getElem?_map, List.getElem?_eq_getElem hil]; rfl
    have hnd : ndN (xs.map stT) i = stT xs[i] := Option.some.inj ((ndN_eq (by rw [List.length_map]; exact hil)).symm.trans hmx)
    have HSH := shT_eq hK hmx
    have hki := hK i _ hmx
    have hsmi := hsm i hil
    unfold kiN at hsmi
    rw [hnd] at hsmi
    have htx := ht xs[i] (List.getElem_mem hil)
    have hdx := hd xs[i] (List.getElem_mem hil)
    have hkx := hkl xs[i] (List.getElem_mem hil)
    clear hc1 hnd hmx
    generalize xs[i] = x at HSH hki hsmi htx hdx hkx hkw ld1
    have hki2 : ∀ k ∈ x.2.2.2.2.2, 0 ≤ k ∧ k < (i : Int) := hki
    have hsm2 : ((x.2.2.2.2.2.map (fun k => shT (xs.map stT) k.toNat)).map ByteArray.size).sum ≤ 6000000000 := by
      rw [List.map_map] at hsmi ⊢
      exact hsmi
    have HS2 : Hid (shT (xs.map stT) i = txS (stT x) (if x.2.1 = true then x.2.2.1 else caS (x.2.2.2.2.2.map (fun k => shT (xs.map stT) k.toNat)))) := HSH
    clear hki hsmi HSH
    obtain ⟨A0, hA0⟩ : ∃ Y, w.alloc (.cells #[.int .i64 0, .bool false, .string ⟨#[]⟩, .slice none 0 0] 61) = Y := ⟨_, rfl⟩
    have TX0 : Blk w.heap.size [.int .i64 0, .bool false, .string ⟨#[]⟩, .slice none 0 0] A0 := by rw [← hA0]; exact Blk.new _ _ _
    have B0 : Below w.heap.size w A0 := by rw [← hA0]; exact (Below.refl _ _).alloc (Nat.le_refl _) _
    obtain ⟨A1, hA1⟩ : ∃ Y, A0.setCells w.heap.size 0 [.int .i64 x.1, .bool x.2.1, .string x.2.2.1, .slice x.2.2.2.1 x.2.2.2.2.2.length x.2.2.2.2.1] = Y := ⟨_, rfl⟩
    have TX1 : Blk w.heap.size [.int .i64 x.1, .bool x.2.1, .string x.2.2.1, .slice x.2.2.2.1 x.2.2.2.2.2.length x.2.2.2.2.1] A1 := by rw [← hA1]; exact TX0.sets _ rfl
    have B1 : Below w.heap.size w A1 := by rw [← hA1]; exact below_sets (Nat.le_refl _) _ _ _ B0
    have sA : w.heap.size < A1.heap.size := TX1.lt
    have hrA : RpT A1 (some ⟨b1, o1, none⟩, ca, xs) := RpT.later hr B1
    have hkA := RowAt.later hkw B1
    have p0 := TX1.at 0 rfl
    have p1 := TX1.at 1 rfl
    have p2 := TX1.at 2 rfl
    go_enter Tryd.func19, Tryd.ntmps19
    by_cases hl : x.2.1 = true
    · rw [hl] at p1
      have HS3 : Hid (shT (xs.map stT) i = txS (stT x) x.2.2.1) := HS2.out.trans (by rw [if_pos hl])
      clear HS2 ih hr hrow hkw hK ht hd hkl hsm
      go_wp2_with (first | (refine wpList_ldV 61 _ b1 (o1 + i * 4) _ ld1 rfl rfl rfl ?_) | (refine wpList_stB 61 _ _ w.heap.size 0 _ [.int .i64 x.1, .bool x.2.1, .string x.2.2.1, .slice x.2.2.2.1 x.2.2.2.2.2.length x.2.2.2.2.1] it hit TX0 hits.symm (by simp) rfl rfl rfl rfl rfl ?_; rw [hA1]))
      have hv7 : (varOf (x.2.2.1.size : Int)).size ≤ 7 := by rw [va_of (by omega), vaS_size]; exact varB_seven _ (by omega)
      have hs1 : ¬ 9223372036854775807 < 1 + (varOf (x.2.2.1.size : Int)).size := by have := hv7; omega
      have hs2 : ¬ 9223372036854775807 < 1 + (varOf (x.2.2.1.size : Int)).size + x.2.2.1.size := by have := hv7; omega
      refine wp_region_held_drew (S := (fun w' : World => Blk w.heap.size [.int .i64 x.1, .bool x.2.1, .string x.2.2.1, .slice x.2.2.2.1 x.2.2.2.2.2.length x.2.2.2.2.1] w')) (by kernel_rfl) TX1.drew (fun hHeld => ?_)
      refine take_one 0 14 (v := ?_) rfl rfl (by kernel_rfl) (by kernel_rfl) (by kernel_rfl) (fun _ _ _ h => h) (Or.inl ⟨by rfl, ?_⟩) hHeld ?_
      rotate_left
      · intro w' hSw; (try dsimp only at hSw); have c0 := hSw.at 0 rfl; have c2 := hSw.at 2 rfl; go_simp; try with_reducible rfl
      try simp only [Act.put, List.setIfInBounds_toArray, List.set_cons_zero, List.set_cons_succ]
      refine take_one 1 15 (v := ?_) rfl rfl (by kernel_rfl) (by kernel_rfl) (by kernel_rfl) (fun _ _ _ h => h) (Or.inl ⟨by rfl, ?_⟩) hHeld ?_
      rotate_left
      · intro w' hSw; (try dsimp only at hSw); have c0 := hSw.at 0 rfl; have c2 := hSw.at 2 rfl; go_simp; try with_reducible rfl
      try simp only [Act.put, List.setIfInBounds_toArray, List.set_cons_zero, List.set_cons_succ]
      refine take_one 2 16 (v := ?_) rfl rfl (by kernel_rfl) (by kernel_rfl) (by kernel_rfl) (fun _ _ _ h => h) (Or.inl ⟨by rfl, ?_⟩) hHeld ?_
      rotate_left
      · intro w' hSw; (try dsimp only at hSw); have c0 := hSw.at 0 rfl; have c2 := hSw.at 2 rfl; go_simp; try with_reducible rfl
      try simp only [Act.put, List.setIfInBounds_toArray, List.set_cons_zero, List.set_cons_succ]
      refine take_one 5 19 (v := ?_) rfl rfl (by kernel_rfl) (by kernel_rfl) (by kernel_rfl) (fun _ _ _ h => h) (Or.inl ⟨by rfl, ?_⟩) hHeld ?_
      rotate_left
      · intro w' hSw; (try dsimp only at hSw); have c0 := hSw.at 0 rfl; have c2 := hSw.at 2 rfl; go_simp; try with_reducible rfl
      try simp only [Act.put, List.setIfInBounds_toArray, List.set_cons_zero, List.set_cons_succ]
      refine take_one 6 20 (v := ?_) rfl rfl (by kernel_rfl) (by kernel_rfl) (by kernel_rfl) (fun _ _ _ h => h) (Or.inl ⟨by rfl, ?_⟩) hHeld ?_
      rotate_left
      · intro w' hSw; (try dsimp only at hSw); have c0 := hSw.at 0 rfl; have c2 := hSw.at 2 rfl; go_simp; try with_reducible rfl
      try simp only [Act.put, List.setIfInBounds_toArray, List.set_cons_zero, List.set_cons_succ]
      refine take_one 7 21 (v := ?_) rfl rfl (by kernel_rfl) (by kernel_rfl) (by kernel_rfl) (fun _ _ _ h => h) (Or.inl ⟨by rfl, ?_⟩) hHeld ?_
      rotate_left
      · intro w' hSw; (try dsimp only at hSw); have c0 := hSw.at 0 rfl; have c2 := hSw.at 2 rfl; go_simp; try with_reducible rfl
      try simp only [Act.put, List.setIfInBounds_toArray, List.set_cons_zero, List.set_cons_succ]
      refine take_one 10 24 (v := ?_) rfl rfl (by kernel_rfl) (by kernel_rfl) (by kernel_rfl) (fun _ _ _ h => h) (Or.inl ⟨by rfl, ?_⟩) hHeld ?_
      rotate_left
      · intro w' hSw; (try dsimp only at hSw); have c0 := hSw.at 0 rfl; have c2 := hSw.at 2 rfl; go_simp; try with_reducible rfl
      try simp only [Act.put, List.setIfInBounds_toArray, List.set_cons_zero, List.set_cons_succ]
      refine take_one 11 25 (v := ?_) rfl rfl (by kernel_rfl) (by kernel_rfl) (by kernel_rfl) (fun _ _ _ h => h) (Or.inl ⟨by rfl, ?_⟩) hHeld ?_
      rotate_left
      · intro w' hSw; (try dsimp only at hSw); have c0 := hSw.at 0 rfl; have c2 := hSw.at 2 rfl; go_simp; try with_reducible rfl
      try simp only [Act.put, List.setIfInBounds_toArray, List.set_cons_zero, List.set_cons_succ]
      refine wpAnyH_ready (rs := [3, 8]) (by kernel_rfl) (by simp) ?_
      refine AllReadyH.cons (i := 3) rfl (fun K hK => ?_) (AllReadyH.cons (i := 8) rfl (fun K hK => ?_) AllReadyH.nil)
      ·
        go_simp
        refine hK.out _ _ (hHeld.alloc hHeld.lt _) (fun hHeld2 => ?_)
        clear hK K hHeld
        have hHeld := hHeld2
        clear hHeld2
        try simp only [Act.put, List.setIfInBounds_toArray, List.set_cons_zero, List.set_cons_succ]
        refine wpAnyH_ready (rs := [4, 8]) (by kernel_rfl) (by simp) ?_
        refine AllReadyH.cons (i := 4) rfl (fun K hK => ?_) (AllReadyH.cons (i := 8) rfl (fun K hK => ?_) AllReadyH.nil)
        ·
          have hcc : ((A1.alloc (.cells #[.int .u8 (IntKind.u8.wrap x.1)] 5)).drew).cell? ⟨A1.heap.size, 0, none⟩ = some (.int .u8 (IntKind.u8.wrap x.1)) := by simp
          have hcv2 := conv_at (P := Tryd.prog) 22 9 5 Tryd.underlying22 Tryd.underlying5 Tryd.underlying9 ((A1.alloc (.cells #[.int .u8 (IntKind.u8.wrap x.1)] 5)).drew) _ _ hcc
          go_simp
          refine hK.out _ _ hHeld (fun hHeld2 => ?_)
          clear hK K hHeld
          have hHeld := hHeld2
          clear hHeld2
          try simp only [Act.put, List.setIfInBounds_toArray, List.set_cons_zero, List.set_cons_succ]
          refine wpAnyH_ready (rs := [8]) (by kernel_rfl) (by simp) ?_
          refine AllReadyH.cons (i := 8) rfl (fun K hK => ?_) AllReadyH.nil
          go_simp
          refine (spec_var _ _).mono ?_
          rintro e w2 ⟨rfl, hb⟩
          go_wp2_with fail
          refine hK.out _ _ (hHeld.later hb hHeld.lt) (fun hHeld2 => ?_)
          clear hK K hHeld
          have hHeld := hHeld2
          clear hHeld2
          try simp only [Act.put, List.setIfInBounds_toArray, List.set_cons_zero, List.set_cons_succ]
          refine take_one 9 23 (v := ?_) rfl rfl (by kernel_rfl) (by kernel_rfl) (by kernel_rfl) (fun _ _ _ h => h) (Or.inl ⟨by rfl, ?_⟩) hHeld ?_
          rotate_left
          · intro w' hSw; (try dsimp only at hSw); go_simp; try with_reducible rfl
          try simp only [Act.put, List.setIfInBounds_toArray, List.set_cons_zero, List.set_cons_succ]
          refine take_one 12 26 (v := ?_) rfl rfl (by kernel_rfl) (by kernel_rfl) (by kernel_rfl) (fun _ _ _ h => h) (Or.inl ⟨by rfl, ?_⟩) hHeld ?_
          rotate_left
          · intro w' hSw; (try dsimp only at hSw); go_simp; try with_reducible rfl
          try simp only [Act.put, List.setIfInBounds_toArray, List.set_cons_zero, List.set_cons_succ]
          refine take_one 13 4 (v := ?_) rfl rfl (by kernel_rfl) (by kernel_rfl) (by kernel_rfl) (fun _ _ _ h => h) (Or.inl ⟨by rfl, ?_⟩) hHeld ?_
          rotate_left
          · intro w' hSw; (try dsimp only at hSw); go_simp; try with_reducible rfl
          try simp only [Act.put, List.setIfInBounds_toArray, List.set_cons_zero, List.set_cons_succ]
          refine wpAnyH_done (by kernel_rfl) ?_ _
          go_wp2
          go_ret
          exact ⟨by rw [HS3.out]; exact congrArg (fun t => Ending.returned (.string t)) (tx_val (x := stT x) (by rw [if_pos (show (stT x).2.1 = true from hl)]; rfl) (by omega) (by omega)), ((((B1).alloc (Nat.le_of_lt sA) _).drew).trans (hb.mono (by simp; omega)))⟩
        ·
          go_simp
          refine (spec_var _ _).mono ?_
          rintro e w2 ⟨rfl, hb⟩
          go_wp2_with fail
          refine hK.out _ _ (hHeld.later hb hHeld.lt) (fun hHeld2 => ?_)
          clear hK K hHeld
          have hHeld := hHeld2
          clear hHeld2
          try simp only [Act.put, List.setIfInBounds_toArray, List.set_cons_zero, List.set_cons_succ]
          refine wpAnyH_ready (rs := [4]) (by kernel_rfl) (by simp) ?_
          refine AllReadyH.cons (i := 4) rfl (fun K hK => ?_) AllReadyH.nil
          have hcc : (w2).cell? ⟨A1.heap.size, 0, none⟩ = some (.int .u8 (IntKind.u8.wrap x.1)) := (hb.cell (p := ⟨A1.heap.size, 0, none⟩) (by simp)).trans (by simp)
          have hcv2 := conv_at (P := Tryd.prog) 22 9 5 Tryd.underlying22 Tryd.underlying5 Tryd.underlying9 (w2) _ _ hcc
          go_simp
          refine hK.out _ _ hHeld (fun hHeld2 => ?_)
          clear hK K hHeld
          have hHeld := hHeld2
          clear hHeld2
          try simp only [Act.put, List.setIfInBounds_toArray, List.set_cons_zero, List.set_cons_succ]
          refine take_one 9 23 (v := ?_) rfl rfl (by kernel_rfl) (by kernel_rfl) (by kernel_rfl) (fun _ _ _ h => h) (Or.inl ⟨by rfl, ?_⟩) hHeld ?_
          rotate_left
          · intro w' hSw; (try dsimp only at hSw); go_simp; try with_reducible rfl
          try simp only [Act.put, List.setIfInBounds_toArray, List.set_cons_zero, List.set_cons_succ]
          refine take_one 12 26 (v := ?_) rfl rfl (by kernel_rfl) (by kernel_rfl) (by kernel_rfl) (fun _ _ _ h => h) (Or.inl ⟨by rfl, ?_⟩) hHeld ?_
          rotate_left
          · intro w' hSw; (try dsimp only at hSw); go_simp; try with_reducible rfl
          try simp only [Act.put, List.setIfInBounds_toArray, List.set_cons_zero, List.set_cons_succ]
          refine take_one 13 4 (v := ?_) rfl rfl (by kernel_rfl) (by kernel_rfl) (by kernel_rfl) (fun _ _ _ h => h) (Or.inl ⟨by rfl, ?_⟩) hHeld ?_
          rotate_left
          · intro w' hSw; (try dsimp only at hSw); go_simp; try with_reducible rfl
          try simp only [Act.put, List.setIfInBounds_toArray, List.set_cons_zero, List.set_cons_succ]
          refine wpAnyH_done (by kernel_rfl) ?_ _
          go_wp2
          go_ret
          exact ⟨by rw [HS3.out]; exact congrArg (fun t => Ending.returned (.string t)) (tx_val (x := stT x) (by rw [if_pos (show (stT x).2.1 = true from hl)]; rfl) (by omega) (by omega)), ((((B1).alloc (Nat.le_of_lt sA) _).drew).trans (hb.mono (by simp; omega)))⟩
      ·
        go_simp
        refine (spec_var _ _).mono ?_
        rintro e w2 ⟨rfl, hb⟩
        go_wp2_with fail
        refine hK.out _ _ (hHeld.later hb hHeld.lt) (fun hHeld2 => ?_)
        clear hK K hHeld
        have hHeld := hHeld2
        clear hHeld2
        try simp only [Act.put, List.setIfInBounds_toArray, List.set_cons_zero, List.set_cons_succ]
        refine wpAnyH_ready (rs := [3]) (by kernel_rfl) (by simp) ?_
        refine AllReadyH.cons (i := 3) rfl (fun K hK => ?_) AllReadyH.nil
        go_simp
        refine hK.out _ _ (hHeld.alloc hHeld.lt _) (fun hHeld2 => ?_)
        clear hK K hHeld
        have hHeld := hHeld2
        clear hHeld2
        try simp only [Act.put, List.setIfInBounds_toArray, List.set_cons_zero, List.set_cons_succ]
        refine wpAnyH_ready (rs := [4]) (by kernel_rfl) (by simp) ?_
        refine AllReadyH.cons (i := 4) rfl (fun K hK => ?_) AllReadyH.nil
        have hcc : (w2.alloc (.cells #[.int .u8 (IntKind.u8.wrap x.1)] 5)).cell? ⟨w2.heap.size, 0, none⟩ = some (.int .u8 (IntKind.u8.wrap x.1)) := by simp
        have hcv2 := conv_at (P := Tryd.prog) 22 9 5 Tryd.underlying22 Tryd.underlying5 Tryd.underlying9 (w2.alloc (.cells #[.int .u8 (IntKind.u8.wrap x.1)] 5)) _ _ hcc
        go_simp
        refine hK.out _ _ hHeld (fun hHeld2 => ?_)
        clear hK K hHeld
        have hHeld := hHeld2
        clear hHeld2
        try simp only [Act.put, List.setIfInBounds_toArray, List.set_cons_zero, List.set_cons_succ]
        refine take_one 9 23 (v := ?_) rfl rfl (by kernel_rfl) (by kernel_rfl) (by kernel_rfl) (fun _ _ _ h => h) (Or.inl ⟨by rfl, ?_⟩) hHeld ?_
        rotate_left
        · intro w' hSw; (try dsimp only at hSw); go_simp; try with_reducible rfl
        try simp only [Act.put, List.setIfInBounds_toArray, List.set_cons_zero, List.set_cons_succ]
        refine take_one 12 26 (v := ?_) rfl rfl (by kernel_rfl) (by kernel_rfl) (by kernel_rfl) (fun _ _ _ h => h) (Or.inl ⟨by rfl, ?_⟩) hHeld ?_
        rotate_left
        · intro w' hSw; (try dsimp only at hSw); go_simp; try with_reducible rfl
        try simp only [Act.put, List.setIfInBounds_toArray, List.set_cons_zero, List.set_cons_succ]
        refine take_one 13 4 (v := ?_) rfl rfl (by kernel_rfl) (by kernel_rfl) (by kernel_rfl) (fun _ _ _ h => h) (Or.inl ⟨by rfl, ?_⟩) hHeld ?_
        rotate_left
        · intro w' hSw; (try dsimp only at hSw); go_simp; try with_reducible rfl
        try simp only [Act.put, List.setIfInBounds_toArray, List.set_cons_zero, List.set_cons_succ]
        refine wpAnyH_done (by kernel_rfl) ?_ _
        go_wp2
        go_ret
        exact ⟨by rw [HS3.out]; exact congrArg (fun t => Ending.returned (.string t)) (tx_val (x := stT x) (by rw [if_pos (show (stT x).2.1 = true from hl)]; rfl) (by omega) (by omega)), ((((B1).drew).trans (hb.mono (by simp; omega))).alloc (by have := hb.size; simp at this; omega) _)⟩
    have hl0 : x.2.1 = false := Bool.eq_false_iff.2 hl
    rw [hl0] at p1
    have HS3 : Hid (shT (xs.map stT) i = txS (stT x) (caS (x.2.2.2.2.2.map (fun k => shT (xs.map stT) k.toNat)))) := HS2.out.trans (by rw [if_neg hl])
    obtain ⟨ts, hts⟩ : ∃ ts, (x.2.2.2.2.2.map (fun k => shT (xs.map stT) k.toNat)) = ts := ⟨_, rfl⟩
    rw [hts] at HS3 hsm2
    have htl : ts.length = x.2.2.2.2.2.length := by rw [← hts, List.length_map]
    have hge : ∀ j (h : j < x.2.2.2.2.2.length), ts[j]'(htl ▸ h) = shT (xs.map stT) (x.2.2.2.2.2[j]).toNat := fun j h => by subst hts; simp
    have HGE : Hid (∀ j (h : j < x.2.2.2.2.2.length), ts[j]'(htl ▸ h) = shT (xs.map stT) (x.2.2.2.2.2[j]).toNat) := hge
    have HKI : Hid (∀ k ∈ x.2.2.2.2.2, 0 ≤ k ∧ k < (i : Int)) := hki2
    have HIH : Hid (∀ (t : Nat), t < i → ∀ (u : World), RpT u (some ⟨b1, o1, none⟩, ca, xs) → Calls Tryd.prog 19 #[.slice (some ⟨b1, o1, none⟩) xs.length ca, .int .i64 t] u fun e w' => e = .returned (.string (shT (xs.map stT) t)) ∧ Below u.heap.size u w') := fun t h u hu => ih t (by omega) (by omega) _ _ u hu
    clear HS2 ih hr hrow hkw hK ht hd hkl hsm hge hki2 hts
    go_wp2_with (first | (refine wpList_ldV 61 _ b1 (o1 + i * 4) _ ld1 rfl rfl rfl ?_) | (refine wpList_stB 61 _ _ w.heap.size 0 _ [.int .i64 x.1, .bool x.2.1, .string x.2.2.1, .slice x.2.2.2.1 x.2.2.2.2.2.length x.2.2.2.2.1] it hit TX0 hits.symm (by simp) rfl rfl rfl rfl rfl ?_; rw [hA1]))
    clear ld1 TX0 B0 hA0 hA1 p0 p1 p2
    go_loopw [6, 7] (fun s k wr => ∃ (j : Nat), j ≤ x.2.2.2.2.2.length ∧ s = .string (caS (ts.take j)) ∧ k = .int .i64 j ∧ Below w.heap.size w wr ∧ Below A1.heap.size A1 wr) (fun _ k _ => x.2.2.2.2.2.length - (intOf k).toNat)
    case atStart => exact ⟨0, Nat.zero_le _, rfl, rfl, B1, Below.refl _ _⟩
    case round =>
      obtain ⟨j, hj, rfl, rfl, bw, ba⟩ := hrel
      have TXr := TX1.later ba TX1.lt
      have p3 := TXr.at 3 rfl
      by_cases hlt : j < x.2.2.2.2.2.length
      · have hltI : (j : Int) < (x.2.2.2.2.2.length : Int) := by omega
        obtain ⟨b2, o2, e2, l2, hc2⟩ := RowAt.later hkA ba j hlt
        rw [e2] at p3
        have hkk := HKI.out x.2.2.2.2.2[j] (List.getElem_mem hlt)
        have hgj := HGE.out j hlt
        have HTK : Hid (ts.take (j + 1) = ts.take j ++ [ts[j]'(htl ▸ hlt)]) := List.take_succ_eq_append_getElem (htl ▸ hlt)
        obtain ⟨t, htt⟩ : ∃ t : Nat, x.2.2.2.2.2[j] = (t : Int) := ⟨(x.2.2.2.2.2[j]).toNat, by omega⟩
        rw [htt] at hc2 hkk hgj
        rw [Int.toNat_natCast] at hgj
        have KC := HIH.out t (by omega) wr (RpT.later hrA ba)
        have q1 := caS_take (ts := ts) j
        have q2 := caS_take (ts := ts) (j + 1)
        rw [HTK.out, hgj, caS_snoc, ByteArray.size_append] at q2
        have hs3 : ¬ 9223372036854775807 < (caS (ts.take j)).size + (shT (xs.map stT) t).size := by omega
        have HG2 : Hid (ts[j]'(htl ▸ hlt) = shT (xs.map stT) t) := hgj
        clear hkk hgj q1 q2 htt
        go_wp2_with fail
        refine KC.mono ?_
        clear KC
        rintro ex w2 ⟨rfl, hb⟩
        have bw2 := bw.trans (hb.mono bw.size)
        have ba2 := ba.trans (hb.mono ba.size)
        have HE : Hid (caS (ts.take (j + 1)) = caS (ts.take j) ++ shT (xs.map stT) t) := by show _ = _; rw [HTK.out, HG2.out, caS_snoc]
        clear bw ba hb TXr p3 hc2
        go_wp2
        go_roundw
        case rel => exact ⟨j + 1, by omega, by rw [HE.out], by go_num, bw2, ba2⟩
        case measure => simp [intOf]; omega
      · have hje : j = x.2.2.2.2.2.length := by omega
        have hltI : ¬ (j : Int) < (x.2.2.2.2.2.length : Int) := by omega
        have hta : ts.take j = ts := by rw [hje, ← htl, List.take_length]
        rw [hta]
        have q1 := caS_take (ts := ts) ts.length
        rw [List.take_length] at q1
        obtain ⟨t, ht0⟩ : ∃ t, caS ts = t := ⟨_, rfl⟩
        rw [ht0] at q1 HS3 ⊢
        have q2 : t.size ≤ 6000000000 := by omega
        have hv7 : (varOf (t.size : Int)).size ≤ 7 := by rw [va_of (by omega), vaS_size]; exact varB_seven _ (by omega)
        have hs1 : ¬ 9223372036854775807 < 1 + (varOf (t.size : Int)).size := by have := hv7; omega
        have hs2 : ¬ 9223372036854775807 < 1 + (varOf (t.size : Int)).size + t.size := by have := hv7; omega
        have sW : w.heap.size < wr.heap.size := TXr.lt
        clear hta ht0 q1 HGE HIH HKI hsm2 hkA hrA
        go_wp2
        refine wp_region_held_drew (S := (fun w' : World => Blk w.heap.size [.int .i64 x.1, .bool x.2.1, .string x.2.2.1, .slice x.2.2.2.1 x.2.2.2.2.2.length x.2.2.2.2.1] w')) (by kernel_rfl) TXr.drew (fun hHeld => ?_)
        refine take_one 0 43 (v := ?_) rfl rfl (by kernel_rfl) (by kernel_rfl) (by kernel_rfl) (fun _ _ _ h => h) (Or.inl ⟨by rfl, ?_⟩) hHeld ?_
        rotate_left
        · intro w' hSw; (try dsimp only at hSw); have c0 := hSw.at 0 rfl; go_simp; try with_reducible rfl
        try simp only [Act.put, List.setIfInBounds_toArray, List.set_cons_zero, List.set_cons_succ]
        refine take_one 1 44 (v := ?_) rfl rfl (by kernel_rfl) (by kernel_rfl) (by kernel_rfl) (fun _ _ _ h => h) (Or.inl ⟨by rfl, ?_⟩) hHeld ?_
        rotate_left
        · intro w' hSw; (try dsimp only at hSw); have c0 := hSw.at 0 rfl; go_simp; try with_reducible rfl
        try simp only [Act.put, List.setIfInBounds_toArray, List.set_cons_zero, List.set_cons_succ]
        refine take_one 2 45 (v := ?_) rfl rfl (by kernel_rfl) (by kernel_rfl) (by kernel_rfl) (fun _ _ _ h => h) (Or.inl ⟨by rfl, ?_⟩) hHeld ?_
        rotate_left
        · intro w' hSw; (try dsimp only at hSw); have c0 := hSw.at 0 rfl; go_simp; try with_reducible rfl
        try simp only [Act.put, List.setIfInBounds_toArray, List.set_cons_zero, List.set_cons_succ]
        refine take_one 3 46 (v := ?_) rfl rfl (by kernel_rfl) (by kernel_rfl) (by kernel_rfl) (fun _ _ _ h => h) (Or.inl ⟨by rfl, ?_⟩) hHeld ?_
        rotate_left
        · intro w' hSw; (try dsimp only at hSw); have c0 := hSw.at 0 rfl; go_simp; try with_reducible rfl
        try simp only [Act.put, List.setIfInBounds_toArray, List.set_cons_zero, List.set_cons_succ]
        refine take_one 6 49 (v := ?_) rfl rfl (by kernel_rfl) (by kernel_rfl) (by kernel_rfl) (fun _ _ _ h => h) (Or.inl ⟨by rfl, ?_⟩) hHeld ?_
        rotate_left
        · intro w' hSw; (try dsimp only at hSw); have c0 := hSw.at 0 rfl; go_simp; try with_reducible rfl
        try simp only [Act.put, List.setIfInBounds_toArray, List.set_cons_zero, List.set_cons_succ]
        refine take_one 7 50 (v := ?_) rfl rfl (by kernel_rfl) (by kernel_rfl) (by kernel_rfl) (fun _ _ _ h => h) (Or.inl ⟨by rfl, ?_⟩) hHeld ?_
        rotate_left
        · intro w' hSw; (try dsimp only at hSw); have c0 := hSw.at 0 rfl; go_simp; try with_reducible rfl
        try simp only [Act.put, List.setIfInBounds_toArray, List.set_cons_zero, List.set_cons_succ]
        refine take_one 10 53 (v := ?_) rfl rfl (by kernel_rfl) (by kernel_rfl) (by kernel_rfl) (fun _ _ _ h => h) (Or.inl ⟨by rfl, ?_⟩) hHeld ?_
        rotate_left
        · intro w' hSw; (try dsimp only at hSw); have c0 := hSw.at 0 rfl; go_simp; try with_reducible rfl
        try simp only [Act.put, List.setIfInBounds_toArray, List.set_cons_zero, List.set_cons_succ]
        refine wpAnyH_ready (rs := [4, 8]) (by kernel_rfl) (by simp) ?_
        refine AllReadyH.cons (i := 4) rfl (fun K hK => ?_) (AllReadyH.cons (i := 8) rfl (fun K hK => ?_) AllReadyH.nil)
        ·
          go_simp
          refine hK.out _ _ (hHeld.alloc hHeld.lt _) (fun hHeld2 => ?_)
          clear hK K hHeld
          have hHeld := hHeld2
          clear hHeld2
          try simp only [Act.put, List.setIfInBounds_toArray, List.set_cons_zero, List.set_cons_succ]
          refine wpAnyH_ready (rs := [5, 8]) (by kernel_rfl) (by simp) ?_
          refine AllReadyH.cons (i := 5) rfl (fun K hK => ?_) (AllReadyH.cons (i := 8) rfl (fun K hK => ?_) AllReadyH.nil)
          ·
            have hcc : ((wr.alloc (.cells #[.int .u8 (IntKind.u8.wrap (IntKind.i64.wrap (x.1 + 128)))] 5)).drew).cell? ⟨wr.heap.size, 0, none⟩ = some (.int .u8 (IntKind.u8.wrap (IntKind.i64.wrap (x.1 + 128)))) := by simp
            have hcv2 := conv_at (P := Tryd.prog) 22 9 5 Tryd.underlying22 Tryd.underlying5 Tryd.underlying9 ((wr.alloc (.cells #[.int .u8 (IntKind.u8.wrap (IntKind.i64.wrap (x.1 + 128)))] 5)).drew) _ _ hcc
            go_simp
            refine hK.out _ _ hHeld (fun hHeld2 => ?_)
            clear hK K hHeld
            have hHeld := hHeld2
            clear hHeld2
            try simp only [Act.put, List.setIfInBounds_toArray, List.set_cons_zero, List.set_cons_succ]
            refine wpAnyH_ready (rs := [8]) (by kernel_rfl) (by simp) ?_
            refine AllReadyH.cons (i := 8) rfl (fun K hK => ?_) AllReadyH.nil
            go_simp
            refine (spec_var _ _).mono ?_
            rintro e w2 ⟨rfl, hb⟩
            go_wp2_with fail
            refine hK.out _ _ (hHeld.later hb hHeld.lt) (fun hHeld2 => ?_)
            clear hK K hHeld
            have hHeld := hHeld2
            clear hHeld2
            try simp only [Act.put, List.setIfInBounds_toArray, List.set_cons_zero, List.set_cons_succ]
            refine take_one 9 52 (v := ?_) rfl rfl (by kernel_rfl) (by kernel_rfl) (by kernel_rfl) (fun _ _ _ h => h) (Or.inl ⟨by rfl, ?_⟩) hHeld ?_
            rotate_left
            · intro w' hSw; (try dsimp only at hSw); go_simp; try with_reducible rfl
            try simp only [Act.put, List.setIfInBounds_toArray, List.set_cons_zero, List.set_cons_succ]
            refine take_one 11 54 (v := ?_) rfl rfl (by kernel_rfl) (by kernel_rfl) (by kernel_rfl) (fun _ _ _ h => h) (Or.inl ⟨by rfl, ?_⟩) hHeld ?_
            rotate_left
            · intro w' hSw; (try dsimp only at hSw); go_simp; try with_reducible rfl
            try simp only [Act.put, List.setIfInBounds_toArray, List.set_cons_zero, List.set_cons_succ]
            refine take_one 12 4 (v := ?_) rfl rfl (by kernel_rfl) (by kernel_rfl) (by kernel_rfl) (fun _ _ _ h => h) (Or.inl ⟨by rfl, ?_⟩) hHeld ?_
            rotate_left
            · intro w' hSw; (try dsimp only at hSw); go_simp; try with_reducible rfl
            try simp only [Act.put, List.setIfInBounds_toArray, List.set_cons_zero, List.set_cons_succ]
            refine wpAnyH_done (by kernel_rfl) ?_ _
            go_wp2
            go_ret
            exact ⟨by rw [HS3.out]; exact congrArg (fun t => Ending.returned (.string t)) (tx_val (x := stT x) (v := IntKind.i64.wrap (x.1 + 128)) (by rw [if_neg (show ¬ (stT x).2.1 = true from hl)]; exact wr64 (by omega)) (by rw [wr64 (by omega)]; omega) (by omega)), ((((bw).alloc (Nat.le_of_lt sW) _).drew).trans (hb.mono (by simp; omega)))⟩
          ·
            go_simp
            refine (spec_var _ _).mono ?_
            rintro e w2 ⟨rfl, hb⟩
            go_wp2_with fail
            refine hK.out _ _ (hHeld.later hb hHeld.lt) (fun hHeld2 => ?_)
            clear hK K hHeld
            have hHeld := hHeld2
            clear hHeld2
            try simp only [Act.put, List.setIfInBounds_toArray, List.set_cons_zero, List.set_cons_succ]
            refine wpAnyH_ready (rs := [5]) (by kernel_rfl) (by simp) ?_
            refine AllReadyH.cons (i := 5) rfl (fun K hK => ?_) AllReadyH.nil
            have hcc : (w2).cell? ⟨wr.heap.size, 0, none⟩ = some (.int .u8 (IntKind.u8.wrap (IntKind.i64.wrap (x.1 + 128)))) := (hb.cell (p := ⟨wr.heap.size, 0, none⟩) (by simp)).trans (by simp)
            have hcv2 := conv_at (P := Tryd.prog) 22 9 5 Tryd.underlying22 Tryd.underlying5 Tryd.underlying9 (w2) _ _ hcc
            go_simp
            refine hK.out _ _ hHeld (fun hHeld2 => ?_)
            clear hK K hHeld
            have hHeld := hHeld2
            clear hHeld2
            try simp only [Act.put, List.setIfInBounds_toArray, List.set_cons_zero, List.set_cons_succ]
            refine take_one 9 52 (v := ?_) rfl rfl (by kernel_rfl) (by kernel_rfl) (by kernel_rfl) (fun _ _ _ h => h) (Or.inl ⟨by rfl, ?_⟩) hHeld ?_
            rotate_left
            · intro w' hSw; (try dsimp only at hSw); go_simp; try with_reducible rfl
            try simp only [Act.put, List.setIfInBounds_toArray, List.set_cons_zero, List.set_cons_succ]
            refine take_one 11 54 (v := ?_) rfl rfl (by kernel_rfl) (by kernel_rfl) (by kernel_rfl) (fun _ _ _ h => h) (Or.inl ⟨by rfl, ?_⟩) hHeld ?_
            rotate_left
            · intro w' hSw; (try dsimp only at hSw); go_simp; try with_reducible rfl
            try simp only [Act.put, List.setIfInBounds_toArray, List.set_cons_zero, List.set_cons_succ]
            refine take_one 12 4 (v := ?_) rfl rfl (by kernel_rfl) (by kernel_rfl) (by kernel_rfl) (fun _ _ _ h => h) (Or.inl ⟨by rfl, ?_⟩) hHeld ?_
            rotate_left
            · intro w' hSw; (try dsimp only at hSw); go_simp; try with_reducible rfl
            try simp only [Act.put, List.setIfInBounds_toArray, List.set_cons_zero, List.set_cons_succ]
            refine wpAnyH_done (by kernel_rfl) ?_ _
            go_wp2
            go_ret
            exact ⟨by rw [HS3.out]; exact congrArg (fun t => Ending.returned (.string t)) (tx_val (x := stT x) (v := IntKind.i64.wrap (x.1 + 128)) (by rw [if_neg (show ¬ (stT x).2.1 = true from hl)]; exact wr64 (by omega)) (by rw [wr64 (by omega)]; omega) (by omega)), ((((bw).alloc (Nat.le_of_lt sW) _).drew).trans (hb.mono (by simp; omega)))⟩
        ·
          go_simp
          refine (spec_var _ _).mono ?_
          rintro e w2 ⟨rfl, hb⟩
          go_wp2_with fail
          refine hK.out _ _ (hHeld.later hb hHeld.lt) (fun hHeld2 => ?_)
          clear hK K hHeld
          have hHeld := hHeld2
          clear hHeld2
          try simp only [Act.put, List.setIfInBounds_toArray, List.set_cons_zero, List.set_cons_succ]
          refine wpAnyH_ready (rs := [4]) (by kernel_rfl) (by simp) ?_
          refine AllReadyH.cons (i := 4) rfl (fun K hK => ?_) AllReadyH.nil
          go_simp
          refine hK.out _ _ (hHeld.alloc hHeld.lt _) (fun hHeld2 => ?_)
          clear hK K hHeld
          have hHeld := hHeld2
          clear hHeld2
          try simp only [Act.put, List.setIfInBounds_toArray, List.set_cons_zero, List.set_cons_succ]
          refine wpAnyH_ready (rs := [5]) (by kernel_rfl) (by simp) ?_
          refine AllReadyH.cons (i := 5) rfl (fun K hK => ?_) AllReadyH.nil
          have hcc : (w2.alloc (.cells #[.int .u8 (IntKind.u8.wrap (IntKind.i64.wrap (x.1 + 128)))] 5)).cell? ⟨w2.heap.size, 0, none⟩ = some (.int .u8 (IntKind.u8.wrap (IntKind.i64.wrap (x.1 + 128)))) := by simp
          have hcv2 := conv_at (P := Tryd.prog) 22 9 5 Tryd.underlying22 Tryd.underlying5 Tryd.underlying9 (w2.alloc (.cells #[.int .u8 (IntKind.u8.wrap (IntKind.i64.wrap (x.1 + 128)))] 5)) _ _ hcc
          go_simp
          refine hK.out _ _ hHeld (fun hHeld2 => ?_)
          clear hK K hHeld
          have hHeld := hHeld2
          clear hHeld2
          try simp only [Act.put, List.setIfInBounds_toArray, List.set_cons_zero, List.set_cons_succ]
          refine take_one 9 52 (v := ?_) rfl rfl (by kernel_rfl) (by kernel_rfl) (by kernel_rfl) (fun _ _ _ h => h) (Or.inl ⟨by rfl, ?_⟩) hHeld ?_
          rotate_left
          · intro w' hSw; (try dsimp only at hSw); go_simp; try with_reducible rfl
          try simp only [Act.put, List.setIfInBounds_toArray, List.set_cons_zero, List.set_cons_succ]
          refine take_one 11 54 (v := ?_) rfl rfl (by kernel_rfl) (by kernel_rfl) (by kernel_rfl) (fun _ _ _ h => h) (Or.inl ⟨by rfl, ?_⟩) hHeld ?_
          rotate_left
          · intro w' hSw; (try dsimp only at hSw); go_simp; try with_reducible rfl
          try simp only [Act.put, List.setIfInBounds_toArray, List.set_cons_zero, List.set_cons_succ]
          refine take_one 12 4 (v := ?_) rfl rfl (by kernel_rfl) (by kernel_rfl) (by kernel_rfl) (fun _ _ _ h => h) (Or.inl ⟨by rfl, ?_⟩) hHeld ?_
          rotate_left
          · intro w' hSw; (try dsimp only at hSw); go_simp; try with_reducible rfl
          try simp only [Act.put, List.setIfInBounds_toArray, List.set_cons_zero, List.set_cons_succ]
          refine wpAnyH_done (by kernel_rfl) ?_ _
          go_wp2
          go_ret
          exact ⟨by rw [HS3.out]; exact congrArg (fun t => Ending.returned (.string t)) (tx_val (x := stT x) (v := IntKind.i64.wrap (x.1 + 128)) (by rw [if_neg (show ¬ (stT x).2.1 = true from hl)]; exact wr64 (by omega)) (by rw [wr64 (by omega)]; omega) (by omega)), ((((bw).drew).trans (hb.mono (by simp; omega))).alloc (by have := hb.size; simp at this; omega) _)⟩
end Go.Proofs.YtengggpobhibcaaDoor.Nd
