/- Nothing was taken twice: the program. -/
import Derived.Test.YtjcmbbnklfemcaaGreatWs9
import Derived.Test.YtjcmbbnklfemcaaGreatRq1
set_option linter.unusedVariables false
set_option maxRecDepth 100000
namespace Go.Proofs.YtjcmbbnklfemcaaGreat.Nd
open Go Go.RowKit Go.Joins Own Draw Term

/-- What a service must take once: who it is, and the Auth. -/
def rq (p : TQ) : Rq.A4 := (p.1, p.2.2.2.2.2.1.1, p.2.2.2.2.2.1.2.1, p.2.2.2.2.2.1.2.2)
def onB (xs : List TQ) : Bool := decide ((xs.map rq).Nodup)
theorem wok_acc {d : TD} (h : wokB d = true) : d.2.2.2.2.2.2.2.2.2.1.2.2.length ≤ 40 := by
  unfold wokB recB at h
  simp only [Bool.and_eq_true] at h
  exact of_decide_eq_true h.2.2.2.2.2.2.2.2.2.1
set_option maxRecDepth 100000 in
set_option maxHeartbeats 6400000 in
theorem implOnce_is (B : Nat) (d : TD) (w : World) (hd : WdOk B w d) (hq : ∀ x ∈ d.2.2.2.2.2.2.2.2.2.1.2.2, Rq.K4 (rq x)) : Calls Tryz.prog 17 #[vD d] w fun e w' => e = .returned (.bool (wokB d && onB d.2.2.2.2.2.2.2.2.2.1.2.2)) ∧ Below w.heap.size w w' := by
  obtain ⟨ie, hie, his⟩ := info_D
  obtain ⟨iq, hiq, hiqs⟩ := info_Q
  obtain ⟨f0, f1, f2, f3, f4, f5, f6, f7, f8, ⟨aa, ac, xs⟩, f10⟩ := d
  dsimp only at hq ⊢
  obtain ⟨V, hV⟩ : ∃ V, w.alloc (.cells #[.slice f0.1.1 f0.1.2.2.length f0.1.2.1, .slice f0.2.1.1 f0.2.1.2.2.length f0.2.1.2.1, .slice f0.2.2.1.1 f0.2.2.1.2.2.length f0.2.2.1.2.1, .slice f0.2.2.2.1.1 f0.2.2.2.1.2.2.length f0.2.2.2.1.2.1, .int .i64 f0.2.2.2.2, .int .i64 f1, .int .i64 f2, .slice f3.1 f3.2.2.length f3.2.1, .slice f4.1.1 f4.1.2.2.length f4.1.2.1, .slice f4.2.1 f4.2.2.2.length f4.2.2.1, .slice f5.1 f5.2.2.length f5.2.1, .slice f6.1 f6.2.2.length f6.2.1, .slice f7.1 f7.2.2.length f7.2.1, .slice f8.1 f8.2.2.length f8.2.1, .slice aa xs.length ac, .slice f10.1 f10.2.2.length f10.2.1] 48) = V := ⟨_, rfl⟩
  have TV : Blk w.heap.size [.slice f0.1.1 f0.1.2.2.length f0.1.2.1, .slice f0.2.1.1 f0.2.1.2.2.length f0.2.1.2.1, .slice f0.2.2.1.1 f0.2.2.1.2.2.length f0.2.2.1.2.1, .slice f0.2.2.2.1.1 f0.2.2.2.1.2.2.length f0.2.2.2.1.2.1, .int .i64 f0.2.2.2.2, .int .i64 f1, .int .i64 f2, .slice f3.1 f3.2.2.length f3.2.1, .slice f4.1.1 f4.1.2.2.length f4.1.2.1, .slice f4.2.1 f4.2.2.2.length f4.2.2.1, .slice f5.1 f5.2.2.length f5.2.1, .slice f6.1 f6.2.2.length f6.2.1, .slice f7.1 f7.2.2.length f7.2.1, .slice f8.1 f8.2.2.length f8.2.1, .slice aa xs.length ac, .slice f10.1 f10.2.2.length f10.2.1] V := by rw [← hV]; exact Blk.new _ _ _
  have BC : Below w.heap.size w V := by rw [← hV]; exact (Below.refl _ _).alloc (Nat.le_refl _) _
  have K1 := worldRight_is B _ V (hd.later BC)
  go_enter Tryz.func17, Tryz.ntmps17
  go_wp2_with (first | (refine wpList_ldB 48 _ w.heap.size 0 _ [.slice f0.1.1 f0.1.2.2.length f0.1.2.1, .slice f0.2.1.1 f0.2.1.2.2.length f0.2.1.2.1, .slice f0.2.2.1.1 f0.2.2.1.2.2.length f0.2.2.1.2.1, .slice f0.2.2.2.1.1 f0.2.2.2.1.2.2.length f0.2.2.2.1.2.1, .int .i64 f0.2.2.2.2, .int .i64 f1, .int .i64 f2, .slice f3.1 f3.2.2.length f3.2.1, .slice f4.1.1 f4.1.2.2.length f4.1.2.1, .slice f4.2.1 f4.2.2.2.length f4.2.2.1, .slice f5.1 f5.2.2.length f5.2.1, .slice f6.1 f6.2.2.length f6.2.1, .slice f7.1 f7.2.2.length f7.2.1, .slice f8.1 f8.2.2.length f8.2.1, .slice aa xs.length ac, .slice f10.1 f10.2.2.length f10.2.1] ie hie (Tryz.isAgg48) TV his.symm rfl rfl rfl rfl ?_; try simp only [Act.put]))
  refine K1.mono ?_
  clear K1 hV
  rintro en v0 ⟨rfl, hb⟩
  replace TV := TV.later hb (World.block_lt_of_cell? _ _ (TV.at 0 rfl))
  replace BC := BC.trans (hb.mono BC.size)
  clear hb
  by_cases hw : wokB (f0, f1, f2, f3, f4, f5, f6, f7, f8, (aa, ac, xs), f10) = true
  · have hl40 : xs.length ≤ 40 := wok_acc hw
    have hr : FRow 15 cQ w aa xs := hd.ow.2.2.2.2.2.2.2.1.dp.1
    rw [hw]
    clear hd
    have d14 := TV.at 14 rfl
    replace hw : Hid (wokB (f0, f1, f2, f3, f4, f5, f6, f7, f8, (aa, ac, xs), f10) = true) := hw
    have hM0 := Rq.SeenM.made v0
    have hB0 : Below v0.heap.size v0 (v0.alloc (.map #[] 0)) := (Below.refl _ _).alloc (Nat.le_refl _) _
    have hmm := @run_makeMap Tryz.prog
    have TV1 := TV.later hB0 (World.block_lt_of_cell? _ _ (TV.at 0 rfl))
    have e14 := TV1.at 14 rfl
    clear TV1
    go_wp2
    clear hmm
    go_loopw [13] (fun iv wr => ∃ k : Nat, k ≤ xs.length ∧ iv = .int .i64 k ∧ Rq.SeenM v0.heap.size k ((xs.take k).map rq) wr ∧ Below v0.heap.size v0 wr) (fun iv _ => xs.length - (intOf iv).toNat)
    case atStart => exact ⟨0, by omega, rfl, hM0, hB0⟩
    case round =>
      clear hM0 hB0 e14
      obtain ⟨k, hk, rfl, hM, hbel⟩ := hrel
      have BW := BC.trans (hbel.mono BC.size)
      by_cases hlt : k < xs.length
      · obtain ⟨b1, o1, rfl, l1, hcc⟩ := hr k hlt
        have c0 : wr.cell? ⟨b1, o1 + k * 15, none⟩ = some (.int .i64 xs[k].1) := (BW.cell (p := ⟨b1, o1 + k * 15, none⟩) l1).trans (hcc 0 _ rfl)
        have c1 : wr.cell? ⟨b1, o1 + k * 15 + 1, none⟩ = some (.int .i64 xs[k].2.1) := (BW.cell (p := ⟨b1, o1 + k * 15 + 1, none⟩) l1).trans (hcc 1 _ rfl)
        have c2 : wr.cell? ⟨b1, o1 + k * 15 + 2, none⟩ = some (.int .i64 xs[k].2.2.1) := (BW.cell (p := ⟨b1, o1 + k * 15 + 2, none⟩) l1).trans (hcc 2 _ rfl)
        have c3 : wr.cell? ⟨b1, o1 + k * 15 + 3, none⟩ = some (.int .i64 xs[k].2.2.2.1) := (BW.cell (p := ⟨b1, o1 + k * 15 + 3, none⟩) l1).trans (hcc 3 _ rfl)
        have c4 : wr.cell? ⟨b1, o1 + k * 15 + 4, none⟩ = some (.int .i64 xs[k].2.2.2.2.1) := (BW.cell (p := ⟨b1, o1 + k * 15 + 4, none⟩) l1).trans (hcc 4 _ rfl)
        have c5 : wr.cell? ⟨b1, o1 + k * 15 + 5, none⟩ = some (.int .i64 xs[k].2.2.2.2.2.1.1) := (BW.cell (p := ⟨b1, o1 + k * 15 + 5, none⟩) l1).trans (hcc 5 _ rfl)
        have c6 : wr.cell? ⟨b1, o1 + k * 15 + 6, none⟩ = some (.int .i64 xs[k].2.2.2.2.2.1.2.1) := (BW.cell (p := ⟨b1, o1 + k * 15 + 6, none⟩) l1).trans (hcc 6 _ rfl)
        have c7 : wr.cell? ⟨b1, o1 + k * 15 + 7, none⟩ = some (.int .i64 xs[k].2.2.2.2.2.1.2.2) := (BW.cell (p := ⟨b1, o1 + k * 15 + 7, none⟩) l1).trans (hcc 7 _ rfl)
        have c8 : wr.cell? ⟨b1, o1 + k * 15 + 8, none⟩ = some (.int .i64 xs[k].2.2.2.2.2.2.1.1) := (BW.cell (p := ⟨b1, o1 + k * 15 + 8, none⟩) l1).trans (hcc 8 _ rfl)
        have c9 : wr.cell? ⟨b1, o1 + k * 15 + 9, none⟩ = some (.int .i64 xs[k].2.2.2.2.2.2.1.2.1) := (BW.cell (p := ⟨b1, o1 + k * 15 + 9, none⟩) l1).trans (hcc 9 _ rfl)
        have c10 : wr.cell? ⟨b1, o1 + k * 15 + 10, none⟩ = some (.int .i64 xs[k].2.2.2.2.2.2.1.2.2) := (BW.cell (p := ⟨b1, o1 + k * 15 + 10, none⟩) l1).trans (hcc 10 _ rfl)
        have c11 : wr.cell? ⟨b1, o1 + k * 15 + 11, none⟩ = some (.slice xs[k].2.2.2.2.2.2.2.1.1 xs[k].2.2.2.2.2.2.2.1.2.2.length xs[k].2.2.2.2.2.2.2.1.2.1) := (BW.cell (p := ⟨b1, o1 + k * 15 + 11, none⟩) l1).trans (hcc 11 _ rfl)
        have c12 : wr.cell? ⟨b1, o1 + k * 15 + 12, none⟩ = some (.slice xs[k].2.2.2.2.2.2.2.2.1.1 xs[k].2.2.2.2.2.2.2.2.1.2.2.length xs[k].2.2.2.2.2.2.2.2.1.2.1) := (BW.cell (p := ⟨b1, o1 + k * 15 + 12, none⟩) l1).trans (hcc 12 _ rfl)
        have c13 : wr.cell? ⟨b1, o1 + k * 15 + 13, none⟩ = some (.int .i64 xs[k].2.2.2.2.2.2.2.2.2.1) := (BW.cell (p := ⟨b1, o1 + k * 15 + 13, none⟩) l1).trans (hcc 13 _ rfl)
        have c14 : wr.cell? ⟨b1, o1 + k * 15 + 14, none⟩ = some (.string xs[k].2.2.2.2.2.2.2.2.2.2) := (BW.cell (p := ⟨b1, o1 + k * 15 + 14, none⟩) l1).trans (hcc 14 _ rfl)
        have hlt2 : (k : Int) < (xs.length : Int) := by omega
        have hK4 := hq _ (List.getElem_mem hlt)
        have hsn : (xs.take k).map rq ++ [rq xs[k]] = (xs.take (k + 1)).map rq := by rw [List.take_succ_eq_append_getElem hlt, List.map_append]; rfl
        generalize hxk : xs[k] = x at hK4 hsn c0 c1 c2 c3 c4 c5 c6 c7 c8 c9 c10 c11 c12 c13 c14
        clear hxk hcc
        obtain ⟨g0, g1, g2, g3, g4, ⟨g5_0, g5_1, g5_2⟩, ⟨g6_0, g6_1, g6_2⟩, g7, g8, g9, g10⟩ := x
        dsimp only at c0 c1 c2 c3 c4 c5 c6 c7 c8 c9 c10 c11 c12 c13 c14
        obtain ⟨A0, hA0⟩ : ∃ A0, wr.alloc (.cells #[.int .i64 0, .int .i64 0, .int .i64 0, .int .i64 0, .int .i64 0, .int .i64 0, .int .i64 0, .int .i64 0, .int .i64 0, .int .i64 0, .int .i64 0, .slice none 0 0, .slice none 0 0, .int .i64 0, .string ⟨#[]⟩] 82) = A0 := ⟨_, rfl⟩
        have T0 : Blk wr.heap.size [.int .i64 0, .int .i64 0, .int .i64 0, .int .i64 0, .int .i64 0, .int .i64 0, .int .i64 0, .int .i64 0, .int .i64 0, .int .i64 0, .int .i64 0, .slice none 0 0, .slice none 0 0, .int .i64 0, .string ⟨#[]⟩] A0 := by rw [← hA0]; exact Blk.new _ _ _
        have B0 : Below wr.heap.size wr A0 := by rw [← hA0]; exact (Below.refl _ _).alloc (Nat.le_refl _) _
        obtain ⟨A1, hA1⟩ : ∃ A1, A0.setCells wr.heap.size 0 [.int .i64 g0, .int .i64 g1, .int .i64 g2, .int .i64 g3, .int .i64 g4, .int .i64 g5_0, .int .i64 g5_1, .int .i64 g5_2, .int .i64 g6_0, .int .i64 g6_1, .int .i64 g6_2, .slice g7.1 g7.2.2.length g7.2.1, .slice g8.1 g8.2.2.length g8.2.1, .int .i64 g9, .string g10] = A1 := ⟨_, rfl⟩
        have T1 : Blk wr.heap.size [.int .i64 g0, .int .i64 g1, .int .i64 g2, .int .i64 g3, .int .i64 g4, .int .i64 g5_0, .int .i64 g5_1, .int .i64 g5_2, .int .i64 g6_0, .int .i64 g6_1, .int .i64 g6_2, .slice g7.1 g7.2.2.length g7.2.1, .slice g8.1 g8.2.2.length g8.2.1, .int .i64 g9, .string g10] A1 := by rw [← hA1]; exact T0.sets _ rfl
        have B1 : Below wr.heap.size wr A1.drew := by rw [← hA1]; exact (below_sets (Nat.le_refl _) _ _ _ B0).drew
        have hMV := hM.kept B1
        have hmlt := hM.lt
        obtain ⟨c, st, W2, W3, f1, f2, f3, f4, f5, f6, f7, hc⟩ := hMV.more (by unfold maxLen; omega) hK4 (by rw [List.length_map, List.length_take]; omega)
        rw [hsn] at f5
        replace f1 : (Instr.lookup 111 (.map (some v0.heap.size)) (.agg #[.int .i64 g0, .int .i64 g5_0, .int .i64 g5_1, .int .i64 g5_2]) false).run Tryz.prog A1.drew = .ok (.int .i64 (c : Int)) A1.drew := f1
        replace f2 : (Instr.mapEntry 111 (.map (some v0.heap.size)) (.agg #[.int .i64 g0, .int .i64 g5_0, .int .i64 g5_1, .int .i64 g5_2])).run Tryz.prog A1.drew = .ok (.tuple #[.int .i64 (c : Int), .int .i64 (st : Int)]) W2 := f2
        replace f3 : (Instr.lookup 111 (.map (some v0.heap.size)) (.agg #[.int .i64 g0, .int .i64 g5_0, .int .i64 g5_1, .int .i64 g5_2]) false).run Tryz.prog W2 = .ok (.int .i64 (c : Int)) W2 := f3
        replace f4 : (Instr.entryStore 111 (.map (some v0.heap.size)) (.int .i64 (st : Int)) (.int .i64 ((c : Int) + 1))).run Tryz.prog W2 = .ok () W3 := f4
        have HS : Hid (∃ k' : Nat, k' ≤ xs.length ∧ Value.int .i64 ((k : Int) + 1) = .int .i64 k' ∧ Rq.SeenM v0.heap.size k' ((xs.take k').map rq) W3 ∧ Below v0.heap.size v0 W3) :=
          ⟨k + 1, by omega, by go_num, f5, (hbel.trans (B1.mono hbel.size)).grown f6 (Nat.le_trans hbel.size B1.size) (fun j hj => by cases hj; exact Nat.le_refl _)⟩
        have hwr : IntKind.i64.wrap ((c : Int) + 1) = (c : Int) + 1 := Ch.wrap_i64_small (c + 1) (by omega)
        have TD1 := T1.drew
        have lA : wr.heap.size < A1.drew.heap.size := World.block_lt_of_cell? _ _ (TD1.at 0 rfl)
        have g2c : ∀ j, W2.cell? ⟨wr.heap.size, j, none⟩ = A1.drew.cell? ⟨wr.heap.size, j, none⟩ := fun j => World.cell?_of_block (a := ⟨wr.heap.size, j, none⟩) (f7.block wr.heap.size lA (by intro e; injection e with e; omega))
        have g3c : ∀ j, W3.cell? ⟨wr.heap.size, j, none⟩ = A1.drew.cell? ⟨wr.heap.size, j, none⟩ := fun j => World.cell?_of_block (a := ⟨wr.heap.size, j, none⟩) (f6.block wr.heap.size lA (by intro e; injection e with e; omega))
        have r0 := TD1.at 0 rfl
        have r5 := TD1.at 5 rfl
        have r6 := TD1.at 6 rfl
        have r7 := TD1.at 7 rfl
        have u0 := (g2c 0).trans r0
        have u5 := (g2c 5).trans r5
        have u6 := (g2c 6).trans r6
        have u7 := (g2c 7).trans r7
        have t0 := (g3c 0).trans r0
        have t5 := (g3c 5).trans r5
        have t6 := (g3c 6).trans r6
        have t7 := (g3c 7).trans r7
        have HQ : Hid (Rq.SeenM v0.heap.size (k + 1) ((xs.take (k + 1)).map rq) W3) := f5
        clear hsn f5 f6 f7 hMV hM T1 TD1 B1 B0 hbel BW hK4 hmlt g2c g3c lA hr hq
        go_wp2_with (first | (refine wpList_stB 82 _ _ wr.heap.size 0 _ [.int .i64 g0, .int .i64 g1, .int .i64 g2, .int .i64 g3, .int .i64 g4, .int .i64 g5_0, .int .i64 g5_1, .int .i64 g5_2, .int .i64 g6_0, .int .i64 g6_1, .int .i64 g6_2, .slice g7.1 g7.2.2.length g7.2.1, .slice g8.1 g8.2.2.length g8.2.1, .int .i64 g9, .string g10] iq hiq T0 hiqs.symm (by simp) rfl rfl rfl rfl rfl ?_; rw [hA1]))
        clear T0 hA0 hA1 c0 c1 c2 c3 c4 c5 c6 c7 c8 c9 c10 c11 c12 c13 c14
        refine wp_region_held_drew (S := (fun U : World => U.cell? ⟨wr.heap.size, 0, none⟩ = some (.int .i64 g0) ∧ U.cell? ⟨wr.heap.size, 5, none⟩ = some (.int .i64 g5_0) ∧ U.cell? ⟨wr.heap.size, 6, none⟩ = some (.int .i64 g5_1) ∧ U.cell? ⟨wr.heap.size, 7, none⟩ = some (.int .i64 g5_2))) (by kernel_rfl) ⟨r0, r5, r6, r7⟩ (fun hHeld => ?_)
        refine take_one 0 17 (v := ?_) rfl rfl (by kernel_rfl) (by kernel_rfl) (by kernel_rfl) (fun _ _ _ h => h) (Or.inl ⟨by rfl, ?_⟩) hHeld ?_
        rotate_left
        · intro w' hSw; (try dsimp only at hSw); obtain ⟨s0, s5, s6, s7⟩ := hSw; go_simp; try with_reducible rfl
        try simp only [Act.put, List.setIfInBounds_toArray, List.set_cons_zero, List.set_cons_succ]
        refine take_one 1 18 (v := ?_) rfl rfl (by kernel_rfl) (by kernel_rfl) (by kernel_rfl) (fun _ _ _ h => h) (Or.inl ⟨by rfl, ?_⟩) hHeld ?_
        rotate_left
        · intro w' hSw; (try dsimp only at hSw); obtain ⟨s0, s5, s6, s7⟩ := hSw; go_simp; try with_reducible rfl
        try simp only [Act.put, List.setIfInBounds_toArray, List.set_cons_zero, List.set_cons_succ]
        refine take_one 2 19 (v := ?_) rfl rfl (by kernel_rfl) (by kernel_rfl) (by kernel_rfl) (fun _ _ _ h => h) (Or.inl ⟨by rfl, ?_⟩) hHeld ?_
        rotate_left
        · intro w' hSw; (try dsimp only at hSw); obtain ⟨s0, s5, s6, s7⟩ := hSw; go_simp; try with_reducible rfl
        try simp only [Act.put, List.setIfInBounds_toArray, List.set_cons_zero, List.set_cons_succ]
        refine take_one 3 20 (v := ?_) rfl rfl (by kernel_rfl) (by kernel_rfl) (by kernel_rfl) (fun _ _ _ h => h) (Or.inl ⟨by rfl, ?_⟩) hHeld ?_
        rotate_left
        · intro w' hSw; (try dsimp only at hSw); obtain ⟨s0, s5, s6, s7⟩ := hSw; go_simp; try with_reducible rfl
        try simp only [Act.put, List.setIfInBounds_toArray, List.set_cons_zero, List.set_cons_succ]
        refine take_one 4 21 (v := ?_) rfl rfl (by kernel_rfl) (by kernel_rfl) (by kernel_rfl) (fun _ _ _ h => h) (Or.inl ⟨by rfl, ?_⟩) hHeld ?_
        rotate_left
        · intro w' hSw; (try dsimp only at hSw); obtain ⟨s0, s5, s6, s7⟩ := hSw; go_simp; try with_reducible rfl
        try simp only [Act.put, List.setIfInBounds_toArray, List.set_cons_zero, List.set_cons_succ]
        refine take_one 5 22 (v := ?_) rfl rfl (by kernel_rfl) (by kernel_rfl) (by kernel_rfl) (fun _ _ _ h => h) (Or.inl ⟨by rfl, ?_⟩) hHeld ?_
        rotate_left
        · intro w' hSw; (try dsimp only at hSw); obtain ⟨s0, s5, s6, s7⟩ := hSw; go_simp; try with_reducible rfl
        try simp only [Act.put, List.setIfInBounds_toArray, List.set_cons_zero, List.set_cons_succ]
        refine wpAnyH_ready (rs := [6, 8]) (by kernel_rfl) (by simp) ?_
        refine AllReadyH.cons (i := 6) rfl (fun K hK => ?_) (AllReadyH.cons (i := 8) rfl (fun K hK => ?_) AllReadyH.nil)
        · go_simp
          refine hK.out _ _ ⟨r0, r5, r6, r7⟩ (fun hHeld2 => ?_)
          clear hK K hHeld
          have hHeld := hHeld2
          clear hHeld2
          try simp only [Act.put, List.setIfInBounds_toArray, List.set_cons_zero, List.set_cons_succ]
          refine take_one 7 24 (v := ?_) rfl rfl (by kernel_rfl) (by kernel_rfl) (by kernel_rfl) (fun _ _ _ h => h) (Or.inl ⟨by rfl, ?_⟩) hHeld ?_
          rotate_left
          · intro w' hSw; (try dsimp only at hSw); obtain ⟨s0, s5, s6, s7⟩ := hSw; go_simp; try with_reducible rfl
          try simp only [Act.put, List.setIfInBounds_toArray, List.set_cons_zero, List.set_cons_succ]
          refine wpAnyH_ready (rs := [8]) (by kernel_rfl) (by simp) ?_
          refine AllReadyH.cons (i := 8) rfl (fun K hK => ?_) AllReadyH.nil
          go_simp
          refine hK.out _ _ ⟨u0, u5, u6, u7⟩ (fun hHeld2 => ?_)
          clear hK K hHeld
          have hHeld := hHeld2
          clear hHeld2
          try simp only [Act.put, List.setIfInBounds_toArray, List.set_cons_zero, List.set_cons_succ]
          refine take_one 9 26 (v := ?_) rfl rfl (by kernel_rfl) (by kernel_rfl) (by kernel_rfl) (fun _ _ _ h => h) (Or.inl ⟨by rfl, ?_⟩) hHeld ?_
          rotate_left
          · intro w' hSw; (try dsimp only at hSw); obtain ⟨s0, s5, s6, s7⟩ := hSw; go_simp; try with_reducible rfl
          try simp only [Act.put, List.setIfInBounds_toArray, List.set_cons_zero, List.set_cons_succ]
          refine wpAnyH_ready (rs := [10]) (by kernel_rfl) (by simp) ?_
          refine AllReadyH.cons (i := 10) rfl (fun K hK => ?_) AllReadyH.nil
          go_simp
          refine hK.out _ _ ⟨t0, t5, t6, t7⟩ (fun hHeld2 => ?_)
          clear hK K hHeld
          have hHeld := hHeld2
          clear hHeld2
          try simp only [Act.put, List.setIfInBounds_toArray, List.set_cons_zero, List.set_cons_succ]
          refine wpAnyH_done (by kernel_rfl) ?_ _
          clear hHeld
          go_wp2
          go_roundw
          case rel => exact HS.out
          case measure => simp [intOf]; omega
        · go_simp
          refine hK.out _ _ ⟨u0, u5, u6, u7⟩ (fun hHeld2 => ?_)
          clear hK K hHeld
          have hHeld := hHeld2
          clear hHeld2
          try simp only [Act.put, List.setIfInBounds_toArray, List.set_cons_zero, List.set_cons_succ]
          refine take_one 9 26 (v := ?_) rfl rfl (by kernel_rfl) (by kernel_rfl) (by kernel_rfl) (fun _ _ _ h => h) (Or.inl ⟨by rfl, ?_⟩) hHeld ?_
          rotate_left
          · intro w' hSw; (try dsimp only at hSw); obtain ⟨s0, s5, s6, s7⟩ := hSw; go_simp; try with_reducible rfl
          try simp only [Act.put, List.setIfInBounds_toArray, List.set_cons_zero, List.set_cons_succ]
          refine wpAnyH_ready (rs := [6]) (by kernel_rfl) (by simp) ?_
          refine AllReadyH.cons (i := 6) rfl (fun K hK => ?_) AllReadyH.nil
          go_simp
          refine hK.out _ _ ⟨u0, u5, u6, u7⟩ (fun hHeld2 => ?_)
          clear hK K hHeld
          have hHeld := hHeld2
          clear hHeld2
          try simp only [Act.put, List.setIfInBounds_toArray, List.set_cons_zero, List.set_cons_succ]
          refine take_one 7 24 (v := ?_) rfl rfl (by kernel_rfl) (by kernel_rfl) (by kernel_rfl) (fun _ _ _ h => h) (Or.inl ⟨by rfl, ?_⟩) hHeld ?_
          rotate_left
          · intro w' hSw; (try dsimp only at hSw); obtain ⟨s0, s5, s6, s7⟩ := hSw; go_simp; try with_reducible rfl
          try simp only [Act.put, List.setIfInBounds_toArray, List.set_cons_zero, List.set_cons_succ]
          refine wpAnyH_ready (rs := [10]) (by kernel_rfl) (by simp) ?_
          refine AllReadyH.cons (i := 10) rfl (fun K hK => ?_) AllReadyH.nil
          go_simp
          refine hK.out _ _ ⟨t0, t5, t6, t7⟩ (fun hHeld2 => ?_)
          clear hK K hHeld
          have hHeld := hHeld2
          clear hHeld2
          try simp only [Act.put, List.setIfInBounds_toArray, List.set_cons_zero, List.set_cons_succ]
          refine wpAnyH_done (by kernel_rfl) ?_ _
          clear hHeld
          go_wp2
          go_roundw
          case rel => exact HS.out
          case measure => simp [intOf]; omega
      · obtain rfl : k = xs.length := by omega
        rw [List.take_length] at hM
        have TW := TV.later hbel (World.block_lt_of_cell? _ _ (TV.at 0 rfl))
        have e14 := TW.at 14 rfl
        obtain ⟨s, hs1, hs2, hs3⟩ := hM.len 3
        rw [List.length_map] at hs2 hs3
        have hlt2 : ¬ (((xs.length : Nat) : Int) < (xs.length : Int)) := by omega
        clear hM hbel TW hr hq
        by_cases hnd : (xs.map rq).Nodup
        · have hse : ((s : Int) == (xs.length : Int)) = true := beq_iff_eq.2 (by have := hs3.2 hnd; omega)
          have HV : Hid (onB xs = true) := decide_eq_true hnd
          clear hs3 hs2 hnd
          go_wp2
          go_ret
          exact ⟨by rw [hw.out, HV.out]; rfl, BW⟩
        · have hse : ((s : Int) == (xs.length : Int)) = false := beq_eq_false_iff_ne.2 (fun e => hnd (hs3.1 (by omega)))
          have HV : Hid (onB xs = false) := decide_eq_false hnd
          clear hs3 hs2 hnd
          go_wp2
          go_ret
          exact ⟨by rw [hw.out, HV.out]; rfl, BW⟩
  · rw [Bool.not_eq_true] at hw
    rw [hw]
    go_wp2
    go_ret
    exact ⟨by rw [hw]; rfl, BC⟩
end Go.Proofs.YtjcmbbnklfemcaaGreat.Nd
