/- Marks of nodes that are held: the law's own call. -/
import Derived.Test.YtpfonadpojcnnaaDoorTm1
set_option linter.unusedVariables false
set_option maxRecDepth 100000
namespace Go.Proofs.YtpfonadpojcnnaaDoor.Nd
open Go Go.RowKit Go.Joins Own Draw Var

theorem mkL_split (k0 : Nat) (xs : List TT) (j : Nat) (h : j < xs.length) : mkL k0 xs = mkL k0 (xs.take j) ++ mkT (k0 + adL (xs.take j)) xs[j] :: mkL (k0 + adL (xs.take j) + adT xs[j]) (xs.drop (j + 1)) := by
  have app : ∀ (k : Nat) (l m : List TT), mkL k (l ++ m) = mkL k l ++ mkL (k + adL l) m := by
    intro k l m
    induction l generalizing k with
    | nil => simp [mkL, adL]
    | cons x l ih =>
      simp only [List.cons_append, mkL, ih (k + adT x)]
      congr 2
      unfold adL
      rw [List.map_cons, List.sum_cons, Nat.add_assoc]
  conv => lhs; rw [← List.take_append_drop j xs, List.drop_eq_getElem_cons h, app]
  rfl
set_option maxRecDepth 100000 in
set_option maxHeartbeats 3200000 in
theorem heldT_is (B k0 : Nat) (a : Option Addr) (cap : Nat) (xs : List TT) (w : World) (h : RoT B w (a, cap, mkL k0 xs)) (h0 : 1 ≤ k0) (hA : k0 + adL xs ≤ 900000) :
    Calls Tryd.prog 8 #[.slice a xs.length cap, .int .i64 (k0 : Int)] w fun e w' => e = .returned (.int .i64 ((k0 + adL xs : Nat) : Int)) ∧ Below w.heap.size w w' := by
  have hln := mkL_len k0 xs
  rcases h.1.2 with ⟨e, e0⟩ | ⟨g, cap', cur, e, _⟩
  · injection e with e1 e2 e3
    subst e1 e3
    have hx : xs = [] := List.length_eq_zero_iff.1 (by rw [← hln]; exact e0)
    subst hx
    go_enter Tryd.func8, Tryd.ntmps8
    go_wp2
    go_loopw [1, 5] (fun kv i wr => i = .int .i64 0 ∧ kv = .int .i64 (k0 : Int) ∧ w = wr) (fun _ _ _ => 0)
    case atStart => exact ⟨rfl, rfl, rfl⟩
    case round =>
      obtain ⟨rfl, rfl, rfl⟩ := hrel
      go_wp2
      go_ret
      exact ⟨by simp [adL], Below.refl _ _⟩
  · injection e with e1 e2 e3
    subst e1 e3
    go_enter Tryd.func8, Tryd.ntmps8
    go_wp2
    go_loopw [1, 5] (fun kv i wr => ∃ j k : Nat, j ≤ xs.length ∧ k = k0 + adL (xs.take j) ∧ i = .int .i64 j ∧ kv = .int .i64 k ∧ Below w.heap.size w wr) (fun _ i _ => xs.length - (intOf i).toNat)
    case atStart => exact ⟨0, k0, by omega, by simp [adL], rfl, rfl, Below.refl _ _⟩
    case round =>
      obtain ⟨j, k, hj, hk, rfl, rfl, hbl⟩ := hrel
      by_cases hlt : j < xs.length
      · have hlt2 : (j : Int) < (xs.length : Int) := by omega
        have hjb : (j : Int) ≤ 900000 := by have := adL_len xs; omega
        have hpl : (mkL k0 (xs.take j)).length = j := by rw [mkL_len, List.length_take]; omega
        have had := adL_take xs j hlt
        have hle := adL_le xs (j + 1)
        have hro := RoT.later h hbl
        rw [mkL_split k0 xs j hlt, ← hk] at hro
        have HNX : Hid (∀ W : World, Below w.heap.size w W → ∃ j' k' : Nat, j' ≤ xs.length ∧ k' = k0 + adL (xs.take j') ∧ Value.int .i64 ((j : Int) + 1) = .int .i64 j' ∧ Value.int .i64 ((k + adT xs[j] : Nat) : Int) = .int .i64 k' ∧ Below w.heap.size w W) := fun W hb => ⟨j + 1, k + adT xs[j], by omega, by rw [had, hk]; omega, by go_num, rfl, hb⟩
        have hka : k + adT xs[j] ≤ 900000 := by omega
        generalize xs[j] = x at hro HNX hka
        generalize mkL k0 (xs.take j) = pre at hro hpl
        generalize mkL (k + adT x) (xs.drop (j + 1)) = post at hro
        have hka2 : k + 3 + x.2.2.2.2.2.length ≤ 900000 := by unfold adT at hka; omega
        have y0 := row_cell hro 0 rfl
        have y1 := row_cell hro 1 rfl
        have y2 := row_cell hro 2 rfl
        have y3 := row_cell hro 3 rfl
        rw [hpl] at y0 y1 y2 y3
        rw [Nat.add_zero] at y0
        dsimp only [mkT] at y0 y1 y2 y3
        rw [lf_num] at y1
        rw [rg_len] at y3
        have KT := markText_is (k + 2) wr.drew (by omega) (by omega)
        rw [show (((k + 2 : Nat)) : Int) = (k : Int) + 1 + 1 by omega] at KT
        have hko := hro.2 (mkT k x) (List.mem_append.2 (Or.inr (List.mem_cons_self ..)))
        have hki : (k : Int) ≤ 900000 := by omega
        clear hk had hle hka hro
        have hgl : g < wr.drew.heap.size := (World.ownsRow.lt (RoT.later h hbl).1 g rfl).2
        go_wp2_with fail
        refine wp_region_held_drew (S := (fun U : World => U.cell? ⟨g, j * 4 + 2, none⟩ = some (.string (mt (k + 2))))) (by kernel_rfl) y2 (fun hHeld => ?_)
        refine take_one 0 32 (v := ?_) rfl rfl (by kernel_rfl) (by kernel_rfl) (by kernel_rfl) (fun _ _ _ h => h) (Or.inl ⟨by rfl, ?_⟩) hHeld ?_
        rotate_left
        · intro w' hSw; (try dsimp only at hSw); have y2b := hSw; go_simp; try with_reducible rfl
        try simp only [Act.put, List.setIfInBounds_toArray, List.set_cons_zero, List.set_cons_succ]
        refine take_one 1 33 (v := ?_) rfl rfl (by kernel_rfl) (by kernel_rfl) (by kernel_rfl) (fun _ _ _ h => h) (Or.inl ⟨by rfl, ?_⟩) hHeld ?_
        rotate_left
        · intro w' hSw; (try dsimp only at hSw); have y2b := hSw; go_simp; try with_reducible rfl
        try simp only [Act.put, List.setIfInBounds_toArray, List.set_cons_zero, List.set_cons_succ]
        refine take_one 2 34 (v := ?_) rfl rfl (by kernel_rfl) (by kernel_rfl) (by kernel_rfl) (fun _ _ _ h => h) (Or.inl ⟨by rfl, ?_⟩) hHeld ?_
        rotate_left
        · intro w' hSw; (try dsimp only at hSw); have y2b := hSw; go_simp; try with_reducible rfl
        try simp only [Act.put, List.setIfInBounds_toArray, List.set_cons_zero, List.set_cons_succ]
        refine take_one 3 35 (v := ?_) rfl rfl (by kernel_rfl) (by kernel_rfl) (by kernel_rfl) (fun _ _ _ h => h) (Or.inl ⟨by rfl, ?_⟩) hHeld ?_
        rotate_left
        · intro w' hSw; (try dsimp only at hSw); have y2b := hSw; go_simp; try with_reducible rfl
        try simp only [Act.put, List.setIfInBounds_toArray, List.set_cons_zero, List.set_cons_succ]
        refine take_one 4 36 (v := ?_) rfl rfl (by kernel_rfl) (by kernel_rfl) (by kernel_rfl) (fun _ _ _ h => h) (Or.inl ⟨by rfl, ?_⟩) hHeld ?_
        rotate_left
        · intro w' hSw; (try dsimp only at hSw); have y2b := hSw; go_simp; try with_reducible rfl
        try simp only [Act.put, List.setIfInBounds_toArray, List.set_cons_zero, List.set_cons_succ]
        refine take_one 5 37 (v := ?_) rfl rfl (by kernel_rfl) (by kernel_rfl) (by kernel_rfl) (fun _ _ _ h => h) (Or.inl ⟨by rfl, ?_⟩) hHeld ?_
        rotate_left
        · intro w' hSw; (try dsimp only at hSw); have y2b := hSw; go_simp; try with_reducible rfl
        try simp only [Act.put, List.setIfInBounds_toArray, List.set_cons_zero, List.set_cons_succ]
        refine wpAnyH_ready (rs := [6]) (by kernel_rfl) (by simp) ?_
        refine AllReadyH.cons (i := 6) rfl (fun K hK => ?_) AllReadyH.nil
        go_simp
        refine (KT).mono ?_
        rintro en v1 ⟨rfl, hb⟩
        clear KT
        go_wp2_with fail
        refine hK.out _ _ ((hb.cell (p := ⟨g, j * 4 + 2, none⟩) hgl).trans y2) (fun hHeld2 => ?_)
        clear hK K hHeld
        have hHeld := hHeld2
        clear hHeld2
        try simp only [Act.put, List.setIfInBounds_toArray, List.set_cons_zero, List.set_cons_succ]
        refine take_one 7 39 (v := ?_) rfl rfl (by kernel_rfl) (by kernel_rfl) (by kernel_rfl) (fun _ _ _ h => h) (Or.inl ⟨by rfl, ?_⟩) hHeld ?_
        rotate_left
        · intro w' hSw; (try dsimp only at hSw); have y2b := hSw; go_simp; try with_reducible rfl
        try simp only [Act.put, List.setIfInBounds_toArray, List.set_cons_zero, List.set_cons_succ]
        refine wpAnyH_done (by kernel_rfl) ?_ _
        replace hb : Below wr.heap.size wr v1 := (Below.refl _ wr).drew.trans hb
        have hgl2 : g < wr.heap.size := hgl
        clear hHeld
        replace y3 := (hb.cell (p := ⟨g, j * 4 + 3, none⟩) hgl2).trans y3
        have b2 := hbl.trans (hb.mono hbl.size)
        have hko2 : RoI B v1 (mkT k x).2.2.2 := RoI.later hko hb
        unfold RoI mkT at hko2
        dsimp only at hko2
        rw [rg_len, rg_mks] at hko2
        have KK := heldI_is B (k + 3) x.2.2.2.1 x.2.2.2.2.2.length x.2.2.2.2.1 v1 hko2 (by omega) (by omega)
        rw [show (((k + 3 : Nat)) : Int) = (k : Int) + 1 + 1 + 1 by omega] at KK
        clear hko hko2 y0 y1 y2 hb
        go_wp2_with fail
        refine KK.mono ?_
        clear KK y3
        rintro en v2 ⟨rfl, hb⟩
        have HR := HNX.out v2 (b2.trans (hb.mono b2.size))
        rw [show k + adT x = k + 3 + x.2.2.2.2.2.length by unfold adT; omega, show (((k + 3 + x.2.2.2.2.2.length : Nat)) : Int) = (k : Int) + 3 + x.2.2.2.2.2.length by omega] at HR
        have hpos : ¬ ((k : Int) + 3 + (x.2.2.2.2.2.length : Int) < 0) := by omega
        clear HNX
        go_wp2
        go_roundw
        case rel => exact HR
        case measure => simp [intOf]; omega
      · obtain rfl : j = xs.length := by omega
        have hlt2 : ¬ ((xs.length : Nat) : Int) < (xs.length : Int) := by omega
        rw [List.take_length] at hk
        go_wp2
        go_ret
        exact ⟨rfl, hbl⟩
end Go.Proofs.YtpfonadpojcnnaaDoor.Nd
