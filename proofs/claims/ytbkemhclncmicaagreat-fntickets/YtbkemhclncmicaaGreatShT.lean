/- Tickets as texts: what shows them. -/
import Derived.Test.YtbkemhclncmicaaGreatShA
import Derived.Test.YtbkemhclncmicaaGreatTick2
set_option linter.unusedVariables false
namespace Go.Proofs.YtbkemhclncmicaaGreat
open Go Go.RowKit Own Var Term

set_option maxRecDepth 100000 in
set_option maxHeartbeats 12800000 in
theorem showT_is (c s k a b e : Int) (pa : Option Addr) (P : List Int) (pc : Nat) (va : Option Addr) (V : List Int) (vc : Nat) (key : Int) (w : World) (hs : i64 s) (hp : RowAt (Value.int .i64) w pa P) (hv : RowAt (Value.int .i64) w va V) (hpl : P.length ≤ 1048576) (hvl : V.length ≤ 1048576) : Calls Tryz.prog 25 #[.agg #[.int .i64 c, .int .i64 s, .int .i64 k, .int .i64 a, .int .i64 b, .int .i64 e, .slice pa P.length pc, .slice va V.length vc, .int .i64 key]] w fun en w' => en = .returned (.string (shT c s k a b e P V key)) ∧ Below w.heap.size w w' := by
  obtain ⟨W2, hW2⟩ : ∃ W2, (w.alloc (.cells #[.int .i64 c, .int .i64 s, .int .i64 k, .int .i64 a, .int .i64 b, .int .i64 e, .slice pa P.length pc, .slice va V.length vc, .int .i64 key] 61)).alloc (.cells #[.int .i64 c, .int .i64 s, .int .i64 k, .int .i64 a, .int .i64 b, .int .i64 e, .slice pa P.length pc, .slice va V.length vc] 28) = W2 := ⟨_, rfl⟩
  have B2 : Below w.heap.size w W2 := by rw [← hW2]; exact ((Below.refl _ _).alloc (Nat.le_refl _) _).alloc (by simp) _
  have T2 : Blk w.heap.size [.int .i64 c, .int .i64 s, .int .i64 k, .int .i64 a, .int .i64 b, .int .i64 e, .slice pa P.length pc, .slice va V.length vc, .int .i64 key] W2 := by rw [← hW2]; exact (Blk.new w #[.int .i64 c, .int .i64 s, .int .i64 k, .int .i64 a, .int .i64 b, .int .i64 e, .slice pa P.length pc, .slice va V.length vc, .int .i64 key] _).alloc (by simp) _
  have U2 : Blk (w.heap.size + 1) [.int .i64 c, .int .i64 s, .int .i64 k, .int .i64 a, .int .i64 b, .int .i64 e, .slice pa P.length pc, .slice va V.length vc] W2 := by rw [← hW2]; have := Blk.new (w.alloc (.cells #[.int .i64 c, .int .i64 s, .int .i64 k, .int .i64 a, .int .i64 b, .int .i64 e, .slice pa P.length pc, .slice va V.length vc, .int .i64 key] 61)) #[.int .i64 c, .int .i64 s, .int .i64 k, .int .i64 a, .int .i64 b, .int .i64 e, .slice pa P.length pc, .slice va V.length vc] 28; simpa using this
  have Z2 : Hid (w.heap.size + 2 ≤ W2.heap.size) := by show _ ≤ _; rw [← hW2]; simp
  have e0 := U2.at 0 rfl
  have e1 := U2.at 1 rfl
  have e2 := U2.at 2 rfl
  have e3 := U2.at 3 rfl
  have e4 := U2.at 4 rfl
  have e5 := U2.at 5 rfl
  have e6 := U2.at 6 rfl
  have e7 := U2.at 7 rfl
  have HP2 := RowAt.later hp B2
  have HV2 := RowAt.later hv B2
  go_enter Tryz.func25, Tryz.ntmps25
  go_wp2_with fail
  try rw [hW2]
  refine (ticketOk_is c s k a b e pa P pc va V vc _ hs HP2 HV2 hpl hvl).mono ?_
  clear hW2
  rintro en w3 ⟨rfl, hb3⟩
  have TC := T2.later hb3 (by have := Z2.out; omega)
  have UC := U2.later hb3 (by have := Z2.out; omega)
  have ZC : Hid (w.heap.size + 2 ≤ w3.heap.size) := Nat.le_trans Z2.out hb3.size
  have BC := B2.trans (hb3.mono B2.size)
  have HP := RowAt.later HP2 hb3
  have HV := RowAt.later HV2 hb3
  clear T2 U2 Z2 B2 hb3 e0 e1 e2 e3 e4 e5 e6 e7 HP2 HV2
  by_cases h0 : tOk c s k a b e P V = true
  · rw [h0]
    go_wp2_with fail
    have TCD := TC.drew
    have UCD := UC.drew
    have BCD := BC.drew
    have ZCD : Hid (w.heap.size + 2 ≤ w3.drew.heap.size) := ZC
    have HPD : RowAt (Value.int .i64) w3.drew _ _ := HP
    have HVD : RowAt (Value.int .i64) w3.drew _ _ := HV
    clear TC UC BC ZC HP HV
    have TC := TCD
    have UC := UCD
    have BC := BCD
    have ZC := ZCD
    have HP := HPD
    have HV := HVD
    clear TCD UCD BCD ZCD HPD HVD
    refine wp_region_held_drew (S := (fun Vw => Blk w.heap.size [.int .i64 c, .int .i64 s, .int .i64 k, .int .i64 a, .int .i64 b, .int .i64 e, .slice pa P.length pc, .slice va V.length vc, .int .i64 key] Vw ∧ Blk (w.heap.size + 1) [.int .i64 c, .int .i64 s, .int .i64 k, .int .i64 a, .int .i64 b, .int .i64 e, .slice pa P.length pc, .slice va V.length vc] Vw)) (by kernel_rfl) ⟨TC, UC⟩ (fun hHeld => ?_)
    refine take_one 0 10 (v := ?_) rfl rfl (by kernel_rfl) (by kernel_rfl) (by kernel_rfl) (fun _ _ _ h => h) (Or.inl ⟨by rfl, ?_⟩) hHeld ?_
    rotate_left
    · intro w' hSw; (try dsimp only at hSw); have d0 := hSw.1.at 0 rfl; have d1 := hSw.1.at 1 rfl; have d2 := hSw.1.at 2 rfl; have d3 := hSw.1.at 3 rfl; have d4 := hSw.1.at 4 rfl; have d5 := hSw.1.at 5 rfl; have d6 := hSw.1.at 6 rfl; have d7 := hSw.1.at 7 rfl; have d8 := hSw.1.at 8 rfl; have e0 := hSw.2.at 0 rfl; have e1 := hSw.2.at 1 rfl; have e2 := hSw.2.at 2 rfl; have e3 := hSw.2.at 3 rfl; have e4 := hSw.2.at 4 rfl; have e5 := hSw.2.at 5 rfl; have e6 := hSw.2.at 6 rfl; have e7 := hSw.2.at 7 rfl; go_simp; try with_reducible rfl
    try simp only [Act.put, List.setIfInBounds_toArray, List.set_cons_zero, List.set_cons_succ]
    refine take_one 1 11 (v := ?_) rfl rfl (by kernel_rfl) (by kernel_rfl) (by kernel_rfl) (fun _ _ _ h => h) (Or.inl ⟨by rfl, ?_⟩) hHeld ?_
    rotate_left
    · intro w' hSw; (try dsimp only at hSw); have d0 := hSw.1.at 0 rfl; have d1 := hSw.1.at 1 rfl; have d2 := hSw.1.at 2 rfl; have d3 := hSw.1.at 3 rfl; have d4 := hSw.1.at 4 rfl; have d5 := hSw.1.at 5 rfl; have d6 := hSw.1.at 6 rfl; have d7 := hSw.1.at 7 rfl; have d8 := hSw.1.at 8 rfl; have e0 := hSw.2.at 0 rfl; have e1 := hSw.2.at 1 rfl; have e2 := hSw.2.at 2 rfl; have e3 := hSw.2.at 3 rfl; have e4 := hSw.2.at 4 rfl; have e5 := hSw.2.at 5 rfl; have e6 := hSw.2.at 6 rfl; have e7 := hSw.2.at 7 rfl; go_simp; try with_reducible rfl
    try simp only [Act.put, List.setIfInBounds_toArray, List.set_cons_zero, List.set_cons_succ]
    refine take_one 2 12 (v := ?_) rfl rfl (by kernel_rfl) (by kernel_rfl) (by kernel_rfl) (fun _ _ _ h => h) (Or.inl ⟨by rfl, ?_⟩) hHeld ?_
    rotate_left
    · intro w' hSw; (try dsimp only at hSw); have d0 := hSw.1.at 0 rfl; have d1 := hSw.1.at 1 rfl; have d2 := hSw.1.at 2 rfl; have d3 := hSw.1.at 3 rfl; have d4 := hSw.1.at 4 rfl; have d5 := hSw.1.at 5 rfl; have d6 := hSw.1.at 6 rfl; have d7 := hSw.1.at 7 rfl; have d8 := hSw.1.at 8 rfl; have e0 := hSw.2.at 0 rfl; have e1 := hSw.2.at 1 rfl; have e2 := hSw.2.at 2 rfl; have e3 := hSw.2.at 3 rfl; have e4 := hSw.2.at 4 rfl; have e5 := hSw.2.at 5 rfl; have e6 := hSw.2.at 6 rfl; have e7 := hSw.2.at 7 rfl; go_simp; try with_reducible rfl
    try simp only [Act.put, List.setIfInBounds_toArray, List.set_cons_zero, List.set_cons_succ]
    refine take_one 3 13 (v := ?_) rfl rfl (by kernel_rfl) (by kernel_rfl) (by kernel_rfl) (fun _ _ _ h => h) (Or.inl ⟨by rfl, ?_⟩) hHeld ?_
    rotate_left
    · intro w' hSw; (try dsimp only at hSw); have d0 := hSw.1.at 0 rfl; have d1 := hSw.1.at 1 rfl; have d2 := hSw.1.at 2 rfl; have d3 := hSw.1.at 3 rfl; have d4 := hSw.1.at 4 rfl; have d5 := hSw.1.at 5 rfl; have d6 := hSw.1.at 6 rfl; have d7 := hSw.1.at 7 rfl; have d8 := hSw.1.at 8 rfl; have e0 := hSw.2.at 0 rfl; have e1 := hSw.2.at 1 rfl; have e2 := hSw.2.at 2 rfl; have e3 := hSw.2.at 3 rfl; have e4 := hSw.2.at 4 rfl; have e5 := hSw.2.at 5 rfl; have e6 := hSw.2.at 6 rfl; have e7 := hSw.2.at 7 rfl; go_simp; try with_reducible rfl
    try simp only [Act.put, List.setIfInBounds_toArray, List.set_cons_zero, List.set_cons_succ]
    refine take_one 4 14 (v := ?_) rfl rfl (by kernel_rfl) (by kernel_rfl) (by kernel_rfl) (fun _ _ _ h => h) (Or.inl ⟨by rfl, ?_⟩) hHeld ?_
    rotate_left
    · intro w' hSw; (try dsimp only at hSw); have d0 := hSw.1.at 0 rfl; have d1 := hSw.1.at 1 rfl; have d2 := hSw.1.at 2 rfl; have d3 := hSw.1.at 3 rfl; have d4 := hSw.1.at 4 rfl; have d5 := hSw.1.at 5 rfl; have d6 := hSw.1.at 6 rfl; have d7 := hSw.1.at 7 rfl; have d8 := hSw.1.at 8 rfl; have e0 := hSw.2.at 0 rfl; have e1 := hSw.2.at 1 rfl; have e2 := hSw.2.at 2 rfl; have e3 := hSw.2.at 3 rfl; have e4 := hSw.2.at 4 rfl; have e5 := hSw.2.at 5 rfl; have e6 := hSw.2.at 6 rfl; have e7 := hSw.2.at 7 rfl; go_simp; try with_reducible rfl
    try simp only [Act.put, List.setIfInBounds_toArray, List.set_cons_zero, List.set_cons_succ]
    refine take_one 5 15 (v := ?_) rfl rfl (by kernel_rfl) (by kernel_rfl) (by kernel_rfl) (fun _ _ _ h => h) (Or.inl ⟨by rfl, ?_⟩) hHeld ?_
    rotate_left
    · intro w' hSw; (try dsimp only at hSw); have d0 := hSw.1.at 0 rfl; have d1 := hSw.1.at 1 rfl; have d2 := hSw.1.at 2 rfl; have d3 := hSw.1.at 3 rfl; have d4 := hSw.1.at 4 rfl; have d5 := hSw.1.at 5 rfl; have d6 := hSw.1.at 6 rfl; have d7 := hSw.1.at 7 rfl; have d8 := hSw.1.at 8 rfl; have e0 := hSw.2.at 0 rfl; have e1 := hSw.2.at 1 rfl; have e2 := hSw.2.at 2 rfl; have e3 := hSw.2.at 3 rfl; have e4 := hSw.2.at 4 rfl; have e5 := hSw.2.at 5 rfl; have e6 := hSw.2.at 6 rfl; have e7 := hSw.2.at 7 rfl; go_simp; try with_reducible rfl
    try simp only [Act.put, List.setIfInBounds_toArray, List.set_cons_zero, List.set_cons_succ]
    refine take_one 8 18 (v := ?_) rfl rfl (by kernel_rfl) (by kernel_rfl) (by kernel_rfl) (fun _ _ _ h => h) (Or.inl ⟨by rfl, ?_⟩) hHeld ?_
    rotate_left
    · intro w' hSw; (try dsimp only at hSw); have d0 := hSw.1.at 0 rfl; have d1 := hSw.1.at 1 rfl; have d2 := hSw.1.at 2 rfl; have d3 := hSw.1.at 3 rfl; have d4 := hSw.1.at 4 rfl; have d5 := hSw.1.at 5 rfl; have d6 := hSw.1.at 6 rfl; have d7 := hSw.1.at 7 rfl; have d8 := hSw.1.at 8 rfl; have e0 := hSw.2.at 0 rfl; have e1 := hSw.2.at 1 rfl; have e2 := hSw.2.at 2 rfl; have e3 := hSw.2.at 3 rfl; have e4 := hSw.2.at 4 rfl; have e5 := hSw.2.at 5 rfl; have e6 := hSw.2.at 6 rfl; have e7 := hSw.2.at 7 rfl; go_simp; try with_reducible rfl
    try simp only [Act.put, List.setIfInBounds_toArray, List.set_cons_zero, List.set_cons_succ]
    refine take_one 9 19 (v := ?_) rfl rfl (by kernel_rfl) (by kernel_rfl) (by kernel_rfl) (fun _ _ _ h => h) (Or.inl ⟨by rfl, ?_⟩) hHeld ?_
    rotate_left
    · intro w' hSw; (try dsimp only at hSw); have d0 := hSw.1.at 0 rfl; have d1 := hSw.1.at 1 rfl; have d2 := hSw.1.at 2 rfl; have d3 := hSw.1.at 3 rfl; have d4 := hSw.1.at 4 rfl; have d5 := hSw.1.at 5 rfl; have d6 := hSw.1.at 6 rfl; have d7 := hSw.1.at 7 rfl; have d8 := hSw.1.at 8 rfl; have e0 := hSw.2.at 0 rfl; have e1 := hSw.2.at 1 rfl; have e2 := hSw.2.at 2 rfl; have e3 := hSw.2.at 3 rfl; have e4 := hSw.2.at 4 rfl; have e5 := hSw.2.at 5 rfl; have e6 := hSw.2.at 6 rfl; have e7 := hSw.2.at 7 rfl; go_simp; try with_reducible rfl
    try simp only [Act.put, List.setIfInBounds_toArray, List.set_cons_zero, List.set_cons_succ]
    refine take_one 11 21 (v := ?_) rfl rfl (by kernel_rfl) (by kernel_rfl) (by kernel_rfl) (fun _ _ _ h => h) (Or.inl ⟨by rfl, ?_⟩) hHeld ?_
    rotate_left
    · intro w' hSw; (try dsimp only at hSw); have d0 := hSw.1.at 0 rfl; have d1 := hSw.1.at 1 rfl; have d2 := hSw.1.at 2 rfl; have d3 := hSw.1.at 3 rfl; have d4 := hSw.1.at 4 rfl; have d5 := hSw.1.at 5 rfl; have d6 := hSw.1.at 6 rfl; have d7 := hSw.1.at 7 rfl; have d8 := hSw.1.at 8 rfl; have e0 := hSw.2.at 0 rfl; have e1 := hSw.2.at 1 rfl; have e2 := hSw.2.at 2 rfl; have e3 := hSw.2.at 3 rfl; have e4 := hSw.2.at 4 rfl; have e5 := hSw.2.at 5 rfl; have e6 := hSw.2.at 6 rfl; have e7 := hSw.2.at 7 rfl; go_simp; try with_reducible rfl
    try simp only [Act.put, List.setIfInBounds_toArray, List.set_cons_zero, List.set_cons_succ]
    refine take_one 12 22 (v := ?_) rfl rfl (by kernel_rfl) (by kernel_rfl) (by kernel_rfl) (fun _ _ _ h => h) (Or.inl ⟨by rfl, ?_⟩) hHeld ?_
    rotate_left
    · intro w' hSw; (try dsimp only at hSw); have d0 := hSw.1.at 0 rfl; have d1 := hSw.1.at 1 rfl; have d2 := hSw.1.at 2 rfl; have d3 := hSw.1.at 3 rfl; have d4 := hSw.1.at 4 rfl; have d5 := hSw.1.at 5 rfl; have d6 := hSw.1.at 6 rfl; have d7 := hSw.1.at 7 rfl; have d8 := hSw.1.at 8 rfl; have e0 := hSw.2.at 0 rfl; have e1 := hSw.2.at 1 rfl; have e2 := hSw.2.at 2 rfl; have e3 := hSw.2.at 3 rfl; have e4 := hSw.2.at 4 rfl; have e5 := hSw.2.at 5 rfl; have e6 := hSw.2.at 6 rfl; have e7 := hSw.2.at 7 rfl; go_simp; try with_reducible rfl
    try simp only [Act.put, List.setIfInBounds_toArray, List.set_cons_zero, List.set_cons_succ]
    refine take_one 14 24 (v := ?_) rfl rfl (by kernel_rfl) (by kernel_rfl) (by kernel_rfl) (fun _ _ _ h => h) (Or.inl ⟨by rfl, ?_⟩) hHeld ?_
    rotate_left
    · intro w' hSw; (try dsimp only at hSw); have d0 := hSw.1.at 0 rfl; have d1 := hSw.1.at 1 rfl; have d2 := hSw.1.at 2 rfl; have d3 := hSw.1.at 3 rfl; have d4 := hSw.1.at 4 rfl; have d5 := hSw.1.at 5 rfl; have d6 := hSw.1.at 6 rfl; have d7 := hSw.1.at 7 rfl; have d8 := hSw.1.at 8 rfl; have e0 := hSw.2.at 0 rfl; have e1 := hSw.2.at 1 rfl; have e2 := hSw.2.at 2 rfl; have e3 := hSw.2.at 3 rfl; have e4 := hSw.2.at 4 rfl; have e5 := hSw.2.at 5 rfl; have e6 := hSw.2.at 6 rfl; have e7 := hSw.2.at 7 rfl; go_simp; try with_reducible rfl
    try simp only [Act.put, List.setIfInBounds_toArray, List.set_cons_zero, List.set_cons_succ]
    refine take_one 15 25 (v := ?_) rfl rfl (by kernel_rfl) (by kernel_rfl) (by kernel_rfl) (fun _ _ _ h => h) (Or.inl ⟨by rfl, ?_⟩) hHeld ?_
    rotate_left
    · intro w' hSw; (try dsimp only at hSw); have d0 := hSw.1.at 0 rfl; have d1 := hSw.1.at 1 rfl; have d2 := hSw.1.at 2 rfl; have d3 := hSw.1.at 3 rfl; have d4 := hSw.1.at 4 rfl; have d5 := hSw.1.at 5 rfl; have d6 := hSw.1.at 6 rfl; have d7 := hSw.1.at 7 rfl; have d8 := hSw.1.at 8 rfl; have e0 := hSw.2.at 0 rfl; have e1 := hSw.2.at 1 rfl; have e2 := hSw.2.at 2 rfl; have e3 := hSw.2.at 3 rfl; have e4 := hSw.2.at 4 rfl; have e5 := hSw.2.at 5 rfl; have e6 := hSw.2.at 6 rfl; have e7 := hSw.2.at 7 rfl; go_simp; try with_reducible rfl
    try simp only [Act.put, List.setIfInBounds_toArray, List.set_cons_zero, List.set_cons_succ]
    refine take_one 17 27 (v := ?_) rfl rfl (by kernel_rfl) (by kernel_rfl) (by kernel_rfl) (fun _ _ _ h => h) (Or.inl ⟨by rfl, ?_⟩) hHeld ?_
    rotate_left
    · intro w' hSw; (try dsimp only at hSw); have d0 := hSw.1.at 0 rfl; have d1 := hSw.1.at 1 rfl; have d2 := hSw.1.at 2 rfl; have d3 := hSw.1.at 3 rfl; have d4 := hSw.1.at 4 rfl; have d5 := hSw.1.at 5 rfl; have d6 := hSw.1.at 6 rfl; have d7 := hSw.1.at 7 rfl; have d8 := hSw.1.at 8 rfl; have e0 := hSw.2.at 0 rfl; have e1 := hSw.2.at 1 rfl; have e2 := hSw.2.at 2 rfl; have e3 := hSw.2.at 3 rfl; have e4 := hSw.2.at 4 rfl; have e5 := hSw.2.at 5 rfl; have e6 := hSw.2.at 6 rfl; have e7 := hSw.2.at 7 rfl; go_simp; try with_reducible rfl
    try simp only [Act.put, List.setIfInBounds_toArray, List.set_cons_zero, List.set_cons_succ]
    refine take_one 18 28 (v := ?_) rfl rfl (by kernel_rfl) (by kernel_rfl) (by kernel_rfl) (fun _ _ _ h => h) (Or.inl ⟨by rfl, ?_⟩) hHeld ?_
    rotate_left
    · intro w' hSw; (try dsimp only at hSw); have d0 := hSw.1.at 0 rfl; have d1 := hSw.1.at 1 rfl; have d2 := hSw.1.at 2 rfl; have d3 := hSw.1.at 3 rfl; have d4 := hSw.1.at 4 rfl; have d5 := hSw.1.at 5 rfl; have d6 := hSw.1.at 6 rfl; have d7 := hSw.1.at 7 rfl; have d8 := hSw.1.at 8 rfl; have e0 := hSw.2.at 0 rfl; have e1 := hSw.2.at 1 rfl; have e2 := hSw.2.at 2 rfl; have e3 := hSw.2.at 3 rfl; have e4 := hSw.2.at 4 rfl; have e5 := hSw.2.at 5 rfl; have e6 := hSw.2.at 6 rfl; have e7 := hSw.2.at 7 rfl; go_simp; try with_reducible rfl
    try simp only [Act.put, List.setIfInBounds_toArray, List.set_cons_zero, List.set_cons_succ]
    obtain ⟨v1, hv1⟩ : ∃ v, (w3.drew).alloc (.cells #[.int .i64 c, .int .i64 s] 3) = v := ⟨_, rfl⟩
    have XA : Below (w3.drew).heap.size (w3.drew) v1 := by rw [← hv1]; exact (Below.refl _ _).alloc (Nat.le_refl _) _
    have TN := TC.later XA (by have := ZC.out; omega)
    have UN := UC.later XA (by have := ZC.out; omega)
    have ZN : Hid (w.heap.size + 2 ≤ v1.heap.size) := Nat.le_trans ZC.out XA.size
    have BN := BC.trans (XA.mono BC.size)
    have HPN := RowAt.later HP XA
    have HVN := RowAt.later HV XA
    have RAN : RowAt (Value.int .i64) v1 (some ⟨(w3.drew).heap.size, 0, none⟩) [c, s] := by rw [← hv1]; exact row_new (Value.int .i64) (w3.drew) [c, s] 3
    refine wpAnyH_ready (rs := [6]) (by kernel_rfl) (by simp) ?_
    refine AllReadyH.cons (i := 6) rfl (fun K hK => ?_) AllReadyH.nil
    go_simp
    refine hK.out _ _ (by (try rw [hv1]); exact ⟨TN, UN⟩) (fun hHeld2 => ?_)
    clear hK K hHeld
    have hHeld := hHeld2
    clear hHeld2
    try simp only [Act.put, List.setIfInBounds_toArray, List.set_cons_zero, List.set_cons_succ]
    clear TC UC ZC BC HP HV
    have TC := TN
    have UC := UN
    have ZC := ZN
    have BC := BN
    have HP := HPN
    have HV := HVN
    clear TN UN ZN BN HPN HVN
    have RA := RAN
    clear RAN XA
    try rw [hv1]
    clear hv1
    refine wpAnyH_ready (rs := [7]) (by kernel_rfl) (by simp) ?_
    refine AllReadyH.cons (i := 7) rfl (fun K hK => ?_) AllReadyH.nil
    go_simp
    refine (impl_nums _ 2 [c, s] _ RA (by simp)).mono ?_
    rintro en v2 ⟨rfl, hv2⟩
    have TN := TC.later hv2 (by have := ZC.out; omega)
    have UN := UC.later hv2 (by have := ZC.out; omega)
    have ZN : Hid (w.heap.size + 2 ≤ v2.heap.size) := Nat.le_trans ZC.out hv2.size
    have BN := BC.trans (hv2.mono BC.size)
    have HPN := RowAt.later HP hv2
    have HVN := RowAt.later HV hv2
    have RAN := RowAt.later RA hv2
    clear TC UC ZC BC HP HV RA
    have TC := TN
    have UC := UN
    have ZC := ZN
    have BC := BN
    have HP := HPN
    have HV := HVN
    have RA := RAN
    clear TN UN ZN BN HPN HVN RAN
    clear hv2
    go_wp2_with fail
    refine hK.out _ _ ⟨TC, UC⟩ (fun hHeld2 => ?_)
    clear hK K hHeld
    have hHeld := hHeld2
    clear hHeld2
    try simp only [Act.put, List.setIfInBounds_toArray, List.set_cons_zero, List.set_cons_succ]
    clear RA
    refine wpAnyH_ready (rs := [10]) (by kernel_rfl) (by simp) ?_
    refine AllReadyH.cons (i := 10) rfl (fun K hK => ?_) AllReadyH.nil
    go_simp
    refine (impl_key k _).mono ?_
    rintro en v3 ⟨rfl, hv3⟩
    have TN := TC.later hv3 (by have := ZC.out; omega)
    have UN := UC.later hv3 (by have := ZC.out; omega)
    have ZN : Hid (w.heap.size + 2 ≤ v3.heap.size) := Nat.le_trans ZC.out hv3.size
    have BN := BC.trans (hv3.mono BC.size)
    have HPN := RowAt.later HP hv3
    have HVN := RowAt.later HV hv3
    clear TC UC ZC BC HP HV
    have TC := TN
    have UC := UN
    have ZC := ZN
    have BC := BN
    have HP := HPN
    have HV := HVN
    clear TN UN ZN BN HPN HVN
    clear hv3
    go_wp2_with fail
    refine hK.out _ _ ⟨TC, UC⟩ (fun hHeld2 => ?_)
    clear hK K hHeld
    have hHeld := hHeld2
    clear hHeld2
    try simp only [Act.put, List.setIfInBounds_toArray, List.set_cons_zero, List.set_cons_succ]
    refine wpAnyH_ready (rs := [13]) (by kernel_rfl) (by simp) ?_
    refine AllReadyH.cons (i := 13) rfl (fun K hK => ?_) AllReadyH.nil
    go_simp
    refine (implShow_is a b e _).mono ?_
    rintro en v4 ⟨rfl, hv4⟩
    have TN := TC.later hv4 (by have := ZC.out; omega)
    have UN := UC.later hv4 (by have := ZC.out; omega)
    have ZN : Hid (w.heap.size + 2 ≤ v4.heap.size) := Nat.le_trans ZC.out hv4.size
    have BN := BC.trans (hv4.mono BC.size)
    have HPN := RowAt.later HP hv4
    have HVN := RowAt.later HV hv4
    clear TC UC ZC BC HP HV
    have TC := TN
    have UC := UN
    have ZC := ZN
    have BC := BN
    have HP := HPN
    have HV := HVN
    clear TN UN ZN BN HPN HVN
    clear hv4
    go_wp2_with fail
    refine hK.out _ _ ⟨TC, UC⟩ (fun hHeld2 => ?_)
    clear hK K hHeld
    have hHeld := hHeld2
    clear hHeld2
    try simp only [Act.put, List.setIfInBounds_toArray, List.set_cons_zero, List.set_cons_succ]
    refine wpAnyH_ready (rs := [16]) (by kernel_rfl) (by simp) ?_
    refine AllReadyH.cons (i := 16) rfl (fun K hK => ?_) AllReadyH.nil
    go_simp
    refine (impl_nums pa pc P _ HP hpl).mono ?_
    rintro en v5 ⟨rfl, hv5⟩
    have TN := TC.later hv5 (by have := ZC.out; omega)
    have UN := UC.later hv5 (by have := ZC.out; omega)
    have ZN : Hid (w.heap.size + 2 ≤ v5.heap.size) := Nat.le_trans ZC.out hv5.size
    have BN := BC.trans (hv5.mono BC.size)
    have HPN := RowAt.later HP hv5
    have HVN := RowAt.later HV hv5
    clear TC UC ZC BC HP HV
    have TC := TN
    have UC := UN
    have ZC := ZN
    have BC := BN
    have HP := HPN
    have HV := HVN
    clear TN UN ZN BN HPN HVN
    clear hv5
    go_wp2_with fail
    refine hK.out _ _ ⟨TC, UC⟩ (fun hHeld2 => ?_)
    clear hK K hHeld
    have hHeld := hHeld2
    clear hHeld2
    try simp only [Act.put, List.setIfInBounds_toArray, List.set_cons_zero, List.set_cons_succ]
    refine wpAnyH_ready (rs := [19]) (by kernel_rfl) (by simp) ?_
    refine AllReadyH.cons (i := 19) rfl (fun K hK => ?_) AllReadyH.nil
    go_simp
    refine (impl_nums va vc V _ HV hvl).mono ?_
    rintro en v6 ⟨rfl, hv6⟩
    have TN := TC.later hv6 (by have := ZC.out; omega)
    have UN := UC.later hv6 (by have := ZC.out; omega)
    have ZN : Hid (w.heap.size + 2 ≤ v6.heap.size) := Nat.le_trans ZC.out hv6.size
    have BN := BC.trans (hv6.mono BC.size)
    have HPN := RowAt.later HP hv6
    have HVN := RowAt.later HV hv6
    clear TC UC ZC BC HP HV
    have TC := TN
    have UC := UN
    have ZC := ZN
    have BC := BN
    have HP := HPN
    have HV := HVN
    clear TN UN ZN BN HPN HVN
    clear hv6
    go_wp2_with fail
    refine hK.out _ _ ⟨TC, UC⟩ (fun hHeld2 => ?_)
    clear hK K hHeld
    have hHeld := hHeld2
    clear hHeld2
    try simp only [Act.put, List.setIfInBounds_toArray, List.set_cons_zero, List.set_cons_succ]
    obtain ⟨v7, hv7⟩ : ∃ v, (v6).alloc (.cells #[.string (numsT [c, s]), .string (keyT k), .string (shR a b e), .string (numsT P), .string (numsT V)] 9) = v := ⟨_, rfl⟩
    have XA : Below (v6).heap.size (v6) v7 := by rw [← hv7]; exact (Below.refl _ _).alloc (Nat.le_refl _) _
    have TN := TC.later XA (by have := ZC.out; omega)
    have UN := UC.later XA (by have := ZC.out; omega)
    have ZN : Hid (w.heap.size + 2 ≤ v7.heap.size) := Nat.le_trans ZC.out XA.size
    have BN := BC.trans (XA.mono BC.size)
    have HPN := RowAt.later HP XA
    have HVN := RowAt.later HV XA
    have RLN : RowAt Value.string v7 (some ⟨(v6).heap.size, 0, none⟩) [numsT [c, s], keyT k, shR a b e, numsT P, numsT V] := by rw [← hv7]; exact row_new Value.string (v6) [numsT [c, s], keyT k, shR a b e, numsT P, numsT V] 9
    refine wpAnyH_ready (rs := [20]) (by kernel_rfl) (by simp) ?_
    refine AllReadyH.cons (i := 20) rfl (fun K hK => ?_) AllReadyH.nil
    go_simp
    refine hK.out _ _ (by (try rw [hv7]); exact ⟨TN, UN⟩) (fun hHeld2 => ?_)
    clear hK K hHeld
    have hHeld := hHeld2
    clear hHeld2
    try simp only [Act.put, List.setIfInBounds_toArray, List.set_cons_zero, List.set_cons_succ]
    clear TC UC ZC BC HP HV
    have TC := TN
    have UC := UN
    have ZC := ZN
    have BC := BN
    have HP := HPN
    have HV := HVN
    clear TN UN ZN BN HPN HVN
    have RL := RLN
    clear RLN XA
    try rw [hv7]
    clear hv7
    refine wpAnyH_ready (rs := [21]) (by kernel_rfl) (by simp) ?_
    refine AllReadyH.cons (i := 21) rfl (fun K hK => ?_) AllReadyH.nil
    go_simp
    refine (impl_list _ 5 [numsT [c, s], keyT k, shR a b e, numsT P, numsT V] _ RL (by simp) (by simp) (by intro x hx; simp only [List.mem_cons, List.not_mem_nil, or_false] at hx; rcases hx with rfl | rfl | rfl | rfl | rfl <;> first | exact Nat.le_trans (listT_size _) (by omega) | exact Nat.le_trans (keyT_size k) (by omega) | exact Nat.le_trans (shR_size a b e) (by omega))).mono ?_
    rintro en v8 ⟨rfl, hv8⟩
    have TN := TC.later hv8 (by have := ZC.out; omega)
    have UN := UC.later hv8 (by have := ZC.out; omega)
    have ZN : Hid (w.heap.size + 2 ≤ v8.heap.size) := Nat.le_trans ZC.out hv8.size
    have BN := BC.trans (hv8.mono BC.size)
    have HPN := RowAt.later HP hv8
    have HVN := RowAt.later HV hv8
    have RLN := RowAt.later RL hv8
    clear TC UC ZC BC HP HV RL
    have TC := TN
    have UC := UN
    have ZC := ZN
    have BC := BN
    have HP := HPN
    have HV := HVN
    have RL := RLN
    clear TN UN ZN BN HPN HVN RLN
    clear hv8
    go_wp2_with fail
    refine hK.out _ _ ⟨TC, UC⟩ (fun hHeld2 => ?_)
    clear hK K hHeld
    have hHeld := hHeld2
    clear hHeld2
    try simp only [Act.put, List.setIfInBounds_toArray, List.set_cons_zero, List.set_cons_succ]
    clear RL
    refine wpAnyH_ready (rs := [22]) (by kernel_rfl) (by simp) ?_
    refine AllReadyH.cons (i := 22) rfl (fun K hK => ?_) AllReadyH.nil
    go_simp
    refine (sealT_is c s k a b e pa P.length pc va V.length vc key (inT c s k a b e P V) _ (Nat.le_trans (listT_size _) (by omega))).mono ?_
    rintro en v9 ⟨rfl, hv9⟩
    have TN := TC.later hv9 (by have := ZC.out; omega)
    have UN := UC.later hv9 (by have := ZC.out; omega)
    have ZN : Hid (w.heap.size + 2 ≤ v9.heap.size) := Nat.le_trans ZC.out hv9.size
    have BN := BC.trans (hv9.mono BC.size)
    have HPN := RowAt.later HP hv9
    have HVN := RowAt.later HV hv9
    clear TC UC ZC BC HP HV
    have TC := TN
    have UC := UN
    have ZC := ZN
    have BC := BN
    have HP := HPN
    have HV := HVN
    clear TN UN ZN BN HPN HVN
    clear hv9
    go_wp2_with fail
    refine hK.out _ _ ⟨TC, UC⟩ (fun hHeld2 => ?_)
    clear hK K hHeld
    have hHeld := hHeld2
    clear hHeld2
    try simp only [Act.put, List.setIfInBounds_toArray, List.set_cons_zero, List.set_cons_succ]
    refine take_one 23 2 (v := ?_) rfl rfl (by kernel_rfl) (by kernel_rfl) (by kernel_rfl) (fun _ _ _ h => h) (Or.inl ⟨by rfl, ?_⟩) hHeld ?_
    rotate_left
    · intro w' hSw; (try dsimp only at hSw); have d0 := hSw.1.at 0 rfl; have d1 := hSw.1.at 1 rfl; have d2 := hSw.1.at 2 rfl; have d3 := hSw.1.at 3 rfl; have d4 := hSw.1.at 4 rfl; have d5 := hSw.1.at 5 rfl; have d6 := hSw.1.at 6 rfl; have d7 := hSw.1.at 7 rfl; have d8 := hSw.1.at 8 rfl; have e0 := hSw.2.at 0 rfl; have e1 := hSw.2.at 1 rfl; have e2 := hSw.2.at 2 rfl; have e3 := hSw.2.at 3 rfl; have e4 := hSw.2.at 4 rfl; have e5 := hSw.2.at 5 rfl; have e6 := hSw.2.at 6 rfl; have e7 := hSw.2.at 7 rfl; go_simp; try with_reducible rfl
    try simp only [Act.put, List.setIfInBounds_toArray, List.set_cons_zero, List.set_cons_succ]
    refine wpAnyH_done (by kernel_rfl) ?_ _
    go_wp2
    go_ret
    exact ⟨by unfold shT; rw [h0]; rfl, BC⟩
  · rw [Bool.not_eq_true] at h0
    rw [h0]
    go_wp2
    go_ret
    exact ⟨by unfold shT; rw [h0]; rfl, BC⟩
end Go.Proofs.YtbkemhclncmicaaGreat

set_option linter.unusedVariables false
namespace Go.Proofs.YtbkemhclncmicaaGreat
open Go Go.RowKit Own Var Term

set_option maxRecDepth 100000 in
set_option maxHeartbeats 12800000 in
theorem specShowT_is (c s k a b e : Int) (pa : Option Addr) (P : List Int) (pc : Nat) (va : Option Addr) (V : List Int) (vc : Nat) (key : Int) (w : World) (hp : RowAt (Value.int .i64) w pa P) (hv : RowAt (Value.int .i64) w va V) (hpl : P.length ≤ 1048576) (hvl : V.length ≤ 1048576) : Calls Tryz.prog 8 #[.agg #[.int .i64 c, .int .i64 s, .int .i64 k, .int .i64 a, .int .i64 b, .int .i64 e, .slice pa P.length pc, .slice va V.length vc], .int .i64 key] w fun en w' => en = .returned (.string (shT c s k a b e P V key)) ∧ Below w.heap.size w w' := by
  obtain ⟨W2, hW2⟩ : ∃ W2, w.alloc (.cells #[.int .i64 c, .int .i64 s, .int .i64 k, .int .i64 a, .int .i64 b, .int .i64 e, .slice pa P.length pc, .slice va V.length vc] 28) = W2 := ⟨_, rfl⟩
  have B2 : Below w.heap.size w W2 := by rw [← hW2]; exact (Below.refl _ _).alloc (Nat.le_refl _) _
  have T2 : Blk w.heap.size [.int .i64 c, .int .i64 s, .int .i64 k, .int .i64 a, .int .i64 b, .int .i64 e, .slice pa P.length pc, .slice va V.length vc] W2 := by rw [← hW2]; exact Blk.new w #[.int .i64 c, .int .i64 s, .int .i64 k, .int .i64 a, .int .i64 b, .int .i64 e, .slice pa P.length pc, .slice va V.length vc] _
  have Z2 : Hid (w.heap.size + 1 ≤ W2.heap.size) := by show _ ≤ _; rw [← hW2]; simp
  have e0 := T2.at 0 rfl
  have e1 := T2.at 1 rfl
  have e2 := T2.at 2 rfl
  have e3 := T2.at 3 rfl
  have e4 := T2.at 4 rfl
  have e5 := T2.at 5 rfl
  have e6 := T2.at 6 rfl
  have e7 := T2.at 7 rfl
  have HP2 := RowAt.later hp B2
  have HV2 := RowAt.later hv B2
  go_enter Tryz.func8, Tryz.ntmps8
  go_wp2_with fail
  try rw [hW2]
  refine (spec_ticketOk c s k a b e pa P pc va V vc _ HP2 HV2 hpl hvl).mono ?_
  clear hW2
  rintro en w3 ⟨rfl, hb3⟩
  have TC := T2.later hb3 (by have := Z2.out; omega)
  have ZC : Hid (w.heap.size + 1 ≤ w3.heap.size) := Nat.le_trans Z2.out hb3.size
  have BC := B2.trans (hb3.mono B2.size)
  have HP := RowAt.later HP2 hb3
  have HV := RowAt.later HV2 hb3
  clear T2 Z2 B2 hb3 e0 e1 e2 e3 e4 e5 e6 e7 HP2 HV2
  by_cases h0 : tOk c s k a b e P V = true
  · rw [h0]
    go_wp2_with fail
    have TCD := TC.drew
    have BCD := BC.drew
    have ZCD : Hid (w.heap.size + 1 ≤ w3.drew.heap.size) := ZC
    have HPD : RowAt (Value.int .i64) w3.drew _ _ := HP
    have HVD : RowAt (Value.int .i64) w3.drew _ _ := HV
    clear TC BC ZC HP HV
    have TC := TCD
    have BC := BCD
    have ZC := ZCD
    have HP := HPD
    have HV := HVD
    clear TCD BCD ZCD HPD HVD
    refine wp_region_held_drew (S := (fun Vw => Blk w.heap.size [.int .i64 c, .int .i64 s, .int .i64 k, .int .i64 a, .int .i64 b, .int .i64 e, .slice pa P.length pc, .slice va V.length vc] Vw)) (by kernel_rfl) TC (fun hHeld => ?_)
    refine take_one 0 8 (v := ?_) rfl rfl (by kernel_rfl) (by kernel_rfl) (by kernel_rfl) (fun _ _ _ h => h) (Or.inl ⟨by rfl, ?_⟩) hHeld ?_
    rotate_left
    · intro w' hSw; (try dsimp only at hSw); have d0 := hSw.at 0 rfl; have d1 := hSw.at 1 rfl; have d2 := hSw.at 2 rfl; have d3 := hSw.at 3 rfl; have d4 := hSw.at 4 rfl; have d5 := hSw.at 5 rfl; have d6 := hSw.at 6 rfl; have d7 := hSw.at 7 rfl; go_simp; try with_reducible rfl
    try simp only [Act.put, List.setIfInBounds_toArray, List.set_cons_zero, List.set_cons_succ]
    refine take_one 1 9 (v := ?_) rfl rfl (by kernel_rfl) (by kernel_rfl) (by kernel_rfl) (fun _ _ _ h => h) (Or.inl ⟨by rfl, ?_⟩) hHeld ?_
    rotate_left
    · intro w' hSw; (try dsimp only at hSw); have d0 := hSw.at 0 rfl; have d1 := hSw.at 1 rfl; have d2 := hSw.at 2 rfl; have d3 := hSw.at 3 rfl; have d4 := hSw.at 4 rfl; have d5 := hSw.at 5 rfl; have d6 := hSw.at 6 rfl; have d7 := hSw.at 7 rfl; go_simp; try with_reducible rfl
    try simp only [Act.put, List.setIfInBounds_toArray, List.set_cons_zero, List.set_cons_succ]
    refine take_one 2 10 (v := ?_) rfl rfl (by kernel_rfl) (by kernel_rfl) (by kernel_rfl) (fun _ _ _ h => h) (Or.inl ⟨by rfl, ?_⟩) hHeld ?_
    rotate_left
    · intro w' hSw; (try dsimp only at hSw); have d0 := hSw.at 0 rfl; have d1 := hSw.at 1 rfl; have d2 := hSw.at 2 rfl; have d3 := hSw.at 3 rfl; have d4 := hSw.at 4 rfl; have d5 := hSw.at 5 rfl; have d6 := hSw.at 6 rfl; have d7 := hSw.at 7 rfl; go_simp; try with_reducible rfl
    try simp only [Act.put, List.setIfInBounds_toArray, List.set_cons_zero, List.set_cons_succ]
    refine take_one 3 11 (v := ?_) rfl rfl (by kernel_rfl) (by kernel_rfl) (by kernel_rfl) (fun _ _ _ h => h) (Or.inl ⟨by rfl, ?_⟩) hHeld ?_
    rotate_left
    · intro w' hSw; (try dsimp only at hSw); have d0 := hSw.at 0 rfl; have d1 := hSw.at 1 rfl; have d2 := hSw.at 2 rfl; have d3 := hSw.at 3 rfl; have d4 := hSw.at 4 rfl; have d5 := hSw.at 5 rfl; have d6 := hSw.at 6 rfl; have d7 := hSw.at 7 rfl; go_simp; try with_reducible rfl
    try simp only [Act.put, List.setIfInBounds_toArray, List.set_cons_zero, List.set_cons_succ]
    refine take_one 4 12 (v := ?_) rfl rfl (by kernel_rfl) (by kernel_rfl) (by kernel_rfl) (fun _ _ _ h => h) (Or.inl ⟨by rfl, ?_⟩) hHeld ?_
    rotate_left
    · intro w' hSw; (try dsimp only at hSw); have d0 := hSw.at 0 rfl; have d1 := hSw.at 1 rfl; have d2 := hSw.at 2 rfl; have d3 := hSw.at 3 rfl; have d4 := hSw.at 4 rfl; have d5 := hSw.at 5 rfl; have d6 := hSw.at 6 rfl; have d7 := hSw.at 7 rfl; go_simp; try with_reducible rfl
    try simp only [Act.put, List.setIfInBounds_toArray, List.set_cons_zero, List.set_cons_succ]
    refine take_one 7 15 (v := ?_) rfl rfl (by kernel_rfl) (by kernel_rfl) (by kernel_rfl) (fun _ _ _ h => h) (Or.inl ⟨by rfl, ?_⟩) hHeld ?_
    rotate_left
    · intro w' hSw; (try dsimp only at hSw); have d0 := hSw.at 0 rfl; have d1 := hSw.at 1 rfl; have d2 := hSw.at 2 rfl; have d3 := hSw.at 3 rfl; have d4 := hSw.at 4 rfl; have d5 := hSw.at 5 rfl; have d6 := hSw.at 6 rfl; have d7 := hSw.at 7 rfl; go_simp; try with_reducible rfl
    try simp only [Act.put, List.setIfInBounds_toArray, List.set_cons_zero, List.set_cons_succ]
    refine take_one 8 16 (v := ?_) rfl rfl (by kernel_rfl) (by kernel_rfl) (by kernel_rfl) (fun _ _ _ h => h) (Or.inl ⟨by rfl, ?_⟩) hHeld ?_
    rotate_left
    · intro w' hSw; (try dsimp only at hSw); have d0 := hSw.at 0 rfl; have d1 := hSw.at 1 rfl; have d2 := hSw.at 2 rfl; have d3 := hSw.at 3 rfl; have d4 := hSw.at 4 rfl; have d5 := hSw.at 5 rfl; have d6 := hSw.at 6 rfl; have d7 := hSw.at 7 rfl; go_simp; try with_reducible rfl
    try simp only [Act.put, List.setIfInBounds_toArray, List.set_cons_zero, List.set_cons_succ]
    refine take_one 10 18 (v := ?_) rfl rfl (by kernel_rfl) (by kernel_rfl) (by kernel_rfl) (fun _ _ _ h => h) (Or.inl ⟨by rfl, ?_⟩) hHeld ?_
    rotate_left
    · intro w' hSw; (try dsimp only at hSw); have d0 := hSw.at 0 rfl; have d1 := hSw.at 1 rfl; have d2 := hSw.at 2 rfl; have d3 := hSw.at 3 rfl; have d4 := hSw.at 4 rfl; have d5 := hSw.at 5 rfl; have d6 := hSw.at 6 rfl; have d7 := hSw.at 7 rfl; go_simp; try with_reducible rfl
    try simp only [Act.put, List.setIfInBounds_toArray, List.set_cons_zero, List.set_cons_succ]
    refine take_one 11 19 (v := ?_) rfl rfl (by kernel_rfl) (by kernel_rfl) (by kernel_rfl) (fun _ _ _ h => h) (Or.inl ⟨by rfl, ?_⟩) hHeld ?_
    rotate_left
    · intro w' hSw; (try dsimp only at hSw); have d0 := hSw.at 0 rfl; have d1 := hSw.at 1 rfl; have d2 := hSw.at 2 rfl; have d3 := hSw.at 3 rfl; have d4 := hSw.at 4 rfl; have d5 := hSw.at 5 rfl; have d6 := hSw.at 6 rfl; have d7 := hSw.at 7 rfl; go_simp; try with_reducible rfl
    try simp only [Act.put, List.setIfInBounds_toArray, List.set_cons_zero, List.set_cons_succ]
    refine take_one 13 21 (v := ?_) rfl rfl (by kernel_rfl) (by kernel_rfl) (by kernel_rfl) (fun _ _ _ h => h) (Or.inl ⟨by rfl, ?_⟩) hHeld ?_
    rotate_left
    · intro w' hSw; (try dsimp only at hSw); have d0 := hSw.at 0 rfl; have d1 := hSw.at 1 rfl; have d2 := hSw.at 2 rfl; have d3 := hSw.at 3 rfl; have d4 := hSw.at 4 rfl; have d5 := hSw.at 5 rfl; have d6 := hSw.at 6 rfl; have d7 := hSw.at 7 rfl; go_simp; try with_reducible rfl
    try simp only [Act.put, List.setIfInBounds_toArray, List.set_cons_zero, List.set_cons_succ]
    refine take_one 14 22 (v := ?_) rfl rfl (by kernel_rfl) (by kernel_rfl) (by kernel_rfl) (fun _ _ _ h => h) (Or.inl ⟨by rfl, ?_⟩) hHeld ?_
    rotate_left
    · intro w' hSw; (try dsimp only at hSw); have d0 := hSw.at 0 rfl; have d1 := hSw.at 1 rfl; have d2 := hSw.at 2 rfl; have d3 := hSw.at 3 rfl; have d4 := hSw.at 4 rfl; have d5 := hSw.at 5 rfl; have d6 := hSw.at 6 rfl; have d7 := hSw.at 7 rfl; go_simp; try with_reducible rfl
    try simp only [Act.put, List.setIfInBounds_toArray, List.set_cons_zero, List.set_cons_succ]
    refine take_one 16 24 (v := ?_) rfl rfl (by kernel_rfl) (by kernel_rfl) (by kernel_rfl) (fun _ _ _ h => h) (Or.inl ⟨by rfl, ?_⟩) hHeld ?_
    rotate_left
    · intro w' hSw; (try dsimp only at hSw); have d0 := hSw.at 0 rfl; have d1 := hSw.at 1 rfl; have d2 := hSw.at 2 rfl; have d3 := hSw.at 3 rfl; have d4 := hSw.at 4 rfl; have d5 := hSw.at 5 rfl; have d6 := hSw.at 6 rfl; have d7 := hSw.at 7 rfl; go_simp; try with_reducible rfl
    try simp only [Act.put, List.setIfInBounds_toArray, List.set_cons_zero, List.set_cons_succ]
    refine take_one 17 25 (v := ?_) rfl rfl (by kernel_rfl) (by kernel_rfl) (by kernel_rfl) (fun _ _ _ h => h) (Or.inl ⟨by rfl, ?_⟩) hHeld ?_
    rotate_left
    · intro w' hSw; (try dsimp only at hSw); have d0 := hSw.at 0 rfl; have d1 := hSw.at 1 rfl; have d2 := hSw.at 2 rfl; have d3 := hSw.at 3 rfl; have d4 := hSw.at 4 rfl; have d5 := hSw.at 5 rfl; have d6 := hSw.at 6 rfl; have d7 := hSw.at 7 rfl; go_simp; try with_reducible rfl
    try simp only [Act.put, List.setIfInBounds_toArray, List.set_cons_zero, List.set_cons_succ]
    obtain ⟨v1, hv1⟩ : ∃ v, (w3.drew).alloc (.cells #[.int .i64 c, .int .i64 s] 3) = v := ⟨_, rfl⟩
    have XA : Below (w3.drew).heap.size (w3.drew) v1 := by rw [← hv1]; exact (Below.refl _ _).alloc (Nat.le_refl _) _
    have TN := TC.later XA (by have := ZC.out; omega)
    have ZN : Hid (w.heap.size + 1 ≤ v1.heap.size) := Nat.le_trans ZC.out XA.size
    have BN := BC.trans (XA.mono BC.size)
    have HPN := RowAt.later HP XA
    have HVN := RowAt.later HV XA
    have RAN : RowAt (Value.int .i64) v1 (some ⟨(w3.drew).heap.size, 0, none⟩) [c, s] := by rw [← hv1]; exact row_new (Value.int .i64) (w3.drew) [c, s] 3
    refine wpAnyH_ready (rs := [5]) (by kernel_rfl) (by simp) ?_
    refine AllReadyH.cons (i := 5) rfl (fun K hK => ?_) AllReadyH.nil
    go_simp
    refine hK.out _ _ (by (try rw [hv1]); exact TN) (fun hHeld2 => ?_)
    clear hK K hHeld
    have hHeld := hHeld2
    clear hHeld2
    try simp only [Act.put, List.setIfInBounds_toArray, List.set_cons_zero, List.set_cons_succ]
    clear TC ZC BC HP HV
    have TC := TN
    have ZC := ZN
    have BC := BN
    have HP := HPN
    have HV := HVN
    clear TN ZN BN HPN HVN
    have RA := RAN
    clear RAN XA
    try rw [hv1]
    clear hv1
    refine wpAnyH_ready (rs := [6]) (by kernel_rfl) (by simp) ?_
    refine AllReadyH.cons (i := 6) rfl (fun K hK => ?_) AllReadyH.nil
    go_simp
    refine (spec_nums _ 2 [c, s] _ RA (by simp)).mono ?_
    rintro en v2 ⟨rfl, hv2⟩
    have TN := TC.later hv2 (by have := ZC.out; omega)
    have ZN : Hid (w.heap.size + 1 ≤ v2.heap.size) := Nat.le_trans ZC.out hv2.size
    have BN := BC.trans (hv2.mono BC.size)
    have HPN := RowAt.later HP hv2
    have HVN := RowAt.later HV hv2
    have RAN := RowAt.later RA hv2
    clear TC ZC BC HP HV RA
    have TC := TN
    have ZC := ZN
    have BC := BN
    have HP := HPN
    have HV := HVN
    have RA := RAN
    clear TN ZN BN HPN HVN RAN
    clear hv2
    go_wp2_with fail
    refine hK.out _ _ TC (fun hHeld2 => ?_)
    clear hK K hHeld
    have hHeld := hHeld2
    clear hHeld2
    try simp only [Act.put, List.setIfInBounds_toArray, List.set_cons_zero, List.set_cons_succ]
    clear RA
    refine wpAnyH_ready (rs := [9]) (by kernel_rfl) (by simp) ?_
    refine AllReadyH.cons (i := 9) rfl (fun K hK => ?_) AllReadyH.nil
    go_simp
    refine (spec_key k _).mono ?_
    rintro en v3 ⟨rfl, hv3⟩
    have TN := TC.later hv3 (by have := ZC.out; omega)
    have ZN : Hid (w.heap.size + 1 ≤ v3.heap.size) := Nat.le_trans ZC.out hv3.size
    have BN := BC.trans (hv3.mono BC.size)
    have HPN := RowAt.later HP hv3
    have HVN := RowAt.later HV hv3
    clear TC ZC BC HP HV
    have TC := TN
    have ZC := ZN
    have BC := BN
    have HP := HPN
    have HV := HVN
    clear TN ZN BN HPN HVN
    clear hv3
    go_wp2_with fail
    refine hK.out _ _ TC (fun hHeld2 => ?_)
    clear hK K hHeld
    have hHeld := hHeld2
    clear hHeld2
    try simp only [Act.put, List.setIfInBounds_toArray, List.set_cons_zero, List.set_cons_succ]
    refine wpAnyH_ready (rs := [12]) (by kernel_rfl) (by simp) ?_
    refine AllReadyH.cons (i := 12) rfl (fun K hK => ?_) AllReadyH.nil
    go_simp
    refine (specShow_is a b e _).mono ?_
    rintro en v4 ⟨rfl, hv4⟩
    have TN := TC.later hv4 (by have := ZC.out; omega)
    have ZN : Hid (w.heap.size + 1 ≤ v4.heap.size) := Nat.le_trans ZC.out hv4.size
    have BN := BC.trans (hv4.mono BC.size)
    have HPN := RowAt.later HP hv4
    have HVN := RowAt.later HV hv4
    clear TC ZC BC HP HV
    have TC := TN
    have ZC := ZN
    have BC := BN
    have HP := HPN
    have HV := HVN
    clear TN ZN BN HPN HVN
    clear hv4
    go_wp2_with fail
    refine hK.out _ _ TC (fun hHeld2 => ?_)
    clear hK K hHeld
    have hHeld := hHeld2
    clear hHeld2
    try simp only [Act.put, List.setIfInBounds_toArray, List.set_cons_zero, List.set_cons_succ]
    refine wpAnyH_ready (rs := [15]) (by kernel_rfl) (by simp) ?_
    refine AllReadyH.cons (i := 15) rfl (fun K hK => ?_) AllReadyH.nil
    go_simp
    refine (spec_nums pa pc P _ HP hpl).mono ?_
    rintro en v5 ⟨rfl, hv5⟩
    have TN := TC.later hv5 (by have := ZC.out; omega)
    have ZN : Hid (w.heap.size + 1 ≤ v5.heap.size) := Nat.le_trans ZC.out hv5.size
    have BN := BC.trans (hv5.mono BC.size)
    have HPN := RowAt.later HP hv5
    have HVN := RowAt.later HV hv5
    clear TC ZC BC HP HV
    have TC := TN
    have ZC := ZN
    have BC := BN
    have HP := HPN
    have HV := HVN
    clear TN ZN BN HPN HVN
    clear hv5
    go_wp2_with fail
    refine hK.out _ _ TC (fun hHeld2 => ?_)
    clear hK K hHeld
    have hHeld := hHeld2
    clear hHeld2
    try simp only [Act.put, List.setIfInBounds_toArray, List.set_cons_zero, List.set_cons_succ]
    refine wpAnyH_ready (rs := [18]) (by kernel_rfl) (by simp) ?_
    refine AllReadyH.cons (i := 18) rfl (fun K hK => ?_) AllReadyH.nil
    go_simp
    refine (spec_nums va vc V _ HV hvl).mono ?_
    rintro en v6 ⟨rfl, hv6⟩
    have TN := TC.later hv6 (by have := ZC.out; omega)
    have ZN : Hid (w.heap.size + 1 ≤ v6.heap.size) := Nat.le_trans ZC.out hv6.size
    have BN := BC.trans (hv6.mono BC.size)
    have HPN := RowAt.later HP hv6
    have HVN := RowAt.later HV hv6
    clear TC ZC BC HP HV
    have TC := TN
    have ZC := ZN
    have BC := BN
    have HP := HPN
    have HV := HVN
    clear TN ZN BN HPN HVN
    clear hv6
    go_wp2_with fail
    refine hK.out _ _ TC (fun hHeld2 => ?_)
    clear hK K hHeld
    have hHeld := hHeld2
    clear hHeld2
    try simp only [Act.put, List.setIfInBounds_toArray, List.set_cons_zero, List.set_cons_succ]
    obtain ⟨v7, hv7⟩ : ∃ v, (v6).alloc (.cells #[.string (numsT [c, s]), .string (keyT k), .string (shR a b e), .string (numsT P), .string (numsT V)] 9) = v := ⟨_, rfl⟩
    have XA : Below (v6).heap.size (v6) v7 := by rw [← hv7]; exact (Below.refl _ _).alloc (Nat.le_refl _) _
    have TN := TC.later XA (by have := ZC.out; omega)
    have ZN : Hid (w.heap.size + 1 ≤ v7.heap.size) := Nat.le_trans ZC.out XA.size
    have BN := BC.trans (XA.mono BC.size)
    have HPN := RowAt.later HP XA
    have HVN := RowAt.later HV XA
    have RLN : RowAt Value.string v7 (some ⟨(v6).heap.size, 0, none⟩) [numsT [c, s], keyT k, shR a b e, numsT P, numsT V] := by rw [← hv7]; exact row_new Value.string (v6) [numsT [c, s], keyT k, shR a b e, numsT P, numsT V] 9
    refine wpAnyH_ready (rs := [19]) (by kernel_rfl) (by simp) ?_
    refine AllReadyH.cons (i := 19) rfl (fun K hK => ?_) AllReadyH.nil
    go_simp
    refine hK.out _ _ (by (try rw [hv7]); exact TN) (fun hHeld2 => ?_)
    clear hK K hHeld
    have hHeld := hHeld2
    clear hHeld2
    try simp only [Act.put, List.setIfInBounds_toArray, List.set_cons_zero, List.set_cons_succ]
    clear TC ZC BC HP HV
    have TC := TN
    have ZC := ZN
    have BC := BN
    have HP := HPN
    have HV := HVN
    clear TN ZN BN HPN HVN
    have RL := RLN
    clear RLN XA
    try rw [hv7]
    clear hv7
    refine wpAnyH_ready (rs := [20]) (by kernel_rfl) (by simp) ?_
    refine AllReadyH.cons (i := 20) rfl (fun K hK => ?_) AllReadyH.nil
    go_simp
    refine (spec_list _ 5 [numsT [c, s], keyT k, shR a b e, numsT P, numsT V] _ RL (by simp) (by intro x hx; simp only [List.mem_cons, List.not_mem_nil, or_false] at hx; rcases hx with rfl | rfl | rfl | rfl | rfl <;> first | exact Nat.le_trans (listT_size _) (by omega) | exact Nat.le_trans (keyT_size k) (by omega) | exact Nat.le_trans (shR_size a b e) (by omega))).mono ?_
    rintro en v8 ⟨rfl, hv8⟩
    have TN := TC.later hv8 (by have := ZC.out; omega)
    have ZN : Hid (w.heap.size + 1 ≤ v8.heap.size) := Nat.le_trans ZC.out hv8.size
    have BN := BC.trans (hv8.mono BC.size)
    have HPN := RowAt.later HP hv8
    have HVN := RowAt.later HV hv8
    have RLN := RowAt.later RL hv8
    clear TC ZC BC HP HV RL
    have TC := TN
    have ZC := ZN
    have BC := BN
    have HP := HPN
    have HV := HVN
    have RL := RLN
    clear TN ZN BN HPN HVN RLN
    clear hv8
    go_wp2_with fail
    refine hK.out _ _ TC (fun hHeld2 => ?_)
    clear hK K hHeld
    have hHeld := hHeld2
    clear hHeld2
    try simp only [Act.put, List.setIfInBounds_toArray, List.set_cons_zero, List.set_cons_succ]
    clear RL
    refine wpAnyH_ready (rs := [21]) (by kernel_rfl) (by simp) ?_
    refine AllReadyH.cons (i := 21) rfl (fun K hK => ?_) AllReadyH.nil
    go_simp
    refine (spec_seal key (inT c s k a b e P V) _ (Nat.le_trans (listT_size _) (by omega))).mono ?_
    rintro en v9 ⟨rfl, hv9⟩
    have TN := TC.later hv9 (by have := ZC.out; omega)
    have ZN : Hid (w.heap.size + 1 ≤ v9.heap.size) := Nat.le_trans ZC.out hv9.size
    have BN := BC.trans (hv9.mono BC.size)
    have HPN := RowAt.later HP hv9
    have HVN := RowAt.later HV hv9
    clear TC ZC BC HP HV
    have TC := TN
    have ZC := ZN
    have BC := BN
    have HP := HPN
    have HV := HVN
    clear TN ZN BN HPN HVN
    clear hv9
    go_wp2_with fail
    refine hK.out _ _ TC (fun hHeld2 => ?_)
    clear hK K hHeld
    have hHeld := hHeld2
    clear hHeld2
    try simp only [Act.put, List.setIfInBounds_toArray, List.set_cons_zero, List.set_cons_succ]
    refine take_one 22 4 (v := ?_) rfl rfl (by kernel_rfl) (by kernel_rfl) (by kernel_rfl) (fun _ _ _ h => h) (Or.inl ⟨by rfl, ?_⟩) hHeld ?_
    rotate_left
    · intro w' hSw; (try dsimp only at hSw); have d0 := hSw.at 0 rfl; have d1 := hSw.at 1 rfl; have d2 := hSw.at 2 rfl; have d3 := hSw.at 3 rfl; have d4 := hSw.at 4 rfl; have d5 := hSw.at 5 rfl; have d6 := hSw.at 6 rfl; have d7 := hSw.at 7 rfl; go_simp; try with_reducible rfl
    try simp only [Act.put, List.setIfInBounds_toArray, List.set_cons_zero, List.set_cons_succ]
    refine wpAnyH_done (by kernel_rfl) ?_ _
    go_wp2
    go_ret
    exact ⟨by unfold shT; rw [h0]; rfl, BC⟩
  · rw [Bool.not_eq_true] at h0
    rw [h0]
    go_wp2
    go_ret
    exact ⟨by unfold shT; rw [h0]; rfl, BC⟩
end Go.Proofs.YtbkemhclncmicaaGreat

set_option linter.unusedVariables false
namespace Go.Proofs.YtbkemhclncmicaaGreat
open Go Go.RowKit Own Var Term

set_option maxRecDepth 100000 in
set_option maxHeartbeats 1600000 in
theorem implShowT_is (c s k a b e : Int) (pa : Option Addr) (P : List Int) (pc : Nat) (va : Option Addr) (V : List Int) (vc : Nat) (key : Int) (w : World) (hs : i64 s) (hp : RowAt (Value.int .i64) w pa P) (hv : RowAt (Value.int .i64) w va V) (hpl : P.length ≤ 1048576) (hvl : V.length ≤ 1048576) : Calls Tryz.prog 6 #[.agg #[.int .i64 c, .int .i64 s, .int .i64 k, .int .i64 a, .int .i64 b, .int .i64 e, .slice pa P.length pc, .slice va V.length vc], .int .i64 key] w fun en w' => en = .returned (.string (shT c s k a b e P V key)) ∧ Below w.heap.size w w' := by
  have B0 : Below w.heap.size w (w.alloc (.cells #[.int .i64 c, .int .i64 s, .int .i64 k, .int .i64 a, .int .i64 b, .int .i64 e, .slice pa P.length pc, .slice va V.length vc] 28)) := (Below.refl _ _).alloc (Nat.le_refl _) _
  have HS := showT_is c s k a b e pa P pc va V vc key _ hs (hp.later B0) (hv.later B0) hpl hvl
  go_enter Tryz.func6, Tryz.ntmps6
  go_wp2_with fail
  refine HS.mono ?_
  rintro en w1 ⟨rfl, hb1⟩
  have B1 := B0.trans (hb1.mono B0.size)
  clear B0 hb1 HS
  go_wp2
  go_ret
  exact ⟨rfl, B1⟩
end Go.Proofs.YtbkemhclncmicaaGreat
