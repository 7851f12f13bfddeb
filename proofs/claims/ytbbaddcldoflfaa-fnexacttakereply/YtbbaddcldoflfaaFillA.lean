/- Authenticators: what a text is filled in as. -/
import Derived.Test.YtbbaddcldoflfaaTold
import Derived.Test.YtbbaddcldoflfaaBox
import Derived.Test.YtbbaddcldoflfaaRead
set_option linter.unusedVariables false
namespace Go.Proofs.Ytbbaddcldoflfaa
open Go Go.RowKit Own Var Term
end Go.Proofs.Ytbbaddcldoflfaa

set_option linter.unusedVariables false
namespace Go.Proofs.Ytbbaddcldoflfaa
open Go Go.RowKit Own Var Term

theorem just_size (y : ByteArray) (n : Nat) : ∀ x ∈ just (⟨#[]⟩ : ByteArray) (partsR y).1 n, x.size ≤ 900 := by
  intro x hx
  unfold just at hx
  split at hx
  · exact parts_size y x hx
  · rw [(List.mem_replicate.1 hx).2]
    show 0 ≤ 900
    omega
theorem numR_i64 (x : ByteArray) : i64 (numR x).1 := by
  unfold numR i64
  have := rvN_le (atomR x).1
  split
  · show _ ≤ ((rvN (atomR x).1 : Nat) : Int) ∧ _ ≤ _
    omega
  · show _ ≤ (0 : Int) ∧ (0 : Int) ≤ _
    omega
theorem numsR_i64 (x : ByteArray) : ∀ z ∈ (numsR x).1, i64 z := by
  intro z hz
  unfold numsR numsP at hz
  split at hz
  · simp only [List.mem_map] at hz
    obtain ⟨y, _, rfl⟩ := hz
    exact numR_i64 y
  · simp at hz
theorem just_i64 (x : ByteArray) (n : Nat) : ∀ z ∈ just (0 : Int) (numsR x).1 n, i64 z := by
  intro z hz
  unfold just at hz
  split at hz
  · exact numsR_i64 x z hz
  · rw [(List.mem_replicate.1 hz).2]
    unfold i64
    omega

set_option maxRecDepth 100000 in
set_option maxHeartbeats 6400000 in
theorem fillG_is (p : Nat) (k0 s0 n0 a0 b0 e0 key : Int) (s : ByteArray) (w : World) (hT : Blk p [.int .i64 k0, .int .i64 s0, .int .i64 n0, .int .i64 a0, .int .i64 b0, .int .i64 e0, .int .i64 key] w) (hp : p < w.heap.size) (hs : s.size ≤ 1048576)
    (x0 x1 x2 : ByteArray) (hx : just (⟨#[]⟩ : ByteArray) (partsR (openR s key).1).1 3 = [x0, x1, x2]) (sv n : Int) (hw : just 0 (numsR x1).1 2 = [sv, n]) :
    Calls Try.prog 52 #[.pointer (some ⟨p, 0, none⟩), .string s] w fun en w' => en = .returned (.tuple #[]) ∧ Blk p [.int .i64 ((keyR x0).1), .int .i64 sv, .int .i64 n, .int .i64 (rdA (numsR x2).1), .int .i64 (rdB (numsR x2).1), .int .i64 (rdC (numsR x2).1), .int .i64 key] w' ∧ Below p w w' := by
  have hz := just_size (openR s key).1 3
  rw [hx] at hz
  have z0 : x0.size ≤ 1048576 := Nat.le_trans (hz x0 (by simp)) (by omega)
  have z1 : x1.size ≤ 1048576 := Nat.le_trans (hz x1 (by simp)) (by omega)
  have z2 : x2.size ≤ 1048576 := Nat.le_trans (hz x2 (by simp)) (by omega)
  clear hz
  have d0 := hT.at 0 rfl
  have d1 := hT.at 1 rfl
  have d2 := hT.at 2 rfl
  have d3 := hT.at 3 rfl
  have d4 := hT.at 4 rfl
  have d5 := hT.at 5 rfl
  have d6 := hT.at 6 rfl
  have HP : Hid (p < w.heap.size) := hp
  clear hp
  have HK := fun w => impl_readKey x0 w z0
  have HR := fun w => implRead_is x2 w z2
  generalize (keyR x0).1 = kv at HK ⊢
  generalize (keyR x0).2 = kb at HK
  generalize rdA (numsR x2).1 = ra at HR ⊢
  generalize rdB (numsR x2).1 = rb at HR ⊢
  generalize rdC (numsR x2).1 = rc at HR ⊢
  generalize rdK (numsR x2).1 = rk at HR
  clear z0 z2
  go_enter Try.func52, Try.ntmps52
  go_wp2_with fail
  refine (openG_is k0 s0 n0 a0 b0 e0 key s _ hs).mono ?_
  rintro en w1 ⟨rfl, hb1⟩
  have T1 := hT.later hb1 HP.out
  have P1 : Hid (p < w1.heap.size) := Nat.lt_of_lt_of_le HP.out hb1.size
  have B1 : Below p w w1 := hb1.mono (Nat.le_of_lt HP.out)
  clear hT HP hb1 d0 d1 d2 d3 d4 d5 d6
  have HN := partsOf_is (openR s key).1 3 w1 (Nat.le_trans (openR_size s key) (by omega)) (by omega)
  rw [hx] at HN
  go_wp2_with fail
  refine HN.mono ?_
  rintro en w2 ⟨u, rfl, ho, hb2⟩
  clear HN
  obtain ⟨gp, capp, rfl, hcap, hg, hlt, X2⟩ := own_blk (f := Value.string) (xs := [x0, x1, x2]) ho (by omega)
  have T2 := T1.later hb2 P1.out
  have P2 : Hid (p < w2.heap.size) := Nat.lt_of_lt_of_le P1.out hb2.size
  have B2 : Below p w w2 := B1.trans (hb2.mono (Nat.le_of_lt P1.out))
  have hgp : p ≠ gp := by have := P1.out; omega
  have hc3 : (3 : Int) ≤ (capp : Int) := by omega
  have X2' : Blk gp [.string x0, .string x1, .string x2] w2 := X2
  clear T1 B1 hb2 ho P1 hg X2 hcap
  have q0 := X2'.at 1 rfl
  have HN := numbersOf_is x1 2 w2 z1 (by omega)
  rw [hw] at HN
  go_wp2_with fail
  refine HN.mono ?_
  rintro en w3 ⟨u, rfl, ho, hb3⟩
  clear HN q0
  obtain ⟨g5, cap5, rfl, hcap, hg, hlt5, Q3⟩ := own_blk (f := Value.int .i64) (xs := [sv, n]) ho (by omega)
  have T3 := T2.later hb3 P2.out
  have X3 := X2'.later hb3 hlt
  have P3 : Hid (p < w3.heap.size) := Nat.lt_of_lt_of_le P2.out hb3.size
  have B3 : Below p w w3 := B2.trans (hb3.mono (Nat.le_of_lt P2.out))
  have hlt3 : gp < w3.heap.size := Nat.lt_of_lt_of_le hlt hb3.size
  have hg5 : p ≠ g5 := by have := P2.out; omega
  have hc2 : (2 : Int) ≤ (cap5 : Int) := by omega
  have Q3' : Blk g5 [.int .i64 sv, .int .i64 n] w3 := Q3
  clear T2 B2 hb3 ho P2 hg X2' Q3 hcap hlt
  have q0 := X3.at 0 rfl
  go_wp2_with fail
  refine (HK _).mono ?_
  rintro en w4 ⟨rfl, hb4⟩
  have T4 := T3.later hb4 P3.out
  have X4 := X3.later hb4 hlt3
  have Q4 := Q3'.later hb4 hlt5
  have P4 : p < w4.heap.size := Nat.lt_of_lt_of_le P3.out hb4.size
  have B4 : Below p w w4 := B3.trans (hb4.mono (Nat.le_of_lt P3.out))
  have hlt4 : gp < w4.heap.size := Nat.lt_of_lt_of_le hlt3 hb4.size
  clear T3 B3 hb4 P3 X3 Q3' q0 hlt3 hlt5
  obtain ⟨V5, hV5⟩ : ∃ V, w4.setCell ⟨p, 0, none⟩ (.int .i64 kv) = V := ⟨_, rfl⟩
  have T5 : Blk p [.int .i64 (kv), .int .i64 s0, .int .i64 n0, .int .i64 a0, .int .i64 b0, .int .i64 e0, .int .i64 key] V5 := by rw [← hV5]; exact T4.set 0 _
  have X5 : Blk gp [.string x0, .string x1, .string x2] V5 := by rw [← hV5]; exact X4.far hgp 0 _
  have Q5 : Blk g5 [.int .i64 sv, .int .i64 n] V5 := by rw [← hV5]; exact Q4.far hg5 0 _
  have B5 : Below p w V5 := by rw [← hV5]; exact B4.setCell (by dsimp only; omega) _
  have hp5 : p < V5.heap.size := by rw [← hV5]; simpa using P4
  have hlt5 : gp < V5.heap.size := by rw [← hV5]; simpa using hlt4
  have k0 := T4.at 0 rfl
  have f0 := T4.fz 0 rfl
  clear X4 Q4 B4 P4 hlt4
  go_wp2_with fail
  try rw [hV5]
  clear k0 f0 hV5 T4
  obtain ⟨V6, hV6⟩ : ∃ V, V5.drew.setCell ⟨p, 1, none⟩ (.int .i64 sv) = V := ⟨_, rfl⟩
  have T6 : Blk p [.int .i64 (kv), .int .i64 sv, .int .i64 n0, .int .i64 a0, .int .i64 b0, .int .i64 e0, .int .i64 key] V6 := by rw [← hV6]; exact T5.drew.set 1 _
  have Q6 : Blk g5 [.int .i64 sv, .int .i64 n] V6 := by rw [← hV6]; exact Q5.drew.far hg5 1 _
  have X6 : Blk gp [.string x0, .string x1, .string x2] V6 := by rw [← hV6]; exact X5.drew.far hgp 1 _
  have B6 : Below p w V6 := by rw [← hV6]; exact B5.drew.setCell (by dsimp only; omega) _
  have hp6 : p < V6.heap.size := by rw [← hV6]; simpa using hp5
  have hlt6 : gp < V6.heap.size := by rw [← hV6]; simpa using hlt5
  obtain ⟨V7, hV7⟩ : ∃ V, V6.setCell ⟨p, 2, none⟩ (.int .i64 n) = V := ⟨_, rfl⟩
  have T7 : Blk p [.int .i64 (kv), .int .i64 sv, .int .i64 n, .int .i64 a0, .int .i64 b0, .int .i64 e0, .int .i64 key] V7 := by rw [← hV7]; exact T6.set 2 _
  have Q7 : Blk g5 [.int .i64 sv, .int .i64 n] V7 := by rw [← hV7]; exact Q6.far hg5 2 _
  have X7 : Blk gp [.string x0, .string x1, .string x2] V7 := by rw [← hV7]; exact X6.far hgp 2 _
  have B7 : Below p w V7 := by rw [← hV7]; exact B6.setCell (by dsimp only; omega) _
  have hp7 : p < V7.heap.size := by rw [← hV7]; simpa using hp6
  have hlt7 : gp < V7.heap.size := by rw [← hV7]; simpa using hlt6
  have k1 := T5.at 1 rfl
  have f1 := T5.fz 1 rfl
  have k2 := T6.at 2 rfl
  have f2 := T6.fz 2 rfl
  refine wp_region_held_drew (S := (fun Vw => Blk g5 [.int .i64 sv, .int .i64 n] Vw)) (by kernel_rfl) Q5.drew (fun hHeld => ?_)
  refine take_one 0 29 (v := ?_) rfl rfl (by kernel_rfl) (by kernel_rfl) (by kernel_rfl) (fun _ _ _ h => h) (Or.inl ⟨by rfl, ?_⟩) hHeld ?_
  rotate_left
  · intro w' hSw; (try dsimp only at hSw); have d0 := hSw.at 0 rfl; have d1 := hSw.at 1 rfl; go_simp; try with_reducible rfl
  try simp only [Act.put, List.setIfInBounds_toArray, List.set_cons_zero, List.set_cons_succ]
  refine take_one 1 30 (v := ?_) rfl rfl (by kernel_rfl) (by kernel_rfl) (by kernel_rfl) (fun _ _ _ h => h) (Or.inl ⟨by rfl, ?_⟩) hHeld ?_
  rotate_left
  · intro w' hSw; (try dsimp only at hSw); have d0 := hSw.at 0 rfl; have d1 := hSw.at 1 rfl; go_simp; try with_reducible rfl
  try simp only [Act.put, List.setIfInBounds_toArray, List.set_cons_zero, List.set_cons_succ]
  refine take_one 2 31 (v := ?_) rfl rfl (by kernel_rfl) (by kernel_rfl) (by kernel_rfl) (fun _ _ _ h => h) (Or.inl ⟨by rfl, ?_⟩) hHeld ?_
  rotate_left
  · intro w' hSw; (try dsimp only at hSw); have d0 := hSw.at 0 rfl; have d1 := hSw.at 1 rfl; go_simp; try with_reducible rfl
  try simp only [Act.put, List.setIfInBounds_toArray, List.set_cons_zero, List.set_cons_succ]
  refine take_one 3 32 (v := ?_) rfl rfl (by kernel_rfl) (by kernel_rfl) (by kernel_rfl) (fun _ _ _ h => h) (Or.inl ⟨by rfl, ?_⟩) hHeld ?_
  rotate_left
  · intro w' hSw; (try dsimp only at hSw); have d0 := hSw.at 0 rfl; have d1 := hSw.at 1 rfl; go_simp; try with_reducible rfl
  try simp only [Act.put, List.setIfInBounds_toArray, List.set_cons_zero, List.set_cons_succ]
  refine take_one 4 33 (v := ?_) rfl rfl (by kernel_rfl) (by kernel_rfl) (by kernel_rfl) (fun _ _ _ h => h) (Or.inl ⟨by rfl, ?_⟩) hHeld ?_
  rotate_left
  · intro w' hSw; (try dsimp only at hSw); have d0 := hSw.at 0 rfl; have d1 := hSw.at 1 rfl; go_simp; try with_reducible rfl
  try simp only [Act.put, List.setIfInBounds_toArray, List.set_cons_zero, List.set_cons_succ]
  refine take_one 5 34 (v := ?_) rfl rfl (by kernel_rfl) (by kernel_rfl) (by kernel_rfl) (fun _ _ _ h => h) (Or.inl ⟨by rfl, ?_⟩) hHeld ?_
  rotate_left
  · intro w' hSw; (try dsimp only at hSw); have d0 := hSw.at 0 rfl; have d1 := hSw.at 1 rfl; go_simp; try with_reducible rfl
  try simp only [Act.put, List.setIfInBounds_toArray, List.set_cons_zero, List.set_cons_succ]
  refine take_one 6 35 (v := ?_) rfl rfl (by kernel_rfl) (by kernel_rfl) (by kernel_rfl) (fun _ _ _ h => h) (Or.inl ⟨by rfl, ?_⟩) hHeld ?_
  rotate_left
  · intro w' hSw; (try dsimp only at hSw); have d0 := hSw.at 0 rfl; have d1 := hSw.at 1 rfl; go_simp; try with_reducible rfl
  try simp only [Act.put, List.setIfInBounds_toArray, List.set_cons_zero, List.set_cons_succ]
  refine take_one 7 36 (v := ?_) rfl rfl (by kernel_rfl) (by kernel_rfl) (by kernel_rfl) (fun _ _ _ h => h) (Or.inl ⟨by rfl, ?_⟩) hHeld ?_
  rotate_left
  · intro w' hSw; (try dsimp only at hSw); have d0 := hSw.at 0 rfl; have d1 := hSw.at 1 rfl; go_simp; try with_reducible rfl
  try simp only [Act.put, List.setIfInBounds_toArray, List.set_cons_zero, List.set_cons_succ]
  refine take_one 8 37 (v := ?_) rfl rfl (by kernel_rfl) (by kernel_rfl) (by kernel_rfl) (fun _ _ _ h => h) (Or.inl ⟨by rfl, ?_⟩) hHeld ?_
  rotate_left
  · intro w' hSw; (try dsimp only at hSw); have d0 := hSw.at 0 rfl; have d1 := hSw.at 1 rfl; go_simp; try with_reducible rfl
  try simp only [Act.put, List.setIfInBounds_toArray, List.set_cons_zero, List.set_cons_succ]
  refine take_one 9 38 (v := ?_) rfl rfl (by kernel_rfl) (by kernel_rfl) (by kernel_rfl) (fun _ _ _ h => h) (Or.inl ⟨by rfl, ?_⟩) hHeld ?_
  rotate_left
  · intro w' hSw; (try dsimp only at hSw); have d0 := hSw.at 0 rfl; have d1 := hSw.at 1 rfl; go_simp; try with_reducible rfl
  try simp only [Act.put, List.setIfInBounds_toArray, List.set_cons_zero, List.set_cons_succ]
  refine take_one 10 39 (v := ?_) rfl rfl (by kernel_rfl) (by kernel_rfl) (by kernel_rfl) (fun _ _ _ h => h) (Or.inl ⟨by rfl, ?_⟩) hHeld ?_
  rotate_left
  · intro w' hSw; (try dsimp only at hSw); have d0 := hSw.at 0 rfl; have d1 := hSw.at 1 rfl; go_simp; try with_reducible rfl
  try simp only [Act.put, List.setIfInBounds_toArray, List.set_cons_zero, List.set_cons_succ]
  refine take_one 11 40 (v := ?_) rfl rfl (by kernel_rfl) (by kernel_rfl) (by kernel_rfl) (fun _ _ _ h => h) (Or.inl ⟨by rfl, ?_⟩) hHeld ?_
  rotate_left
  · intro w' hSw; (try dsimp only at hSw); have d0 := hSw.at 0 rfl; have d1 := hSw.at 1 rfl; go_simp; try with_reducible rfl
  try simp only [Act.put, List.setIfInBounds_toArray, List.set_cons_zero, List.set_cons_succ]
  refine wpAnyH_ready (rs := [12]) (by kernel_rfl) (by simp) ?_
  refine AllReadyH.cons (i := 12) rfl (fun K hK => ?_) AllReadyH.nil
  go_simp
  refine hK.out _ _ Q6 (fun hHeld2 => ?_)
  clear hK K hHeld
  have hHeld := hHeld2
  clear hHeld2
  try simp only [Act.put, List.setIfInBounds_toArray, List.set_cons_zero, List.set_cons_succ]
  refine take_one 13 41 (v := ?_) rfl rfl (by kernel_rfl) (by kernel_rfl) (by kernel_rfl) (fun _ _ _ h => h) (Or.inl ⟨by rfl, ?_⟩) hHeld ?_
  rotate_left
  · intro w' hSw; (try dsimp only at hSw); have d0 := hSw.at 0 rfl; have d1 := hSw.at 1 rfl; go_simp; try with_reducible rfl
  try simp only [Act.put, List.setIfInBounds_toArray, List.set_cons_zero, List.set_cons_succ]
  refine take_one 14 42 (v := ?_) rfl rfl (by kernel_rfl) (by kernel_rfl) (by kernel_rfl) (fun _ _ _ h => h) (Or.inl ⟨by rfl, ?_⟩) hHeld ?_
  rotate_left
  · intro w' hSw; (try dsimp only at hSw); have d0 := hSw.at 0 rfl; have d1 := hSw.at 1 rfl; go_simp; try with_reducible rfl
  try simp only [Act.put, List.setIfInBounds_toArray, List.set_cons_zero, List.set_cons_succ]
  refine take_one 15 43 (v := ?_) rfl rfl (by kernel_rfl) (by kernel_rfl) (by kernel_rfl) (fun _ _ _ h => h) (Or.inl ⟨by rfl, ?_⟩) hHeld ?_
  rotate_left
  · intro w' hSw; (try dsimp only at hSw); have d0 := hSw.at 0 rfl; have d1 := hSw.at 1 rfl; go_simp; try with_reducible rfl
  try simp only [Act.put, List.setIfInBounds_toArray, List.set_cons_zero, List.set_cons_succ]
  refine take_one 16 44 (v := ?_) rfl rfl (by kernel_rfl) (by kernel_rfl) (by kernel_rfl) (fun _ _ _ h => h) (Or.inl ⟨by rfl, ?_⟩) hHeld ?_
  rotate_left
  · intro w' hSw; (try dsimp only at hSw); have d0 := hSw.at 0 rfl; have d1 := hSw.at 1 rfl; go_simp; try with_reducible rfl
  try simp only [Act.put, List.setIfInBounds_toArray, List.set_cons_zero, List.set_cons_succ]
  refine wpAnyH_ready (rs := [17]) (by kernel_rfl) (by simp) ?_
  refine AllReadyH.cons (i := 17) rfl (fun K hK => ?_) AllReadyH.nil
  go_simp
  refine hK.out _ _ Q7 (fun hHeld2 => ?_)
  clear hK K hHeld
  have hHeld := hHeld2
  clear hHeld2
  try simp only [Act.put, List.setIfInBounds_toArray, List.set_cons_zero, List.set_cons_succ]
  refine wpAnyH_done (by kernel_rfl) ?_ _
  try rw [hV6]
  try rw [hV7]
  clear hHeld k1 f1 k2 f2 hV6 hV7 T5 T6 Q5 Q6 Q7 X5 X6 B5 B6 hp5 hp6 hlt5 hlt6
  have q0 := X7.at 2 rfl
  go_wp2_with fail
  refine (HR _).mono ?_
  rintro en w8 ⟨rfl, hb8⟩
  have T8 := T7.later hb8 hp7
  have B8 : Below p w w8 := B7.trans (hb8.mono (Nat.le_of_lt hp7))
  clear T7 X7 B7 hb8 hp7 hlt7 q0
  have F := show Hid _ from (show Blk p [.int .i64 kv, .int .i64 sv, .int .i64 n, .int .i64 ra, .int .i64 rb, .int .i64 rc, .int .i64 key] ((((w8).setCell ⟨p, 3, none⟩ (.int .i64 ra)).setCell ⟨p, 4, none⟩ (.int .i64 rb)).setCell ⟨p, 5, none⟩ (.int .i64 rc)) ∧ Below p w ((((w8).setCell ⟨p, 3, none⟩ (.int .i64 ra)).setCell ⟨p, 4, none⟩ (.int .i64 rb)).setCell ⟨p, 5, none⟩ (.int .i64 rc)) from
    ⟨((T8.set 3 (.int .i64 ra)).set 4 (.int .i64 rb)).set 5 (.int .i64 rc), (((B8.setCell (by dsimp only; omega) _).setCell (by dsimp only; omega) _).setCell (by dsimp only; omega) _)⟩)
  have k3 := T8.at 3 rfl
  have f3 := T8.fz 3 rfl
  have k4 := T8.at 4 rfl
  have f4 := T8.fz 4 rfl
  have k5 := T8.at 5 rfl
  have f5 := T8.fz 5 rfl
  clear T8 B8
  go_wp2
  first | exact ⟨_, results_none rfl _ _ _, rfl, F.out⟩ | exact ⟨rfl, _, results_none rfl _ _ _, rfl, F.out⟩
end Go.Proofs.Ytbbaddcldoflfaa
