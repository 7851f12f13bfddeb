/- What the law on rests draws: what is asked of one. -/
import Derived.Test.YthhodbpliaiglaaRestTwo
set_option linter.unusedVariables false
namespace Go.Proofs.Ythhodbpliaiglaa.Draw
open Go Go.RowKit

set_option maxRecDepth 100000 in
set_option maxHeartbeats 3200000 in
theorem drawPermits (a : Option Addr) (len cap : Nat) (zs : List Int) (W : World) (hz : CodeAt W W.heap.size a len zs) :
    Calls Try.prog 15 #[.slice a len cap] W fun e w' => ∃ x y z s o n : Int, e = .returned (.tuple #[rv x y z, .int .i64 s, .int .i64 o, .int .i64 n]) ∧ Below W.heap.size W w' := by
  obtain ⟨W2, hW2⟩ : ∃ W2, W.alloc (.cells #[.int .i64 0, .int .i64 0, .int .i64 0] 25) = W2 := ⟨_, rfl⟩
  have hb2 : Below W.heap.size W W2 := by rw [← hW2]; exact (Below.refl _ _).alloc (Nat.le_refl _) _
  have ZZ : W2.heap.size = W.heap.size + 1 := by rw [← hW2]; simp
  have a2 : B3 W.heap.size 0 0 0 W2 := by rw [← hW2]; exact B3.new _ _ _ _ _
  have hz2 : CodeAt W2 W2.heap.size a len zs := (hz.below hb2).lt hb2.size
  have HZ : Hid (W2.heap.size = W.heap.size + 1) := ZZ
  have HC : Hid (CodeAt W2 W2.heap.size a len zs) := hz2
  clear ZZ hz2 hz
  go_enter Try.func15, Try.ntmps15
  go_wp2_with fail
  try rw [hW2]
  refine (new_go a len cap zs W2 HC.out).mono ?_
  clear hW2
  rintro e w3 ⟨rfl, cur, hb3, Z3⟩
  have D3 : Dr w3 W2.heap.size a len cap zs (newS zs len) := ⟨cur, HC.out.below hb3, Nat.zero_le _⟩
  have C3 := Cu.start D3
  have a3 := a2.below hb3 (by have := HZ.out; omega)
  have hb03 := hb2.trans (hb3.mono hb2.size)
  have AS : W.heap.size < W2.heap.size := by have := HZ.out; omega
  clear cur D3 hb3 a2 HC hb2 HZ
  go_wp2_with fail
  refine (anyW C3).mono ?_
  rintro e w4 ⟨x, y, z, rfl, c4⟩
  have a4 := a3.low c4 (Nat.lt_trans AS Z3) AS
  have PL : W2.heap.size < w3.heap.size := Z3
  have LE4 : w3.heap.size ≤ w4.heap.size := c4.size
  obtain ⟨W5, hW5⟩ : ∃ W5, w4.alloc (.cells #[.int .i64 x, .int .i64 y, .int .i64 z] 25) = W5 := ⟨_, rfl⟩
  have C5 : Cu W2.heap.size a len cap zs w3 W5 := by rw [← hW5]; exact c4.alloc _
  have a5 : B3 W.heap.size 0 0 0 W5 := by rw [← hW5]; exact a4.alloc (by omega) _
  have d5 : B3 w4.heap.size x y z W5 := by rw [← hW5]; exact B3.new _ _ _ _ _
  have Z5 : w4.heap.size < W5.heap.size := by rw [← hW5]; simp
  have PL4 : W2.heap.size < w4.heap.size := by omega
  clear a3 a4 C3 c4
  go_wp2_with fail
  try rw [hW5]
  refine (belowW 5 C5.here (by omega) (by omega)).mono ?_
  clear hW5
  rintro e w6 ⟨s, rfl, s0, s5, c6⟩
  have C6 := C5.next c6
  have a6 := a5.low c6 (Nat.lt_trans AS (Nat.lt_trans PL4 Z5)) AS
  have d6 := d5.cu c6 Z5 PL4
  have Z6 : w4.heap.size < w6.heap.size := Nat.lt_of_lt_of_le Z5 c6.size
  clear C5 a5 d5 Z5 c6
  go_wp2_with fail
  refine (belowW 10 C6.here (by omega) (by omega)).mono ?_
  rintro e w7 ⟨o, rfl, o0, o9, c7⟩
  have C7 := C6.next c7
  have a7 := a6.low c7 (Nat.lt_trans AS (Nat.lt_trans PL4 Z6)) AS
  have d7 := d6.cu c7 Z6 PL4
  have Z7 : w4.heap.size < w7.heap.size := Nat.lt_of_lt_of_le Z6 c7.size
  clear C6 a6 d6 Z6 c7
  go_wp2_with fail
  refine wp_region_held_drew (S := (fun V => V.cell? ⟨w4.heap.size, 0, none⟩ = some (.int .i64 x) ∧ V.cell? ⟨w4.heap.size, 1, none⟩ = some (.int .i64 y) ∧ V.cell? ⟨w4.heap.size, 2, none⟩ = some (.int .i64 z))) (by kernel_rfl) ⟨d7.drew.c0, d7.drew.c1, d7.drew.c2⟩ (fun hHeld => ?_)
  refine take_one 0 20 (v := ?_) rfl rfl (by kernel_rfl) (by kernel_rfl) (by kernel_rfl) (fun _ _ _ h => h) (Or.inl ⟨by rfl, ?_⟩) hHeld ?_
  rotate_left
  · intro w' hSw; (try dsimp only at hSw); go_simp; try with_reducible rfl
  try simp only [Act.put, List.setIfInBounds_toArray, List.set_cons_zero, List.set_cons_succ]
  refine take_one 1 21 (v := ?_) rfl rfl (by kernel_rfl) (by kernel_rfl) (by kernel_rfl) (fun _ _ _ h => h) (Or.inl ⟨by rfl, ?_⟩) hHeld ?_
  rotate_left
  · intro w' hSw; (try dsimp only at hSw); go_simp; try with_reducible rfl
  try simp only [Act.put, List.setIfInBounds_toArray, List.set_cons_zero, List.set_cons_succ]
  refine take_one 2 22 (v := ?_) rfl rfl (by kernel_rfl) (by kernel_rfl) (by kernel_rfl) (fun _ _ _ h => h) (Or.inl ⟨by rfl, ?_⟩) hHeld ?_
  rotate_left
  · intro w' hSw; (try dsimp only at hSw); go_simp; try with_reducible rfl
  try simp only [Act.put, List.setIfInBounds_toArray, List.set_cons_zero, List.set_cons_succ]
  refine take_one 3 23 (v := ?_) rfl rfl (by kernel_rfl) (by kernel_rfl) (by kernel_rfl) (fun _ _ _ h => h) (Or.inl ⟨by rfl, ?_⟩) hHeld ?_
  rotate_left
  · intro w' hSw; (try dsimp only at hSw); go_simp; try with_reducible rfl
  try simp only [Act.put, List.setIfInBounds_toArray, List.set_cons_zero, List.set_cons_succ]
  refine wpAnyH_ready (rs := [4]) (by kernel_rfl) (by simp) ?_
  refine AllReadyH.cons (i := 4) rfl (fun K hK => ?_) AllReadyH.nil
  go_simp
  refine (belowW 100 (C7.here.drew.here) (by omega) (by omega)).mono ?_
  rintro e w8 ⟨n, rfl, n0, n9, c8⟩
  have c78 := Cu.next C7.here.drew c8
  have d8 := d7.cu c78 Z7 PL4
  have a8 := a7.low c78 (Nat.lt_trans AS (Nat.lt_trans PL4 Z7)) AS
  have C8 := C7.next c78
  have wn : IntKind.i64.wrap (n - 2) = n - 2 := by rw [IntKind.wrap_i64]; omega
  go_wp2_with fail
  refine hK.out _ _ ⟨d8.c0, d8.c1, d8.c2⟩ (fun hHeld2 => ?_)
  clear hK K hHeld
  have hHeld := hHeld2
  clear hHeld2
  try simp only [Act.put, List.setIfInBounds_toArray, List.set_cons_zero, List.set_cons_succ]
  refine take_one 5 25 (v := ?_) rfl rfl (by kernel_rfl) (by kernel_rfl) (by kernel_rfl) (fun _ _ _ h => h) (Or.inl ⟨by rfl, ?_⟩) hHeld ?_
  rotate_left
  · intro w' hSw; (try dsimp only at hSw); go_simp; try with_reducible rfl
  try simp only [Act.put, List.setIfInBounds_toArray, List.set_cons_zero, List.set_cons_succ]
  have GG : Draw.B3 w4.heap.size x y z (set3 w8 W.heap.size (.int .i64 x) (.int .i64 y) (.int .i64 z)) := d8.far (Nat.ne_of_lt (Nat.lt_trans AS PL4)) _ _ _
  have GA : Draw.B3 W.heap.size x y z (set3 w8 W.heap.size (.int .i64 x) (.int .i64 y) (.int .i64 z)) := a8.put3 x y z
  obtain ⟨k0, k1, k2, k3, k4, k5⟩ := a8
  refine wpAnyH_ready (rs := [6]) (by kernel_rfl) (by simp) ?_
  refine AllReadyH.cons (i := 6) rfl (fun K hK => ?_) AllReadyH.nil
  go_simp
  refine hK.out _ _ ⟨GG.c0, GG.c1, GG.c2⟩ (fun hHeld2 => ?_)
  clear hK K hHeld
  have hHeld := hHeld2
  clear hHeld2
  try simp only [Act.put, List.setIfInBounds_toArray, List.set_cons_zero, List.set_cons_succ]
  refine take_one 7 3 (v := ?_) rfl rfl (by kernel_rfl) (by kernel_rfl) (by kernel_rfl) (fun _ _ _ h => h) (Or.inl ⟨by rfl, ?_⟩) hHeld ?_
  rotate_left
  · intro w' hSw; (try dsimp only at hSw); go_simp; try with_reducible rfl
  try simp only [Act.put, List.setIfInBounds_toArray, List.set_cons_zero, List.set_cons_succ]
  refine take_one 8 4 (v := ?_) rfl rfl (by kernel_rfl) (by kernel_rfl) (by kernel_rfl) (fun _ _ _ h => h) (Or.inl ⟨by rfl, ?_⟩) hHeld ?_
  rotate_left
  · intro w' hSw; (try dsimp only at hSw); go_simp; try with_reducible rfl
  try simp only [Act.put, List.setIfInBounds_toArray, List.set_cons_zero, List.set_cons_succ]
  refine take_one 9 5 (v := ?_) rfl rfl (by kernel_rfl) (by kernel_rfl) (by kernel_rfl) (fun _ _ _ h => h) (Or.inl ⟨by rfl, ?_⟩) hHeld ?_
  rotate_left
  · intro w' hSw; (try dsimp only at hSw); go_simp; try with_reducible rfl
  try simp only [Act.put, List.setIfInBounds_toArray, List.set_cons_zero, List.set_cons_succ]
  refine wpAnyH_done (by kernel_rfl) ?_ _
  have hbE := set3_below (hb03.trans (C8.2.below (B := W.heap.size) (Nat.le_of_lt AS) PL)) (Nat.le_refl _) (.int .i64 x) (.int .i64 y) (.int .i64 z)
  clear hHeld k0 k1 k2 k3 k4 k5
  go_wp2
  exact bodyPost_ret (res_3iii rfl _ _ W.heap.size _ _ _ (.int .i64 (s - 1)) (.int .i64 (o - 1)) (.int .i64 (n - 2)) rfl rfl rfl rfl GA.c0 GA.c1 GA.c2) rfl ⟨x, y, z, s - 1, o - 1, n - 2, rfl, hbE⟩
end Go.Proofs.Ythhodbpliaiglaa.Draw
