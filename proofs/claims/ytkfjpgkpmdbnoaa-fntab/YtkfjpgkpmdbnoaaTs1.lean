/- ShowTab of the model. -/
import Derived.Test.YtkfjpgkpmdbnoaaTb1
import Derived.Test.YtkfjpgkpmdbnoaaTd0
import Derived.Test.YtkfjpgkpmdbnoaaTs0
import Derived.Test.YtkfjpgkpmdbnoaaReg
import Derived.Deep.RegionHeld3
import Derived.RangeFuncNested
import Derived.Deep.SlicePairs
import Derived.Lib.SmallJoins
set_option linter.unusedVariables false
set_option maxRecDepth 100000
namespace Go.Proofs.Ytkfjpgkpmdbnoaa
open Go Go.RowKit Go.Joins Own Draw Go.Proofs.Ytkfjpgkpmdbnoaa.Var

set_option maxRecDepth 100000 in
set_option maxHeartbeats 6400000 in
theorem specShow_is (a : Option Addr) (cap : Nat) (xs : List TS) (w : World) (hr : FRow 3 cS w a xs) (hl : xs.length ≤ 1048576) :
    Calls Try.prog 26 #[.slice a xs.length cap] w fun e w' => e = .returned (.string (shT xs)) ∧ Below w.heap.size w w' := by
  have K0 := specTab_is a cap xs w hr hl
  have HD : Hid (shT xs = if tabB xs = true then shS (varOf (xs.length : Int)) xs else ⟨#[]⟩) := (rfl : shT xs = _)
  generalize shT xs = ans at HD ⊢
  go_enter Try.func26, Try.ntmps26
  by_cases hok : tabB xs = true
  rotate_left
  · have HD2 : Hid (ans = ⟨#[]⟩) := by show _ = _; rw [HD.out, if_neg hok]
    rw [Bool.not_eq_true] at hok
    rw [hok] at K0
    clear HD hr
    go_wp2_with fail
    refine K0.mono ?_
    clear K0
    rintro en W1 ⟨rfl, BC⟩
    go_wp2
    go_ret
    exact ⟨by rw [HD2.out]; rfl, BC⟩
  have HD2 : Hid (ans = shS (varOf (xs.length : Int)) xs) := by show _ = _; rw [HD.out, if_pos hok]
  have hl20 := tab_len hok
  rw [hok] at K0
  clear HD hok
  have hv0 := varOf_size (xs.length : Int)
  go_wp2_with fail
  refine K0.mono ?_
  clear K0
  rintro en W1 ⟨rfl, BC⟩
  go_wp2_with fail
  refine (spec_var (xs.length : Int) W1).mono ?_
  rintro en W2 ⟨rfl, hb⟩
  replace BC := BC.trans (hb.mono BC.size)
  clear hb
  generalize varOf (xs.length : Int) = s0 at hv0 HD2
  go_wp2
  go_loopw [3, 4] (fun sv iv wr => ∃ j : Nat, j ≤ xs.length ∧ iv = .int .i64 j ∧ sv = .string (shS s0 (xs.take j)) ∧ Below w.heap.size w wr) (fun _ iv _ => xs.length - (intOf iv).toNat)
  case atStart => exact ⟨0, Nat.zero_le _, rfl, rfl, BC⟩
  case round =>
    clear BC
    obtain ⟨j, hj, rfl, rfl, BC⟩ := hrel
    obtain ⟨wo, hwo⟩ : ∃ wo, wo = wr := ⟨_, rfl⟩
    subst hwo
    by_cases hlt : j < xs.length
    · obtain ⟨b, off, rfl, hb0, hc⟩ := hr j hlt
      have hlt2 : (j : Int) < (xs.length : Int) := by omega
      have HS : Hid (shS s0 (xs.take (j + 1)) = shS s0 (xs.take j) ++ shH xs[j]) := shS_step hlt s0
      have hsz : (shS s0 (xs.take j)).size ≤ 5000 := by
        have h_ := shS_size (xs.take j) s0
        have h2_ : (xs.take j).length ≤ 20 := by rw [List.length_take]; omega
        omega
      have c0 : wo.cell? ⟨b, off + j * 3, none⟩ = some (.int .i64 xs[j].1) := (BC.cell (p := ⟨b, off + j * 3, none⟩) hb0).trans (hc 0 _ rfl)
      have c1 : wo.cell? ⟨b, off + j * 3 + 1, none⟩ = some (.int .i64 xs[j].2.1) := (BC.cell (p := ⟨b, off + j * 3 + 1, none⟩) hb0).trans (hc 1 _ rfl)
      have c2 : wo.cell? ⟨b, off + j * 3 + 2, none⟩ = some (.int .i64 xs[j].2.2) := (BC.cell (p := ⟨b, off + j * 3 + 2, none⟩) hb0).trans (hc 2 _ rfl)
      have HNX : Hid (∀ W : World, Below w.heap.size w W → ∃ j' : Nat, j' ≤ xs.length ∧ Value.int .i64 ((j : Int) + 1) = .int .i64 j' ∧ Value.string (shS s0 (xs.take j) ++ shH xs[j]) = .string (shS s0 (xs.take j')) ∧ Below w.heap.size w W) := fun W hW => ⟨j + 1, by omega, by go_num, by rw [HS.out], hW⟩
      generalize xs[j] = x at HNX c0 c1 c2
      generalize shS s0 (xs.take j) = st at HNX hsz
      have HH : Hid (st ++ shH x = st ++ varOf x.1 ++ varOf x.2.1 ++ varOf x.2.2) := (ba_assoc4 _ _ _ _).symm
      have q1 := varOf_size x.1
      have q2 := varOf_size x.2.1
      have q3 := varOf_size x.2.2
      have z1 : ¬ 9223372036854775807 < st.size + (varOf x.1).size := by omega
      have z2 : ¬ 9223372036854775807 < st.size + (varOf x.1).size + (varOf x.2.1).size := by omega
      have z3 : ¬ 9223372036854775807 < st.size + (varOf x.1).size + (varOf x.2.1).size + (varOf x.2.2).size := by omega
      clear HS hc hr
      go_wp2_with fail
      replace c0 : wo.drew.cell? ⟨b, off + j * 3, none⟩ = _ := c0
      replace c1 : wo.drew.cell? ⟨b, off + j * 3 + 1, none⟩ = _ := c1
      replace c2 : wo.drew.cell? ⟨b, off + j * 3 + 2, none⟩ = _ := c2
      replace BC := BC.drew
      refine wp_region_held_drew (S := (fun Vw => Vw.cell? ⟨b, off + j * 3, none⟩ = some (.int .i64 x.1) ∧ Vw.cell? ⟨b, off + j * 3 + 1, none⟩ = some (.int .i64 x.2.1) ∧ Vw.cell? ⟨b, off + j * 3 + 2, none⟩ = some (.int .i64 x.2.2))) (by kernel_rfl) ⟨c0, c1, c2⟩ (fun hHeld => ?_)
      refine take_one 0 17 (v := ?_) rfl rfl (by kernel_rfl) (by kernel_rfl) (by kernel_rfl) (fun _ _ _ h => h) (Or.inl ⟨by rfl, ?_⟩) hHeld ?_
      rotate_left
      · intro w' hSw; (try dsimp only at hSw); obtain ⟨k0, k1, k2⟩ := hSw; go_simp; try with_reducible rfl
      try simp only [Act.put, List.setIfInBounds_toArray, List.set_cons_zero, List.set_cons_succ]
      refine take_one 1 18 (v := ?_) rfl rfl (by kernel_rfl) (by kernel_rfl) (by kernel_rfl) (fun _ _ _ h => h) (Or.inl ⟨by rfl, ?_⟩) hHeld ?_
      rotate_left
      · intro w' hSw; (try dsimp only at hSw); obtain ⟨k0, k1, k2⟩ := hSw; go_simp; try with_reducible rfl
      try simp only [Act.put, List.setIfInBounds_toArray, List.set_cons_zero, List.set_cons_succ]
      refine take_one 2 19 (v := ?_) rfl rfl (by kernel_rfl) (by kernel_rfl) (by kernel_rfl) (fun _ _ _ h => h) (Or.inl ⟨by rfl, ?_⟩) hHeld ?_
      rotate_left
      · intro w' hSw; (try dsimp only at hSw); obtain ⟨k0, k1, k2⟩ := hSw; go_simp; try with_reducible rfl
      try simp only [Act.put, List.setIfInBounds_toArray, List.set_cons_zero, List.set_cons_succ]
      refine take_one 3 20 (v := ?_) rfl rfl (by kernel_rfl) (by kernel_rfl) (by kernel_rfl) (fun _ _ _ h => h) (Or.inl ⟨by rfl, ?_⟩) hHeld ?_
      rotate_left
      · intro w' hSw; (try dsimp only at hSw); obtain ⟨k0, k1, k2⟩ := hSw; go_simp; try with_reducible rfl
      try simp only [Act.put, List.setIfInBounds_toArray, List.set_cons_zero, List.set_cons_succ]
      refine take_one 4 21 (v := ?_) rfl rfl (by kernel_rfl) (by kernel_rfl) (by kernel_rfl) (fun _ _ _ h => h) (Or.inl ⟨by rfl, ?_⟩) hHeld ?_
      rotate_left
      · intro w' hSw; (try dsimp only at hSw); obtain ⟨k0, k1, k2⟩ := hSw; go_simp; try with_reducible rfl
      try simp only [Act.put, List.setIfInBounds_toArray, List.set_cons_zero, List.set_cons_succ]
      refine take_one 5 22 (v := ?_) rfl rfl (by kernel_rfl) (by kernel_rfl) (by kernel_rfl) (fun _ _ _ h => h) (Or.inl ⟨by rfl, ?_⟩) hHeld ?_
      rotate_left
      · intro w' hSw; (try dsimp only at hSw); obtain ⟨k0, k1, k2⟩ := hSw; go_simp; try with_reducible rfl
      try simp only [Act.put, List.setIfInBounds_toArray, List.set_cons_zero, List.set_cons_succ]
      refine take_one 8 25 (v := ?_) rfl rfl (by kernel_rfl) (by kernel_rfl) (by kernel_rfl) (fun _ _ _ h => h) (Or.inl ⟨by rfl, ?_⟩) hHeld ?_
      rotate_left
      · intro w' hSw; (try dsimp only at hSw); obtain ⟨k0, k1, k2⟩ := hSw; go_simp; try with_reducible rfl
      try simp only [Act.put, List.setIfInBounds_toArray, List.set_cons_zero, List.set_cons_succ]
      refine take_one 9 26 (v := ?_) rfl rfl (by kernel_rfl) (by kernel_rfl) (by kernel_rfl) (fun _ _ _ h => h) (Or.inl ⟨by rfl, ?_⟩) hHeld ?_
      rotate_left
      · intro w' hSw; (try dsimp only at hSw); obtain ⟨k0, k1, k2⟩ := hSw; go_simp; try with_reducible rfl
      try simp only [Act.put, List.setIfInBounds_toArray, List.set_cons_zero, List.set_cons_succ]
      refine take_one 10 27 (v := ?_) rfl rfl (by kernel_rfl) (by kernel_rfl) (by kernel_rfl) (fun _ _ _ h => h) (Or.inl ⟨by rfl, ?_⟩) hHeld ?_
      rotate_left
      · intro w' hSw; (try dsimp only at hSw); obtain ⟨k0, k1, k2⟩ := hSw; go_simp; try with_reducible rfl
      try simp only [Act.put, List.setIfInBounds_toArray, List.set_cons_zero, List.set_cons_succ]
      refine take_one 11 28 (v := ?_) rfl rfl (by kernel_rfl) (by kernel_rfl) (by kernel_rfl) (fun _ _ _ h => h) (Or.inl ⟨by rfl, ?_⟩) hHeld ?_
      rotate_left
      · intro w' hSw; (try dsimp only at hSw); obtain ⟨k0, k1, k2⟩ := hSw; go_simp; try with_reducible rfl
      try simp only [Act.put, List.setIfInBounds_toArray, List.set_cons_zero, List.set_cons_succ]
      refine take_one 12 29 (v := ?_) rfl rfl (by kernel_rfl) (by kernel_rfl) (by kernel_rfl) (fun _ _ _ h => h) (Or.inl ⟨by rfl, ?_⟩) hHeld ?_
      rotate_left
      · intro w' hSw; (try dsimp only at hSw); obtain ⟨k0, k1, k2⟩ := hSw; go_simp; try with_reducible rfl
      try simp only [Act.put, List.setIfInBounds_toArray, List.set_cons_zero, List.set_cons_succ]
      refine take_one 15 32 (v := ?_) rfl rfl (by kernel_rfl) (by kernel_rfl) (by kernel_rfl) (fun _ _ _ h => h) (Or.inl ⟨by rfl, ?_⟩) hHeld ?_
      rotate_left
      · intro w' hSw; (try dsimp only at hSw); obtain ⟨k0, k1, k2⟩ := hSw; go_simp; try with_reducible rfl
      try simp only [Act.put, List.setIfInBounds_toArray, List.set_cons_zero, List.set_cons_succ]
      refine take_one 16 33 (v := ?_) rfl rfl (by kernel_rfl) (by kernel_rfl) (by kernel_rfl) (fun _ _ _ h => h) (Or.inl ⟨by rfl, ?_⟩) hHeld ?_
      rotate_left
      · intro w' hSw; (try dsimp only at hSw); obtain ⟨k0, k1, k2⟩ := hSw; go_simp; try with_reducible rfl
      try simp only [Act.put, List.setIfInBounds_toArray, List.set_cons_zero, List.set_cons_succ]
      refine take_one 17 34 (v := ?_) rfl rfl (by kernel_rfl) (by kernel_rfl) (by kernel_rfl) (fun _ _ _ h => h) (Or.inl ⟨by rfl, ?_⟩) hHeld ?_
      rotate_left
      · intro w' hSw; (try dsimp only at hSw); obtain ⟨k0, k1, k2⟩ := hSw; go_simp; try with_reducible rfl
      try simp only [Act.put, List.setIfInBounds_toArray, List.set_cons_zero, List.set_cons_succ]
      refine take_one 18 35 (v := ?_) rfl rfl (by kernel_rfl) (by kernel_rfl) (by kernel_rfl) (fun _ _ _ h => h) (Or.inl ⟨by rfl, ?_⟩) hHeld ?_
      rotate_left
      · intro w' hSw; (try dsimp only at hSw); obtain ⟨k0, k1, k2⟩ := hSw; go_simp; try with_reducible rfl
      try simp only [Act.put, List.setIfInBounds_toArray, List.set_cons_zero, List.set_cons_succ]
      refine take_one 19 36 (v := ?_) rfl rfl (by kernel_rfl) (by kernel_rfl) (by kernel_rfl) (fun _ _ _ h => h) (Or.inl ⟨by rfl, ?_⟩) hHeld ?_
      rotate_left
      · intro w' hSw; (try dsimp only at hSw); obtain ⟨k0, k1, k2⟩ := hSw; go_simp; try with_reducible rfl
      try simp only [Act.put, List.setIfInBounds_toArray, List.set_cons_zero, List.set_cons_succ]
      refine wpAnyH_ready (rs := [6]) (by kernel_rfl) (by simp) ?_
      refine AllReadyH.cons (i := 6) rfl (fun K hK => ?_) AllReadyH.nil
      go_simp
      refine (spec_var x.1 _).mono ?_
      rintro en v1 ⟨rfl, hb⟩
      replace c0 := (hb.cell (p := ⟨b, off + j * 3, none⟩) (Nat.lt_of_lt_of_le hb0 BC.size)).trans c0
      replace c1 := (hb.cell (p := ⟨b, off + j * 3 + 1, none⟩) (Nat.lt_of_lt_of_le hb0 BC.size)).trans c1
      replace c2 := (hb.cell (p := ⟨b, off + j * 3 + 2, none⟩) (Nat.lt_of_lt_of_le hb0 BC.size)).trans c2
      replace BC := BC.trans (hb.mono BC.size)
      clear hb
      go_wp2_with fail
      refine hK.out _ _ ⟨c0, c1, c2⟩ (fun hHeld2 => ?_)
      clear hK K hHeld
      have hHeld := hHeld2
      clear hHeld2
      try simp only [Act.put, List.setIfInBounds_toArray, List.set_cons_zero, List.set_cons_succ]
      refine take_one 7 24 (v := ?_) rfl rfl (by kernel_rfl) (by kernel_rfl) (by kernel_rfl) (fun _ _ _ h => h) (Or.inl ⟨by rfl, ?_⟩) hHeld ?_
      rotate_left
      · intro w' hSw; (try dsimp only at hSw); obtain ⟨k0, k1, k2⟩ := hSw; go_simp; try with_reducible rfl
      try simp only [Act.put, List.setIfInBounds_toArray, List.set_cons_zero, List.set_cons_succ]
      refine wpAnyH_ready (rs := [13]) (by kernel_rfl) (by simp) ?_
      refine AllReadyH.cons (i := 13) rfl (fun K hK => ?_) AllReadyH.nil
      go_simp
      refine (spec_var x.2.1 _).mono ?_
      rintro en v2 ⟨rfl, hb⟩
      replace c0 := (hb.cell (p := ⟨b, off + j * 3, none⟩) (Nat.lt_of_lt_of_le hb0 BC.size)).trans c0
      replace c1 := (hb.cell (p := ⟨b, off + j * 3 + 1, none⟩) (Nat.lt_of_lt_of_le hb0 BC.size)).trans c1
      replace c2 := (hb.cell (p := ⟨b, off + j * 3 + 2, none⟩) (Nat.lt_of_lt_of_le hb0 BC.size)).trans c2
      replace BC := BC.trans (hb.mono BC.size)
      clear hb
      go_wp2_with fail
      refine hK.out _ _ ⟨c0, c1, c2⟩ (fun hHeld2 => ?_)
      clear hK K hHeld
      have hHeld := hHeld2
      clear hHeld2
      try simp only [Act.put, List.setIfInBounds_toArray, List.set_cons_zero, List.set_cons_succ]
      refine take_one 14 31 (v := ?_) rfl rfl (by kernel_rfl) (by kernel_rfl) (by kernel_rfl) (fun _ _ _ h => h) (Or.inl ⟨by rfl, ?_⟩) hHeld ?_
      rotate_left
      · intro w' hSw; (try dsimp only at hSw); obtain ⟨k0, k1, k2⟩ := hSw; go_simp; try with_reducible rfl
      try simp only [Act.put, List.setIfInBounds_toArray, List.set_cons_zero, List.set_cons_succ]
      refine wpAnyH_ready (rs := [20]) (by kernel_rfl) (by simp) ?_
      refine AllReadyH.cons (i := 20) rfl (fun K hK => ?_) AllReadyH.nil
      go_simp
      refine (spec_var x.2.2 _).mono ?_
      rintro en v3 ⟨rfl, hb⟩
      replace c0 := (hb.cell (p := ⟨b, off + j * 3, none⟩) (Nat.lt_of_lt_of_le hb0 BC.size)).trans c0
      replace c1 := (hb.cell (p := ⟨b, off + j * 3 + 1, none⟩) (Nat.lt_of_lt_of_le hb0 BC.size)).trans c1
      replace c2 := (hb.cell (p := ⟨b, off + j * 3 + 2, none⟩) (Nat.lt_of_lt_of_le hb0 BC.size)).trans c2
      replace BC := BC.trans (hb.mono BC.size)
      clear hb
      go_wp2_with fail
      refine hK.out _ _ ⟨c0, c1, c2⟩ (fun hHeld2 => ?_)
      clear hK K hHeld
      have hHeld := hHeld2
      clear hHeld2
      try simp only [Act.put, List.setIfInBounds_toArray, List.set_cons_zero, List.set_cons_succ]
      refine take_one 21 38 (v := ?_) rfl rfl (by kernel_rfl) (by kernel_rfl) (by kernel_rfl) (fun _ _ _ h => h) (Or.inl ⟨by rfl, ?_⟩) hHeld ?_
      rotate_left
      · intro w' hSw; (try dsimp only at hSw); obtain ⟨k0, k1, k2⟩ := hSw; go_simp; try with_reducible rfl
      try simp only [Act.put, List.setIfInBounds_toArray, List.set_cons_zero, List.set_cons_succ]
      refine take_one 22 3 (v := ?_) rfl rfl (by kernel_rfl) (by kernel_rfl) (by kernel_rfl) (fun _ _ _ h => h) (Or.inl ⟨by rfl, ?_⟩) hHeld ?_
      rotate_left
      · intro w' hSw; (try dsimp only at hSw); obtain ⟨k0, k1, k2⟩ := hSw; go_simp; try with_reducible rfl
      try simp only [Act.put, List.setIfInBounds_toArray, List.set_cons_zero, List.set_cons_succ]
      refine wpAnyH_done (by kernel_rfl) ?_ _
      rw [← HH.out]
      have HR := HNX.out _ BC
      clear HNX HH z1 z2 z3 q1 q2 q3
      go_wp2
      go_roundw
      case rel => exact HR
      case measure => simp [intOf]; omega
    · obtain rfl : j = xs.length := by omega
      have hlt2 : ¬ ((xs.length : Int) < (xs.length : Int)) := by omega
      have HV : Hid (ans = shS s0 (xs.take xs.length)) := by show _ = _; rw [List.take_length]; exact HD2.out
      clear hr
      go_wp2
      go_ret
      exact ⟨by rw [HD2.out]; rfl, BC⟩
end Go.Proofs.Ytkfjpgkpmdbnoaa
