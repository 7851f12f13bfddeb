/- The law on Caches: what was taken is not taken again. -/
import Derived.Test.YtmiceknaipimiaaDrawT
set_option linter.unusedVariables false
namespace Go.Proofs.Ytmiceknaipimiaa
open Go Go.RowKit Go.Joins Own Draw

/-! What is tried, plainly. -/
theorem tk_zero {q : Int} {xs : List A3} {x y z n k : Int} (h : tkV q xs x y z n k = 0) : cOk q xs = true ∧ cdV q xs x y z n k = 0 ∧ (stay n k xs).length < 6 := by
  unfold tkV at h
  by_cases hc : cOk q xs = true
  · rw [if_pos hc] at h
    by_cases hd : cdV q xs x y z n k = 0
    · rw [if_pos hd] at h
      by_cases hf : (stay n k xs).length < 6
      · exact ⟨hc, hd, hf⟩
      · rw [if_neg hf] at h; cases h
    · rw [if_neg hd] at h; exact absurd h hd
  · rw [if_neg hc] at h; cases h
theorem cd_zero {q : Int} {xs : List A3} {x y z n k : Int} (h : cdV q xs x y z n k = 0) : aOk x y z = true ∧ moB n k = true ∧ apV n y ≤ k ∧ q < n ∧ (x, y, z) ∉ xs := by
  unfold cdV at h
  by_cases h1 : (aOk x y z && moB n k) = true
  · rw [if_pos h1] at h
    rw [Bool.and_eq_true] at h1
    by_cases h2 : k < apV n y
    · rw [if_pos h2] at h; cases h
    · rw [if_neg h2] at h
      by_cases h3 : n ≤ q
      · rw [if_pos h3] at h; cases h
      · rw [if_neg h3] at h
        by_cases h4 : (x, y, z) ∈ xs
        · rw [if_pos h4] at h; cases h
        · exact ⟨h1.1, h1.2, by omega, by omega, h4⟩
  · rw [if_neg h1] at h; cases h
theorem try_ok {q : Int} {xs : List A3} (x y z n k : Int) (h : cOk q xs = true) : tqV q xs = q ∧ cOk q (tlV q xs x y z n k) = true := by
  refine ⟨if_pos h, ?_⟩
  unfold tlV
  rw [if_pos h]
  by_cases h0 : tkV q xs x y z n k = 0
  · rw [if_pos h0]
    obtain ⟨_, hd, hf⟩ := tk_zero h0
    obtain ⟨hA, _, _, _, hn⟩ := cd_zero hd
    obtain ⟨hq, _, hall, hnd⟩ := cOk_parts h
    have hsub : (stay n k xs).Sublist xs := List.filter_sublist
    unfold cOk snB
    rw [(btw_iff _ _ _).2 hq, decide_eq_true (show (stay n k xs ++ [(x, y, z)]).length ≤ 6 by simp; omega)]
    have e1 : allA (stay n k xs ++ [(x, y, z)]) = true := by
      unfold allA at hall ⊢
      rw [List.all_eq_true] at hall ⊢
      intro p hp
      rw [List.mem_append, List.mem_singleton] at hp
      rcases hp with hp | rfl
      · exact hall p (hsub.subset hp)
      · exact hA
    have e2 : (stay n k xs ++ [(x, y, z)]).Nodup := nodup_snoc.2 ⟨hnd.sublist hsub, fun hm => hn (hsub.subset hm)⟩
    rw [e1, decide_eq_true e2]
    rfl
  · rw [if_neg h0]; exact h
theorem try_keep {q : Int} {xs : List A3} {p : A3} (x y z n k : Int) (h : cOk q xs = true) (hp : p ∈ xs) : p ∈ tlV q xs x y z n k ∨ p.2.1 < n - k := by
  unfold tlV
  rw [if_pos h]
  by_cases h0 : tkV q xs x y z n k = 0
  · rw [if_pos h0]
    by_cases hy : n - k ≤ p.2.1
    · left
      rw [List.mem_append]
      left
      unfold stay
      rw [List.mem_filter]
      exact ⟨hp, decide_eq_true hy⟩
    · right; omega
  · rw [if_neg h0]; exact Or.inl hp
theorem try_no {q : Int} {xs : List A3} {x y z n k : Int} (h : (x, y, z) ∈ xs ∨ y < n - k) : tkV q xs x y z n k ≠ 0 := by
  intro h0
  obtain ⟨_, hd, _⟩ := tk_zero h0
  obtain ⟨_, hm, ha, _, hn⟩ := cd_zero hd
  rcases h with h | h
  · exact hn h
  · obtain ⟨_, hk, _⟩ := moB_iff.1 hm
    unfold apV at ha
    split at ha <;> omega
theorem fresh_no {xs : List A3} {x y z n k m : Int} (hy : apV n y ≤ k) : tkV (n + 2 * k) xs x y z m k ≠ 0 := by
  intro h0
  obtain ⟨_, hd, _⟩ := tk_zero h0
  obtain ⟨_, hm, ha, hq, _⟩ := cd_zero hd
  unfold apV at ha hy
  split at ha <;> split at hy <;> omega
theorem fresh_ok {n k : Int} (h : moB n k = true) : rsV n k = n + 2 * k ∧ cOk (n + 2 * k) [] = true := by
  refine ⟨if_pos h, ?_⟩
  obtain ⟨⟨h0, h1⟩, h2, h3⟩ := moB_iff.1 h
  unfold cOk
  rw [(btw_iff _ _ _).2 ⟨by omega, by omega⟩]
  rfl

theorem at_int (a : Option Addr) (len cap : Nat) (zs : List Int) (W : World) (i : Int) (h0 : 0 ≤ i) (hi : i ≤ 100) (hz : CodeAt W W.heap.size a len zs) :
    Calls Try.prog 14 #[.slice a len cap, .int .i64 i] W fun e w' => ∃ z : Int, e = .returned (.int .i64 z) ∧ 0 ≤ z ∧ z ≤ 255 ∧ W = w' := by
  obtain ⟨m, rfl⟩ : ∃ m : Nat, i = (m : Int) := ⟨i.toNat, by omega⟩
  exact at_go a len cap zs W m (by omega) hz

set_option maxRecDepth 100000 in
set_option maxHeartbeats 25600000 in
theorem cache_at (ad : Option Addr) (len cap : Nat) (zs : List Int) (W : World) (hl : len ≤ 1048576) (hz : CodeAt W W.heap.size ad len zs) :
    Calls Try.prog 3 #[.slice ad len cap] W fun e w' => e = .returned (.bool true) ∧ Below W.heap.size W w' := by
  have HX := drawT ad len cap zs W hz
  go_enter Try.func3, Try.ntmps3
  go_wp2_with fail
  refine (big_go ad len cap W hl).mono ?_
  rintro e w0 ⟨rfl, rfl⟩
  go_wp2_with fail
  refine HX.mono ?_
  clear HX
  rintro en w1 ⟨Q, g, c, xs, x, y, z, n, k, rfl, hr, hx8, hxc, b0⟩
  have PW0 : Hid (W.heap.size ≤ w1.heap.size) := b0.size
  obtain ⟨V1, hV1⟩ : ∃ V, (w1.alloc (.cells #[.int .i64 Q, .slice g xs.length c] 26)).alloc (.cells #[.int .i64 x, .int .i64 y, .int .i64 z] 28) = V := ⟨_, rfl⟩
  have hal : Below w1.heap.size w1 V1 := by rw [← hV1]; exact ((Below.refl _ _).alloc (Nat.le_refl _) _).alloc (by simp) _
  have T3 : Blk w1.heap.size [.int .i64 Q, .slice g xs.length c] V1 := by rw [← hV1]; exact (Blk.new _ _ _).alloc (by simp) _
  have T4 : Blk (w1.heap.size + 1) [.int .i64 x, .int .i64 y, .int .i64 z] V1 := by rw [← hV1]; have h := Blk.new (w1.alloc (.cells #[.int .i64 Q, .slice g xs.length c] 26)) #[.int .i64 x, .int .i64 y, .int .i64 z] 28; rw [World.size_alloc] at h; exact h
  replace hr := hr.later hal
  replace b0 := b0.trans (hal.mono b0.size)
  clear hal
  have q_T3_0 := T3.at 0 rfl
  have q_T3_1 := T3.at 1 rfl
  have q_T4_0 := T4.at 0 rfl
  have q_T4_1 := T4.at 1 rfl
  have q_T4_2 := T4.at 2 rfl
  have HX := implTry_is Q g c xs x y z n k V1 hr (by omega)
  go_wp2_with fail
  try rw [hV1]
  refine HX.mono ?_
  clear HX q_T3_0 q_T3_1 q_T4_0 q_T4_1 q_T4_2 hV1 
  rintro e w2 ⟨gx, cx, rfl, ox, hb2⟩
  replace T3 := T3.later hb2 T3.lt
  replace T4 := T4.later hb2 T4.lt
  replace hr := hr.later hb2
  replace b0 := b0.trans (hb2.mono b0.size)
  clear hb2
  have Z4 : Hid (w1.heap.size + 1 < w2.heap.size) := T4.lt
  have ux : ∀ kk, (Value.slice gx (tlV Q xs x y z n k).length cx).ownBlock = some kk → kk < w2.heap.size := fun kk hkk => (World.ownsRow.lt ox kk hkk).2
  obtain ⟨V2_T7, hV2_T7⟩ : ∃ V, w2.alloc (.cells #[.int .i64 (tqV Q xs), .slice gx (tlV Q xs x y z n k).length cx] 26) = V := ⟨_, rfl⟩
  have aV2_T7 : Below w2.heap.size w2 V2_T7 := by rw [← hV2_T7]; exact (Below.refl _ _).alloc (Nat.le_refl _) _
  have T7 : Blk w2.heap.size [.int .i64 (tqV Q xs), .slice gx (tlV Q xs x y z n k).length cx] V2_T7 := by rw [← hV2_T7]; exact Blk.new _ _ _
  replace T3 := T3.later aV2_T7 T3.lt
  replace T4 := T4.later aV2_T7 T4.lt
  replace hr := hr.later aV2_T7
  replace ox := ox.later aV2_T7
  replace b0 := b0.trans (aV2_T7.mono b0.size)
  clear aV2_T7
  have q_T3_0 := T3.at 0 rfl
  have q_T3_1 := T3.at 1 rfl
  have q_T4_0 := T4.at 0 rfl
  have q_T4_1 := T4.at 1 rfl
  have q_T4_2 := T4.at 2 rfl
  have q_T7_0 := T7.at 0 rfl
  have q_T7_1 := T7.at 1 rfl
  have HX := specTry_is Q g c xs x y z n k V2_T7 hr (by omega) hxc
  go_wp2_with fail
  try rw [hV2_T7]
  refine HX.mono ?_
  clear HX q_T3_0 q_T3_1 q_T4_0 q_T4_1 q_T4_2 q_T7_0 q_T7_1 hV2_T7 
  rintro e w3 ⟨gs, cs, rfl, os, hb3⟩
  replace T3 := T3.later hb3 T3.lt
  replace T4 := T4.later hb3 T4.lt
  replace T7 := T7.later hb3 T7.lt
  replace hr := hr.later hb3
  replace ox := ox.later hb3
  replace b0 := b0.trans (hb3.mono b0.size)
  clear hb3
  obtain ⟨V3_T9, hV3_T9⟩ : ∃ V, w3.alloc (.cells #[.int .i64 (tqV Q xs), .slice gs (tlV Q xs x y z n k).length cs] 26) = V := ⟨_, rfl⟩
  have aV3_T9 : Below w3.heap.size w3 V3_T9 := by rw [← hV3_T9]; exact (Below.refl _ _).alloc (Nat.le_refl _) _
  have T9 : Blk w3.heap.size [.int .i64 (tqV Q xs), .slice gs (tlV Q xs x y z n k).length cs] V3_T9 := by rw [← hV3_T9]; exact Blk.new _ _ _
  replace T3 := T3.later aV3_T9 T3.lt
  replace T4 := T4.later aV3_T9 T4.lt
  replace T7 := T7.later aV3_T9 T7.lt
  replace hr := hr.later aV3_T9
  replace ox := ox.later aV3_T9
  replace b0 := b0.trans (aV3_T9.mono b0.size)
  clear aV3_T9
  clear os
  have q_T3_0 := T3.at 0 rfl
  have q_T3_1 := T3.at 1 rfl
  have q_T4_0 := T4.at 0 rfl
  have q_T4_1 := T4.at 1 rfl
  have q_T4_2 := T4.at 2 rfl
  have q_T7_0 := T7.at 0 rfl
  have q_T7_1 := T7.at 1 rfl
  have q_T9_0 := T9.at 0 rfl
  have q_T9_1 := T9.at 1 rfl
  have HX := specOk_is Q g c xs V3_T9 hr (by omega) hxc
  go_wp2_with fail
  try rw [hV3_T9]
  refine HX.mono ?_
  clear HX q_T3_0 q_T3_1 q_T4_0 q_T4_1 q_T4_2 q_T7_0 q_T7_1 q_T9_0 q_T9_1 hV3_T9 
  rintro e w4 ⟨rfl, hb4⟩
  replace T3 := T3.later hb4 T3.lt
  replace T4 := T4.later hb4 T4.lt
  replace T7 := T7.later hb4 T7.lt
  replace T9 := T9.later hb4 T9.lt
  replace hr := hr.later hb4
  replace ox := ox.later hb4
  replace b0 := b0.trans (hb4.mono b0.size)
  clear hb4
  clear T9
  by_cases hc : cOk Q xs = true
  · rw [hc]
    have eq : tqV Q xs = Q := if_pos hc
    by_cases hk0 : tkV Q xs x y z n k = 0
    · rw [hk0]
      obtain ⟨_, hd, _⟩ := tk_zero hk0
      obtain ⟨hA, hmo, hap, _, _⟩ := cd_zero hd
      obtain ⟨⟨n0, n1⟩, k0, k1⟩ := moB_iff.1 hmo
      obtain ⟨gx0, gy0, gz0⟩ := aOk_iff.1 hA
      have el : tlV Q xs x y z n k = stay n k xs ++ [(x, y, z)] := by unfold tlV; rw [if_pos hc, if_pos hk0]
      have hmem : (x, y, z) ∈ tlV Q xs x y z n k := by rw [el]; simp
      have hok := (try_ok x y z n k hc).2
      obtain ⟨er, hfok⟩ := fresh_ok hmo
      have hfno : ∀ (F : List A3) (m : Int), tkV (n + 2 * k) F x y z m k ≠ 0 := fun F m => fresh_no hap
      obtain ⟨q2, hq2⟩ : ∃ q2, n + 2 * k = q2 := ⟨_, rfl⟩
      rw [hq2] at er hfok hfno
      clear hq2 hap hA el hd hk0
      simp only [eq] at T7 ⊢
      generalize tlV Q xs x y z n k = L0 at T7 ox ux hmem hok ⊢
      clear eq hr hx8 hxc T3
      have q_T4_0 := T4.at 0 rfl
      have q_T4_1 := T4.at 1 rfl
      have q_T4_2 := T4.at 2 rfl
      have q_T7_0 := T7.at 0 rfl
      have q_T7_1 := T7.at 1 rfl
      have HX := restart_is n k w4
      go_wp2_with fail
      refine HX.mono ?_
      clear HX q_T4_0 q_T4_1 q_T4_2 q_T7_0 q_T7_1
      rintro e w5 ⟨rfl, hb5⟩
      replace T4 := T4.later hb5 T4.lt
      replace T7 := T7.later hb5 T7.lt
      replace ox := ox.later hb5
      replace b0 := b0.trans (hb5.mono b0.size)
      clear hb5
      rw [er]
      clear er
      have l7 : w2.heap.size < w5.heap.size := T7.lt
      obtain ⟨V5_T11, hV5_T11⟩ : ∃ V, w5.alloc (.cells #[.int .i64 q2, .slice none 0 0] 26) = V := ⟨_, rfl⟩
      have aV5_T11 : Below w5.heap.size w5 V5_T11 := by rw [← hV5_T11]; exact (Below.refl _ _).alloc (Nat.le_refl _) _
      have T11 : Blk w5.heap.size [.int .i64 q2, .slice none 0 0] V5_T11 := by rw [← hV5_T11]; exact Blk.new _ _ _
      replace T4 := T4.later aV5_T11 T4.lt
      replace T7 := T7.later aV5_T11 T7.lt
      replace ox := ox.later aV5_T11
      replace b0 := b0.trans (aV5_T11.mono b0.size)
      clear aV5_T11
      have zs1 : V5_T11.setCell ⟨w5.heap.size, 1, none⟩ (.slice none 0 0) = V5_T11 := by rw [← hV5_T11]; simp [go_sem]
      have zf1 := T11.fz 1 rfl
      have zc1 := T11.at 1 rfl
      go_wp2
      try rw [hV5_T11]
      clear hV5_T11 zs1 zf1 zc1
      obtain ⟨p7, hp7⟩ : ∃ p7, w2.heap.size = p7 := ⟨_, rfl⟩
      obtain ⟨p11, hp11⟩ : ∃ p11, w5.heap.size = p11 := ⟨_, rfl⟩
      obtain ⟨p4, hp4⟩ : ∃ p4, w1.heap.size + 1 = p4 := ⟨_, rfl⟩
      have l4 : w1.heap.size + 1 < w2.heap.size := Z4.out
      have PW : Hid (W.heap.size ≤ p4) := by show _ ≤ _; have := PW0.out; omega
      simp only [hp7, hp11, hp4] at T4 T7 T11 ux l7 l4 ⊢
      clear hp7 hp11 hp4
      go_loopw [12] (fun i wr => ∃ (j : Nat) (gx : Option Addr) (cx : Nat) (L : List A3) (gf : Option Addr) (cf : Nat) (F : List A3), j ≤ 50 ∧ i = .int .i64 (j : Int) ∧ cOk Q L = true ∧ ((x, y, z) ∈ L ∨ y < n + (j : Int) - k) ∧ cOk q2 F = true ∧ Blk p4 [.int .i64 x, .int .i64 y, .int .i64 z] wr ∧ Blk p7 [.int .i64 Q, .slice gx L.length cx] wr ∧ Blk p11 [.int .i64 q2, .slice gf F.length cf] wr ∧ Own3 0 gx cx L wr ∧ (∀ kk, (Value.slice gx L.length cx).ownBlock = some kk → kk ≠ p7 ∧ kk ≠ p11) ∧ Own3 0 gf cf F wr ∧ (∀ kk, (Value.slice gf F.length cf).ownBlock = some kk → kk ≠ p7 ∧ kk ≠ p11) ∧ Below W.heap.size W wr) (fun i _ => 50 - (intOf i).toNat)
      case atStart => exact ⟨0, gx, cx, L0, none, 0, [], by omega, rfl, hok, Or.inl hmem, hfok, T4, T7, T11, ox.le (Nat.zero_le _), fun kk hkk => by have := ux kk hkk; omega, Own3.nil _ _, fun kk hkk => by simp [Value.ownBlock] at hkk, b0⟩
      case round =>
        clear T4 T7 T11 ox ux b0 hok hmem hfok
        obtain ⟨j, gx, cx, L, gf, cf, F, hj, rfl, hokL, hin, hokF, T4, T7, T11, OX, NX, OF, NF, b0⟩ := hrel
        by_cases hlt : j < 50
        · have hj2 : (j : Int) < 50 := by omega
          have HZ : CodeAt wr wr.heap.size ad len zs := (hz.below b0).lt b0.size
          have HX := at_int ad len cap zs wr (j : Int) (by omega) (by omega) HZ
          go_wp2_with fail
          refine HX.mono ?_
          clear HX
          rintro en wq ⟨z0, rfl, z0a, z0b, rfl⟩
          have HX := at_int ad len cap zs wr ((j : Int) + 1) (by omega) (by omega) HZ
          go_wp2_with fail
          refine HX.mono ?_
          clear HX
          rintro en wq ⟨z1, rfl, z1a, z1b, rfl⟩
          have HX := at_int ad len cap zs wr ((j : Int) + 2) (by omega) (by omega) HZ
          go_wp2_with fail
          refine HX.mono ?_
          clear HX
          rintro en wq ⟨z2, rfl, z2a, z2b, rfl⟩
          have lp4 : W.heap.size ≤ p4 := PW.out
          by_cases q0 : x = z0 % 6
          · subst q0
            by_cases q1 : y = n + (j : Int) - z1 % 5
            · subst q1
              by_cases q3 : z = z2
              · subst q3
                have lr : p11 < wr.heap.size := T11.lt
                obtain ⟨V6_T13, hV6_T13⟩ : ∃ V, wr.alloc (.cells #[.int .i64 (z0 % 6), .int .i64 (n + (j : Int) - z1 % 5), .int .i64 z] 28) = V := ⟨_, rfl⟩
                have aV6_T13 : Below wr.heap.size wr V6_T13 := by rw [← hV6_T13]; exact (Below.refl _ _).alloc (Nat.le_refl _) _
                have T13 : Blk wr.heap.size [.int .i64 (z0 % 6), .int .i64 (n + (j : Int) - z1 % 5), .int .i64 z] V6_T13 := by rw [← hV6_T13]; exact Blk.new _ _ _
                replace T4 := T4.later aV6_T13 T4.lt
                replace T7 := T7.later aV6_T13 T7.lt
                replace T11 := T11.later aV6_T13 T11.lt
                replace OX := OX.later aV6_T13
                replace OF := OF.later aV6_T13
                replace b0 := b0.trans (aV6_T13.mono b0.size)
                clear aV6_T13
                have h6L := (cOk_parts hokL).2.1
                have h6F := (cOk_parts hokF).2.1
                have k0 := T13.fz 0 rfl
                have k1 := T13.fz 1 rfl
                have k2 := T13.fz 2 rfl
                have q_T4_0 := T4.at 0 rfl
                have q_T4_1 := T4.at 1 rfl
                have q_T4_2 := T4.at 2 rfl
                have q_T7_0 := T7.at 0 rfl
                have q_T7_1 := T7.at 1 rfl
                have q_T11_0 := T11.at 0 rfl
                have q_T11_1 := T11.at 1 rfl
                have q_T13_0 := T13.at 0 rfl
                have q_T13_1 := T13.at 1 rfl
                have q_T13_2 := T13.at 2 rfl
                have HX := implTry_is Q gx cx L (z0 % 6) (n + (j : Int) - z1 % 5) z (n + (j : Int)) k V6_T13 OX.row (by omega)
                go_wp2_with fail
                try rw [hV6_T13]
                refine HX.mono ?_
                clear HX q_T4_0 q_T4_1 q_T4_2 q_T7_0 q_T7_1 q_T11_0 q_T11_1 q_T13_0 q_T13_1 q_T13_2 hV6_T13 k0 k1 k2
                rintro e w7 ⟨g5, c5, rfl, o5, hb7⟩
                replace T4 := T4.later hb7 T4.lt
                replace T7 := T7.later hb7 T7.lt
                replace T11 := T11.later hb7 T11.lt
                replace T13 := T13.later hb7 T13.lt
                replace OX := OX.later hb7
                replace OF := OF.later hb7
                replace b0 := b0.trans (hb7.mono b0.size)
                clear hb7 o5
                have no5 : tkV Q L (z0 % 6) (n + (j : Int) - z1 % 5) z (n + (j : Int)) k ≠ 0 := try_no hin
                generalize tkV Q L (z0 % 6) (n + (j : Int) - z1 % 5) z (n + (j : Int)) k = k5 at no5 ⊢
                generalize tlV Q L (z0 % 6) (n + (j : Int) - z1 % 5) z (n + (j : Int)) k = L5 at *
                generalize tqV Q L = q5 at *
                obtain ⟨V7_T14, hV7_T14⟩ : ∃ V, w7.alloc (.cells #[.int .i64 q5, .slice g5 L5.length c5] 26) = V := ⟨_, rfl⟩
                have aV7_T14 : Below w7.heap.size w7 V7_T14 := by rw [← hV7_T14]; exact (Below.refl _ _).alloc (Nat.le_refl _) _
                have T14 : Blk w7.heap.size [.int .i64 q5, .slice g5 L5.length c5] V7_T14 := by rw [← hV7_T14]; exact Blk.new _ _ _
                replace T4 := T4.later aV7_T14 T4.lt
                replace T7 := T7.later aV7_T14 T7.lt
                replace T11 := T11.later aV7_T14 T11.lt
                replace T13 := T13.later aV7_T14 T13.lt
                replace OX := OX.later aV7_T14
                replace OF := OF.later aV7_T14
                replace b0 := b0.trans (aV7_T14.mono b0.size)
                clear aV7_T14
                have k0 := T14.fz 0 rfl
                have k1 := T14.fz 1 rfl
                have q_T4_0 := T4.at 0 rfl
                have q_T4_1 := T4.at 1 rfl
                have q_T4_2 := T4.at 2 rfl
                have q_T7_0 := T7.at 0 rfl
                have q_T7_1 := T7.at 1 rfl
                have q_T11_0 := T11.at 0 rfl
                have q_T11_1 := T11.at 1 rfl
                have q_T13_0 := T13.at 0 rfl
                have q_T13_1 := T13.at 1 rfl
                have q_T13_2 := T13.at 2 rfl
                have q_T14_0 := T14.at 0 rfl
                have q_T14_1 := T14.at 1 rfl
                have HX := implTry_is q2 gf cf F (z0 % 6) (n + (j : Int) - z1 % 5) z (n + (j : Int)) k V7_T14 OF.row (by omega)
                go_wp2_with fail
                try rw [hV7_T14]
                refine HX.mono ?_
                clear HX q_T4_0 q_T4_1 q_T4_2 q_T7_0 q_T7_1 q_T11_0 q_T11_1 q_T13_0 q_T13_1 q_T13_2 q_T14_0 q_T14_1 hV7_T14 k0 k1
                rintro e w8 ⟨g6, c6, rfl, o6, hb8⟩
                replace T4 := T4.later hb8 T4.lt
                replace T7 := T7.later hb8 T7.lt
                replace T11 := T11.later hb8 T11.lt
                replace T13 := T13.later hb8 T13.lt
                replace T14 := T14.later hb8 T14.lt
                replace OX := OX.later hb8
                replace OF := OF.later hb8
                replace b0 := b0.trans (hb8.mono b0.size)
                clear hb8 o6
                have no6 := hfno F (n + (j : Int))
                generalize tkV q2 F (z0 % 6) (n + (j : Int) - z1 % 5) z (n + (j : Int)) k = k6 at no6 ⊢
                generalize tlV q2 F (z0 % 6) (n + (j : Int) - z1 % 5) z (n + (j : Int)) k = L6 at *
                generalize tqV q2 F = q6 at *
                obtain ⟨V8_T16, hV8_T16⟩ : ∃ V, w8.alloc (.cells #[.int .i64 q6, .slice g6 L6.length c6] 26) = V := ⟨_, rfl⟩
                have aV8_T16 : Below w8.heap.size w8 V8_T16 := by rw [← hV8_T16]; exact (Below.refl _ _).alloc (Nat.le_refl _) _
                have T16 : Blk w8.heap.size [.int .i64 q6, .slice g6 L6.length c6] V8_T16 := by rw [← hV8_T16]; exact Blk.new _ _ _
                replace T4 := T4.later aV8_T16 T4.lt
                replace T7 := T7.later aV8_T16 T7.lt
                replace T11 := T11.later aV8_T16 T11.lt
                replace T13 := T13.later aV8_T16 T13.lt
                replace T14 := T14.later aV8_T16 T14.lt
                replace OX := OX.later aV8_T16
                replace OF := OF.later aV8_T16
                replace b0 := b0.trans (aV8_T16.mono b0.size)
                clear aV8_T16
                have k0 := T16.fz 0 rfl
                have k1 := T16.fz 1 rfl
                have k2 := T16.at 0 rfl
                have k3 := T16.at 1 rfl
                have e5 : (k5 == 0) = false := beq_eq_false_iff_ne.2 no5
                have e6 : (k6 == 0) = false := beq_eq_false_iff_ne.2 no6
                have R : Hid (∃ (j' : Nat) (gx : Option Addr) (cx : Nat) (L : List A3) (gf : Option Addr) (cf : Nat) (F : List A3), j' ≤ 50 ∧ Value.int .i64 ((j : Int) + 1) = .int .i64 (j' : Int) ∧ cOk Q L = true ∧ ((z0 % 6, n + (j : Int) - z1 % 5, z) ∈ L ∨ n + (j : Int) - z1 % 5 < n + (j' : Int) - k) ∧ cOk q2 F = true ∧ Blk p4 [.int .i64 (z0 % 6), .int .i64 (n + (j : Int) - z1 % 5), .int .i64 (z)] V8_T16 ∧ Blk p7 [.int .i64 Q, .slice gx L.length cx] V8_T16 ∧ Blk p11 [.int .i64 q2, .slice gf F.length cf] V8_T16 ∧ Own3 0 gx cx L V8_T16 ∧ (∀ kk, (Value.slice gx L.length cx).ownBlock = some kk → kk ≠ p7 ∧ kk ≠ p11) ∧ Own3 0 gf cf F V8_T16 ∧ (∀ kk, (Value.slice gf F.length cf).ownBlock = some kk → kk ≠ p7 ∧ kk ≠ p11) ∧ Below W.heap.size W V8_T16) := ⟨j + 1, gx, cx, L, gf, cf, F, by omega, by go_num, hokL, hin.imp id (fun h => by omega), hokF, T4, T7, T11, OX, NX, OF, NF, b0⟩
                clear T4 T7 T11 T13 T14 OX OF b0 T16
                go_wp2
                try rw [hV8_T16]
                clear hV8_T16
                go_roundw
                case rel => exact R.out
                case measure => simp [intOf]; omega
              · have q4 : ¬ z2 = z := fun e => q3 e.symm
                have lr : p11 < wr.heap.size := T11.lt
                obtain ⟨V6_T13, hV6_T13⟩ : ∃ V, wr.alloc (.cells #[.int .i64 (z0 % 6), .int .i64 (n + (j : Int) - z1 % 5), .int .i64 z2] 28) = V := ⟨_, rfl⟩
                have aV6_T13 : Below wr.heap.size wr V6_T13 := by rw [← hV6_T13]; exact (Below.refl _ _).alloc (Nat.le_refl _) _
                have T13 : Blk wr.heap.size [.int .i64 (z0 % 6), .int .i64 (n + (j : Int) - z1 % 5), .int .i64 z2] V6_T13 := by rw [← hV6_T13]; exact Blk.new _ _ _
                replace T4 := T4.later aV6_T13 T4.lt
                replace T7 := T7.later aV6_T13 T7.lt
                replace T11 := T11.later aV6_T13 T11.lt
                replace OX := OX.later aV6_T13
                replace OF := OF.later aV6_T13
                replace b0 := b0.trans (aV6_T13.mono b0.size)
                clear aV6_T13
                have h6L := (cOk_parts hokL).2.1
                have h6F := (cOk_parts hokF).2.1
                have lv : p11 < V6_T13.heap.size := T11.lt
                have k0 := T13.fz 0 rfl
                have k1 := T13.fz 1 rfl
                have k2 := T13.fz 2 rfl
                have q_T4_0 := T4.at 0 rfl
                have q_T4_1 := T4.at 1 rfl
                have q_T4_2 := T4.at 2 rfl
                have q_T7_0 := T7.at 0 rfl
                have q_T7_1 := T7.at 1 rfl
                have q_T11_0 := T11.at 0 rfl
                have q_T11_1 := T11.at 1 rfl
                have q_T13_0 := T13.at 0 rfl
                have q_T13_1 := T13.at 1 rfl
                have q_T13_2 := T13.at 2 rfl
                have HX := implTry_is Q gx cx L (z0 % 6) (n + (j : Int) - z1 % 5) z2 (n + (j : Int)) k V6_T13 OX.row (by omega)
                go_wp2_with fail
                try rw [hV6_T13]
                refine HX.mono ?_
                clear HX q_T4_0 q_T4_1 q_T4_2 q_T7_0 q_T7_1 q_T11_0 q_T11_1 q_T13_0 q_T13_1 q_T13_2 hV6_T13 k0 k1 k2
                rintro e w7 ⟨g2, c2, rfl, o2, hb7⟩
                replace T4 := T4.later hb7 T4.lt
                replace T7 := T7.later hb7 T7.lt
                replace T11 := T11.later hb7 T11.lt
                replace T13 := T13.later hb7 T13.lt
                replace OX := OX.later hb7
                replace OF := OF.later hb7
                replace b0 := b0.trans (hb7.mono b0.size)
                clear hb7
                have N2 : ∀ kk, (Value.slice g2 (tlV Q L (z0 % 6) (n + (j : Int) - z1 % 5) z2 (n + (j : Int)) k).length c2).ownBlock = some kk → kk ≠ p7 ∧ kk ≠ p11 := fun kk hkk => by have := (World.ownsRow.lt o2 kk hkk).1; omega
                replace o2 := o2.le (Nat.zero_le _)
                obtain ⟨eqL, okL2⟩ := try_ok (z0 % 6) (n + (j : Int) - z1 % 5) z2 (n + (j : Int)) k hokL
                have hin2 : (z0 % 6, n + (j : Int) - z1 % 5, z) ∈ tlV Q L (z0 % 6) (n + (j : Int) - z1 % 5) z2 (n + (j : Int)) k ∨ n + (j : Int) - z1 % 5 < n + (j : Int) - k := by
                  rcases hin with h | h
                  · exact try_keep (p := (z0 % 6, n + (j : Int) - z1 % 5, z)) (z0 % 6) (n + (j : Int) - z1 % 5) z2 (n + (j : Int)) k hokL h
                  · exact Or.inr h
                simp only [eqL]
                clear eqL OX NX hin hokL h6L
                generalize tlV Q L (z0 % 6) (n + (j : Int) - z1 % 5) z2 (n + (j : Int)) k = L2 at *
                generalize tkV Q L (z0 % 6) (n + (j : Int) - z1 % 5) z2 (n + (j : Int)) k = kk2 at *
                have OX := o2
                clear o2
                obtain ⟨V8, hV8⟩ : ∃ v, (w7.setCell ⟨p7, 0, none⟩ (.int .i64 Q)).setCell ⟨p7, 1, none⟩ (.slice g2 L2.length c2) = v := ⟨_, rfl⟩
                have y0 := T7.at 0 rfl
                have y1 := T7.at 1 rfl
                have y2 := T7.fz 0 rfl
                have y3 := T7.fz 1 rfl
                have T4N := (T4.far (g' := p7) (by omega) 0 (.int .i64 Q)).far (g' := p7) (by omega) 1 (.slice g2 L2.length c2)
                rw [hV8] at T4N
                have T7N : Blk p7 [.int .i64 Q, .slice g2 L2.length c2] V8 := by rw [← hV8]; exact (T7.set 0 (.int .i64 Q)).set 1 (.slice g2 L2.length c2)
                have T11N := (T11.far (g' := p7) (by omega) 0 (.int .i64 Q)).far (g' := p7) (by omega) 1 (.slice g2 L2.length c2)
                rw [hV8] at T11N
                have T13N := (T13.far (g' := p7) (by omega) 0 (.int .i64 Q)).far (g' := p7) (by omega) 1 (.slice g2 L2.length c2)
                rw [hV8] at T13N
                have OXN := own_far (own_far OX (fun kk h => (N2 kk h).1) 0 (.int .i64 Q)) (fun kk h => (N2 kk h).1) 1 (.slice g2 L2.length c2)
                rw [hV8] at OXN
                have OFN := own_far (own_far OF (fun kk h => (NF kk h).1) 0 (.int .i64 Q)) (fun kk h => (NF kk h).1) 1 (.slice g2 L2.length c2)
                rw [hV8] at OFN
                have bN := (b0.setCell (p := ⟨p7, 0, none⟩) (by show W.heap.size ≤ p7; omega) (.int .i64 Q)).setCell (p := ⟨p7, 1, none⟩) (by show W.heap.size ≤ p7; omega) (.slice g2 L2.length c2)
                rw [hV8] at bN
                clear T4 T7 T11 T13 OX OF b0
                have T4 := T4N
                have T7 := T7N
                have T11 := T11N
                have T13 := T13N
                have OX := OXN
                have OF := OFN
                have b0 := bN
                clear T4N T7N T11N T13N OXN OFN bN
                have lv2 : p11 < V8.heap.size := T11.lt
                have q_T4_0 := T4.at 0 rfl
                have q_T4_1 := T4.at 1 rfl
                have q_T4_2 := T4.at 2 rfl
                have q_T7_0 := T7.at 0 rfl
                have q_T7_1 := T7.at 1 rfl
                have q_T11_0 := T11.at 0 rfl
                have q_T11_1 := T11.at 1 rfl
                have q_T13_0 := T13.at 0 rfl
                have q_T13_1 := T13.at 1 rfl
                have q_T13_2 := T13.at 2 rfl
                have HX := implTry_is q2 gf cf F (z0 % 6) (n + (j : Int) - z1 % 5) z2 (n + (j : Int)) k V8 OF.row (by omega)
                go_wp2_with fail
                try rw [hV8]
                refine HX.mono ?_
                clear HX q_T4_0 q_T4_1 q_T4_2 q_T7_0 q_T7_1 q_T11_0 q_T11_1 q_T13_0 q_T13_1 q_T13_2 hV8 y0 y1 y2 y3
                rintro e w9 ⟨g4, c4, rfl, o4, hb9⟩
                replace T4 := T4.later hb9 T4.lt
                replace T7 := T7.later hb9 T7.lt
                replace T11 := T11.later hb9 T11.lt
                replace T13 := T13.later hb9 T13.lt
                replace OX := OX.later hb9
                replace OF := OF.later hb9
                replace b0 := b0.trans (hb9.mono b0.size)
                clear hb9
                have N4 : ∀ kk, (Value.slice g4 (tlV q2 F (z0 % 6) (n + (j : Int) - z1 % 5) z2 (n + (j : Int)) k).length c4).ownBlock = some kk → kk ≠ p7 ∧ kk ≠ p11 := fun kk hkk => by have := (World.ownsRow.lt o4 kk hkk).1; omega
                replace o4 := o4.le (Nat.zero_le _)
                obtain ⟨eqF, okF2⟩ := try_ok (z0 % 6) (n + (j : Int) - z1 % 5) z2 (n + (j : Int)) k hokF
                simp only [eqF]
                clear eqF OF NF hokF h6F
                generalize tlV q2 F (z0 % 6) (n + (j : Int) - z1 % 5) z2 (n + (j : Int)) k = F2 at *
                generalize tkV q2 F (z0 % 6) (n + (j : Int) - z1 % 5) z2 (n + (j : Int)) k = kk4 at *
                have OF := o4
                clear o4
                obtain ⟨V10, hV10⟩ : ∃ v, (w9.setCell ⟨p11, 0, none⟩ (.int .i64 q2)).setCell ⟨p11, 1, none⟩ (.slice g4 F2.length c4) = v := ⟨_, rfl⟩
                have y0 := T11.at 0 rfl
                have y1 := T11.at 1 rfl
                have y2 := T11.fz 0 rfl
                have y3 := T11.fz 1 rfl
                have T4N := (T4.far (g' := p11) (by omega) 0 (.int .i64 q2)).far (g' := p11) (by omega) 1 (.slice g4 F2.length c4)
                rw [hV10] at T4N
                have T7N := (T7.far (g' := p11) (by omega) 0 (.int .i64 q2)).far (g' := p11) (by omega) 1 (.slice g4 F2.length c4)
                rw [hV10] at T7N
                have T11N : Blk p11 [.int .i64 q2, .slice g4 F2.length c4] V10 := by rw [← hV10]; exact (T11.set 0 (.int .i64 q2)).set 1 (.slice g4 F2.length c4)
                have T13N := (T13.far (g' := p11) (by omega) 0 (.int .i64 q2)).far (g' := p11) (by omega) 1 (.slice g4 F2.length c4)
                rw [hV10] at T13N
                have OXN := own_far (own_far OX (fun kk h => (N2 kk h).2) 0 (.int .i64 q2)) (fun kk h => (N2 kk h).2) 1 (.slice g4 F2.length c4)
                rw [hV10] at OXN
                have OFN := own_far (own_far OF (fun kk h => (N4 kk h).2) 0 (.int .i64 q2)) (fun kk h => (N4 kk h).2) 1 (.slice g4 F2.length c4)
                rw [hV10] at OFN
                have bN := (b0.setCell (p := ⟨p11, 0, none⟩) (by show W.heap.size ≤ p11; omega) (.int .i64 q2)).setCell (p := ⟨p11, 1, none⟩) (by show W.heap.size ≤ p11; omega) (.slice g4 F2.length c4)
                rw [hV10] at bN
                clear T4 T7 T11 T13 OX OF b0
                have T4 := T4N
                have T7 := T7N
                have T11 := T11N
                have T13 := T13N
                have OX := OXN
                have OF := OFN
                have b0 := bN
                clear T4N T7N T11N T13N OXN OFN bN
                have h6L := (cOk_parts okL2).2.1
                have h6F := (cOk_parts okF2).2.1
                have q_T4_0 := T4.at 0 rfl
                have q_T4_1 := T4.at 1 rfl
                have q_T4_2 := T4.at 2 rfl
                have q_T7_0 := T7.at 0 rfl
                have q_T7_1 := T7.at 1 rfl
                have q_T11_0 := T11.at 0 rfl
                have q_T11_1 := T11.at 1 rfl
                have q_T13_0 := T13.at 0 rfl
                have q_T13_1 := T13.at 1 rfl
                have q_T13_2 := T13.at 2 rfl
                have HX := implTry_is Q g2 c2 L2 (z0 % 6) (n + (j : Int) - z1 % 5) z (n + (j : Int)) k V10 OX.row (by omega)
                go_wp2_with fail
                try rw [hV10]
                refine HX.mono ?_
                clear HX q_T4_0 q_T4_1 q_T4_2 q_T7_0 q_T7_1 q_T11_0 q_T11_1 q_T13_0 q_T13_1 q_T13_2 hV10 y0 y1 y2 y3
                rintro e w11 ⟨g5, c5, rfl, o5, hb11⟩
                replace T4 := T4.later hb11 T4.lt
                replace T7 := T7.later hb11 T7.lt
                replace T11 := T11.later hb11 T11.lt
                replace T13 := T13.later hb11 T13.lt
                replace OX := OX.later hb11
                replace OF := OF.later hb11
                replace b0 := b0.trans (hb11.mono b0.size)
                clear hb11 o5
                have no5 : tkV Q L2 (z0 % 6) (n + (j : Int) - z1 % 5) z (n + (j : Int)) k ≠ 0 := try_no hin2
                generalize tkV Q L2 (z0 % 6) (n + (j : Int) - z1 % 5) z (n + (j : Int)) k = k5 at no5 ⊢
                generalize tlV Q L2 (z0 % 6) (n + (j : Int) - z1 % 5) z (n + (j : Int)) k = L5 at *
                generalize tqV Q L2 = q5 at *
                obtain ⟨V11_T14, hV11_T14⟩ : ∃ V, w11.alloc (.cells #[.int .i64 q5, .slice g5 L5.length c5] 26) = V := ⟨_, rfl⟩
                have aV11_T14 : Below w11.heap.size w11 V11_T14 := by rw [← hV11_T14]; exact (Below.refl _ _).alloc (Nat.le_refl _) _
                have T14 : Blk w11.heap.size [.int .i64 q5, .slice g5 L5.length c5] V11_T14 := by rw [← hV11_T14]; exact Blk.new _ _ _
                replace T4 := T4.later aV11_T14 T4.lt
                replace T7 := T7.later aV11_T14 T7.lt
                replace T11 := T11.later aV11_T14 T11.lt
                replace T13 := T13.later aV11_T14 T13.lt
                replace OX := OX.later aV11_T14
                replace OF := OF.later aV11_T14
                replace b0 := b0.trans (aV11_T14.mono b0.size)
                clear aV11_T14
                have k0 := T14.fz 0 rfl
                have k1 := T14.fz 1 rfl
                have q_T4_0 := T4.at 0 rfl
                have q_T4_1 := T4.at 1 rfl
                have q_T4_2 := T4.at 2 rfl
                have q_T7_0 := T7.at 0 rfl
                have q_T7_1 := T7.at 1 rfl
                have q_T11_0 := T11.at 0 rfl
                have q_T11_1 := T11.at 1 rfl
                have q_T13_0 := T13.at 0 rfl
                have q_T13_1 := T13.at 1 rfl
                have q_T13_2 := T13.at 2 rfl
                have q_T14_0 := T14.at 0 rfl
                have q_T14_1 := T14.at 1 rfl
                have HX := implTry_is q2 g4 c4 F2 (z0 % 6) (n + (j : Int) - z1 % 5) z (n + (j : Int)) k V11_T14 OF.row (by omega)
                go_wp2_with fail
                try rw [hV11_T14]
                refine HX.mono ?_
                clear HX q_T4_0 q_T4_1 q_T4_2 q_T7_0 q_T7_1 q_T11_0 q_T11_1 q_T13_0 q_T13_1 q_T13_2 q_T14_0 q_T14_1 hV11_T14 k0 k1
                rintro e w12 ⟨g6, c6, rfl, o6, hb12⟩
                replace T4 := T4.later hb12 T4.lt
                replace T7 := T7.later hb12 T7.lt
                replace T11 := T11.later hb12 T11.lt
                replace T13 := T13.later hb12 T13.lt
                replace T14 := T14.later hb12 T14.lt
                replace OX := OX.later hb12
                replace OF := OF.later hb12
                replace b0 := b0.trans (hb12.mono b0.size)
                clear hb12 o6
                have no6 := hfno F2 (n + (j : Int))
                generalize tkV q2 F2 (z0 % 6) (n + (j : Int) - z1 % 5) z (n + (j : Int)) k = k6 at no6 ⊢
                generalize tlV q2 F2 (z0 % 6) (n + (j : Int) - z1 % 5) z (n + (j : Int)) k = L6 at *
                generalize tqV q2 F2 = q6 at *
                obtain ⟨V12_T16, hV12_T16⟩ : ∃ V, w12.alloc (.cells #[.int .i64 q6, .slice g6 L6.length c6] 26) = V := ⟨_, rfl⟩
                have aV12_T16 : Below w12.heap.size w12 V12_T16 := by rw [← hV12_T16]; exact (Below.refl _ _).alloc (Nat.le_refl _) _
                have T16 : Blk w12.heap.size [.int .i64 q6, .slice g6 L6.length c6] V12_T16 := by rw [← hV12_T16]; exact Blk.new _ _ _
                replace T4 := T4.later aV12_T16 T4.lt
                replace T7 := T7.later aV12_T16 T7.lt
                replace T11 := T11.later aV12_T16 T11.lt
                replace T13 := T13.later aV12_T16 T13.lt
                replace T14 := T14.later aV12_T16 T14.lt
                replace OX := OX.later aV12_T16
                replace OF := OF.later aV12_T16
                replace b0 := b0.trans (aV12_T16.mono b0.size)
                clear aV12_T16
                have k0 := T16.fz 0 rfl
                have k1 := T16.fz 1 rfl
                have k2 := T16.at 0 rfl
                have k3 := T16.at 1 rfl
                have e5 : (k5 == 0) = false := beq_eq_false_iff_ne.2 no5
                have e6 : (k6 == 0) = false := beq_eq_false_iff_ne.2 no6
                have R : Hid (∃ (j' : Nat) (gx : Option Addr) (cx : Nat) (L : List A3) (gf : Option Addr) (cf : Nat) (F : List A3), j' ≤ 50 ∧ Value.int .i64 ((j : Int) + 1) = .int .i64 (j' : Int) ∧ cOk Q L = true ∧ ((z0 % 6, n + (j : Int) - z1 % 5, z) ∈ L ∨ n + (j : Int) - z1 % 5 < n + (j' : Int) - k) ∧ cOk q2 F = true ∧ Blk p4 [.int .i64 (z0 % 6), .int .i64 (n + (j : Int) - z1 % 5), .int .i64 (z)] V12_T16 ∧ Blk p7 [.int .i64 Q, .slice gx L.length cx] V12_T16 ∧ Blk p11 [.int .i64 q2, .slice gf F.length cf] V12_T16 ∧ Own3 0 gx cx L V12_T16 ∧ (∀ kk, (Value.slice gx L.length cx).ownBlock = some kk → kk ≠ p7 ∧ kk ≠ p11) ∧ Own3 0 gf cf F V12_T16 ∧ (∀ kk, (Value.slice gf F.length cf).ownBlock = some kk → kk ≠ p7 ∧ kk ≠ p11) ∧ Below W.heap.size W V12_T16) := ⟨j + 1, g2, c2, L2, g4, c4, F2, by omega, by go_num, okL2, hin2.imp id (fun h => by omega), okF2, T4, T7, T11, OX, N2, OF, N4, b0⟩
                clear T4 T7 T11 T13 T14 OX OF b0 T16
                go_wp2
                try rw [hV12_T16]
                clear hV12_T16
                go_roundw
                case rel => exact R.out
                case measure => simp [intOf]; omega
            · have q4 : ¬ n + (j : Int) - z1 % 5 = y := fun e => q1 e.symm
              have lr : p11 < wr.heap.size := T11.lt
              obtain ⟨V6_T13, hV6_T13⟩ : ∃ V, wr.alloc (.cells #[.int .i64 (z0 % 6), .int .i64 (n + (j : Int) - z1 % 5), .int .i64 z2] 28) = V := ⟨_, rfl⟩
              have aV6_T13 : Below wr.heap.size wr V6_T13 := by rw [← hV6_T13]; exact (Below.refl _ _).alloc (Nat.le_refl _) _
              have T13 : Blk wr.heap.size [.int .i64 (z0 % 6), .int .i64 (n + (j : Int) - z1 % 5), .int .i64 z2] V6_T13 := by rw [← hV6_T13]; exact Blk.new _ _ _
              replace T4 := T4.later aV6_T13 T4.lt
              replace T7 := T7.later aV6_T13 T7.lt
              replace T11 := T11.later aV6_T13 T11.lt
              replace OX := OX.later aV6_T13
              replace OF := OF.later aV6_T13
              replace b0 := b0.trans (aV6_T13.mono b0.size)
              clear aV6_T13
              have h6L := (cOk_parts hokL).2.1
              have h6F := (cOk_parts hokF).2.1
              have lv : p11 < V6_T13.heap.size := T11.lt
              have k0 := T13.fz 0 rfl
              have k1 := T13.fz 1 rfl
              have k2 := T13.fz 2 rfl
              have q_T4_0 := T4.at 0 rfl
              have q_T4_1 := T4.at 1 rfl
              have q_T4_2 := T4.at 2 rfl
              have q_T7_0 := T7.at 0 rfl
              have q_T7_1 := T7.at 1 rfl
              have q_T11_0 := T11.at 0 rfl
              have q_T11_1 := T11.at 1 rfl
              have q_T13_0 := T13.at 0 rfl
              have q_T13_1 := T13.at 1 rfl
              have q_T13_2 := T13.at 2 rfl
              have HX := implTry_is Q gx cx L (z0 % 6) (n + (j : Int) - z1 % 5) z2 (n + (j : Int)) k V6_T13 OX.row (by omega)
              go_wp2_with fail
              try rw [hV6_T13]
              refine HX.mono ?_
              clear HX q_T4_0 q_T4_1 q_T4_2 q_T7_0 q_T7_1 q_T11_0 q_T11_1 q_T13_0 q_T13_1 q_T13_2 hV6_T13 k0 k1 k2
              rintro e w7 ⟨g2, c2, rfl, o2, hb7⟩
              replace T4 := T4.later hb7 T4.lt
              replace T7 := T7.later hb7 T7.lt
              replace T11 := T11.later hb7 T11.lt
              replace T13 := T13.later hb7 T13.lt
              replace OX := OX.later hb7
              replace OF := OF.later hb7
              replace b0 := b0.trans (hb7.mono b0.size)
              clear hb7
              have N2 : ∀ kk, (Value.slice g2 (tlV Q L (z0 % 6) (n + (j : Int) - z1 % 5) z2 (n + (j : Int)) k).length c2).ownBlock = some kk → kk ≠ p7 ∧ kk ≠ p11 := fun kk hkk => by have := (World.ownsRow.lt o2 kk hkk).1; omega
              replace o2 := o2.le (Nat.zero_le _)
              obtain ⟨eqL, okL2⟩ := try_ok (z0 % 6) (n + (j : Int) - z1 % 5) z2 (n + (j : Int)) k hokL
              have hin2 : (z0 % 6, y, z) ∈ tlV Q L (z0 % 6) (n + (j : Int) - z1 % 5) z2 (n + (j : Int)) k ∨ y < n + (j : Int) - k := by
                rcases hin with h | h
                · exact try_keep (p := (z0 % 6, y, z)) (z0 % 6) (n + (j : Int) - z1 % 5) z2 (n + (j : Int)) k hokL h
                · exact Or.inr h
              simp only [eqL]
              clear eqL OX NX hin hokL h6L
              generalize tlV Q L (z0 % 6) (n + (j : Int) - z1 % 5) z2 (n + (j : Int)) k = L2 at *
              generalize tkV Q L (z0 % 6) (n + (j : Int) - z1 % 5) z2 (n + (j : Int)) k = kk2 at *
              have OX := o2
              clear o2
              obtain ⟨V8, hV8⟩ : ∃ v, (w7.setCell ⟨p7, 0, none⟩ (.int .i64 Q)).setCell ⟨p7, 1, none⟩ (.slice g2 L2.length c2) = v := ⟨_, rfl⟩
              have y0 := T7.at 0 rfl
              have y1 := T7.at 1 rfl
              have y2 := T7.fz 0 rfl
              have y3 := T7.fz 1 rfl
              have T4N := (T4.far (g' := p7) (by omega) 0 (.int .i64 Q)).far (g' := p7) (by omega) 1 (.slice g2 L2.length c2)
              rw [hV8] at T4N
              have T7N : Blk p7 [.int .i64 Q, .slice g2 L2.length c2] V8 := by rw [← hV8]; exact (T7.set 0 (.int .i64 Q)).set 1 (.slice g2 L2.length c2)
              have T11N := (T11.far (g' := p7) (by omega) 0 (.int .i64 Q)).far (g' := p7) (by omega) 1 (.slice g2 L2.length c2)
              rw [hV8] at T11N
              have T13N := (T13.far (g' := p7) (by omega) 0 (.int .i64 Q)).far (g' := p7) (by omega) 1 (.slice g2 L2.length c2)
              rw [hV8] at T13N
              have OXN := own_far (own_far OX (fun kk h => (N2 kk h).1) 0 (.int .i64 Q)) (fun kk h => (N2 kk h).1) 1 (.slice g2 L2.length c2)
              rw [hV8] at OXN
              have OFN := own_far (own_far OF (fun kk h => (NF kk h).1) 0 (.int .i64 Q)) (fun kk h => (NF kk h).1) 1 (.slice g2 L2.length c2)
              rw [hV8] at OFN
              have bN := (b0.setCell (p := ⟨p7, 0, none⟩) (by show W.heap.size ≤ p7; omega) (.int .i64 Q)).setCell (p := ⟨p7, 1, none⟩) (by show W.heap.size ≤ p7; omega) (.slice g2 L2.length c2)
              rw [hV8] at bN
              clear T4 T7 T11 T13 OX OF b0
              have T4 := T4N
              have T7 := T7N
              have T11 := T11N
              have T13 := T13N
              have OX := OXN
              have OF := OFN
              have b0 := bN
              clear T4N T7N T11N T13N OXN OFN bN
              have lv2 : p11 < V8.heap.size := T11.lt
              have q_T4_0 := T4.at 0 rfl
              have q_T4_1 := T4.at 1 rfl
              have q_T4_2 := T4.at 2 rfl
              have q_T7_0 := T7.at 0 rfl
              have q_T7_1 := T7.at 1 rfl
              have q_T11_0 := T11.at 0 rfl
              have q_T11_1 := T11.at 1 rfl
              have q_T13_0 := T13.at 0 rfl
              have q_T13_1 := T13.at 1 rfl
              have q_T13_2 := T13.at 2 rfl
              have HX := implTry_is q2 gf cf F (z0 % 6) (n + (j : Int) - z1 % 5) z2 (n + (j : Int)) k V8 OF.row (by omega)
              go_wp2_with fail
              try rw [hV8]
              refine HX.mono ?_
              clear HX q_T4_0 q_T4_1 q_T4_2 q_T7_0 q_T7_1 q_T11_0 q_T11_1 q_T13_0 q_T13_1 q_T13_2 hV8 y0 y1 y2 y3
              rintro e w9 ⟨g4, c4, rfl, o4, hb9⟩
              replace T4 := T4.later hb9 T4.lt
              replace T7 := T7.later hb9 T7.lt
              replace T11 := T11.later hb9 T11.lt
              replace T13 := T13.later hb9 T13.lt
              replace OX := OX.later hb9
              replace OF := OF.later hb9
              replace b0 := b0.trans (hb9.mono b0.size)
              clear hb9
              have N4 : ∀ kk, (Value.slice g4 (tlV q2 F (z0 % 6) (n + (j : Int) - z1 % 5) z2 (n + (j : Int)) k).length c4).ownBlock = some kk → kk ≠ p7 ∧ kk ≠ p11 := fun kk hkk => by have := (World.ownsRow.lt o4 kk hkk).1; omega
              replace o4 := o4.le (Nat.zero_le _)
              obtain ⟨eqF, okF2⟩ := try_ok (z0 % 6) (n + (j : Int) - z1 % 5) z2 (n + (j : Int)) k hokF
              simp only [eqF]
              clear eqF OF NF hokF h6F
              generalize tlV q2 F (z0 % 6) (n + (j : Int) - z1 % 5) z2 (n + (j : Int)) k = F2 at *
              generalize tkV q2 F (z0 % 6) (n + (j : Int) - z1 % 5) z2 (n + (j : Int)) k = kk4 at *
              have OF := o4
              clear o4
              obtain ⟨V10, hV10⟩ : ∃ v, (w9.setCell ⟨p11, 0, none⟩ (.int .i64 q2)).setCell ⟨p11, 1, none⟩ (.slice g4 F2.length c4) = v := ⟨_, rfl⟩
              have y0 := T11.at 0 rfl
              have y1 := T11.at 1 rfl
              have y2 := T11.fz 0 rfl
              have y3 := T11.fz 1 rfl
              have T4N := (T4.far (g' := p11) (by omega) 0 (.int .i64 q2)).far (g' := p11) (by omega) 1 (.slice g4 F2.length c4)
              rw [hV10] at T4N
              have T7N := (T7.far (g' := p11) (by omega) 0 (.int .i64 q2)).far (g' := p11) (by omega) 1 (.slice g4 F2.length c4)
              rw [hV10] at T7N
              have T11N : Blk p11 [.int .i64 q2, .slice g4 F2.length c4] V10 := by rw [← hV10]; exact (T11.set 0 (.int .i64 q2)).set 1 (.slice g4 F2.length c4)
              have T13N := (T13.far (g' := p11) (by omega) 0 (.int .i64 q2)).far (g' := p11) (by omega) 1 (.slice g4 F2.length c4)
              rw [hV10] at T13N
              have OXN := own_far (own_far OX (fun kk h => (N2 kk h).2) 0 (.int .i64 q2)) (fun kk h => (N2 kk h).2) 1 (.slice g4 F2.length c4)
              rw [hV10] at OXN
              have OFN := own_far (own_far OF (fun kk h => (N4 kk h).2) 0 (.int .i64 q2)) (fun kk h => (N4 kk h).2) 1 (.slice g4 F2.length c4)
              rw [hV10] at OFN
              have bN := (b0.setCell (p := ⟨p11, 0, none⟩) (by show W.heap.size ≤ p11; omega) (.int .i64 q2)).setCell (p := ⟨p11, 1, none⟩) (by show W.heap.size ≤ p11; omega) (.slice g4 F2.length c4)
              rw [hV10] at bN
              clear T4 T7 T11 T13 OX OF b0
              have T4 := T4N
              have T7 := T7N
              have T11 := T11N
              have T13 := T13N
              have OX := OXN
              have OF := OFN
              have b0 := bN
              clear T4N T7N T11N T13N OXN OFN bN
              have h6L := (cOk_parts okL2).2.1
              have h6F := (cOk_parts okF2).2.1
              have q_T4_0 := T4.at 0 rfl
              have q_T4_1 := T4.at 1 rfl
              have q_T4_2 := T4.at 2 rfl
              have q_T7_0 := T7.at 0 rfl
              have q_T7_1 := T7.at 1 rfl
              have q_T11_0 := T11.at 0 rfl
              have q_T11_1 := T11.at 1 rfl
              have q_T13_0 := T13.at 0 rfl
              have q_T13_1 := T13.at 1 rfl
              have q_T13_2 := T13.at 2 rfl
              have HX := implTry_is Q g2 c2 L2 (z0 % 6) y z (n + (j : Int)) k V10 OX.row (by omega)
              go_wp2_with fail
              try rw [hV10]
              refine HX.mono ?_
              clear HX q_T4_0 q_T4_1 q_T4_2 q_T7_0 q_T7_1 q_T11_0 q_T11_1 q_T13_0 q_T13_1 q_T13_2 hV10 y0 y1 y2 y3
              rintro e w11 ⟨g5, c5, rfl, o5, hb11⟩
              replace T4 := T4.later hb11 T4.lt
              replace T7 := T7.later hb11 T7.lt
              replace T11 := T11.later hb11 T11.lt
              replace T13 := T13.later hb11 T13.lt
              replace OX := OX.later hb11
              replace OF := OF.later hb11
              replace b0 := b0.trans (hb11.mono b0.size)
              clear hb11 o5
              have no5 : tkV Q L2 (z0 % 6) y z (n + (j : Int)) k ≠ 0 := try_no hin2
              generalize tkV Q L2 (z0 % 6) y z (n + (j : Int)) k = k5 at no5 ⊢
              generalize tlV Q L2 (z0 % 6) y z (n + (j : Int)) k = L5 at *
              generalize tqV Q L2 = q5 at *
              obtain ⟨V11_T14, hV11_T14⟩ : ∃ V, w11.alloc (.cells #[.int .i64 q5, .slice g5 L5.length c5] 26) = V := ⟨_, rfl⟩
              have aV11_T14 : Below w11.heap.size w11 V11_T14 := by rw [← hV11_T14]; exact (Below.refl _ _).alloc (Nat.le_refl _) _
              have T14 : Blk w11.heap.size [.int .i64 q5, .slice g5 L5.length c5] V11_T14 := by rw [← hV11_T14]; exact Blk.new _ _ _
              replace T4 := T4.later aV11_T14 T4.lt
              replace T7 := T7.later aV11_T14 T7.lt
              replace T11 := T11.later aV11_T14 T11.lt
              replace T13 := T13.later aV11_T14 T13.lt
              replace OX := OX.later aV11_T14
              replace OF := OF.later aV11_T14
              replace b0 := b0.trans (aV11_T14.mono b0.size)
              clear aV11_T14
              have k0 := T14.fz 0 rfl
              have k1 := T14.fz 1 rfl
              have q_T4_0 := T4.at 0 rfl
              have q_T4_1 := T4.at 1 rfl
              have q_T4_2 := T4.at 2 rfl
              have q_T7_0 := T7.at 0 rfl
              have q_T7_1 := T7.at 1 rfl
              have q_T11_0 := T11.at 0 rfl
              have q_T11_1 := T11.at 1 rfl
              have q_T13_0 := T13.at 0 rfl
              have q_T13_1 := T13.at 1 rfl
              have q_T13_2 := T13.at 2 rfl
              have q_T14_0 := T14.at 0 rfl
              have q_T14_1 := T14.at 1 rfl
              have HX := implTry_is q2 g4 c4 F2 (z0 % 6) y z (n + (j : Int)) k V11_T14 OF.row (by omega)
              go_wp2_with fail
              try rw [hV11_T14]
              refine HX.mono ?_
              clear HX q_T4_0 q_T4_1 q_T4_2 q_T7_0 q_T7_1 q_T11_0 q_T11_1 q_T13_0 q_T13_1 q_T13_2 q_T14_0 q_T14_1 hV11_T14 k0 k1
              rintro e w12 ⟨g6, c6, rfl, o6, hb12⟩
              replace T4 := T4.later hb12 T4.lt
              replace T7 := T7.later hb12 T7.lt
              replace T11 := T11.later hb12 T11.lt
              replace T13 := T13.later hb12 T13.lt
              replace T14 := T14.later hb12 T14.lt
              replace OX := OX.later hb12
              replace OF := OF.later hb12
              replace b0 := b0.trans (hb12.mono b0.size)
              clear hb12 o6
              have no6 := hfno F2 (n + (j : Int))
              generalize tkV q2 F2 (z0 % 6) y z (n + (j : Int)) k = k6 at no6 ⊢
              generalize tlV q2 F2 (z0 % 6) y z (n + (j : Int)) k = L6 at *
              generalize tqV q2 F2 = q6 at *
              obtain ⟨V12_T16, hV12_T16⟩ : ∃ V, w12.alloc (.cells #[.int .i64 q6, .slice g6 L6.length c6] 26) = V := ⟨_, rfl⟩
              have aV12_T16 : Below w12.heap.size w12 V12_T16 := by rw [← hV12_T16]; exact (Below.refl _ _).alloc (Nat.le_refl _) _
              have T16 : Blk w12.heap.size [.int .i64 q6, .slice g6 L6.length c6] V12_T16 := by rw [← hV12_T16]; exact Blk.new _ _ _
              replace T4 := T4.later aV12_T16 T4.lt
              replace T7 := T7.later aV12_T16 T7.lt
              replace T11 := T11.later aV12_T16 T11.lt
              replace T13 := T13.later aV12_T16 T13.lt
              replace T14 := T14.later aV12_T16 T14.lt
              replace OX := OX.later aV12_T16
              replace OF := OF.later aV12_T16
              replace b0 := b0.trans (aV12_T16.mono b0.size)
              clear aV12_T16
              have k0 := T16.fz 0 rfl
              have k1 := T16.fz 1 rfl
              have k2 := T16.at 0 rfl
              have k3 := T16.at 1 rfl
              have e5 : (k5 == 0) = false := beq_eq_false_iff_ne.2 no5
              have e6 : (k6 == 0) = false := beq_eq_false_iff_ne.2 no6
              have R : Hid (∃ (j' : Nat) (gx : Option Addr) (cx : Nat) (L : List A3) (gf : Option Addr) (cf : Nat) (F : List A3), j' ≤ 50 ∧ Value.int .i64 ((j : Int) + 1) = .int .i64 (j' : Int) ∧ cOk Q L = true ∧ ((z0 % 6, y, z) ∈ L ∨ y < n + (j' : Int) - k) ∧ cOk q2 F = true ∧ Blk p4 [.int .i64 (z0 % 6), .int .i64 (y), .int .i64 (z)] V12_T16 ∧ Blk p7 [.int .i64 Q, .slice gx L.length cx] V12_T16 ∧ Blk p11 [.int .i64 q2, .slice gf F.length cf] V12_T16 ∧ Own3 0 gx cx L V12_T16 ∧ (∀ kk, (Value.slice gx L.length cx).ownBlock = some kk → kk ≠ p7 ∧ kk ≠ p11) ∧ Own3 0 gf cf F V12_T16 ∧ (∀ kk, (Value.slice gf F.length cf).ownBlock = some kk → kk ≠ p7 ∧ kk ≠ p11) ∧ Below W.heap.size W V12_T16) := ⟨j + 1, g2, c2, L2, g4, c4, F2, by omega, by go_num, okL2, hin2.imp id (fun h => by omega), okF2, T4, T7, T11, OX, N2, OF, N4, b0⟩
              clear T4 T7 T11 T13 T14 OX OF b0 T16
              go_wp2
              try rw [hV12_T16]
              clear hV12_T16
              go_roundw
              case rel => exact R.out
              case measure => simp [intOf]; omega
          · have q4 : ¬ z0 % 6 = x := fun e => q0 e.symm
            have lr : p11 < wr.heap.size := T11.lt
            obtain ⟨V6_T13, hV6_T13⟩ : ∃ V, wr.alloc (.cells #[.int .i64 (z0 % 6), .int .i64 (n + (j : Int) - z1 % 5), .int .i64 z2] 28) = V := ⟨_, rfl⟩
            have aV6_T13 : Below wr.heap.size wr V6_T13 := by rw [← hV6_T13]; exact (Below.refl _ _).alloc (Nat.le_refl _) _
            have T13 : Blk wr.heap.size [.int .i64 (z0 % 6), .int .i64 (n + (j : Int) - z1 % 5), .int .i64 z2] V6_T13 := by rw [← hV6_T13]; exact Blk.new _ _ _
            replace T4 := T4.later aV6_T13 T4.lt
            replace T7 := T7.later aV6_T13 T7.lt
            replace T11 := T11.later aV6_T13 T11.lt
            replace OX := OX.later aV6_T13
            replace OF := OF.later aV6_T13
            replace b0 := b0.trans (aV6_T13.mono b0.size)
            clear aV6_T13
            have h6L := (cOk_parts hokL).2.1
            have h6F := (cOk_parts hokF).2.1
            have lv : p11 < V6_T13.heap.size := T11.lt
            have k0 := T13.fz 0 rfl
            have k1 := T13.fz 1 rfl
            have k2 := T13.fz 2 rfl
            have q_T4_0 := T4.at 0 rfl
            have q_T4_1 := T4.at 1 rfl
            have q_T4_2 := T4.at 2 rfl
            have q_T7_0 := T7.at 0 rfl
            have q_T7_1 := T7.at 1 rfl
            have q_T11_0 := T11.at 0 rfl
            have q_T11_1 := T11.at 1 rfl
            have q_T13_0 := T13.at 0 rfl
            have q_T13_1 := T13.at 1 rfl
            have q_T13_2 := T13.at 2 rfl
            have HX := implTry_is Q gx cx L (z0 % 6) (n + (j : Int) - z1 % 5) z2 (n + (j : Int)) k V6_T13 OX.row (by omega)
            go_wp2_with fail
            try rw [hV6_T13]
            refine HX.mono ?_
            clear HX q_T4_0 q_T4_1 q_T4_2 q_T7_0 q_T7_1 q_T11_0 q_T11_1 q_T13_0 q_T13_1 q_T13_2 hV6_T13 k0 k1 k2
            rintro e w7 ⟨g2, c2, rfl, o2, hb7⟩
            replace T4 := T4.later hb7 T4.lt
            replace T7 := T7.later hb7 T7.lt
            replace T11 := T11.later hb7 T11.lt
            replace T13 := T13.later hb7 T13.lt
            replace OX := OX.later hb7
            replace OF := OF.later hb7
            replace b0 := b0.trans (hb7.mono b0.size)
            clear hb7
            have N2 : ∀ kk, (Value.slice g2 (tlV Q L (z0 % 6) (n + (j : Int) - z1 % 5) z2 (n + (j : Int)) k).length c2).ownBlock = some kk → kk ≠ p7 ∧ kk ≠ p11 := fun kk hkk => by have := (World.ownsRow.lt o2 kk hkk).1; omega
            replace o2 := o2.le (Nat.zero_le _)
            obtain ⟨eqL, okL2⟩ := try_ok (z0 % 6) (n + (j : Int) - z1 % 5) z2 (n + (j : Int)) k hokL
            have hin2 : (x, y, z) ∈ tlV Q L (z0 % 6) (n + (j : Int) - z1 % 5) z2 (n + (j : Int)) k ∨ y < n + (j : Int) - k := by
              rcases hin with h | h
              · exact try_keep (p := (x, y, z)) (z0 % 6) (n + (j : Int) - z1 % 5) z2 (n + (j : Int)) k hokL h
              · exact Or.inr h
            simp only [eqL]
            clear eqL OX NX hin hokL h6L
            generalize tlV Q L (z0 % 6) (n + (j : Int) - z1 % 5) z2 (n + (j : Int)) k = L2 at *
            generalize tkV Q L (z0 % 6) (n + (j : Int) - z1 % 5) z2 (n + (j : Int)) k = kk2 at *
            have OX := o2
            clear o2
            obtain ⟨V8, hV8⟩ : ∃ v, (w7.setCell ⟨p7, 0, none⟩ (.int .i64 Q)).setCell ⟨p7, 1, none⟩ (.slice g2 L2.length c2) = v := ⟨_, rfl⟩
            have y0 := T7.at 0 rfl
            have y1 := T7.at 1 rfl
            have y2 := T7.fz 0 rfl
            have y3 := T7.fz 1 rfl
            have T4N := (T4.far (g' := p7) (by omega) 0 (.int .i64 Q)).far (g' := p7) (by omega) 1 (.slice g2 L2.length c2)
            rw [hV8] at T4N
            have T7N : Blk p7 [.int .i64 Q, .slice g2 L2.length c2] V8 := by rw [← hV8]; exact (T7.set 0 (.int .i64 Q)).set 1 (.slice g2 L2.length c2)
            have T11N := (T11.far (g' := p7) (by omega) 0 (.int .i64 Q)).far (g' := p7) (by omega) 1 (.slice g2 L2.length c2)
            rw [hV8] at T11N
            have T13N := (T13.far (g' := p7) (by omega) 0 (.int .i64 Q)).far (g' := p7) (by omega) 1 (.slice g2 L2.length c2)
            rw [hV8] at T13N
            have OXN := own_far (own_far OX (fun kk h => (N2 kk h).1) 0 (.int .i64 Q)) (fun kk h => (N2 kk h).1) 1 (.slice g2 L2.length c2)
            rw [hV8] at OXN
            have OFN := own_far (own_far OF (fun kk h => (NF kk h).1) 0 (.int .i64 Q)) (fun kk h => (NF kk h).1) 1 (.slice g2 L2.length c2)
            rw [hV8] at OFN
            have bN := (b0.setCell (p := ⟨p7, 0, none⟩) (by show W.heap.size ≤ p7; omega) (.int .i64 Q)).setCell (p := ⟨p7, 1, none⟩) (by show W.heap.size ≤ p7; omega) (.slice g2 L2.length c2)
            rw [hV8] at bN
            clear T4 T7 T11 T13 OX OF b0
            have T4 := T4N
            have T7 := T7N
            have T11 := T11N
            have T13 := T13N
            have OX := OXN
            have OF := OFN
            have b0 := bN
            clear T4N T7N T11N T13N OXN OFN bN
            have lv2 : p11 < V8.heap.size := T11.lt
            have q_T4_0 := T4.at 0 rfl
            have q_T4_1 := T4.at 1 rfl
            have q_T4_2 := T4.at 2 rfl
            have q_T7_0 := T7.at 0 rfl
            have q_T7_1 := T7.at 1 rfl
            have q_T11_0 := T11.at 0 rfl
            have q_T11_1 := T11.at 1 rfl
            have q_T13_0 := T13.at 0 rfl
            have q_T13_1 := T13.at 1 rfl
            have q_T13_2 := T13.at 2 rfl
            have HX := implTry_is q2 gf cf F (z0 % 6) (n + (j : Int) - z1 % 5) z2 (n + (j : Int)) k V8 OF.row (by omega)
            go_wp2_with fail
            try rw [hV8]
            refine HX.mono ?_
            clear HX q_T4_0 q_T4_1 q_T4_2 q_T7_0 q_T7_1 q_T11_0 q_T11_1 q_T13_0 q_T13_1 q_T13_2 hV8 y0 y1 y2 y3
            rintro e w9 ⟨g4, c4, rfl, o4, hb9⟩
            replace T4 := T4.later hb9 T4.lt
            replace T7 := T7.later hb9 T7.lt
            replace T11 := T11.later hb9 T11.lt
            replace T13 := T13.later hb9 T13.lt
            replace OX := OX.later hb9
            replace OF := OF.later hb9
            replace b0 := b0.trans (hb9.mono b0.size)
            clear hb9
            have N4 : ∀ kk, (Value.slice g4 (tlV q2 F (z0 % 6) (n + (j : Int) - z1 % 5) z2 (n + (j : Int)) k).length c4).ownBlock = some kk → kk ≠ p7 ∧ kk ≠ p11 := fun kk hkk => by have := (World.ownsRow.lt o4 kk hkk).1; omega
            replace o4 := o4.le (Nat.zero_le _)
            obtain ⟨eqF, okF2⟩ := try_ok (z0 % 6) (n + (j : Int) - z1 % 5) z2 (n + (j : Int)) k hokF
            simp only [eqF]
            clear eqF OF NF hokF h6F
            generalize tlV q2 F (z0 % 6) (n + (j : Int) - z1 % 5) z2 (n + (j : Int)) k = F2 at *
            generalize tkV q2 F (z0 % 6) (n + (j : Int) - z1 % 5) z2 (n + (j : Int)) k = kk4 at *
            have OF := o4
            clear o4
            obtain ⟨V10, hV10⟩ : ∃ v, (w9.setCell ⟨p11, 0, none⟩ (.int .i64 q2)).setCell ⟨p11, 1, none⟩ (.slice g4 F2.length c4) = v := ⟨_, rfl⟩
            have y0 := T11.at 0 rfl
            have y1 := T11.at 1 rfl
            have y2 := T11.fz 0 rfl
            have y3 := T11.fz 1 rfl
            have T4N := (T4.far (g' := p11) (by omega) 0 (.int .i64 q2)).far (g' := p11) (by omega) 1 (.slice g4 F2.length c4)
            rw [hV10] at T4N
            have T7N := (T7.far (g' := p11) (by omega) 0 (.int .i64 q2)).far (g' := p11) (by omega) 1 (.slice g4 F2.length c4)
            rw [hV10] at T7N
            have T11N : Blk p11 [.int .i64 q2, .slice g4 F2.length c4] V10 := by rw [← hV10]; exact (T11.set 0 (.int .i64 q2)).set 1 (.slice g4 F2.length c4)
            have T13N := (T13.far (g' := p11) (by omega) 0 (.int .i64 q2)).far (g' := p11) (by omega) 1 (.slice g4 F2.length c4)
            rw [hV10] at T13N
            have OXN := own_far (own_far OX (fun kk h => (N2 kk h).2) 0 (.int .i64 q2)) (fun kk h => (N2 kk h).2) 1 (.slice g4 F2.length c4)
            rw [hV10] at OXN
            have OFN := own_far (own_far OF (fun kk h => (N4 kk h).2) 0 (.int .i64 q2)) (fun kk h => (N4 kk h).2) 1 (.slice g4 F2.length c4)
            rw [hV10] at OFN
            have bN := (b0.setCell (p := ⟨p11, 0, none⟩) (by show W.heap.size ≤ p11; omega) (.int .i64 q2)).setCell (p := ⟨p11, 1, none⟩) (by show W.heap.size ≤ p11; omega) (.slice g4 F2.length c4)
            rw [hV10] at bN
            clear T4 T7 T11 T13 OX OF b0
            have T4 := T4N
            have T7 := T7N
            have T11 := T11N
            have T13 := T13N
            have OX := OXN
            have OF := OFN
            have b0 := bN
            clear T4N T7N T11N T13N OXN OFN bN
            have h6L := (cOk_parts okL2).2.1
            have h6F := (cOk_parts okF2).2.1
            have q_T4_0 := T4.at 0 rfl
            have q_T4_1 := T4.at 1 rfl
            have q_T4_2 := T4.at 2 rfl
            have q_T7_0 := T7.at 0 rfl
            have q_T7_1 := T7.at 1 rfl
            have q_T11_0 := T11.at 0 rfl
            have q_T11_1 := T11.at 1 rfl
            have q_T13_0 := T13.at 0 rfl
            have q_T13_1 := T13.at 1 rfl
            have q_T13_2 := T13.at 2 rfl
            have HX := implTry_is Q g2 c2 L2 x y z (n + (j : Int)) k V10 OX.row (by omega)
            go_wp2_with fail
            try rw [hV10]
            refine HX.mono ?_
            clear HX q_T4_0 q_T4_1 q_T4_2 q_T7_0 q_T7_1 q_T11_0 q_T11_1 q_T13_0 q_T13_1 q_T13_2 hV10 y0 y1 y2 y3
            rintro e w11 ⟨g5, c5, rfl, o5, hb11⟩
            replace T4 := T4.later hb11 T4.lt
            replace T7 := T7.later hb11 T7.lt
            replace T11 := T11.later hb11 T11.lt
            replace T13 := T13.later hb11 T13.lt
            replace OX := OX.later hb11
            replace OF := OF.later hb11
            replace b0 := b0.trans (hb11.mono b0.size)
            clear hb11 o5
            have no5 : tkV Q L2 x y z (n + (j : Int)) k ≠ 0 := try_no hin2
            generalize tkV Q L2 x y z (n + (j : Int)) k = k5 at no5 ⊢
            generalize tlV Q L2 x y z (n + (j : Int)) k = L5 at *
            generalize tqV Q L2 = q5 at *
            obtain ⟨V11_T14, hV11_T14⟩ : ∃ V, w11.alloc (.cells #[.int .i64 q5, .slice g5 L5.length c5] 26) = V := ⟨_, rfl⟩
            have aV11_T14 : Below w11.heap.size w11 V11_T14 := by rw [← hV11_T14]; exact (Below.refl _ _).alloc (Nat.le_refl _) _
            have T14 : Blk w11.heap.size [.int .i64 q5, .slice g5 L5.length c5] V11_T14 := by rw [← hV11_T14]; exact Blk.new _ _ _
            replace T4 := T4.later aV11_T14 T4.lt
            replace T7 := T7.later aV11_T14 T7.lt
            replace T11 := T11.later aV11_T14 T11.lt
            replace T13 := T13.later aV11_T14 T13.lt
            replace OX := OX.later aV11_T14
            replace OF := OF.later aV11_T14
            replace b0 := b0.trans (aV11_T14.mono b0.size)
            clear aV11_T14
            have k0 := T14.fz 0 rfl
            have k1 := T14.fz 1 rfl
            have q_T4_0 := T4.at 0 rfl
            have q_T4_1 := T4.at 1 rfl
            have q_T4_2 := T4.at 2 rfl
            have q_T7_0 := T7.at 0 rfl
            have q_T7_1 := T7.at 1 rfl
            have q_T11_0 := T11.at 0 rfl
            have q_T11_1 := T11.at 1 rfl
            have q_T13_0 := T13.at 0 rfl
            have q_T13_1 := T13.at 1 rfl
            have q_T13_2 := T13.at 2 rfl
            have q_T14_0 := T14.at 0 rfl
            have q_T14_1 := T14.at 1 rfl
            have HX := implTry_is q2 g4 c4 F2 x y z (n + (j : Int)) k V11_T14 OF.row (by omega)
            go_wp2_with fail
            try rw [hV11_T14]
            refine HX.mono ?_
            clear HX q_T4_0 q_T4_1 q_T4_2 q_T7_0 q_T7_1 q_T11_0 q_T11_1 q_T13_0 q_T13_1 q_T13_2 q_T14_0 q_T14_1 hV11_T14 k0 k1
            rintro e w12 ⟨g6, c6, rfl, o6, hb12⟩
            replace T4 := T4.later hb12 T4.lt
            replace T7 := T7.later hb12 T7.lt
            replace T11 := T11.later hb12 T11.lt
            replace T13 := T13.later hb12 T13.lt
            replace T14 := T14.later hb12 T14.lt
            replace OX := OX.later hb12
            replace OF := OF.later hb12
            replace b0 := b0.trans (hb12.mono b0.size)
            clear hb12 o6
            have no6 := hfno F2 (n + (j : Int))
            generalize tkV q2 F2 x y z (n + (j : Int)) k = k6 at no6 ⊢
            generalize tlV q2 F2 x y z (n + (j : Int)) k = L6 at *
            generalize tqV q2 F2 = q6 at *
            obtain ⟨V12_T16, hV12_T16⟩ : ∃ V, w12.alloc (.cells #[.int .i64 q6, .slice g6 L6.length c6] 26) = V := ⟨_, rfl⟩
            have aV12_T16 : Below w12.heap.size w12 V12_T16 := by rw [← hV12_T16]; exact (Below.refl _ _).alloc (Nat.le_refl _) _
            have T16 : Blk w12.heap.size [.int .i64 q6, .slice g6 L6.length c6] V12_T16 := by rw [← hV12_T16]; exact Blk.new _ _ _
            replace T4 := T4.later aV12_T16 T4.lt
            replace T7 := T7.later aV12_T16 T7.lt
            replace T11 := T11.later aV12_T16 T11.lt
            replace T13 := T13.later aV12_T16 T13.lt
            replace T14 := T14.later aV12_T16 T14.lt
            replace OX := OX.later aV12_T16
            replace OF := OF.later aV12_T16
            replace b0 := b0.trans (aV12_T16.mono b0.size)
            clear aV12_T16
            have k0 := T16.fz 0 rfl
            have k1 := T16.fz 1 rfl
            have k2 := T16.at 0 rfl
            have k3 := T16.at 1 rfl
            have e5 : (k5 == 0) = false := beq_eq_false_iff_ne.2 no5
            have e6 : (k6 == 0) = false := beq_eq_false_iff_ne.2 no6
            have R : Hid (∃ (j' : Nat) (gx : Option Addr) (cx : Nat) (L : List A3) (gf : Option Addr) (cf : Nat) (F : List A3), j' ≤ 50 ∧ Value.int .i64 ((j : Int) + 1) = .int .i64 (j' : Int) ∧ cOk Q L = true ∧ ((x, y, z) ∈ L ∨ y < n + (j' : Int) - k) ∧ cOk q2 F = true ∧ Blk p4 [.int .i64 (x), .int .i64 (y), .int .i64 (z)] V12_T16 ∧ Blk p7 [.int .i64 Q, .slice gx L.length cx] V12_T16 ∧ Blk p11 [.int .i64 q2, .slice gf F.length cf] V12_T16 ∧ Own3 0 gx cx L V12_T16 ∧ (∀ kk, (Value.slice gx L.length cx).ownBlock = some kk → kk ≠ p7 ∧ kk ≠ p11) ∧ Own3 0 gf cf F V12_T16 ∧ (∀ kk, (Value.slice gf F.length cf).ownBlock = some kk → kk ≠ p7 ∧ kk ≠ p11) ∧ Below W.heap.size W V12_T16) := ⟨j + 1, g2, c2, L2, g4, c4, F2, by omega, by go_num, okL2, hin2.imp id (fun h => by omega), okF2, T4, T7, T11, OX, N2, OF, N4, b0⟩
            clear T4 T7 T11 T13 T14 OX OF b0 T16
            go_wp2
            try rw [hV12_T16]
            clear hV12_T16
            go_roundw
            case rel => exact R.out
            case measure => simp [intOf]; omega
        · obtain rfl : j = 50 := by omega
          have h6L := (cOk_parts hokL).2.1
          clear T4 T11 OF NF
          have q_T7_0 := T7.at 0 rfl
          have q_T7_1 := T7.at 1 rfl
          have HX := specOk_is Q gx cx L wr OX.row (by omega) OX.cap
          go_wp2_with fail
          refine HX.mono ?_
          clear HX q_T7_0 q_T7_1
          rintro e w7 ⟨rfl, hb7⟩
          replace T7 := T7.later hb7 T7.lt
          replace OX := OX.later hb7
          replace b0 := b0.trans (hb7.mono b0.size)
          clear hb7
          rw [hokL]
          go_wp2
          go_ret
          exact ⟨rfl, b0⟩
    · have el : tlV Q xs x y z n k = xs := by unfold tlV; rw [if_pos hc, if_neg hk0]
      rw [el, eq] at T7
      generalize tkV Q xs x y z n k = tk at hk0 ⊢
      have hk1 : decide (tk = 0) = false := decide_eq_false hk0
      have t0 := T7.at 0 rfl
      have t1 := T7.at 1 rfl
      have s0 := T3.at 0 rfl
      have s1 := T3.at 1 rfl
      clear ux ox
      go_wp2
      go_ret
      exact ⟨by simp, b0⟩
  · rw [Bool.not_eq_true] at hc
    rw [hc]
    have el : tlV Q xs x y z n k = [] := if_neg (by rw [hc]; simp)
    rw [el] at T7
    have t1 := T7.at 1 rfl
    go_wp2
    go_ret
    exact ⟨rfl, b0⟩
end Go.Proofs.Ytmiceknaipimiaa
