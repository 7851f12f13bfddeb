/- The next hop: the program and the model. -/
import Derived.Test.YtflajkbbggmdjaaFar
import Derived.Test.YtflajkbbggmdjaaConf2
import Derived.Test.YtflajkbbggmdjaaConf3
set_option linter.unusedVariables false
namespace Go.Proofs.Ytflajkbbggmdjaa
open Go Go.RowKit Draw Own

def nhV (c : Cf) (p q : Int) : Int := if confB c && (btw p 0 2 && btw q 0 2) then hopN (lkH c.L) p.toNat q.toNat else -1
theorem nhV_same {c d : Cf} (E : Same c d) (p q : Int) : nhV d p q = nhV c p q := by unfold nhV; rw [E.conf, E.L]
theorem conf_links {c : Cf} (h : confB c = true) : InR c.L ∧ c.L.length ≤ 6 ∧ (∀ a, a < 3 → lkH c.L a a = false) := by
  unfold confB pairsB at h
  simp only [Bool.and_eq_true, decide_eq_true_eq, List.all_eq_true] at h
  obtain ⟨_, _, ⟨h6, hall, _⟩, _⟩ := h
  refine ⟨fun p hp => ?_, h6, fun a ha => ?_⟩
  · have := hall p hp
    unfold ulB at this
    rw [Bool.and_eq_true, Bool.and_eq_true] at this
    exact ⟨(btw_iff _ _ _).1 this.1, (btw_iff _ _ _).1 this.2.1⟩
  · unfold lkH
    refine decide_eq_false (fun hm => ?_)
    have := hall _ hm
    unfold ulB at this
    simp at this
def hit (h : Nat → Nat → Bool) (f t r : Nat) : Bool := h f r && decide (far h t r < far h t f)
theorem hop_hit (h : Nat → Nat → Bool) (f t : Nat) : ∀ k, k < 3 → (∀ r, r < k → hit h f t r = false) → hit h f t k = true → hopN h f t = (k : Int) := by
  intro k hk ha hh
  have e : hopN h f t = if hit h f t 0 then 0 else if hit h f t 1 then 1 else if hit h f t 2 then 2 else -1 := rfl
  have h3 : k = 0 ∨ k = 1 ∨ k = 2 := by omega
  rcases h3 with rfl | rfl | rfl
  · rw [e, hh]; rfl
  · rw [e, ha 0 (by omega), hh]; rfl
  · rw [e, ha 0 (by omega), ha 1 (by omega), hh]; rfl
theorem hop_none (h : Nat → Nat → Bool) (f t : Nat) (ha : ∀ r, r < 3 → hit h f t r = false) : hopN h f t = -1 := by
  have e : hopN h f t = if hit h f t 0 then 0 else if hit h f t 1 then 1 else if hit h f t 2 then 2 else -1 := rfl
  rw [e, ha 0 (by omega), ha 1 (by omega), ha 2 (by omega)]; rfl
theorem nhV_in (c : Cf) (f t : Nat) (hc : confB c = true) (hf : f < 3) (ht : t < 3) : nhV c (f : Int) (t : Int) = hopN (lkH c.L) f t := by
  unfold nhV
  rw [hc, (btw_iff _ _ _).2 (by omega), (btw_iff _ _ _).2 (by omega)]
  rfl

set_option maxRecDepth 100000 in
set_option maxHeartbeats 12800000 in
theorem implNH_is (c : Cf) (p q : Int) (w : World) (C : CfAt c w) (K : CfOk c) : Calls Try.prog 84 #[c.val, .int .i64 p, .int .i64 q] w fun en w' => en = .returned (.int .i64 (nhV c p q)) ∧ Below w.heap.size w w' := by
  obtain ⟨W1, hW1⟩ : ∃ W1, w.alloc (.cells #[.slice c.ua c.U.length c.uc, .slice c.sa c.S.length c.sc, .slice c.la c.L.length c.lc, .slice c.xa c.X.length c.xc, .int .i64 c.k] 30) = W1 := ⟨_, rfl⟩
  have B0 : Below w.heap.size w W1 := by rw [← hW1]; exact (Below.refl _ _).alloc (Nat.le_refl _) _
  have T0 : Blk w.heap.size c.cells W1 := by rw [← hW1]; exact Blk.new _ _ _
  have Z0 : Hid (w.heap.size < W1.heap.size) := by show _ < _; rw [← hW1]; simp
  have d0 := T0.at 0 rfl
  have d1 := T0.at 1 rfl
  have d2 := T0.at 2 rfl
  have d3 := T0.at 3 rfl
  have d4 := T0.at 4 rfl
  go_enter Try.func84, Try.ntmps84
  go_wp2_with fail
  try rw [hW1]
  refine (right_is c W1 (C.later B0) K).mono ?_
  clear hW1 d0 d1 d2 d3 d4
  rintro en w2 ⟨rfl, hb⟩
  have T2 := T0.later hb Z0.out
  have B2 := B0.trans (hb.mono B0.size)
  have Z2 : Hid (w.heap.size < w2.heap.size) := Nat.lt_of_lt_of_le Z0.out hb.size
  clear T0 Z0 B0 hb
  by_cases hc : confB c = true
  · rw [hc]
    go_wp2_with fail
    refine (realm_is p _).mono ?_
    rintro e w3 ⟨rfl, rfl⟩
    by_cases hp : btw p 0 2 = true
    · rw [hp]
      go_wp2_with fail
      refine (realm_is q _).mono ?_
      rintro e w3 ⟨rfl, rfl⟩
      by_cases hq : btw q 0 2 = true
      · rw [hq]
        obtain ⟨hin, h6, hdiag⟩ := conf_links hc
        obtain ⟨f, rfl⟩ : ∃ f : Nat, p = (f : Int) := ⟨p.toNat, by have := (btw_iff _ _ _).1 hp; omega⟩
        obtain ⟨t, rfl⟩ : ∃ t : Nat, q = (t : Int) := ⟨q.toNat, by have := (btw_iff _ _ _).1 hq; omega⟩
        have hf : f < 3 := by have := (btw_iff _ _ _).1 hp; omega
        have ht : t < 3 := by have := (btw_iff _ _ _).1 hq; omega
        have HV : Hid (nhV c (f : Int) (t : Int) = hopN (lkH c.L) f t) := nhV_in c f t hc hf ht
        have HL := linksOf_is c.la c.lc c.L w2 (C.hl.later B2) h6 (fun p hp => ⟨i64_of _ (hin p hp).1.1 (hin p hp).1.2, i64_of _ (hin p hp).2.1 (hin p hp).2.2⟩)
        clear hc hp hq hdiag
        have d2 := T2.at 2 rfl
        go_wp2_with fail
        refine HL.mono ?_
        clear HL d2
        rintro e w4 ⟨m, rfl, hM, _, hb4⟩
        have B4 := B2.trans (hb4.mono B2.size)
        clear hb4 B2 T2 Z2 hin
        have HW := waysTo_is hM t ht
        go_wp2_with fail
        refine HW.mono ?_
        clear HW
        rintro e w5 ⟨rfl, hb5⟩
        have B5 := B4.trans (hb5.mono B4.size)
        have M5 := hM.kept hb5
        clear hb5 B4 hM
        obtain ⟨zs, hz3, hzr, hz0, hz1, hz2⟩ : ∃ zs : List Int, zs.length = 3 ∧ (∀ r, r < 3 → gt zs r = far (lkH c.L) t r) ∧ far (lkH c.L) t 0 = gt zs 0 ∧ far (lkH c.L) t 1 = gt zs 1 ∧ far (lkH c.L) t 2 = gt zs 2 := by
          refine ⟨[far (lkH c.L) t 0, far (lkH c.L) t 1, far (lkH c.L) t 2], rfl, fun r hr => ?_, rfl, rfl, rfl⟩
          have h3 : r = 0 ∨ r = 1 ∨ r = 2 := by omega
          rcases h3 with rfl | rfl | rfl <;> rfl
        rw [hz0, hz1, hz2]
        obtain ⟨g, hg⟩ : ∃ g, g = w5.heap.size := ⟨_, rfl⟩
        obtain ⟨W6, hW6⟩ : ∃ W6, w5.alloc (.cells #[.int .i64 (gt zs 0), .int .i64 (gt zs 1), .int .i64 (gt zs 2)] 133) = W6 := ⟨_, rfl⟩
        have B6 : Below w.heap.size w W6 := by rw [← hW6]; exact B5.alloc B5.size _
        have Y6 : Blk g (intV zs) W6 := by rw [intV3 hz3, ← hW6, hg]; exact Blk.new _ _ _
        have M6 : LinkM m 6 c.L W6 := by rw [← hW6]; exact M5.kept ((Below.refl _ _).alloc (Nat.le_refl _) _)
        have H0 : Hid (∀ r, r < 3 → gt zs r = far (lkH c.L) t r) := hzr
        clear B5 M5 hz0 hz1 hz2 hzr
        go_wp2
        try rw [hW6]
        try rw [← hg]
        go_loopw [9, 29] (fun v9 i wr => ∃ k : Nat, k ≤ 3 ∧ i = .int .i64 k ∧ (∀ r, r < k → hit (lkH c.L) f t r = false) ∧ Blk g (intV zs) wr ∧ LinkM m 6 c.L wr ∧ Below w.heap.size w wr) (fun _ i _ => 3 - (intOf i).toNat)
        case atStart => exact ⟨0, by omega, rfl, fun r hr => absurd hr (by omega), by first | exact Y6 | (rw [hW6]; exact Y6), by first | exact M6 | (rw [hW6]; exact M6), by first | exact B6 | (rw [hW6]; exact B6)⟩
        case round =>
          clear Y6 M6 B6 hW6 hg
          obtain ⟨k, hk, rfl, hno, Y1, M1, B1⟩ := hrel
          replace hno : Hid (∀ r, r < k → hit (lkH c.L) f t r = false) := hno
          by_cases hlt : k < 3
          · have k2 : (k : Int) < 3 := by omega
            have f2 : (f : Int) < 3 := by omega
            have LI := linked_is (M1.kept (Below.refl _ _).drew) (a := (f : Int)) (b := (k : Int)) (i64_of _ (by omega) (by omega)) (i64_of _ (by omega) (by omega))
            have BD := B1.drew
            have MD := M1.kept (Below.refl _ _).drew
            by_cases hl : lkH c.L f k = true
            · rw [show decide (((f : Int), (k : Int)) ∈ c.L) = true from hl] at LI
              by_cases hh : gt zs k < gt zs f
              · have HH : Hid (hopN (lkH c.L) f t = (k : Int)) := hop_hit _ f t k hlt hno.out (by unfold hit; rw [hl, ← H0.out k hlt, ← H0.out f hf, decide_eq_true hh]; rfl)
                have hh2 : decide (gt zs k < gt zs f) = true := decide_eq_true hh
                clear hl hh H0 hno
                go_wp2_with fail
                refine wp_region_held_drew (S := (fun W : World => Blk g (intV zs) W)) (by kernel_rfl) Y1.drew (fun hHeld => ?_)
                refine take_one 0 32 (v := ?_) rfl rfl (by kernel_rfl) (by kernel_rfl) (by kernel_rfl) (fun _ _ _ h => h) (Or.inl ⟨by rfl, ?_⟩) hHeld ?_
                rotate_left
                · intro w' hSw; (try dsimp only at hSw); have c0 := hSw.at k (cell3 hz3 hlt); have c1 := hSw.at f (cell3 hz3 hf); go_simp; try with_reducible rfl
                try simp only [Act.put, List.setIfInBounds_toArray, List.set_cons_zero, List.set_cons_succ]
                refine take_one 1 33 (v := ?_) rfl rfl (by kernel_rfl) (by kernel_rfl) (by kernel_rfl) (fun _ _ _ h => h) (Or.inl ⟨by rfl, ?_⟩) hHeld ?_
                rotate_left
                · intro w' hSw; (try dsimp only at hSw); have c0 := hSw.at k (cell3 hz3 hlt); have c1 := hSw.at f (cell3 hz3 hf); go_simp; try with_reducible rfl
                try simp only [Act.put, List.setIfInBounds_toArray, List.set_cons_zero, List.set_cons_succ]
                refine take_one 2 34 (v := ?_) rfl rfl (by kernel_rfl) (by kernel_rfl) (by kernel_rfl) (fun _ _ _ h => h) (Or.inl ⟨by rfl, ?_⟩) hHeld ?_
                rotate_left
                · intro w' hSw; (try dsimp only at hSw); have c0 := hSw.at k (cell3 hz3 hlt); have c1 := hSw.at f (cell3 hz3 hf); go_simp; try with_reducible rfl
                try simp only [Act.put, List.setIfInBounds_toArray, List.set_cons_zero, List.set_cons_succ]
                refine wpAnyH_ready (rs := [3]) (by kernel_rfl) (by simp) ?_
                refine AllReadyH.cons (i := 3) rfl (fun K hK => ?_) AllReadyH.nil
                go_simp
                refine (LI).mono ?_
                rintro e w9 ⟨rfl, rfl⟩
                go_wp2_with fail
                refine hK.out _ _ Y1.drew (fun hHeld2 => ?_)
                clear hK K hHeld
                have hHeld := hHeld2
                clear hHeld2
                try simp only [Act.put, List.setIfInBounds_toArray, List.set_cons_zero, List.set_cons_succ]
                refine take_one 4 36 (v := ?_) rfl rfl (by kernel_rfl) (by kernel_rfl) (by kernel_rfl) (fun _ _ _ h => h) (Or.inl ⟨by rfl, ?_⟩) hHeld ?_
                rotate_left
                · intro w' hSw; (try dsimp only at hSw); have c0 := hSw.at k (cell3 hz3 hlt); have c1 := hSw.at f (cell3 hz3 hf); go_simp; try with_reducible rfl
                try simp only [Act.put, List.setIfInBounds_toArray, List.set_cons_zero, List.set_cons_succ]
                refine take_one 5 37 (v := ?_) rfl rfl (by kernel_rfl) (by kernel_rfl) (by kernel_rfl) (fun _ _ _ h => h) (Or.inl ⟨by rfl, ?_⟩) hHeld ?_
                rotate_left
                · intro w' hSw; (try dsimp only at hSw); have c0 := hSw.at k (cell3 hz3 hlt); have c1 := hSw.at f (cell3 hz3 hf); go_simp; try with_reducible rfl
                try simp only [Act.put, List.setIfInBounds_toArray, List.set_cons_zero, List.set_cons_succ]
                refine take_one 6 38 (v := ?_) rfl rfl (by kernel_rfl) (by kernel_rfl) (by kernel_rfl) (fun _ _ _ h => h) (Or.inl ⟨by rfl, ?_⟩) hHeld ?_
                rotate_left
                · intro w' hSw; (try dsimp only at hSw); have c0 := hSw.at k (cell3 hz3 hlt); have c1 := hSw.at f (cell3 hz3 hf); go_simp; try with_reducible rfl
                try simp only [Act.put, List.setIfInBounds_toArray, List.set_cons_zero, List.set_cons_succ]
                refine take_one 7 39 (v := ?_) rfl rfl (by kernel_rfl) (by kernel_rfl) (by kernel_rfl) (fun _ _ _ h => h) (Or.inl ⟨by rfl, ?_⟩) hHeld ?_
                rotate_left
                · intro w' hSw; (try dsimp only at hSw); have c0 := hSw.at k (cell3 hz3 hlt); have c1 := hSw.at f (cell3 hz3 hf); go_simp; try with_reducible rfl
                try simp only [Act.put, List.setIfInBounds_toArray, List.set_cons_zero, List.set_cons_succ]
                refine take_one 8 40 (v := ?_) rfl rfl (by kernel_rfl) (by kernel_rfl) (by kernel_rfl) (fun _ _ _ h => h) (Or.inl ⟨by rfl, ?_⟩) hHeld ?_
                rotate_left
                · intro w' hSw; (try dsimp only at hSw); have c0 := hSw.at k (cell3 hz3 hlt); have c1 := hSw.at f (cell3 hz3 hf); go_simp; try with_reducible rfl
                try simp only [Act.put, List.setIfInBounds_toArray, List.set_cons_zero, List.set_cons_succ]
                refine take_one 9 41 (v := ?_) rfl rfl (by kernel_rfl) (by kernel_rfl) (by kernel_rfl) (fun _ _ _ h => h) (Or.inl ⟨by rfl, ?_⟩) hHeld ?_
                rotate_left
                · intro w' hSw; (try dsimp only at hSw); have c0 := hSw.at k (cell3 hz3 hlt); have c1 := hSw.at f (cell3 hz3 hf); go_simp; try with_reducible rfl
                try simp only [Act.put, List.setIfInBounds_toArray, List.set_cons_zero, List.set_cons_succ]
                refine take_one 10 42 (v := ?_) rfl rfl (by kernel_rfl) (by kernel_rfl) (by kernel_rfl) (fun _ _ _ h => h) (Or.inl ⟨by rfl, ?_⟩) hHeld ?_
                rotate_left
                · intro w' hSw; (try dsimp only at hSw); have c0 := hSw.at k (cell3 hz3 hlt); have c1 := hSw.at f (cell3 hz3 hf); go_simp; try with_reducible rfl
                try simp only [Act.put, List.setIfInBounds_toArray, List.set_cons_zero, List.set_cons_succ]
                refine take_one 11 43 (v := ?_) rfl rfl (by kernel_rfl) (by kernel_rfl) (by kernel_rfl) (fun _ _ _ h => h) (Or.inl ⟨by rfl, ?_⟩) hHeld ?_
                rotate_left
                · intro w' hSw; (try dsimp only at hSw); have c0 := hSw.at k (cell3 hz3 hlt); have c1 := hSw.at f (cell3 hz3 hf); go_simp; try with_reducible rfl
                try simp only [Act.put, List.setIfInBounds_toArray, List.set_cons_zero, List.set_cons_succ]
                refine take_one 12 44 (v := ?_) rfl rfl (by kernel_rfl) (by kernel_rfl) (by kernel_rfl) (fun _ _ _ h => h) (Or.inl ⟨by rfl, ?_⟩) hHeld ?_
                rotate_left
                · intro w' hSw; (try dsimp only at hSw); have c0 := hSw.at k (cell3 hz3 hlt); have c1 := hSw.at f (cell3 hz3 hf); go_simp; try with_reducible rfl
                try simp only [Act.put, List.setIfInBounds_toArray, List.set_cons_zero, List.set_cons_succ]
                refine wpAnyH_done (by kernel_rfl) ?_ _
                clear hHeld
                go_wp2
                go_ret
                exact ⟨by rw [HV.out, HH.out]; rfl, BD⟩
              · have HH : Hid (∀ r, r < k + 1 → hit (lkH c.L) f t r = false) := (fun r hr => (if e : r = k then by subst e; unfold hit; rw [hl, ← H0.out r hlt, ← H0.out f hf, decide_eq_false hh]; rfl else hno.out r (by omega) : hit (lkH c.L) f t r = false))
                have hh2 : decide (gt zs k < gt zs f) = false := decide_eq_false hh
                clear hl hh hno
                go_wp2_with fail
                refine wp_region_held_drew (S := (fun W : World => Blk g (intV zs) W)) (by kernel_rfl) Y1.drew (fun hHeld => ?_)
                refine take_one 0 32 (v := ?_) rfl rfl (by kernel_rfl) (by kernel_rfl) (by kernel_rfl) (fun _ _ _ h => h) (Or.inl ⟨by rfl, ?_⟩) hHeld ?_
                rotate_left
                · intro w' hSw; (try dsimp only at hSw); have c0 := hSw.at k (cell3 hz3 hlt); have c1 := hSw.at f (cell3 hz3 hf); go_simp; try with_reducible rfl
                try simp only [Act.put, List.setIfInBounds_toArray, List.set_cons_zero, List.set_cons_succ]
                refine take_one 1 33 (v := ?_) rfl rfl (by kernel_rfl) (by kernel_rfl) (by kernel_rfl) (fun _ _ _ h => h) (Or.inl ⟨by rfl, ?_⟩) hHeld ?_
                rotate_left
                · intro w' hSw; (try dsimp only at hSw); have c0 := hSw.at k (cell3 hz3 hlt); have c1 := hSw.at f (cell3 hz3 hf); go_simp; try with_reducible rfl
                try simp only [Act.put, List.setIfInBounds_toArray, List.set_cons_zero, List.set_cons_succ]
                refine take_one 2 34 (v := ?_) rfl rfl (by kernel_rfl) (by kernel_rfl) (by kernel_rfl) (fun _ _ _ h => h) (Or.inl ⟨by rfl, ?_⟩) hHeld ?_
                rotate_left
                · intro w' hSw; (try dsimp only at hSw); have c0 := hSw.at k (cell3 hz3 hlt); have c1 := hSw.at f (cell3 hz3 hf); go_simp; try with_reducible rfl
                try simp only [Act.put, List.setIfInBounds_toArray, List.set_cons_zero, List.set_cons_succ]
                refine wpAnyH_ready (rs := [3]) (by kernel_rfl) (by simp) ?_
                refine AllReadyH.cons (i := 3) rfl (fun K hK => ?_) AllReadyH.nil
                go_simp
                refine (LI).mono ?_
                rintro e w9 ⟨rfl, rfl⟩
                go_wp2_with fail
                refine hK.out _ _ Y1.drew (fun hHeld2 => ?_)
                clear hK K hHeld
                have hHeld := hHeld2
                clear hHeld2
                try simp only [Act.put, List.setIfInBounds_toArray, List.set_cons_zero, List.set_cons_succ]
                refine take_one 4 36 (v := ?_) rfl rfl (by kernel_rfl) (by kernel_rfl) (by kernel_rfl) (fun _ _ _ h => h) (Or.inl ⟨by rfl, ?_⟩) hHeld ?_
                rotate_left
                · intro w' hSw; (try dsimp only at hSw); have c0 := hSw.at k (cell3 hz3 hlt); have c1 := hSw.at f (cell3 hz3 hf); go_simp; try with_reducible rfl
                try simp only [Act.put, List.setIfInBounds_toArray, List.set_cons_zero, List.set_cons_succ]
                refine take_one 5 37 (v := ?_) rfl rfl (by kernel_rfl) (by kernel_rfl) (by kernel_rfl) (fun _ _ _ h => h) (Or.inl ⟨by rfl, ?_⟩) hHeld ?_
                rotate_left
                · intro w' hSw; (try dsimp only at hSw); have c0 := hSw.at k (cell3 hz3 hlt); have c1 := hSw.at f (cell3 hz3 hf); go_simp; try with_reducible rfl
                try simp only [Act.put, List.setIfInBounds_toArray, List.set_cons_zero, List.set_cons_succ]
                refine take_one 6 38 (v := ?_) rfl rfl (by kernel_rfl) (by kernel_rfl) (by kernel_rfl) (fun _ _ _ h => h) (Or.inl ⟨by rfl, ?_⟩) hHeld ?_
                rotate_left
                · intro w' hSw; (try dsimp only at hSw); have c0 := hSw.at k (cell3 hz3 hlt); have c1 := hSw.at f (cell3 hz3 hf); go_simp; try with_reducible rfl
                try simp only [Act.put, List.setIfInBounds_toArray, List.set_cons_zero, List.set_cons_succ]
                refine take_one 7 39 (v := ?_) rfl rfl (by kernel_rfl) (by kernel_rfl) (by kernel_rfl) (fun _ _ _ h => h) (Or.inl ⟨by rfl, ?_⟩) hHeld ?_
                rotate_left
                · intro w' hSw; (try dsimp only at hSw); have c0 := hSw.at k (cell3 hz3 hlt); have c1 := hSw.at f (cell3 hz3 hf); go_simp; try with_reducible rfl
                try simp only [Act.put, List.setIfInBounds_toArray, List.set_cons_zero, List.set_cons_succ]
                refine take_one 8 40 (v := ?_) rfl rfl (by kernel_rfl) (by kernel_rfl) (by kernel_rfl) (fun _ _ _ h => h) (Or.inl ⟨by rfl, ?_⟩) hHeld ?_
                rotate_left
                · intro w' hSw; (try dsimp only at hSw); have c0 := hSw.at k (cell3 hz3 hlt); have c1 := hSw.at f (cell3 hz3 hf); go_simp; try with_reducible rfl
                try simp only [Act.put, List.setIfInBounds_toArray, List.set_cons_zero, List.set_cons_succ]
                refine take_one 9 41 (v := ?_) rfl rfl (by kernel_rfl) (by kernel_rfl) (by kernel_rfl) (fun _ _ _ h => h) (Or.inl ⟨by rfl, ?_⟩) hHeld ?_
                rotate_left
                · intro w' hSw; (try dsimp only at hSw); have c0 := hSw.at k (cell3 hz3 hlt); have c1 := hSw.at f (cell3 hz3 hf); go_simp; try with_reducible rfl
                try simp only [Act.put, List.setIfInBounds_toArray, List.set_cons_zero, List.set_cons_succ]
                refine take_one 10 42 (v := ?_) rfl rfl (by kernel_rfl) (by kernel_rfl) (by kernel_rfl) (fun _ _ _ h => h) (Or.inl ⟨by rfl, ?_⟩) hHeld ?_
                rotate_left
                · intro w' hSw; (try dsimp only at hSw); have c0 := hSw.at k (cell3 hz3 hlt); have c1 := hSw.at f (cell3 hz3 hf); go_simp; try with_reducible rfl
                try simp only [Act.put, List.setIfInBounds_toArray, List.set_cons_zero, List.set_cons_succ]
                refine take_one 11 43 (v := ?_) rfl rfl (by kernel_rfl) (by kernel_rfl) (by kernel_rfl) (fun _ _ _ h => h) (Or.inl ⟨by rfl, ?_⟩) hHeld ?_
                rotate_left
                · intro w' hSw; (try dsimp only at hSw); have c0 := hSw.at k (cell3 hz3 hlt); have c1 := hSw.at f (cell3 hz3 hf); go_simp; try with_reducible rfl
                try simp only [Act.put, List.setIfInBounds_toArray, List.set_cons_zero, List.set_cons_succ]
                refine take_one 12 44 (v := ?_) rfl rfl (by kernel_rfl) (by kernel_rfl) (by kernel_rfl) (fun _ _ _ h => h) (Or.inl ⟨by rfl, ?_⟩) hHeld ?_
                rotate_left
                · intro w' hSw; (try dsimp only at hSw); have c0 := hSw.at k (cell3 hz3 hlt); have c1 := hSw.at f (cell3 hz3 hf); go_simp; try with_reducible rfl
                try simp only [Act.put, List.setIfInBounds_toArray, List.set_cons_zero, List.set_cons_succ]
                refine wpAnyH_done (by kernel_rfl) ?_ _
                clear hHeld
                go_wp2
                go_roundw
                case rel =>
                  have R : ∃ k' : Nat, k' ≤ 3 ∧ Value.int .i64 ((k : Int) + 1) = .int .i64 k' ∧ (∀ r, r < k' → hit (lkH c.L) f t r = false) ∧ Blk g (intV zs) wr.drew ∧ LinkM m 6 c.L wr.drew ∧ Below w.heap.size w wr.drew := ⟨k + 1, by omega, by go_num, HH.out, Y1.drew, MD, BD⟩
                  first | exact R | ((repeat apply Exists.intro); exact ⟨R, rfl⟩)
                case measure => simp [intOf]; omega
            · rw [Bool.not_eq_true] at hl
              rw [show decide (((f : Int), (k : Int)) ∈ c.L) = false from hl] at LI
              have HH : Hid (∀ r, r < k + 1 → hit (lkH c.L) f t r = false) := (fun r hr => (if e : r = k then by subst e; unfold hit; rw [hl]; rfl else hno.out r (by omega) : hit (lkH c.L) f t r = false))
              clear hl hno
              go_wp2_with fail
              refine wp_region_held_drew (S := (fun W : World => Blk g (intV zs) W)) (by kernel_rfl) Y1.drew (fun hHeld => ?_)
              refine take_one 0 32 (v := ?_) rfl rfl (by kernel_rfl) (by kernel_rfl) (by kernel_rfl) (fun _ _ _ h => h) (Or.inl ⟨by rfl, ?_⟩) hHeld ?_
              rotate_left
              · intro w' hSw; (try dsimp only at hSw); have c0 := hSw.at k (cell3 hz3 hlt); have c1 := hSw.at f (cell3 hz3 hf); go_simp; try with_reducible rfl
              try simp only [Act.put, List.setIfInBounds_toArray, List.set_cons_zero, List.set_cons_succ]
              refine take_one 1 33 (v := ?_) rfl rfl (by kernel_rfl) (by kernel_rfl) (by kernel_rfl) (fun _ _ _ h => h) (Or.inl ⟨by rfl, ?_⟩) hHeld ?_
              rotate_left
              · intro w' hSw; (try dsimp only at hSw); have c0 := hSw.at k (cell3 hz3 hlt); have c1 := hSw.at f (cell3 hz3 hf); go_simp; try with_reducible rfl
              try simp only [Act.put, List.setIfInBounds_toArray, List.set_cons_zero, List.set_cons_succ]
              refine take_one 2 34 (v := ?_) rfl rfl (by kernel_rfl) (by kernel_rfl) (by kernel_rfl) (fun _ _ _ h => h) (Or.inl ⟨by rfl, ?_⟩) hHeld ?_
              rotate_left
              · intro w' hSw; (try dsimp only at hSw); have c0 := hSw.at k (cell3 hz3 hlt); have c1 := hSw.at f (cell3 hz3 hf); go_simp; try with_reducible rfl
              try simp only [Act.put, List.setIfInBounds_toArray, List.set_cons_zero, List.set_cons_succ]
              refine wpAnyH_ready (rs := [3]) (by kernel_rfl) (by simp) ?_
              refine AllReadyH.cons (i := 3) rfl (fun K hK => ?_) AllReadyH.nil
              go_simp
              refine (LI).mono ?_
              rintro e w9 ⟨rfl, rfl⟩
              go_wp2_with fail
              refine hK.out _ _ Y1.drew (fun hHeld2 => ?_)
              clear hK K hHeld
              have hHeld := hHeld2
              clear hHeld2
              try simp only [Act.put, List.setIfInBounds_toArray, List.set_cons_zero, List.set_cons_succ]
              refine take_one 4 36 (v := ?_) rfl rfl (by kernel_rfl) (by kernel_rfl) (by kernel_rfl) (fun _ _ _ h => h) (Or.inl ⟨by rfl, ?_⟩) hHeld ?_
              rotate_left
              · intro w' hSw; (try dsimp only at hSw); have c0 := hSw.at k (cell3 hz3 hlt); have c1 := hSw.at f (cell3 hz3 hf); go_simp; try with_reducible rfl
              try simp only [Act.put, List.setIfInBounds_toArray, List.set_cons_zero, List.set_cons_succ]
              refine skip_one 5 37 rfl rfl (by kernel_rfl) (by kernel_rfl) (by kernel_rfl) (fun _ _ _ h => h) (unwanted (c := false) rfl rfl (by simp) rfl) hHeld ?_
              try simp only [Act.put, List.setIfInBounds_toArray, List.set_cons_zero, List.set_cons_succ]
              refine skip_one 6 38 rfl rfl (by kernel_rfl) (by kernel_rfl) (by kernel_rfl) (fun _ _ _ h => h) (unwanted (c := false) rfl rfl (by simp) rfl) hHeld ?_
              try simp only [Act.put, List.setIfInBounds_toArray, List.set_cons_zero, List.set_cons_succ]
              refine skip_one 7 39 rfl rfl (by kernel_rfl) (by kernel_rfl) (by kernel_rfl) (fun _ _ _ h => h) (unwanted (c := false) rfl rfl (by simp) rfl) hHeld ?_
              try simp only [Act.put, List.setIfInBounds_toArray, List.set_cons_zero, List.set_cons_succ]
              refine skip_one 8 40 rfl rfl (by kernel_rfl) (by kernel_rfl) (by kernel_rfl) (fun _ _ _ h => h) (unwanted (c := false) rfl rfl (by simp) rfl) hHeld ?_
              try simp only [Act.put, List.setIfInBounds_toArray, List.set_cons_zero, List.set_cons_succ]
              refine skip_one 9 41 rfl rfl (by kernel_rfl) (by kernel_rfl) (by kernel_rfl) (fun _ _ _ h => h) (unwanted (c := false) rfl rfl (by simp) rfl) hHeld ?_
              try simp only [Act.put, List.setIfInBounds_toArray, List.set_cons_zero, List.set_cons_succ]
              refine skip_one 10 42 rfl rfl (by kernel_rfl) (by kernel_rfl) (by kernel_rfl) (fun _ _ _ h => h) (unwanted (c := false) rfl rfl (by simp) rfl) hHeld ?_
              try simp only [Act.put, List.setIfInBounds_toArray, List.set_cons_zero, List.set_cons_succ]
              refine skip_one 11 43 rfl rfl (by kernel_rfl) (by kernel_rfl) (by kernel_rfl) (fun _ _ _ h => h) (unwanted (c := false) rfl rfl (by simp) rfl) hHeld ?_
              try simp only [Act.put, List.setIfInBounds_toArray, List.set_cons_zero, List.set_cons_succ]
              refine take_one 12 44 (v := ?_) rfl rfl (by kernel_rfl) (by kernel_rfl) (by kernel_rfl) (fun _ _ _ h => h) (Or.inl ⟨by rfl, ?_⟩) hHeld ?_
              rotate_left
              · intro w' hSw; (try dsimp only at hSw); have c0 := hSw.at k (cell3 hz3 hlt); have c1 := hSw.at f (cell3 hz3 hf); go_simp; try with_reducible rfl
              try simp only [Act.put, List.setIfInBounds_toArray, List.set_cons_zero, List.set_cons_succ]
              refine wpAnyH_done (by kernel_rfl) ?_ _
              clear hHeld
              go_wp2
              go_roundw
              case rel =>
                have R : ∃ k' : Nat, k' ≤ 3 ∧ Value.int .i64 ((k : Int) + 1) = .int .i64 k' ∧ (∀ r, r < k' → hit (lkH c.L) f t r = false) ∧ Blk g (intV zs) wr.drew ∧ LinkM m 6 c.L wr.drew ∧ Below w.heap.size w wr.drew := ⟨k + 1, by omega, by go_num, HH.out, Y1.drew, MD, BD⟩
                first | exact R | ((repeat apply Exists.intro); exact ⟨R, rfl⟩)
              case measure => simp [intOf]; omega
          · obtain rfl : k = 3 := by omega
            have HH : Hid (hopN (lkH c.L) f t = -1) := hop_none _ f t hno.out
            go_wp2
            go_ret
            exact ⟨by rw [HV.out, HH.out]; rfl, B1⟩
      · rw [Bool.not_eq_true] at hq
        have HV : Hid (nhV c p q = -1) := by show nhV c p q = -1; unfold nhV; rw [hc, hp, hq]; rfl
        rw [hq]
        go_wp2
        go_ret
        exact ⟨by rw [HV.out]; rfl, B2⟩
    · rw [Bool.not_eq_true] at hp
      have HV : Hid (nhV c p q = -1) := by show nhV c p q = -1; unfold nhV; rw [hc, hp]; rfl
      rw [hp]
      go_wp2
      go_ret
      exact ⟨by rw [HV.out]; rfl, B2⟩
  · rw [Bool.not_eq_true] at hc
    have HV : Hid (nhV c p q = -1) := by show nhV c p q = -1; unfold nhV; rw [hc]; rfl
    rw [hc]
    go_wp2
    go_ret
    exact ⟨by rw [HV.out]; rfl, B2⟩
end Go.Proofs.Ytflajkbbggmdjaa
