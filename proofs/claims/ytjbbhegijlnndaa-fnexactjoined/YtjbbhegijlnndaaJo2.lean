/- Joined of the model. -/
import Derived.Test.YtjbbhegijlnndaaJo1
import Derived.Test.YtjbbhegijlnndaaRk3
set_option linter.unusedVariables false
set_option maxRecDepth 100000
namespace Go.Proofs.Ytjbbhegijlnndaa.Nd
open Go Go.RowKit Go.Joins Own Draw Go.Proofs.Ytjbbhegijlnndaa

theorem build0_run : ∀ (W : World), (Instr.buildSlice 24 0 #[]).run Try.prog W = .ok (.slice (some ⟨W.heap.size, 0, none⟩) 0 0) (W.alloc (.cells #[] 59)) := fun W => by
  obtain ⟨ie0, hie0, hz00, _⟩ := parts_of info59
  simp [Instr.buildSlice, run_underlying Try.underlying24, sizeOf, typeInfo, hie0, newRow, Instr.fill]
  exact congrArg (fun x => W.alloc (.cells x 59)) (Array.eq_empty_of_size_eq_zero (by simp))
set_option maxHeartbeats 3200000 in
theorem specJoined_is (p q : Rw TT) (w : World) (hp : RpT w p) (hq : RpT w q) (l : rtT p + rtT q ≤ 1048576) :
    Calls Try.prog 40 #[.slice p.1 p.2.2.length p.2.1, .slice q.1 q.2.2.length q.2.1] w fun e w' => NrmP (joP (rsT p) (rsT q)) w.heap.size e w' ∧ Below w.heap.size w w' := by
  have p1 := rt_parts (show rtT p ≤ 1048576 by omega)
  have p2 := rt_parts (show rtT q ≤ 1048576 by omega)
  have hll : p.2.2.length + q.2.2.length ≤ 1048576 := by have h1 := rt_parts (Nat.le_refl (rtT p)); have h2 := rt_parts (Nat.le_refl (rtT q)); omega
  have K0 := specRulesOk_is p w hp p1.2 p1.1
  have HP2 : Hid (∀ x ∈ p.2.2, x.2.1.2.2.length ≤ 1048576) := p1.2
  have HQ2 : Hid (∀ x ∈ q.2.2, x.2.1.2.2.length ≤ 1048576) := p2.2
  have hlp := p1.1
  have hlq := p2.1
  clear p1 p2 l
  go_enter Try.func40, Try.ntmps40
  by_cases ha : okL (rsT p) = true
  rotate_left
  · have HN : Hid ([] = joP (rsT p) (rsT q)) := by show _ = _; unfold joP; rw [if_neg (fun c => ha c.1)]
    rw [Bool.not_eq_true] at ha
    rw [ha] at K0
    clear ha HP2 HQ2
    go_wp2_with fail
    refine K0.mono ?_
    clear K0
    rintro en W1 ⟨rfl, BC⟩
    obtain ⟨V, hV⟩ : ∃ V, World.alloc W1 (.cells #[] 59) = V := ⟨_, rfl⟩
    have hbV : Below W1.heap.size W1 V := by rw [← hV]; exact (Below.refl _ _).alloc (Nat.le_refl _) _
    have roV : RoT w.heap.size V (some ⟨W1.heap.size, 0, none⟩, 0, []) := by rw [← hV]; exact RoT.lit BC.size
    have BF : Below w.heap.size w V := BC.trans (hbV.mono BC.size)
    have hbz := build0_run
    go_wp2
    try rw [hV]
    go_ret
    exact ⟨⟨(some ⟨W1.heap.size, 0, none⟩, 0, []), rfl, HN.out, roV, ApT.nil _ _⟩, BF⟩
  rw [ha] at K0
  go_wp2_with fail
  refine K0.mono ?_
  clear K0
  rintro en W1 ⟨rfl, BC⟩
  have K1 := specRulesOk_is q W1 (hq.later BC) HQ2.out hlq
  by_cases hb : okL (rsT q) = true
  rotate_left
  · have HN : Hid ([] = joP (rsT p) (rsT q)) := by show _ = _; unfold joP; rw [if_neg (fun c => hb c.2.1)]
    rw [Bool.not_eq_true] at hb
    rw [hb] at K1
    clear ha hb HP2 HQ2
    go_wp2_with fail
    refine K1.mono ?_
    clear K1
    rintro en W2 ⟨rfl, hb2⟩
    replace BC := BC.trans (hb2.mono BC.size)
    clear hb2
    obtain ⟨V, hV⟩ : ∃ V, World.alloc W2 (.cells #[] 59) = V := ⟨_, rfl⟩
    have hbV : Below W2.heap.size W2 V := by rw [← hV]; exact (Below.refl _ _).alloc (Nat.le_refl _) _
    have roV : RoT w.heap.size V (some ⟨W2.heap.size, 0, none⟩, 0, []) := by rw [← hV]; exact RoT.lit BC.size
    have BF : Below w.heap.size w V := BC.trans (hbV.mono BC.size)
    have hbz := build0_run
    go_wp2
    try rw [hV]
    go_ret
    exact ⟨⟨(some ⟨W2.heap.size, 0, none⟩, 0, []), rfl, HN.out, roV, ApT.nil _ _⟩, BF⟩
  rw [hb] at K1
  have HL : Hid ((rsT p).length = p.2.2.length ∧ (rsT q).length = q.2.2.length) := ⟨by unfold rsT; simp, by unfold rsT; simp⟩
  by_cases hc : p.2.2.length + q.2.2.length ≤ 20
  rotate_left
  · have HN : Hid ([] = joP (rsT p) (rsT q)) := by show _ = _; unfold joP; rw [if_neg (fun c => by have := c.2.2; have h_ := HL.out; omega)]
    have hc2 : (p.2.2.length : Int) + (q.2.2.length : Int) > 20 := by omega
    clear ha hb HP2 HQ2 HL
    go_wp2_with fail
    refine K1.mono ?_
    clear K1
    rintro en W2 ⟨rfl, hb2⟩
    replace BC := BC.trans (hb2.mono BC.size)
    clear hb2
    obtain ⟨V, hV⟩ : ∃ V, World.alloc W2 (.cells #[] 59) = V := ⟨_, rfl⟩
    have hbV : Below W2.heap.size W2 V := by rw [← hV]; exact (Below.refl _ _).alloc (Nat.le_refl _) _
    have roV : RoT w.heap.size V (some ⟨W2.heap.size, 0, none⟩, 0, []) := by rw [← hV]; exact RoT.lit BC.size
    have BF : Below w.heap.size w V := BC.trans (hbV.mono BC.size)
    have hbz := build0_run
    go_wp2
    try rw [hV]
    go_ret
    exact ⟨⟨(some ⟨W2.heap.size, 0, none⟩, 0, []), rfl, HN.out, roV, ApT.nil _ _⟩, BF⟩
  have hc2 : ¬ ((p.2.2.length : Int) + (q.2.2.length : Int) > 20) := by omega
  have HN : Hid (nrmP (rsT p ++ rsT q) = joP (rsT p) (rsT q)) := joP_nrm _ _
  clear ha hb HL hll
  go_wp2_with fail
  refine K1.mono ?_
  clear K1
  rintro en W2 ⟨rfl, hb2⟩
  replace BC := BC.trans (hb2.mono BC.size)
  replace hp := hp.later BC
  replace hq := hq.later BC
  clear hb2
  obtain ⟨V, hV⟩ : ∃ V, World.alloc W2 (.cells #[] 59) = V := ⟨_, rfl⟩
  have hbV : Below W2.heap.size W2 V := by rw [← hV]; exact (Below.refl _ _).alloc (Nat.le_refl _) _
  have roV : V.ownsRow W2.heap.size 59 3 (.slice (some ⟨W2.heap.size, 0, none⟩) 0 0) 0 [] := by rw [← hV]; exact (RoT.lit (Nat.le_refl _)).1
  have hVs := hbV.size
  have hbz := build0_run
  obtain ⟨i0, hi0, hz0, hs0, hb0⟩ := parts_of info59
  have hp1 : FRow 3 cT V p.1 p.2.2 := (hp.later hbV).1
  have hlen := fl_len lT p.2.2
  go_wp2_with (first | (at_builtin; (try rw [hV]); refine wpList_append_row _ rfl _ _ 24 rfl W2.heap.size 59 i0 _ 3 40 Try.underlying24 hi0 hz0 hs0 hb0 rfl (by decide) _ _ _ rfl roV p.1 p.2.2.length p.2.1 (fl cT p.2.2) rfl (fl_len lT _) (news_fl hp1) (one_fl _) (by unfold maxLen; omega) (by omega) hVs (fl_none hp1) ?_) | fail)
  intro v3 w3 ho3 hg3
  obtain ⟨na, nc, rfl, _⟩ := own_shape ho3
  have hb3 : Below W2.heap.size W2 w3 := hbV.grown hg3 hVs (fun k e => (World.ownsRow.lt roV k e).1)
  have hq1 : FRow 3 cT w3 q.1 q.2.2 := (hq.later hb3).1
  clear hp1 hg3 roV hV
  go_wp2_with (first | (at_builtin; refine wpList_append_row _ rfl _ _ 24 rfl W2.heap.size 59 i0 _ 3 40 Try.underlying24 hi0 hz0 hs0 hb0 rfl (by decide) _ _ _ rfl ho3 q.1 q.2.2.length q.2.1 (fl cT q.2.2) rfl (fl_len lT _) (news_fl hq1) (one_fl _) (by unfold maxLen; omega) (by omega) hb3.size (fl_none hq1) ?_) | fail)
  intro v4 w4 ho4 hg4
  obtain ⟨ma, mc, rfl, _⟩ := own_shape ho4
  have hb4 : Below W2.heap.size W2 w4 := hb3.grown hg4 hb3.size (fun k e => (World.ownsRow.lt ho3 k e).1)
  have ho : FOwn 59 3 cT W2.heap.size ma mc (p.2.2 ++ q.2.2) w4 := by unfold FOwn; rw [List.length_append, ← fl_app]; exact ho4
  have hR := rp_app hp hq hb4 ho
  have K2 := specNormal_is (ma, mc, p.2.2 ++ q.2.2) w4 hR (fun x hx => (List.mem_append.1 hx).elim (HP2.out x) (HQ2.out x)) (by rw [List.length_append]; omega)
  rw [rs_app, HN.out] at K2
  dsimp only at K2
  rw [List.length_append] at K2
  replace BC := BC.trans (hb4.mono BC.size)
  have hsw : Hid (w.heap.size ≤ w4.heap.size) := BC.size
  clear ho hR ho4 ho3 hg4 hb4 hb3 hq1 hp hq hbV hlp hlq hlen HP2 HQ2
  go_wp2_with fail
  refine K2.mono ?_
  clear K2
  rintro en W5 ⟨⟨g, rfl, e0, r0, ap⟩, hb⟩
  replace BC := BC.trans (hb.mono BC.size)
  clear hb
  go_wp2
  go_ret
  exact ⟨⟨g, rfl, e0, r0.le hsw.out, ap⟩, BC⟩
end Go.Proofs.Ytjbbhegijlnndaa.Nd
