/- Marks of a Config. -/
import Derived.Test.YtflajkbbggmdjaaMw0
set_option linter.unusedVariables false
set_option maxRecDepth 100000
namespace Go.Proofs.Ytflajkbbggmdjaa.Nd
open Go Go.RowKit Go.Joins Own Draw

def kF (y : TF) : Nat := 1 + y.1.2.2.length + y.2.1.2.2.length + y.2.2.1.2.2.length * 2 + y.2.2.2.1.2.2.length * 2
def MkF (B : Nat) (w : World) (y : TF) : Prop := w.ownsRow B 3 1 (.slice y.1.1 y.1.2.2.length y.1.2.1) y.1.2.2.length (mks (gI (1)) (y.1.2.2.length)) ∧ w.ownsRow B 3 1 (.slice y.2.1.1 y.2.1.2.2.length y.2.1.2.1) y.2.1.2.2.length (mks (gI (1 + y.1.2.2.length)) (y.2.1.2.2.length)) ∧ w.ownsRow B 100 2 (.slice y.2.2.1.1 y.2.2.1.2.2.length y.2.2.1.2.1) y.2.2.1.2.2.length (mks (gP (1 + y.1.2.2.length + y.2.1.2.2.length)) (y.2.2.1.2.2.length * 2)) ∧ w.ownsRow B 100 2 (.slice y.2.2.2.1.1 y.2.2.2.1.2.2.length y.2.2.2.1.2.1) y.2.2.2.1.2.2.length (mks (gP (1 + y.1.2.2.length + y.2.1.2.2.length + y.2.2.1.2.2.length * 2)) (y.2.2.2.1.2.2.length * 2))
theorem MkF.later {B : Nat} {w w' : World} {y : TF} (h : MkF B w y) (hb : Below w.heap.size w w') : MkF B w' y := ⟨own_later h.1 hb, own_later h.2.1 hb, own_later h.2.2.1 hb, own_later h.2.2.2 hb⟩
theorem MkF.chg {B : Nat} {w w' : World} {y : TF} {vs : List Value} (h : MkF B w y) (hc : Chg vs w w') (hv : ∀ c ∈ vs, ∀ v ∈ cF y, Ap v c) : MkF B w' y := ⟨hc.own h.1 (fun c k => hv c k _ (by simp [cF])), hc.own h.2.1 (fun c k => hv c k _ (by simp [cF])), hc.own h.2.2.1 (fun c k => hv c k _ (by simp [cF])), hc.own h.2.2.2 (fun c k => hv c k _ (by simp [cF]))⟩
set_option maxRecDepth 100000 in
set_option maxHeartbeats 3200000 in
theorem markFx_is (B : Nat) (y : TF) (w : World) (h : OwF B w y) (ha : ApF y) (hl : totF y ≤ 1048576) :
    Calls Try.prog 15 #[vF y, .int .i64 1] w fun e w' => e = .returned (.int .i64 ((kF y : Nat) : Int)) ∧ MkF B w' y ∧ Chg (cF y) w w' := by
  obtain ⟨⟨ua, uc, us⟩, ⟨sa, sc, ss⟩, ⟨la, lc, ls⟩, ⟨xa, xc, xs⟩, kk⟩ := y
  obtain ⟨m0, m1, m2, m3⟩ := h
  have h1 : us.length ≤ 1048576 ∧ ss.length ≤ 1048576 ∧ ls.length ≤ 1048576 ∧ xs.length ≤ 1048576 := by
    unfold totF rtI rtP at hl
    dsimp only at hl
    omega
  obtain ⟨l1, l2, l3, l4⟩ := h1
  clear hl
  dsimp only at m0 m1 m2 m3
  obtain ⟨V, hV⟩ : ∃ V, w.alloc (.cells #[.slice ua us.length uc, .slice sa ss.length sc, .slice la ls.length lc, .slice xa xs.length xc, .int .i64 kk] 30) = V := ⟨_, rfl⟩
  have TV : Blk w.heap.size [.slice ua us.length uc, .slice sa ss.length sc, .slice la ls.length lc, .slice xa xs.length xc, .int .i64 kk] V := by rw [← hV]; exact Blk.new _ _ _
  have BC : Below w.heap.size w V := by rw [← hV]; exact (Below.refl _ _).alloc (Nat.le_refl _) _
  obtain ⟨A01, A02, A03, A12, A13, A23⟩ := ha
  have t0 : ∀ k, (Value.slice ua us.length uc).ownBlock = some k → k < w.heap.size := fun k e => (World.ownsRow.lt m0 k e).2
  have t1 : ∀ k, (Value.slice sa ss.length sc).ownBlock = some k → k < w.heap.size := fun k e => (World.ownsRow.lt m1 k e).2
  have t2 : ∀ k, (Value.slice la ls.length lc).ownBlock = some k → k < w.heap.size := fun k e => (World.ownsRow.lt m2 k e).2
  have t3 : ∀ k, (Value.slice xa xs.length xc).ownBlock = some k → k < w.heap.size := fun k e => (World.ownsRow.lt m3 k e).2
  have CH : Chg (cF ((ua, uc, us), (sa, sc, ss), (la, lc, ls), (xa, xc, xs), kk)) w V := Chg.of BC
  replace m0 := own_later m0 BC
  replace m1 := own_later m1 BC
  replace m2 := own_later m2 BC
  replace m3 := own_later m3 BC
  clear BC
  go_enter Try.func15, Try.ntmps15
  have d0 := TV.at 0 rfl
  go_wp2_with fail
  try rw [hV]
  refine (markI_is B (1) _ _ _ _ V m0 (by omega) (by omega)).mono ?_
  clear d0 hV
  rintro e v0 ⟨rfl, mo, hg⟩
  replace m1 := own_kept m1 hg (fun k e => A01.symm k e)
  replace m2 := own_kept m2 hg (fun k e => A02.symm k e)
  replace m3 := own_kept m3 hg (fun k e => A03.symm k e)
  replace m0 := mo
  replace TV := TV.only3 hg (fun e => by have := t0 _ e; omega) TV.lt
  replace CH := CH.trans (Chg.grown hg (by simp [cF]))
  clear mo hg
  have d0 := TV.at 1 rfl
  go_wp2_with fail
  refine (markI_is B (1 + us.length) _ _ _ _ v0 m1 (by omega) (by omega)).mono ?_
  clear d0
  rintro e v1 ⟨rfl, mo, hg⟩
  replace m0 := own_kept m0 hg (fun k e => A01 k e)
  replace m2 := own_kept m2 hg (fun k e => A12.symm k e)
  replace m3 := own_kept m3 hg (fun k e => A13.symm k e)
  replace m1 := mo
  replace TV := TV.only3 hg (fun e => by have := t1 _ e; omega) TV.lt
  replace CH := CH.trans (Chg.grown hg (by simp [cF]))
  clear mo hg
  have d0 := TV.at 2 rfl
  go_wp2_with fail
  refine (markP_is B (1 + us.length + ss.length) _ _ _ _ v1 m2 (by omega) (by omega)).mono ?_
  clear d0
  rintro e v2 ⟨rfl, mo, hg⟩
  replace m0 := own_kept m0 hg (fun k e => A02 k e)
  replace m1 := own_kept m1 hg (fun k e => A12 k e)
  replace m3 := own_kept m3 hg (fun k e => A23.symm k e)
  replace m2 := mo
  replace TV := TV.only3 hg (fun e => by have := t2 _ e; omega) TV.lt
  replace CH := CH.trans (Chg.grown hg (by simp [cF]))
  clear mo hg
  have d0 := TV.at 3 rfl
  go_wp2_with fail
  refine (markP_is B (1 + us.length + ss.length + ls.length * 2) _ _ _ _ v2 m3 (by omega) (by omega)).mono ?_
  clear d0
  rintro e v3 ⟨rfl, mo, hg⟩
  replace m0 := own_kept m0 hg (fun k e => A03 k e)
  replace m1 := own_kept m1 hg (fun k e => A13 k e)
  replace m2 := own_kept m2 hg (fun k e => A23 k e)
  replace m3 := mo
  replace TV := TV.only3 hg (fun e => by have := t3 _ e; omega) TV.lt
  replace CH := CH.trans (Chg.grown hg (by simp [cF]))
  clear mo hg
  go_wp2
  go_ret
  exact ⟨rfl, ⟨m0, m1, m2, m3⟩, CH⟩
set_option maxRecDepth 100000 in
set_option maxHeartbeats 3200000 in
theorem heldF_is (B : Nat) (y : TF) (w : World) (h : MkF B w y) (hl : totF y ≤ 1048576) :
    Calls Try.prog 66 #[vF y, .int .i64 1] w fun e w' => e = .returned (.int .i64 ((kF y : Nat) : Int)) ∧ Below w.heap.size w w' := by
  obtain ⟨⟨ua, uc, us⟩, ⟨sa, sc, ss⟩, ⟨la, lc, ls⟩, ⟨xa, xc, xs⟩, kk⟩ := y
  obtain ⟨m0, m1, m2, m3⟩ := h
  have h1 : us.length ≤ 1048576 ∧ ss.length ≤ 1048576 ∧ ls.length ≤ 1048576 ∧ xs.length ≤ 1048576 := by
    unfold totF rtI rtP at hl
    dsimp only at hl
    omega
  obtain ⟨l1, l2, l3, l4⟩ := h1
  clear hl
  dsimp only at m0 m1 m2 m3
  obtain ⟨V, hV⟩ : ∃ V, w.alloc (.cells #[.slice ua us.length uc, .slice sa ss.length sc, .slice la ls.length lc, .slice xa xs.length xc, .int .i64 kk] 30) = V := ⟨_, rfl⟩
  have TV : Blk w.heap.size [.slice ua us.length uc, .slice sa ss.length sc, .slice la ls.length lc, .slice xa xs.length xc, .int .i64 kk] V := by rw [← hV]; exact Blk.new _ _ _
  have BC : Below w.heap.size w V := by rw [← hV]; exact (Below.refl _ _).alloc (Nat.le_refl _) _
  replace m0 := own_later m0 BC
  replace m1 := own_later m1 BC
  replace m2 := own_later m2 BC
  replace m3 := own_later m3 BC
  go_enter Try.func66, Try.ntmps66
  have d0 := TV.at 0 rfl
  go_wp2_with fail
  try rw [hV]
  refine (heldI_is B (1) _ _ _ V m0 (by omega) (by omega)).mono ?_
  clear d0 hV
  rintro e v0 ⟨rfl, hb⟩
  replace m1 := own_later m1 hb
  replace m2 := own_later m2 hb
  replace m3 := own_later m3 hb
  replace TV := TV.later hb TV.lt
  replace BC := BC.trans (hb.mono BC.size)
  have nk : ¬ (((1 + us.length : Nat) : Int) < 0) := by omega
  clear hb
  have d0 := TV.at 1 rfl
  go_wp2_with fail
  refine (heldI_is B (1 + us.length) _ _ _ v0 m1 (by omega) (by omega)).mono ?_
  clear d0 nk
  rintro e v1 ⟨rfl, hb⟩
  replace m2 := own_later m2 hb
  replace m3 := own_later m3 hb
  replace TV := TV.later hb TV.lt
  replace BC := BC.trans (hb.mono BC.size)
  have nk : ¬ (((1 + us.length + ss.length : Nat) : Int) < 0) := by omega
  clear hb
  have d0 := TV.at 2 rfl
  go_wp2_with fail
  refine (heldP_is B (1 + us.length + ss.length) _ _ _ v1 m2 (by omega) (by omega)).mono ?_
  clear d0 nk
  rintro e v2 ⟨rfl, hb⟩
  replace m3 := own_later m3 hb
  replace TV := TV.later hb TV.lt
  replace BC := BC.trans (hb.mono BC.size)
  have nk : ¬ (((1 + us.length + ss.length + ls.length * 2 : Nat) : Int) < 0) := by omega
  clear hb
  have d0 := TV.at 3 rfl
  go_wp2_with fail
  refine (heldP_is B (1 + us.length + ss.length + ls.length * 2) _ _ _ v2 m3 (by omega) (by omega)).mono ?_
  clear d0 nk
  rintro e v3 ⟨rfl, hb⟩
  replace TV := TV.later hb TV.lt
  replace BC := BC.trans (hb.mono BC.size)
  have nk : ¬ (((1 + us.length + ss.length + ls.length * 2 + xs.length * 2 : Nat) : Int) < 0) := by omega
  clear hb
  go_wp2
  go_ret
  exact ⟨rfl, BC⟩
end Go.Proofs.Ytflajkbbggmdjaa.Nd
