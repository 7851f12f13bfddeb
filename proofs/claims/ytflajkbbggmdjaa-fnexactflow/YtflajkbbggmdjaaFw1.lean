/- A Rest that is right; the way; acts put behind. -/
import Derived.Test.YtflajkbbggmdjaaFw0
import Derived.Test.YtflajkbbggmdjaaRe2
set_option linter.unusedVariables false
set_option maxRecDepth 100000
namespace Go.Proofs.Ytflajkbbggmdjaa
open Go Go.RowKit Go.Joins Own Draw

set_option maxRecDepth 100000 in
set_option maxHeartbeats 1600000 in
theorem restI_is (t : TR) (w : World) : Calls Try.prog 39 #[vR t] w fun en w' => en = .returned (.bool (restB t)) ∧ Below w.heap.size w w' := by
  obtain ⟨x, y, z⟩ := t
  have hb0 : Below w.heap.size w (w.alloc (.cells #[.int .i64 x, .int .i64 y, .int .i64 z] 38)) := (Below.refl _ _).alloc (Nat.le_refl _) _
  have HV : Hid (restB (x, y, z) = (btw x 0 7 && (btw y 0 255 && btw z 0 100000))) := (rfl : restB (x, y, z) = _)
  go_enter Try.func39, Try.ntmps39
  go_wp2_with fail
  refine (within_is x 7 _).mono ?_
  rintro en w1 ⟨rfl, rfl⟩
  by_cases h0 : btw x 0 7 = true
  · rw [show inB x 7 = true from h0]
    go_wp2_with fail
    refine (within_is y 255 _).mono ?_
    rintro en w1 ⟨rfl, rfl⟩
    by_cases h1 : btw y 0 255 = true
    · rw [show inB y 255 = true from h1]
      go_wp2_with fail
      refine (within_is z 100000 _).mono ?_
      rintro en w1 ⟨rfl, rfl⟩
      go_wp2
      go_ret
      exact ⟨by rw [HV.out, h0, h1]; rfl, hb0⟩
    · rw [show inB y 255 = false from Bool.eq_false_iff.2 h1]
      go_wp2
      go_ret
      exact ⟨by rw [HV.out, h0, Bool.eq_false_iff.2 h1]; rfl, hb0⟩
  · rw [show inB x 7 = false from Bool.eq_false_iff.2 h0]
    go_wp2
    go_ret
    exact ⟨by rw [HV.out, Bool.eq_false_iff.2 h0]; rfl, hb0⟩
set_option maxRecDepth 100000 in
set_option maxHeartbeats 1600000 in
theorem restS_is (t : TR) (w : World) : Calls Try.prog 34 #[vR t] w fun en w' => en = .returned (.bool (restB t)) ∧ Below w.heap.size w w' := by
  obtain ⟨x, y, z⟩ := t
  have hb0 : Below w.heap.size w (w.alloc (.cells #[.int .i64 x, .int .i64 y, .int .i64 z] 38)) := (Below.refl _ _).alloc (Nat.le_refl _) _
  have HV : Hid (restB (x, y, z) = (btw x 0 7 && (btw y 0 255 && btw z 0 100000))) := (rfl : restB (x, y, z) = _)
  go_enter Try.func34, Try.ntmps34
  go_wp2_with fail
  refine (in_is x 0 7 _).mono ?_
  rintro en w1 ⟨rfl, rfl⟩
  by_cases h0 : btw x 0 7 = true
  · rw [show (decide (0 ≤ x) && decide (x ≤ 7)) = true from h0]
    go_wp2_with fail
    refine (in_is y 0 255 _).mono ?_
    rintro en w1 ⟨rfl, rfl⟩
    by_cases h1 : btw y 0 255 = true
    · rw [show (decide (0 ≤ y) && decide (y ≤ 255)) = true from h1]
      go_wp2_with fail
      refine (in_is z 0 100000 _).mono ?_
      rintro en w1 ⟨rfl, rfl⟩
      go_wp2
      go_ret
      exact ⟨by rw [HV.out, h0, h1]; rfl, hb0⟩
    · rw [show (decide (0 ≤ y) && decide (y ≤ 255)) = false from Bool.eq_false_iff.2 h1]
      go_wp2
      go_ret
      exact ⟨by rw [HV.out, h0, Bool.eq_false_iff.2 h1]; rfl, hb0⟩
  · rw [show (decide (0 ≤ x) && decide (x ≤ 7)) = false from Bool.eq_false_iff.2 h0]
    go_wp2
    go_ret
    exact ⟨by rw [HV.out, Bool.eq_false_iff.2 h0]; rfl, hb0⟩
set_option maxRecDepth 100000 in
set_option maxHeartbeats 3200000 in
theorem way_is (c : Cf) (a b : Int) (w : World) (C : CfAt c w) (K : CfOk c) :
    Calls Try.prog 41 #[c.val, .int .i64 a, .int .i64 b] w fun en w' => ∃ (ra : Option Addr) (rc : Nat), en = .returned (.slice ra (wayL c a b).length rc) ∧ w'.ownsRow w.heap.size 3 1 (.slice ra (wayL c a b).length rc) (wayL c a b).length ((wayL c a b).map (Value.int .i64)) ∧ Below w.heap.size w w' := by
  obtain ⟨i0, hi, hz0, hz1, hz2⟩ := info_parts infoInt
  obtain ⟨W1, hW1⟩ : ∃ W1, w.alloc (.cells #[.slice c.ua c.U.length c.uc, .slice c.sa c.S.length c.sc, .slice c.la c.L.length c.lc, .slice c.xa c.X.length c.xc, .int .i64 c.k] 30) = W1 := ⟨_, rfl⟩
  have B0 : Below w.heap.size w W1 := by rw [← hW1]; exact (Below.refl _ _).alloc (Nat.le_refl _) _
  have T0 : Blk w.heap.size c.cells W1 := by rw [← hW1]; exact Blk.new _ _ _
  have Z0 : W1.heap.size = w.heap.size + 1 := by rw [← hW1]; simp
  have B1 : Below w.heap.size w (W1.alloc (.cells #[.int .i64 a] 3)) := B0.alloc B0.size _
  have T1 := T0.alloc (by omega) (.cells #[.int .i64 a] 3)
  have O1 : (W1.alloc (.cells #[.int .i64 a] 3)).ownsRow (w.heap.size + 1) 3 1 (.slice (some ⟨W1.heap.size, 0, none⟩) 1 1) 1 [.int .i64 a] := World.ownsRow_lit _ _ _ (by omega) (by unfold maxLen; omega) rfl
  rw [Z0] at O1
  go_enter Try.func41, Try.ntmps41
  go_wp2
  try rw [hW1]
  clear hW1 Z0 B0 T0
  go_loopw [7, 8] (fun sv av wr => ∃ (ys : List Int) (at' : Int) (oa : Option Addr) (oc : Nat), av = .int .i64 at' ∧ sv = .slice oa ys.length oc ∧ ((at' = a ∧ ys = [a]) ∨ (¬ a = b ∧ ¬ nhV c a b = -1 ∧ at' = nhV c a b ∧ ys = [a, at']) ∨ (¬ a = b ∧ ¬ nhV c a b = -1 ∧ ¬ nhV c a b = b ∧ at' = b ∧ ys = [a, nhV c a b, b])) ∧ wr.ownsRow (w.heap.size + 1) 3 1 (.slice oa ys.length oc) ys.length (ys.map (Value.int .i64)) ∧ Blk w.heap.size c.cells wr ∧ Below w.heap.size w wr) (fun sv _ _ => match sv with | .slice _ n _ => 4 - n | _ => 0)
  case atStart => exact ⟨[a], a, _, _, rfl, rfl, Or.inl ⟨rfl, rfl⟩, O1, T1, B1⟩
  case round =>
    clear O1 T1 B1
    obtain ⟨ys, at', oa, oc, rfl, rfl, HC, hown, T, hbel⟩ := hrel
    have hyl : ys.length ≤ 3 := by rcases HC with ⟨_, rfl⟩ | ⟨_, _, _, rfl⟩ | ⟨_, _, _, _, rfl⟩ <;> simp
    by_cases hat : at' = b
    · have HV : Hid (wayL c a b = ys) := by
        show _ = _
        rcases HC with ⟨rfl, rfl⟩ | ⟨h0, h1, h2, rfl⟩ | ⟨h0, h1, h2, h3, rfl⟩
        · rw [hat, wayL_same]
        · rw [wayL_one h0 h1 (h2.symm.trans hat), hat]
        · rw [wayL_two h0 h1 h2]
      clear HC
      subst hat
      go_wp2
      go_ret
      exact ⟨oa, oc, by rw [HV.out]; rfl, by rw [HV.out]; exact ownsRow_le hown (by omega), hbel⟩
    · have hlt := Nat.lt_of_lt_of_le (Nat.lt_succ_self _) (Nat.le_refl _) (n := w.heap.size)
      have hsz := T.lt
      have d0 := T.at 0 rfl
      have d1 := T.at 1 rfl
      have d2 := T.at 2 rfl
      have d3 := T.at 3 rfl
      have d4 := T.at 4 rfl
      go_wp2_with fail
      refine (implNH_is c at' b wr (C.later hbel) K).mono ?_
      clear d0 d1 d2 d3 d4
      rintro en w2 ⟨rfl, hb2⟩
      replace hown := own_later hown hb2
      replace T := T.later hb2 hsz
      replace hbel := hbel.trans (hb2.mono hbel.size)
      replace hsz := T.lt
      clear hb2 hlt
      by_cases hn : nhV c at' b = -1
      · have HV : Hid (wayL c a b = []) := by
          show _ = _
          rcases HC with ⟨rfl, rfl⟩ | ⟨h0, h1, h2, rfl⟩ | ⟨h0, h1, h2, h3, rfl⟩
          · exact wayL_none hat hn
          · have h4 := hop_on h1 (fun h => hat (h2.trans h))
            rw [← h2, hn] at h4
            have := hop_to h1
            omega
          · exact absurd h3 hat
        rw [hn]
        clear HC hown
        go_wp2
        go_ret
        exact ⟨none, 0, by rw [HV.out]; rfl, by rw [HV.out]; exact ⟨rfl, Or.inl ⟨rfl, rfl⟩⟩, hbel⟩
      · have hge : ¬ nhV c at' b = -1 := hn
        have HC2 : Hid ((¬ a = b ∧ ¬ nhV c a b = -1 ∧ nhV c at' b = nhV c a b ∧ ys ++ [nhV c at' b] = [a, nhV c at' b]) ∨ (¬ a = b ∧ ¬ nhV c a b = -1 ∧ ¬ nhV c a b = b ∧ nhV c at' b = b ∧ ys ++ [nhV c at' b] = [a, nhV c a b, b])) := by
          rcases HC with ⟨rfl, rfl⟩ | ⟨h0, h1, h2, rfl⟩ | ⟨h0, h1, h2, h3, rfl⟩
          · exact Or.inl ⟨hat, hn, rfl, rfl⟩
          · have h4 := hop_on h1 (fun h => hat (h2.trans h))
            rw [← h2] at h4
            exact Or.inr ⟨h0, h1, fun h => hat (h2.trans h), h4, by rw [h4, h2]; rfl⟩
          · exact absurd h3 hat
        have hy2 : ys.length ≤ 2 := by
          rcases HC2.out with ⟨_, _, _, h⟩ | ⟨_, _, _, _, h⟩ <;> (have := congrArg List.length h; simp at this; omega)
        have hbL : Below w2.heap.size w2 (w2.alloc (.cells #[.int .i64 (nhV c at' b)] 3)) := (Below.refl _ _).alloc (Nat.le_refl _) _
        replace hown := own_later hown hbL
        have TN : Blk w2.heap.size [.int .i64 (nhV c at' b)] (w2.alloc (.cells #[.int .i64 (nhV c at' b)] 3)) := Blk.new _ _ _
        replace T := T.later hbL hsz
        replace hbel := hbel.trans (hbL.mono hbel.size)
        generalize nhV c at' b = q at *
        have hnw := news_blk TN
        clear HC hn TN hbL
        go_wp2_with (first | (at_builtin; refine wpList_append_row _ rfl _ _ 22 rfl (w.heap.size + 1) 3 i0 (.int .i64 0) 1 8 Try.underlying22 hi hz0 hz1 hz2 rfl (by decide) _ _ _ rfl hown (some ⟨w2.heap.size, 0, none⟩) 1 1 [.int .i64 q] rfl ?c1 hnw ?c2 ?c3 ?c4 ?c5 (by simp) ?_) | go_in)
        case c1 => simp
        case c2 => intro u hu; rw [List.mem_singleton.1 hu]; rfl
        case c3 => unfold maxLen; omega
        case c4 => omega
        case c5 => have := hbel.size; simp at this ⊢; omega
        intro vA wA ownA hgA
        obtain ⟨na, nc, rfl, _⟩ := own_shape ownA
        have hob : ∀ k, (Value.slice oa ys.length oc).ownBlock = some k → w.heap.size + 1 ≤ k := fun k hk => (hown.lt k hk).1
        replace T : Blk w.heap.size c.cells wA := T.only3 hgA (fun h => by have := hob _ h; omega) (by have := hbel.size; simp at this ⊢; omega)
        replace hbel : Below w.heap.size w wA := hbel.grown hgA (by have := hbel.size; simp at this ⊢; omega) (by intro k hk; have := hob _ hk; omega)
        have hnl : ys.length + 1 = (ys ++ [q]).length := by simp
        rw [hnl] at ownA ⊢
        replace ownA : wA.ownsRow (w.heap.size + 1) 3 1 (.slice na (ys ++ [q]).length nc) (ys ++ [q]).length ((ys ++ [q]).map (Value.int .i64)) := by rw [List.map_append]; exact ownA
        have HM : Hid ((ys ++ [q]).length = ys.length + 1) := hnl.symm
        generalize ys ++ [q] = zs at ownA HC2 HM
        clear hown hgA hnl hnw hob
        go_wp2
        go_roundw
        case rel =>
          refine ⟨zs, q, na, nc, rfl, rfl, ?_, ownA, T, hbel⟩
          rcases HC2.out with ⟨h0, h1, h2, h3⟩ | ⟨h0, h1, h2, h3, h4⟩
          · exact Or.inr (Or.inl ⟨h0, h1, h2, h3⟩)
          · exact Or.inr (Or.inr ⟨h0, h1, h2, h3, h4⟩)
        case measure => have := HM.out; simp; omega
end Go.Proofs.Ytflajkbbggmdjaa
