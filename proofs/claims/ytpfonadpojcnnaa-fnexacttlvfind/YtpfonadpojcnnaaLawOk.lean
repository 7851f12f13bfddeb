/- The law on TlvOk. -/
import Derived.Test.YtpfonadpojcnnaaOk1
set_option linter.unusedVariables false
set_option maxRecDepth 100000
namespace Go.Proofs.Ytpfonadpojcnnaa.Nd
open Go Go.RowKit Go.Joins Own Draw Var

theorem rt_rs (q : Rw TT) : rtT q = (rsT q).length + ((rsT q).map (fun p => p.2.2.1.size + p.2.2.2.length)).sum := by
  unfold rtT rsT
  rw [List.length_map, List.map_map]
  rfl
theorem rt_same {q r : Rw TT} (h : rsT q = rsT r) : rtT q = rtT r := by rw [rt_rs, rt_rs, h]
set_option maxRecDepth 100000 in
set_option maxHeartbeats 6400000 in
theorem law_ok (r : Rw TT) (w : World) (hd : RpT w r) (hl : RlT r) : Calls Try.prog 3 #[.slice r.1 r.2.2.length r.2.1] w fun en w' => en = .returned (.bool true) ∧ Below w.heap.size w w' := by
  have K0 := szST_is r 1048576 w (Nat.le_refl _) hd hl
  go_enter Try.func3, Try.ntmps3
  go_wp2_with fail
  refine K0.mono ?_
  clear K0
  rintro en w1 ⟨rfl, b1⟩
  by_cases hs : rtT r ≤ 1048576
  rotate_left
  · have e : szV (rtT r) 1048576 = -1 := if_neg hs
    rw [e]
    go_wp2
    go_ret
    exact ⟨rfl, b1⟩
  have e : szV (rtT r) 1048576 = ((1048576 - rtT r : Nat) : Int) := if_pos hs
  rw [e]
  generalize 1048576 - rtT r = k
  clear e
  have K1 := toST_is r w1 (RpT.later hd b1) hs
  go_wp2_with fail
  refine K1.mono ?_
  clear K1
  rintro en w2 ⟨⟨a1, c1, xs1⟩, rfl, e1, r1, b2⟩
  have bb2 := b1.trans (b2.mono b1.size)
  have K2 := specOk_is a1 c1 xs1 w2 r1.dp (by rw [rt_same e1]; exact hs)
  rw [show xs1.map stT = rsT r from e1] at K2
  go_wp2_with fail
  refine K2.mono ?_
  clear K2
  rintro en w3 ⟨rfl, b3⟩
  have bb3 := bb2.trans (b3.mono bb2.size)
  clear e1 r1 b2 b3
  have K3 := toST_is r w3 (RpT.later hd bb3) hs
  go_wp2_with fail
  refine K3.mono ?_
  clear K3
  rintro en w4 ⟨⟨a2, c2, xs2⟩, rfl, e2, r2, b4⟩
  have bb4 := bb3.trans (b4.mono bb3.size)
  have K4 := implOk_is a2 c2 xs2 w4 r2.dp (by rw [rt_same e2]; exact hs)
  rw [show xs2.map stT = rsT r from e2] at K4
  go_wp2_with fail
  refine K4.mono ?_
  clear K4
  rintro en w5 ⟨rfl, b5⟩
  have bb5 := bb4.trans (b5.mono bb4.size)
  have K5 := toST_is r w5 (RpT.later hd bb5) hs
  obtain ⟨z, hz⟩ : ∃ z, (shM (rsT r)).isSome = z := ⟨_, rfl⟩
  rw [hz]
  have hzz : (z != z) = false := by simp
  have HD : Hid (RpT w5 (a2, c2, xs2)) := RpT.later r2.dp b5
  have HE : Hid (rsT (a2, c2, xs2) = rsT r) := e2
  clear hz e2 r2 b4 b5
  go_wp2_with fail
  refine K5.mono ?_
  clear K5
  rintro en w6 ⟨⟨a3, c3, xs3⟩, rfl, e3, r3, b6⟩
  have bb6 := bb5.trans (b6.mono bb5.size)
  have K6 := eqST_is (a2, c2, xs2) (a3, c3, xs3) w6 (RpT.later HD.out b6) r3.dp (by rw [HE.out, e3]) (by rw [rt_same HE.out]; exact hs)
  try dsimp only at K6
  clear e3 r3 b6 HD HE
  go_wp2_with fail
  refine K6.mono ?_
  clear K6
  rintro en w7 ⟨rfl, b7⟩
  have bb7 := bb6.trans (b7.mono bb6.size)
  clear b7
  go_wp2
  go_ret
  exact ⟨rfl, bb7⟩
end Go.Proofs.Ytpfonadpojcnnaa.Nd
