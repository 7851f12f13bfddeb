/- The law on ShowRules. -/
import Derived.Test.YtjbbhegijlnndaaSx2
import Derived.Test.YtjbbhegijlnndaaSh1
import Derived.Test.YtjbbhegijlnndaaNz1
import Derived.Test.YtjbbhegijlnndaaNc6
import Derived.Test.YtjbbhegijlnndaaNc7
import Derived.Test.YtjbbhegijlnndaaLr1
set_option linter.unusedVariables false
set_option maxRecDepth 100000
namespace Go.Proofs.Ytjbbhegijlnndaa.Nd
open Go Go.RowKit Go.Joins Own Draw Go.Proofs.Ytjbbhegijlnndaa

set_option maxHeartbeats 6400000 in
theorem law_show (r : Rw TT) (w : World) (hr : RpT w r) (lr : RlT r) : Calls Try.prog 10 #[.slice r.1 r.2.2.length r.2.1] w fun en w' => en = .returned (.bool true) ∧ Below w.heap.size w w' := by
  go_enter Try.func10, Try.ntmps10
  have K0 := szST_is r 1048576 w (Nat.le_refl _) hr lr
  go_wp2_with fail
  refine K0.mono ?_
  clear K0
  rintro en w1 ⟨rfl, hb⟩
  have BC : Below w.heap.size w w1 := hb
  clear hb
  by_cases sr : rtT r ≤ 1048576
  rotate_left
  · have e : szV (rtT r) 1048576 = -1 := if_neg sr
    rw [e]
    go_wp2
    go_ret
    exact ⟨rfl, BC⟩
  have e : szV (rtT r) 1048576 = ((1048576 - rtT r : Nat) : Int) := if_pos sr
  rw [e]
  clear e
  obtain ⟨k0, hk0⟩ : ∃ k, 1048576 - rtT r = k := ⟨_, rfl⟩
  rw [hk0]
  have sr_ := sr
  have hkb0 : k0 ≤ 1048576 := by omega
  clear hk0 sr
  have K0 := toST_is r w1 (hr.later BC) sr_
  go_wp2_with fail
  refine K0.mono ?_
  clear K0
  rintro en w2 ⟨x0, rfl, ex0, ox0, hb⟩
  replace BC := BC.trans (hb.mono BC.size)
  replace ox0 := ox0.dp
  have Ex0 : Hid (rsT x0 = rsT r) := ex0
  clear hb ex0
  have K1 := specShow_is x0 w2 ox0 (by rw [rt_same Ex0.out]; exact sr_)
  rw [Ex0.out] at K1
  go_wp2_with fail
  refine K1.mono ?_
  clear K1
  rintro en w3 ⟨rfl, hb⟩
  replace BC := BC.trans (hb.mono BC.size)
  clear hb ox0 Ex0
  have K0 := toST_is r w3 (hr.later BC) sr_
  go_wp2_with fail
  refine K0.mono ?_
  clear K0
  rintro en w4 ⟨y0, rfl, ey0, oy0, hb⟩
  replace BC := BC.trans (hb.mono BC.size)
  replace oy0 := oy0.dp
  have Ey0 : Hid (rsT y0 = rsT r) := ey0
  clear hb ey0
  have K1 := implShow_is y0 w4 oy0 (by rw [rt_same Ey0.out]; exact sr_)
  rw [Ey0.out] at K1
  go_wp2_with fail
  refine K1.mono ?_
  clear K1
  rintro en w5 ⟨rfl, hb⟩
  replace oy0 := oy0.later hb
  replace BC := BC.trans (hb.mono BC.size)
  clear hb
  obtain ⟨z0, hz0⟩ : ∃ z, showP (rsT r) = z := ⟨_, rfl⟩
  rw [hz0]
  have hzz : (z0.toList == z0.toList) = true := by simp
  have hzy : (z0.toList != z0.toList) = false := by simp
  clear hz0
  have K0 := toST_is r w5 (hr.later BC) sr_
  go_wp2_with fail
  refine K0.mono ?_
  clear K0
  rintro en w6 ⟨z, rfl, ez, oz, hb⟩
  replace oy0 := oy0.later hb
  replace BC := BC.trans (hb.mono BC.size)
  replace oz := oz.dp
  have Ez : Hid (rsT z = rsT r) := ez
  clear hb ez
  have K0 := eqST_is y0 z w6 oy0 oz (by rw [Ey0.out, Ez.out]) (by rw [rt_same Ey0.out]; exact sr_)
  clear oz Ez
  go_wp2_with fail
  refine K0.mono ?_
  clear K0
  rintro en w7 ⟨rfl, hb⟩
  replace oy0 := oy0.later hb
  replace BC := BC.trans (hb.mono BC.size)
  clear hb
  go_wp2
  go_ret
  exact ⟨rfl, BC⟩
end Go.Proofs.Ytjbbhegijlnndaa.Nd
