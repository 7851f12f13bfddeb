/- The law on Stricter. -/
import Derived.Test.YtjbbhegijlnndaaSt2
import Derived.Test.YtjbbhegijlnndaaSt3
import Derived.Test.YtjbbhegijlnndaaNz1
import Derived.Test.YtjbbhegijlnndaaNc6
import Derived.Test.YtjbbhegijlnndaaNc7
import Derived.Test.YtjbbhegijlnndaaLr1
set_option linter.unusedVariables false
set_option maxRecDepth 100000
namespace Go.Proofs.Ytjbbhegijlnndaa.Nd
open Go Go.RowKit Go.Joins Own Draw Go.Proofs.Ytjbbhegijlnndaa

set_option maxHeartbeats 6400000 in
theorem law_stricter (r : Rw TT) (q : Rw TT) (w : World) (hr : RpT w r) (lr : RlT r) (hq : RpT w q) (lq : RlT q) : Calls Try.prog 9 #[.slice r.1 r.2.2.length r.2.1, .slice q.1 q.2.2.length q.2.1] w fun en w' => en = .returned (.bool true) ∧ Below w.heap.size w w' := by
  go_enter Try.func9, Try.ntmps9
  have K0 := szST_is r 1048576 w (Nat.le_refl _) hr lr
  go_wp2_with fail
  refine K0.mono ?_
  clear K0
  rintro en w1 ⟨rfl, hb⟩
  have BC : Below w.heap.size w w1 := hb
  clear hb
  by_cases sr : rtT r ≤ 1048576
  rotate_left
  · have e : szV (rtT r) 1048576 = -1 := if_neg sr
    rw [e]
    go_wp2
    go_ret
    exact ⟨rfl, BC⟩
  have e : szV (rtT r) 1048576 = ((1048576 - rtT r : Nat) : Int) := if_pos sr
  rw [e]
  clear e
  obtain ⟨k0, hk0⟩ : ∃ k, 1048576 - rtT r = k := ⟨_, rfl⟩
  rw [hk0]
  have sr_ := sr
  have hkb0 : k0 ≤ 1048576 := by omega
  have K0 := szST_is q k0 w1 (by omega) (hq.later BC) lq
  go_wp2_with fail
  refine K0.mono ?_
  clear K0
  rintro en w2 ⟨rfl, hb⟩
  replace BC := BC.trans (hb.mono BC.size)
  clear hb
  by_cases sq : rtT q ≤ k0
  rotate_left
  · have e : szV (rtT q) k0 = -1 := if_neg sq
    rw [e]
    go_wp2
    go_ret
    exact ⟨rfl, BC⟩
  have e : szV (rtT q) k0 = ((k0 - rtT q : Nat) : Int) := if_pos sq
  rw [e]
  clear e
  obtain ⟨k1, hk1⟩ : ∃ k, k0 - rtT q = k := ⟨_, rfl⟩
  rw [hk1]
  have sq_ : rtT q ≤ 1048576 := by omega
  have hkb1 : k1 ≤ 1048576 := by omega
  have ssum_ : rtT r + rtT q ≤ 1048576 := by omega
  clear hk0 sr hk1 sq
  have K0 := toST_is r w2 (hr.later BC) sr_
  go_wp2_with fail
  refine K0.mono ?_
  clear K0
  rintro en w3 ⟨x0, rfl, ex0, ox0, hb⟩
  replace BC := BC.trans (hb.mono BC.size)
  replace ox0 := ox0.dp
  have Ex0 : Hid (rsT x0 = rsT r) := ex0
  clear hb ex0
  have K0 := toST_is q w3 (hq.later BC) sq_
  go_wp2_with fail
  refine K0.mono ?_
  clear K0
  rintro en w4 ⟨x1, rfl, ex1, ox1, hb⟩
  replace ox0 := ox0.later hb
  replace BC := BC.trans (hb.mono BC.size)
  replace ox1 := ox1.dp
  have Ex1 : Hid (rsT x1 = rsT q) := ex1
  clear hb ex1
  have K1 := specStricter_is x0 x1 w4 ox0 ox1 (by rw [rt_same Ex0.out]; exact sr_) (by rw [rt_same Ex1.out]; exact sq_)
  rw [Ex0.out, Ex1.out] at K1
  go_wp2_with fail
  refine K1.mono ?_
  clear K1
  rintro en w5 ⟨rfl, hb⟩
  replace BC := BC.trans (hb.mono BC.size)
  clear hb ox0 Ex0 ox1 Ex1
  have K0 := toST_is r w5 (hr.later BC) sr_
  go_wp2_with fail
  refine K0.mono ?_
  clear K0
  rintro en w6 ⟨y0, rfl, ey0, oy0, hb⟩
  replace BC := BC.trans (hb.mono BC.size)
  replace oy0 := oy0.dp
  have Ey0 : Hid (rsT y0 = rsT r) := ey0
  clear hb ey0
  have K0 := toST_is q w6 (hq.later BC) sq_
  go_wp2_with fail
  refine K0.mono ?_
  clear K0
  rintro en w7 ⟨y1, rfl, ey1, oy1, hb⟩
  replace oy0 := oy0.later hb
  replace BC := BC.trans (hb.mono BC.size)
  replace oy1 := oy1.dp
  have Ey1 : Hid (rsT y1 = rsT q) := ey1
  clear hb ey1
  have K1 := implStricter_is y0 y1 w7 oy0 oy1 (by rw [rt_same Ey0.out]; exact sr_) (by rw [rt_same Ey1.out]; exact sq_)
  rw [Ey0.out, Ey1.out] at K1
  go_wp2_with fail
  refine K1.mono ?_
  clear K1
  rintro en w8 ⟨rfl, hb⟩
  replace oy0 := oy0.later hb
  replace oy1 := oy1.later hb
  replace BC := BC.trans (hb.mono BC.size)
  clear hb
  obtain ⟨z0, hz0⟩ : ∃ z, strP (rsT r) (rsT q) = z := ⟨_, rfl⟩
  rw [hz0]
  have hzz : (z0 != z0) = false := by simp
  clear hz0
  have K0 := toST_is r w8 (hr.later BC) sr_
  go_wp2_with fail
  refine K0.mono ?_
  clear K0
  rintro en w9 ⟨z, rfl, ez, oz, hb⟩
  replace oy0 := oy0.later hb
  replace oy1 := oy1.later hb
  replace BC := BC.trans (hb.mono BC.size)
  replace oz := oz.dp
  have Ez : Hid (rsT z = rsT r) := ez
  clear hb ez
  have K0 := eqST_is y0 z w9 oy0 oz (by rw [Ey0.out, Ez.out]) (by rw [rt_same Ey0.out]; exact sr_)
  clear oz Ez
  go_wp2_with fail
  refine K0.mono ?_
  clear K0
  rintro en w10 ⟨rfl, hb⟩
  replace oy0 := oy0.later hb
  replace oy1 := oy1.later hb
  replace BC := BC.trans (hb.mono BC.size)
  clear hb
  have K0 := toST_is q w10 (hq.later BC) sq_
  go_wp2_with fail
  refine K0.mono ?_
  clear K0
  rintro en w11 ⟨z, rfl, ez, oz, hb⟩
  replace oy0 := oy0.later hb
  replace oy1 := oy1.later hb
  replace BC := BC.trans (hb.mono BC.size)
  replace oz := oz.dp
  have Ez : Hid (rsT z = rsT q) := ez
  clear hb ez
  have K0 := eqST_is y1 z w11 oy1 oz (by rw [Ey1.out, Ez.out]) (by rw [rt_same Ey1.out]; exact sq_)
  clear oz Ez
  go_wp2_with fail
  refine K0.mono ?_
  clear K0
  rintro en w12 ⟨rfl, hb⟩
  replace oy0 := oy0.later hb
  replace oy1 := oy1.later hb
  replace BC := BC.trans (hb.mono BC.size)
  clear hb
  go_wp2
  go_ret
  exact ⟨rfl, BC⟩
end Go.Proofs.Ytjbbhegijlnndaa.Nd
