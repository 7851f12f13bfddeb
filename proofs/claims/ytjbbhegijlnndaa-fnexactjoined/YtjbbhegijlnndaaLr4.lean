/- The law on Joined. -/
import Derived.Test.YtjbbhegijlnndaaJo2
import Derived.Test.YtjbbhegijlnndaaMa0
import Derived.Test.YtjbbhegijlnndaaMr2
import Derived.Test.YtjbbhegijlnndaaNc7
import Derived.Test.YtjbbhegijlnndaaLr1
set_option linter.unusedVariables false
set_option maxRecDepth 100000
namespace Go.Proofs.Ytjbbhegijlnndaa.Nd
open Go Go.RowKit Go.Joins Own Draw Go.Proofs.Ytjbbhegijlnndaa

theorem jo_sm (a b : List PT) {q : Rw TT} (h : rsT q = joP a b) : rtT q ≤ 1048576 ∧ 1 + adL q.2.2 ≤ 4000000 := nrm_sm (a ++ b) (h.trans (joP_nrm a b).symm)
set_option maxHeartbeats 6400000 in
theorem law_joined (r : Rw TT) (q : Rw TT) (w : World) (hr : RpT w r) (lr : RlT r) (hq : RpT w q) (lq : RlT q) : Calls Try.prog 8 #[.slice r.1 r.2.2.length r.2.1, .slice q.1 q.2.2.length q.2.1] w fun en w' => en = .returned (.bool true) ∧ Below w.heap.size w w' := by
  have SM : ∀ {q9 : Rw TT}, rsT q9 = joP (rsT r) (rsT q) → rtT q9 ≤ 1048576 ∧ 1 + adL q9.2.2 ≤ 4000000 := jo_sm _ _
  obtain ⟨DAT, hDAT⟩ : ∃ d, joP (rsT r) (rsT q) = d := ⟨_, rfl⟩
  have HD : Hid (joP (rsT r) (rsT q) = DAT) := hDAT
  rw [hDAT] at SM
  clear hDAT
  go_enter Try.func8, Try.ntmps8
  have K0 := szST_is r 1048576 w (Nat.le_refl _) hr lr
  go_wp2_with fail
  refine K0.mono ?_
  clear K0
  rintro en w1 ⟨rfl, hb⟩
  have BC : Below w.heap.size w w1 := hb
  clear hb
  by_cases sr : rtT r ≤ 1048576
  rotate_left
  · have e : szV (rtT r) 1048576 = -1 := if_neg sr
    rw [e]
    go_wp2
    go_ret
    exact ⟨rfl, BC⟩
  have e : szV (rtT r) 1048576 = ((1048576 - rtT r : Nat) : Int) := if_pos sr
  rw [e]
  clear e
  obtain ⟨k0, hk0⟩ : ∃ k, 1048576 - rtT r = k := ⟨_, rfl⟩
  rw [hk0]
  have sr_ := sr
  have hkb0 : k0 ≤ 1048576 := by omega
  have K0 := szST_is q k0 w1 (by omega) (hq.later BC) lq
  go_wp2_with fail
  refine K0.mono ?_
  clear K0
  rintro en w2 ⟨rfl, hb⟩
  replace BC := BC.trans (hb.mono BC.size)
  clear hb
  by_cases sq : rtT q ≤ k0
  rotate_left
  · have e : szV (rtT q) k0 = -1 := if_neg sq
    rw [e]
    go_wp2
    go_ret
    exact ⟨rfl, BC⟩
  have e : szV (rtT q) k0 = ((k0 - rtT q : Nat) : Int) := if_pos sq
  rw [e]
  clear e
  obtain ⟨k1, hk1⟩ : ∃ k, k0 - rtT q = k := ⟨_, rfl⟩
  rw [hk1]
  have sq_ : rtT q ≤ 1048576 := by omega
  have hkb1 : k1 ≤ 1048576 := by omega
  have ssum_ : rtT r + rtT q ≤ 1048576 := by omega
  clear hk0 sr hk1 sq
  have K0 := toST_is r w2 (hr.later BC) sr_
  go_wp2_with fail
  refine K0.mono ?_
  clear K0
  rintro en w3 ⟨x0, rfl, ex0, ox0, hb⟩
  replace BC := BC.trans (hb.mono BC.size)
  have Ex0 : Hid (rsT x0 = rsT r) := ex0
  clear hb ex0
  replace ox0 := ox0.dp
  have K0 := toST_is q w3 (hq.later BC) sq_
  go_wp2_with fail
  refine K0.mono ?_
  clear K0
  rintro en w4 ⟨x1, rfl, ex1, ox1, hb⟩
  replace ox0 := ox0.later hb
  replace BC := BC.trans (hb.mono BC.size)
  have Ex1 : Hid (rsT x1 = rsT q) := ex1
  clear hb ex1
  replace ox1 := ox1.dp
  have K1 := specJoined_is x0 x1 w4 ox0 ox1 (by rw [rt_same Ex0.out, rt_same Ex1.out]; exact ssum_)
  rw [Ex0.out, Ex1.out] at K1
  go_wp2_with fail
  refine K1.mono ?_
  clear K1
  rintro en w5 ⟨⟨g0, rfl, e0, r0, _⟩, hb⟩
  replace BC := BC.trans (hb.mono BC.size)
  clear hb ox0 Ex0 ox1 Ex1
  have E0 : Hid (rsT g0 = DAT) := e0.trans HD.out
  clear e0
  have BA : Below w5.heap.size w5 w5 := Below.refl _ _
  have hlo0 := BC.size
  have hla0 := BA.size
  have K0 := toSA_is r w5 (hr.later BC) sr_
  go_wp2_with fail
  refine K0.mono ?_
  clear K0
  rintro en w6 ⟨y0, rfl, ey0, oy0, apy0, hb⟩
  replace BC := BC.trans (hb.mono BC.size)
  replace BA := BA.trans (hb.mono BA.size)
  have zy0 := hb.size
  have Ey0 : Hid (rsT y0 = rsT r) := ey0
  clear hb ey0
  have Ly0 : Hid (∀ c ∈ bvT y0, ∀ k, c.ownBlock = some k → w5.heap.size ≤ k ∧ k < w6.heap.size) := bv_lt oy0
  have APy0 : Hid (ApT y0) := apy0
  clear apy0
  have hlo1 := BC.size
  have hla1 := BA.size
  have K0 := toSA_is q w6 (hq.later BC) sq_
  go_wp2_with fail
  refine K0.mono ?_
  clear K0
  rintro en w7 ⟨y1, rfl, ey1, oy1, apy1, hb⟩
  replace oy0 := oy0.later hb
  replace BC := BC.trans (hb.mono BC.size)
  replace BA := BA.trans (hb.mono BA.size)
  have zy1 := hb.size
  have Ey1 : Hid (rsT y1 = rsT q) := ey1
  clear hb ey1
  have Ly1 : Hid (∀ c ∈ bvT y1, ∀ k, c.ownBlock = some k → w6.heap.size ≤ k ∧ k < w7.heap.size) := bv_lt oy1
  have APy1 : Hid (ApT y1) := apy1
  clear apy1
  have hloG := BC.size
  have hlaG := BA.size
  have hle0 : w6.heap.size ≤ w7.heap.size := by omega
  have hle1 : w7.heap.size ≤ w7.heap.size := by omega
  have K1 := implJoined_is y0 y1 w7 oy0.dp oy1.dp (by rw [rt_same Ey0.out, rt_same Ey1.out]; exact ssum_)
  rw [Ey0.out, Ey1.out] at K1
  go_wp2_with fail
  refine K1.mono ?_
  clear K1
  rintro en w8 ⟨⟨g1, rfl, e1, r1, ap1⟩, hb⟩
  replace oy0 := oy0.later hb
  replace oy1 := oy1.later hb
  replace BC := BC.trans (hb.mono BC.size)
  replace BA := BA.trans (hb.mono BA.size)
  clear hb
  have E1 : Hid (rsT g1 = DAT) := e1.trans HD.out
  have AP1 : Hid (ApT g1) := ap1
  clear e1 ap1
  have K0 := eqST_is g1 g0 w8 r1.dp (r0.later BA).dp (by rw [E1.out, E0.out]) (SM E1.out).1
  go_wp2_with fail
  refine K0.mono ?_
  clear K0
  rintro en w9 ⟨rfl, hb⟩
  replace oy0 := oy0.later hb
  replace oy1 := oy1.later hb
  replace r1 := r1.later hb
  replace BC := BC.trans (hb.mono BC.size)
  replace BA := BA.trans (hb.mono BA.size)
  clear hb
  have K0 := toST_is r w9 (hr.later BC) sr_
  go_wp2_with fail
  refine K0.mono ?_
  clear K0
  rintro en w10 ⟨z, rfl, ez, oz, hb⟩
  replace oy0 := oy0.later hb
  replace oy1 := oy1.later hb
  replace r1 := r1.later hb
  replace BC := BC.trans (hb.mono BC.size)
  replace BA := BA.trans (hb.mono BA.size)
  have Ez : Hid (rsT z = rsT r) := ez
  clear hb ez
  replace oz := oz.dp
  have K0 := eqST_is y0 z w10 oy0.dp oz (by rw [Ey0.out, Ez.out]) (by rw [rt_same Ey0.out]; exact sr_)
  clear oz Ez
  go_wp2_with fail
  refine K0.mono ?_
  clear K0
  rintro en w11 ⟨rfl, hb⟩
  replace oy0 := oy0.later hb
  replace oy1 := oy1.later hb
  replace r1 := r1.later hb
  replace BC := BC.trans (hb.mono BC.size)
  replace BA := BA.trans (hb.mono BA.size)
  clear hb
  have K0 := toST_is q w11 (hq.later BC) sq_
  go_wp2_with fail
  refine K0.mono ?_
  clear K0
  rintro en w12 ⟨z, rfl, ez, oz, hb⟩
  replace oy0 := oy0.later hb
  replace oy1 := oy1.later hb
  replace r1 := r1.later hb
  replace BC := BC.trans (hb.mono BC.size)
  replace BA := BA.trans (hb.mono BA.size)
  have Ez : Hid (rsT z = rsT q) := ez
  clear hb ez
  replace oz := oz.dp
  have K0 := eqST_is y1 z w12 oy1.dp oz (by rw [Ey1.out, Ez.out]) (by rw [rt_same Ey1.out]; exact sq_)
  clear oz Ez
  go_wp2_with fail
  refine K0.mono ?_
  clear K0
  rintro en w13 ⟨rfl, hb⟩
  replace oy0 := oy0.later hb
  replace oy1 := oy1.later hb
  replace r1 := r1.later hb
  replace BC := BC.trans (hb.mono BC.size)
  replace BA := BA.trans (hb.mono BA.size)
  clear hb
  have a0 : adL y0.2.2 ≤ 2097152 := by have h_ := ad_tot y0; have h2_ : rtT y0 ≤ 1048576 := (by rw [rt_same Ey0.out]; exact sr_); omega
  have K0 := markR_is w5.heap.size (1) y0 w13 oy0 APy0.out (by omega) (by omega)
  rw [show (((1 : Nat)) : Int) = 1 from rfl] at K0
  obtain ⟨M0, hM0⟩ : ∃ M : Nat, 1 + adL y0.2.2 = M := ⟨_, rfl⟩
  rw [hM0] at K0
  go_wp2_with fail
  refine K0.mono ?_
  clear K0
  rintro en w14 ⟨rfl, _, hb, hc⟩
  replace oy1 := oy1.chg hc (fun c hm k e => Nat.lt_of_lt_of_le (Ly0.out c hm k e).2 (by omega))
  replace r1 := r1.chg hc (fun c hm k e => Nat.lt_of_lt_of_le (Ly0.out c hm k e).2 hle0)
  replace BC := BC.trans (hb.mono hlo0)
  replace BA := BA.trans (hb.mono hla0)
  clear hb hc oy0
  have a1 : adL y1.2.2 ≤ 2097152 := by have h_ := ad_tot y1; have h2_ : rtT y1 ≤ 1048576 := (by rw [rt_same Ey1.out]; exact sq_); omega
  have a01 : adL y0.2.2 + adL y1.2.2 ≤ 2097152 := by have h1 := ad_tot y0; have h2 := ad_tot y1; have e1 := rt_same Ey0.out; have e2 := rt_same Ey1.out; omega
  have K0 := markR_is w6.heap.size (M0) y1 w14 oy1 APy1.out (by omega) (by omega)
  obtain ⟨M1, hM1⟩ : ∃ M : Nat, M0 + adL y1.2.2 = M := ⟨_, rfl⟩
  rw [hM1] at K0
  go_wp2_with fail
  refine K0.mono ?_
  clear K0
  rintro en w15 ⟨rfl, _, hb, hc⟩
  replace r1 := r1.chg hc (fun c hm k e => Nat.lt_of_lt_of_le (Ly1.out c hm k e).2 hle1)
  replace BC := BC.trans (hb.mono hlo1)
  replace BA := BA.trans (hb.mono hla1)
  clear hb hc oy1
  have hk0 : ¬ ((M1 : Nat) : Int) < 0 := by omega
  have K0 := eqST_is g1 g0 w15 r1.dp (r0.later BA).dp (by rw [E1.out, E0.out]) (SM E1.out).1
  go_wp2_with fail
  refine K0.mono ?_
  clear K0
  rintro en w16 ⟨rfl, hb⟩
  replace r1 := r1.later hb
  replace BC := BC.trans (hb.mono BC.size)
  replace BA := BA.trans (hb.mono BA.size)
  clear hb
  clear hk0
  have K0 := markR_is w7.heap.size 1 g1 w16 r1 AP1.out (by omega) (SM E1.out).2
  rw [show (((1 : Nat)) : Int) = 1 from rfl] at K0
  obtain ⟨MG, hMG⟩ : ∃ M : Nat, 1 + adL g1.2.2 = M := ⟨_, rfl⟩
  rw [hMG] at K0
  go_wp2_with fail
  refine K0.mono ?_
  clear K0
  rintro en w17 ⟨rfl, rm, hb, _⟩
  replace BC := BC.trans (hb.mono hloG)
  replace BA := BA.trans (hb.mono hlaG)
  clear hb r1
  have hMG0 : ¬ ((MG : Nat) : Int) < 0 := by omega
  have K0 := heldR_is w7.heap.size 1 g1.1 g1.2.1 g1.2.2 w17 rm (Nat.le_refl _) (SM E1.out).2
  rw [show (((1 : Nat)) : Int) = 1 from rfl, hMG] at K0
  have hMM : (((MG : Nat) : Int) != ((MG : Nat) : Int)) = false := by simp
  go_wp2_with fail
  refine K0.mono ?_
  clear K0
  rintro en w18 ⟨rfl, hb⟩
  replace rm := rm.later hb
  replace BC := BC.trans (hb.mono BC.size)
  replace BA := BA.trans (hb.mono BA.size)
  clear hb
  have K0 := toST_is r w18 (hr.later BC) sr_
  go_wp2_with fail
  refine K0.mono ?_
  clear K0
  rintro en w19 ⟨u0, rfl, eu0, ou0, hb⟩
  replace rm := rm.later hb
  replace BC := BC.trans (hb.mono BC.size)
  replace BA := BA.trans (hb.mono BA.size)
  have Eu0 : Hid (rsT u0 = rsT r) := eu0
  clear hb eu0
  replace ou0 := ou0.dp
  have K0 := toST_is q w19 (hq.later BC) sq_
  go_wp2_with fail
  refine K0.mono ?_
  clear K0
  rintro en w20 ⟨u1, rfl, eu1, ou1, hb⟩
  replace rm := rm.later hb
  replace ou0 := ou0.later hb
  replace BC := BC.trans (hb.mono BC.size)
  replace BA := BA.trans (hb.mono BA.size)
  have Eu1 : Hid (rsT u1 = rsT q) := eu1
  clear hb eu1
  replace ou1 := ou1.dp
  have K1 := implJoined_is u0 u1 w20 ou0 ou1 (by rw [rt_same Eu0.out, rt_same Eu1.out]; exact ssum_)
  rw [Eu0.out, Eu1.out] at K1
  go_wp2_with fail
  refine K1.mono ?_
  clear K1
  rintro en w21 ⟨⟨g2, rfl, e2, r2, _⟩, hb⟩
  replace rm := rm.later hb
  replace BC := BC.trans (hb.mono BC.size)
  replace BA := BA.trans (hb.mono BA.size)
  clear hb
  have E2 : Hid (rsT g2 = DAT) := e2.trans HD.out
  clear e2
  have K0 := eqST_is g2 g0 w21 r2.dp (r0.later BA).dp (by rw [E2.out, E0.out]) (SM E2.out).1
  go_wp2_with fail
  refine K0.mono ?_
  clear K0
  rintro en w22 ⟨rfl, hb⟩
  replace rm := rm.later hb
  replace BC := BC.trans (hb.mono BC.size)
  replace BA := BA.trans (hb.mono BA.size)
  clear hb
  have K0 := heldR_is w7.heap.size 1 g1.1 g1.2.1 g1.2.2 w22 rm (Nat.le_refl _) (SM E1.out).2
  rw [show (((1 : Nat)) : Int) = 1 from rfl, hMG] at K0
  have hMM : (((MG : Nat) : Int) != ((MG : Nat) : Int)) = false := by simp
  go_wp2_with fail
  refine K0.mono ?_
  clear K0
  rintro en w23 ⟨rfl, hb⟩
  replace rm := rm.later hb
  replace BC := BC.trans (hb.mono BC.size)
  replace BA := BA.trans (hb.mono BA.size)
  clear hb
  go_wp2
  go_ret
  exact ⟨rfl, BC⟩
end Go.Proofs.Ytjbbhegijlnndaa.Nd
