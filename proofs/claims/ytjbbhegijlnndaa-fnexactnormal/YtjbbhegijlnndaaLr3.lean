/- The law on Normal. -/
import Derived.Test.YtjbbhegijlnndaaSm0
import Derived.Test.YtjbbhegijlnndaaMa0
import Derived.Test.YtjbbhegijlnndaaMr2
import Derived.Test.YtjbbhegijlnndaaRk3
import Derived.Test.YtjbbhegijlnndaaNc7
import Derived.Test.YtjbbhegijlnndaaLr1
set_option linter.unusedVariables false
set_option maxRecDepth 100000
namespace Go.Proofs.Ytjbbhegijlnndaa.Nd
open Go Go.RowKit Go.Joins Own Draw Go.Proofs.Ytjbbhegijlnndaa

set_option maxHeartbeats 6400000 in
theorem law_normal (r : Rw TT) (w : World) (hr : RpT w r) (lr : RlT r) : Calls Try.prog 7 #[.slice r.1 r.2.2.length r.2.1] w fun en w' => en = .returned (.bool true) ∧ Below w.heap.size w w' := by
  have SM : ∀ {q : Rw TT}, rsT q = nrmP (rsT r) → rtT q ≤ 1048576 ∧ 1 + adL q.2.2 ≤ 4000000 := nrm_sm _
  obtain ⟨DAT, hDAT⟩ : ∃ d, nrmP (rsT r) = d := ⟨_, rfl⟩
  have HD : Hid (nrmP (rsT r) = DAT) := hDAT
  rw [hDAT] at SM
  clear hDAT
  go_enter Try.func7, Try.ntmps7
  have K0 := szST_is r 1048576 w (Nat.le_refl _) hr lr
  go_wp2_with fail
  refine K0.mono ?_
  clear K0
  rintro en w1 ⟨rfl, hb⟩
  have BC : Below w.heap.size w w1 := hb
  clear hb
  by_cases sr : rtT r ≤ 1048576
  rotate_left
  · have e : szV (rtT r) 1048576 = -1 := if_neg sr
    rw [e]
    go_wp2
    go_ret
    exact ⟨rfl, BC⟩
  have e : szV (rtT r) 1048576 = ((1048576 - rtT r : Nat) : Int) := if_pos sr
  rw [e]
  clear e
  obtain ⟨k0, hk0⟩ : ∃ k, 1048576 - rtT r = k := ⟨_, rfl⟩
  rw [hk0]
  have sr_ := sr
  have hkb0 : k0 ≤ 1048576 := by omega
  clear hk0 sr
  have K0 := toST_is r w1 (hr.later BC) sr_
  go_wp2_with fail
  refine K0.mono ?_
  clear K0
  rintro en w2 ⟨x0, rfl, ex0, ox0, hb⟩
  replace BC := BC.trans (hb.mono BC.size)
  have Ex0 : Hid (rsT x0 = rsT r) := ex0
  clear hb ex0
  replace ox0 := ox0.dp
  have p0 := rt_parts (show rtT x0 ≤ 1048576 by rw [rt_same Ex0.out]; exact sr_)
  have K1 := specNormal_is x0 w2 ox0 p0.2 p0.1
  rw [Ex0.out] at K1
  clear p0
  go_wp2_with fail
  refine K1.mono ?_
  clear K1
  rintro en w3 ⟨⟨g0, rfl, e0, r0, _⟩, hb⟩
  replace BC := BC.trans (hb.mono BC.size)
  clear hb ox0 Ex0
  have E0 : Hid (rsT g0 = DAT) := e0.trans HD.out
  clear e0
  have BA : Below w3.heap.size w3 w3 := Below.refl _ _
  have hlo0 := BC.size
  have hla0 := BA.size
  have K0 := toSA_is r w3 (hr.later BC) sr_
  go_wp2_with fail
  refine K0.mono ?_
  clear K0
  rintro en w4 ⟨y0, rfl, ey0, oy0, apy0, hb⟩
  replace BC := BC.trans (hb.mono BC.size)
  replace BA := BA.trans (hb.mono BA.size)
  have zy0 := hb.size
  have Ey0 : Hid (rsT y0 = rsT r) := ey0
  clear hb ey0
  have Ly0 : Hid (∀ c ∈ bvT y0, ∀ k, c.ownBlock = some k → w3.heap.size ≤ k ∧ k < w4.heap.size) := bv_lt oy0
  have APy0 : Hid (ApT y0) := apy0
  clear apy0
  have hloG := BC.size
  have hlaG := BA.size
  have hle0 : w4.heap.size ≤ w4.heap.size := by omega
  have p0 := rt_parts (show rtT y0 ≤ 1048576 by rw [rt_same Ey0.out]; exact sr_)
  have K1 := implNormal_is y0 w4 oy0.dp p0.2 p0.1
  rw [Ey0.out] at K1
  clear p0
  go_wp2_with fail
  refine K1.mono ?_
  clear K1
  rintro en w5 ⟨⟨g1, rfl, e1, r1, ap1⟩, hb⟩
  replace oy0 := oy0.later hb
  replace BC := BC.trans (hb.mono BC.size)
  replace BA := BA.trans (hb.mono BA.size)
  clear hb
  have E1 : Hid (rsT g1 = DAT) := e1.trans HD.out
  have AP1 : Hid (ApT g1) := ap1
  clear e1 ap1
  have K0 := eqST_is g1 g0 w5 r1.dp (r0.later BA).dp (by rw [E1.out, E0.out]) (SM E1.out).1
  go_wp2_with fail
  refine K0.mono ?_
  clear K0
  rintro en w6 ⟨rfl, hb⟩
  replace oy0 := oy0.later hb
  replace r1 := r1.later hb
  replace BC := BC.trans (hb.mono BC.size)
  replace BA := BA.trans (hb.mono BA.size)
  clear hb
  have K0 := toST_is r w6 (hr.later BC) sr_
  go_wp2_with fail
  refine K0.mono ?_
  clear K0
  rintro en w7 ⟨z, rfl, ez, oz, hb⟩
  replace oy0 := oy0.later hb
  replace r1 := r1.later hb
  replace BC := BC.trans (hb.mono BC.size)
  replace BA := BA.trans (hb.mono BA.size)
  have Ez : Hid (rsT z = rsT r) := ez
  clear hb ez
  replace oz := oz.dp
  have K0 := eqST_is y0 z w7 oy0.dp oz (by rw [Ey0.out, Ez.out]) (by rw [rt_same Ey0.out]; exact sr_)
  clear oz Ez
  go_wp2_with fail
  refine K0.mono ?_
  clear K0
  rintro en w8 ⟨rfl, hb⟩
  replace oy0 := oy0.later hb
  replace r1 := r1.later hb
  replace BC := BC.trans (hb.mono BC.size)
  replace BA := BA.trans (hb.mono BA.size)
  clear hb
  have a0 : adL y0.2.2 ≤ 2097152 := by have h_ := ad_tot y0; have h2_ : rtT y0 ≤ 1048576 := (by rw [rt_same Ey0.out]; exact sr_); omega
  have K0 := markR_is w3.heap.size (1) y0 w8 oy0 APy0.out (by omega) (by omega)
  rw [show (((1 : Nat)) : Int) = 1 from rfl] at K0
  obtain ⟨M0, hM0⟩ : ∃ M : Nat, 1 + adL y0.2.2 = M := ⟨_, rfl⟩
  rw [hM0] at K0
  go_wp2_with fail
  refine K0.mono ?_
  clear K0
  rintro en w9 ⟨rfl, _, hb, hc⟩
  replace r1 := r1.chg hc (fun c hm k e => Nat.lt_of_lt_of_le (Ly0.out c hm k e).2 hle0)
  replace BC := BC.trans (hb.mono hlo0)
  replace BA := BA.trans (hb.mono hla0)
  clear hb hc oy0
  have hk0 : ¬ ((M0 : Nat) : Int) < 0 := by omega
  have K0 := eqST_is g1 g0 w9 r1.dp (r0.later BA).dp (by rw [E1.out, E0.out]) (SM E1.out).1
  go_wp2_with fail
  refine K0.mono ?_
  clear K0
  rintro en w10 ⟨rfl, hb⟩
  replace r1 := r1.later hb
  replace BC := BC.trans (hb.mono BC.size)
  replace BA := BA.trans (hb.mono BA.size)
  clear hb
  clear hk0
  have K0 := markR_is w4.heap.size 1 g1 w10 r1 AP1.out (by omega) (SM E1.out).2
  rw [show (((1 : Nat)) : Int) = 1 from rfl] at K0
  obtain ⟨MG, hMG⟩ : ∃ M : Nat, 1 + adL g1.2.2 = M := ⟨_, rfl⟩
  rw [hMG] at K0
  go_wp2_with fail
  refine K0.mono ?_
  clear K0
  rintro en w11 ⟨rfl, rm, hb, _⟩
  replace BC := BC.trans (hb.mono hloG)
  replace BA := BA.trans (hb.mono hlaG)
  clear hb r1
  have hMG0 : ¬ ((MG : Nat) : Int) < 0 := by omega
  have K0 := heldR_is w4.heap.size 1 g1.1 g1.2.1 g1.2.2 w11 rm (Nat.le_refl _) (SM E1.out).2
  rw [show (((1 : Nat)) : Int) = 1 from rfl, hMG] at K0
  have hMM : (((MG : Nat) : Int) != ((MG : Nat) : Int)) = false := by simp
  go_wp2_with fail
  refine K0.mono ?_
  clear K0
  rintro en w12 ⟨rfl, hb⟩
  replace rm := rm.later hb
  replace BC := BC.trans (hb.mono BC.size)
  replace BA := BA.trans (hb.mono BA.size)
  clear hb
  have K0 := toST_is r w12 (hr.later BC) sr_
  go_wp2_with fail
  refine K0.mono ?_
  clear K0
  rintro en w13 ⟨u0, rfl, eu0, ou0, hb⟩
  replace rm := rm.later hb
  replace BC := BC.trans (hb.mono BC.size)
  replace BA := BA.trans (hb.mono BA.size)
  have Eu0 : Hid (rsT u0 = rsT r) := eu0
  clear hb eu0
  replace ou0 := ou0.dp
  have p0 := rt_parts (show rtT u0 ≤ 1048576 by rw [rt_same Eu0.out]; exact sr_)
  have K1 := implNormal_is u0 w13 ou0 p0.2 p0.1
  rw [Eu0.out] at K1
  clear p0
  go_wp2_with fail
  refine K1.mono ?_
  clear K1
  rintro en w14 ⟨⟨g2, rfl, e2, r2, _⟩, hb⟩
  replace rm := rm.later hb
  replace BC := BC.trans (hb.mono BC.size)
  replace BA := BA.trans (hb.mono BA.size)
  clear hb
  have E2 : Hid (rsT g2 = DAT) := e2.trans HD.out
  clear e2
  have K0 := eqST_is g2 g0 w14 r2.dp (r0.later BA).dp (by rw [E2.out, E0.out]) (SM E2.out).1
  go_wp2_with fail
  refine K0.mono ?_
  clear K0
  rintro en w15 ⟨rfl, hb⟩
  replace rm := rm.later hb
  replace BC := BC.trans (hb.mono BC.size)
  replace BA := BA.trans (hb.mono BA.size)
  clear hb
  have K0 := heldR_is w4.heap.size 1 g1.1 g1.2.1 g1.2.2 w15 rm (Nat.le_refl _) (SM E1.out).2
  rw [show (((1 : Nat)) : Int) = 1 from rfl, hMG] at K0
  have hMM : (((MG : Nat) : Int) != ((MG : Nat) : Int)) = false := by simp
  go_wp2_with fail
  refine K0.mono ?_
  clear K0
  rintro en w16 ⟨rfl, hb⟩
  replace rm := rm.later hb
  replace BC := BC.trans (hb.mono BC.size)
  replace BA := BA.trans (hb.mono BA.size)
  clear hb
  go_wp2
  go_ret
  exact ⟨rfl, BC⟩
end Go.Proofs.Ytjbbhegijlnndaa.Nd
