/- The law on ReadRules. -/
import Derived.Test.YtjbbhegijlnndaaUp3
import Derived.Test.YtjbbhegijlnndaaVs2
import Derived.Test.YtjbbhegijlnndaaMr1
import Derived.Test.YtjbbhegijlnndaaNc6
import Derived.Test.YtjbbhegijlnndaaSm0
import Derived.Test.YtjbbhegijlnndaaLr1
set_option linter.unusedVariables false
set_option maxRecDepth 100000
namespace Go.Proofs.Ytjbbhegijlnndaa.Nd
open Go Go.RowKit Go.Joins Own Draw Go.Proofs.Ytjbbhegijlnndaa

set_option maxHeartbeats 6400000 in
theorem law_read (s : ByteArray) (w : World) : Calls Try.prog 11 #[.string s] w fun en w' => en = .returned (.bool true) ∧ Below w.heap.size w w' := by
  go_enter Try.func11, Try.ntmps11
  by_cases hsz : 1048576 < s.size
  · have c0 : (s.size : Int) > 1048576 := by omega
    go_wp2
    go_ret
    exact ⟨rfl, Below.refl _ _⟩
  have c0 : ¬ ((s.size : Int) > 1048576) := by omega
  have hs : s.size ≤ 1048576 := by omega
  have SM : ∀ {q : Rw TT}, rsT q = (rdI s).1 → rtT q ≤ 1048576 ∧ 1 + adL q.2.2 ≤ 4000000 := fun h => few_small h (rd_small s).1 (rd_small s).2
  have KS := specRead_is s w hs
  rw [← rd_same s] at KS
  have KI := fun W => implRead_is s W hs
  obtain ⟨f, hf⟩ : ∃ f, rdI s = f := ⟨_, rfl⟩
  rw [hf] at KS SM
  simp only [hf] at KI
  clear hf
  obtain ⟨DAT, bb⟩ := f
  dsimp only at SM
  have hbb : (bb != bb) = false := by simp
  have K1 := KS
  clear KS
  go_wp2_with fail
  refine K1.mono ?_
  clear K1
  rintro en w1 ⟨⟨g0, rfl, e0, r0⟩, hb⟩
  have BC := hb
  clear hb
  have E0 : Hid (rsT g0 = DAT) := e0
  clear e0
  have BA : Below w1.heap.size w1 w1 := Below.refl _ _
  have hloG := BC.size
  have K1 := KI w1
  go_wp2_with fail
  refine K1.mono ?_
  clear K1
  rintro en w2 ⟨⟨g1, rfl, e1, r1, ap1⟩, hb⟩
  replace BC := BC.trans (hb.mono BC.size)
  replace BA := BA.trans (hb.mono BA.size)
  clear hb
  have E1 : Hid (rsT g1 = DAT) := e1
  have AP1 : Hid (ApT g1) := ap1
  clear e1 ap1
  dsimp only
  have K0 := eqST_is g1 g0 w2 r1.dp (r0.later BA).dp (by rw [E1.out, E0.out]) (SM E1.out).1
  go_wp2_with fail
  refine K0.mono ?_
  clear K0
  rintro en w3 ⟨rfl, hb⟩
  replace r1 := r1.later hb
  replace BC := BC.trans (hb.mono BC.size)
  replace BA := BA.trans (hb.mono BA.size)
  clear hb
  have K0 := markR_is w1.heap.size 1 g1 w3 r1 AP1.out (by omega) (SM E1.out).2
  rw [show (((1 : Nat)) : Int) = 1 from rfl] at K0
  obtain ⟨MG, hMG⟩ : ∃ M : Nat, 1 + adL g1.2.2 = M := ⟨_, rfl⟩
  rw [hMG] at K0
  go_wp2_with fail
  refine K0.mono ?_
  clear K0
  rintro en w4 ⟨rfl, rm, hb, _⟩
  replace BC := BC.trans (hb.mono hloG)
  replace BA := BA.trans hb
  clear hb r1
  have hMG0 : ¬ ((MG : Nat) : Int) < 0 := by omega
  have K0 := heldR_is w1.heap.size 1 g1.1 g1.2.1 g1.2.2 w4 rm (Nat.le_refl _) (SM E1.out).2
  rw [show (((1 : Nat)) : Int) = 1 from rfl, hMG] at K0
  have hMM : (((MG : Nat) : Int) != ((MG : Nat) : Int)) = false := by simp
  go_wp2_with fail
  refine K0.mono ?_
  clear K0
  rintro en w5 ⟨rfl, hb⟩
  replace rm := rm.later hb
  replace BC := BC.trans (hb.mono BC.size)
  replace BA := BA.trans (hb.mono BA.size)
  clear hb
  have K1 := KI w5
  go_wp2_with fail
  refine K1.mono ?_
  clear K1
  rintro en w6 ⟨⟨g2, rfl, e2, r2, _⟩, hb⟩
  replace rm := rm.later hb
  replace BC := BC.trans (hb.mono BC.size)
  replace BA := BA.trans (hb.mono BA.size)
  clear hb
  have E2 : Hid (rsT g2 = DAT) := e2
  clear e2
  dsimp only
  have K0 := eqST_is g2 g0 w6 r2.dp (r0.later BA).dp (by rw [E2.out, E0.out]) (SM E2.out).1
  go_wp2_with fail
  refine K0.mono ?_
  clear K0
  rintro en w7 ⟨rfl, hb⟩
  replace rm := rm.later hb
  replace BC := BC.trans (hb.mono BC.size)
  replace BA := BA.trans (hb.mono BA.size)
  clear hb
  have K0 := heldR_is w1.heap.size 1 g1.1 g1.2.1 g1.2.2 w7 rm (Nat.le_refl _) (SM E1.out).2
  rw [show (((1 : Nat)) : Int) = 1 from rfl, hMG] at K0
  have hMM : (((MG : Nat) : Int) != ((MG : Nat) : Int)) = false := by simp
  go_wp2_with fail
  refine K0.mono ?_
  clear K0
  rintro en w8 ⟨rfl, hb⟩
  replace rm := rm.later hb
  replace BC := BC.trans (hb.mono BC.size)
  replace BA := BA.trans (hb.mono BA.size)
  clear hb
  go_wp2
  go_ret
  exact ⟨rfl, BC⟩
end Go.Proofs.Ytjbbhegijlnndaa.Nd
