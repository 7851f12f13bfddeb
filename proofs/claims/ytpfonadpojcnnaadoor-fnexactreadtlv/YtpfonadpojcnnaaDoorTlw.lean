/- The law on ReadTlv. -/
import Derived.Test.YtpfonadpojcnnaaDoorTd4
import Derived.Test.YtpfonadpojcnnaaDoorTm2
import Derived.Test.YtpfonadpojcnnaaDoorNc7
import Derived.Test.YtpfonadpojcnnaaDoorRd4
set_option linter.unusedVariables false
set_option maxRecDepth 100000
namespace Go.Proofs.YtpfonadpojcnnaaDoor.Nd
open Go Go.RowKit Go.Joins Own Draw Var

theorem ad_small {xs : List TT} (h1 : xs.length ≤ 60) (h2 : ∀ x ∈ xs, x.2.2.2.2.2.length ≤ 60) : 1 + adL xs ≤ 900000 := by
  have hs := sum_small adT 63 xs (fun x h => by have := h2 x h; unfold adT; omega)
  have : xs.length * 63 ≤ 60 * 63 := Nat.mul_le_mul_right _ h1
  unfold adL
  omega
set_option maxRecDepth 100000 in
set_option maxHeartbeats 6400000 in
theorem law_read (s : ByteArray) (w : World) (hg : w.cell? ⟨0, 0, none⟩ = some HdV) : Calls Tryd.prog 3 #[.string s] w fun en w' => en = .returned (.bool true) ∧ Below w.heap.size w w' := by
  have hlt : 0 < w.heap.size := by
    rcases Nat.eq_zero_or_pos w.heap.size with h0 | h
    · simp [World.cell?, h0] at hg
    · exact h
  go_enter Tryd.func3, Tryd.ntmps3
  by_cases hsz : 1048576 < s.size
  · have c0 : (1048576 : Int) < (s.size : Int) := by omega
    go_wp2
    go_ret
    exact ⟨rfl, Below.refl _ _⟩
  have c0 : ¬ (1048576 : Int) < (s.size : Int) := by omega
  have HS := rd_small s
  have K1 := specRead_is s w
  go_wp2_with fail
  refine K1.mono ?_
  clear K1
  rintro en w1 ⟨⟨a0, c0', xs0⟩, rfl, e0, r0, ap0, b1⟩
  have HG : Hid (w1.cell? ⟨0, 0, none⟩ = some HdV) := (b1.cell hlt).trans hg
  have hl1 : 0 < w1.heap.size := Nat.lt_of_lt_of_le hlt b1.size
  clear hg
  have K2 := implRead_is s w1 HG.out
  go_wp2_with fail
  refine K2.mono ?_
  clear K2
  rintro en w2 ⟨⟨a1, c1, xs1⟩, rfl, e1, r1, ap1, b2⟩
  have sm := rt_small (q := (a1, c1, xs1)) (by rw [e1]; exact HS.1) (by rw [e1]; exact HS.2)
  have K3 := eqST_is (a1, c1, xs1) (a0, c0', xs0) w2 r1.dp (RoT.later r0 b2).dp (by rw [e1, e0]) sm.1
  have hA := ad_small sm.2.1 sm.2.2
  try dsimp only at hA K3
  have H1 : Hid (rsT (a0, c0', xs0) = (rdT s).1) := e0
  have HC := fun W hW => implRead_is s W hW
  generalize hcd : (rdT s).2 = cd at HC ⊢
  clear e0 e1 hcd
  go_wp2_with fail
  refine K3.mono ?_
  clear K3
  rintro en w3 ⟨rfl, b3⟩
  have BB := b2.trans (b3.mono b2.size)
  have K4 := markT_is w1.heap.size 1 (a1, c1, xs1) w3 (RoT.later r1 b3) ap1 (Nat.le_refl _) hA
  rw [show (((1 : Nat)) : Int) = 1 from rfl] at K4
  clear r1 b2 b3 ap1
  generalize hM : (((1 + adL xs1 : Nat)) : Int) = M
  have hM0 : ¬ M < 0 := by rw [← hM]; omega
  try dsimp only at K4
  rw [hM] at K4
  go_wp2_with fail
  refine K4.mono ?_
  clear K4
  rintro en w4 ⟨rfl, rm, b4⟩
  replace BB := BB.trans b4
  have K5 := heldT_is w1.heap.size 1 a1 c1 xs1 w4 rm (Nat.le_refl _) hA
  rw [show (((1 : Nat)) : Int) = 1 from rfl, hM] at K5
  clear b4
  go_wp2_with fail
  refine K5.mono ?_
  clear K5
  rintro en w5 ⟨rfl, b5⟩
  replace rm := RoT.later rm b5
  replace BB := BB.trans (b5.mono BB.size)
  have K6 := HC w5 ((BB.cell hl1).trans HG.out)
  have hMM : (M != M) = false := by simp
  clear b5
  go_wp2_with fail
  refine K6.mono ?_
  clear K6
  rintro en w6 ⟨⟨a2, c2, xs2⟩, rfl, e2, r2, ap2, b6⟩
  have sm2 := rt_small (q := (a2, c2, xs2)) (by rw [e2]; exact HS.1) (by rw [e2]; exact HS.2)
  replace rm := RoT.later rm b6
  replace BB := BB.trans (b6.mono BB.size)
  have K7 := eqST_is (a2, c2, xs2) (a0, c0', xs0) w6 r2.dp (RoT.later r0 BB).dp (by rw [e2, H1.out]) sm2.1
  try dsimp only at K7
  clear e2 b6
  go_wp2_with fail
  refine K7.mono ?_
  clear K7
  rintro en w7 ⟨rfl, b7⟩
  replace rm := RoT.later rm b7
  replace BB := BB.trans (b7.mono BB.size)
  have K8 := heldT_is w1.heap.size 1 a1 c1 xs1 w7 rm (Nat.le_refl _) hA
  rw [show (((1 : Nat)) : Int) = 1 from rfl, hM] at K8
  clear b7
  go_wp2_with fail
  refine K8.mono ?_
  clear K8
  rintro en w8 ⟨rfl, b8⟩
  replace BB := BB.trans (b8.mono BB.size)
  have BF := b1.trans (BB.mono b1.size)
  clear rm
  go_wp2
  go_ret
  exact ⟨rfl, BF⟩
end Go.Proofs.YtpfonadpojcnnaaDoor.Nd
