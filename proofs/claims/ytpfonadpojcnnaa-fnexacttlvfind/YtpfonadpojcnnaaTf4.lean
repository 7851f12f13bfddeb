/- The law on TlvFind. -/
import Derived.Test.YtpfonadpojcnnaaTf1
import Derived.Test.YtpfonadpojcnnaaTf3
import Derived.Test.YtpfonadpojcnnaaLawOk
import Derived.Test.YtpfonadpojcnnaaNo1
set_option linter.unusedVariables false
set_option maxRecDepth 100000
namespace Go.Proofs.Ytpfonadpojcnnaa.Nd
open Go Go.RowKit Go.ChangeShapes Go.WideShapes Go.ChangeAt Go.Joins Go.Deep Own Draw Var

theorem open_I {H : Type} {enc : TypeId × Value → H} {W : World} {base : Nat} {spare : Nat → Bool} {held : Bool} {r : Reach} {b0 : Nat} {v : Value} {d : DataW H} {p : List MemPlace} (hv : Value.okWide Try.prog W r b0 30 v) (h : DataW.Trod enc Try.prog W base spare held 30 v d p) :
    ∃ x : Rw Int, v = .slice x.1 x.2.2.length x.2.1 ∧ RpI W x ∧ RlI x := by
  obtain ⟨a0, len0, cap0, rfl⟩ := okWide_slice Try.underlying30 hv
  obtain ⟨fuel, hf⟩ := h
  obtain ⟨x, e, dp, lm, ok⟩ := open_cI (c := .slice a0 len0 cap0) (by simpa [Value.cells] using hf)
  exact ⟨x, e, dp, lm⟩
set_option maxHeartbeats 6400000 in
theorem law_find (r : Rw TT) (q : Rw Int) (w : World) (hd : RpT w r) (hl : RlT r) (hq : RpI w q) (hql : RlI q) : Calls Try.prog 5 #[.slice r.1 r.2.2.length r.2.1, .slice q.1 q.2.2.length q.2.1] w fun en w' => en = .returned (.bool true) ∧ Below w.heap.size w w' := by
  have HQL : q.2.2.length ≤ 9223372036854775807 := by unfold RlI maxLen at hql; omega
  have K0 := szST_is r 1048576 w (Nat.le_refl _) hd hl
  obtain ⟨qa, qc, p⟩ := q
  dsimp only at *
  by_cases hp0 : 1048576 < p.length
  · have hp1 : (1048576 : Int) < (p.length : Int) := by omega
    clear K0
    go_enter Try.func5, Try.ntmps5
    go_wp2
    go_ret
    exact ⟨rfl, Below.refl _ _⟩
  have hp1 : ¬ (1048576 : Int) < (p.length : Int) := by omega
  have hpl : p.length ≤ 1048576 := by omega
  go_enter Try.func5, Try.ntmps5
  go_wp2_with fail
  refine K0.mono ?_
  clear K0
  rintro en w1 ⟨rfl, b1⟩
  by_cases hs : rtT r ≤ 1048576
  rotate_left
  · have e : szV (rtT r) 1048576 = -1 := if_neg hs
    rw [e]
    go_wp2
    go_ret
    exact ⟨rfl, b1⟩
  have e : szV (rtT r) 1048576 = ((1048576 - rtT r : Nat) : Int) := if_pos hs
  rw [e]
  generalize 1048576 - rtT r = k
  clear e
  have K1 := toST_is r w1 (RpT.later hd b1) hs
  go_wp2_with fail
  refine K1.mono ?_
  clear K1
  rintro en w2 ⟨⟨a1, c1, xs1⟩, rfl, e1, r1, b2⟩
  have bb2 := b1.trans (b2.mono b1.size)
  have KA := toI_is qa qc p w2 (RowAt.later hq bb2) hpl
  go_wp2_with fail
  refine KA.mono ?_
  clear KA
  rintro en w3 ⟨rfl, o3, b3⟩
  have bb3 := bb2.trans (b3.mono bb2.size)
  have K2 := specFind_is a1 c1 xs1 (some ⟨w2.heap.size, 0, none⟩) p.length p w3 (RpT.later r1.dp b3) (by rw [rt_same e1]; exact hs) (RowAt.own o3) hpl
  rw [show xs1.map stT = rsT r from e1] at K2
  go_wp2_with fail
  refine K2.mono ?_
  clear K2
  rintro en w4 ⟨rfl, b4⟩
  have bb4 := bb3.trans (b4.mono bb3.size)
  clear e1 r1 b2 b3 b4 o3
  have K3 := toST_is r w4 (RpT.later hd bb4) hs
  go_wp2_with fail
  refine K3.mono ?_
  clear K3
  rintro en w5 ⟨⟨a2, c2, xs2⟩, rfl, e2, r2, b5⟩
  have bb5 := bb4.trans (b5.mono bb4.size)
  have KB := toI_is qa qc p w5 (RowAt.later hq bb5) hpl
  go_wp2_with fail
  refine KB.mono ?_
  clear KB
  rintro en w6 ⟨rfl, o6, b6⟩
  have bb6 := bb5.trans (b6.mono bb5.size)
  have HD6 : Hid (RpT w6 (a2, c2, xs2)) := RpT.later r2.dp b6
  have hR6 := RowAt.own o6
  have K4 := implFind_is a2 c2 xs2 (some ⟨w5.heap.size, 0, none⟩) p.length p w6 HD6.out (by rw [rt_same e2]; exact hs) hR6 hpl
  rw [show xs2.map stT = rsT r from e2] at K4
  have HE : Hid (rsT (a2, c2, xs2) = rsT r) := e2
  clear e2 r2 b5 b6 o6
  go_wp2_with fail
  refine K4.mono ?_
  clear K4
  rintro en w7 ⟨rfl, b7⟩
  have bb7 := bb6.trans (b7.mono bb6.size)
  have HD7 : Hid (RpT w7 (a2, c2, xs2)) := RpT.later HD6.out b7
  have HR7 : Hid (RowAt (Value.int .i64) w7 (some ⟨w5.heap.size, 0, none⟩) p) := RowAt.later hR6 b7
  clear b7 HD6 hR6
  generalize fdF (rsT r) p = f
  obtain ⟨f1, f2⟩ := f
  have K5 := toST_is r w7 (RpT.later hd bb7) hs
  go_wp2_with fail
  refine K5.mono ?_
  clear K5
  rintro en w8 ⟨⟨a3, c3, xs3⟩, rfl, e3, r3, b8⟩
  have bb8 := bb7.trans (b8.mono bb7.size)
  have K6 := eqST_is (a2, c2, xs2) (a3, c3, xs3) w8 (RpT.later HD7.out b8) r3.dp (by rw [HE.out, e3]) (by rw [rt_same HE.out]; exact hs)
  try dsimp only at K6
  have HR8 : Hid (RowAt (Value.int .i64) w8 (some ⟨w5.heap.size, 0, none⟩) p) := RowAt.later HR7.out b8
  clear e3 r3 b8 HD7 HE HR7
  go_wp2_with fail
  refine K6.mono ?_
  clear K6
  rintro en w9 ⟨rfl, b9⟩
  have bb9 := bb8.trans (b9.mono bb8.size)
  have HR9 : Hid (RowAt (Value.int .i64) w9 (some ⟨w5.heap.size, 0, none⟩) p) := RowAt.later HR8.out b9
  clear b9 HR8
  have KC := toI_is qa qc p w9 (RowAt.later hq bb9) hpl
  go_wp2_with fail
  refine KC.mono ?_
  clear KC
  rintro en w10 ⟨rfl, o10, b10⟩
  have bb10 := bb9.trans (b10.mono bb9.size)
  have KD := eqI_is (some ⟨w5.heap.size, 0, none⟩) (some ⟨w9.heap.size, 0, none⟩) p.length p.length p w10 (RowAt.later HR9.out b10) (RowAt.own o10) hpl
  clear o10 b10 HR9
  go_wp2_with fail
  refine KD.mono ?_
  clear KD
  rintro en w11 ⟨rfl, b11⟩
  have bb11 := bb10.trans (b11.mono bb10.size)
  clear b11
  go_wp2
  go_ret
  exact ⟨rfl, bb11⟩
end Go.Proofs.Ytpfonadpojcnnaa.Nd
