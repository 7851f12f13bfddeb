/- ReadTlv: the program. -/
import Derived.Test.YtengggpobhibcaaDoorRd1
import Derived.Test.YtengggpobhibcaaDoorAs
set_option linter.unusedVariables false
set_option maxRecDepth 100000
namespace Go.Proofs.YtengggpobhibcaaDoor.Nd
open Go Go.RowKit Go.Joins Own Draw Var

abbrev HdV : Value := .iface 91 (.agg #[.pointer (some ⟨1, 37, none⟩)])
set_option maxRecDepth 100000 in
set_option maxHeartbeats 3200000 in
theorem implRead_is (s : ByteArray) (w : World) (hg : w.cell? ⟨0, 0, none⟩ = some HdV) : Calls Tryd.prog 7 #[.string s] w fun e w' => ∃ q : Rw TT, e = .returned (.tuple #[.slice q.1 q.2.2.length q.2.1, .int .i64 (rdT s).2]) ∧ rsT q = (rdT s).1 ∧ RoT w.heap.size w' q ∧ ApT q ∧ Below w.heap.size w w' := by
  have hlt : 0 < w.heap.size := by
    rcases Nat.eq_zero_or_pos w.heap.size with h0 | h
    · simp [World.cell?, h0] at hg
    · exact h
  have KC := msgR_is s w
  have HN := rd_no s
  obtain ⟨r1, hr1⟩ : ∃ x, (rdT s).1 = x := ⟨_, rfl⟩
  obtain ⟨r2, hr2⟩ : ∃ x, (rdT s).2 = x := ⟨_, rfl⟩
  rw [hr1, hr2] at KC HN
  rw [hr1, hr2]
  clear hr1 hr2
  go_enter Tryd.func7, Tryd.ntmps7
  go_wp2_with fail
  refine KC.mono ?_
  clear KC
  rintro ex w1 ⟨⟨pa, pc, zs⟩, rfl, hq, b1⟩
  dsimp only [slR] at hq ⊢
  have hg1 : w1.cell? ⟨0, 0, none⟩ = some HdV := (b1.cell hlt).trans hg
  obtain ⟨W, hW⟩ : ∃ Y, w1.alloc (.cells #[.int .i64 0] 41) = Y := ⟨_, rfl⟩
  have TW : Blk w1.heap.size [.int .i64 0] W := by rw [← hW]; exact Blk.new _ _ _
  have BW : Below w1.heap.size w1 W := by rw [← hW]; exact (Below.refl _ _).alloc (Nat.le_refl _) _
  have hg2 : W.cell? ⟨0, 0, none⟩ = some HdV := (BW.cell (Nat.lt_of_lt_of_le hlt b1.size)).trans hg1
  by_cases hc : r2 = 0
  · obtain ⟨a1, a2, a3⟩ := hq hc
    subst hc
    rw [errV_ok rfl]
    have KA := as_nil (.iface 43 (.pointer (some ⟨w1.heap.size, 0, none⟩))) W
    have ro2 := RoT.later a2 BW
    have b2 := b1.trans (BW.mono b1.size)
    clear HN hg hg1 hg2
    go_wp2_with fail
    try rw [hW]
    refine KA.mono ?_
    clear KA
    rintro ex u ⟨rfl, rfl⟩
    go_wp2
    go_ret2
    exact ⟨(pa, pc, zs), rfl, a1, ro2, a3, b2⟩
  · have e1 := HN hc
    subst e1
    rw [errV_no hc]
    have KA := as_hit r2 ⟨w1.heap.size, 0, none⟩ (.int .i64 0) W hg2 (TW.at 0 rfl) (TW.fz 0 rfl)
    clear HN hg hg1 hq hc
    go_wp2_with fail
    try rw [hW]
    refine KA.mono ?_
    clear KA
    rintro ex u ⟨rfl, hu⟩
    obtain ⟨U1, hU1⟩ : ∃ Y, W.alloc (.cells #[.pointer (some ⟨w1.heap.size, 0, none⟩)] 43) = Y := ⟨_, rfl⟩
    have B1 : Below W.heap.size W U1 := by rw [← hU1]; exact (Below.refl _ _).alloc (Nat.le_refl _) _
    rw [hU1] at hu
    obtain ⟨U2, hU2⟩ : ∃ Y, U1.alloc (.cells #[.pointer (some ⟨1, 43, none⟩), .pointer (some ⟨W.heap.size, 0, none⟩), .int .u64 150] 76) = Y := ⟨_, rfl⟩
    have B2 : Below W.heap.size W U2 := by rw [← hU2]; exact B1.alloc B1.size _
    rw [hU2] at hu
    obtain ⟨U3, hU3⟩ : ∃ Y, U2.alloc (.cells #[.pointer (some ⟨1, 43, none⟩), .pointer (some ⟨W.heap.size, 0, none⟩), .int .u64 150] 76) = Y := ⟨_, rfl⟩
    have B3 : Below W.heap.size W U3 := by rw [← hU3]; exact B2.alloc B2.size _
    rw [hU3] at hu
    obtain ⟨U4, hU4⟩ : ∃ Y, U3.alloc (.cells #[.int .i64 r2] 41) = Y := ⟨_, rfl⟩
    have B4 : Below W.heap.size W U4 := by rw [← hU4]; exact B3.alloc B3.size _
    rw [hU4] at hu
    have T4 := (TW.later B4 TW.lt).set 0 (.int .i64 r2)
    rw [← hu] at T4
    have B5 : Below w1.heap.size w1 u := by rw [hu]; exact (BW.trans (B4.mono BW.size)).setCell (Nat.le_refl _) _
    have b5 := b1.trans (B5.mono b1.size)
    have c0 := T4.at 0 rfl
    clear hu hU1 hU2 hU3 hU4 B1 B2 B3 B4 BW TW hW hg2
    go_wp2
    go_region
    all_goals go_wp2
    go_ret2
    exact ⟨(none, 0, []), rfl, rfl, ⟨FOwn.nil _ _ _ _ _, fun x hx => by cases hx⟩, List.Pairwise.nil, by first | exact b5.drew | exact b5⟩
end Go.Proofs.YtengggpobhibcaaDoor.Nd
