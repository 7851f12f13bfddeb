/- The law on ReadName. -/
import Derived.Test.YtbpodcfbijhboaaMn
import Derived.Test.YtbpodcfbijhboaaNi1
import Derived.Test.YtbpodcfbijhboaaNi2
set_option linter.unusedVariables false
set_option maxRecDepth 100000
namespace Go.Proofs.Ytbpodcfbijhboaa.Nd
open Go Go.RowKit Go.Joins Own Draw

set_option maxHeartbeats 12800000 in
theorem law_read (s : ByteArray) (w : World) : Calls Try.prog 6 #[.string s] w fun en w' => en = .returned (.bool true) ∧ Below w.heap.size w w' := by
  by_cases ht : 1048576 < s.size
  · have c0 : (s.size : Int) > 1048576 := by omega
    go_enter Try.func6, Try.ntmps6
    go_wp2
    go_ret
    exact ⟨rfl, Below.refl _ _⟩
  have c0 : ¬ ((s.size : Int) > 1048576) := by omega
  have hs : s.size ≤ 1048576 := by omega
  have KS := specRead_is s w hs
  have KI := fun W => implRead_is s W hs
  have SM := rd_small s
  unfold RdP at KS
  simp only [RdP] at KI
  generalize gdN s = bb at KS KI
  generalize rdN s = D at KS KI SM
  have hbb : (bb != bb) = false := by simp
  have ST : Hid (∀ y : TT, stT y = D → totT y ≤ 1048576 ∧ y.1.2.2.length ≤ 12) := fun y h => by
    subst h
    exact ⟨small_of SM.1 SM.2.1 SM.2.2, by have : y.1.2.2.length ≤ 4 := SM.1; omega⟩
  clear SM ht
  go_enter Try.func6, Try.ntmps6
  go_wp2_with fail
  refine KS.mono ?_
  clear KS
  rintro en w1 ⟨⟨y0, rfl, e0, o0⟩, hb⟩
  have BC := hb
  have E0 : Hid (stT y0 = D) := e0
  clear hb e0
  obtain ⟨V2, hV2⟩ : ∃ V, w1.alloc (.cells #[sv1 y0, .string y0.2] 26) = V := ⟨_, rfl⟩
  have T0 : Blk w1.heap.size [sv1 y0, .string y0.2] V2 := by rw [← hV2]; exact Blk.new _ _ _
  have hb : Below w1.heap.size w1 V2 := by rw [← hV2]; exact (Below.refl _ _).alloc (Nat.le_refl _) _
  have n2 : V2.heap.size = w1.heap.size + 1 := by rw [← hV2]; simp
  have hs1 := BC.size
  replace o0 := o0.later hb
  replace BC := BC.trans (hb.mono BC.size)
  clear hb
  obtain ⟨b0, hb0⟩ : ∃ b, w1.heap.size = b := ⟨_, rfl⟩
  rw [hb0] at T0 n2 hs1
  have K1 := KI V2
  go_wp2_with fail
  try rw [hV2]
  try rw [hb0]
  refine K1.mono ?_
  clear K1 hV2 hb0
  rintro en w3 ⟨⟨y1, rfl, e1, o1⟩, hb⟩
  have E1 : Hid (stT y1 = D) := e1
  have N3 : Hid (V2.heap.size ≤ w3.heap.size) := hb.size
  have HY0 : Hid (∀ k, (sv1 y0).ownBlock = some k → k < V2.heap.size) := fun k e => (World.ownsRow.lt (show V2.ownsRow w.heap.size 9 1 (sv1 y0) y0.1.2.2.length (y0.1.2.2.map Value.string) from o0) k e).2
  have HY1 : Hid (∀ k, (sv1 y1).ownBlock = some k → V2.heap.size ≤ k ∧ k < w3.heap.size) := fun k e => World.ownsRow.lt (show w3.ownsRow V2.heap.size 9 1 (sv1 y1) y1.1.2.2.length (y1.1.2.2.map Value.string) from o1) k e
  replace T0 := T0.later hb T0.lt
  replace o0 := o0.later hb
  replace BC := BC.trans (hb.mono BC.size)
  clear hb e1
  obtain ⟨V4, hV4⟩ : ∃ V, w3.alloc (.cells #[sv1 y1, .string y1.2] 26) = V := ⟨_, rfl⟩
  have T1 : Blk w3.heap.size [sv1 y1, .string y1.2] V4 := by rw [← hV4]; exact Blk.new _ _ _
  have hb : Below w3.heap.size w3 V4 := by rw [← hV4]; exact (Below.refl _ _).alloc (Nat.le_refl _) _
  replace T0 := T0.later hb T0.lt
  replace o0 := o0.later hb
  replace o1 := o1.later hb
  replace BC := BC.trans (hb.mono BC.size)
  clear hb
  obtain ⟨b1, hb1⟩ : ∃ b, w3.heap.size = b := ⟨_, rfl⟩
  rw [hb1] at T1 N3 HY1
  have K0 := eqT_is y1 y0 V4 o1.dp o0.dp (by rw [E1.out, E0.out]) (ST.out y1 E1.out).1
  have d0 := T0.at 0 rfl
  have d1 := T0.at 1 rfl
  have f0 := T1.at 0 rfl
  have f1 := T1.at 1 rfl
  go_wp2_with fail
  try rw [hV4]
  try rw [hb1]
  refine K0.mono ?_
  clear K0 hV4 hb1 d0 d1 f0 f1
  rintro en w5 ⟨rfl, hb⟩
  replace T0 := T0.later hb T0.lt
  replace T1 := T1.later hb T1.lt
  replace o0 := o0.later hb
  replace o1 := o1.later hb
  replace BC := BC.trans (hb.mono BC.size)
  clear hb
  have K0 := markN_is y1 w5 V2.heap.size o1 (ST.out y1 E1.out).2
  have f0 := T1.at 0 rfl
  have f1 := T1.at 1 rfl
  go_wp2_with fail
  refine K0.mono ?_
  clear K0 f0 f1
  rintro en w6 ⟨rfl, hr, hg⟩
  replace T0 := blk_gr T0 hg T0.lt (fun e => by have := (HY1.out _ e.symm).1; omega)
  replace T1 := blk_gr T1 hg T1.lt (fun e => by have := (HY1.out _ e.symm).2; omega)
  replace o0 := row_kept o0 hg (fun k e c => by have h1 := (HY1.out k e).1; have h2 := HY0.out k c; omega)
  replace BC := BC.grown hg BC.size (fun k e => by have := (HY1.out k e).1; omega)
  clear hg o1
  obtain ⟨n, hn⟩ : ∃ n, y1.1.2.2.length = n := ⟨_, rfl⟩
  have HN12 : Hid (n ≤ 12) := by show _ ≤ _; rw [← hn]; exact (ST.out y1 E1.out).2
  have hz : ¬ ((n : Int) + 1) < 0 := by omega
  have hzz : (((n : Int) + 1) != ((n : Int) + 1)) = false := by simp
  have K0 := heldN_is y1 w6 hr (by rw [hn]; exact HN12.out)
  rw [hn] at K0
  have f0 := T1.at 0 rfl
  have f1 := T1.at 1 rfl
  try rw [hn]
  go_wp2_with fail
  try rw [hn]
  refine K0.mono ?_
  clear K0 f0 f1
  rintro en w7 ⟨rfl, hb⟩
  replace T0 := T0.later hb T0.lt
  replace T1 := T1.later hb T1.lt
  replace o0 := o0.later hb
  replace hr := hr.later hb
  replace BC := BC.trans (hb.mono BC.size)
  clear hb
  have K1 := KI w7
  go_wp2_with fail
  refine K1.mono ?_
  clear K1
  rintro en w8 ⟨⟨y2, rfl, e2, o2⟩, hb⟩
  have E2 : Hid (stT y2 = D) := e2
  replace T0 := T0.later hb T0.lt
  replace T1 := T1.later hb T1.lt
  replace o0 := o0.later hb
  replace hr := hr.later hb
  replace BC := BC.trans (hb.mono BC.size)
  clear hb e2
  obtain ⟨V9, hV9⟩ : ∃ V, w8.alloc (.cells #[sv1 y2, .string y2.2] 26) = V := ⟨_, rfl⟩
  have T2 : Blk w8.heap.size [sv1 y2, .string y2.2] V9 := by rw [← hV9]; exact Blk.new _ _ _
  have hb : Below w8.heap.size w8 V9 := by rw [← hV9]; exact (Below.refl _ _).alloc (Nat.le_refl _) _
  replace T0 := T0.later hb T0.lt
  replace T1 := T1.later hb T1.lt
  replace o0 := o0.later hb
  replace o2 := o2.later hb
  replace hr := hr.later hb
  replace BC := BC.trans (hb.mono BC.size)
  clear hb
  obtain ⟨b2, hb2⟩ : ∃ b, w8.heap.size = b := ⟨_, rfl⟩
  rw [hb2] at T2
  have K0 := eqT_is y2 y0 V9 o2.dp o0.dp (by rw [E2.out, E0.out]) (ST.out y2 E2.out).1
  have d0 := T0.at 0 rfl
  have d1 := T0.at 1 rfl
  have f0 := T2.at 0 rfl
  have f1 := T2.at 1 rfl
  go_wp2_with fail
  try rw [hV9]
  try rw [hb2]
  refine K0.mono ?_
  clear K0 hV9 hb2 d0 d1 f0 f1
  rintro en w10 ⟨rfl, hb⟩
  replace T0 := T0.later hb T0.lt
  replace T1 := T1.later hb T1.lt
  replace o0 := o0.later hb
  replace hr := hr.later hb
  replace BC := BC.trans (hb.mono BC.size)
  clear hb
  have K0 := heldN_is y1 w10 hr (by rw [hn]; exact HN12.out)
  rw [hn] at K0
  have f0 := T1.at 0 rfl
  have f1 := T1.at 1 rfl
  try rw [hn]
  go_wp2_with fail
  try rw [hn]
  refine K0.mono ?_
  clear K0 f0 f1
  rintro en w11 ⟨rfl, hb⟩
  replace T0 := T0.later hb T0.lt
  replace T1 := T1.later hb T1.lt
  replace o0 := o0.later hb
  replace hr := hr.later hb
  replace BC := BC.trans (hb.mono BC.size)
  clear hb
  go_wp2
  go_ret
  exact ⟨rfl, BC⟩
end Go.Proofs.Ytbpodcfbijhboaa.Nd
