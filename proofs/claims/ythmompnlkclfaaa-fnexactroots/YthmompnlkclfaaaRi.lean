/- Keys in their order, each once: the program. -/
import Derived.Test.YthmompnlkclfaaaRise
import Derived.Test.YthmompnlkclfaaaShelf
import Derived.Sort.OwnSortedInts
set_option linter.unusedVariables false
set_option maxRecDepth 100000
namespace Go.Proofs.Ythmompnlkclfaaa
open Go Go.RowKit Go.Joins Go.Sort Own Draw

theorem own_cut {w : World} {B g cap n : Nat} {xs ys : List Value} (h : w.ownsRow B 3 1 (.slice (some ⟨g, 0, none⟩) n cap) n (xs ++ ys)) (hn : (xs ++ ys).length = n) : w.ownsRow B 3 1 (.slice (some ⟨g, 0, none⟩) xs.length cap) xs.length xs := by
  rcases h.2 with ⟨h1, _⟩ | ⟨g', cap', cur, hv, hbg, hblk, hnc, hcm, hcs, htk⟩
  · simp at h1
  · simp only [Value.slice.injEq, Option.some.injEq, Addr.mk.injEq, true_and, and_true] at hv
    obtain ⟨rfl, rfl⟩ := hv
    rw [List.length_append] at hn
    refine ⟨by simp, .inr ⟨g, cap, cur, rfl, hbg, hblk, by omega, hcm, hcs, ?_⟩⟩
    have h2 := congrArg (List.take xs.length) htk
    rw [List.take_take, List.take_left' rfl, Nat.min_eq_left (by omega)] at h2
    rw [Nat.mul_one]
    exact h2
theorem grow_no (w : World) : w = grow w #[] := by simp
set_option maxRecDepth 100000 in
set_option maxHeartbeats 1600000 in
theorem rising_is (B : Nat) (a : Option Addr) (cap : Nat) (ks : List Int) (w : World) (h : w.ownsRow B 3 1 (.slice a ks.length cap) ks.length (intV ks)) (hl : ks.length ≤ 4000000) (hB : B ≤ w.heap.size) :
    Calls Try.prog 45 #[.slice a ks.length cap] w fun e w' => ∃ ra rc, e = .returned (.slice ra (riL ks).length rc) ∧ w'.ownsRow B 3 1 (.slice ra (riL ks).length rc) (riL ks).length (intV (riL ks)) ∧ Below B w w' := by
  have hlm : (ks.mergeSort fun x y => decide (x ≤ y)).length = ks.length := List.length_mergeSort ks
  rcases h.2 with ⟨hv0, hn0⟩ | ⟨g, cap', cur, hv1, hbg, hblk, hnc, hcm, hcs, htk⟩
  · have hK0 : ks = [] := List.eq_nil_of_length_eq_zero hn0
    subst hK0
    simp only [List.length_nil, Value.slice.injEq, true_and] at hv0
    obtain ⟨rfl, rfl⟩ := hv0
    have HS := Try.slices_Sort_int_none none 0 w
    have HC := Try.slices_Compact_int_empty none 0 w
    have HE : Hid (riL [] = []) := by show riL [] = []; unfold riL Lib.compact Lib.compactUpTo; simp
    clear h hl hn0 hlm
    go_enter Try.func45, Try.ntmps45
    go_wp2_with fail
    refine HS.mono ?_
    rintro e w5 ⟨rfl, rfl⟩
    go_wp2_with fail
    refine HC.mono ?_
    rintro e w6 ⟨rfl, rfl⟩
    go_wp2
    go_ret
    rw [HE.out]
    exact ⟨none, 0, rfl, World.ownsRow_nil _ _ _ _, Below.refl _ _⟩
  · simp only [Value.slice.injEq, true_and] at hv1
    obtain ⟨rfl, rfl⟩ := hv1
    have HS := Try.slices_Sort_int g 0 cap ks w (holds_of_blockI hblk (by simpa [intV] using htk)) (Array.getElem?_eq_some_iff.1 hblk).1 (by omega)
    have hri : riL ks = Lib.compact (ks.mergeSort fun x y => decide (x ≤ y)) := rfl
    rw [hri]
    clear hri
    generalize (ks.mergeSort fun x y => decide (x ≤ y)) = Z at HS hlm
    have H5 : Hid (∀ n os, w.grownBy (grow (putRow (Value.int .i64) (Sort.ahead w n) g 0 Z.toArray) os) (some g) ∧ (grow (putRow (Value.int .i64) (Sort.ahead w n) g 0 Z.toArray) os).ownsRow B 3 1 (.slice (some ⟨g, 0, none⟩) ks.length cap) ks.length (Z.map (Value.int .i64))) :=
      fun n os => ⟨grownBy_sortedI _, ownsRow_sortedI hlm hbg hblk hnc hcm hcs⟩
    have HEZ : Hid (ks.length = Z.length) := hlm.symm
    clear h hblk htk hcs hnc hcm hlm
    go_enter Try.func45, Try.ntmps45
    go_wp2_with fail
    refine HS.mono ?_
    clear HS
    rintro e w5 ⟨rfl, n5, os5, hw5⟩
    obtain ⟨hg5, ho5⟩ := H5.out n5 os5
    rw [← hw5] at hg5 ho5
    have hb5 : Below B w w5 := ⟨hg5.os, hg5.tape, hg5.output, hg5.size, fun k hk => hg5.block k (by omega) (by simp; omega)⟩
    clear H5 hw5 hg5
    have hB5 : B ≤ w5.heap.size := Nat.le_trans hB hb5.size
    rcases ho5.2 with ⟨hv0, hn0⟩ | ⟨g2, cap2, cur, hv1, hbg2, hblk, hnc, hcm, hcs, htk⟩
    · simp at hv0
    · simp only [Value.slice.injEq, Option.some.injEq, Addr.mk.injEq, true_and, and_true] at hv1
      obtain ⟨rfl, rfl⟩ := hv1
      rw [HEZ.out] at htk hnc
      have hcl := cmp_len Z
      have HC := Try.slices_Compact_int g 0 cap Z w5 (holds_of_blockI hblk (by simpa using htk)) (by have := HEZ.out; omega) hnc
      rw [← HEZ.out] at HC
      have H6 : Hid (∀ q, w5.grownBy (putRow (Value.int .i64) (Sort.ahead w5 q) g 0 (Lib.compact Z ++ List.replicate (Z.length - (Lib.compact Z).length) 0).toArray) (some g) ∧ (putRow (Value.int .i64) (Sort.ahead w5 q) g 0 (Lib.compact Z ++ List.replicate (Z.length - (Lib.compact Z).length) 0).toArray).ownsRow B 3 1 (.slice (some ⟨g, 0, none⟩) (Lib.compact Z).length cap) (Lib.compact Z).length (intV (Lib.compact Z))) := by
        intro q
        have e1 := grownBy_sortedI (w := w5) (g := g) (n := q) (os := #[]) (Lib.compact Z ++ List.replicate (Z.length - (Lib.compact Z).length) 0).toArray
        have e2 := ownsRow_sortedI (n := q) (os := #[]) (ss := Z) (ts := Lib.compact Z ++ List.replicate (Z.length - (Lib.compact Z).length) 0) (by simp; omega) hbg hblk hnc hcm hcs
        rw [← grow_no] at e1 e2
        refine ⟨e1, ?_⟩
        rw [List.map_append] at e2
        have e3 := own_cut e2 (by simp; omega)
        rw [List.length_map] at e3
        exact e3
      generalize hYe : Lib.compact Z = Y at HC H6
      have HYe : Hid (Lib.compact Z = Y) := hYe
      clear hYe
      rw [← HEZ.out] at H6
      clear ho5 hblk htk hcs hnc hcm hcl
      go_wp2_with fail
      refine HC.mono ?_
      clear HC
      rintro e w6 ⟨rfl, q, hw6⟩
      obtain ⟨hg6, ho6⟩ := H6.out q
      rw [← hw6] at hg6 ho6
      have hb6 : Below B w5 w6 := ⟨hg6.os, hg6.tape, hg6.output, hg6.size, fun k hk => hg6.block k (by omega) (by simp; omega)⟩
      have HB6 : Hid (Below B w w6) := hb5.trans hb6
      clear H6 hw6 hg6 hb6 hb5
      go_wp2
      go_ret
      rw [HYe.out]
      exact ⟨_, _, rfl, ho6, HB6.out⟩
end Go.Proofs.Ythmompnlkclfaaa
