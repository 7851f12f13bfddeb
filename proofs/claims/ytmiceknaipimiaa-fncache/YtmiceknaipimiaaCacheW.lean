/- A Cache as the laws draw it. -/
import Derived.Test.YtmiceknaipimiaaSTry
import Derived.Test.YtmiceknaipimiaaLawT
import Derived.Test.YtmiceknaipimiaaDrawA
set_option linter.unusedVariables false
namespace Go.Proofs.Ytmiceknaipimiaa
open Go Go.RowKit Go.Joins Own Draw

theorem Own3.only {w w' : World} {p B c : Nat} {a : Option Addr} {xs : List A3} (h : Own3 B a c xs w) (ho : Only p w w') (hp : p < B) : Own3 B a c xs w' := own_only h ho hp
theorem Own3.below {w : World} {B c : Nat} {a : Option Addr} {xs : List A3} (h : Own3 B a c xs w) {g : Nat} (hg : g < B) (i : Nat) (u : Value) : Own3 B a c xs (w.setCell ⟨g, i, none⟩ u) := ownsRow_setCell_below h hg u

set_option maxRecDepth 100000 in
set_option maxHeartbeats 12800000 in
theorem cacheW {p : Nat} {ad : Option Addr} {len cap : Nat} {zs : List Int} {W : World} (m : Int) (hm : 0 < m) (hm2 : m ≤ 25) (hC : Cu p ad len cap zs W W) : Calls Try.prog 28 #[.pointer (some ⟨p, 0, none⟩), .int .i64 m] W fun en w' => ∃ (q : Int) (g : Option Addr) (c : Nat) (xs : List A3), en = .returned (cv q g xs.length c) ∧ Own3 W.heap.size g c xs w' ∧ xs.length ≤ 8 ∧ Cu p ad len cap zs W w' := by
  have hpW : p < W.heap.size := hC.lt
  obtain ⟨w1, hw1⟩ : ∃ w1, W.alloc (.cells #[.int .i64 0, .slice none 0 0] 26) = w1 := ⟨_, rfl⟩
  have RB : Blk W.heap.size [.int .i64 0, .slice none 0 0] w1 := by rw [← hw1]; exact Blk.new _ _ _
  have CC : Cu p ad len cap zs W w1 := by rw [← hw1]; exact hC.alloc _
  clear hC
  go_enter Try.func28, Try.ntmps28
  have HX := specNewC_is w1
  go_wp2_with fail
  try rw [hw1]
  refine HX.mono ?_
  clear HX hw1
  rintro en w2 ⟨rfl, hb⟩
  replace RB := RB.later hb RB.lt
  replace CC := CC.under hb
  clear hb
  have rp5 : W.heap.size < w2.heap.size := RB.lt
  obtain ⟨w3, hw3⟩ : ∃ v, w2.alloc (.cells #[.int .i64 (-1), .slice none 0 0] 26) = v := ⟨_, rfl⟩
  have hal : Below w2.heap.size w2 w3 := by rw [← hw3]; exact (Below.refl _ _).alloc (Nat.le_refl _) _
  have XB : Blk w2.heap.size [.int .i64 (-1), .slice none 0 0] w3 := by rw [← hw3]; exact Blk.new _ _ _
  replace RB := RB.later hal RB.lt
  replace CC := CC.under hal
  clear hal
  have zs1 : w3.setCell ⟨w2.heap.size, 1, none⟩ (.slice none 0 0) = w3 := by rw [← hw3]; simp [go_sem]
  have zf1 := XB.fz 1 rfl
  have zc1 := XB.at 1 rfl
  have HX := belowW m CC.here hm (by omega)
  go_wp2_with fail
  try rw [hw3]
  refine HX.mono ?_
  clear HX hw3 zs1 zf1 zc1
  rintro en w4 ⟨m0, rfl, m0a, m0b, C⟩
  obtain ⟨p5, hp5⟩ : ∃ p5, w2.heap.size = p5 := ⟨_, rfl⟩
  simp only [hp5] at XB rp5 ⊢
  have HP5 := show Hid _ from hp5
  clear hp5
  replace RB := RB.only C.2 RB.lt (by omega)
  replace XB := XB.only C.2 XB.lt (by omega)
  replace CC := CC.next C
  clear C
  obtain ⟨j0, rfl⟩ : ∃ j0 : Nat, m0 = (j0 : Int) := ⟨m0.toNat, by omega⟩
  go_wp2
  go_loopw [6, 7] (fun v6 i wr => ∃ (j : Nat) (nw q : Int) (g : Option Addr) (c : Nat) (xs : List A3), i = .int .i64 (j : Int) ∧ v6 = .int .i64 nw ∧ 0 ≤ nw ∧ nw + (j : Int) ≤ 30 ∧ xs.length ≤ 7 ∧ Blk p5 [.int .i64 q, .slice g xs.length c] wr ∧ Own3 (p5 + 1) g c xs wr ∧ Blk W.heap.size [.int .i64 0, .slice none 0 0] wr ∧ Cu p ad len cap zs W wr) (fun _ i _ => (intOf i).toNat)
  case atStart => exact ⟨j0, 0, -1, none, 0, [], rfl, rfl, by omega, by omega, by simp, XB, Own3.nil _ _, RB, CC⟩
  case round =>
    clear XB RB CC
    obtain ⟨j, nw, q, g, c, xs, rfl, rfl, hn0, hnj, hxl, XB, OX, RB, CC⟩ := hrel
    by_cases hj : 0 < j
    · have hj2 : (0 : Int) < (j : Int) := by omega
      have HX := onceW 20 CC.here (by omega)
      go_wp2_with fail
      refine HX.mono ?_
      clear HX
      rintro en w5 ⟨bb, rfl, C⟩
      replace RB := RB.only C.2 RB.lt (by omega)
      replace XB := XB.only C.2 XB.lt (by omega)
      replace OX := Own3.only OX C.2 (by omega)
      replace CC := CC.next C
      clear C
      cases bb with
      | true =>
        have HX := specRestart_is nw 3 w5
        go_wp2_with fail
        refine HX.mono ?_
        clear HX
        rintro en w6 ⟨rfl, hb⟩
        replace RB := RB.later hb RB.lt
        replace XB := XB.later hb XB.lt
        replace OX := OX.later hb
        replace CC := CC.under hb
        clear hb
        generalize rsV nw 3 = q9
        obtain ⟨w7, hw7⟩ : ∃ v, (w6.setCell ⟨p5, 0, none⟩ (.int .i64 q9)).setCell ⟨p5, 1, none⟩ (.slice none 0 0) = v := ⟨_, rfl⟩
        have x0 := XB.at 0 rfl
        have x1 := XB.at 1 rfl
        have y0 := XB.fz 0 rfl
        have y1 := XB.fz 1 rfl
        have XN : Blk p5 [.int .i64 q9, .slice none 0 0] w7 := by rw [← hw7]; exact (XB.set 0 (.int .i64 q9)).set 1 (.slice none 0 0)
        have RN : Blk W.heap.size [.int .i64 0, .slice none 0 0] w7 := by rw [← hw7]; exact (RB.far (by omega) 0 _).far (by omega) 1 _
        have CN : Cu p ad len cap zs W w7 := by rw [← hw7]; exact Cu.setCell (Cu.setCell CC hpW (by omega) 0 _) hpW (by omega) 1 _
        have ON : Own3 (p5 + 1) none 0 [] w7 := by rw [← hw7]; exact Own3.nil _ _
        clear XB RB CC OX
        have XB := XN
        have RB := RN
        have CC := CN
        have OX := ON
        clear XN RN CN ON
        have hxl9 : ([] : List A3).length ≤ 7 := by simp
        have HX := belowW 2 CC.here (by omega) (by omega)
        go_wp2_with fail
        try rw [hw7]
        refine HX.mono ?_
        clear HX hw7 x0 x1 y0 y1
        rintro en w8 ⟨d0, rfl, d0a, d0b, C⟩
        replace RB := RB.only C.2 RB.lt (by omega)
        replace XB := XB.only C.2 XB.lt (by omega)
        replace OX := Own3.only OX C.2 (by omega)
        replace CC := CC.next C
        clear C
        have HX := belowW 3 CC.here (by omega) (by omega)
        go_wp2_with fail
        refine HX.mono ?_
        clear HX
        rintro en w9 ⟨a0, rfl, a0a, a0b, C⟩
        replace RB := RB.only C.2 RB.lt (by omega)
        replace XB := XB.only C.2 XB.lt (by omega)
        replace OX := Own3.only OX C.2 (by omega)
        replace CC := CC.next C
        clear C
        have HX := belowW 3 CC.here (by omega) (by omega)
        go_wp2_with fail
        refine HX.mono ?_
        clear HX
        rintro en w10 ⟨a1, rfl, a1a, a1b, C⟩
        replace RB := RB.only C.2 RB.lt (by omega)
        replace XB := XB.only C.2 XB.lt (by omega)
        replace OX := Own3.only OX C.2 (by omega)
        replace CC := CC.next C
        clear C
        have HX := belowW 3 CC.here (by omega) (by omega)
        go_wp2_with fail
        refine HX.mono ?_
        clear HX
        rintro en w11 ⟨a2, rfl, a2a, a2b, C⟩
        replace RB := RB.only C.2 RB.lt (by omega)
        replace XB := XB.only C.2 XB.lt (by omega)
        replace OX := Own3.only OX C.2 (by omega)
        replace CC := CC.next C
        clear C
        obtain ⟨w12, hw12⟩ : ∃ v, w11.alloc (.cells #[.int .i64 a0, .int .i64 (nw + d0 + a1), .int .i64 a2] 28) = v := ⟨_, rfl⟩
        have hal : Below w11.heap.size w11 w12 := by rw [← hw12]; exact (Below.refl _ _).alloc (Nat.le_refl _) _
        have pg : p < w11.heap.size := CC.lt
        have AB : Blk w11.heap.size [.int .i64 a0, .int .i64 (nw + d0 + a1), .int .i64 a2] w12 := by rw [← hw12]; exact Blk.new _ _ _
        replace RB := RB.later hal RB.lt
        replace XB := XB.later hal XB.lt
        replace OX := OX.later hal
        replace CC := CC.under hal
        clear hal
        have xb0 := XB.at 0 rfl
        have xb1 := XB.at 1 rfl
        have ab0 := AB.at 0 rfl
        have ab1 := AB.at 1 rfl
        have ab2 := AB.at 2 rfl
        have fa0 := AB.fz 0 rfl
        have fa1 := AB.fz 1 rfl
        have fa2 := AB.fz 2 rfl
        have lp5 : p5 < w12.heap.size := XB.lt
        have HX := specTry_is q9 none 0 ([] : List A3) a0 (nw + d0 + a1) a2 (nw + d0) 3 w12 OX.row (by first | omega | simp) OX.cap
        go_wp2_with fail
        try rw [hw12]
        refine HX.mono ?_
        clear HX hw12 xb0 xb1 ab0 ab1 ab2 fa0 fa1 fa2
        rintro en w13 ⟨g2, c2, rfl, o2, hb⟩
        replace o2 := Own3.le (B' := p5 + 1) o2 (by omega)
        clear AB pg lp5
        clear OX
        replace RB := RB.later hb RB.lt
        replace XB := XB.later hb XB.lt
        replace CC := CC.under hb
        clear hb
        have ht7 := tl_len q9 ([] : List A3) a0 (nw + d0 + a1) a2 (nw + d0) 3
        generalize tqV q9 ([] : List A3) = q2 at *
        generalize tlV q9 ([] : List A3) a0 (nw + d0 + a1) a2 (nw + d0) 3 = xs2 at *
        generalize tkV q9 ([] : List A3) a0 (nw + d0 + a1) a2 (nw + d0) 3 = k2 at *
        have OX := o2
        obtain ⟨w14, hw14⟩ : ∃ v, (w13.setCell ⟨p5, 0, none⟩ (.int .i64 q2)).setCell ⟨p5, 1, none⟩ (.slice g2 xs2.length c2) = v := ⟨_, rfl⟩
        have x0 := XB.at 0 rfl
        have x1 := XB.at 1 rfl
        have y0 := XB.fz 0 rfl
        have y1 := XB.fz 1 rfl
        have XN : Blk p5 [.int .i64 q2, .slice g2 xs2.length c2] w14 := by rw [← hw14]; exact (XB.set 0 (.int .i64 q2)).set 1 (.slice g2 xs2.length c2)
        have RN : Blk W.heap.size [.int .i64 0, .slice none 0 0] w14 := by rw [← hw14]; exact (RB.far (by omega) 0 _).far (by omega) 1 _
        have CN : Cu p ad len cap zs W w14 := by rw [← hw14]; exact Cu.setCell (Cu.setCell CC hpW (by omega) 0 _) hpW (by omega) 1 _
        have ON : Own3 (p5 + 1) g2 c2 xs2 w14 := by rw [← hw14]; exact Own3.below (Own3.below OX (by omega) 0 _) (by omega) 1 _
        clear XB RB CC OX
        have XB := XN
        have RB := RN
        have CC := CN
        have OX := ON
        clear XN RN CN ON
        clear o2
        have R : Hid (∃ (j' : Nat) (nw' q' : Int) (g' : Option Addr) (c' : Nat) (xs' : List A3), Value.int .i64 ((j : Int) - 1) = .int .i64 (j' : Int) ∧ Value.int .i64 (nw + d0) = .int .i64 nw' ∧ 0 ≤ nw' ∧ nw' + (j' : Int) ≤ 30 ∧ xs'.length ≤ 7 ∧ Blk p5 [.int .i64 q', .slice g' xs'.length c'] w14 ∧ Own3 (p5 + 1) g' c' xs' w14 ∧ Blk W.heap.size [.int .i64 0, .slice none 0 0] w14 ∧ Cu p ad len cap zs W w14) := ⟨j - 1, nw + d0, q2, g2, c2, xs2, by congr 1; omega, rfl, by omega, by omega, ht7, XB, OX, RB, CC⟩
        clear XB OX RB CC
        go_wp2
        try rw [hw14]
        clear hw14
        go_roundw
        case rel => exact R.out
        case measure => simp [intOf]; omega
      | false =>
        have HX := belowW 2 CC.here (by omega) (by omega)
        go_wp2_with fail
        refine HX.mono ?_
        clear HX
        rintro en w6 ⟨d0, rfl, d0a, d0b, C⟩
        replace RB := RB.only C.2 RB.lt (by omega)
        replace XB := XB.only C.2 XB.lt (by omega)
        replace OX := Own3.only OX C.2 (by omega)
        replace CC := CC.next C
        clear C
        have HX := belowW 3 CC.here (by omega) (by omega)
        go_wp2_with fail
        refine HX.mono ?_
        clear HX
        rintro en w7 ⟨a0, rfl, a0a, a0b, C⟩
        replace RB := RB.only C.2 RB.lt (by omega)
        replace XB := XB.only C.2 XB.lt (by omega)
        replace OX := Own3.only OX C.2 (by omega)
        replace CC := CC.next C
        clear C
        have HX := belowW 3 CC.here (by omega) (by omega)
        go_wp2_with fail
        refine HX.mono ?_
        clear HX
        rintro en w8 ⟨a1, rfl, a1a, a1b, C⟩
        replace RB := RB.only C.2 RB.lt (by omega)
        replace XB := XB.only C.2 XB.lt (by omega)
        replace OX := Own3.only OX C.2 (by omega)
        replace CC := CC.next C
        clear C
        have HX := belowW 3 CC.here (by omega) (by omega)
        go_wp2_with fail
        refine HX.mono ?_
        clear HX
        rintro en w9 ⟨a2, rfl, a2a, a2b, C⟩
        replace RB := RB.only C.2 RB.lt (by omega)
        replace XB := XB.only C.2 XB.lt (by omega)
        replace OX := Own3.only OX C.2 (by omega)
        replace CC := CC.next C
        clear C
        obtain ⟨w10, hw10⟩ : ∃ v, w9.alloc (.cells #[.int .i64 a0, .int .i64 (nw + d0 + a1), .int .i64 a2] 28) = v := ⟨_, rfl⟩
        have hal : Below w9.heap.size w9 w10 := by rw [← hw10]; exact (Below.refl _ _).alloc (Nat.le_refl _) _
        have pg : p < w9.heap.size := CC.lt
        have AB : Blk w9.heap.size [.int .i64 a0, .int .i64 (nw + d0 + a1), .int .i64 a2] w10 := by rw [← hw10]; exact Blk.new _ _ _
        replace RB := RB.later hal RB.lt
        replace XB := XB.later hal XB.lt
        replace OX := OX.later hal
        replace CC := CC.under hal
        clear hal
        have xb0 := XB.at 0 rfl
        have xb1 := XB.at 1 rfl
        have ab0 := AB.at 0 rfl
        have ab1 := AB.at 1 rfl
        have ab2 := AB.at 2 rfl
        have fa0 := AB.fz 0 rfl
        have fa1 := AB.fz 1 rfl
        have fa2 := AB.fz 2 rfl
        have lp5 : p5 < w10.heap.size := XB.lt
        have HX := specTry_is q g c xs a0 (nw + d0 + a1) a2 (nw + d0) 3 w10 OX.row (by first | omega | simp) OX.cap
        go_wp2_with fail
        try rw [hw10]
        refine HX.mono ?_
        clear HX hw10 xb0 xb1 ab0 ab1 ab2 fa0 fa1 fa2
        rintro en w11 ⟨g2, c2, rfl, o2, hb⟩
        replace o2 := Own3.le (B' := p5 + 1) o2 (by omega)
        clear AB pg lp5
        clear OX
        replace RB := RB.later hb RB.lt
        replace XB := XB.later hb XB.lt
        replace CC := CC.under hb
        clear hb
        have ht7 := tl_len q xs a0 (nw + d0 + a1) a2 (nw + d0) 3
        generalize tqV q xs = q2 at *
        generalize tlV q xs a0 (nw + d0 + a1) a2 (nw + d0) 3 = xs2 at *
        generalize tkV q xs a0 (nw + d0 + a1) a2 (nw + d0) 3 = k2 at *
        have OX := o2
        obtain ⟨w12, hw12⟩ : ∃ v, (w11.setCell ⟨p5, 0, none⟩ (.int .i64 q2)).setCell ⟨p5, 1, none⟩ (.slice g2 xs2.length c2) = v := ⟨_, rfl⟩
        have x0 := XB.at 0 rfl
        have x1 := XB.at 1 rfl
        have y0 := XB.fz 0 rfl
        have y1 := XB.fz 1 rfl
        have XN : Blk p5 [.int .i64 q2, .slice g2 xs2.length c2] w12 := by rw [← hw12]; exact (XB.set 0 (.int .i64 q2)).set 1 (.slice g2 xs2.length c2)
        have RN : Blk W.heap.size [.int .i64 0, .slice none 0 0] w12 := by rw [← hw12]; exact (RB.far (by omega) 0 _).far (by omega) 1 _
        have CN : Cu p ad len cap zs W w12 := by rw [← hw12]; exact Cu.setCell (Cu.setCell CC hpW (by omega) 0 _) hpW (by omega) 1 _
        have ON : Own3 (p5 + 1) g2 c2 xs2 w12 := by rw [← hw12]; exact Own3.below (Own3.below OX (by omega) 0 _) (by omega) 1 _
        clear XB RB CC OX
        have XB := XN
        have RB := RN
        have CC := CN
        have OX := ON
        clear XN RN CN ON
        clear o2
        have R : Hid (∃ (j' : Nat) (nw' q' : Int) (g' : Option Addr) (c' : Nat) (xs' : List A3), Value.int .i64 ((j : Int) - 1) = .int .i64 (j' : Int) ∧ Value.int .i64 (nw + d0) = .int .i64 nw' ∧ 0 ≤ nw' ∧ nw' + (j' : Int) ≤ 30 ∧ xs'.length ≤ 7 ∧ Blk p5 [.int .i64 q', .slice g' xs'.length c'] w12 ∧ Own3 (p5 + 1) g' c' xs' w12 ∧ Blk W.heap.size [.int .i64 0, .slice none 0 0] w12 ∧ Cu p ad len cap zs W w12) := ⟨j - 1, nw + d0, q2, g2, c2, xs2, by congr 1; omega, rfl, by omega, by omega, ht7, XB, OX, RB, CC⟩
        clear XB OX RB CC
        go_wp2
        try rw [hw12]
        clear hw12
        go_roundw
        case rel => exact R.out
        case measure => simp [intOf]; omega
    · obtain rfl : j = 0 := by omega
      have HX := onceW 10 CC.here (by omega)
      go_wp2_with fail
      refine HX.mono ?_
      clear HX
      rintro en w46 ⟨bb, rfl, C⟩
      replace RB := RB.only C.2 RB.lt (by omega)
      replace XB := XB.only C.2 XB.lt (by omega)
      replace OX := Own3.only OX C.2 (by omega)
      replace CC := CC.next C
      clear C
      cases bb with
      | false =>
        have x0 := XB.at 0 rfl
        have x1 := XB.at 1 rfl
        have r0 := RB.at 0 rfl
        have r1 := RB.at 1 rfl
        have s0 := RB.fz 0 rfl
        have s1 := RB.fz 1 rfl
        have F1 : Hid (Blk W.heap.size [.int .i64 q, .slice g xs.length c] ((w46.setCell ⟨W.heap.size, 0, none⟩ (.int .i64 q)).setCell ⟨W.heap.size, 1, none⟩ (.slice g xs.length c))) := (RB.set 0 (.int .i64 q)).set 1 (.slice g xs.length c)
        have F2 : Hid (Own3 (p5 + 1) g c xs ((w46.setCell ⟨W.heap.size, 0, none⟩ (.int .i64 q)).setCell ⟨W.heap.size, 1, none⟩ (.slice g xs.length c))) := Own3.below (Own3.below OX (by omega) 0 _) (by omega) 1 _
        have F3 : Hid (Cu p ad len cap zs W ((w46.setCell ⟨W.heap.size, 0, none⟩ (.int .i64 q)).setCell ⟨W.heap.size, 1, none⟩ (.slice g xs.length c))) := Cu.setCell (Cu.setCell CC hpW (Nat.le_refl _) 0 _) hpW (Nat.le_refl _) 1 _
        clear XB RB CC OX
        go_wp2
        exact bodyPost_ret (res_c rfl _ _ W.heap.size _ _ rfl (F1.out.at 0 rfl) (F1.out.at 1 rfl)) rfl ⟨q, g, c, xs, rfl, F2.out.le (by omega), by omega, F3.out⟩
      | true =>
        have HX := belowW 2 CC.here (by omega) (by omega)
        go_wp2_with fail
        refine HX.mono ?_
        clear HX
        rintro en w47 ⟨z, rfl, za, zb, C⟩
        replace RB := RB.only C.2 RB.lt (by omega)
        replace XB := XB.only C.2 XB.lt (by omega)
        replace OX := Own3.only OX C.2 (by omega)
        replace CC := CC.next C
        clear C
        obtain rfl | rfl : z = 0 ∨ z = 1 := by omega
        · obtain ⟨w48, hw48⟩ : ∃ v, w47.alloc (.cells #[.int .i64 (-2), .int .i64 (-1), .int .i64 5, .int .i64 200000, .int .i64 200001] 3) = v := ⟨_, rfl⟩
          have hal : Below w47.heap.size w47 w48 := by rw [← hw48]; exact (Below.refl _ _).alloc (Nat.le_refl _) _
          have pg : p < w47.heap.size := CC.lt
          have LB : Blk w47.heap.size [.int .i64 (-2), .int .i64 (-1), .int .i64 5, .int .i64 200000, .int .i64 200001] w48 := by rw [← hw48]; exact Blk.new _ _ _
          replace RB := RB.later hal RB.lt
          replace XB := XB.later hal XB.lt
          replace OX := OX.later hal
          replace CC := CC.under hal
          clear hal
          have HX := pickI w47.heap.size 5 [-2, -1, 5, 200000, 200001] CC.here (by omega) (by omega) pg LB.lt (by decide) LB (by decide)
          go_wp2_with fail
          try rw [hw48]
          refine HX.mono ?_
          clear HX hw48
          rintro en w49 ⟨q9, rfl, q9i, C⟩
          replace RB := RB.only C.2 RB.lt (by omega)
          replace XB := XB.only C.2 XB.lt (by omega)
          replace OX := Own3.only OX C.2 (by omega)
          replace CC := CC.next C
          clear C
          clear LB pg
          obtain ⟨w50, hw50⟩ : ∃ v, w49.setCell ⟨p5, 0, none⟩ (.int .i64 q9) = v := ⟨_, rfl⟩
          have x0 := XB.at 0 rfl
          have y0 := XB.fz 0 rfl
          have XN : Blk p5 [.int .i64 q9, .slice g xs.length c] w50 := by rw [← hw50]; exact XB.set 0 (.int .i64 q9)
          have RN : Blk W.heap.size [.int .i64 0, .slice none 0 0] w50 := by rw [← hw50]; exact RB.far (by omega) 0 _
          have CN : Cu p ad len cap zs W w50 := by rw [← hw50]; exact Cu.setCell CC hpW (by omega) 0 _
          have ON : Own3 (p5 + 1) g c xs w50 := by rw [← hw50]; exact Own3.below OX (by omega) 0 _
          clear XB RB CC OX
          have XB := XN
          have RB := RN
          have CC := CN
          have OX := ON
          clear XN RN CN ON
          have x0 := XB.at 0 rfl
          have x1 := XB.at 1 rfl
          have r0 := RB.at 0 rfl
          have r1 := RB.at 1 rfl
          have s0 := RB.fz 0 rfl
          have s1 := RB.fz 1 rfl
          have F1 : Hid (Blk W.heap.size [.int .i64 q9, .slice g xs.length c] ((w50.setCell ⟨W.heap.size, 0, none⟩ (.int .i64 q9)).setCell ⟨W.heap.size, 1, none⟩ (.slice g xs.length c))) := (RB.set 0 (.int .i64 q9)).set 1 (.slice g xs.length c)
          have F2 : Hid (Own3 (p5 + 1) g c xs ((w50.setCell ⟨W.heap.size, 0, none⟩ (.int .i64 q9)).setCell ⟨W.heap.size, 1, none⟩ (.slice g xs.length c))) := Own3.below (Own3.below OX (by omega) 0 _) (by omega) 1 _
          have F3 : Hid (Cu p ad len cap zs W ((w50.setCell ⟨W.heap.size, 0, none⟩ (.int .i64 q9)).setCell ⟨W.heap.size, 1, none⟩ (.slice g xs.length c))) := Cu.setCell (Cu.setCell CC hpW (Nat.le_refl _) 0 _) hpW (Nat.le_refl _) 1 _
          clear XB RB CC OX
          go_wp2
          exact bodyPost_ret (res_c rfl _ _ W.heap.size _ _ rfl (F1.out.at 0 rfl) (F1.out.at 1 rfl)) rfl ⟨q9, g, c, xs, rfl, F2.out.le (by omega), by omega, F3.out⟩
        · go_wp2_with fail
          replace XB := XB.drew
          replace RB := RB.drew
          replace OX := OX.drew
          replace CC := CC.drew
          refine wp_region_any (by kernel_rfl) ?_
          show wpAny _ _ _ _ _ _ _ w47.drew
          refine take_any 0 45 (v := ?_) rfl rfl (by kernel_rfl) (by kernel_rfl) (by kernel_rfl) (fun _ _ _ h => h) (Or.inl ⟨by rfl, ?_⟩) ?_
          rotate_left
          · intro w'; go_simp; try with_reducible rfl
          try simp only [Act.put, List.setIfInBounds_toArray, List.set_cons_zero, List.set_cons_succ]
          refine take_any 2 47 (v := ?_) rfl rfl (by kernel_rfl) (by kernel_rfl) (by kernel_rfl) (fun _ _ _ h => h) (Or.inl ⟨by rfl, ?_⟩) ?_
          rotate_left
          · intro w'; go_simp; try with_reducible rfl
          try simp only [Act.put, List.setIfInBounds_toArray, List.set_cons_zero, List.set_cons_succ]
          refine wpAny_ready (rs := [1, 3]) (by kernel_rfl) (by simp) ?_
          refine AllReady.cons (i := 1) rfl (fun K hK => ?_) (AllReady.cons (i := 3) rfl (fun K hK => ?_) AllReady.nil)
          ·
            have x1 := XB.at 1 rfl
            go_simp
            refine hK _ _ ?_
            clear hK K
            try simp only [Act.put, List.setIfInBounds_toArray, List.set_cons_zero, List.set_cons_succ]
            clear x1
            refine wpAny_ready (rs := [3]) (by kernel_rfl) (by simp) ?_
            refine AllReady.cons (i := 3) rfl (fun K hK => ?_) AllReady.nil
            have hK3 : Shut _ := hK
            clear hK
            go_simp
            refine (authW CC.here).mono ?_
            rintro en u ⟨o0, o1, o2, rfl, C⟩
            replace XB := XB.only C.2 XB.lt (by omega)
            replace RB := RB.only C.2 RB.lt (by omega)
            replace OX := Own3.only OX C.2 (by omega)
            replace CC := CC.next C
            clear C
            go_wp2_with fail
            refine hK3.out _ _ ?_
            clear hK3 K
            try simp only [Act.put, List.setIfInBounds_toArray, List.set_cons_zero, List.set_cons_succ]
            refine wpAny_ready (rs := [4]) (by kernel_rfl) (by simp) ?_
            refine AllReady.cons (i := 4) rfl (fun K hK => ?_) AllReady.nil
            go_simp
            refine hK _ _ ?_
            clear hK K
            try simp only [Act.put, List.setIfInBounds_toArray, List.set_cons_zero, List.set_cons_succ]
            refine wpAny_ready (rs := [5]) (by kernel_rfl) (by simp) ?_
            refine AllReady.cons (i := 5) rfl (fun K hK => ?_) AllReady.nil
            have lu : p5 < u.heap.size := XB.lt
            refine step_app_trips 50 rfl rfl _ _ rfl (p5 + 1) _ xs.length xs rfl (World.ownsRow.alloc OX _) (some ⟨u.heap.size, 0, none⟩) 1 [(o0, o1, o2)] rfl (one_row u o0 o1 o2) (by show xs.length + 1 ≤ _; omega) (by simp; omega) ?_
            intro v' w9 hown hg
            have hb9 : Below (p5 + 1) u w9 := ((Below.refl (p5 + 1) u).alloc (by omega) (.cells #[.int .i64 o0, .int .i64 o1, .int .i64 o2] 28)).grown hg (by simp; omega) (fun kk hkk => (World.ownsRow.lt OX kk hkk).1)
            have hl9 : xs.length + [(o0, o1, o2)].length = (xs ++ [(o0, o1, o2)]).length := by simp
            rw [hl9] at hown
            have hx9 : (xs ++ [(o0, o1, o2)]).length ≤ 8 := by simp; omega
            generalize xs ++ [(o0, o1, o2)] = xs9 at hown hx9
            clear hl9 hg
            obtain ⟨g9, c9, rfl, _⟩ := own_shape hown
            replace XB := XB.lower hb9 (by omega)
            replace RB := RB.lower hb9 (by omega)
            replace CC := Draw.Cu.down CC hb9 (by omega) (by omega)
            clear OX hb9 lu
            have OX : Own3 (p5 + 1) g9 c9 xs9 w9 := hown
            clear hown
            refine hK _ _ ?_
            clear hK K
            try simp only [Act.put, List.setIfInBounds_toArray, List.set_cons_zero, List.set_cons_succ]
            refine take_any 6 51 (v := ?_) rfl rfl (by kernel_rfl) (by kernel_rfl) (by kernel_rfl) (fun _ _ _ h => h) (Or.inl ⟨by rfl, ?_⟩) ?_
            rotate_left
            · intro w'; go_simp; try with_reducible rfl
            try simp only [Act.put, List.setIfInBounds_toArray, List.set_cons_zero, List.set_cons_succ]
            refine wpAny_ready (rs := [7]) (by kernel_rfl) (by simp) ?_
            refine AllReady.cons (i := 7) rfl (fun K hK => ?_) AllReady.nil
            have x1 := XB.at 1 rfl
            have y1 := XB.fz 1 rfl
            have XN := XB.set 1 (.slice g9 xs9.length c9)
            have RN := RB.far (g' := p5) (by omega) 1 (.slice g9 xs9.length c9)
            have CN : Cu p ad len cap zs W (w9.setCell ⟨p5, 1, none⟩ (.slice g9 xs9.length c9)) := Cu.setCell CC hpW (by omega) 1 _
            have ON := Own3.below OX (g := p5) (by omega) 1 (.slice g9 xs9.length c9)
            go_simp
            refine hK _ _ ?_
            clear hK K
            try simp only [Act.put, List.setIfInBounds_toArray, List.set_cons_zero, List.set_cons_succ]
            obtain ⟨w10, hw10⟩ : ∃ v, w9.setCell ⟨p5, 1, none⟩ (.slice g9 xs9.length c9) = v := ⟨_, rfl⟩
            rw [hw10] at XN RN CN ON
            try rw [hw10]
            clear x1 y1 XB RB CC OX hw10
            have XB := XN
            have RB := RN
            have CC := CN
            have OX := ON
            clear XN RN CN ON
            refine wpAny_done (by kernel_rfl) ?_ _
            have x0 := XB.at 0 rfl
            have x1 := XB.at 1 rfl
            have r0 := RB.at 0 rfl
            have r1 := RB.at 1 rfl
            have s0 := RB.fz 0 rfl
            have s1 := RB.fz 1 rfl
            have F1 : Hid (Blk W.heap.size [.int .i64 q, .slice g9 xs9.length c9] ((w10.setCell ⟨W.heap.size, 0, none⟩ (.int .i64 q)).setCell ⟨W.heap.size, 1, none⟩ (.slice g9 xs9.length c9))) := (RB.set 0 (.int .i64 q)).set 1 (.slice g9 xs9.length c9)
            have F2 : Hid (Own3 (p5 + 1) g9 c9 xs9 ((w10.setCell ⟨W.heap.size, 0, none⟩ (.int .i64 q)).setCell ⟨W.heap.size, 1, none⟩ (.slice g9 xs9.length c9))) := Own3.below (Own3.below OX (by omega) 0 _) (by omega) 1 _
            have F3 : Hid (Cu p ad len cap zs W ((w10.setCell ⟨W.heap.size, 0, none⟩ (.int .i64 q)).setCell ⟨W.heap.size, 1, none⟩ (.slice g9 xs9.length c9))) := Cu.setCell (Cu.setCell CC hpW (Nat.le_refl _) 0 _) hpW (Nat.le_refl _) 1 _
            clear XB RB CC OX
            go_wp2
            exact bodyPost_ret (res_c rfl _ _ W.heap.size _ _ rfl (F1.out.at 0 rfl) (F1.out.at 1 rfl)) rfl ⟨q, g9, c9, xs9, rfl, F2.out.le (by omega), by omega, F3.out⟩
          ·
            have hK3 : Shut _ := hK
            clear hK
            go_simp
            refine (authW CC.here).mono ?_
            rintro en u ⟨o0, o1, o2, rfl, C⟩
            replace XB := XB.only C.2 XB.lt (by omega)
            replace RB := RB.only C.2 RB.lt (by omega)
            replace OX := Own3.only OX C.2 (by omega)
            replace CC := CC.next C
            clear C
            go_wp2_with fail
            refine hK3.out _ _ ?_
            clear hK3 K
            try simp only [Act.put, List.setIfInBounds_toArray, List.set_cons_zero, List.set_cons_succ]
            refine wpAny_ready (rs := [1, 4]) (by kernel_rfl) (by simp) ?_
            refine AllReady.cons (i := 1) rfl (fun K hK => ?_) (AllReady.cons (i := 4) rfl (fun K hK => ?_) AllReady.nil)
            ·
              have x1 := XB.at 1 rfl
              go_simp
              refine hK _ _ ?_
              clear hK K
              try simp only [Act.put, List.setIfInBounds_toArray, List.set_cons_zero, List.set_cons_succ]
              clear x1
              refine wpAny_ready (rs := [4]) (by kernel_rfl) (by simp) ?_
              refine AllReady.cons (i := 4) rfl (fun K hK => ?_) AllReady.nil
              go_simp
              refine hK _ _ ?_
              clear hK K
              try simp only [Act.put, List.setIfInBounds_toArray, List.set_cons_zero, List.set_cons_succ]
              refine wpAny_ready (rs := [5]) (by kernel_rfl) (by simp) ?_
              refine AllReady.cons (i := 5) rfl (fun K hK => ?_) AllReady.nil
              have lu : p5 < u.heap.size := XB.lt
              refine step_app_trips 50 rfl rfl _ _ rfl (p5 + 1) _ xs.length xs rfl (World.ownsRow.alloc OX _) (some ⟨u.heap.size, 0, none⟩) 1 [(o0, o1, o2)] rfl (one_row u o0 o1 o2) (by show xs.length + 1 ≤ _; omega) (by simp; omega) ?_
              intro v' w9 hown hg
              have hb9 : Below (p5 + 1) u w9 := ((Below.refl (p5 + 1) u).alloc (by omega) (.cells #[.int .i64 o0, .int .i64 o1, .int .i64 o2] 28)).grown hg (by simp; omega) (fun kk hkk => (World.ownsRow.lt OX kk hkk).1)
              have hl9 : xs.length + [(o0, o1, o2)].length = (xs ++ [(o0, o1, o2)]).length := by simp
              rw [hl9] at hown
              have hx9 : (xs ++ [(o0, o1, o2)]).length ≤ 8 := by simp; omega
              generalize xs ++ [(o0, o1, o2)] = xs9 at hown hx9
              clear hl9 hg
              obtain ⟨g9, c9, rfl, _⟩ := own_shape hown
              replace XB := XB.lower hb9 (by omega)
              replace RB := RB.lower hb9 (by omega)
              replace CC := Draw.Cu.down CC hb9 (by omega) (by omega)
              clear OX hb9 lu
              have OX : Own3 (p5 + 1) g9 c9 xs9 w9 := hown
              clear hown
              refine hK _ _ ?_
              clear hK K
              try simp only [Act.put, List.setIfInBounds_toArray, List.set_cons_zero, List.set_cons_succ]
              refine take_any 6 51 (v := ?_) rfl rfl (by kernel_rfl) (by kernel_rfl) (by kernel_rfl) (fun _ _ _ h => h) (Or.inl ⟨by rfl, ?_⟩) ?_
              rotate_left
              · intro w'; go_simp; try with_reducible rfl
              try simp only [Act.put, List.setIfInBounds_toArray, List.set_cons_zero, List.set_cons_succ]
              refine wpAny_ready (rs := [7]) (by kernel_rfl) (by simp) ?_
              refine AllReady.cons (i := 7) rfl (fun K hK => ?_) AllReady.nil
              have x1 := XB.at 1 rfl
              have y1 := XB.fz 1 rfl
              have XN := XB.set 1 (.slice g9 xs9.length c9)
              have RN := RB.far (g' := p5) (by omega) 1 (.slice g9 xs9.length c9)
              have CN : Cu p ad len cap zs W (w9.setCell ⟨p5, 1, none⟩ (.slice g9 xs9.length c9)) := Cu.setCell CC hpW (by omega) 1 _
              have ON := Own3.below OX (g := p5) (by omega) 1 (.slice g9 xs9.length c9)
              go_simp
              refine hK _ _ ?_
              clear hK K
              try simp only [Act.put, List.setIfInBounds_toArray, List.set_cons_zero, List.set_cons_succ]
              obtain ⟨w10, hw10⟩ : ∃ v, w9.setCell ⟨p5, 1, none⟩ (.slice g9 xs9.length c9) = v := ⟨_, rfl⟩
              rw [hw10] at XN RN CN ON
              try rw [hw10]
              clear x1 y1 XB RB CC OX hw10
              have XB := XN
              have RB := RN
              have CC := CN
              have OX := ON
              clear XN RN CN ON
              refine wpAny_done (by kernel_rfl) ?_ _
              have x0 := XB.at 0 rfl
              have x1 := XB.at 1 rfl
              have r0 := RB.at 0 rfl
              have r1 := RB.at 1 rfl
              have s0 := RB.fz 0 rfl
              have s1 := RB.fz 1 rfl
              have F1 : Hid (Blk W.heap.size [.int .i64 q, .slice g9 xs9.length c9] ((w10.setCell ⟨W.heap.size, 0, none⟩ (.int .i64 q)).setCell ⟨W.heap.size, 1, none⟩ (.slice g9 xs9.length c9))) := (RB.set 0 (.int .i64 q)).set 1 (.slice g9 xs9.length c9)
              have F2 : Hid (Own3 (p5 + 1) g9 c9 xs9 ((w10.setCell ⟨W.heap.size, 0, none⟩ (.int .i64 q)).setCell ⟨W.heap.size, 1, none⟩ (.slice g9 xs9.length c9))) := Own3.below (Own3.below OX (by omega) 0 _) (by omega) 1 _
              have F3 : Hid (Cu p ad len cap zs W ((w10.setCell ⟨W.heap.size, 0, none⟩ (.int .i64 q)).setCell ⟨W.heap.size, 1, none⟩ (.slice g9 xs9.length c9))) := Cu.setCell (Cu.setCell CC hpW (Nat.le_refl _) 0 _) hpW (Nat.le_refl _) 1 _
              clear XB RB CC OX
              go_wp2
              exact bodyPost_ret (res_c rfl _ _ W.heap.size _ _ rfl (F1.out.at 0 rfl) (F1.out.at 1 rfl)) rfl ⟨q, g9, c9, xs9, rfl, F2.out.le (by omega), by omega, F3.out⟩
            ·
              go_simp
              refine hK _ _ ?_
              clear hK K
              try simp only [Act.put, List.setIfInBounds_toArray, List.set_cons_zero, List.set_cons_succ]
              refine wpAny_ready (rs := [1]) (by kernel_rfl) (by simp) ?_
              refine AllReady.cons (i := 1) rfl (fun K hK => ?_) AllReady.nil
              have x1 := (XB.alloc XB.lt (.cells #[.int .i64 o0, .int .i64 o1, .int .i64 o2] 28)).at 1 rfl
              go_simp
              refine hK _ _ ?_
              clear hK K
              try simp only [Act.put, List.setIfInBounds_toArray, List.set_cons_zero, List.set_cons_succ]
              clear x1
              refine wpAny_ready (rs := [5]) (by kernel_rfl) (by simp) ?_
              refine AllReady.cons (i := 5) rfl (fun K hK => ?_) AllReady.nil
              have lu : p5 < u.heap.size := XB.lt
              refine step_app_trips 50 rfl rfl _ _ rfl (p5 + 1) _ xs.length xs rfl (World.ownsRow.alloc OX _) (some ⟨u.heap.size, 0, none⟩) 1 [(o0, o1, o2)] rfl (one_row u o0 o1 o2) (by show xs.length + 1 ≤ _; omega) (by simp; omega) ?_
              intro v' w9 hown hg
              have hb9 : Below (p5 + 1) u w9 := ((Below.refl (p5 + 1) u).alloc (by omega) (.cells #[.int .i64 o0, .int .i64 o1, .int .i64 o2] 28)).grown hg (by simp; omega) (fun kk hkk => (World.ownsRow.lt OX kk hkk).1)
              have hl9 : xs.length + [(o0, o1, o2)].length = (xs ++ [(o0, o1, o2)]).length := by simp
              rw [hl9] at hown
              have hx9 : (xs ++ [(o0, o1, o2)]).length ≤ 8 := by simp; omega
              generalize xs ++ [(o0, o1, o2)] = xs9 at hown hx9
              clear hl9 hg
              obtain ⟨g9, c9, rfl, _⟩ := own_shape hown
              replace XB := XB.lower hb9 (by omega)
              replace RB := RB.lower hb9 (by omega)
              replace CC := Draw.Cu.down CC hb9 (by omega) (by omega)
              clear OX hb9 lu
              have OX : Own3 (p5 + 1) g9 c9 xs9 w9 := hown
              clear hown
              refine hK _ _ ?_
              clear hK K
              try simp only [Act.put, List.setIfInBounds_toArray, List.set_cons_zero, List.set_cons_succ]
              refine take_any 6 51 (v := ?_) rfl rfl (by kernel_rfl) (by kernel_rfl) (by kernel_rfl) (fun _ _ _ h => h) (Or.inl ⟨by rfl, ?_⟩) ?_
              rotate_left
              · intro w'; go_simp; try with_reducible rfl
              try simp only [Act.put, List.setIfInBounds_toArray, List.set_cons_zero, List.set_cons_succ]
              refine wpAny_ready (rs := [7]) (by kernel_rfl) (by simp) ?_
              refine AllReady.cons (i := 7) rfl (fun K hK => ?_) AllReady.nil
              have x1 := XB.at 1 rfl
              have y1 := XB.fz 1 rfl
              have XN := XB.set 1 (.slice g9 xs9.length c9)
              have RN := RB.far (g' := p5) (by omega) 1 (.slice g9 xs9.length c9)
              have CN : Cu p ad len cap zs W (w9.setCell ⟨p5, 1, none⟩ (.slice g9 xs9.length c9)) := Cu.setCell CC hpW (by omega) 1 _
              have ON := Own3.below OX (g := p5) (by omega) 1 (.slice g9 xs9.length c9)
              go_simp
              refine hK _ _ ?_
              clear hK K
              try simp only [Act.put, List.setIfInBounds_toArray, List.set_cons_zero, List.set_cons_succ]
              obtain ⟨w10, hw10⟩ : ∃ v, w9.setCell ⟨p5, 1, none⟩ (.slice g9 xs9.length c9) = v := ⟨_, rfl⟩
              rw [hw10] at XN RN CN ON
              try rw [hw10]
              clear x1 y1 XB RB CC OX hw10
              have XB := XN
              have RB := RN
              have CC := CN
              have OX := ON
              clear XN RN CN ON
              refine wpAny_done (by kernel_rfl) ?_ _
              have x0 := XB.at 0 rfl
              have x1 := XB.at 1 rfl
              have r0 := RB.at 0 rfl
              have r1 := RB.at 1 rfl
              have s0 := RB.fz 0 rfl
              have s1 := RB.fz 1 rfl
              have F1 : Hid (Blk W.heap.size [.int .i64 q, .slice g9 xs9.length c9] ((w10.setCell ⟨W.heap.size, 0, none⟩ (.int .i64 q)).setCell ⟨W.heap.size, 1, none⟩ (.slice g9 xs9.length c9))) := (RB.set 0 (.int .i64 q)).set 1 (.slice g9 xs9.length c9)
              have F2 : Hid (Own3 (p5 + 1) g9 c9 xs9 ((w10.setCell ⟨W.heap.size, 0, none⟩ (.int .i64 q)).setCell ⟨W.heap.size, 1, none⟩ (.slice g9 xs9.length c9))) := Own3.below (Own3.below OX (by omega) 0 _) (by omega) 1 _
              have F3 : Hid (Cu p ad len cap zs W ((w10.setCell ⟨W.heap.size, 0, none⟩ (.int .i64 q)).setCell ⟨W.heap.size, 1, none⟩ (.slice g9 xs9.length c9))) := Cu.setCell (Cu.setCell CC hpW (Nat.le_refl _) 0 _) hpW (Nat.le_refl _) 1 _
              clear XB RB CC OX
              go_wp2
              exact bodyPost_ret (res_c rfl _ _ W.heap.size _ _ rfl (F1.out.at 0 rfl) (F1.out.at 1 rfl)) rfl ⟨q, g9, c9, xs9, rfl, F2.out.le (by omega), by omega, F3.out⟩
end Go.Proofs.Ytmiceknaipimiaa
