/- Auths, sizes and bytes as the laws draw them. -/
import Derived.Test.YtmiceknaipimiaaMark3
set_option linter.unusedVariables false
namespace Go.Proofs.Ytmiceknaipimiaa
open Go Go.RowKit Go.Joins Own Draw
set_option maxRecDepth 100000 in
set_option maxHeartbeats 6400000 in
theorem authW {p : Nat} {ad : Option Addr} {len cap : Nat} {zs : List Int} {W : World} (hC : Cu p ad len cap zs W W) : Calls Try.prog 31 #[.pointer (some ⟨p, 0, none⟩)] W fun en w' => ∃ o0 o1 o2 : Int, en = .returned (.agg #[.int .i64 o0, .int .i64 o1, .int .i64 o2]) ∧ Cu p ad len cap zs W w' := by
  have hpW : p < W.heap.size := hC.lt
  obtain ⟨W1, hW1⟩ : ∃ W1, W.alloc (.cells #[.int .i64 0, .int .i64 0, .int .i64 0] 28) = W1 := ⟨_, rfl⟩
  have RB : Blk W.heap.size [.int .i64 0, .int .i64 0, .int .i64 0] W1 := by rw [← hW1]; exact Blk.new _ _ _
  have CC : Cu p ad len cap zs W W1 := by rw [← hW1]; exact hC.alloc _
  clear hC
  go_enter Try.func31, Try.ntmps31
  have HX := belowW 6 CC.here (by omega) (by omega)
  go_wp2_with fail
  try rw [hW1]
  refine HX.mono ?_
  clear HX hW1
  rintro en w2 ⟨x0, rfl, x0a, x0b, C⟩
  have RBN := RB.only C.2 RB.lt (by omega)
  have CCN := CC.next C
  clear RB CC
  have RB := RBN
  have CC := CCN
  clear RBN CCN
  clear C
  have HX := belowW 40 CC.here (by omega) (by omega)
  go_wp2_with fail
  refine HX.mono ?_
  clear HX
  rintro en w3 ⟨x1, rfl, x1a, x1b, C⟩
  have RBN := RB.only C.2 RB.lt (by omega)
  have CCN := CC.next C
  clear RB CC
  have RB := RBN
  have CC := CCN
  clear RBN CCN
  clear C
  have HX := belowW 9 CC.here (by omega) (by omega)
  go_wp2_with fail
  refine HX.mono ?_
  clear HX
  rintro en w4 ⟨x2, rfl, x2a, x2b, C⟩
  have RBN := RB.only C.2 RB.lt (by omega)
  have CCN := CC.next C
  clear RB CC
  have RB := RBN
  have CC := CCN
  clear RBN CCN
  clear C
  obtain ⟨w5, hw5⟩ : ∃ v, w4.alloc (.cells #[.int .i64 x0, .int .i64 x1, .int .i64 x2] 28) = v := ⟨_, rfl⟩
  have RBN := RB.alloc RB.lt (.cells #[.int .i64 x0, .int .i64 x1, .int .i64 x2] 28)
  have CCN := CC.alloc (.cells #[.int .i64 x0, .int .i64 x1, .int .i64 x2] 28)
  have pg : p < w4.heap.size := CC.lt
  have rg : W.heap.size < w4.heap.size := RB.lt
  have LB : Blk w4.heap.size [.int .i64 x0, .int .i64 x1, .int .i64 x2] w5 := by rw [← hw5]; exact Blk.new _ _ _
  rw [hw5] at RBN CCN
  clear RB CC
  have RB := RBN
  have CC := CCN
  clear RBN CCN
  have QB := LB
  clear LB
  have HX := onceW 10 CC.here (by omega)
  go_wp2_with fail
  try rw [hw5]
  refine HX.mono ?_
  clear HX hw5
  rintro en w6 ⟨bb, rfl, C⟩
  have RBN := RB.only C.2 RB.lt (by omega)
  have QBN := QB.only C.2 QB.lt (by omega)
  have CCN := CC.next C
  clear RB QB CC
  have RB := RBN
  have QB := QBN
  have CC := CCN
  clear RBN QBN CCN
  clear C
  obtain ⟨q, hq⟩ : ∃ q, w4.heap.size = q := ⟨_, rfl⟩
  simp only [hq] at QB pg rg ⊢
  have HQ := show Hid _ from hq
  clear hq
  cases bb with
  | false =>
    have r0 := RB.at 0 rfl
    have r1 := RB.at 1 rfl
    have r2 := RB.at 2 rfl
    have g0 := RB.fz 0 rfl
    have g1 := RB.fz 1 rfl
    have g2 := RB.fz 2 rfl
    have q0 := QB.at 0 rfl
    have q1 := QB.at 1 rfl
    have q2 := QB.at 2 rfl
    have F := show Hid _ from (show Blk W.heap.size [.int .i64 x0, .int .i64 x1, .int .i64 x2] ((((w6).setCell ⟨W.heap.size, 0, none⟩ (.int .i64 x0)).setCell ⟨W.heap.size, 1, none⟩ (.int .i64 x1)).setCell ⟨W.heap.size, 2, none⟩ (.int .i64 x2)) ∧ Cu p ad len cap zs W ((((w6).setCell ⟨W.heap.size, 0, none⟩ (.int .i64 x0)).setCell ⟨W.heap.size, 1, none⟩ (.int .i64 x1)).setCell ⟨W.heap.size, 2, none⟩ (.int .i64 x2)) from ⟨(((RB.set 0 (.int .i64 x0)).set 1 (.int .i64 x1)).set 2 (.int .i64 x2)), (Cu.setCell (Cu.setCell (Cu.setCell CC hpW (Nat.le_refl _) 0 (.int .i64 x0)) hpW (Nat.le_refl _) 1 (.int .i64 x1)) hpW (Nat.le_refl _) 2 (.int .i64 x2))⟩)
    have NQ : ¬ q = W.heap.size := by omega
    have NR : ¬ W.heap.size = q := by omega
    clear RB QB CC
    go_wp2
    have G := F.out
    exact bodyPost_ret (res_a rfl _ _ W.heap.size _ _ _ rfl (G.1.at 0 rfl) (G.1.at 1 rfl) (G.1.at 2 rfl)) rfl ⟨x0, x1, x2, rfl, G.2⟩
  | true =>
    have HX := belowW 3 CC.here (by omega) (by omega)
    go_wp2_with fail
    refine HX.mono ?_
    clear HX
    rintro en w7 ⟨z, rfl, za, zb, C⟩
    have RBN := RB.only C.2 RB.lt (by omega)
    have QBN := QB.only C.2 QB.lt (by omega)
    have CCN := CC.next C
    clear RB QB CC
    have RB := RBN
    have QB := QBN
    have CC := CCN
    clear RBN QBN CCN
    clear C
    obtain rfl | rfl | rfl : z = 0 ∨ z = 1 ∨ z = 2 := by omega
    · obtain ⟨w8, hw8⟩ : ∃ v, w7.alloc (.cells #[.int .i64 (-1), .int .i64 6] 3) = v := ⟨_, rfl⟩
      have RBN := RB.alloc RB.lt (.cells #[.int .i64 (-1), .int .i64 6] 3)
      have QBN := QB.alloc QB.lt (.cells #[.int .i64 (-1), .int .i64 6] 3)
      have CCN := CC.alloc (.cells #[.int .i64 (-1), .int .i64 6] 3)
      have pg : p < w7.heap.size := CC.lt
      have rg : W.heap.size < w7.heap.size := RB.lt
      have LB : Blk w7.heap.size [.int .i64 (-1), .int .i64 6] w8 := by rw [← hw8]; exact Blk.new _ _ _
      rw [hw8] at RBN QBN CCN
      clear RB QB CC
      have RB := RBN
      have QB := QBN
      have CC := CCN
      clear RBN QBN CCN
      have HX := pickI w7.heap.size 2 [-1, 6] CC.here (by omega) (by omega) pg LB.lt (by decide) LB (by decide)
      go_wp2_with fail
      try rw [hw8]
      refine HX.mono ?_
      clear HX hw8
      rintro en w9 ⟨y0, rfl, y0i, C⟩
      have RBN := RB.only C.2 RB.lt (by omega)
      have QBN := QB.only C.2 QB.lt (by omega)
      have CCN := CC.next C
      clear RB QB CC
      have RB := RBN
      have QB := QBN
      have CC := CCN
      clear RBN QBN CCN
      clear C
      clear LB pg rg
      obtain ⟨w10, hw10⟩ : ∃ v, w9.setCell ⟨q, 0, none⟩ (.int .i64 y0) = v := ⟨_, rfl⟩
      have uq := QB.at 0 rfl
      have vq := QB.fz 0 rfl
      have QBN : Blk q [.int .i64 y0, .int .i64 x1, .int .i64 x2] w10 := by rw [← hw10]; exact QB.set 0 (.int .i64 y0)
      have RBN : Blk W.heap.size [.int .i64 0, .int .i64 0, .int .i64 0] w10 := by rw [← hw10]; exact RB.far (by omega) 0 (.int .i64 y0)
      have CCN : Cu p ad len cap zs W w10 := by rw [← hw10]; exact Cu.setCell CC hpW (by omega) 0 (.int .i64 y0)
      clear RB QB CC
      have RB := RBN
      have QB := QBN
      have CC := CCN
      clear RBN QBN CCN
      have r0 := RB.at 0 rfl
      have r1 := RB.at 1 rfl
      have r2 := RB.at 2 rfl
      have g0 := RB.fz 0 rfl
      have g1 := RB.fz 1 rfl
      have g2 := RB.fz 2 rfl
      have q0 := QB.at 0 rfl
      have q1 := QB.at 1 rfl
      have q2 := QB.at 2 rfl
      have F := show Hid _ from (show Blk W.heap.size [.int .i64 y0, .int .i64 x1, .int .i64 x2] ((((w10).setCell ⟨W.heap.size, 0, none⟩ (.int .i64 y0)).setCell ⟨W.heap.size, 1, none⟩ (.int .i64 x1)).setCell ⟨W.heap.size, 2, none⟩ (.int .i64 x2)) ∧ Cu p ad len cap zs W ((((w10).setCell ⟨W.heap.size, 0, none⟩ (.int .i64 y0)).setCell ⟨W.heap.size, 1, none⟩ (.int .i64 x1)).setCell ⟨W.heap.size, 2, none⟩ (.int .i64 x2)) from ⟨(((RB.set 0 (.int .i64 y0)).set 1 (.int .i64 x1)).set 2 (.int .i64 x2)), (Cu.setCell (Cu.setCell (Cu.setCell CC hpW (Nat.le_refl _) 0 (.int .i64 y0)) hpW (Nat.le_refl _) 1 (.int .i64 x1)) hpW (Nat.le_refl _) 2 (.int .i64 x2))⟩)
      have NQ : ¬ q = W.heap.size := by omega
      have NR : ¬ W.heap.size = q := by omega
      clear RB QB CC
      go_wp2
      have G := F.out
      exact bodyPost_ret (res_a rfl _ _ W.heap.size _ _ _ rfl (G.1.at 0 rfl) (G.1.at 1 rfl) (G.1.at 2 rfl)) rfl ⟨y0, x1, x2, rfl, G.2⟩
    · obtain ⟨w8, hw8⟩ : ∃ v, w7.alloc (.cells #[.int .i64 (-1), .int .i64 100000, .int .i64 100001] 3) = v := ⟨_, rfl⟩
      have RBN := RB.alloc RB.lt (.cells #[.int .i64 (-1), .int .i64 100000, .int .i64 100001] 3)
      have QBN := QB.alloc QB.lt (.cells #[.int .i64 (-1), .int .i64 100000, .int .i64 100001] 3)
      have CCN := CC.alloc (.cells #[.int .i64 (-1), .int .i64 100000, .int .i64 100001] 3)
      have pg : p < w7.heap.size := CC.lt
      have rg : W.heap.size < w7.heap.size := RB.lt
      have LB : Blk w7.heap.size [.int .i64 (-1), .int .i64 100000, .int .i64 100001] w8 := by rw [← hw8]; exact Blk.new _ _ _
      rw [hw8] at RBN QBN CCN
      clear RB QB CC
      have RB := RBN
      have QB := QBN
      have CC := CCN
      clear RBN QBN CCN
      have HX := pickI w7.heap.size 3 [-1, 100000, 100001] CC.here (by omega) (by omega) pg LB.lt (by decide) LB (by decide)
      go_wp2_with fail
      try rw [hw8]
      refine HX.mono ?_
      clear HX hw8
      rintro en w9 ⟨y1, rfl, y1i, C⟩
      have RBN := RB.only C.2 RB.lt (by omega)
      have QBN := QB.only C.2 QB.lt (by omega)
      have CCN := CC.next C
      clear RB QB CC
      have RB := RBN
      have QB := QBN
      have CC := CCN
      clear RBN QBN CCN
      clear C
      clear LB pg rg
      obtain ⟨w10, hw10⟩ : ∃ v, w9.setCell ⟨q, 1, none⟩ (.int .i64 y1) = v := ⟨_, rfl⟩
      have uq := QB.at 1 rfl
      have vq := QB.fz 1 rfl
      have QBN : Blk q [.int .i64 x0, .int .i64 y1, .int .i64 x2] w10 := by rw [← hw10]; exact QB.set 1 (.int .i64 y1)
      have RBN : Blk W.heap.size [.int .i64 0, .int .i64 0, .int .i64 0] w10 := by rw [← hw10]; exact RB.far (by omega) 1 (.int .i64 y1)
      have CCN : Cu p ad len cap zs W w10 := by rw [← hw10]; exact Cu.setCell CC hpW (by omega) 1 (.int .i64 y1)
      clear RB QB CC
      have RB := RBN
      have QB := QBN
      have CC := CCN
      clear RBN QBN CCN
      have r0 := RB.at 0 rfl
      have r1 := RB.at 1 rfl
      have r2 := RB.at 2 rfl
      have g0 := RB.fz 0 rfl
      have g1 := RB.fz 1 rfl
      have g2 := RB.fz 2 rfl
      have q0 := QB.at 0 rfl
      have q1 := QB.at 1 rfl
      have q2 := QB.at 2 rfl
      have F := show Hid _ from (show Blk W.heap.size [.int .i64 x0, .int .i64 y1, .int .i64 x2] ((((w10).setCell ⟨W.heap.size, 0, none⟩ (.int .i64 x0)).setCell ⟨W.heap.size, 1, none⟩ (.int .i64 y1)).setCell ⟨W.heap.size, 2, none⟩ (.int .i64 x2)) ∧ Cu p ad len cap zs W ((((w10).setCell ⟨W.heap.size, 0, none⟩ (.int .i64 x0)).setCell ⟨W.heap.size, 1, none⟩ (.int .i64 y1)).setCell ⟨W.heap.size, 2, none⟩ (.int .i64 x2)) from ⟨(((RB.set 0 (.int .i64 x0)).set 1 (.int .i64 y1)).set 2 (.int .i64 x2)), (Cu.setCell (Cu.setCell (Cu.setCell CC hpW (Nat.le_refl _) 0 (.int .i64 x0)) hpW (Nat.le_refl _) 1 (.int .i64 y1)) hpW (Nat.le_refl _) 2 (.int .i64 x2))⟩)
      have NQ : ¬ q = W.heap.size := by omega
      have NR : ¬ W.heap.size = q := by omega
      clear RB QB CC
      go_wp2
      have G := F.out
      exact bodyPost_ret (res_a rfl _ _ W.heap.size _ _ _ rfl (G.1.at 0 rfl) (G.1.at 1 rfl) (G.1.at 2 rfl)) rfl ⟨x0, y1, x2, rfl, G.2⟩
    · obtain ⟨w8, hw8⟩ : ∃ v, w7.alloc (.cells #[.int .i64 (-1), .int .i64 1000000, .int .i64 1000001] 3) = v := ⟨_, rfl⟩
      have RBN := RB.alloc RB.lt (.cells #[.int .i64 (-1), .int .i64 1000000, .int .i64 1000001] 3)
      have QBN := QB.alloc QB.lt (.cells #[.int .i64 (-1), .int .i64 1000000, .int .i64 1000001] 3)
      have CCN := CC.alloc (.cells #[.int .i64 (-1), .int .i64 1000000, .int .i64 1000001] 3)
      have pg : p < w7.heap.size := CC.lt
      have rg : W.heap.size < w7.heap.size := RB.lt
      have LB : Blk w7.heap.size [.int .i64 (-1), .int .i64 1000000, .int .i64 1000001] w8 := by rw [← hw8]; exact Blk.new _ _ _
      rw [hw8] at RBN QBN CCN
      clear RB QB CC
      have RB := RBN
      have QB := QBN
      have CC := CCN
      clear RBN QBN CCN
      have HX := pickI w7.heap.size 3 [-1, 1000000, 1000001] CC.here (by omega) (by omega) pg LB.lt (by decide) LB (by decide)
      go_wp2_with fail
      try rw [hw8]
      refine HX.mono ?_
      clear HX hw8
      rintro en w9 ⟨y2, rfl, y2i, C⟩
      have RBN := RB.only C.2 RB.lt (by omega)
      have QBN := QB.only C.2 QB.lt (by omega)
      have CCN := CC.next C
      clear RB QB CC
      have RB := RBN
      have QB := QBN
      have CC := CCN
      clear RBN QBN CCN
      clear C
      clear LB pg rg
      obtain ⟨w10, hw10⟩ : ∃ v, w9.setCell ⟨q, 2, none⟩ (.int .i64 y2) = v := ⟨_, rfl⟩
      have uq := QB.at 2 rfl
      have vq := QB.fz 2 rfl
      have QBN : Blk q [.int .i64 x0, .int .i64 x1, .int .i64 y2] w10 := by rw [← hw10]; exact QB.set 2 (.int .i64 y2)
      have RBN : Blk W.heap.size [.int .i64 0, .int .i64 0, .int .i64 0] w10 := by rw [← hw10]; exact RB.far (by omega) 2 (.int .i64 y2)
      have CCN : Cu p ad len cap zs W w10 := by rw [← hw10]; exact Cu.setCell CC hpW (by omega) 2 (.int .i64 y2)
      clear RB QB CC
      have RB := RBN
      have QB := QBN
      have CC := CCN
      clear RBN QBN CCN
      have r0 := RB.at 0 rfl
      have r1 := RB.at 1 rfl
      have r2 := RB.at 2 rfl
      have g0 := RB.fz 0 rfl
      have g1 := RB.fz 1 rfl
      have g2 := RB.fz 2 rfl
      have q0 := QB.at 0 rfl
      have q1 := QB.at 1 rfl
      have q2 := QB.at 2 rfl
      have F := show Hid _ from (show Blk W.heap.size [.int .i64 x0, .int .i64 x1, .int .i64 y2] ((((w10).setCell ⟨W.heap.size, 0, none⟩ (.int .i64 x0)).setCell ⟨W.heap.size, 1, none⟩ (.int .i64 x1)).setCell ⟨W.heap.size, 2, none⟩ (.int .i64 y2)) ∧ Cu p ad len cap zs W ((((w10).setCell ⟨W.heap.size, 0, none⟩ (.int .i64 x0)).setCell ⟨W.heap.size, 1, none⟩ (.int .i64 x1)).setCell ⟨W.heap.size, 2, none⟩ (.int .i64 y2)) from ⟨(((RB.set 0 (.int .i64 x0)).set 1 (.int .i64 x1)).set 2 (.int .i64 y2)), (Cu.setCell (Cu.setCell (Cu.setCell CC hpW (Nat.le_refl _) 0 (.int .i64 x0)) hpW (Nat.le_refl _) 1 (.int .i64 x1)) hpW (Nat.le_refl _) 2 (.int .i64 y2))⟩)
      have NQ : ¬ q = W.heap.size := by omega
      have NR : ¬ W.heap.size = q := by omega
      clear RB QB CC
      go_wp2
      have G := F.out
      exact bodyPost_ret (res_a rfl _ _ W.heap.size _ _ _ rfl (G.1.at 0 rfl) (G.1.at 1 rfl) (G.1.at 2 rfl)) rfl ⟨x0, x1, y2, rfl, G.2⟩


theorem big_go (a : Option Addr) (len cap : Nat) (W : World) (h : len ≤ 1048576) :
    Calls Try.prog 8 #[.slice a len cap] W fun e w' => e = .returned (.bool false) ∧ W = w' := by
  have hd : decide ((1048576 : Int) < (len : Int)) = false := by simp; omega
  go_enter Try.func8, Try.ntmps8
  go_wp2
  go_ret
  exact ⟨rfl, rfl⟩
theorem big_yes (a : Option Addr) (len cap : Nat) (W : World) (h : 1048576 < len) (h2 : len ≤ maxLen) :
    Calls Try.prog 8 #[.slice a len cap] W fun e w' => e = .returned (.bool true) ∧ W = w' := by
  unfold maxLen at h2
  have hd : decide ((1048576 : Int) < (len : Int)) = true := by simp; omega
  go_enter Try.func8, Try.ntmps8
  go_wp2
  go_ret
  exact ⟨rfl, rfl⟩
set_option maxRecDepth 100000 in
theorem size_go (a : Option Addr) (n c : Nat) (w : World) (hn : n ≤ 1048576) :
    Calls Try.prog 29 #[.slice a n c, .int .i64 25] w fun e w' => ∃ x : Int, e = .returned (.int .i64 x) ∧ 2 ≤ x ∧ x ≤ 25 ∧ w = w' := by
  by_cases h : (2 + (n : Int) / 20) > 25
  · go_enter Try.func29, Try.ntmps29
    go_wp2
    go_ret
    exact ⟨25, by first | rfl | go_num, by omega, by omega, rfl⟩
  · go_enter Try.func29, Try.ntmps29
    go_wp2
    go_ret
    exact ⟨2 + (n : Int) / 20, by first | rfl | go_num, by omega, by omega, rfl⟩
set_option maxRecDepth 100000 in
set_option maxHeartbeats 1600000 in
theorem at_go (a : Option Addr) (len cap : Nat) (zs : List Int) (W : World) (i : Nat) (hi : i ≤ 100) (hz : CodeAt W W.heap.size a len zs) :
    Calls Try.prog 14 #[.slice a len cap, .int .i64 (i : Int)] W fun e w' => ∃ z : Int, e = .returned (.int .i64 z) ∧ 0 ≤ z ∧ z ≤ 255 ∧ W = w' := by
  have hl := hz.1
  by_cases h : i < len
  · obtain ⟨⟨h1, h2⟩, b, off, e, hp, hc⟩ := hz.2 i h
    subst e
    generalize zs.getD i 0 = z at h1 h2 hc
    have hd : decide ((i : Int) < (len : Int)) = true := by simp; omega
    have hi2 : (i : Int) < (len : Int) := by omega
    go_enter Try.func14, Try.ntmps14
    go_wp2
    go_ret
    exact ⟨z, by go_num, h1, h2, rfl⟩
  · have hd : decide ((i : Int) < (len : Int)) = false := by simp; omega
    go_enter Try.func14, Try.ntmps14
    go_wp2
    go_ret
    exact ⟨((i : Int) * 37 + (len : Int) * 11) % 256, by first | rfl | go_num, by omega, by omega, rfl⟩
end Go.Proofs.Ytmiceknaipimiaa
