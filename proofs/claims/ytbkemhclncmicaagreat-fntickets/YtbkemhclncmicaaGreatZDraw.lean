/- Keys, authenticators and grants as the law draws them. -/
import Derived.Lib.SmallJoins
import Derived.Test.YtbkemhclncmicaaGreatDraw
import Derived.Test.YtbkemhclncmicaaGreatTick1
set_option linter.unusedVariables false
namespace Go.Proofs.YtbkemhclncmicaaGreat
open Go Go.RowKit Go.Joins Own Var Term Draw

theorem Blk.only {g p : Nat} {vs : List Value} {w w' : World} (h : Blk g vs w) (ho : Only p w w') (hg : g < w.heap.size) (hp : g ≠ p) : Blk g vs w' :=
  ⟨fun i v e => ⟨(ho.cell (q := ⟨g, i, none⟩) hg hp).trans (h.out i v e).1, (ho.frozen (q := ⟨g, i, none⟩) hg hp).trans (h.out i v e).2⟩⟩
theorem Blk.lt {g : Nat} {v : Value} {vs : List Value} {w : World} (h : Blk g (v :: vs) w) : g < w.heap.size := World.block_lt_of_cell? w _ (h.at 0 rfl)
theorem pickI {p : Nat} {a : Option Addr} {len cap : Nat} {zs : List Int} {w : World} (g m : Nat) (L : List Int) (h : Cu p a len cap zs w w) (hm : 0 < m) (hm2 : m ≤ 1000) (hg : p < g) (hgs : g < w.heap.size) (hl : L.length = m) (hL : Blk g (L.map (Value.int .i64)) w) (hb : ∀ y ∈ L, -9223372036854775808 ≤ y ∧ y ≤ 9223372036854775807) :
    Calls Tryz.prog 49 #[.pointer (some ⟨p, 0, none⟩), .slice (some ⟨g, 0, none⟩) m m] w fun e w' => ∃ x : Int, e = .returned (.int .i64 x) ∧ i64 x ∧ Cu p a len cap zs w w' := by
  obtain ⟨⟨s, h⟩, _⟩ := h
  refine (pickIntD p a len cap zs s w g m L h hm hm2 hg hgs (fun j hj => hL.at j (by rw [List.getElem?_map, List.getD_eq_getElem?_getD, List.getElem?_eq_getElem (by omega)]; rfl))).mono ?_
  rintro e w' ⟨rfl, d, o⟩
  refine ⟨_, rfl, ?_, ⟨_, d⟩, o⟩
  unfold i64
  rw [List.getD_eq_getElem?_getD]
  cases hq : L[(belowV zs len m s).toNat]? with
  | none => show _ ≤ (0 : Int) ∧ (0 : Int) ≤ _; omega
  | some y => exact hb y (List.mem_of_getElem? hq)

set_option maxRecDepth 100000 in
set_option maxHeartbeats 1600000 in
theorem keyW {p : Nat} {ad : Option Addr} {len cap : Nat} {zs : List Int} {W : World} (CC : Cu p ad len cap zs W W) : Calls Tryz.prog 23 #[.pointer (some ⟨p, 0, none⟩)] W fun en w' => ∃ x : Int, en = .returned (.int .i64 x) ∧ i64 x ∧ Cu p ad len cap zs W w' := by
  go_enter Tryz.func23, Tryz.ntmps23
  obtain ⟨w1, hw1⟩ : ∃ v, W.alloc (.cells #[.int .i64 1, .int .i64 11, .int .i64 21, .int .i64 21, .int .i64 101, .int .i64 0, .int .i64 1000001] 3) = v := ⟨_, rfl⟩
  have CCN := CC.alloc (.cells #[.int .i64 1, .int .i64 11, .int .i64 21, .int .i64 21, .int .i64 101, .int .i64 0, .int .i64 1000001] 3)
  have pg : p < W.heap.size := CC.lt
  have LB : Blk W.heap.size [.int .i64 1, .int .i64 11, .int .i64 21, .int .i64 21, .int .i64 101, .int .i64 0, .int .i64 1000001] w1 := by rw [← hw1]; exact Blk.new _ _ _
  rw [hw1] at CCN
  clear CC
  have CC := CCN
  clear CCN
  have HX := pickI W.heap.size 7 [1, 11, 21, 21, 101, 0, 1000001] CC.here (by omega) (by omega) pg LB.lt (by decide) LB (by decide)
  go_wp2_with fail
  try rw [hw1]
  refine HX.mono ?_
  clear HX hw1
  rintro en w2 ⟨x, rfl, xi, C⟩
  have CCN := CC.next C
  clear CC
  have CC := CCN
  clear CCN
  clear C
  clear LB pg
  go_wp2
  go_ret
  exact ⟨x, rfl, xi, CC⟩

set_option maxRecDepth 100000 in
set_option maxHeartbeats 6400000 in
theorem authW {p : Nat} {ad : Option Addr} {len cap : Nat} {zs : List Int} {W : World} (hC : Cu p ad len cap zs W W) : Calls Tryz.prog 34 #[.pointer (some ⟨p, 0, none⟩)] W fun en w' => ∃ o0 o1 o2 : Int, en = .returned (.agg #[.int .i64 o0, .int .i64 o1, .int .i64 o2]) ∧ Cu p ad len cap zs W w' := by
  have hpW : p < W.heap.size := hC.lt
  obtain ⟨W1, hW1⟩ : ∃ W1, W.alloc (.cells #[.int .i64 0, .int .i64 0, .int .i64 0] 36) = W1 := ⟨_, rfl⟩
  have RB : Blk W.heap.size [.int .i64 0, .int .i64 0, .int .i64 0] W1 := by rw [← hW1]; exact Blk.new _ _ _
  have CC : Cu p ad len cap zs W W1 := by rw [← hW1]; exact hC.alloc _
  clear hC
  go_enter Tryz.func34, Tryz.ntmps34
  have HX := belowW 6 CC.here (by omega) (by omega)
  go_wp2_with fail
  try rw [hW1]
  refine HX.mono ?_
  clear HX hW1
  rintro en w2 ⟨x0, rfl, x0a, x0b, C⟩
  have RBN := RB.only C.2 RB.lt (by omega)
  have CCN := CC.next C
  clear RB CC
  have RB := RBN
  have CC := CCN
  clear RBN CCN
  clear C
  have HX := belowW 40 CC.here (by omega) (by omega)
  go_wp2_with fail
  refine HX.mono ?_
  clear HX
  rintro en w3 ⟨x1, rfl, x1a, x1b, C⟩
  have RBN := RB.only C.2 RB.lt (by omega)
  have CCN := CC.next C
  clear RB CC
  have RB := RBN
  have CC := CCN
  clear RBN CCN
  clear C
  have HX := belowW 9 CC.here (by omega) (by omega)
  go_wp2_with fail
  refine HX.mono ?_
  clear HX
  rintro en w4 ⟨x2, rfl, x2a, x2b, C⟩
  have RBN := RB.only C.2 RB.lt (by omega)
  have CCN := CC.next C
  clear RB CC
  have RB := RBN
  have CC := CCN
  clear RBN CCN
  clear C
  obtain ⟨w5, hw5⟩ : ∃ v, w4.alloc (.cells #[.int .i64 x0, .int .i64 x1, .int .i64 x2] 36) = v := ⟨_, rfl⟩
  have RBN := RB.alloc RB.lt (.cells #[.int .i64 x0, .int .i64 x1, .int .i64 x2] 36)
  have CCN := CC.alloc (.cells #[.int .i64 x0, .int .i64 x1, .int .i64 x2] 36)
  have pg : p < w4.heap.size := CC.lt
  have rg : W.heap.size < w4.heap.size := RB.lt
  have LB : Blk w4.heap.size [.int .i64 x0, .int .i64 x1, .int .i64 x2] w5 := by rw [← hw5]; exact Blk.new _ _ _
  rw [hw5] at RBN CCN
  clear RB CC
  have RB := RBN
  have CC := CCN
  clear RBN CCN
  have QB := LB
  clear LB
  have HX := onceW 10 CC.here (by omega)
  go_wp2_with fail
  try rw [hw5]
  refine HX.mono ?_
  clear HX hw5
  rintro en w6 ⟨bb, rfl, C⟩
  have RBN := RB.only C.2 RB.lt (by omega)
  have QBN := QB.only C.2 QB.lt (by omega)
  have CCN := CC.next C
  clear RB QB CC
  have RB := RBN
  have QB := QBN
  have CC := CCN
  clear RBN QBN CCN
  clear C
  obtain ⟨q, hq⟩ : ∃ q, w4.heap.size = q := ⟨_, rfl⟩
  simp only [hq] at QB pg rg ⊢
  have HQ := show Hid _ from hq
  clear hq
  cases bb with
  | false =>
    have r0 := RB.at 0 rfl
    have r1 := RB.at 1 rfl
    have r2 := RB.at 2 rfl
    have g0 := RB.fz 0 rfl
    have g1 := RB.fz 1 rfl
    have g2 := RB.fz 2 rfl
    have q0 := QB.at 0 rfl
    have q1 := QB.at 1 rfl
    have q2 := QB.at 2 rfl
    have F := show Hid _ from (show Blk W.heap.size [.int .i64 x0, .int .i64 x1, .int .i64 x2] ((((w6).setCell ⟨W.heap.size, 0, none⟩ (.int .i64 x0)).setCell ⟨W.heap.size, 1, none⟩ (.int .i64 x1)).setCell ⟨W.heap.size, 2, none⟩ (.int .i64 x2)) ∧ Cu p ad len cap zs W ((((w6).setCell ⟨W.heap.size, 0, none⟩ (.int .i64 x0)).setCell ⟨W.heap.size, 1, none⟩ (.int .i64 x1)).setCell ⟨W.heap.size, 2, none⟩ (.int .i64 x2)) from ⟨(((RB.set 0 (.int .i64 x0)).set 1 (.int .i64 x1)).set 2 (.int .i64 x2)), (Cu.setCell (Cu.setCell (Cu.setCell CC hpW (Nat.le_refl _) 0 (.int .i64 x0)) hpW (Nat.le_refl _) 1 (.int .i64 x1)) hpW (Nat.le_refl _) 2 (.int .i64 x2))⟩)
    have NQ : ¬ q = W.heap.size := by omega
    have NR : ¬ W.heap.size = q := by omega
    clear RB QB CC
    go_wp2
    have G := F.out
    exact bodyPost_ret (res_a rfl _ _ W.heap.size _ _ _ rfl (G.1.at 0 rfl) (G.1.at 1 rfl) (G.1.at 2 rfl)) rfl ⟨x0, x1, x2, rfl, G.2⟩
  | true =>
    have HX := belowW 3 CC.here (by omega) (by omega)
    go_wp2_with fail
    refine HX.mono ?_
    clear HX
    rintro en w7 ⟨z, rfl, za, zb, C⟩
    have RBN := RB.only C.2 RB.lt (by omega)
    have QBN := QB.only C.2 QB.lt (by omega)
    have CCN := CC.next C
    clear RB QB CC
    have RB := RBN
    have QB := QBN
    have CC := CCN
    clear RBN QBN CCN
    clear C
    obtain rfl | rfl | rfl : z = 0 ∨ z = 1 ∨ z = 2 := by omega
    · obtain ⟨w8, hw8⟩ : ∃ v, w7.alloc (.cells #[.int .i64 (-1), .int .i64 6] 3) = v := ⟨_, rfl⟩
      have RBN := RB.alloc RB.lt (.cells #[.int .i64 (-1), .int .i64 6] 3)
      have QBN := QB.alloc QB.lt (.cells #[.int .i64 (-1), .int .i64 6] 3)
      have CCN := CC.alloc (.cells #[.int .i64 (-1), .int .i64 6] 3)
      have pg : p < w7.heap.size := CC.lt
      have rg : W.heap.size < w7.heap.size := RB.lt
      have LB : Blk w7.heap.size [.int .i64 (-1), .int .i64 6] w8 := by rw [← hw8]; exact Blk.new _ _ _
      rw [hw8] at RBN QBN CCN
      clear RB QB CC
      have RB := RBN
      have QB := QBN
      have CC := CCN
      clear RBN QBN CCN
      have HX := pickI w7.heap.size 2 [-1, 6] CC.here (by omega) (by omega) pg LB.lt (by decide) LB (by decide)
      go_wp2_with fail
      try rw [hw8]
      refine HX.mono ?_
      clear HX hw8
      rintro en w9 ⟨y0, rfl, y0i, C⟩
      have RBN := RB.only C.2 RB.lt (by omega)
      have QBN := QB.only C.2 QB.lt (by omega)
      have CCN := CC.next C
      clear RB QB CC
      have RB := RBN
      have QB := QBN
      have CC := CCN
      clear RBN QBN CCN
      clear C
      clear LB pg rg
      obtain ⟨w10, hw10⟩ : ∃ v, w9.setCell ⟨q, 0, none⟩ (.int .i64 y0) = v := ⟨_, rfl⟩
      have uq := QB.at 0 rfl
      have vq := QB.fz 0 rfl
      have QBN : Blk q [.int .i64 y0, .int .i64 x1, .int .i64 x2] w10 := by rw [← hw10]; exact QB.set 0 (.int .i64 y0)
      have RBN : Blk W.heap.size [.int .i64 0, .int .i64 0, .int .i64 0] w10 := by rw [← hw10]; exact RB.far (by omega) 0 (.int .i64 y0)
      have CCN : Cu p ad len cap zs W w10 := by rw [← hw10]; exact Cu.setCell CC hpW (by omega) 0 (.int .i64 y0)
      clear RB QB CC
      have RB := RBN
      have QB := QBN
      have CC := CCN
      clear RBN QBN CCN
      have r0 := RB.at 0 rfl
      have r1 := RB.at 1 rfl
      have r2 := RB.at 2 rfl
      have g0 := RB.fz 0 rfl
      have g1 := RB.fz 1 rfl
      have g2 := RB.fz 2 rfl
      have q0 := QB.at 0 rfl
      have q1 := QB.at 1 rfl
      have q2 := QB.at 2 rfl
      have F := show Hid _ from (show Blk W.heap.size [.int .i64 y0, .int .i64 x1, .int .i64 x2] ((((w10).setCell ⟨W.heap.size, 0, none⟩ (.int .i64 y0)).setCell ⟨W.heap.size, 1, none⟩ (.int .i64 x1)).setCell ⟨W.heap.size, 2, none⟩ (.int .i64 x2)) ∧ Cu p ad len cap zs W ((((w10).setCell ⟨W.heap.size, 0, none⟩ (.int .i64 y0)).setCell ⟨W.heap.size, 1, none⟩ (.int .i64 x1)).setCell ⟨W.heap.size, 2, none⟩ (.int .i64 x2)) from ⟨(((RB.set 0 (.int .i64 y0)).set 1 (.int .i64 x1)).set 2 (.int .i64 x2)), (Cu.setCell (Cu.setCell (Cu.setCell CC hpW (Nat.le_refl _) 0 (.int .i64 y0)) hpW (Nat.le_refl _) 1 (.int .i64 x1)) hpW (Nat.le_refl _) 2 (.int .i64 x2))⟩)
      have NQ : ¬ q = W.heap.size := by omega
      have NR : ¬ W.heap.size = q := by omega
      clear RB QB CC
      go_wp2
      have G := F.out
      exact bodyPost_ret (res_a rfl _ _ W.heap.size _ _ _ rfl (G.1.at 0 rfl) (G.1.at 1 rfl) (G.1.at 2 rfl)) rfl ⟨y0, x1, x2, rfl, G.2⟩
    · obtain ⟨w8, hw8⟩ : ∃ v, w7.alloc (.cells #[.int .i64 (-1), .int .i64 100000, .int .i64 100001] 3) = v := ⟨_, rfl⟩
      have RBN := RB.alloc RB.lt (.cells #[.int .i64 (-1), .int .i64 100000, .int .i64 100001] 3)
      have QBN := QB.alloc QB.lt (.cells #[.int .i64 (-1), .int .i64 100000, .int .i64 100001] 3)
      have CCN := CC.alloc (.cells #[.int .i64 (-1), .int .i64 100000, .int .i64 100001] 3)
      have pg : p < w7.heap.size := CC.lt
      have rg : W.heap.size < w7.heap.size := RB.lt
      have LB : Blk w7.heap.size [.int .i64 (-1), .int .i64 100000, .int .i64 100001] w8 := by rw [← hw8]; exact Blk.new _ _ _
      rw [hw8] at RBN QBN CCN
      clear RB QB CC
      have RB := RBN
      have QB := QBN
      have CC := CCN
      clear RBN QBN CCN
      have HX := pickI w7.heap.size 3 [-1, 100000, 100001] CC.here (by omega) (by omega) pg LB.lt (by decide) LB (by decide)
      go_wp2_with fail
      try rw [hw8]
      refine HX.mono ?_
      clear HX hw8
      rintro en w9 ⟨y1, rfl, y1i, C⟩
      have RBN := RB.only C.2 RB.lt (by omega)
      have QBN := QB.only C.2 QB.lt (by omega)
      have CCN := CC.next C
      clear RB QB CC
      have RB := RBN
      have QB := QBN
      have CC := CCN
      clear RBN QBN CCN
      clear C
      clear LB pg rg
      obtain ⟨w10, hw10⟩ : ∃ v, w9.setCell ⟨q, 1, none⟩ (.int .i64 y1) = v := ⟨_, rfl⟩
      have uq := QB.at 1 rfl
      have vq := QB.fz 1 rfl
      have QBN : Blk q [.int .i64 x0, .int .i64 y1, .int .i64 x2] w10 := by rw [← hw10]; exact QB.set 1 (.int .i64 y1)
      have RBN : Blk W.heap.size [.int .i64 0, .int .i64 0, .int .i64 0] w10 := by rw [← hw10]; exact RB.far (by omega) 1 (.int .i64 y1)
      have CCN : Cu p ad len cap zs W w10 := by rw [← hw10]; exact Cu.setCell CC hpW (by omega) 1 (.int .i64 y1)
      clear RB QB CC
      have RB := RBN
      have QB := QBN
      have CC := CCN
      clear RBN QBN CCN
      have r0 := RB.at 0 rfl
      have r1 := RB.at 1 rfl
      have r2 := RB.at 2 rfl
      have g0 := RB.fz 0 rfl
      have g1 := RB.fz 1 rfl
      have g2 := RB.fz 2 rfl
      have q0 := QB.at 0 rfl
      have q1 := QB.at 1 rfl
      have q2 := QB.at 2 rfl
      have F := show Hid _ from (show Blk W.heap.size [.int .i64 x0, .int .i64 y1, .int .i64 x2] ((((w10).setCell ⟨W.heap.size, 0, none⟩ (.int .i64 x0)).setCell ⟨W.heap.size, 1, none⟩ (.int .i64 y1)).setCell ⟨W.heap.size, 2, none⟩ (.int .i64 x2)) ∧ Cu p ad len cap zs W ((((w10).setCell ⟨W.heap.size, 0, none⟩ (.int .i64 x0)).setCell ⟨W.heap.size, 1, none⟩ (.int .i64 y1)).setCell ⟨W.heap.size, 2, none⟩ (.int .i64 x2)) from ⟨(((RB.set 0 (.int .i64 x0)).set 1 (.int .i64 y1)).set 2 (.int .i64 x2)), (Cu.setCell (Cu.setCell (Cu.setCell CC hpW (Nat.le_refl _) 0 (.int .i64 x0)) hpW (Nat.le_refl _) 1 (.int .i64 y1)) hpW (Nat.le_refl _) 2 (.int .i64 x2))⟩)
      have NQ : ¬ q = W.heap.size := by omega
      have NR : ¬ W.heap.size = q := by omega
      clear RB QB CC
      go_wp2
      have G := F.out
      exact bodyPost_ret (res_a rfl _ _ W.heap.size _ _ _ rfl (G.1.at 0 rfl) (G.1.at 1 rfl) (G.1.at 2 rfl)) rfl ⟨x0, y1, x2, rfl, G.2⟩
    · obtain ⟨w8, hw8⟩ : ∃ v, w7.alloc (.cells #[.int .i64 (-1), .int .i64 1000000, .int .i64 1000001] 3) = v := ⟨_, rfl⟩
      have RBN := RB.alloc RB.lt (.cells #[.int .i64 (-1), .int .i64 1000000, .int .i64 1000001] 3)
      have QBN := QB.alloc QB.lt (.cells #[.int .i64 (-1), .int .i64 1000000, .int .i64 1000001] 3)
      have CCN := CC.alloc (.cells #[.int .i64 (-1), .int .i64 1000000, .int .i64 1000001] 3)
      have pg : p < w7.heap.size := CC.lt
      have rg : W.heap.size < w7.heap.size := RB.lt
      have LB : Blk w7.heap.size [.int .i64 (-1), .int .i64 1000000, .int .i64 1000001] w8 := by rw [← hw8]; exact Blk.new _ _ _
      rw [hw8] at RBN QBN CCN
      clear RB QB CC
      have RB := RBN
      have QB := QBN
      have CC := CCN
      clear RBN QBN CCN
      have HX := pickI w7.heap.size 3 [-1, 1000000, 1000001] CC.here (by omega) (by omega) pg LB.lt (by decide) LB (by decide)
      go_wp2_with fail
      try rw [hw8]
      refine HX.mono ?_
      clear HX hw8
      rintro en w9 ⟨y2, rfl, y2i, C⟩
      have RBN := RB.only C.2 RB.lt (by omega)
      have QBN := QB.only C.2 QB.lt (by omega)
      have CCN := CC.next C
      clear RB QB CC
      have RB := RBN
      have QB := QBN
      have CC := CCN
      clear RBN QBN CCN
      clear C
      clear LB pg rg
      obtain ⟨w10, hw10⟩ : ∃ v, w9.setCell ⟨q, 2, none⟩ (.int .i64 y2) = v := ⟨_, rfl⟩
      have uq := QB.at 2 rfl
      have vq := QB.fz 2 rfl
      have QBN : Blk q [.int .i64 x0, .int .i64 x1, .int .i64 y2] w10 := by rw [← hw10]; exact QB.set 2 (.int .i64 y2)
      have RBN : Blk W.heap.size [.int .i64 0, .int .i64 0, .int .i64 0] w10 := by rw [← hw10]; exact RB.far (by omega) 2 (.int .i64 y2)
      have CCN : Cu p ad len cap zs W w10 := by rw [← hw10]; exact Cu.setCell CC hpW (by omega) 2 (.int .i64 y2)
      clear RB QB CC
      have RB := RBN
      have QB := QBN
      have CC := CCN
      clear RBN QBN CCN
      have r0 := RB.at 0 rfl
      have r1 := RB.at 1 rfl
      have r2 := RB.at 2 rfl
      have g0 := RB.fz 0 rfl
      have g1 := RB.fz 1 rfl
      have g2 := RB.fz 2 rfl
      have q0 := QB.at 0 rfl
      have q1 := QB.at 1 rfl
      have q2 := QB.at 2 rfl
      have F := show Hid _ from (show Blk W.heap.size [.int .i64 x0, .int .i64 x1, .int .i64 y2] ((((w10).setCell ⟨W.heap.size, 0, none⟩ (.int .i64 x0)).setCell ⟨W.heap.size, 1, none⟩ (.int .i64 x1)).setCell ⟨W.heap.size, 2, none⟩ (.int .i64 y2)) ∧ Cu p ad len cap zs W ((((w10).setCell ⟨W.heap.size, 0, none⟩ (.int .i64 x0)).setCell ⟨W.heap.size, 1, none⟩ (.int .i64 x1)).setCell ⟨W.heap.size, 2, none⟩ (.int .i64 y2)) from ⟨(((RB.set 0 (.int .i64 x0)).set 1 (.int .i64 x1)).set 2 (.int .i64 y2)), (Cu.setCell (Cu.setCell (Cu.setCell CC hpW (Nat.le_refl _) 0 (.int .i64 x0)) hpW (Nat.le_refl _) 1 (.int .i64 x1)) hpW (Nat.le_refl _) 2 (.int .i64 y2))⟩)
      have NQ : ¬ q = W.heap.size := by omega
      have NR : ¬ W.heap.size = q := by omega
      clear RB QB CC
      go_wp2
      have G := F.out
      exact bodyPost_ret (res_a rfl _ _ W.heap.size _ _ _ rfl (G.1.at 0 rfl) (G.1.at 1 rfl) (G.1.at 2 rfl)) rfl ⟨x0, x1, y2, rfl, G.2⟩

end Go.Proofs.YtbkemhclncmicaaGreat

set_option linter.unusedVariables false
namespace Go.Proofs.YtbkemhclncmicaaGreat
open Go Go.RowKit Go.Joins Own Var Term Draw

set_option maxRecDepth 100000 in
set_option maxHeartbeats 6400000 in
theorem grantW {p : Nat} {ad : Option Addr} {len cap : Nat} {zs : List Int} {W : World} (hC : Cu p ad len cap zs W W) : Calls Tryz.prog 39 #[.pointer (some ⟨p, 0, none⟩)] W fun en w' => ∃ o0 o1 o2 o3 o4 o5 : Int, en = .returned (.agg #[.int .i64 o0, .int .i64 o1, .int .i64 o2, .int .i64 o3, .int .i64 o4, .int .i64 o5]) ∧ i64 o1 ∧ Cu p ad len cap zs W w' := by
  have hpW : p < W.heap.size := hC.lt
  obtain ⟨W1, hW1⟩ : ∃ W1, W.alloc (.cells #[.int .i64 0, .int .i64 0, .int .i64 0, .int .i64 0, .int .i64 0, .int .i64 0] 43) = W1 := ⟨_, rfl⟩
  have RB : Blk W.heap.size [.int .i64 0, .int .i64 0, .int .i64 0, .int .i64 0, .int .i64 0, .int .i64 0] W1 := by rw [← hW1]; exact Blk.new _ _ _
  have CC : Cu p ad len cap zs W W1 := by rw [← hW1]; exact hC.alloc _
  clear hC
  go_enter Tryz.func39, Tryz.ntmps39
  have HX := belowW 9 CC.here (by omega) (by omega)
  go_wp2_with fail
  try rw [hW1]
  refine HX.mono ?_
  clear HX hW1
  rintro en w2 ⟨x0, rfl, x0a, x0b, C⟩
  have RBN := RB.only C.2 RB.lt (by omega)
  have CCN := CC.next C
  clear RB CC
  have RB := RBN
  have CC := CCN
  clear RBN CCN
  clear C
  obtain ⟨w3, hw3⟩ : ∃ v, w2.alloc (.cells #[.int .i64 0, .int .i64 1, .int .i64 2, .int .i64 10, .int .i64 11, .int .i64 12] 3) = v := ⟨_, rfl⟩
  have RBN := RB.alloc RB.lt (.cells #[.int .i64 0, .int .i64 1, .int .i64 2, .int .i64 10, .int .i64 11, .int .i64 12] 3)
  have CCN := CC.alloc (.cells #[.int .i64 0, .int .i64 1, .int .i64 2, .int .i64 10, .int .i64 11, .int .i64 12] 3)
  have pg : p < w2.heap.size := CC.lt
  have rg : W.heap.size < w2.heap.size := RB.lt
  have LB : Blk w2.heap.size [.int .i64 0, .int .i64 1, .int .i64 2, .int .i64 10, .int .i64 11, .int .i64 12] w3 := by rw [← hw3]; exact Blk.new _ _ _
  rw [hw3] at RBN CCN
  clear RB CC
  have RB := RBN
  have CC := CCN
  clear RBN CCN
  have HX := pickI w2.heap.size 6 [0, 1, 2, 10, 11, 12] CC.here (by omega) (by omega) pg LB.lt (by decide) LB (by decide)
  go_wp2_with fail
  try rw [hw3]
  refine HX.mono ?_
  clear HX hw3
  rintro en w4 ⟨x1, rfl, x1i, C⟩
  have RBN := RB.only C.2 RB.lt (by omega)
  have CCN := CC.next C
  clear RB CC
  have RB := RBN
  have CC := CCN
  clear RBN CCN
  clear C
  clear LB pg rg
  have HX := belowW 200 CC.here (by omega) (by omega)
  go_wp2_with fail
  refine HX.mono ?_
  clear HX
  rintro en w5 ⟨x2, rfl, x2a, x2b, C⟩
  have RBN := RB.only C.2 RB.lt (by omega)
  have CCN := CC.next C
  clear RB CC
  have RB := RBN
  have CC := CCN
  clear RBN CCN
  clear C
  have HX := anyW CC.here
  go_wp2_with fail
  refine HX.mono ?_
  clear HX
  rintro en w6 ⟨x3, x4, x5, rfl, C⟩
  have RBN := RB.only C.2 RB.lt (by omega)
  have CCN := CC.next C
  clear RB CC
  have RB := RBN
  have CC := CCN
  clear RBN CCN
  clear C
  obtain ⟨w7, hw7⟩ : ∃ v, w6.alloc (.cells #[.int .i64 (101 + x0), .int .i64 x1, .int .i64 x2, .int .i64 x3, .int .i64 x4, .int .i64 x5] 43) = v := ⟨_, rfl⟩
  have RBN := RB.alloc RB.lt (.cells #[.int .i64 (101 + x0), .int .i64 x1, .int .i64 x2, .int .i64 x3, .int .i64 x4, .int .i64 x5] 43)
  have CCN := CC.alloc (.cells #[.int .i64 (101 + x0), .int .i64 x1, .int .i64 x2, .int .i64 x3, .int .i64 x4, .int .i64 x5] 43)
  have pg : p < w6.heap.size := CC.lt
  have rg : W.heap.size < w6.heap.size := RB.lt
  have LB : Blk w6.heap.size [.int .i64 (101 + x0), .int .i64 x1, .int .i64 x2, .int .i64 x3, .int .i64 x4, .int .i64 x5] w7 := by rw [← hw7]; exact Blk.new _ _ _
  rw [hw7] at RBN CCN
  clear RB CC
  have RB := RBN
  have CC := CCN
  clear RBN CCN
  have QB := LB
  clear LB
  have HX := onceW 10 CC.here (by omega)
  go_wp2_with fail
  try rw [hw7]
  refine HX.mono ?_
  clear HX hw7
  rintro en w8 ⟨bb, rfl, C⟩
  have RBN := RB.only C.2 RB.lt (by omega)
  have QBN := QB.only C.2 QB.lt (by omega)
  have CCN := CC.next C
  clear RB QB CC
  have RB := RBN
  have QB := QBN
  have CC := CCN
  clear RBN QBN CCN
  clear C
  obtain ⟨q, hq⟩ : ∃ q, w6.heap.size = q := ⟨_, rfl⟩
  simp only [hq] at QB pg rg ⊢
  have HQ := show Hid _ from hq
  clear hq
  cases bb with
  | false =>
    have r0 := RB.at 0 rfl
    have r1 := RB.at 1 rfl
    have r2 := RB.at 2 rfl
    have r3 := RB.at 3 rfl
    have r4 := RB.at 4 rfl
    have r5 := RB.at 5 rfl
    have g0 := RB.fz 0 rfl
    have g1 := RB.fz 1 rfl
    have g2 := RB.fz 2 rfl
    have g3 := RB.fz 3 rfl
    have g4 := RB.fz 4 rfl
    have g5 := RB.fz 5 rfl
    have q0 := QB.at 0 rfl
    have q1 := QB.at 1 rfl
    have q2 := QB.at 2 rfl
    have q3 := QB.at 3 rfl
    have q4 := QB.at 4 rfl
    have q5 := QB.at 5 rfl
    have F := show Hid _ from (show Blk W.heap.size [.int .i64 (101 + x0), .int .i64 x1, .int .i64 x2, .int .i64 x3, .int .i64 x4, .int .i64 x5] (((((((w8).setCell ⟨W.heap.size, 0, none⟩ (.int .i64 (101 + x0))).setCell ⟨W.heap.size, 1, none⟩ (.int .i64 x1)).setCell ⟨W.heap.size, 2, none⟩ (.int .i64 x2)).setCell ⟨W.heap.size, 3, none⟩ (.int .i64 x3)).setCell ⟨W.heap.size, 4, none⟩ (.int .i64 x4)).setCell ⟨W.heap.size, 5, none⟩ (.int .i64 x5)) ∧ Cu p ad len cap zs W (((((((w8).setCell ⟨W.heap.size, 0, none⟩ (.int .i64 (101 + x0))).setCell ⟨W.heap.size, 1, none⟩ (.int .i64 x1)).setCell ⟨W.heap.size, 2, none⟩ (.int .i64 x2)).setCell ⟨W.heap.size, 3, none⟩ (.int .i64 x3)).setCell ⟨W.heap.size, 4, none⟩ (.int .i64 x4)).setCell ⟨W.heap.size, 5, none⟩ (.int .i64 x5)) from ⟨((((((RB.set 0 (.int .i64 (101 + x0))).set 1 (.int .i64 x1)).set 2 (.int .i64 x2)).set 3 (.int .i64 x3)).set 4 (.int .i64 x4)).set 5 (.int .i64 x5)), (Cu.setCell (Cu.setCell (Cu.setCell (Cu.setCell (Cu.setCell (Cu.setCell CC hpW (Nat.le_refl _) 0 (.int .i64 (101 + x0))) hpW (Nat.le_refl _) 1 (.int .i64 x1)) hpW (Nat.le_refl _) 2 (.int .i64 x2)) hpW (Nat.le_refl _) 3 (.int .i64 x3)) hpW (Nat.le_refl _) 4 (.int .i64 x4)) hpW (Nat.le_refl _) 5 (.int .i64 x5))⟩)
    have NQ : ¬ q = W.heap.size := by omega
    have NR : ¬ W.heap.size = q := by omega
    clear RB QB CC
    go_wp2
    have G := F.out
    exact bodyPost_ret (res_g rfl _ _ W.heap.size _ _ _ _ _ _ rfl (G.1.at 0 rfl) (G.1.at 1 rfl) (G.1.at 2 rfl) (G.1.at 3 rfl) (G.1.at 4 rfl) (G.1.at 5 rfl)) rfl ⟨101 + x0, x1, x2, x3, x4, x5, rfl, x1i, G.2⟩
  | true =>
    have HX := belowW 3 CC.here (by omega) (by omega)
    go_wp2_with fail
    refine HX.mono ?_
    clear HX
    rintro en w9 ⟨z, rfl, za, zb, C⟩
    have RBN := RB.only C.2 RB.lt (by omega)
    have QBN := QB.only C.2 QB.lt (by omega)
    have CCN := CC.next C
    clear RB QB CC
    have RB := RBN
    have QB := QBN
    have CC := CCN
    clear RBN QBN CCN
    clear C
    obtain rfl | rfl | rfl : z = 0 ∨ z = 1 ∨ z = 2 := by omega
    · obtain ⟨w10, hw10⟩ : ∃ v, w9.alloc (.cells #[.int .i64 0, .int .i64 1000001] 3) = v := ⟨_, rfl⟩
      have RBN := RB.alloc RB.lt (.cells #[.int .i64 0, .int .i64 1000001] 3)
      have QBN := QB.alloc QB.lt (.cells #[.int .i64 0, .int .i64 1000001] 3)
      have CCN := CC.alloc (.cells #[.int .i64 0, .int .i64 1000001] 3)
      have pg : p < w9.heap.size := CC.lt
      have rg : W.heap.size < w9.heap.size := RB.lt
      have LB : Blk w9.heap.size [.int .i64 0, .int .i64 1000001] w10 := by rw [← hw10]; exact Blk.new _ _ _
      rw [hw10] at RBN QBN CCN
      clear RB QB CC
      have RB := RBN
      have QB := QBN
      have CC := CCN
      clear RBN QBN CCN
      have HX := pickI w9.heap.size 2 [0, 1000001] CC.here (by omega) (by omega) pg LB.lt (by decide) LB (by decide)
      go_wp2_with fail
      try rw [hw10]
      refine HX.mono ?_
      clear HX hw10
      rintro en w11 ⟨y0, rfl, y0i, C⟩
      have RBN := RB.only C.2 RB.lt (by omega)
      have QBN := QB.only C.2 QB.lt (by omega)
      have CCN := CC.next C
      clear RB QB CC
      have RB := RBN
      have QB := QBN
      have CC := CCN
      clear RBN QBN CCN
      clear C
      clear LB pg rg
      obtain ⟨w12, hw12⟩ : ∃ v, w11.setCell ⟨q, 0, none⟩ (.int .i64 y0) = v := ⟨_, rfl⟩
      have uq := QB.at 0 rfl
      have vq := QB.fz 0 rfl
      have QBN : Blk q [.int .i64 y0, .int .i64 x1, .int .i64 x2, .int .i64 x3, .int .i64 x4, .int .i64 x5] w12 := by rw [← hw12]; exact QB.set 0 (.int .i64 y0)
      have RBN : Blk W.heap.size [.int .i64 0, .int .i64 0, .int .i64 0, .int .i64 0, .int .i64 0, .int .i64 0] w12 := by rw [← hw12]; exact RB.far (by omega) 0 (.int .i64 y0)
      have CCN : Cu p ad len cap zs W w12 := by rw [← hw12]; exact Cu.setCell CC hpW (by omega) 0 (.int .i64 y0)
      clear RB QB CC
      have RB := RBN
      have QB := QBN
      have CC := CCN
      clear RBN QBN CCN
      have r0 := RB.at 0 rfl
      have r1 := RB.at 1 rfl
      have r2 := RB.at 2 rfl
      have r3 := RB.at 3 rfl
      have r4 := RB.at 4 rfl
      have r5 := RB.at 5 rfl
      have g0 := RB.fz 0 rfl
      have g1 := RB.fz 1 rfl
      have g2 := RB.fz 2 rfl
      have g3 := RB.fz 3 rfl
      have g4 := RB.fz 4 rfl
      have g5 := RB.fz 5 rfl
      have q0 := QB.at 0 rfl
      have q1 := QB.at 1 rfl
      have q2 := QB.at 2 rfl
      have q3 := QB.at 3 rfl
      have q4 := QB.at 4 rfl
      have q5 := QB.at 5 rfl
      have F := show Hid _ from (show Blk W.heap.size [.int .i64 y0, .int .i64 x1, .int .i64 x2, .int .i64 x3, .int .i64 x4, .int .i64 x5] (((((((w12).setCell ⟨W.heap.size, 0, none⟩ (.int .i64 y0)).setCell ⟨W.heap.size, 1, none⟩ (.int .i64 x1)).setCell ⟨W.heap.size, 2, none⟩ (.int .i64 x2)).setCell ⟨W.heap.size, 3, none⟩ (.int .i64 x3)).setCell ⟨W.heap.size, 4, none⟩ (.int .i64 x4)).setCell ⟨W.heap.size, 5, none⟩ (.int .i64 x5)) ∧ Cu p ad len cap zs W (((((((w12).setCell ⟨W.heap.size, 0, none⟩ (.int .i64 y0)).setCell ⟨W.heap.size, 1, none⟩ (.int .i64 x1)).setCell ⟨W.heap.size, 2, none⟩ (.int .i64 x2)).setCell ⟨W.heap.size, 3, none⟩ (.int .i64 x3)).setCell ⟨W.heap.size, 4, none⟩ (.int .i64 x4)).setCell ⟨W.heap.size, 5, none⟩ (.int .i64 x5)) from ⟨((((((RB.set 0 (.int .i64 y0)).set 1 (.int .i64 x1)).set 2 (.int .i64 x2)).set 3 (.int .i64 x3)).set 4 (.int .i64 x4)).set 5 (.int .i64 x5)), (Cu.setCell (Cu.setCell (Cu.setCell (Cu.setCell (Cu.setCell (Cu.setCell CC hpW (Nat.le_refl _) 0 (.int .i64 y0)) hpW (Nat.le_refl _) 1 (.int .i64 x1)) hpW (Nat.le_refl _) 2 (.int .i64 x2)) hpW (Nat.le_refl _) 3 (.int .i64 x3)) hpW (Nat.le_refl _) 4 (.int .i64 x4)) hpW (Nat.le_refl _) 5 (.int .i64 x5))⟩)
      have NQ : ¬ q = W.heap.size := by omega
      have NR : ¬ W.heap.size = q := by omega
      clear RB QB CC
      go_wp2
      have G := F.out
      exact bodyPost_ret (res_g rfl _ _ W.heap.size _ _ _ _ _ _ rfl (G.1.at 0 rfl) (G.1.at 1 rfl) (G.1.at 2 rfl) (G.1.at 3 rfl) (G.1.at 4 rfl) (G.1.at 5 rfl)) rfl ⟨y0, x1, x2, x3, x4, x5, rfl, x1i, G.2⟩
    · obtain ⟨w10, hw10⟩ : ∃ v, w9.alloc (.cells #[.int .i64 (-1), .int .i64 3, .int .i64 13] 3) = v := ⟨_, rfl⟩
      have RBN := RB.alloc RB.lt (.cells #[.int .i64 (-1), .int .i64 3, .int .i64 13] 3)
      have QBN := QB.alloc QB.lt (.cells #[.int .i64 (-1), .int .i64 3, .int .i64 13] 3)
      have CCN := CC.alloc (.cells #[.int .i64 (-1), .int .i64 3, .int .i64 13] 3)
      have pg : p < w9.heap.size := CC.lt
      have rg : W.heap.size < w9.heap.size := RB.lt
      have LB : Blk w9.heap.size [.int .i64 (-1), .int .i64 3, .int .i64 13] w10 := by rw [← hw10]; exact Blk.new _ _ _
      rw [hw10] at RBN QBN CCN
      clear RB QB CC
      have RB := RBN
      have QB := QBN
      have CC := CCN
      clear RBN QBN CCN
      have HX := pickI w9.heap.size 3 [-1, 3, 13] CC.here (by omega) (by omega) pg LB.lt (by decide) LB (by decide)
      go_wp2_with fail
      try rw [hw10]
      refine HX.mono ?_
      clear HX hw10
      rintro en w11 ⟨y1, rfl, y1i, C⟩
      have RBN := RB.only C.2 RB.lt (by omega)
      have QBN := QB.only C.2 QB.lt (by omega)
      have CCN := CC.next C
      clear RB QB CC
      have RB := RBN
      have QB := QBN
      have CC := CCN
      clear RBN QBN CCN
      clear C
      clear LB pg rg
      obtain ⟨w12, hw12⟩ : ∃ v, w11.setCell ⟨q, 1, none⟩ (.int .i64 y1) = v := ⟨_, rfl⟩
      have uq := QB.at 1 rfl
      have vq := QB.fz 1 rfl
      have QBN : Blk q [.int .i64 (101 + x0), .int .i64 y1, .int .i64 x2, .int .i64 x3, .int .i64 x4, .int .i64 x5] w12 := by rw [← hw12]; exact QB.set 1 (.int .i64 y1)
      have RBN : Blk W.heap.size [.int .i64 0, .int .i64 0, .int .i64 0, .int .i64 0, .int .i64 0, .int .i64 0] w12 := by rw [← hw12]; exact RB.far (by omega) 1 (.int .i64 y1)
      have CCN : Cu p ad len cap zs W w12 := by rw [← hw12]; exact Cu.setCell CC hpW (by omega) 1 (.int .i64 y1)
      clear RB QB CC
      have RB := RBN
      have QB := QBN
      have CC := CCN
      clear RBN QBN CCN
      have r0 := RB.at 0 rfl
      have r1 := RB.at 1 rfl
      have r2 := RB.at 2 rfl
      have r3 := RB.at 3 rfl
      have r4 := RB.at 4 rfl
      have r5 := RB.at 5 rfl
      have g0 := RB.fz 0 rfl
      have g1 := RB.fz 1 rfl
      have g2 := RB.fz 2 rfl
      have g3 := RB.fz 3 rfl
      have g4 := RB.fz 4 rfl
      have g5 := RB.fz 5 rfl
      have q0 := QB.at 0 rfl
      have q1 := QB.at 1 rfl
      have q2 := QB.at 2 rfl
      have q3 := QB.at 3 rfl
      have q4 := QB.at 4 rfl
      have q5 := QB.at 5 rfl
      have F := show Hid _ from (show Blk W.heap.size [.int .i64 (101 + x0), .int .i64 y1, .int .i64 x2, .int .i64 x3, .int .i64 x4, .int .i64 x5] (((((((w12).setCell ⟨W.heap.size, 0, none⟩ (.int .i64 (101 + x0))).setCell ⟨W.heap.size, 1, none⟩ (.int .i64 y1)).setCell ⟨W.heap.size, 2, none⟩ (.int .i64 x2)).setCell ⟨W.heap.size, 3, none⟩ (.int .i64 x3)).setCell ⟨W.heap.size, 4, none⟩ (.int .i64 x4)).setCell ⟨W.heap.size, 5, none⟩ (.int .i64 x5)) ∧ Cu p ad len cap zs W (((((((w12).setCell ⟨W.heap.size, 0, none⟩ (.int .i64 (101 + x0))).setCell ⟨W.heap.size, 1, none⟩ (.int .i64 y1)).setCell ⟨W.heap.size, 2, none⟩ (.int .i64 x2)).setCell ⟨W.heap.size, 3, none⟩ (.int .i64 x3)).setCell ⟨W.heap.size, 4, none⟩ (.int .i64 x4)).setCell ⟨W.heap.size, 5, none⟩ (.int .i64 x5)) from ⟨((((((RB.set 0 (.int .i64 (101 + x0))).set 1 (.int .i64 y1)).set 2 (.int .i64 x2)).set 3 (.int .i64 x3)).set 4 (.int .i64 x4)).set 5 (.int .i64 x5)), (Cu.setCell (Cu.setCell (Cu.setCell (Cu.setCell (Cu.setCell (Cu.setCell CC hpW (Nat.le_refl _) 0 (.int .i64 (101 + x0))) hpW (Nat.le_refl _) 1 (.int .i64 y1)) hpW (Nat.le_refl _) 2 (.int .i64 x2)) hpW (Nat.le_refl _) 3 (.int .i64 x3)) hpW (Nat.le_refl _) 4 (.int .i64 x4)) hpW (Nat.le_refl _) 5 (.int .i64 x5))⟩)
      have NQ : ¬ q = W.heap.size := by omega
      have NR : ¬ W.heap.size = q := by omega
      clear RB QB CC
      go_wp2
      have G := F.out
      exact bodyPost_ret (res_g rfl _ _ W.heap.size _ _ _ _ _ _ rfl (G.1.at 0 rfl) (G.1.at 1 rfl) (G.1.at 2 rfl) (G.1.at 3 rfl) (G.1.at 4 rfl) (G.1.at 5 rfl)) rfl ⟨101 + x0, y1, x2, x3, x4, x5, rfl, y1i, G.2⟩
    · obtain ⟨w10, hw10⟩ : ∃ v, w9.alloc (.cells #[.int .i64 (-1), .int .i64 1000000, .int .i64 1000001] 3) = v := ⟨_, rfl⟩
      have RBN := RB.alloc RB.lt (.cells #[.int .i64 (-1), .int .i64 1000000, .int .i64 1000001] 3)
      have QBN := QB.alloc QB.lt (.cells #[.int .i64 (-1), .int .i64 1000000, .int .i64 1000001] 3)
      have CCN := CC.alloc (.cells #[.int .i64 (-1), .int .i64 1000000, .int .i64 1000001] 3)
      have pg : p < w9.heap.size := CC.lt
      have rg : W.heap.size < w9.heap.size := RB.lt
      have LB : Blk w9.heap.size [.int .i64 (-1), .int .i64 1000000, .int .i64 1000001] w10 := by rw [← hw10]; exact Blk.new _ _ _
      rw [hw10] at RBN QBN CCN
      clear RB QB CC
      have RB := RBN
      have QB := QBN
      have CC := CCN
      clear RBN QBN CCN
      have HX := pickI w9.heap.size 3 [-1, 1000000, 1000001] CC.here (by omega) (by omega) pg LB.lt (by decide) LB (by decide)
      go_wp2_with fail
      try rw [hw10]
      refine HX.mono ?_
      clear HX hw10
      rintro en w11 ⟨y2, rfl, y2i, C⟩
      have RBN := RB.only C.2 RB.lt (by omega)
      have QBN := QB.only C.2 QB.lt (by omega)
      have CCN := CC.next C
      clear RB QB CC
      have RB := RBN
      have QB := QBN
      have CC := CCN
      clear RBN QBN CCN
      clear C
      clear LB pg rg
      obtain ⟨w12, hw12⟩ : ∃ v, w11.setCell ⟨q, 2, none⟩ (.int .i64 y2) = v := ⟨_, rfl⟩
      have uq := QB.at 2 rfl
      have vq := QB.fz 2 rfl
      have QBN : Blk q [.int .i64 (101 + x0), .int .i64 x1, .int .i64 y2, .int .i64 x3, .int .i64 x4, .int .i64 x5] w12 := by rw [← hw12]; exact QB.set 2 (.int .i64 y2)
      have RBN : Blk W.heap.size [.int .i64 0, .int .i64 0, .int .i64 0, .int .i64 0, .int .i64 0, .int .i64 0] w12 := by rw [← hw12]; exact RB.far (by omega) 2 (.int .i64 y2)
      have CCN : Cu p ad len cap zs W w12 := by rw [← hw12]; exact Cu.setCell CC hpW (by omega) 2 (.int .i64 y2)
      clear RB QB CC
      have RB := RBN
      have QB := QBN
      have CC := CCN
      clear RBN QBN CCN
      have r0 := RB.at 0 rfl
      have r1 := RB.at 1 rfl
      have r2 := RB.at 2 rfl
      have r3 := RB.at 3 rfl
      have r4 := RB.at 4 rfl
      have r5 := RB.at 5 rfl
      have g0 := RB.fz 0 rfl
      have g1 := RB.fz 1 rfl
      have g2 := RB.fz 2 rfl
      have g3 := RB.fz 3 rfl
      have g4 := RB.fz 4 rfl
      have g5 := RB.fz 5 rfl
      have q0 := QB.at 0 rfl
      have q1 := QB.at 1 rfl
      have q2 := QB.at 2 rfl
      have q3 := QB.at 3 rfl
      have q4 := QB.at 4 rfl
      have q5 := QB.at 5 rfl
      have F := show Hid _ from (show Blk W.heap.size [.int .i64 (101 + x0), .int .i64 x1, .int .i64 y2, .int .i64 x3, .int .i64 x4, .int .i64 x5] (((((((w12).setCell ⟨W.heap.size, 0, none⟩ (.int .i64 (101 + x0))).setCell ⟨W.heap.size, 1, none⟩ (.int .i64 x1)).setCell ⟨W.heap.size, 2, none⟩ (.int .i64 y2)).setCell ⟨W.heap.size, 3, none⟩ (.int .i64 x3)).setCell ⟨W.heap.size, 4, none⟩ (.int .i64 x4)).setCell ⟨W.heap.size, 5, none⟩ (.int .i64 x5)) ∧ Cu p ad len cap zs W (((((((w12).setCell ⟨W.heap.size, 0, none⟩ (.int .i64 (101 + x0))).setCell ⟨W.heap.size, 1, none⟩ (.int .i64 x1)).setCell ⟨W.heap.size, 2, none⟩ (.int .i64 y2)).setCell ⟨W.heap.size, 3, none⟩ (.int .i64 x3)).setCell ⟨W.heap.size, 4, none⟩ (.int .i64 x4)).setCell ⟨W.heap.size, 5, none⟩ (.int .i64 x5)) from ⟨((((((RB.set 0 (.int .i64 (101 + x0))).set 1 (.int .i64 x1)).set 2 (.int .i64 y2)).set 3 (.int .i64 x3)).set 4 (.int .i64 x4)).set 5 (.int .i64 x5)), (Cu.setCell (Cu.setCell (Cu.setCell (Cu.setCell (Cu.setCell (Cu.setCell CC hpW (Nat.le_refl _) 0 (.int .i64 (101 + x0))) hpW (Nat.le_refl _) 1 (.int .i64 x1)) hpW (Nat.le_refl _) 2 (.int .i64 y2)) hpW (Nat.le_refl _) 3 (.int .i64 x3)) hpW (Nat.le_refl _) 4 (.int .i64 x4)) hpW (Nat.le_refl _) 5 (.int .i64 x5))⟩)
      have NQ : ¬ q = W.heap.size := by omega
      have NR : ¬ W.heap.size = q := by omega
      clear RB QB CC
      go_wp2
      have G := F.out
      exact bodyPost_ret (res_g rfl _ _ W.heap.size _ _ _ _ _ _ rfl (G.1.at 0 rfl) (G.1.at 1 rfl) (G.1.at 2 rfl) (G.1.at 3 rfl) (G.1.at 4 rfl) (G.1.at 5 rfl)) rfl ⟨101 + x0, x1, y2, x3, x4, x5, rfl, x1i, G.2⟩

end Go.Proofs.YtbkemhclncmicaaGreat
