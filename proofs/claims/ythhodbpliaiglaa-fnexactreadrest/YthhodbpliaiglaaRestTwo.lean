/- What the law on rests draws: two rests, and what is asked of one. -/
import Derived.Test.YthhodbpliaiglaaRestAny
import Derived.Test.YthhodbpliaiglaaRest3
set_option linter.unusedVariables false
namespace Go.Proofs.Ythhodbpliaiglaa.Draw
open Go Go.RowKit

theorem res_33 {fn : Func} {p q : Tmp} (hres : fn.results = #[.cell p 25, .cell q 25]) (tmps : Array Value) (w : World) (g h : Nat) (v0 v1 v2 u0 u1 u2 : Value) (hp : tmps.getD p undef = .pointer (some ⟨g, 0, none⟩)) (hq : tmps.getD q undef = .pointer (some ⟨h, 0, none⟩)) (h0 : w.cell? ⟨g, 0, none⟩ = some v0) (h1 : w.cell? ⟨g, 1, none⟩ = some v1) (h2 : w.cell? ⟨g, 2, none⟩ = some v2) (k0 : w.cell? ⟨h, 0, none⟩ = some u0) (k1 : w.cell? ⟨h, 1, none⟩ = some u1) (k2 : w.cell? ⟨h, 2, none⟩ = some u2) :
    (results fn tmps).run Try.prog w = .ok (.tuple #[.agg #[v0, v1, v2], .agg #[u0, u1, u2]]) w := by
  have hp' : tmps[p]?.getD undef = .pointer (some ⟨g, 0, none⟩) := by simpa using hp
  have hq' : tmps[q]?.getD undef = .pointer (some ⟨h, 0, none⟩) := by simpa using hq
  simp [results, hres, hp', hq', asAddr, go_sem, h0, h1, h2, k0, k1, k2, loadVar, Try.isAgg25, Try.sizeOf25]
theorem res_3iii {fn : Func} {p x y z : Tmp} (hres : fn.results = #[.cell p 25, .tmp x, .tmp y, .tmp z]) (tmps : Array Value) (w : World) (g : Nat) (v0 v1 v2 u0 u1 u2 : Value) (hp : tmps.getD p undef = .pointer (some ⟨g, 0, none⟩)) (hx : tmps.getD x undef = u0) (hy : tmps.getD y undef = u1) (hz : tmps.getD z undef = u2) (h0 : w.cell? ⟨g, 0, none⟩ = some v0) (h1 : w.cell? ⟨g, 1, none⟩ = some v1) (h2 : w.cell? ⟨g, 2, none⟩ = some v2) :
    (results fn tmps).run Try.prog w = .ok (.tuple #[.agg #[v0, v1, v2], u0, u1, u2]) w := by
  have hp' : tmps[p]?.getD undef = .pointer (some ⟨g, 0, none⟩) := by simpa using hp
  have hx' : tmps[x]?.getD undef = u0 := by simpa using hx
  have hy' : tmps[y]?.getD undef = u1 := by simpa using hy
  have hz' : tmps[z]?.getD undef = u2 := by simpa using hz
  simp [results, hres, hp', hx', hy', hz', asAddr, go_sem, h0, h1, h2, loadVar, Try.isAgg25, Try.sizeOf25]
theorem B3.below {g : Nat} {x y z : Int} {W w : World} (h : B3 g x y z W) (hb : Below W.heap.size W w) (hg : g < W.heap.size) : B3 g x y z w :=
  ⟨(hb.cell (p := ⟨g, 0, none⟩) hg).trans h.c0, (hb.cell (p := ⟨g, 1, none⟩) hg).trans h.c1, (hb.cell (p := ⟨g, 2, none⟩) hg).trans h.c2, (hb.frozen (p := ⟨g, 0, none⟩) hg).trans h.f0, (hb.frozen (p := ⟨g, 1, none⟩) hg).trans h.f1, (hb.frozen (p := ⟨g, 2, none⟩) hg).trans h.f2⟩
theorem B3.low {p : Nat} {a : Option Addr} {len cap : Nat} {zs : List Int} {W w : World} {g : Nat} {x y z : Int} (h : B3 g x y z W) (c : Cu p a len cap zs W w) (hg : g < W.heap.size) (hn : g < p) : B3 g x y z w :=
  ⟨(c.2.cell (q := ⟨g, 0, none⟩) hg (by show g ≠ p; omega)).trans h.c0, (c.2.cell (q := ⟨g, 1, none⟩) hg (by show g ≠ p; omega)).trans h.c1, (c.2.cell (q := ⟨g, 2, none⟩) hg (by show g ≠ p; omega)).trans h.c2, (c.2.frozen (q := ⟨g, 0, none⟩) hg (by show g ≠ p; omega)).trans h.f0, (c.2.frozen (q := ⟨g, 1, none⟩) hg (by show g ≠ p; omega)).trans h.f1, (c.2.frozen (q := ⟨g, 2, none⟩) hg (by show g ≠ p; omega)).trans h.f2⟩
theorem B3.drew {g : Nat} {x y z : Int} {W : World} (h : B3 g x y z W) : B3 g x y z W.drew := ⟨by simpa using h.c0, by simpa using h.c1, by simpa using h.c2, by simpa using h.f0, by simpa using h.f1, by simpa using h.f2⟩

theorem B3.put3 {g : Nat} {x y z : Int} {W : World} (h : B3 g x y z W) (u v t : Int) : B3 g u v t (set3 W g (.int .i64 u) (.int .i64 v) (.int .i64 t)) := ((h.set0 u).set1 v).set2 t
theorem B3.far {g s : Nat} {x y z : Int} {W : World} (h : B3 g x y z W) (hn : s ≠ g) (u v t : Value) : B3 g x y z (set3 W s u v t) := ((h.other 0 u hn).other 1 v hn).other 2 t hn
theorem set3_two {g : Nat} {s : Nat} {x y z x2 y2 z2 : Int} {W : World} (ha : B3 s 0 0 0 W) (hb : B3 (s + 1) 0 0 0 W) (hd : B3 g x y z W) (n1 : s + 1 ≠ g) (n0 : s ≠ g) :
    (((set3 W s (.int .i64 x) (.int .i64 y) (.int .i64 z)).cell? ⟨g, 0, none⟩ = some (.int .i64 x) ∧ (set3 W s (.int .i64 x) (.int .i64 y) (.int .i64 z)).cell? ⟨g, 1, none⟩ = some (.int .i64 y) ∧ (set3 W s (.int .i64 x) (.int .i64 y) (.int .i64 z)).cell? ⟨g, 2, none⟩ = some (.int .i64 z))) ∧
    (((set3 (set3 W s (.int .i64 x) (.int .i64 y) (.int .i64 z)) (s + 1) (.int .i64 x2) (.int .i64 y2) (.int .i64 z2)).cell? ⟨g, 0, none⟩ = some (.int .i64 x) ∧ (set3 (set3 W s (.int .i64 x) (.int .i64 y) (.int .i64 z)) (s + 1) (.int .i64 x2) (.int .i64 y2) (.int .i64 z2)).cell? ⟨g, 1, none⟩ = some (.int .i64 y) ∧ (set3 (set3 W s (.int .i64 x) (.int .i64 y) (.int .i64 z)) (s + 1) (.int .i64 x2) (.int .i64 y2) (.int .i64 z2)).cell? ⟨g, 2, none⟩ = some (.int .i64 z))) ∧
    B3 s x y z (set3 (set3 W s (.int .i64 x) (.int .i64 y) (.int .i64 z)) (s + 1) (.int .i64 x2) (.int .i64 y2) (.int .i64 z2)) ∧ B3 (s + 1) x2 y2 z2 (set3 (set3 W s (.int .i64 x) (.int .i64 y) (.int .i64 z)) (s + 1) (.int .i64 x2) (.int .i64 y2) (.int .i64 z2)) := by
  have A : B3 s x y z (set3 W s (.int .i64 x) (.int .i64 y) (.int .i64 z)) := ha.put3 x y z
  have B : B3 (s + 1) 0 0 0 (set3 W s (.int .i64 x) (.int .i64 y) (.int .i64 z)) := hb.far (show s ≠ s + 1 by omega) _ _ _
  have D : B3 g x y z (set3 W s (.int .i64 x) (.int .i64 y) (.int .i64 z)) := hd.far n0 _ _ _
  generalize set3 W s (.int .i64 x) (.int .i64 y) (.int .i64 z) = V at A B D ⊢
  have A' : B3 s x y z (set3 V (s + 1) (.int .i64 x2) (.int .i64 y2) (.int .i64 z2)) := A.far (show s + 1 ≠ s by omega) _ _ _
  have B' : B3 (s + 1) x2 y2 z2 (set3 V (s + 1) (.int .i64 x2) (.int .i64 y2) (.int .i64 z2)) := B.put3 x2 y2 z2
  have D' : B3 g x y z (set3 V (s + 1) (.int .i64 x2) (.int .i64 y2) (.int .i64 z2)) := D.far n1 _ _ _
  exact ⟨⟨D.c0, D.c1, D.c2⟩, ⟨D'.c0, D'.c1, D'.c2⟩, A', B'⟩

set_option maxRecDepth 100000 in
set_option maxHeartbeats 3200000 in
theorem drawMeet (a : Option Addr) (len cap : Nat) (zs : List Int) (W : World) (hz : CodeAt W W.heap.size a len zs) :
    Calls Try.prog 11 #[.slice a len cap] W fun e w' => ∃ x y z x2 y2 z2 : Int, e = .returned (.tuple #[rv x y z, rv x2 y2 z2]) ∧ Below W.heap.size W w' := by
  obtain ⟨W2, hW2⟩ : ∃ W2, (W.alloc (.cells #[.int .i64 0, .int .i64 0, .int .i64 0] 25)).alloc (.cells #[.int .i64 0, .int .i64 0, .int .i64 0] 25) = W2 := ⟨_, rfl⟩
  have hb2 : Below W.heap.size W W2 := by rw [← hW2]; exact ((Below.refl _ _).alloc (Nat.le_refl _) _).alloc (by simp) _
  have ZZ : W2.heap.size = W.heap.size + 2 := by rw [← hW2]; simp
  have a2 : B3 W.heap.size 0 0 0 W2 := by rw [← hW2]; exact (B3.new _ _ _ _ _).alloc (by simp) _
  have b2 : B3 (W.heap.size + 1) 0 0 0 W2 := by
    rw [← hW2]
    have := B3.new (W.alloc (.cells #[.int .i64 0, .int .i64 0, .int .i64 0] 25)) 0 0 0 25
    simpa using this
  have hz2 : CodeAt W2 W2.heap.size a len zs := (hz.below hb2).lt hb2.size
  have HZ : Hid (W2.heap.size = W.heap.size + 2) := ZZ
  have HC : Hid (CodeAt W2 W2.heap.size a len zs) := hz2
  clear ZZ hz2 hz
  go_enter Try.func11, Try.ntmps11
  go_wp2_with fail
  try rw [hW2]
  refine (new_go a len cap zs W2 HC.out).mono ?_
  clear hW2
  rintro e w3 ⟨rfl, cur, hb3, Z3⟩
  have D3 : Dr w3 W2.heap.size a len cap zs (newS zs len) := ⟨cur, HC.out.below hb3, Nat.zero_le _⟩
  have C3 := Cu.start D3
  have a3 := a2.below hb3 (by have := HZ.out; omega)
  have b3 := b2.below hb3 (by have := HZ.out; omega)
  have hb03 := hb2.trans (hb3.mono hb2.size)
  have AS : W.heap.size < W2.heap.size := by have := HZ.out; omega
  have BS : W.heap.size + 1 < W2.heap.size := by have := HZ.out; omega
  clear cur D3 hb3 a2 b2 HC hb2 HZ
  go_wp2_with fail
  refine (anyW C3).mono ?_
  rintro e w4 ⟨x, y, z, rfl, c4⟩
  have a4 := a3.low c4 (Nat.lt_trans AS Z3) AS
  have b4 := b3.low c4 (Nat.lt_trans BS Z3) BS
  have PL : W2.heap.size < w3.heap.size := Z3
  have LE4 : w3.heap.size ≤ w4.heap.size := c4.size
  obtain ⟨W5, hW5⟩ : ∃ W5, w4.alloc (.cells #[.int .i64 x, .int .i64 y, .int .i64 z] 25) = W5 := ⟨_, rfl⟩
  have C5 : Cu W2.heap.size a len cap zs w3 W5 := by rw [← hW5]; exact c4.alloc _
  have a5 : B3 W.heap.size 0 0 0 W5 := by rw [← hW5]; exact a4.alloc (by omega) _
  have b5 : B3 (W.heap.size + 1) 0 0 0 W5 := by rw [← hW5]; exact b4.alloc (by omega) _
  have d5 : B3 w4.heap.size x y z W5 := by rw [← hW5]; exact B3.new _ _ _ _ _
  have Z5 : w4.heap.size < W5.heap.size := by rw [← hW5]; simp
  have PL4 : W2.heap.size < w4.heap.size := by omega
  clear a3 b3 a4 b4 C3 c4
  go_wp2_with fail
  try rw [hW5]
  clear hW5
  refine wp_region_held_drew (S := (fun V => V.cell? ⟨w4.heap.size, 0, none⟩ = some (.int .i64 x) ∧ V.cell? ⟨w4.heap.size, 1, none⟩ = some (.int .i64 y) ∧ V.cell? ⟨w4.heap.size, 2, none⟩ = some (.int .i64 z))) (by kernel_rfl) ⟨d5.drew.c0, d5.drew.c1, d5.drew.c2⟩ (fun hHeld => ?_)
  refine take_one 0 10 (v := ?_) rfl rfl (by kernel_rfl) (by kernel_rfl) (by kernel_rfl) (fun _ _ _ h => h) (Or.inl ⟨by rfl, ?_⟩) hHeld ?_
  rotate_left
  · intro w' hSw; (try dsimp only at hSw); go_simp; try with_reducible rfl
  try simp only [Act.put, List.setIfInBounds_toArray, List.set_cons_zero, List.set_cons_succ]
  refine take_one 1 11 (v := ?_) rfl rfl (by kernel_rfl) (by kernel_rfl) (by kernel_rfl) (fun _ _ _ h => h) (Or.inl ⟨by rfl, ?_⟩) hHeld ?_
  rotate_left
  · intro w' hSw; (try dsimp only at hSw); go_simp; try with_reducible rfl
  try simp only [Act.put, List.setIfInBounds_toArray, List.set_cons_zero, List.set_cons_succ]
  refine wpAnyH_ready (rs := [2]) (by kernel_rfl) (by simp) ?_
  refine AllReadyH.cons (i := 2) rfl (fun K hK => ?_) AllReadyH.nil
  go_simp
  refine (anyW (C5.here.drew.here)).mono ?_
  rintro e w6 ⟨x2, y2, z2, rfl, c6⟩
  have c56 := Cu.next C5.here.drew c6
  have d6 := d5.cu c56 Z5 PL4
  have b6 := b5.low c56 (Nat.lt_trans BS (Nat.lt_trans PL4 Z5)) BS
  have a6 := a5.low c56 (Nat.lt_trans AS (Nat.lt_trans PL4 Z5)) AS
  have C6 := C5.next c56
  go_wp2_with fail
  refine hK.out _ _ ⟨d6.c0, d6.c1, d6.c2⟩ (fun hHeld2 => ?_)
  clear hK K hHeld
  have hHeld := hHeld2
  clear hHeld2
  try simp only [Act.put, List.setIfInBounds_toArray, List.set_cons_zero, List.set_cons_succ]
  have GG := set3_two (x := x) (y := y) (z := z) (x2 := x2) (y2 := y2) (z2 := z2) a6 b6 d6 (Nat.ne_of_lt (Nat.lt_trans BS PL4)) (Nat.ne_of_lt (Nat.lt_trans AS PL4))
  obtain ⟨k0, k1, k2, k3, k4, k5⟩ := a6
  obtain ⟨i0, i1, i2, i3, i4, i5⟩ := b6
  refine wpAnyH_ready (rs := [3]) (by kernel_rfl) (by simp) ?_
  refine AllReadyH.cons (i := 3) rfl (fun K hK => ?_) AllReadyH.nil
  go_simp
  refine hK.out _ _ GG.1 (fun hHeld2 => ?_)
  clear hK K hHeld
  have hHeld := hHeld2
  clear hHeld2
  try simp only [Act.put, List.setIfInBounds_toArray, List.set_cons_zero, List.set_cons_succ]
  refine wpAnyH_ready (rs := [4]) (by kernel_rfl) (by simp) ?_
  refine AllReadyH.cons (i := 4) rfl (fun K hK => ?_) AllReadyH.nil
  go_simp
  refine hK.out _ _ GG.2.1 (fun hHeld2 => ?_)
  clear hK K hHeld
  have hHeld := hHeld2
  clear hHeld2
  try simp only [Act.put, List.setIfInBounds_toArray, List.set_cons_zero, List.set_cons_succ]
  refine wpAnyH_done (by kernel_rfl) ?_ _
  have hbE := ((((((hb03.trans (C6.2.below (B := W.heap.size) (Nat.le_of_lt AS) PL)).setCell (p := ⟨W.heap.size, 0, none⟩) (Nat.le_refl _) (.int .i64 x)).setCell (p := ⟨W.heap.size, 1, none⟩) (Nat.le_refl _) (.int .i64 y)).setCell (p := ⟨W.heap.size, 2, none⟩) (Nat.le_refl _) (.int .i64 z)).setCell (p := ⟨W.heap.size + 1, 0, none⟩) (Nat.le_succ _) (.int .i64 x2)).setCell (p := ⟨W.heap.size + 1, 1, none⟩) (Nat.le_succ _) (.int .i64 y2)).setCell (p := ⟨W.heap.size + 1, 2, none⟩) (Nat.le_succ _) (.int .i64 z2)
  have GA := GG.2.2.1
  have GB := GG.2.2.2
  clear hHeld k0 k1 k2 k3 k4 k5 i0 i1 i2 i3 i4 i5
  go_wp2
  exact bodyPost_ret (res_33 rfl _ _ W.heap.size (W.heap.size + 1) _ _ _ _ _ _ rfl rfl GA.c0 GA.c1 GA.c2 GB.c0 GB.c1 GB.c2) rfl ⟨x, y, z, x2, y2, z2, rfl, hbE⟩
end Go.Proofs.Ythhodbpliaiglaa.Draw
