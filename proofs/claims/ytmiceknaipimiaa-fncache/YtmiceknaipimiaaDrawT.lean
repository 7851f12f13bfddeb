/- What the law on Caches draws. -/
import Derived.Test.YtmiceknaipimiaaCacheW
set_option linter.unusedVariables false
namespace Go.Proofs.Ytmiceknaipimiaa
open Go Go.RowKit Go.Joins Own Draw

theorem res_d {fn : Func} {p s x y : Tmp} (hres : fn.results = #[.cell p 26, .cell s 28, .tmp x, .tmp y]) (tmps : Array Value) (w : World) (g h : Nat) (v0 v1 u0 u1 u2 x0 y0 : Value) (hp : tmps.getD p undef = .pointer (some ⟨g, 0, none⟩)) (hs : tmps.getD s undef = .pointer (some ⟨h, 0, none⟩)) (hx : tmps.getD x undef = x0) (hy : tmps.getD y undef = y0) (h0 : w.cell? ⟨g, 0, none⟩ = some v0) (h1 : w.cell? ⟨g, 1, none⟩ = some v1) (k0 : w.cell? ⟨h, 0, none⟩ = some u0) (k1 : w.cell? ⟨h, 1, none⟩ = some u1) (k2 : w.cell? ⟨h, 2, none⟩ = some u2) :
    (results fn tmps).run Try.prog w = .ok (.tuple #[.agg #[v0, v1], .agg #[u0, u1, u2], x0, y0]) w := by
  have hp' : tmps[p]?.getD undef = .pointer (some ⟨g, 0, none⟩) := by simpa using hp
  have hs' : tmps[s]?.getD undef = .pointer (some ⟨h, 0, none⟩) := by simpa using hs
  have hx' : tmps[x]?.getD undef = x0 := by simpa using hx
  have hy' : tmps[y]?.getD undef = y0 := by simpa using hy
  unfold results
  rw [hres]
  go_simp

theorem cu_set {p q : Nat} {a : Option Addr} {len cap : Nat} {zs : List Int} {w : World} (h : Cu p a len cap zs w w) (hp : p < q) (o : Nat) (v : Value) : Cu p a len cap zs (w.setCell ⟨q, o, none⟩ v) (w.setCell ⟨q, o, none⟩ v) := by
  obtain ⟨⟨s, h⟩, k⟩ := h
  have hg : w.grownBy (w.setCell ⟨q, o, none⟩ v) (some q) := ⟨rfl, rfl, rfl, by simp, fun j _ hn => Below.heap_setCell w ⟨q, o, none⟩ v j (fun e => hn (by rw [e]))⟩
  exact ⟨⟨s, h.grown hg (fun j hj => by simp at hj; omega)⟩, Only.refl _ _⟩

set_option maxRecDepth 100000 in
set_option maxHeartbeats 25600000 in
theorem drawT (ad : Option Addr) (len cap : Nat) (zs : List Int) (W : World) (hz : CodeAt W W.heap.size ad len zs) :
    Calls Try.prog 9 #[.slice ad len cap] W fun en w' => ∃ (q : Int) (g : Option Addr) (c : Nat) (xs : List A3) (x y z n k : Int), en = .returned (.tuple #[cv q g xs.length c, av x y z, .int .i64 n, .int .i64 k]) ∧ ARow w' g xs ∧ xs.length ≤ 8 ∧ xs.length ≤ c ∧ Below W.heap.size W w' := by
  have hlen := hz.1
  obtain ⟨W1, hW1⟩ : ∃ W1, (W.alloc (.cells #[.int .i64 0, .slice none 0 0] 26)).alloc (.cells #[.int .i64 0, .int .i64 0, .int .i64 0] 28) = W1 := ⟨_, rfl⟩
  have RB : Blk W.heap.size [.int .i64 0, .slice none 0 0] W1 := by rw [← hW1]; exact (Blk.new _ _ _).alloc (by simp) _
  have SB : Blk (W.heap.size + 1) [.int .i64 0, .int .i64 0, .int .i64 0] W1 := by rw [← hW1]; have h := Blk.new (W.alloc (.cells #[.int .i64 0, .slice none 0 0] 26)) #[.int .i64 0, .int .i64 0, .int .i64 0] 28; rw [World.size_alloc] at h; exact h
  have B1 : Below W.heap.size W W1 := by rw [← hW1]; exact ((Below.refl _ _).alloc (Nat.le_refl _) _).alloc (by simp) _
  have HC : Hid (CodeAt W1 W1.heap.size ad len zs) := (hz.below B1).lt B1.size
  have lW : W.heap.size + 1 < W1.heap.size := SB.lt
  clear hz
  go_enter Try.func9, Try.ntmps9
  go_wp2_with fail
  try rw [hW1]
  refine (new_go ad len cap zs W1 HC.out).mono ?_
  clear hW1
  rintro en w2 ⟨rfl, cur, hb2, Z2⟩
  have D2 : Dr w2 W1.heap.size ad len cap zs (newS zs len) := ⟨cur, HC.out.below hb2, Nat.zero_le _⟩
  have CC := Cu.start D2
  have BB := B1.trans (hb2.mono B1.size)
  replace RB := RB.later hb2 RB.lt
  replace SB := SB.later hb2 SB.lt
  clear cur HC hb2 B1 D2 Z2
  generalize W1.heap.size = p at *
  have HX := belowW 25 CC.here (by omega) (by omega)
  go_wp2_with fail
  refine HX.mono ?_
  clear HX
  rintro en w3 ⟨nw, rfl, nwa, nwb, C⟩
  replace RB := RB.only C.2 RB.lt (by omega)
  replace SB := SB.only C.2 SB.lt (by omega)
  replace BB := BB.trans (C.2.below (B := W.heap.size) (by omega) CC.lt)
  replace CC := C.here
  clear C
  obtain ⟨w4, hw4⟩ : ∃ v, w3.alloc (.cells #[.int .i64 3, .int .i64 3, .int .i64 3, .int .i64 0, .int .i64 20, .int .i64 (-1), .int .i64 21] 3) = v := ⟨_, rfl⟩
  have hal : Below w3.heap.size w3 w4 := by rw [← hw4]; exact (Below.refl _ _).alloc (Nat.le_refl _) _
  have pg : p < w3.heap.size := CC.lt
  have LB : Blk w3.heap.size [.int .i64 3, .int .i64 3, .int .i64 3, .int .i64 0, .int .i64 20, .int .i64 (-1), .int .i64 21] w4 := by rw [← hw4]; exact Blk.new _ _ _
  replace RB := RB.later hal RB.lt
  replace SB := SB.later hal SB.lt
  replace BB := BB.trans (hal.mono BB.size)
  replace CC := (CC.under hal).here
  clear hal
  have HX := pickI w3.heap.size 7 [3, 3, 3, 0, 20, -1, 21] CC.here (by omega) (by omega) pg LB.lt (by decide) LB (by decide)
  go_wp2_with fail
  try rw [hw4]
  refine HX.mono ?_
  clear HX hw4
  rintro en w5 ⟨sk, rfl, ski, C⟩
  replace RB := RB.only C.2 RB.lt (by omega)
  replace SB := SB.only C.2 SB.lt (by omega)
  replace BB := BB.trans (C.2.below (B := W.heap.size) (by omega) CC.lt)
  replace CC := C.here
  clear C
  clear LB pg
  have HX := belowW 3 CC.here (by omega) (by omega)
  go_wp2_with fail
  refine HX.mono ?_
  clear HX
  rintro en w6 ⟨a0, rfl, a0a, a0b, C⟩
  replace RB := RB.only C.2 RB.lt (by omega)
  replace SB := SB.only C.2 SB.lt (by omega)
  replace BB := BB.trans (C.2.below (B := W.heap.size) (by omega) CC.lt)
  replace CC := C.here
  clear C
  have HX := belowW 5 CC.here (by omega) (by omega)
  go_wp2_with fail
  refine HX.mono ?_
  clear HX
  rintro en w7 ⟨a1, rfl, a1a, a1b, C⟩
  replace RB := RB.only C.2 RB.lt (by omega)
  replace SB := SB.only C.2 SB.lt (by omega)
  replace BB := BB.trans (C.2.below (B := W.heap.size) (by omega) CC.lt)
  replace CC := C.here
  clear C
  have HX := belowW 3 CC.here (by omega) (by omega)
  go_wp2_with fail
  refine HX.mono ?_
  clear HX
  rintro en w8 ⟨a2, rfl, a2a, a2b, C⟩
  replace RB := RB.only C.2 RB.lt (by omega)
  replace SB := SB.only C.2 SB.lt (by omega)
  replace BB := BB.trans (C.2.below (B := W.heap.size) (by omega) CC.lt)
  replace CC := C.here
  clear C
  obtain ⟨w9, hw9⟩ : ∃ v, w8.alloc (.cells #[.int .i64 a0, .int .i64 (nw + a1 - 2), .int .i64 a2] 28) = v := ⟨_, rfl⟩
  have hal : Below w8.heap.size w8 w9 := by rw [← hw9]; exact (Below.refl _ _).alloc (Nat.le_refl _) _
  have pg : p < w8.heap.size := CC.lt
  have AB : Blk w8.heap.size [.int .i64 a0, .int .i64 (nw + a1 - 2), .int .i64 a2] w9 := by rw [← hw9]; exact Blk.new _ _ _
  replace RB := RB.later hal RB.lt
  replace SB := SB.later hal SB.lt
  replace BB := BB.trans (hal.mono BB.size)
  replace CC := (CC.under hal).here
  clear hal
  obtain ⟨pa, hpa⟩ : ∃ pa, w8.heap.size = pa := ⟨_, rfl⟩
  have ab0 := AB.at 0 rfl
  have ab1 := AB.at 1 rfl
  have ab2 := AB.at 2 rfl
  have fab0 := AB.fz 0 rfl
  have fab1 := AB.fz 1 rfl
  have fab2 := AB.fz 2 rfl
  have HX := size_go ad len cap w9 hlen
  go_wp2_with fail
  try rw [hw9]
  refine HX.mono ?_
  clear HX hw9 ab0 ab1 ab2 fab0 fab1 fab2
  rintro en w10 ⟨m, rfl, ma, mb, rfl⟩
  simp only [hpa] at AB pg ⊢
  have HPA := show Hid _ from hpa
  clear hpa
  have HX := cacheW m (by omega) (by omega) CC.here
  go_wp2_with fail
  refine HX.mono ?_
  clear HX
  rintro en w10 ⟨q, g, c, xs, rfl, OX, hxl, C⟩
  have lpw : pa < w9.heap.size := AB.lt
  replace OX := OX.le (B' := pa + 1) (by omega)
  replace RB := RB.only C.2 RB.lt (by omega)
  replace SB := SB.only C.2 SB.lt (by omega)
  replace AB := AB.only C.2 AB.lt (by omega)
  replace BB := BB.trans (C.2.below (B := W.heap.size) (by omega) CC.lt)
  replace CC := C.here
  clear C
  have lpx : pa < w10.heap.size := AB.lt
  obtain ⟨w11, hw11⟩ : ∃ v, w10.alloc (.cells #[.int .i64 q, .slice g xs.length c] 26) = v := ⟨_, rfl⟩
  have hal : Below w10.heap.size w10 w11 := by rw [← hw11]; exact (Below.refl _ _).alloc (Nat.le_refl _) _
  have pg : p < w10.heap.size := CC.lt
  have XB : Blk w10.heap.size [.int .i64 q, .slice g xs.length c] w11 := by rw [← hw11]; exact Blk.new _ _ _
  replace RB := RB.later hal RB.lt
  replace SB := SB.later hal SB.lt
  replace AB := AB.later hal AB.lt
  replace OX := OX.later hal
  replace BB := BB.trans (hal.mono BB.size)
  replace CC := (CC.under hal).here
  clear hal
  obtain ⟨px, hpx⟩ : ∃ px, w10.heap.size = px := ⟨_, rfl⟩
  simp only [hpx] at XB pg lpx
  have xb0 := XB.at 0 rfl
  have xb1 := XB.at 1 rfl
  have fxb0 := XB.fz 0 rfl
  have fxb1 := XB.fz 1 rfl
  rcases Nat.eq_zero_or_pos xs.length with hx0 | hx0
  · have hx1 : decide ((0 : Int) < (xs.length : Int)) = false := decide_eq_false (by omega)
    have hx9 : ¬ (0 : Int) < (xs.length : Int) := by omega
    clear hx0
    have HX := onceW 12 CC.here (by omega)
    go_wp2_with fail
    try rw [hw11]
    refine HX.mono ?_
    clear HX hw11 xb0 xb1 fxb0 fxb1
    rintro en w12 ⟨b12, rfl, C⟩
    try simp only []
    have HPX := show Hid _ from hpx
    clear hpx
    replace RB := RB.only C.2 RB.lt (by omega)
    replace SB := SB.only C.2 SB.lt (by omega)
    replace AB := AB.only C.2 AB.lt (by omega)
    replace XB := XB.only C.2 XB.lt (by omega)
    replace OX := Own3.only OX C.2 (by omega)
    replace BB := BB.trans (C.2.below (B := W.heap.size) (by omega) CC.lt)
    replace CC := C.here
    clear C
    cases b12 with
    | false =>
      have HX := onceW 15 CC.here (by omega)
      go_wp2_with fail
      refine HX.mono ?_
      clear HX
      rintro en w13 ⟨b15, rfl, C⟩
      replace RB := RB.only C.2 RB.lt (by omega)
      replace SB := SB.only C.2 SB.lt (by omega)
      replace AB := AB.only C.2 AB.lt (by omega)
      replace XB := XB.only C.2 XB.lt (by omega)
      replace OX := Own3.only OX C.2 (by omega)
      replace BB := BB.trans (C.2.below (B := W.heap.size) (by omega) CC.lt)
      replace CC := C.here
      clear C
      cases b15 with
      | false =>
        go_wp2_with fail
        replace RB := RB.drew
        replace SB := SB.drew
        replace AB := AB.drew
        replace XB := XB.drew
        replace OX := OX.drew
        replace BB := BB.drew
        refine wp_region_held_drew (S := (fun V : World => Blk pa [.int .i64 a0, .int .i64 (nw + a1 - 2), .int .i64 a2] V ∧ Blk px [.int .i64 q, .slice g xs.length c] V)) (by kernel_rfl) ⟨AB, XB⟩ (fun hHeld => ?_)
        clear CC
        generalize World.drew w13 = wd at RB SB AB XB OX BB hHeld ⊢
        refine take_one 0 63 (v := ?_) rfl rfl (by kernel_rfl) (by kernel_rfl) (by kernel_rfl) (fun _ _ _ h => h) (Or.inl ⟨by rfl, ?_⟩) hHeld ?_
        rotate_left
        · intro w' hSw; (try dsimp only at hSw); have z0 := hSw.1.at 0 rfl; have z1 := hSw.1.at 1 rfl; have z2 := hSw.1.at 2 rfl; have z3 := hSw.2.at 0 rfl; have z4 := hSw.2.at 1 rfl; go_simp; try with_reducible rfl
        try simp only [Act.put, List.setIfInBounds_toArray, List.set_cons_zero, List.set_cons_succ]
        refine take_one 1 64 (v := ?_) rfl rfl (by kernel_rfl) (by kernel_rfl) (by kernel_rfl) (fun _ _ _ h => h) (Or.inl ⟨by rfl, ?_⟩) hHeld ?_
        rotate_left
        · intro w' hSw; (try dsimp only at hSw); have z0 := hSw.1.at 0 rfl; have z1 := hSw.1.at 1 rfl; have z2 := hSw.1.at 2 rfl; have z3 := hSw.2.at 0 rfl; have z4 := hSw.2.at 1 rfl; go_simp; try with_reducible rfl
        try simp only [Act.put, List.setIfInBounds_toArray, List.set_cons_zero, List.set_cons_succ]
        refine take_one 2 65 (v := ?_) rfl rfl (by kernel_rfl) (by kernel_rfl) (by kernel_rfl) (fun _ _ _ h => h) (Or.inl ⟨by rfl, ?_⟩) hHeld ?_
        rotate_left
        · intro w' hSw; (try dsimp only at hSw); have z0 := hSw.1.at 0 rfl; have z1 := hSw.1.at 1 rfl; have z2 := hSw.1.at 2 rfl; have z3 := hSw.2.at 0 rfl; have z4 := hSw.2.at 1 rfl; go_simp; try with_reducible rfl
        try simp only [Act.put, List.setIfInBounds_toArray, List.set_cons_zero, List.set_cons_succ]
        refine take_one 3 66 (v := ?_) rfl rfl (by kernel_rfl) (by kernel_rfl) (by kernel_rfl) (fun _ _ _ h => h) (Or.inl ⟨by rfl, ?_⟩) hHeld ?_
        rotate_left
        · intro w' hSw; (try dsimp only at hSw); have z0 := hSw.1.at 0 rfl; have z1 := hSw.1.at 1 rfl; have z2 := hSw.1.at 2 rfl; have z3 := hSw.2.at 0 rfl; have z4 := hSw.2.at 1 rfl; go_simp; try with_reducible rfl
        try simp only [Act.put, List.setIfInBounds_toArray, List.set_cons_zero, List.set_cons_succ]
        have rb0 := RB.at 0 rfl
        have frb0 := RB.fz 0 rfl
        have rb1 := RB.at 1 rfl
        have frb1 := RB.fz 1 rfl
        obtain ⟨V1, hV1⟩ : ∃ v, ((wd.setCell ⟨W.heap.size, 0, none⟩ (.int .i64 q)).setCell ⟨W.heap.size, 1, none⟩ (.slice g xs.length c)) = v := ⟨_, rfl⟩
        have RN : Blk W.heap.size [.int .i64 q, .slice g xs.length c] V1 := by rw [← hV1]; exact (RB.set 0 (.int .i64 q)).set 1 (.slice g xs.length c)
        have SN : Blk (W.heap.size + 1) [.int .i64 0, .int .i64 0, .int .i64 0] V1 := by rw [← hV1]; exact (SB.far (by omega) 0 _).far (by omega) 1 _
        have AN : Blk pa [.int .i64 a0, .int .i64 (nw + a1 - 2), .int .i64 a2] V1 := by rw [← hV1]; exact (AB.far (by omega) 0 _).far (by omega) 1 _
        have XN : Blk px [.int .i64 q, .slice g xs.length c] V1 := by rw [← hV1]; exact (XB.far (by omega) 0 _).far (by omega) 1 _
        have ON : Own3 (pa + 1) g c xs V1 := by rw [← hV1]; exact Own3.below (Own3.below OX (by omega) 0 _) (by omega) 1 _
        have BN : Below W.heap.size W V1 := by rw [← hV1]; exact (BB.setCell (p := ⟨W.heap.size, 0, none⟩) (Nat.le_refl _) _).setCell (p := ⟨W.heap.size, 1, none⟩) (Nat.le_refl _) _
        clear RB SB AB XB OX BB
        refine wpAnyH_ready (rs := [4]) (by kernel_rfl) (by simp) ?_
        refine AllReadyH.cons (i := 4) rfl (fun K hK => ?_) AllReadyH.nil
        go_simp
        try rw [hV1]
        refine hK.out _ _ ⟨AN, XN⟩ (fun hHeld2 => ?_)
        clear hK K hHeld hV1 rb0 rb1 frb0 frb1
        have hHeld := hHeld2
        clear hHeld2
        try simp only [Act.put, List.setIfInBounds_toArray, List.set_cons_zero, List.set_cons_succ]
        have t0 := SN.at 0 rfl
        have s0 := SN.fz 0 rfl
        have t1 := SN.at 1 rfl
        have s1 := SN.fz 1 rfl
        have t2 := SN.at 2 rfl
        have s2 := SN.fz 2 rfl
        obtain ⟨V2, hV2⟩ : ∃ v, (((V1.setCell ⟨W.heap.size + 1, 0, none⟩ (.int .i64 a0)).setCell ⟨W.heap.size + 1, 1, none⟩ (.int .i64 (nw + a1 - 2))).setCell ⟨W.heap.size + 1, 2, none⟩ (.int .i64 a2)) = v := ⟨_, rfl⟩
        have RF : Hid (Blk W.heap.size [.int .i64 q, .slice g xs.length c] V2) := by show Blk _ _ _; rw [← hV2]; exact ((RN.far (by omega) 0 _).far (by omega) 1 _).far (by omega) 2 _
        have SF : Hid (Blk (W.heap.size + 1) [.int .i64 a0, .int .i64 (nw + a1 - 2), .int .i64 a2] V2) := by show Blk _ _ _; rw [← hV2]; exact ((SN.set 0 _).set 1 _).set 2 _
        have AF : Blk pa [.int .i64 a0, .int .i64 (nw + a1 - 2), .int .i64 a2] V2 := by rw [← hV2]; exact ((AN.far (by omega) 0 _).far (by omega) 1 _).far (by omega) 2 _
        have XF : Blk px [.int .i64 q, .slice g xs.length c] V2 := by rw [← hV2]; exact ((XN.far (by omega) 0 _).far (by omega) 1 _).far (by omega) 2 _
        have OF : Hid (Own3 (pa + 1) g c xs V2) := by show Own3 _ _ _ _ _; rw [← hV2]; exact Own3.below (Own3.below (Own3.below ON (by omega) 0 _) (by omega) 1 _) (by omega) 2 _
        have BF : Hid (Below W.heap.size W V2) := by show Below _ _ _; rw [← hV2]; exact ((BN.setCell (p := ⟨W.heap.size + 1, 0, none⟩) (by show W.heap.size ≤ W.heap.size + 1; omega) _).setCell (p := ⟨W.heap.size + 1, 1, none⟩) (by show W.heap.size ≤ W.heap.size + 1; omega) _).setCell (p := ⟨W.heap.size + 1, 2, none⟩) (by show W.heap.size ≤ W.heap.size + 1; omega) _
        clear RN SN AN XN ON BN
        refine wpAnyH_ready (rs := [5]) (by kernel_rfl) (by simp) ?_
        refine AllReadyH.cons (i := 5) rfl (fun K hK => ?_) AllReadyH.nil
        go_simp
        try rw [hV2]
        refine hK.out _ _ ⟨AF, XF⟩ (fun hHeld2 => ?_)
        clear hK K hHeld hV2 t0 t1 t2 s0 s1 s2 AF XF
        have hHeld := hHeld2
        clear hHeld2
        try simp only [Act.put, List.setIfInBounds_toArray, List.set_cons_zero, List.set_cons_succ]
        refine take_one 6 4 (v := ?_) rfl rfl (by kernel_rfl) (by kernel_rfl) (by kernel_rfl) (fun _ _ _ h => h) (Or.inl ⟨by rfl, ?_⟩) hHeld ?_
        rotate_left
        · intro w' hSw; (try dsimp only at hSw); have z0 := hSw.1.at 0 rfl; have z1 := hSw.1.at 1 rfl; have z2 := hSw.1.at 2 rfl; have z3 := hSw.2.at 0 rfl; have z4 := hSw.2.at 1 rfl; go_simp; try with_reducible rfl
        try simp only [Act.put, List.setIfInBounds_toArray, List.set_cons_zero, List.set_cons_succ]
        refine take_one 7 5 (v := ?_) rfl rfl (by kernel_rfl) (by kernel_rfl) (by kernel_rfl) (fun _ _ _ h => h) (Or.inl ⟨by rfl, ?_⟩) hHeld ?_
        rotate_left
        · intro w' hSw; (try dsimp only at hSw); have z0 := hSw.1.at 0 rfl; have z1 := hSw.1.at 1 rfl; have z2 := hSw.1.at 2 rfl; have z3 := hSw.2.at 0 rfl; have z4 := hSw.2.at 1 rfl; go_simp; try with_reducible rfl
        try simp only [Act.put, List.setIfInBounds_toArray, List.set_cons_zero, List.set_cons_succ]
        refine wpAnyH_done (by kernel_rfl) ?_ _
        clear hHeld
        go_wp2
        exact bodyPost_ret (res_d rfl _ _ W.heap.size (W.heap.size + 1) _ _ _ _ _ _ _ rfl rfl rfl rfl (RF.out.at 0 rfl) (RF.out.at 1 rfl) (SF.out.at 0 rfl) (SF.out.at 1 rfl) (SF.out.at 2 rfl)) rfl ⟨q, g, c, xs, _, _, _, _, _, rfl, OF.out.row, hxl, OF.out.cap, BF.out⟩
      | true =>
        obtain ⟨w14, hw14⟩ : ∃ v, w13.alloc (.cells #[.int .i64 (-1), .int .i64 100000, .int .i64 100001] 3) = v := ⟨_, rfl⟩
        have hal : Below w13.heap.size w13 w14 := by rw [← hw14]; exact (Below.refl _ _).alloc (Nat.le_refl _) _
        have pg : p < w13.heap.size := CC.lt
        have LB : Blk w13.heap.size [.int .i64 (-1), .int .i64 100000, .int .i64 100001] w14 := by rw [← hw14]; exact Blk.new _ _ _
        replace RB := RB.later hal RB.lt
        replace SB := SB.later hal SB.lt
        replace AB := AB.later hal AB.lt
        replace XB := XB.later hal XB.lt
        replace OX := OX.later hal
        replace BB := BB.trans (hal.mono BB.size)
        replace CC := (CC.under hal).here
        clear hal
        have HX := pickI w13.heap.size 3 [-1, 100000, 100001] CC.here (by omega) (by omega) pg LB.lt (by decide) LB (by decide)
        go_wp2_with fail
        try rw [hw14]
        refine HX.mono ?_
        clear HX hw14
        rintro en w15 ⟨nw9, rfl, nw9i, C⟩
        replace RB := RB.only C.2 RB.lt (by omega)
        replace SB := SB.only C.2 SB.lt (by omega)
        replace AB := AB.only C.2 AB.lt (by omega)
        replace XB := XB.only C.2 XB.lt (by omega)
        replace OX := Own3.only OX C.2 (by omega)
        replace BB := BB.trans (C.2.below (B := W.heap.size) (by omega) CC.lt)
        replace CC := C.here
        clear C
        clear LB pg
        go_wp2_with fail
        replace RB := RB.drew
        replace SB := SB.drew
        replace AB := AB.drew
        replace XB := XB.drew
        replace OX := OX.drew
        replace BB := BB.drew
        refine wp_region_held_drew (S := (fun V : World => Blk pa [.int .i64 a0, .int .i64 (nw + a1 - 2), .int .i64 a2] V ∧ Blk px [.int .i64 q, .slice g xs.length c] V)) (by kernel_rfl) ⟨AB, XB⟩ (fun hHeld => ?_)
        clear CC
        generalize World.drew w15 = wd at RB SB AB XB OX BB hHeld ⊢
        refine take_one 0 63 (v := ?_) rfl rfl (by kernel_rfl) (by kernel_rfl) (by kernel_rfl) (fun _ _ _ h => h) (Or.inl ⟨by rfl, ?_⟩) hHeld ?_
        rotate_left
        · intro w' hSw; (try dsimp only at hSw); have z0 := hSw.1.at 0 rfl; have z1 := hSw.1.at 1 rfl; have z2 := hSw.1.at 2 rfl; have z3 := hSw.2.at 0 rfl; have z4 := hSw.2.at 1 rfl; go_simp; try with_reducible rfl
        try simp only [Act.put, List.setIfInBounds_toArray, List.set_cons_zero, List.set_cons_succ]
        refine take_one 1 64 (v := ?_) rfl rfl (by kernel_rfl) (by kernel_rfl) (by kernel_rfl) (fun _ _ _ h => h) (Or.inl ⟨by rfl, ?_⟩) hHeld ?_
        rotate_left
        · intro w' hSw; (try dsimp only at hSw); have z0 := hSw.1.at 0 rfl; have z1 := hSw.1.at 1 rfl; have z2 := hSw.1.at 2 rfl; have z3 := hSw.2.at 0 rfl; have z4 := hSw.2.at 1 rfl; go_simp; try with_reducible rfl
        try simp only [Act.put, List.setIfInBounds_toArray, List.set_cons_zero, List.set_cons_succ]
        refine take_one 2 65 (v := ?_) rfl rfl (by kernel_rfl) (by kernel_rfl) (by kernel_rfl) (fun _ _ _ h => h) (Or.inl ⟨by rfl, ?_⟩) hHeld ?_
        rotate_left
        · intro w' hSw; (try dsimp only at hSw); have z0 := hSw.1.at 0 rfl; have z1 := hSw.1.at 1 rfl; have z2 := hSw.1.at 2 rfl; have z3 := hSw.2.at 0 rfl; have z4 := hSw.2.at 1 rfl; go_simp; try with_reducible rfl
        try simp only [Act.put, List.setIfInBounds_toArray, List.set_cons_zero, List.set_cons_succ]
        refine take_one 3 66 (v := ?_) rfl rfl (by kernel_rfl) (by kernel_rfl) (by kernel_rfl) (fun _ _ _ h => h) (Or.inl ⟨by rfl, ?_⟩) hHeld ?_
        rotate_left
        · intro w' hSw; (try dsimp only at hSw); have z0 := hSw.1.at 0 rfl; have z1 := hSw.1.at 1 rfl; have z2 := hSw.1.at 2 rfl; have z3 := hSw.2.at 0 rfl; have z4 := hSw.2.at 1 rfl; go_simp; try with_reducible rfl
        try simp only [Act.put, List.setIfInBounds_toArray, List.set_cons_zero, List.set_cons_succ]
        have rb0 := RB.at 0 rfl
        have frb0 := RB.fz 0 rfl
        have rb1 := RB.at 1 rfl
        have frb1 := RB.fz 1 rfl
        obtain ⟨V1, hV1⟩ : ∃ v, ((wd.setCell ⟨W.heap.size, 0, none⟩ (.int .i64 q)).setCell ⟨W.heap.size, 1, none⟩ (.slice g xs.length c)) = v := ⟨_, rfl⟩
        have RN : Blk W.heap.size [.int .i64 q, .slice g xs.length c] V1 := by rw [← hV1]; exact (RB.set 0 (.int .i64 q)).set 1 (.slice g xs.length c)
        have SN : Blk (W.heap.size + 1) [.int .i64 0, .int .i64 0, .int .i64 0] V1 := by rw [← hV1]; exact (SB.far (by omega) 0 _).far (by omega) 1 _
        have AN : Blk pa [.int .i64 a0, .int .i64 (nw + a1 - 2), .int .i64 a2] V1 := by rw [← hV1]; exact (AB.far (by omega) 0 _).far (by omega) 1 _
        have XN : Blk px [.int .i64 q, .slice g xs.length c] V1 := by rw [← hV1]; exact (XB.far (by omega) 0 _).far (by omega) 1 _
        have ON : Own3 (pa + 1) g c xs V1 := by rw [← hV1]; exact Own3.below (Own3.below OX (by omega) 0 _) (by omega) 1 _
        have BN : Below W.heap.size W V1 := by rw [← hV1]; exact (BB.setCell (p := ⟨W.heap.size, 0, none⟩) (Nat.le_refl _) _).setCell (p := ⟨W.heap.size, 1, none⟩) (Nat.le_refl _) _
        clear RB SB AB XB OX BB
        refine wpAnyH_ready (rs := [4]) (by kernel_rfl) (by simp) ?_
        refine AllReadyH.cons (i := 4) rfl (fun K hK => ?_) AllReadyH.nil
        go_simp
        try rw [hV1]
        refine hK.out _ _ ⟨AN, XN⟩ (fun hHeld2 => ?_)
        clear hK K hHeld hV1 rb0 rb1 frb0 frb1
        have hHeld := hHeld2
        clear hHeld2
        try simp only [Act.put, List.setIfInBounds_toArray, List.set_cons_zero, List.set_cons_succ]
        have t0 := SN.at 0 rfl
        have s0 := SN.fz 0 rfl
        have t1 := SN.at 1 rfl
        have s1 := SN.fz 1 rfl
        have t2 := SN.at 2 rfl
        have s2 := SN.fz 2 rfl
        obtain ⟨V2, hV2⟩ : ∃ v, (((V1.setCell ⟨W.heap.size + 1, 0, none⟩ (.int .i64 a0)).setCell ⟨W.heap.size + 1, 1, none⟩ (.int .i64 (nw + a1 - 2))).setCell ⟨W.heap.size + 1, 2, none⟩ (.int .i64 a2)) = v := ⟨_, rfl⟩
        have RF : Hid (Blk W.heap.size [.int .i64 q, .slice g xs.length c] V2) := by show Blk _ _ _; rw [← hV2]; exact ((RN.far (by omega) 0 _).far (by omega) 1 _).far (by omega) 2 _
        have SF : Hid (Blk (W.heap.size + 1) [.int .i64 a0, .int .i64 (nw + a1 - 2), .int .i64 a2] V2) := by show Blk _ _ _; rw [← hV2]; exact ((SN.set 0 _).set 1 _).set 2 _
        have AF : Blk pa [.int .i64 a0, .int .i64 (nw + a1 - 2), .int .i64 a2] V2 := by rw [← hV2]; exact ((AN.far (by omega) 0 _).far (by omega) 1 _).far (by omega) 2 _
        have XF : Blk px [.int .i64 q, .slice g xs.length c] V2 := by rw [← hV2]; exact ((XN.far (by omega) 0 _).far (by omega) 1 _).far (by omega) 2 _
        have OF : Hid (Own3 (pa + 1) g c xs V2) := by show Own3 _ _ _ _ _; rw [← hV2]; exact Own3.below (Own3.below (Own3.below ON (by omega) 0 _) (by omega) 1 _) (by omega) 2 _
        have BF : Hid (Below W.heap.size W V2) := by show Below _ _ _; rw [← hV2]; exact ((BN.setCell (p := ⟨W.heap.size + 1, 0, none⟩) (by show W.heap.size ≤ W.heap.size + 1; omega) _).setCell (p := ⟨W.heap.size + 1, 1, none⟩) (by show W.heap.size ≤ W.heap.size + 1; omega) _).setCell (p := ⟨W.heap.size + 1, 2, none⟩) (by show W.heap.size ≤ W.heap.size + 1; omega) _
        clear RN SN AN XN ON BN
        refine wpAnyH_ready (rs := [5]) (by kernel_rfl) (by simp) ?_
        refine AllReadyH.cons (i := 5) rfl (fun K hK => ?_) AllReadyH.nil
        go_simp
        try rw [hV2]
        refine hK.out _ _ ⟨AF, XF⟩ (fun hHeld2 => ?_)
        clear hK K hHeld hV2 t0 t1 t2 s0 s1 s2 AF XF
        have hHeld := hHeld2
        clear hHeld2
        try simp only [Act.put, List.setIfInBounds_toArray, List.set_cons_zero, List.set_cons_succ]
        refine take_one 6 4 (v := ?_) rfl rfl (by kernel_rfl) (by kernel_rfl) (by kernel_rfl) (fun _ _ _ h => h) (Or.inl ⟨by rfl, ?_⟩) hHeld ?_
        rotate_left
        · intro w' hSw; (try dsimp only at hSw); have z0 := hSw.1.at 0 rfl; have z1 := hSw.1.at 1 rfl; have z2 := hSw.1.at 2 rfl; have z3 := hSw.2.at 0 rfl; have z4 := hSw.2.at 1 rfl; go_simp; try with_reducible rfl
        try simp only [Act.put, List.setIfInBounds_toArray, List.set_cons_zero, List.set_cons_succ]
        refine take_one 7 5 (v := ?_) rfl rfl (by kernel_rfl) (by kernel_rfl) (by kernel_rfl) (fun _ _ _ h => h) (Or.inl ⟨by rfl, ?_⟩) hHeld ?_
        rotate_left
        · intro w' hSw; (try dsimp only at hSw); have z0 := hSw.1.at 0 rfl; have z1 := hSw.1.at 1 rfl; have z2 := hSw.1.at 2 rfl; have z3 := hSw.2.at 0 rfl; have z4 := hSw.2.at 1 rfl; go_simp; try with_reducible rfl
        try simp only [Act.put, List.setIfInBounds_toArray, List.set_cons_zero, List.set_cons_succ]
        refine wpAnyH_done (by kernel_rfl) ?_ _
        clear hHeld
        go_wp2
        exact bodyPost_ret (res_d rfl _ _ W.heap.size (W.heap.size + 1) _ _ _ _ _ _ _ rfl rfl rfl rfl (RF.out.at 0 rfl) (RF.out.at 1 rfl) (SF.out.at 0 rfl) (SF.out.at 1 rfl) (SF.out.at 2 rfl)) rfl ⟨q, g, c, xs, _, _, _, _, _, rfl, OF.out.row, hxl, OF.out.cap, BF.out⟩
    | true =>
      have HX := authW CC.here
      go_wp2_with fail
      refine HX.mono ?_
      clear HX
      rintro en w13 ⟨o0, o1, o2, rfl, C⟩
      replace RB := RB.only C.2 RB.lt (by omega)
      replace SB := SB.only C.2 SB.lt (by omega)
      replace AB := AB.only C.2 AB.lt (by omega)
      replace XB := XB.only C.2 XB.lt (by omega)
      replace OX := Own3.only OX C.2 (by omega)
      replace BB := BB.trans (C.2.below (B := W.heap.size) (by omega) CC.lt)
      replace CC := C.here
      clear C
      obtain ⟨w14, hw14⟩ : ∃ v, ((w13.setCell ⟨pa, 0, none⟩ (.int .i64 o0)).setCell ⟨pa, 1, none⟩ (.int .i64 o1)).setCell ⟨pa, 2, none⟩ (.int .i64 o2) = v := ⟨_, rfl⟩
      have i0 := AB.at 0 rfl
      have j0 := AB.fz 0 rfl
      have i1 := AB.at 1 rfl
      have j1 := AB.fz 1 rfl
      have i2 := AB.at 2 rfl
      have j2 := AB.fz 2 rfl
      have AN : Blk pa [.int .i64 o0, .int .i64 o1, .int .i64 o2] w14 := by rw [← hw14]; exact ((AB.set 0 _).set 1 _).set 2 _
      have RBN : Blk W.heap.size [.int .i64 0, .slice none 0 0] w14 := by rw [← hw14]; exact ((RB.far (by omega) 0 _).far (by omega) 1 _).far (by omega) 2 _
      have SBN : Blk (W.heap.size + 1) [.int .i64 0, .int .i64 0, .int .i64 0] w14 := by rw [← hw14]; exact ((SB.far (by omega) 0 _).far (by omega) 1 _).far (by omega) 2 _
      have XBN : Blk px [.int .i64 q, .slice g xs.length c] w14 := by rw [← hw14]; exact ((XB.far (by omega) 0 _).far (by omega) 1 _).far (by omega) 2 _
      have BN : Below W.heap.size W w14 := by rw [← hw14]; exact ((BB.setCell (p := ⟨pa, 0, none⟩) (by show W.heap.size ≤ pa; omega) _).setCell (p := ⟨pa, 1, none⟩) (by show W.heap.size ≤ pa; omega) _).setCell (p := ⟨pa, 2, none⟩) (by show W.heap.size ≤ pa; omega) _
      have CN : Cu p ad len cap zs w14 w14 := by rw [← hw14]; exact (cu_set (cu_set (cu_set CC (by omega) 0 _) (by omega) 1 _) (by omega) 2 _)
      have ON : Own3 (pa + 1) g c xs w14 := by rw [← hw14]; exact Own3.below (Own3.below (Own3.below OX (by omega) 0 _) (by omega) 1 _) (by omega) 2 _
      clear AB RB SB XB BB CC OX
      have AB := AN
      have RB := RBN
      have SB := SBN
      have XB := XBN
      have BB := BN
      have CC := CN
      have OX := ON
      clear AN RBN SBN XBN BN CN ON
      have HX := onceW 15 CC.here (by omega)
      go_wp2_with fail
      try rw [hw14]
      refine HX.mono ?_
      clear HX hw14
      rintro en w15 ⟨b15, rfl, C⟩
      replace RB := RB.only C.2 RB.lt (by omega)
      replace SB := SB.only C.2 SB.lt (by omega)
      replace AB := AB.only C.2 AB.lt (by omega)
      replace XB := XB.only C.2 XB.lt (by omega)
      replace OX := Own3.only OX C.2 (by omega)
      replace BB := BB.trans (C.2.below (B := W.heap.size) (by omega) CC.lt)
      replace CC := C.here
      clear C
      cases b15 with
      | false =>
        go_wp2_with fail
        replace RB := RB.drew
        replace SB := SB.drew
        replace AB := AB.drew
        replace XB := XB.drew
        replace OX := OX.drew
        replace BB := BB.drew
        refine wp_region_held_drew (S := (fun V : World => Blk pa [.int .i64 o0, .int .i64 o1, .int .i64 o2] V ∧ Blk px [.int .i64 q, .slice g xs.length c] V)) (by kernel_rfl) ⟨AB, XB⟩ (fun hHeld => ?_)
        clear CC
        generalize World.drew w15 = wd at RB SB AB XB OX BB hHeld ⊢
        refine take_one 0 63 (v := ?_) rfl rfl (by kernel_rfl) (by kernel_rfl) (by kernel_rfl) (fun _ _ _ h => h) (Or.inl ⟨by rfl, ?_⟩) hHeld ?_
        rotate_left
        · intro w' hSw; (try dsimp only at hSw); have z0 := hSw.1.at 0 rfl; have z1 := hSw.1.at 1 rfl; have z2 := hSw.1.at 2 rfl; have z3 := hSw.2.at 0 rfl; have z4 := hSw.2.at 1 rfl; go_simp; try with_reducible rfl
        try simp only [Act.put, List.setIfInBounds_toArray, List.set_cons_zero, List.set_cons_succ]
        refine take_one 1 64 (v := ?_) rfl rfl (by kernel_rfl) (by kernel_rfl) (by kernel_rfl) (fun _ _ _ h => h) (Or.inl ⟨by rfl, ?_⟩) hHeld ?_
        rotate_left
        · intro w' hSw; (try dsimp only at hSw); have z0 := hSw.1.at 0 rfl; have z1 := hSw.1.at 1 rfl; have z2 := hSw.1.at 2 rfl; have z3 := hSw.2.at 0 rfl; have z4 := hSw.2.at 1 rfl; go_simp; try with_reducible rfl
        try simp only [Act.put, List.setIfInBounds_toArray, List.set_cons_zero, List.set_cons_succ]
        refine take_one 2 65 (v := ?_) rfl rfl (by kernel_rfl) (by kernel_rfl) (by kernel_rfl) (fun _ _ _ h => h) (Or.inl ⟨by rfl, ?_⟩) hHeld ?_
        rotate_left
        · intro w' hSw; (try dsimp only at hSw); have z0 := hSw.1.at 0 rfl; have z1 := hSw.1.at 1 rfl; have z2 := hSw.1.at 2 rfl; have z3 := hSw.2.at 0 rfl; have z4 := hSw.2.at 1 rfl; go_simp; try with_reducible rfl
        try simp only [Act.put, List.setIfInBounds_toArray, List.set_cons_zero, List.set_cons_succ]
        refine take_one 3 66 (v := ?_) rfl rfl (by kernel_rfl) (by kernel_rfl) (by kernel_rfl) (fun _ _ _ h => h) (Or.inl ⟨by rfl, ?_⟩) hHeld ?_
        rotate_left
        · intro w' hSw; (try dsimp only at hSw); have z0 := hSw.1.at 0 rfl; have z1 := hSw.1.at 1 rfl; have z2 := hSw.1.at 2 rfl; have z3 := hSw.2.at 0 rfl; have z4 := hSw.2.at 1 rfl; go_simp; try with_reducible rfl
        try simp only [Act.put, List.setIfInBounds_toArray, List.set_cons_zero, List.set_cons_succ]
        have rb0 := RB.at 0 rfl
        have frb0 := RB.fz 0 rfl
        have rb1 := RB.at 1 rfl
        have frb1 := RB.fz 1 rfl
        obtain ⟨V1, hV1⟩ : ∃ v, ((wd.setCell ⟨W.heap.size, 0, none⟩ (.int .i64 q)).setCell ⟨W.heap.size, 1, none⟩ (.slice g xs.length c)) = v := ⟨_, rfl⟩
        have RN : Blk W.heap.size [.int .i64 q, .slice g xs.length c] V1 := by rw [← hV1]; exact (RB.set 0 (.int .i64 q)).set 1 (.slice g xs.length c)
        have SN : Blk (W.heap.size + 1) [.int .i64 0, .int .i64 0, .int .i64 0] V1 := by rw [← hV1]; exact (SB.far (by omega) 0 _).far (by omega) 1 _
        have AN : Blk pa [.int .i64 o0, .int .i64 o1, .int .i64 o2] V1 := by rw [← hV1]; exact (AB.far (by omega) 0 _).far (by omega) 1 _
        have XN : Blk px [.int .i64 q, .slice g xs.length c] V1 := by rw [← hV1]; exact (XB.far (by omega) 0 _).far (by omega) 1 _
        have ON : Own3 (pa + 1) g c xs V1 := by rw [← hV1]; exact Own3.below (Own3.below OX (by omega) 0 _) (by omega) 1 _
        have BN : Below W.heap.size W V1 := by rw [← hV1]; exact (BB.setCell (p := ⟨W.heap.size, 0, none⟩) (Nat.le_refl _) _).setCell (p := ⟨W.heap.size, 1, none⟩) (Nat.le_refl _) _
        clear RB SB AB XB OX BB
        refine wpAnyH_ready (rs := [4]) (by kernel_rfl) (by simp) ?_
        refine AllReadyH.cons (i := 4) rfl (fun K hK => ?_) AllReadyH.nil
        go_simp
        try rw [hV1]
        refine hK.out _ _ ⟨AN, XN⟩ (fun hHeld2 => ?_)
        clear hK K hHeld hV1 rb0 rb1 frb0 frb1
        have hHeld := hHeld2
        clear hHeld2
        try simp only [Act.put, List.setIfInBounds_toArray, List.set_cons_zero, List.set_cons_succ]
        have t0 := SN.at 0 rfl
        have s0 := SN.fz 0 rfl
        have t1 := SN.at 1 rfl
        have s1 := SN.fz 1 rfl
        have t2 := SN.at 2 rfl
        have s2 := SN.fz 2 rfl
        obtain ⟨V2, hV2⟩ : ∃ v, (((V1.setCell ⟨W.heap.size + 1, 0, none⟩ (.int .i64 o0)).setCell ⟨W.heap.size + 1, 1, none⟩ (.int .i64 o1)).setCell ⟨W.heap.size + 1, 2, none⟩ (.int .i64 o2)) = v := ⟨_, rfl⟩
        have RF : Hid (Blk W.heap.size [.int .i64 q, .slice g xs.length c] V2) := by show Blk _ _ _; rw [← hV2]; exact ((RN.far (by omega) 0 _).far (by omega) 1 _).far (by omega) 2 _
        have SF : Hid (Blk (W.heap.size + 1) [.int .i64 o0, .int .i64 o1, .int .i64 o2] V2) := by show Blk _ _ _; rw [← hV2]; exact ((SN.set 0 _).set 1 _).set 2 _
        have AF : Blk pa [.int .i64 o0, .int .i64 o1, .int .i64 o2] V2 := by rw [← hV2]; exact ((AN.far (by omega) 0 _).far (by omega) 1 _).far (by omega) 2 _
        have XF : Blk px [.int .i64 q, .slice g xs.length c] V2 := by rw [← hV2]; exact ((XN.far (by omega) 0 _).far (by omega) 1 _).far (by omega) 2 _
        have OF : Hid (Own3 (pa + 1) g c xs V2) := by show Own3 _ _ _ _ _; rw [← hV2]; exact Own3.below (Own3.below (Own3.below ON (by omega) 0 _) (by omega) 1 _) (by omega) 2 _
        have BF : Hid (Below W.heap.size W V2) := by show Below _ _ _; rw [← hV2]; exact ((BN.setCell (p := ⟨W.heap.size + 1, 0, none⟩) (by show W.heap.size ≤ W.heap.size + 1; omega) _).setCell (p := ⟨W.heap.size + 1, 1, none⟩) (by show W.heap.size ≤ W.heap.size + 1; omega) _).setCell (p := ⟨W.heap.size + 1, 2, none⟩) (by show W.heap.size ≤ W.heap.size + 1; omega) _
        clear RN SN AN XN ON BN
        refine wpAnyH_ready (rs := [5]) (by kernel_rfl) (by simp) ?_
        refine AllReadyH.cons (i := 5) rfl (fun K hK => ?_) AllReadyH.nil
        go_simp
        try rw [hV2]
        refine hK.out _ _ ⟨AF, XF⟩ (fun hHeld2 => ?_)
        clear hK K hHeld hV2 t0 t1 t2 s0 s1 s2 AF XF
        have hHeld := hHeld2
        clear hHeld2
        try simp only [Act.put, List.setIfInBounds_toArray, List.set_cons_zero, List.set_cons_succ]
        refine take_one 6 4 (v := ?_) rfl rfl (by kernel_rfl) (by kernel_rfl) (by kernel_rfl) (fun _ _ _ h => h) (Or.inl ⟨by rfl, ?_⟩) hHeld ?_
        rotate_left
        · intro w' hSw; (try dsimp only at hSw); have z0 := hSw.1.at 0 rfl; have z1 := hSw.1.at 1 rfl; have z2 := hSw.1.at 2 rfl; have z3 := hSw.2.at 0 rfl; have z4 := hSw.2.at 1 rfl; go_simp; try with_reducible rfl
        try simp only [Act.put, List.setIfInBounds_toArray, List.set_cons_zero, List.set_cons_succ]
        refine take_one 7 5 (v := ?_) rfl rfl (by kernel_rfl) (by kernel_rfl) (by kernel_rfl) (fun _ _ _ h => h) (Or.inl ⟨by rfl, ?_⟩) hHeld ?_
        rotate_left
        · intro w' hSw; (try dsimp only at hSw); have z0 := hSw.1.at 0 rfl; have z1 := hSw.1.at 1 rfl; have z2 := hSw.1.at 2 rfl; have z3 := hSw.2.at 0 rfl; have z4 := hSw.2.at 1 rfl; go_simp; try with_reducible rfl
        try simp only [Act.put, List.setIfInBounds_toArray, List.set_cons_zero, List.set_cons_succ]
        refine wpAnyH_done (by kernel_rfl) ?_ _
        clear hHeld
        go_wp2
        exact bodyPost_ret (res_d rfl _ _ W.heap.size (W.heap.size + 1) _ _ _ _ _ _ _ rfl rfl rfl rfl (RF.out.at 0 rfl) (RF.out.at 1 rfl) (SF.out.at 0 rfl) (SF.out.at 1 rfl) (SF.out.at 2 rfl)) rfl ⟨q, g, c, xs, _, _, _, _, _, rfl, OF.out.row, hxl, OF.out.cap, BF.out⟩
      | true =>
        obtain ⟨w16, hw16⟩ : ∃ v, w15.alloc (.cells #[.int .i64 (-1), .int .i64 100000, .int .i64 100001] 3) = v := ⟨_, rfl⟩
        have hal : Below w15.heap.size w15 w16 := by rw [← hw16]; exact (Below.refl _ _).alloc (Nat.le_refl _) _
        have pg : p < w15.heap.size := CC.lt
        have LB : Blk w15.heap.size [.int .i64 (-1), .int .i64 100000, .int .i64 100001] w16 := by rw [← hw16]; exact Blk.new _ _ _
        replace RB := RB.later hal RB.lt
        replace SB := SB.later hal SB.lt
        replace AB := AB.later hal AB.lt
        replace XB := XB.later hal XB.lt
        replace OX := OX.later hal
        replace BB := BB.trans (hal.mono BB.size)
        replace CC := (CC.under hal).here
        clear hal
        have HX := pickI w15.heap.size 3 [-1, 100000, 100001] CC.here (by omega) (by omega) pg LB.lt (by decide) LB (by decide)
        go_wp2_with fail
        try rw [hw16]
        refine HX.mono ?_
        clear HX hw16
        rintro en w17 ⟨nw9, rfl, nw9i, C⟩
        replace RB := RB.only C.2 RB.lt (by omega)
        replace SB := SB.only C.2 SB.lt (by omega)
        replace AB := AB.only C.2 AB.lt (by omega)
        replace XB := XB.only C.2 XB.lt (by omega)
        replace OX := Own3.only OX C.2 (by omega)
        replace BB := BB.trans (C.2.below (B := W.heap.size) (by omega) CC.lt)
        replace CC := C.here
        clear C
        clear LB pg
        go_wp2_with fail
        replace RB := RB.drew
        replace SB := SB.drew
        replace AB := AB.drew
        replace XB := XB.drew
        replace OX := OX.drew
        replace BB := BB.drew
        refine wp_region_held_drew (S := (fun V : World => Blk pa [.int .i64 o0, .int .i64 o1, .int .i64 o2] V ∧ Blk px [.int .i64 q, .slice g xs.length c] V)) (by kernel_rfl) ⟨AB, XB⟩ (fun hHeld => ?_)
        clear CC
        generalize World.drew w17 = wd at RB SB AB XB OX BB hHeld ⊢
        refine take_one 0 63 (v := ?_) rfl rfl (by kernel_rfl) (by kernel_rfl) (by kernel_rfl) (fun _ _ _ h => h) (Or.inl ⟨by rfl, ?_⟩) hHeld ?_
        rotate_left
        · intro w' hSw; (try dsimp only at hSw); have z0 := hSw.1.at 0 rfl; have z1 := hSw.1.at 1 rfl; have z2 := hSw.1.at 2 rfl; have z3 := hSw.2.at 0 rfl; have z4 := hSw.2.at 1 rfl; go_simp; try with_reducible rfl
        try simp only [Act.put, List.setIfInBounds_toArray, List.set_cons_zero, List.set_cons_succ]
        refine take_one 1 64 (v := ?_) rfl rfl (by kernel_rfl) (by kernel_rfl) (by kernel_rfl) (fun _ _ _ h => h) (Or.inl ⟨by rfl, ?_⟩) hHeld ?_
        rotate_left
        · intro w' hSw; (try dsimp only at hSw); have z0 := hSw.1.at 0 rfl; have z1 := hSw.1.at 1 rfl; have z2 := hSw.1.at 2 rfl; have z3 := hSw.2.at 0 rfl; have z4 := hSw.2.at 1 rfl; go_simp; try with_reducible rfl
        try simp only [Act.put, List.setIfInBounds_toArray, List.set_cons_zero, List.set_cons_succ]
        refine take_one 2 65 (v := ?_) rfl rfl (by kernel_rfl) (by kernel_rfl) (by kernel_rfl) (fun _ _ _ h => h) (Or.inl ⟨by rfl, ?_⟩) hHeld ?_
        rotate_left
        · intro w' hSw; (try dsimp only at hSw); have z0 := hSw.1.at 0 rfl; have z1 := hSw.1.at 1 rfl; have z2 := hSw.1.at 2 rfl; have z3 := hSw.2.at 0 rfl; have z4 := hSw.2.at 1 rfl; go_simp; try with_reducible rfl
        try simp only [Act.put, List.setIfInBounds_toArray, List.set_cons_zero, List.set_cons_succ]
        refine take_one 3 66 (v := ?_) rfl rfl (by kernel_rfl) (by kernel_rfl) (by kernel_rfl) (fun _ _ _ h => h) (Or.inl ⟨by rfl, ?_⟩) hHeld ?_
        rotate_left
        · intro w' hSw; (try dsimp only at hSw); have z0 := hSw.1.at 0 rfl; have z1 := hSw.1.at 1 rfl; have z2 := hSw.1.at 2 rfl; have z3 := hSw.2.at 0 rfl; have z4 := hSw.2.at 1 rfl; go_simp; try with_reducible rfl
        try simp only [Act.put, List.setIfInBounds_toArray, List.set_cons_zero, List.set_cons_succ]
        have rb0 := RB.at 0 rfl
        have frb0 := RB.fz 0 rfl
        have rb1 := RB.at 1 rfl
        have frb1 := RB.fz 1 rfl
        obtain ⟨V1, hV1⟩ : ∃ v, ((wd.setCell ⟨W.heap.size, 0, none⟩ (.int .i64 q)).setCell ⟨W.heap.size, 1, none⟩ (.slice g xs.length c)) = v := ⟨_, rfl⟩
        have RN : Blk W.heap.size [.int .i64 q, .slice g xs.length c] V1 := by rw [← hV1]; exact (RB.set 0 (.int .i64 q)).set 1 (.slice g xs.length c)
        have SN : Blk (W.heap.size + 1) [.int .i64 0, .int .i64 0, .int .i64 0] V1 := by rw [← hV1]; exact (SB.far (by omega) 0 _).far (by omega) 1 _
        have AN : Blk pa [.int .i64 o0, .int .i64 o1, .int .i64 o2] V1 := by rw [← hV1]; exact (AB.far (by omega) 0 _).far (by omega) 1 _
        have XN : Blk px [.int .i64 q, .slice g xs.length c] V1 := by rw [← hV1]; exact (XB.far (by omega) 0 _).far (by omega) 1 _
        have ON : Own3 (pa + 1) g c xs V1 := by rw [← hV1]; exact Own3.below (Own3.below OX (by omega) 0 _) (by omega) 1 _
        have BN : Below W.heap.size W V1 := by rw [← hV1]; exact (BB.setCell (p := ⟨W.heap.size, 0, none⟩) (Nat.le_refl _) _).setCell (p := ⟨W.heap.size, 1, none⟩) (Nat.le_refl _) _
        clear RB SB AB XB OX BB
        refine wpAnyH_ready (rs := [4]) (by kernel_rfl) (by simp) ?_
        refine AllReadyH.cons (i := 4) rfl (fun K hK => ?_) AllReadyH.nil
        go_simp
        try rw [hV1]
        refine hK.out _ _ ⟨AN, XN⟩ (fun hHeld2 => ?_)
        clear hK K hHeld hV1 rb0 rb1 frb0 frb1
        have hHeld := hHeld2
        clear hHeld2
        try simp only [Act.put, List.setIfInBounds_toArray, List.set_cons_zero, List.set_cons_succ]
        have t0 := SN.at 0 rfl
        have s0 := SN.fz 0 rfl
        have t1 := SN.at 1 rfl
        have s1 := SN.fz 1 rfl
        have t2 := SN.at 2 rfl
        have s2 := SN.fz 2 rfl
        obtain ⟨V2, hV2⟩ : ∃ v, (((V1.setCell ⟨W.heap.size + 1, 0, none⟩ (.int .i64 o0)).setCell ⟨W.heap.size + 1, 1, none⟩ (.int .i64 o1)).setCell ⟨W.heap.size + 1, 2, none⟩ (.int .i64 o2)) = v := ⟨_, rfl⟩
        have RF : Hid (Blk W.heap.size [.int .i64 q, .slice g xs.length c] V2) := by show Blk _ _ _; rw [← hV2]; exact ((RN.far (by omega) 0 _).far (by omega) 1 _).far (by omega) 2 _
        have SF : Hid (Blk (W.heap.size + 1) [.int .i64 o0, .int .i64 o1, .int .i64 o2] V2) := by show Blk _ _ _; rw [← hV2]; exact ((SN.set 0 _).set 1 _).set 2 _
        have AF : Blk pa [.int .i64 o0, .int .i64 o1, .int .i64 o2] V2 := by rw [← hV2]; exact ((AN.far (by omega) 0 _).far (by omega) 1 _).far (by omega) 2 _
        have XF : Blk px [.int .i64 q, .slice g xs.length c] V2 := by rw [← hV2]; exact ((XN.far (by omega) 0 _).far (by omega) 1 _).far (by omega) 2 _
        have OF : Hid (Own3 (pa + 1) g c xs V2) := by show Own3 _ _ _ _ _; rw [← hV2]; exact Own3.below (Own3.below (Own3.below ON (by omega) 0 _) (by omega) 1 _) (by omega) 2 _
        have BF : Hid (Below W.heap.size W V2) := by show Below _ _ _; rw [← hV2]; exact ((BN.setCell (p := ⟨W.heap.size + 1, 0, none⟩) (by show W.heap.size ≤ W.heap.size + 1; omega) _).setCell (p := ⟨W.heap.size + 1, 1, none⟩) (by show W.heap.size ≤ W.heap.size + 1; omega) _).setCell (p := ⟨W.heap.size + 1, 2, none⟩) (by show W.heap.size ≤ W.heap.size + 1; omega) _
        clear RN SN AN XN ON BN
        refine wpAnyH_ready (rs := [5]) (by kernel_rfl) (by simp) ?_
        refine AllReadyH.cons (i := 5) rfl (fun K hK => ?_) AllReadyH.nil
        go_simp
        try rw [hV2]
        refine hK.out _ _ ⟨AF, XF⟩ (fun hHeld2 => ?_)
        clear hK K hHeld hV2 t0 t1 t2 s0 s1 s2 AF XF
        have hHeld := hHeld2
        clear hHeld2
        try simp only [Act.put, List.setIfInBounds_toArray, List.set_cons_zero, List.set_cons_succ]
        refine take_one 6 4 (v := ?_) rfl rfl (by kernel_rfl) (by kernel_rfl) (by kernel_rfl) (fun _ _ _ h => h) (Or.inl ⟨by rfl, ?_⟩) hHeld ?_
        rotate_left
        · intro w' hSw; (try dsimp only at hSw); have z0 := hSw.1.at 0 rfl; have z1 := hSw.1.at 1 rfl; have z2 := hSw.1.at 2 rfl; have z3 := hSw.2.at 0 rfl; have z4 := hSw.2.at 1 rfl; go_simp; try with_reducible rfl
        try simp only [Act.put, List.setIfInBounds_toArray, List.set_cons_zero, List.set_cons_succ]
        refine take_one 7 5 (v := ?_) rfl rfl (by kernel_rfl) (by kernel_rfl) (by kernel_rfl) (fun _ _ _ h => h) (Or.inl ⟨by rfl, ?_⟩) hHeld ?_
        rotate_left
        · intro w' hSw; (try dsimp only at hSw); have z0 := hSw.1.at 0 rfl; have z1 := hSw.1.at 1 rfl; have z2 := hSw.1.at 2 rfl; have z3 := hSw.2.at 0 rfl; have z4 := hSw.2.at 1 rfl; go_simp; try with_reducible rfl
        try simp only [Act.put, List.setIfInBounds_toArray, List.set_cons_zero, List.set_cons_succ]
        refine wpAnyH_done (by kernel_rfl) ?_ _
        clear hHeld
        go_wp2
        exact bodyPost_ret (res_d rfl _ _ W.heap.size (W.heap.size + 1) _ _ _ _ _ _ _ rfl rfl rfl rfl (RF.out.at 0 rfl) (RF.out.at 1 rfl) (SF.out.at 0 rfl) (SF.out.at 1 rfl) (SF.out.at 2 rfl)) rfl ⟨q, g, c, xs, _, _, _, _, _, rfl, OF.out.row, hxl, OF.out.cap, BF.out⟩
  · have hx1 : decide ((0 : Int) < (xs.length : Int)) = true := decide_eq_true (by omega)
    have hx9 : (0 : Int) < (xs.length : Int) := by omega
    have HX := onceW 3 CC.here (by omega)
    go_wp2_with fail
    try rw [hw11]
    refine HX.mono ?_
    clear HX hw11 xb0 xb1 fxb0 fxb1
    rintro en w12 ⟨b3, rfl, C⟩
    try simp only []
    have HPX := show Hid _ from hpx
    clear hpx
    replace RB := RB.only C.2 RB.lt (by omega)
    replace SB := SB.only C.2 SB.lt (by omega)
    replace AB := AB.only C.2 AB.lt (by omega)
    replace XB := XB.only C.2 XB.lt (by omega)
    replace OX := Own3.only OX C.2 (by omega)
    replace BB := BB.trans (C.2.below (B := W.heap.size) (by omega) CC.lt)
    replace CC := C.here
    clear C
    cases b3 with
    | false =>
      have HX := onceW 12 CC.here (by omega)
      go_wp2_with fail
      refine HX.mono ?_
      clear HX
      rintro en w13 ⟨b12, rfl, C⟩
      replace RB := RB.only C.2 RB.lt (by omega)
      replace SB := SB.only C.2 SB.lt (by omega)
      replace AB := AB.only C.2 AB.lt (by omega)
      replace XB := XB.only C.2 XB.lt (by omega)
      replace OX := Own3.only OX C.2 (by omega)
      replace BB := BB.trans (C.2.below (B := W.heap.size) (by omega) CC.lt)
      replace CC := C.here
      clear C
      cases b12 with
      | false =>
        have HX := onceW 15 CC.here (by omega)
        go_wp2_with fail
        refine HX.mono ?_
        clear HX
        rintro en w14 ⟨b15, rfl, C⟩
        replace RB := RB.only C.2 RB.lt (by omega)
        replace SB := SB.only C.2 SB.lt (by omega)
        replace AB := AB.only C.2 AB.lt (by omega)
        replace XB := XB.only C.2 XB.lt (by omega)
        replace OX := Own3.only OX C.2 (by omega)
        replace BB := BB.trans (C.2.below (B := W.heap.size) (by omega) CC.lt)
        replace CC := C.here
        clear C
        cases b15 with
        | false =>
          go_wp2_with fail
          replace RB := RB.drew
          replace SB := SB.drew
          replace AB := AB.drew
          replace XB := XB.drew
          replace OX := OX.drew
          replace BB := BB.drew
          refine wp_region_held_drew (S := (fun V : World => Blk pa [.int .i64 a0, .int .i64 (nw + a1 - 2), .int .i64 a2] V ∧ Blk px [.int .i64 q, .slice g xs.length c] V)) (by kernel_rfl) ⟨AB, XB⟩ (fun hHeld => ?_)
          clear CC
          generalize World.drew w14 = wd at RB SB AB XB OX BB hHeld ⊢
          refine take_one 0 63 (v := ?_) rfl rfl (by kernel_rfl) (by kernel_rfl) (by kernel_rfl) (fun _ _ _ h => h) (Or.inl ⟨by rfl, ?_⟩) hHeld ?_
          rotate_left
          · intro w' hSw; (try dsimp only at hSw); have z0 := hSw.1.at 0 rfl; have z1 := hSw.1.at 1 rfl; have z2 := hSw.1.at 2 rfl; have z3 := hSw.2.at 0 rfl; have z4 := hSw.2.at 1 rfl; go_simp; try with_reducible rfl
          try simp only [Act.put, List.setIfInBounds_toArray, List.set_cons_zero, List.set_cons_succ]
          refine take_one 1 64 (v := ?_) rfl rfl (by kernel_rfl) (by kernel_rfl) (by kernel_rfl) (fun _ _ _ h => h) (Or.inl ⟨by rfl, ?_⟩) hHeld ?_
          rotate_left
          · intro w' hSw; (try dsimp only at hSw); have z0 := hSw.1.at 0 rfl; have z1 := hSw.1.at 1 rfl; have z2 := hSw.1.at 2 rfl; have z3 := hSw.2.at 0 rfl; have z4 := hSw.2.at 1 rfl; go_simp; try with_reducible rfl
          try simp only [Act.put, List.setIfInBounds_toArray, List.set_cons_zero, List.set_cons_succ]
          refine take_one 2 65 (v := ?_) rfl rfl (by kernel_rfl) (by kernel_rfl) (by kernel_rfl) (fun _ _ _ h => h) (Or.inl ⟨by rfl, ?_⟩) hHeld ?_
          rotate_left
          · intro w' hSw; (try dsimp only at hSw); have z0 := hSw.1.at 0 rfl; have z1 := hSw.1.at 1 rfl; have z2 := hSw.1.at 2 rfl; have z3 := hSw.2.at 0 rfl; have z4 := hSw.2.at 1 rfl; go_simp; try with_reducible rfl
          try simp only [Act.put, List.setIfInBounds_toArray, List.set_cons_zero, List.set_cons_succ]
          refine take_one 3 66 (v := ?_) rfl rfl (by kernel_rfl) (by kernel_rfl) (by kernel_rfl) (fun _ _ _ h => h) (Or.inl ⟨by rfl, ?_⟩) hHeld ?_
          rotate_left
          · intro w' hSw; (try dsimp only at hSw); have z0 := hSw.1.at 0 rfl; have z1 := hSw.1.at 1 rfl; have z2 := hSw.1.at 2 rfl; have z3 := hSw.2.at 0 rfl; have z4 := hSw.2.at 1 rfl; go_simp; try with_reducible rfl
          try simp only [Act.put, List.setIfInBounds_toArray, List.set_cons_zero, List.set_cons_succ]
          have rb0 := RB.at 0 rfl
          have frb0 := RB.fz 0 rfl
          have rb1 := RB.at 1 rfl
          have frb1 := RB.fz 1 rfl
          obtain ⟨V1, hV1⟩ : ∃ v, ((wd.setCell ⟨W.heap.size, 0, none⟩ (.int .i64 q)).setCell ⟨W.heap.size, 1, none⟩ (.slice g xs.length c)) = v := ⟨_, rfl⟩
          have RN : Blk W.heap.size [.int .i64 q, .slice g xs.length c] V1 := by rw [← hV1]; exact (RB.set 0 (.int .i64 q)).set 1 (.slice g xs.length c)
          have SN : Blk (W.heap.size + 1) [.int .i64 0, .int .i64 0, .int .i64 0] V1 := by rw [← hV1]; exact (SB.far (by omega) 0 _).far (by omega) 1 _
          have AN : Blk pa [.int .i64 a0, .int .i64 (nw + a1 - 2), .int .i64 a2] V1 := by rw [← hV1]; exact (AB.far (by omega) 0 _).far (by omega) 1 _
          have XN : Blk px [.int .i64 q, .slice g xs.length c] V1 := by rw [← hV1]; exact (XB.far (by omega) 0 _).far (by omega) 1 _
          have ON : Own3 (pa + 1) g c xs V1 := by rw [← hV1]; exact Own3.below (Own3.below OX (by omega) 0 _) (by omega) 1 _
          have BN : Below W.heap.size W V1 := by rw [← hV1]; exact (BB.setCell (p := ⟨W.heap.size, 0, none⟩) (Nat.le_refl _) _).setCell (p := ⟨W.heap.size, 1, none⟩) (Nat.le_refl _) _
          clear RB SB AB XB OX BB
          refine wpAnyH_ready (rs := [4]) (by kernel_rfl) (by simp) ?_
          refine AllReadyH.cons (i := 4) rfl (fun K hK => ?_) AllReadyH.nil
          go_simp
          try rw [hV1]
          refine hK.out _ _ ⟨AN, XN⟩ (fun hHeld2 => ?_)
          clear hK K hHeld hV1 rb0 rb1 frb0 frb1
          have hHeld := hHeld2
          clear hHeld2
          try simp only [Act.put, List.setIfInBounds_toArray, List.set_cons_zero, List.set_cons_succ]
          have t0 := SN.at 0 rfl
          have s0 := SN.fz 0 rfl
          have t1 := SN.at 1 rfl
          have s1 := SN.fz 1 rfl
          have t2 := SN.at 2 rfl
          have s2 := SN.fz 2 rfl
          obtain ⟨V2, hV2⟩ : ∃ v, (((V1.setCell ⟨W.heap.size + 1, 0, none⟩ (.int .i64 a0)).setCell ⟨W.heap.size + 1, 1, none⟩ (.int .i64 (nw + a1 - 2))).setCell ⟨W.heap.size + 1, 2, none⟩ (.int .i64 a2)) = v := ⟨_, rfl⟩
          have RF : Hid (Blk W.heap.size [.int .i64 q, .slice g xs.length c] V2) := by show Blk _ _ _; rw [← hV2]; exact ((RN.far (by omega) 0 _).far (by omega) 1 _).far (by omega) 2 _
          have SF : Hid (Blk (W.heap.size + 1) [.int .i64 a0, .int .i64 (nw + a1 - 2), .int .i64 a2] V2) := by show Blk _ _ _; rw [← hV2]; exact ((SN.set 0 _).set 1 _).set 2 _
          have AF : Blk pa [.int .i64 a0, .int .i64 (nw + a1 - 2), .int .i64 a2] V2 := by rw [← hV2]; exact ((AN.far (by omega) 0 _).far (by omega) 1 _).far (by omega) 2 _
          have XF : Blk px [.int .i64 q, .slice g xs.length c] V2 := by rw [← hV2]; exact ((XN.far (by omega) 0 _).far (by omega) 1 _).far (by omega) 2 _
          have OF : Hid (Own3 (pa + 1) g c xs V2) := by show Own3 _ _ _ _ _; rw [← hV2]; exact Own3.below (Own3.below (Own3.below ON (by omega) 0 _) (by omega) 1 _) (by omega) 2 _
          have BF : Hid (Below W.heap.size W V2) := by show Below _ _ _; rw [← hV2]; exact ((BN.setCell (p := ⟨W.heap.size + 1, 0, none⟩) (by show W.heap.size ≤ W.heap.size + 1; omega) _).setCell (p := ⟨W.heap.size + 1, 1, none⟩) (by show W.heap.size ≤ W.heap.size + 1; omega) _).setCell (p := ⟨W.heap.size + 1, 2, none⟩) (by show W.heap.size ≤ W.heap.size + 1; omega) _
          clear RN SN AN XN ON BN
          refine wpAnyH_ready (rs := [5]) (by kernel_rfl) (by simp) ?_
          refine AllReadyH.cons (i := 5) rfl (fun K hK => ?_) AllReadyH.nil
          go_simp
          try rw [hV2]
          refine hK.out _ _ ⟨AF, XF⟩ (fun hHeld2 => ?_)
          clear hK K hHeld hV2 t0 t1 t2 s0 s1 s2 AF XF
          have hHeld := hHeld2
          clear hHeld2
          try simp only [Act.put, List.setIfInBounds_toArray, List.set_cons_zero, List.set_cons_succ]
          refine take_one 6 4 (v := ?_) rfl rfl (by kernel_rfl) (by kernel_rfl) (by kernel_rfl) (fun _ _ _ h => h) (Or.inl ⟨by rfl, ?_⟩) hHeld ?_
          rotate_left
          · intro w' hSw; (try dsimp only at hSw); have z0 := hSw.1.at 0 rfl; have z1 := hSw.1.at 1 rfl; have z2 := hSw.1.at 2 rfl; have z3 := hSw.2.at 0 rfl; have z4 := hSw.2.at 1 rfl; go_simp; try with_reducible rfl
          try simp only [Act.put, List.setIfInBounds_toArray, List.set_cons_zero, List.set_cons_succ]
          refine take_one 7 5 (v := ?_) rfl rfl (by kernel_rfl) (by kernel_rfl) (by kernel_rfl) (fun _ _ _ h => h) (Or.inl ⟨by rfl, ?_⟩) hHeld ?_
          rotate_left
          · intro w' hSw; (try dsimp only at hSw); have z0 := hSw.1.at 0 rfl; have z1 := hSw.1.at 1 rfl; have z2 := hSw.1.at 2 rfl; have z3 := hSw.2.at 0 rfl; have z4 := hSw.2.at 1 rfl; go_simp; try with_reducible rfl
          try simp only [Act.put, List.setIfInBounds_toArray, List.set_cons_zero, List.set_cons_succ]
          refine wpAnyH_done (by kernel_rfl) ?_ _
          clear hHeld
          go_wp2
          exact bodyPost_ret (res_d rfl _ _ W.heap.size (W.heap.size + 1) _ _ _ _ _ _ _ rfl rfl rfl rfl (RF.out.at 0 rfl) (RF.out.at 1 rfl) (SF.out.at 0 rfl) (SF.out.at 1 rfl) (SF.out.at 2 rfl)) rfl ⟨q, g, c, xs, _, _, _, _, _, rfl, OF.out.row, hxl, OF.out.cap, BF.out⟩
        | true =>
          obtain ⟨w15, hw15⟩ : ∃ v, w14.alloc (.cells #[.int .i64 (-1), .int .i64 100000, .int .i64 100001] 3) = v := ⟨_, rfl⟩
          have hal : Below w14.heap.size w14 w15 := by rw [← hw15]; exact (Below.refl _ _).alloc (Nat.le_refl _) _
          have pg : p < w14.heap.size := CC.lt
          have LB : Blk w14.heap.size [.int .i64 (-1), .int .i64 100000, .int .i64 100001] w15 := by rw [← hw15]; exact Blk.new _ _ _
          replace RB := RB.later hal RB.lt
          replace SB := SB.later hal SB.lt
          replace AB := AB.later hal AB.lt
          replace XB := XB.later hal XB.lt
          replace OX := OX.later hal
          replace BB := BB.trans (hal.mono BB.size)
          replace CC := (CC.under hal).here
          clear hal
          have HX := pickI w14.heap.size 3 [-1, 100000, 100001] CC.here (by omega) (by omega) pg LB.lt (by decide) LB (by decide)
          go_wp2_with fail
          try rw [hw15]
          refine HX.mono ?_
          clear HX hw15
          rintro en w16 ⟨nw9, rfl, nw9i, C⟩
          replace RB := RB.only C.2 RB.lt (by omega)
          replace SB := SB.only C.2 SB.lt (by omega)
          replace AB := AB.only C.2 AB.lt (by omega)
          replace XB := XB.only C.2 XB.lt (by omega)
          replace OX := Own3.only OX C.2 (by omega)
          replace BB := BB.trans (C.2.below (B := W.heap.size) (by omega) CC.lt)
          replace CC := C.here
          clear C
          clear LB pg
          go_wp2_with fail
          replace RB := RB.drew
          replace SB := SB.drew
          replace AB := AB.drew
          replace XB := XB.drew
          replace OX := OX.drew
          replace BB := BB.drew
          refine wp_region_held_drew (S := (fun V : World => Blk pa [.int .i64 a0, .int .i64 (nw + a1 - 2), .int .i64 a2] V ∧ Blk px [.int .i64 q, .slice g xs.length c] V)) (by kernel_rfl) ⟨AB, XB⟩ (fun hHeld => ?_)
          clear CC
          generalize World.drew w16 = wd at RB SB AB XB OX BB hHeld ⊢
          refine take_one 0 63 (v := ?_) rfl rfl (by kernel_rfl) (by kernel_rfl) (by kernel_rfl) (fun _ _ _ h => h) (Or.inl ⟨by rfl, ?_⟩) hHeld ?_
          rotate_left
          · intro w' hSw; (try dsimp only at hSw); have z0 := hSw.1.at 0 rfl; have z1 := hSw.1.at 1 rfl; have z2 := hSw.1.at 2 rfl; have z3 := hSw.2.at 0 rfl; have z4 := hSw.2.at 1 rfl; go_simp; try with_reducible rfl
          try simp only [Act.put, List.setIfInBounds_toArray, List.set_cons_zero, List.set_cons_succ]
          refine take_one 1 64 (v := ?_) rfl rfl (by kernel_rfl) (by kernel_rfl) (by kernel_rfl) (fun _ _ _ h => h) (Or.inl ⟨by rfl, ?_⟩) hHeld ?_
          rotate_left
          · intro w' hSw; (try dsimp only at hSw); have z0 := hSw.1.at 0 rfl; have z1 := hSw.1.at 1 rfl; have z2 := hSw.1.at 2 rfl; have z3 := hSw.2.at 0 rfl; have z4 := hSw.2.at 1 rfl; go_simp; try with_reducible rfl
          try simp only [Act.put, List.setIfInBounds_toArray, List.set_cons_zero, List.set_cons_succ]
          refine take_one 2 65 (v := ?_) rfl rfl (by kernel_rfl) (by kernel_rfl) (by kernel_rfl) (fun _ _ _ h => h) (Or.inl ⟨by rfl, ?_⟩) hHeld ?_
          rotate_left
          · intro w' hSw; (try dsimp only at hSw); have z0 := hSw.1.at 0 rfl; have z1 := hSw.1.at 1 rfl; have z2 := hSw.1.at 2 rfl; have z3 := hSw.2.at 0 rfl; have z4 := hSw.2.at 1 rfl; go_simp; try with_reducible rfl
          try simp only [Act.put, List.setIfInBounds_toArray, List.set_cons_zero, List.set_cons_succ]
          refine take_one 3 66 (v := ?_) rfl rfl (by kernel_rfl) (by kernel_rfl) (by kernel_rfl) (fun _ _ _ h => h) (Or.inl ⟨by rfl, ?_⟩) hHeld ?_
          rotate_left
          · intro w' hSw; (try dsimp only at hSw); have z0 := hSw.1.at 0 rfl; have z1 := hSw.1.at 1 rfl; have z2 := hSw.1.at 2 rfl; have z3 := hSw.2.at 0 rfl; have z4 := hSw.2.at 1 rfl; go_simp; try with_reducible rfl
          try simp only [Act.put, List.setIfInBounds_toArray, List.set_cons_zero, List.set_cons_succ]
          have rb0 := RB.at 0 rfl
          have frb0 := RB.fz 0 rfl
          have rb1 := RB.at 1 rfl
          have frb1 := RB.fz 1 rfl
          obtain ⟨V1, hV1⟩ : ∃ v, ((wd.setCell ⟨W.heap.size, 0, none⟩ (.int .i64 q)).setCell ⟨W.heap.size, 1, none⟩ (.slice g xs.length c)) = v := ⟨_, rfl⟩
          have RN : Blk W.heap.size [.int .i64 q, .slice g xs.length c] V1 := by rw [← hV1]; exact (RB.set 0 (.int .i64 q)).set 1 (.slice g xs.length c)
          have SN : Blk (W.heap.size + 1) [.int .i64 0, .int .i64 0, .int .i64 0] V1 := by rw [← hV1]; exact (SB.far (by omega) 0 _).far (by omega) 1 _
          have AN : Blk pa [.int .i64 a0, .int .i64 (nw + a1 - 2), .int .i64 a2] V1 := by rw [← hV1]; exact (AB.far (by omega) 0 _).far (by omega) 1 _
          have XN : Blk px [.int .i64 q, .slice g xs.length c] V1 := by rw [← hV1]; exact (XB.far (by omega) 0 _).far (by omega) 1 _
          have ON : Own3 (pa + 1) g c xs V1 := by rw [← hV1]; exact Own3.below (Own3.below OX (by omega) 0 _) (by omega) 1 _
          have BN : Below W.heap.size W V1 := by rw [← hV1]; exact (BB.setCell (p := ⟨W.heap.size, 0, none⟩) (Nat.le_refl _) _).setCell (p := ⟨W.heap.size, 1, none⟩) (Nat.le_refl _) _
          clear RB SB AB XB OX BB
          refine wpAnyH_ready (rs := [4]) (by kernel_rfl) (by simp) ?_
          refine AllReadyH.cons (i := 4) rfl (fun K hK => ?_) AllReadyH.nil
          go_simp
          try rw [hV1]
          refine hK.out _ _ ⟨AN, XN⟩ (fun hHeld2 => ?_)
          clear hK K hHeld hV1 rb0 rb1 frb0 frb1
          have hHeld := hHeld2
          clear hHeld2
          try simp only [Act.put, List.setIfInBounds_toArray, List.set_cons_zero, List.set_cons_succ]
          have t0 := SN.at 0 rfl
          have s0 := SN.fz 0 rfl
          have t1 := SN.at 1 rfl
          have s1 := SN.fz 1 rfl
          have t2 := SN.at 2 rfl
          have s2 := SN.fz 2 rfl
          obtain ⟨V2, hV2⟩ : ∃ v, (((V1.setCell ⟨W.heap.size + 1, 0, none⟩ (.int .i64 a0)).setCell ⟨W.heap.size + 1, 1, none⟩ (.int .i64 (nw + a1 - 2))).setCell ⟨W.heap.size + 1, 2, none⟩ (.int .i64 a2)) = v := ⟨_, rfl⟩
          have RF : Hid (Blk W.heap.size [.int .i64 q, .slice g xs.length c] V2) := by show Blk _ _ _; rw [← hV2]; exact ((RN.far (by omega) 0 _).far (by omega) 1 _).far (by omega) 2 _
          have SF : Hid (Blk (W.heap.size + 1) [.int .i64 a0, .int .i64 (nw + a1 - 2), .int .i64 a2] V2) := by show Blk _ _ _; rw [← hV2]; exact ((SN.set 0 _).set 1 _).set 2 _
          have AF : Blk pa [.int .i64 a0, .int .i64 (nw + a1 - 2), .int .i64 a2] V2 := by rw [← hV2]; exact ((AN.far (by omega) 0 _).far (by omega) 1 _).far (by omega) 2 _
          have XF : Blk px [.int .i64 q, .slice g xs.length c] V2 := by rw [← hV2]; exact ((XN.far (by omega) 0 _).far (by omega) 1 _).far (by omega) 2 _
          have OF : Hid (Own3 (pa + 1) g c xs V2) := by show Own3 _ _ _ _ _; rw [← hV2]; exact Own3.below (Own3.below (Own3.below ON (by omega) 0 _) (by omega) 1 _) (by omega) 2 _
          have BF : Hid (Below W.heap.size W V2) := by show Below _ _ _; rw [← hV2]; exact ((BN.setCell (p := ⟨W.heap.size + 1, 0, none⟩) (by show W.heap.size ≤ W.heap.size + 1; omega) _).setCell (p := ⟨W.heap.size + 1, 1, none⟩) (by show W.heap.size ≤ W.heap.size + 1; omega) _).setCell (p := ⟨W.heap.size + 1, 2, none⟩) (by show W.heap.size ≤ W.heap.size + 1; omega) _
          clear RN SN AN XN ON BN
          refine wpAnyH_ready (rs := [5]) (by kernel_rfl) (by simp) ?_
          refine AllReadyH.cons (i := 5) rfl (fun K hK => ?_) AllReadyH.nil
          go_simp
          try rw [hV2]
          refine hK.out _ _ ⟨AF, XF⟩ (fun hHeld2 => ?_)
          clear hK K hHeld hV2 t0 t1 t2 s0 s1 s2 AF XF
          have hHeld := hHeld2
          clear hHeld2
          try simp only [Act.put, List.setIfInBounds_toArray, List.set_cons_zero, List.set_cons_succ]
          refine take_one 6 4 (v := ?_) rfl rfl (by kernel_rfl) (by kernel_rfl) (by kernel_rfl) (fun _ _ _ h => h) (Or.inl ⟨by rfl, ?_⟩) hHeld ?_
          rotate_left
          · intro w' hSw; (try dsimp only at hSw); have z0 := hSw.1.at 0 rfl; have z1 := hSw.1.at 1 rfl; have z2 := hSw.1.at 2 rfl; have z3 := hSw.2.at 0 rfl; have z4 := hSw.2.at 1 rfl; go_simp; try with_reducible rfl
          try simp only [Act.put, List.setIfInBounds_toArray, List.set_cons_zero, List.set_cons_succ]
          refine take_one 7 5 (v := ?_) rfl rfl (by kernel_rfl) (by kernel_rfl) (by kernel_rfl) (fun _ _ _ h => h) (Or.inl ⟨by rfl, ?_⟩) hHeld ?_
          rotate_left
          · intro w' hSw; (try dsimp only at hSw); have z0 := hSw.1.at 0 rfl; have z1 := hSw.1.at 1 rfl; have z2 := hSw.1.at 2 rfl; have z3 := hSw.2.at 0 rfl; have z4 := hSw.2.at 1 rfl; go_simp; try with_reducible rfl
          try simp only [Act.put, List.setIfInBounds_toArray, List.set_cons_zero, List.set_cons_succ]
          refine wpAnyH_done (by kernel_rfl) ?_ _
          clear hHeld
          go_wp2
          exact bodyPost_ret (res_d rfl _ _ W.heap.size (W.heap.size + 1) _ _ _ _ _ _ _ rfl rfl rfl rfl (RF.out.at 0 rfl) (RF.out.at 1 rfl) (SF.out.at 0 rfl) (SF.out.at 1 rfl) (SF.out.at 2 rfl)) rfl ⟨q, g, c, xs, _, _, _, _, _, rfl, OF.out.row, hxl, OF.out.cap, BF.out⟩
      | true =>
        have HX := authW CC.here
        go_wp2_with fail
        refine HX.mono ?_
        clear HX
        rintro en w14 ⟨o0, o1, o2, rfl, C⟩
        replace RB := RB.only C.2 RB.lt (by omega)
        replace SB := SB.only C.2 SB.lt (by omega)
        replace AB := AB.only C.2 AB.lt (by omega)
        replace XB := XB.only C.2 XB.lt (by omega)
        replace OX := Own3.only OX C.2 (by omega)
        replace BB := BB.trans (C.2.below (B := W.heap.size) (by omega) CC.lt)
        replace CC := C.here
        clear C
        obtain ⟨w15, hw15⟩ : ∃ v, ((w14.setCell ⟨pa, 0, none⟩ (.int .i64 o0)).setCell ⟨pa, 1, none⟩ (.int .i64 o1)).setCell ⟨pa, 2, none⟩ (.int .i64 o2) = v := ⟨_, rfl⟩
        have i0 := AB.at 0 rfl
        have j0 := AB.fz 0 rfl
        have i1 := AB.at 1 rfl
        have j1 := AB.fz 1 rfl
        have i2 := AB.at 2 rfl
        have j2 := AB.fz 2 rfl
        have AN : Blk pa [.int .i64 o0, .int .i64 o1, .int .i64 o2] w15 := by rw [← hw15]; exact ((AB.set 0 _).set 1 _).set 2 _
        have RBN : Blk W.heap.size [.int .i64 0, .slice none 0 0] w15 := by rw [← hw15]; exact ((RB.far (by omega) 0 _).far (by omega) 1 _).far (by omega) 2 _
        have SBN : Blk (W.heap.size + 1) [.int .i64 0, .int .i64 0, .int .i64 0] w15 := by rw [← hw15]; exact ((SB.far (by omega) 0 _).far (by omega) 1 _).far (by omega) 2 _
        have XBN : Blk px [.int .i64 q, .slice g xs.length c] w15 := by rw [← hw15]; exact ((XB.far (by omega) 0 _).far (by omega) 1 _).far (by omega) 2 _
        have BN : Below W.heap.size W w15 := by rw [← hw15]; exact ((BB.setCell (p := ⟨pa, 0, none⟩) (by show W.heap.size ≤ pa; omega) _).setCell (p := ⟨pa, 1, none⟩) (by show W.heap.size ≤ pa; omega) _).setCell (p := ⟨pa, 2, none⟩) (by show W.heap.size ≤ pa; omega) _
        have CN : Cu p ad len cap zs w15 w15 := by rw [← hw15]; exact (cu_set (cu_set (cu_set CC (by omega) 0 _) (by omega) 1 _) (by omega) 2 _)
        have ON : Own3 (pa + 1) g c xs w15 := by rw [← hw15]; exact Own3.below (Own3.below (Own3.below OX (by omega) 0 _) (by omega) 1 _) (by omega) 2 _
        clear AB RB SB XB BB CC OX
        have AB := AN
        have RB := RBN
        have SB := SBN
        have XB := XBN
        have BB := BN
        have CC := CN
        have OX := ON
        clear AN RBN SBN XBN BN CN ON
        have HX := onceW 15 CC.here (by omega)
        go_wp2_with fail
        try rw [hw15]
        refine HX.mono ?_
        clear HX hw15
        rintro en w16 ⟨b15, rfl, C⟩
        replace RB := RB.only C.2 RB.lt (by omega)
        replace SB := SB.only C.2 SB.lt (by omega)
        replace AB := AB.only C.2 AB.lt (by omega)
        replace XB := XB.only C.2 XB.lt (by omega)
        replace OX := Own3.only OX C.2 (by omega)
        replace BB := BB.trans (C.2.below (B := W.heap.size) (by omega) CC.lt)
        replace CC := C.here
        clear C
        cases b15 with
        | false =>
          go_wp2_with fail
          replace RB := RB.drew
          replace SB := SB.drew
          replace AB := AB.drew
          replace XB := XB.drew
          replace OX := OX.drew
          replace BB := BB.drew
          refine wp_region_held_drew (S := (fun V : World => Blk pa [.int .i64 o0, .int .i64 o1, .int .i64 o2] V ∧ Blk px [.int .i64 q, .slice g xs.length c] V)) (by kernel_rfl) ⟨AB, XB⟩ (fun hHeld => ?_)
          clear CC
          generalize World.drew w16 = wd at RB SB AB XB OX BB hHeld ⊢
          refine take_one 0 63 (v := ?_) rfl rfl (by kernel_rfl) (by kernel_rfl) (by kernel_rfl) (fun _ _ _ h => h) (Or.inl ⟨by rfl, ?_⟩) hHeld ?_
          rotate_left
          · intro w' hSw; (try dsimp only at hSw); have z0 := hSw.1.at 0 rfl; have z1 := hSw.1.at 1 rfl; have z2 := hSw.1.at 2 rfl; have z3 := hSw.2.at 0 rfl; have z4 := hSw.2.at 1 rfl; go_simp; try with_reducible rfl
          try simp only [Act.put, List.setIfInBounds_toArray, List.set_cons_zero, List.set_cons_succ]
          refine take_one 1 64 (v := ?_) rfl rfl (by kernel_rfl) (by kernel_rfl) (by kernel_rfl) (fun _ _ _ h => h) (Or.inl ⟨by rfl, ?_⟩) hHeld ?_
          rotate_left
          · intro w' hSw; (try dsimp only at hSw); have z0 := hSw.1.at 0 rfl; have z1 := hSw.1.at 1 rfl; have z2 := hSw.1.at 2 rfl; have z3 := hSw.2.at 0 rfl; have z4 := hSw.2.at 1 rfl; go_simp; try with_reducible rfl
          try simp only [Act.put, List.setIfInBounds_toArray, List.set_cons_zero, List.set_cons_succ]
          refine take_one 2 65 (v := ?_) rfl rfl (by kernel_rfl) (by kernel_rfl) (by kernel_rfl) (fun _ _ _ h => h) (Or.inl ⟨by rfl, ?_⟩) hHeld ?_
          rotate_left
          · intro w' hSw; (try dsimp only at hSw); have z0 := hSw.1.at 0 rfl; have z1 := hSw.1.at 1 rfl; have z2 := hSw.1.at 2 rfl; have z3 := hSw.2.at 0 rfl; have z4 := hSw.2.at 1 rfl; go_simp; try with_reducible rfl
          try simp only [Act.put, List.setIfInBounds_toArray, List.set_cons_zero, List.set_cons_succ]
          refine take_one 3 66 (v := ?_) rfl rfl (by kernel_rfl) (by kernel_rfl) (by kernel_rfl) (fun _ _ _ h => h) (Or.inl ⟨by rfl, ?_⟩) hHeld ?_
          rotate_left
          · intro w' hSw; (try dsimp only at hSw); have z0 := hSw.1.at 0 rfl; have z1 := hSw.1.at 1 rfl; have z2 := hSw.1.at 2 rfl; have z3 := hSw.2.at 0 rfl; have z4 := hSw.2.at 1 rfl; go_simp; try with_reducible rfl
          try simp only [Act.put, List.setIfInBounds_toArray, List.set_cons_zero, List.set_cons_succ]
          have rb0 := RB.at 0 rfl
          have frb0 := RB.fz 0 rfl
          have rb1 := RB.at 1 rfl
          have frb1 := RB.fz 1 rfl
          obtain ⟨V1, hV1⟩ : ∃ v, ((wd.setCell ⟨W.heap.size, 0, none⟩ (.int .i64 q)).setCell ⟨W.heap.size, 1, none⟩ (.slice g xs.length c)) = v := ⟨_, rfl⟩
          have RN : Blk W.heap.size [.int .i64 q, .slice g xs.length c] V1 := by rw [← hV1]; exact (RB.set 0 (.int .i64 q)).set 1 (.slice g xs.length c)
          have SN : Blk (W.heap.size + 1) [.int .i64 0, .int .i64 0, .int .i64 0] V1 := by rw [← hV1]; exact (SB.far (by omega) 0 _).far (by omega) 1 _
          have AN : Blk pa [.int .i64 o0, .int .i64 o1, .int .i64 o2] V1 := by rw [← hV1]; exact (AB.far (by omega) 0 _).far (by omega) 1 _
          have XN : Blk px [.int .i64 q, .slice g xs.length c] V1 := by rw [← hV1]; exact (XB.far (by omega) 0 _).far (by omega) 1 _
          have ON : Own3 (pa + 1) g c xs V1 := by rw [← hV1]; exact Own3.below (Own3.below OX (by omega) 0 _) (by omega) 1 _
          have BN : Below W.heap.size W V1 := by rw [← hV1]; exact (BB.setCell (p := ⟨W.heap.size, 0, none⟩) (Nat.le_refl _) _).setCell (p := ⟨W.heap.size, 1, none⟩) (Nat.le_refl _) _
          clear RB SB AB XB OX BB
          refine wpAnyH_ready (rs := [4]) (by kernel_rfl) (by simp) ?_
          refine AllReadyH.cons (i := 4) rfl (fun K hK => ?_) AllReadyH.nil
          go_simp
          try rw [hV1]
          refine hK.out _ _ ⟨AN, XN⟩ (fun hHeld2 => ?_)
          clear hK K hHeld hV1 rb0 rb1 frb0 frb1
          have hHeld := hHeld2
          clear hHeld2
          try simp only [Act.put, List.setIfInBounds_toArray, List.set_cons_zero, List.set_cons_succ]
          have t0 := SN.at 0 rfl
          have s0 := SN.fz 0 rfl
          have t1 := SN.at 1 rfl
          have s1 := SN.fz 1 rfl
          have t2 := SN.at 2 rfl
          have s2 := SN.fz 2 rfl
          obtain ⟨V2, hV2⟩ : ∃ v, (((V1.setCell ⟨W.heap.size + 1, 0, none⟩ (.int .i64 o0)).setCell ⟨W.heap.size + 1, 1, none⟩ (.int .i64 o1)).setCell ⟨W.heap.size + 1, 2, none⟩ (.int .i64 o2)) = v := ⟨_, rfl⟩
          have RF : Hid (Blk W.heap.size [.int .i64 q, .slice g xs.length c] V2) := by show Blk _ _ _; rw [← hV2]; exact ((RN.far (by omega) 0 _).far (by omega) 1 _).far (by omega) 2 _
          have SF : Hid (Blk (W.heap.size + 1) [.int .i64 o0, .int .i64 o1, .int .i64 o2] V2) := by show Blk _ _ _; rw [← hV2]; exact ((SN.set 0 _).set 1 _).set 2 _
          have AF : Blk pa [.int .i64 o0, .int .i64 o1, .int .i64 o2] V2 := by rw [← hV2]; exact ((AN.far (by omega) 0 _).far (by omega) 1 _).far (by omega) 2 _
          have XF : Blk px [.int .i64 q, .slice g xs.length c] V2 := by rw [← hV2]; exact ((XN.far (by omega) 0 _).far (by omega) 1 _).far (by omega) 2 _
          have OF : Hid (Own3 (pa + 1) g c xs V2) := by show Own3 _ _ _ _ _; rw [← hV2]; exact Own3.below (Own3.below (Own3.below ON (by omega) 0 _) (by omega) 1 _) (by omega) 2 _
          have BF : Hid (Below W.heap.size W V2) := by show Below _ _ _; rw [← hV2]; exact ((BN.setCell (p := ⟨W.heap.size + 1, 0, none⟩) (by show W.heap.size ≤ W.heap.size + 1; omega) _).setCell (p := ⟨W.heap.size + 1, 1, none⟩) (by show W.heap.size ≤ W.heap.size + 1; omega) _).setCell (p := ⟨W.heap.size + 1, 2, none⟩) (by show W.heap.size ≤ W.heap.size + 1; omega) _
          clear RN SN AN XN ON BN
          refine wpAnyH_ready (rs := [5]) (by kernel_rfl) (by simp) ?_
          refine AllReadyH.cons (i := 5) rfl (fun K hK => ?_) AllReadyH.nil
          go_simp
          try rw [hV2]
          refine hK.out _ _ ⟨AF, XF⟩ (fun hHeld2 => ?_)
          clear hK K hHeld hV2 t0 t1 t2 s0 s1 s2 AF XF
          have hHeld := hHeld2
          clear hHeld2
          try simp only [Act.put, List.setIfInBounds_toArray, List.set_cons_zero, List.set_cons_succ]
          refine take_one 6 4 (v := ?_) rfl rfl (by kernel_rfl) (by kernel_rfl) (by kernel_rfl) (fun _ _ _ h => h) (Or.inl ⟨by rfl, ?_⟩) hHeld ?_
          rotate_left
          · intro w' hSw; (try dsimp only at hSw); have z0 := hSw.1.at 0 rfl; have z1 := hSw.1.at 1 rfl; have z2 := hSw.1.at 2 rfl; have z3 := hSw.2.at 0 rfl; have z4 := hSw.2.at 1 rfl; go_simp; try with_reducible rfl
          try simp only [Act.put, List.setIfInBounds_toArray, List.set_cons_zero, List.set_cons_succ]
          refine take_one 7 5 (v := ?_) rfl rfl (by kernel_rfl) (by kernel_rfl) (by kernel_rfl) (fun _ _ _ h => h) (Or.inl ⟨by rfl, ?_⟩) hHeld ?_
          rotate_left
          · intro w' hSw; (try dsimp only at hSw); have z0 := hSw.1.at 0 rfl; have z1 := hSw.1.at 1 rfl; have z2 := hSw.1.at 2 rfl; have z3 := hSw.2.at 0 rfl; have z4 := hSw.2.at 1 rfl; go_simp; try with_reducible rfl
          try simp only [Act.put, List.setIfInBounds_toArray, List.set_cons_zero, List.set_cons_succ]
          refine wpAnyH_done (by kernel_rfl) ?_ _
          clear hHeld
          go_wp2
          exact bodyPost_ret (res_d rfl _ _ W.heap.size (W.heap.size + 1) _ _ _ _ _ _ _ rfl rfl rfl rfl (RF.out.at 0 rfl) (RF.out.at 1 rfl) (SF.out.at 0 rfl) (SF.out.at 1 rfl) (SF.out.at 2 rfl)) rfl ⟨q, g, c, xs, _, _, _, _, _, rfl, OF.out.row, hxl, OF.out.cap, BF.out⟩
        | true =>
          obtain ⟨w17, hw17⟩ : ∃ v, w16.alloc (.cells #[.int .i64 (-1), .int .i64 100000, .int .i64 100001] 3) = v := ⟨_, rfl⟩
          have hal : Below w16.heap.size w16 w17 := by rw [← hw17]; exact (Below.refl _ _).alloc (Nat.le_refl _) _
          have pg : p < w16.heap.size := CC.lt
          have LB : Blk w16.heap.size [.int .i64 (-1), .int .i64 100000, .int .i64 100001] w17 := by rw [← hw17]; exact Blk.new _ _ _
          replace RB := RB.later hal RB.lt
          replace SB := SB.later hal SB.lt
          replace AB := AB.later hal AB.lt
          replace XB := XB.later hal XB.lt
          replace OX := OX.later hal
          replace BB := BB.trans (hal.mono BB.size)
          replace CC := (CC.under hal).here
          clear hal
          have HX := pickI w16.heap.size 3 [-1, 100000, 100001] CC.here (by omega) (by omega) pg LB.lt (by decide) LB (by decide)
          go_wp2_with fail
          try rw [hw17]
          refine HX.mono ?_
          clear HX hw17
          rintro en w18 ⟨nw9, rfl, nw9i, C⟩
          replace RB := RB.only C.2 RB.lt (by omega)
          replace SB := SB.only C.2 SB.lt (by omega)
          replace AB := AB.only C.2 AB.lt (by omega)
          replace XB := XB.only C.2 XB.lt (by omega)
          replace OX := Own3.only OX C.2 (by omega)
          replace BB := BB.trans (C.2.below (B := W.heap.size) (by omega) CC.lt)
          replace CC := C.here
          clear C
          clear LB pg
          go_wp2_with fail
          replace RB := RB.drew
          replace SB := SB.drew
          replace AB := AB.drew
          replace XB := XB.drew
          replace OX := OX.drew
          replace BB := BB.drew
          refine wp_region_held_drew (S := (fun V : World => Blk pa [.int .i64 o0, .int .i64 o1, .int .i64 o2] V ∧ Blk px [.int .i64 q, .slice g xs.length c] V)) (by kernel_rfl) ⟨AB, XB⟩ (fun hHeld => ?_)
          clear CC
          generalize World.drew w18 = wd at RB SB AB XB OX BB hHeld ⊢
          refine take_one 0 63 (v := ?_) rfl rfl (by kernel_rfl) (by kernel_rfl) (by kernel_rfl) (fun _ _ _ h => h) (Or.inl ⟨by rfl, ?_⟩) hHeld ?_
          rotate_left
          · intro w' hSw; (try dsimp only at hSw); have z0 := hSw.1.at 0 rfl; have z1 := hSw.1.at 1 rfl; have z2 := hSw.1.at 2 rfl; have z3 := hSw.2.at 0 rfl; have z4 := hSw.2.at 1 rfl; go_simp; try with_reducible rfl
          try simp only [Act.put, List.setIfInBounds_toArray, List.set_cons_zero, List.set_cons_succ]
          refine take_one 1 64 (v := ?_) rfl rfl (by kernel_rfl) (by kernel_rfl) (by kernel_rfl) (fun _ _ _ h => h) (Or.inl ⟨by rfl, ?_⟩) hHeld ?_
          rotate_left
          · intro w' hSw; (try dsimp only at hSw); have z0 := hSw.1.at 0 rfl; have z1 := hSw.1.at 1 rfl; have z2 := hSw.1.at 2 rfl; have z3 := hSw.2.at 0 rfl; have z4 := hSw.2.at 1 rfl; go_simp; try with_reducible rfl
          try simp only [Act.put, List.setIfInBounds_toArray, List.set_cons_zero, List.set_cons_succ]
          refine take_one 2 65 (v := ?_) rfl rfl (by kernel_rfl) (by kernel_rfl) (by kernel_rfl) (fun _ _ _ h => h) (Or.inl ⟨by rfl, ?_⟩) hHeld ?_
          rotate_left
          · intro w' hSw; (try dsimp only at hSw); have z0 := hSw.1.at 0 rfl; have z1 := hSw.1.at 1 rfl; have z2 := hSw.1.at 2 rfl; have z3 := hSw.2.at 0 rfl; have z4 := hSw.2.at 1 rfl; go_simp; try with_reducible rfl
          try simp only [Act.put, List.setIfInBounds_toArray, List.set_cons_zero, List.set_cons_succ]
          refine take_one 3 66 (v := ?_) rfl rfl (by kernel_rfl) (by kernel_rfl) (by kernel_rfl) (fun _ _ _ h => h) (Or.inl ⟨by rfl, ?_⟩) hHeld ?_
          rotate_left
          · intro w' hSw; (try dsimp only at hSw); have z0 := hSw.1.at 0 rfl; have z1 := hSw.1.at 1 rfl; have z2 := hSw.1.at 2 rfl; have z3 := hSw.2.at 0 rfl; have z4 := hSw.2.at 1 rfl; go_simp; try with_reducible rfl
          try simp only [Act.put, List.setIfInBounds_toArray, List.set_cons_zero, List.set_cons_succ]
          have rb0 := RB.at 0 rfl
          have frb0 := RB.fz 0 rfl
          have rb1 := RB.at 1 rfl
          have frb1 := RB.fz 1 rfl
          obtain ⟨V1, hV1⟩ : ∃ v, ((wd.setCell ⟨W.heap.size, 0, none⟩ (.int .i64 q)).setCell ⟨W.heap.size, 1, none⟩ (.slice g xs.length c)) = v := ⟨_, rfl⟩
          have RN : Blk W.heap.size [.int .i64 q, .slice g xs.length c] V1 := by rw [← hV1]; exact (RB.set 0 (.int .i64 q)).set 1 (.slice g xs.length c)
          have SN : Blk (W.heap.size + 1) [.int .i64 0, .int .i64 0, .int .i64 0] V1 := by rw [← hV1]; exact (SB.far (by omega) 0 _).far (by omega) 1 _
          have AN : Blk pa [.int .i64 o0, .int .i64 o1, .int .i64 o2] V1 := by rw [← hV1]; exact (AB.far (by omega) 0 _).far (by omega) 1 _
          have XN : Blk px [.int .i64 q, .slice g xs.length c] V1 := by rw [← hV1]; exact (XB.far (by omega) 0 _).far (by omega) 1 _
          have ON : Own3 (pa + 1) g c xs V1 := by rw [← hV1]; exact Own3.below (Own3.below OX (by omega) 0 _) (by omega) 1 _
          have BN : Below W.heap.size W V1 := by rw [← hV1]; exact (BB.setCell (p := ⟨W.heap.size, 0, none⟩) (Nat.le_refl _) _).setCell (p := ⟨W.heap.size, 1, none⟩) (Nat.le_refl _) _
          clear RB SB AB XB OX BB
          refine wpAnyH_ready (rs := [4]) (by kernel_rfl) (by simp) ?_
          refine AllReadyH.cons (i := 4) rfl (fun K hK => ?_) AllReadyH.nil
          go_simp
          try rw [hV1]
          refine hK.out _ _ ⟨AN, XN⟩ (fun hHeld2 => ?_)
          clear hK K hHeld hV1 rb0 rb1 frb0 frb1
          have hHeld := hHeld2
          clear hHeld2
          try simp only [Act.put, List.setIfInBounds_toArray, List.set_cons_zero, List.set_cons_succ]
          have t0 := SN.at 0 rfl
          have s0 := SN.fz 0 rfl
          have t1 := SN.at 1 rfl
          have s1 := SN.fz 1 rfl
          have t2 := SN.at 2 rfl
          have s2 := SN.fz 2 rfl
          obtain ⟨V2, hV2⟩ : ∃ v, (((V1.setCell ⟨W.heap.size + 1, 0, none⟩ (.int .i64 o0)).setCell ⟨W.heap.size + 1, 1, none⟩ (.int .i64 o1)).setCell ⟨W.heap.size + 1, 2, none⟩ (.int .i64 o2)) = v := ⟨_, rfl⟩
          have RF : Hid (Blk W.heap.size [.int .i64 q, .slice g xs.length c] V2) := by show Blk _ _ _; rw [← hV2]; exact ((RN.far (by omega) 0 _).far (by omega) 1 _).far (by omega) 2 _
          have SF : Hid (Blk (W.heap.size + 1) [.int .i64 o0, .int .i64 o1, .int .i64 o2] V2) := by show Blk _ _ _; rw [← hV2]; exact ((SN.set 0 _).set 1 _).set 2 _
          have AF : Blk pa [.int .i64 o0, .int .i64 o1, .int .i64 o2] V2 := by rw [← hV2]; exact ((AN.far (by omega) 0 _).far (by omega) 1 _).far (by omega) 2 _
          have XF : Blk px [.int .i64 q, .slice g xs.length c] V2 := by rw [← hV2]; exact ((XN.far (by omega) 0 _).far (by omega) 1 _).far (by omega) 2 _
          have OF : Hid (Own3 (pa + 1) g c xs V2) := by show Own3 _ _ _ _ _; rw [← hV2]; exact Own3.below (Own3.below (Own3.below ON (by omega) 0 _) (by omega) 1 _) (by omega) 2 _
          have BF : Hid (Below W.heap.size W V2) := by show Below _ _ _; rw [← hV2]; exact ((BN.setCell (p := ⟨W.heap.size + 1, 0, none⟩) (by show W.heap.size ≤ W.heap.size + 1; omega) _).setCell (p := ⟨W.heap.size + 1, 1, none⟩) (by show W.heap.size ≤ W.heap.size + 1; omega) _).setCell (p := ⟨W.heap.size + 1, 2, none⟩) (by show W.heap.size ≤ W.heap.size + 1; omega) _
          clear RN SN AN XN ON BN
          refine wpAnyH_ready (rs := [5]) (by kernel_rfl) (by simp) ?_
          refine AllReadyH.cons (i := 5) rfl (fun K hK => ?_) AllReadyH.nil
          go_simp
          try rw [hV2]
          refine hK.out _ _ ⟨AF, XF⟩ (fun hHeld2 => ?_)
          clear hK K hHeld hV2 t0 t1 t2 s0 s1 s2 AF XF
          have hHeld := hHeld2
          clear hHeld2
          try simp only [Act.put, List.setIfInBounds_toArray, List.set_cons_zero, List.set_cons_succ]
          refine take_one 6 4 (v := ?_) rfl rfl (by kernel_rfl) (by kernel_rfl) (by kernel_rfl) (fun _ _ _ h => h) (Or.inl ⟨by rfl, ?_⟩) hHeld ?_
          rotate_left
          · intro w' hSw; (try dsimp only at hSw); have z0 := hSw.1.at 0 rfl; have z1 := hSw.1.at 1 rfl; have z2 := hSw.1.at 2 rfl; have z3 := hSw.2.at 0 rfl; have z4 := hSw.2.at 1 rfl; go_simp; try with_reducible rfl
          try simp only [Act.put, List.setIfInBounds_toArray, List.set_cons_zero, List.set_cons_succ]
          refine take_one 7 5 (v := ?_) rfl rfl (by kernel_rfl) (by kernel_rfl) (by kernel_rfl) (fun _ _ _ h => h) (Or.inl ⟨by rfl, ?_⟩) hHeld ?_
          rotate_left
          · intro w' hSw; (try dsimp only at hSw); have z0 := hSw.1.at 0 rfl; have z1 := hSw.1.at 1 rfl; have z2 := hSw.1.at 2 rfl; have z3 := hSw.2.at 0 rfl; have z4 := hSw.2.at 1 rfl; go_simp; try with_reducible rfl
          try simp only [Act.put, List.setIfInBounds_toArray, List.set_cons_zero, List.set_cons_succ]
          refine wpAnyH_done (by kernel_rfl) ?_ _
          clear hHeld
          go_wp2
          exact bodyPost_ret (res_d rfl _ _ W.heap.size (W.heap.size + 1) _ _ _ _ _ _ _ rfl rfl rfl rfl (RF.out.at 0 rfl) (RF.out.at 1 rfl) (SF.out.at 0 rfl) (SF.out.at 1 rfl) (SF.out.at 2 rfl)) rfl ⟨q, g, c, xs, _, _, _, _, _, rfl, OF.out.row, hxl, OF.out.cap, BF.out⟩
    | true =>
      obtain ⟨b, off, hg, _⟩ := OX.row 0 (by omega)
      subst hg
      go_wp2_with fail
      replace RB := RB.drew
      replace SB := SB.drew
      replace AB := AB.drew
      replace XB := XB.drew
      replace OX := OX.drew
      replace BB := BB.drew
      replace CC := CC.drew.here
      refine wp_region_held_drew (S := (fun V : World => Blk px [.int .i64 q, .slice (some ⟨b, off, none⟩) xs.length c] V)) (by kernel_rfl) XB (fun hHeld => ?_)
      refine take_one 0 40 (v := ?_) rfl rfl (by kernel_rfl) (by kernel_rfl) (by kernel_rfl) (fun _ _ _ h => h) (Or.inl ⟨by rfl, ?_⟩) hHeld ?_
      rotate_left
      · intro w' hSw; (try dsimp only at hSw); have z0 := hSw.at 0 rfl; have z1 := hSw.at 1 rfl; go_simp; try with_reducible rfl
      try simp only [Act.put, List.setIfInBounds_toArray, List.set_cons_zero, List.set_cons_succ]
      refine take_one 1 41 (v := ?_) rfl rfl (by kernel_rfl) (by kernel_rfl) (by kernel_rfl) (fun _ _ _ h => h) (Or.inl ⟨by rfl, ?_⟩) hHeld ?_
      rotate_left
      · intro w' hSw; (try dsimp only at hSw); have z0 := hSw.at 0 rfl; have z1 := hSw.at 1 rfl; go_simp; try with_reducible rfl
      try simp only [Act.put, List.setIfInBounds_toArray, List.set_cons_zero, List.set_cons_succ]
      refine take_one 2 42 (v := ?_) rfl rfl (by kernel_rfl) (by kernel_rfl) (by kernel_rfl) (fun _ _ _ h => h) (Or.inl ⟨by rfl, ?_⟩) hHeld ?_
      rotate_left
      · intro w' hSw; (try dsimp only at hSw); have z0 := hSw.at 0 rfl; have z1 := hSw.at 1 rfl; go_simp; try with_reducible rfl
      try simp only [Act.put, List.setIfInBounds_toArray, List.set_cons_zero, List.set_cons_succ]
      refine take_one 3 43 (v := ?_) rfl rfl (by kernel_rfl) (by kernel_rfl) (by kernel_rfl) (fun _ _ _ h => h) (Or.inl ⟨by rfl, ?_⟩) hHeld ?_
      rotate_left
      · intro w' hSw; (try dsimp only at hSw); have z0 := hSw.at 0 rfl; have z1 := hSw.at 1 rfl; go_simp; try with_reducible rfl
      try simp only [Act.put, List.setIfInBounds_toArray, List.set_cons_zero, List.set_cons_succ]
      refine take_one 4 44 (v := ?_) rfl rfl (by kernel_rfl) (by kernel_rfl) (by kernel_rfl) (fun _ _ _ h => h) (Or.inl ⟨by rfl, ?_⟩) hHeld ?_
      rotate_left
      · intro w' hSw; (try dsimp only at hSw); have z0 := hSw.at 0 rfl; have z1 := hSw.at 1 rfl; go_simp; try with_reducible rfl
      try simp only [Act.put, List.setIfInBounds_toArray, List.set_cons_zero, List.set_cons_succ]
      refine take_one 5 45 (v := ?_) rfl rfl (by kernel_rfl) (by kernel_rfl) (by kernel_rfl) (fun _ _ _ h => h) (Or.inl ⟨by rfl, ?_⟩) hHeld ?_
      rotate_left
      · intro w' hSw; (try dsimp only at hSw); have z0 := hSw.at 0 rfl; have z1 := hSw.at 1 rfl; go_simp; try with_reducible rfl
      try simp only [Act.put, List.setIfInBounds_toArray, List.set_cons_zero, List.set_cons_succ]
      refine wpAnyH_ready (rs := [6]) (by kernel_rfl) (by simp) ?_
      refine AllReadyH.cons (i := 6) rfl (fun K hK => ?_) AllReadyH.nil
      go_simp
      refine (belowW (xs.length : Int) CC.here (by omega) (by omega)).mono ?_
      rintro en u ⟨zi, rfl, za, zb, C⟩
      replace RB := RB.only C.2 RB.lt (by omega)
      replace SB := SB.only C.2 SB.lt (by omega)
      replace AB := AB.only C.2 AB.lt (by omega)
      replace XB := XB.only C.2 XB.lt (by omega)
      replace OX := Own3.only OX C.2 (by omega)
      replace BB := BB.trans (C.2.below (B := W.heap.size) (by omega) CC.lt)
      replace CC := C.here
      clear C
      obtain ⟨i, rfl⟩ : ∃ i : Nat, zi = (i : Int) := ⟨zi.toNat, by omega⟩
      have hi : i < xs.length := by omega
      obtain ⟨b2, off2, hg2, hbl, e0, e1, e2⟩ := OX.row i hi
      cases hg2
      generalize xs[i].1 = x1 at e0
      generalize xs[i].2.1 = y1 at e1
      generalize xs[i].2.2 = z1 at e2
      have hi2 : (i : Int) < (xs.length : Int) := by omega
      go_wp2_with fail
      refine hK.out _ _ XB (fun hHeld2 => ?_)
      clear hK K hHeld
      have hHeld := hHeld2
      clear hHeld2
      try simp only [Act.put, List.setIfInBounds_toArray, List.set_cons_zero, List.set_cons_succ]
      refine take_one 7 47 (v := ?_) rfl rfl (by kernel_rfl) (by kernel_rfl) (by kernel_rfl) (fun _ _ _ h => h) (Or.inl ⟨by rfl, ?_⟩) hHeld ?_
      rotate_left
      · intro w' hSw; (try dsimp only at hSw); have z0 := hSw.at 0 rfl; have z1 := hSw.at 1 rfl; go_simp; try with_reducible rfl
      try simp only [Act.put, List.setIfInBounds_toArray, List.set_cons_zero, List.set_cons_succ]
      refine wpAnyH_ready (rs := [8]) (by kernel_rfl) (by simp) ?_
      refine AllReadyH.cons (i := 8) rfl (fun K hK => ?_) AllReadyH.nil
      go_simp
      refine hK.out _ _ XB (fun hHeld2 => ?_)
      clear hK K hHeld
      have hHeld := hHeld2
      clear hHeld2
      try simp only [Act.put, List.setIfInBounds_toArray, List.set_cons_zero, List.set_cons_succ]
      have i0 := AB.at 0 rfl
      have j0 := AB.fz 0 rfl
      have i1 := AB.at 1 rfl
      have j1 := AB.fz 1 rfl
      have i2 := AB.at 2 rfl
      have j2 := AB.fz 2 rfl
      have AN : Blk pa [.int .i64 x1, .int .i64 y1, .int .i64 z1] (((u.setCell ⟨pa, 0, none⟩ (.int .i64 x1)).setCell ⟨pa, 1, none⟩ (.int .i64 y1)).setCell ⟨pa, 2, none⟩ (.int .i64 z1)) := ((AB.set 0 _).set 1 _).set 2 _
      have RBN := ((RB.far (g' := pa) (by omega) 0 (.int .i64 x1)).far (g' := pa) (by omega) 1 (.int .i64 y1)).far (g' := pa) (by omega) 2 (.int .i64 z1)
      have SBN := ((SB.far (g' := pa) (by omega) 0 (.int .i64 x1)).far (g' := pa) (by omega) 1 (.int .i64 y1)).far (g' := pa) (by omega) 2 (.int .i64 z1)
      have XBN := ((XB.far (g' := pa) (by omega) 0 (.int .i64 x1)).far (g' := pa) (by omega) 1 (.int .i64 y1)).far (g' := pa) (by omega) 2 (.int .i64 z1)
      have BN : Below W.heap.size W (((u.setCell ⟨pa, 0, none⟩ (.int .i64 x1)).setCell ⟨pa, 1, none⟩ (.int .i64 y1)).setCell ⟨pa, 2, none⟩ (.int .i64 z1)) := ((BB.setCell (p := ⟨pa, 0, none⟩) (by show W.heap.size ≤ pa; omega) _).setCell (p := ⟨pa, 1, none⟩) (by show W.heap.size ≤ pa; omega) _).setCell (p := ⟨pa, 2, none⟩) (by show W.heap.size ≤ pa; omega) _
      have CN : Cu p ad len cap zs (((u.setCell ⟨pa, 0, none⟩ (.int .i64 x1)).setCell ⟨pa, 1, none⟩ (.int .i64 y1)).setCell ⟨pa, 2, none⟩ (.int .i64 z1)) (((u.setCell ⟨pa, 0, none⟩ (.int .i64 x1)).setCell ⟨pa, 1, none⟩ (.int .i64 y1)).setCell ⟨pa, 2, none⟩ (.int .i64 z1)) := cu_set (cu_set (cu_set CC (by omega) 0 _) (by omega) 1 _) (by omega) 2 _
      have ON : Own3 (pa + 1) (some ⟨b, off, none⟩) c xs (((u.setCell ⟨pa, 0, none⟩ (.int .i64 x1)).setCell ⟨pa, 1, none⟩ (.int .i64 y1)).setCell ⟨pa, 2, none⟩ (.int .i64 z1)) := Own3.below (Own3.below (Own3.below OX (by omega) 0 _) (by omega) 1 _) (by omega) 2 _
      refine wpAnyH_ready (rs := [9]) (by kernel_rfl) (by simp) ?_
      refine AllReadyH.cons (i := 9) rfl (fun K hK => ?_) AllReadyH.nil
      go_simp
      refine hK.out _ _ XBN (fun hHeld2 => ?_)
      clear hK K hHeld
      have hHeld := hHeld2
      clear hHeld2
      try simp only [Act.put, List.setIfInBounds_toArray, List.set_cons_zero, List.set_cons_succ]
      refine wpAnyH_done (by kernel_rfl) ?_ _
      obtain ⟨v9, hv9⟩ : ∃ v, ((u.setCell ⟨pa, 0, none⟩ (.int .i64 x1)).setCell ⟨pa, 1, none⟩ (.int .i64 y1)).setCell ⟨pa, 2, none⟩ (.int .i64 z1) = v := ⟨_, rfl⟩
      rw [hv9] at AN RBN SBN XBN BN CN ON
      try rw [hv9]
      clear hv9 AB RB SB XB BB CC OX hHeld i0 i1 i2 j0 j1 j2 e0 e1 e2
      have AB := AN
      have RB := RBN
      have SB := SBN
      have XB := XBN
      have BB := BN
      have CC := CN
      have OX := ON
      clear AN RBN SBN XBN BN CN ON
      go_wp2_with fail
      replace RB := RB.drew
      replace SB := SB.drew
      replace AB := AB.drew
      replace XB := XB.drew
      replace OX := OX.drew
      replace BB := BB.drew
      replace CC := CC.drew.here
      refine wp_region_held_drew (S := (fun V : World => Blk pa [.int .i64 x1, .int .i64 y1, .int .i64 z1] V)) (by kernel_rfl) AB (fun hHeld => ?_)
      refine take_one 0 49 (v := ?_) rfl rfl (by kernel_rfl) (by kernel_rfl) (by kernel_rfl) (fun _ _ _ h => h) (Or.inl ⟨by rfl, ?_⟩) hHeld ?_
      rotate_left
      · intro w' hSw; (try dsimp only at hSw); have z0 := hSw.at 0 rfl; have z1 := hSw.at 1 rfl; have z2 := hSw.at 2 rfl; go_simp; try with_reducible rfl
      try simp only [Act.put, List.setIfInBounds_toArray, List.set_cons_zero, List.set_cons_succ]
      refine take_one 1 50 (v := ?_) rfl rfl (by kernel_rfl) (by kernel_rfl) (by kernel_rfl) (fun _ _ _ h => h) (Or.inl ⟨by rfl, ?_⟩) hHeld ?_
      rotate_left
      · intro w' hSw; (try dsimp only at hSw); have z0 := hSw.at 0 rfl; have z1 := hSw.at 1 rfl; have z2 := hSw.at 2 rfl; go_simp; try with_reducible rfl
      try simp only [Act.put, List.setIfInBounds_toArray, List.set_cons_zero, List.set_cons_succ]
      refine take_one 2 51 (v := ?_) rfl rfl (by kernel_rfl) (by kernel_rfl) (by kernel_rfl) (fun _ _ _ h => h) (Or.inl ⟨by rfl, ?_⟩) hHeld ?_
      rotate_left
      · intro w' hSw; (try dsimp only at hSw); have z0 := hSw.at 0 rfl; have z1 := hSw.at 1 rfl; have z2 := hSw.at 2 rfl; go_simp; try with_reducible rfl
      try simp only [Act.put, List.setIfInBounds_toArray, List.set_cons_zero, List.set_cons_succ]
      refine wpAnyH_ready (rs := [3]) (by kernel_rfl) (by simp) ?_
      refine AllReadyH.cons (i := 3) rfl (fun K hK => ?_) AllReadyH.nil
      go_simp
      refine (belowW 3 CC.here (by omega) (by omega)).mono ?_
      rintro en u2 ⟨d9, rfl, d9a, d9b, C⟩
      replace RB := RB.only C.2 RB.lt (by omega)
      replace SB := SB.only C.2 SB.lt (by omega)
      replace AB := AB.only C.2 AB.lt (by omega)
      replace XB := XB.only C.2 XB.lt (by omega)
      replace OX := Own3.only OX C.2 (by omega)
      replace BB := BB.trans (C.2.below (B := W.heap.size) (by omega) CC.lt)
      replace CC := C.here
      clear C
      go_wp2_with fail
      refine hK.out _ _ AB (fun hHeld2 => ?_)
      clear hK K hHeld
      have hHeld := hHeld2
      clear hHeld2
      try simp only [Act.put, List.setIfInBounds_toArray, List.set_cons_zero, List.set_cons_succ]
      refine take_one 4 53 (v := ?_) rfl rfl (by kernel_rfl) (by kernel_rfl) (by kernel_rfl) (fun _ _ _ h => h) (Or.inl ⟨by rfl, ?_⟩) hHeld ?_
      rotate_left
      · intro w' hSw; (try dsimp only at hSw); have z0 := hSw.at 0 rfl; have z1 := hSw.at 1 rfl; have z2 := hSw.at 2 rfl; go_simp; try with_reducible rfl
      try simp only [Act.put, List.setIfInBounds_toArray, List.set_cons_zero, List.set_cons_succ]
      refine take_one 5 7 (v := ?_) rfl rfl (by kernel_rfl) (by kernel_rfl) (by kernel_rfl) (fun _ _ _ h => h) (Or.inl ⟨by rfl, ?_⟩) hHeld ?_
      rotate_left
      · intro w' hSw; (try dsimp only at hSw); have z0 := hSw.at 0 rfl; have z1 := hSw.at 1 rfl; have z2 := hSw.at 2 rfl; go_simp; try with_reducible rfl
      try simp only [Act.put, List.setIfInBounds_toArray, List.set_cons_zero, List.set_cons_succ]
      refine wpAnyH_done (by kernel_rfl) ?_ _
      clear hHeld
      generalize IntKind.i64.wrap (y1 + d9) = nw2
      have HX := onceW 12 CC.here (by omega)
      go_wp2_with fail
      refine HX.mono ?_
      clear HX
      rintro en w71 ⟨b12, rfl, C⟩
      replace RB := RB.only C.2 RB.lt (by omega)
      replace SB := SB.only C.2 SB.lt (by omega)
      replace AB := AB.only C.2 AB.lt (by omega)
      replace XB := XB.only C.2 XB.lt (by omega)
      replace OX := Own3.only OX C.2 (by omega)
      replace BB := BB.trans (C.2.below (B := W.heap.size) (by omega) CC.lt)
      replace CC := C.here
      clear C
      cases b12 with
      | false =>
        have HX := onceW 15 CC.here (by omega)
        go_wp2_with fail
        refine HX.mono ?_
        clear HX
        rintro en w72 ⟨b15, rfl, C⟩
        replace RB := RB.only C.2 RB.lt (by omega)
        replace SB := SB.only C.2 SB.lt (by omega)
        replace AB := AB.only C.2 AB.lt (by omega)
        replace XB := XB.only C.2 XB.lt (by omega)
        replace OX := Own3.only OX C.2 (by omega)
        replace BB := BB.trans (C.2.below (B := W.heap.size) (by omega) CC.lt)
        replace CC := C.here
        clear C
        cases b15 with
        | false =>
          go_wp2_with fail
          replace RB := RB.drew
          replace SB := SB.drew
          replace AB := AB.drew
          replace XB := XB.drew
          replace OX := OX.drew
          replace BB := BB.drew
          refine wp_region_held_drew (S := (fun V : World => Blk pa [.int .i64 x1, .int .i64 y1, .int .i64 z1] V ∧ Blk px [.int .i64 q, .slice (some ⟨b, off, none⟩) xs.length c] V)) (by kernel_rfl) ⟨AB, XB⟩ (fun hHeld => ?_)
          clear CC
          generalize World.drew w72 = wd at RB SB AB XB OX BB hHeld ⊢
          refine take_one 0 63 (v := ?_) rfl rfl (by kernel_rfl) (by kernel_rfl) (by kernel_rfl) (fun _ _ _ h => h) (Or.inl ⟨by rfl, ?_⟩) hHeld ?_
          rotate_left
          · intro w' hSw; (try dsimp only at hSw); have z0 := hSw.1.at 0 rfl; have z1 := hSw.1.at 1 rfl; have z2 := hSw.1.at 2 rfl; have z3 := hSw.2.at 0 rfl; have z4 := hSw.2.at 1 rfl; go_simp; try with_reducible rfl
          try simp only [Act.put, List.setIfInBounds_toArray, List.set_cons_zero, List.set_cons_succ]
          refine take_one 1 64 (v := ?_) rfl rfl (by kernel_rfl) (by kernel_rfl) (by kernel_rfl) (fun _ _ _ h => h) (Or.inl ⟨by rfl, ?_⟩) hHeld ?_
          rotate_left
          · intro w' hSw; (try dsimp only at hSw); have z0 := hSw.1.at 0 rfl; have z1 := hSw.1.at 1 rfl; have z2 := hSw.1.at 2 rfl; have z3 := hSw.2.at 0 rfl; have z4 := hSw.2.at 1 rfl; go_simp; try with_reducible rfl
          try simp only [Act.put, List.setIfInBounds_toArray, List.set_cons_zero, List.set_cons_succ]
          refine take_one 2 65 (v := ?_) rfl rfl (by kernel_rfl) (by kernel_rfl) (by kernel_rfl) (fun _ _ _ h => h) (Or.inl ⟨by rfl, ?_⟩) hHeld ?_
          rotate_left
          · intro w' hSw; (try dsimp only at hSw); have z0 := hSw.1.at 0 rfl; have z1 := hSw.1.at 1 rfl; have z2 := hSw.1.at 2 rfl; have z3 := hSw.2.at 0 rfl; have z4 := hSw.2.at 1 rfl; go_simp; try with_reducible rfl
          try simp only [Act.put, List.setIfInBounds_toArray, List.set_cons_zero, List.set_cons_succ]
          refine take_one 3 66 (v := ?_) rfl rfl (by kernel_rfl) (by kernel_rfl) (by kernel_rfl) (fun _ _ _ h => h) (Or.inl ⟨by rfl, ?_⟩) hHeld ?_
          rotate_left
          · intro w' hSw; (try dsimp only at hSw); have z0 := hSw.1.at 0 rfl; have z1 := hSw.1.at 1 rfl; have z2 := hSw.1.at 2 rfl; have z3 := hSw.2.at 0 rfl; have z4 := hSw.2.at 1 rfl; go_simp; try with_reducible rfl
          try simp only [Act.put, List.setIfInBounds_toArray, List.set_cons_zero, List.set_cons_succ]
          have rb0 := RB.at 0 rfl
          have frb0 := RB.fz 0 rfl
          have rb1 := RB.at 1 rfl
          have frb1 := RB.fz 1 rfl
          obtain ⟨V1, hV1⟩ : ∃ v, ((wd.setCell ⟨W.heap.size, 0, none⟩ (.int .i64 q)).setCell ⟨W.heap.size, 1, none⟩ (.slice (some ⟨b, off, none⟩) xs.length c)) = v := ⟨_, rfl⟩
          have RN : Blk W.heap.size [.int .i64 q, .slice (some ⟨b, off, none⟩) xs.length c] V1 := by rw [← hV1]; exact (RB.set 0 (.int .i64 q)).set 1 (.slice (some ⟨b, off, none⟩) xs.length c)
          have SN : Blk (W.heap.size + 1) [.int .i64 0, .int .i64 0, .int .i64 0] V1 := by rw [← hV1]; exact (SB.far (by omega) 0 _).far (by omega) 1 _
          have AN : Blk pa [.int .i64 x1, .int .i64 y1, .int .i64 z1] V1 := by rw [← hV1]; exact (AB.far (by omega) 0 _).far (by omega) 1 _
          have XN : Blk px [.int .i64 q, .slice (some ⟨b, off, none⟩) xs.length c] V1 := by rw [← hV1]; exact (XB.far (by omega) 0 _).far (by omega) 1 _
          have ON : Own3 (pa + 1) (some ⟨b, off, none⟩) c xs V1 := by rw [← hV1]; exact Own3.below (Own3.below OX (by omega) 0 _) (by omega) 1 _
          have BN : Below W.heap.size W V1 := by rw [← hV1]; exact (BB.setCell (p := ⟨W.heap.size, 0, none⟩) (Nat.le_refl _) _).setCell (p := ⟨W.heap.size, 1, none⟩) (Nat.le_refl _) _
          clear RB SB AB XB OX BB
          refine wpAnyH_ready (rs := [4]) (by kernel_rfl) (by simp) ?_
          refine AllReadyH.cons (i := 4) rfl (fun K hK => ?_) AllReadyH.nil
          go_simp
          try rw [hV1]
          refine hK.out _ _ ⟨AN, XN⟩ (fun hHeld2 => ?_)
          clear hK K hHeld hV1 rb0 rb1 frb0 frb1
          have hHeld := hHeld2
          clear hHeld2
          try simp only [Act.put, List.setIfInBounds_toArray, List.set_cons_zero, List.set_cons_succ]
          have t0 := SN.at 0 rfl
          have s0 := SN.fz 0 rfl
          have t1 := SN.at 1 rfl
          have s1 := SN.fz 1 rfl
          have t2 := SN.at 2 rfl
          have s2 := SN.fz 2 rfl
          obtain ⟨V2, hV2⟩ : ∃ v, (((V1.setCell ⟨W.heap.size + 1, 0, none⟩ (.int .i64 x1)).setCell ⟨W.heap.size + 1, 1, none⟩ (.int .i64 y1)).setCell ⟨W.heap.size + 1, 2, none⟩ (.int .i64 z1)) = v := ⟨_, rfl⟩
          have RF : Hid (Blk W.heap.size [.int .i64 q, .slice (some ⟨b, off, none⟩) xs.length c] V2) := by show Blk _ _ _; rw [← hV2]; exact ((RN.far (by omega) 0 _).far (by omega) 1 _).far (by omega) 2 _
          have SF : Hid (Blk (W.heap.size + 1) [.int .i64 x1, .int .i64 y1, .int .i64 z1] V2) := by show Blk _ _ _; rw [← hV2]; exact ((SN.set 0 _).set 1 _).set 2 _
          have AF : Blk pa [.int .i64 x1, .int .i64 y1, .int .i64 z1] V2 := by rw [← hV2]; exact ((AN.far (by omega) 0 _).far (by omega) 1 _).far (by omega) 2 _
          have XF : Blk px [.int .i64 q, .slice (some ⟨b, off, none⟩) xs.length c] V2 := by rw [← hV2]; exact ((XN.far (by omega) 0 _).far (by omega) 1 _).far (by omega) 2 _
          have OF : Hid (Own3 (pa + 1) (some ⟨b, off, none⟩) c xs V2) := by show Own3 _ _ _ _ _; rw [← hV2]; exact Own3.below (Own3.below (Own3.below ON (by omega) 0 _) (by omega) 1 _) (by omega) 2 _
          have BF : Hid (Below W.heap.size W V2) := by show Below _ _ _; rw [← hV2]; exact ((BN.setCell (p := ⟨W.heap.size + 1, 0, none⟩) (by show W.heap.size ≤ W.heap.size + 1; omega) _).setCell (p := ⟨W.heap.size + 1, 1, none⟩) (by show W.heap.size ≤ W.heap.size + 1; omega) _).setCell (p := ⟨W.heap.size + 1, 2, none⟩) (by show W.heap.size ≤ W.heap.size + 1; omega) _
          clear RN SN AN XN ON BN
          refine wpAnyH_ready (rs := [5]) (by kernel_rfl) (by simp) ?_
          refine AllReadyH.cons (i := 5) rfl (fun K hK => ?_) AllReadyH.nil
          go_simp
          try rw [hV2]
          refine hK.out _ _ ⟨AF, XF⟩ (fun hHeld2 => ?_)
          clear hK K hHeld hV2 t0 t1 t2 s0 s1 s2 AF XF
          have hHeld := hHeld2
          clear hHeld2
          try simp only [Act.put, List.setIfInBounds_toArray, List.set_cons_zero, List.set_cons_succ]
          refine take_one 6 4 (v := ?_) rfl rfl (by kernel_rfl) (by kernel_rfl) (by kernel_rfl) (fun _ _ _ h => h) (Or.inl ⟨by rfl, ?_⟩) hHeld ?_
          rotate_left
          · intro w' hSw; (try dsimp only at hSw); have z0 := hSw.1.at 0 rfl; have z1 := hSw.1.at 1 rfl; have z2 := hSw.1.at 2 rfl; have z3 := hSw.2.at 0 rfl; have z4 := hSw.2.at 1 rfl; go_simp; try with_reducible rfl
          try simp only [Act.put, List.setIfInBounds_toArray, List.set_cons_zero, List.set_cons_succ]
          refine take_one 7 5 (v := ?_) rfl rfl (by kernel_rfl) (by kernel_rfl) (by kernel_rfl) (fun _ _ _ h => h) (Or.inl ⟨by rfl, ?_⟩) hHeld ?_
          rotate_left
          · intro w' hSw; (try dsimp only at hSw); have z0 := hSw.1.at 0 rfl; have z1 := hSw.1.at 1 rfl; have z2 := hSw.1.at 2 rfl; have z3 := hSw.2.at 0 rfl; have z4 := hSw.2.at 1 rfl; go_simp; try with_reducible rfl
          try simp only [Act.put, List.setIfInBounds_toArray, List.set_cons_zero, List.set_cons_succ]
          refine wpAnyH_done (by kernel_rfl) ?_ _
          clear hHeld
          go_wp2
          exact bodyPost_ret (res_d rfl _ _ W.heap.size (W.heap.size + 1) _ _ _ _ _ _ _ rfl rfl rfl rfl (RF.out.at 0 rfl) (RF.out.at 1 rfl) (SF.out.at 0 rfl) (SF.out.at 1 rfl) (SF.out.at 2 rfl)) rfl ⟨q, some ⟨b, off, none⟩, c, xs, _, _, _, _, _, rfl, OF.out.row, hxl, OF.out.cap, BF.out⟩
        | true =>
          obtain ⟨w73, hw73⟩ : ∃ v, w72.alloc (.cells #[.int .i64 (-1), .int .i64 100000, .int .i64 100001] 3) = v := ⟨_, rfl⟩
          have hal : Below w72.heap.size w72 w73 := by rw [← hw73]; exact (Below.refl _ _).alloc (Nat.le_refl _) _
          have pg : p < w72.heap.size := CC.lt
          have LB : Blk w72.heap.size [.int .i64 (-1), .int .i64 100000, .int .i64 100001] w73 := by rw [← hw73]; exact Blk.new _ _ _
          replace RB := RB.later hal RB.lt
          replace SB := SB.later hal SB.lt
          replace AB := AB.later hal AB.lt
          replace XB := XB.later hal XB.lt
          replace OX := OX.later hal
          replace BB := BB.trans (hal.mono BB.size)
          replace CC := (CC.under hal).here
          clear hal
          have HX := pickI w72.heap.size 3 [-1, 100000, 100001] CC.here (by omega) (by omega) pg LB.lt (by decide) LB (by decide)
          go_wp2_with fail
          try rw [hw73]
          refine HX.mono ?_
          clear HX hw73
          rintro en w74 ⟨nw9, rfl, nw9i, C⟩
          replace RB := RB.only C.2 RB.lt (by omega)
          replace SB := SB.only C.2 SB.lt (by omega)
          replace AB := AB.only C.2 AB.lt (by omega)
          replace XB := XB.only C.2 XB.lt (by omega)
          replace OX := Own3.only OX C.2 (by omega)
          replace BB := BB.trans (C.2.below (B := W.heap.size) (by omega) CC.lt)
          replace CC := C.here
          clear C
          clear LB pg
          go_wp2_with fail
          replace RB := RB.drew
          replace SB := SB.drew
          replace AB := AB.drew
          replace XB := XB.drew
          replace OX := OX.drew
          replace BB := BB.drew
          refine wp_region_held_drew (S := (fun V : World => Blk pa [.int .i64 x1, .int .i64 y1, .int .i64 z1] V ∧ Blk px [.int .i64 q, .slice (some ⟨b, off, none⟩) xs.length c] V)) (by kernel_rfl) ⟨AB, XB⟩ (fun hHeld => ?_)
          clear CC
          generalize World.drew w74 = wd at RB SB AB XB OX BB hHeld ⊢
          refine take_one 0 63 (v := ?_) rfl rfl (by kernel_rfl) (by kernel_rfl) (by kernel_rfl) (fun _ _ _ h => h) (Or.inl ⟨by rfl, ?_⟩) hHeld ?_
          rotate_left
          · intro w' hSw; (try dsimp only at hSw); have z0 := hSw.1.at 0 rfl; have z1 := hSw.1.at 1 rfl; have z2 := hSw.1.at 2 rfl; have z3 := hSw.2.at 0 rfl; have z4 := hSw.2.at 1 rfl; go_simp; try with_reducible rfl
          try simp only [Act.put, List.setIfInBounds_toArray, List.set_cons_zero, List.set_cons_succ]
          refine take_one 1 64 (v := ?_) rfl rfl (by kernel_rfl) (by kernel_rfl) (by kernel_rfl) (fun _ _ _ h => h) (Or.inl ⟨by rfl, ?_⟩) hHeld ?_
          rotate_left
          · intro w' hSw; (try dsimp only at hSw); have z0 := hSw.1.at 0 rfl; have z1 := hSw.1.at 1 rfl; have z2 := hSw.1.at 2 rfl; have z3 := hSw.2.at 0 rfl; have z4 := hSw.2.at 1 rfl; go_simp; try with_reducible rfl
          try simp only [Act.put, List.setIfInBounds_toArray, List.set_cons_zero, List.set_cons_succ]
          refine take_one 2 65 (v := ?_) rfl rfl (by kernel_rfl) (by kernel_rfl) (by kernel_rfl) (fun _ _ _ h => h) (Or.inl ⟨by rfl, ?_⟩) hHeld ?_
          rotate_left
          · intro w' hSw; (try dsimp only at hSw); have z0 := hSw.1.at 0 rfl; have z1 := hSw.1.at 1 rfl; have z2 := hSw.1.at 2 rfl; have z3 := hSw.2.at 0 rfl; have z4 := hSw.2.at 1 rfl; go_simp; try with_reducible rfl
          try simp only [Act.put, List.setIfInBounds_toArray, List.set_cons_zero, List.set_cons_succ]
          refine take_one 3 66 (v := ?_) rfl rfl (by kernel_rfl) (by kernel_rfl) (by kernel_rfl) (fun _ _ _ h => h) (Or.inl ⟨by rfl, ?_⟩) hHeld ?_
          rotate_left
          · intro w' hSw; (try dsimp only at hSw); have z0 := hSw.1.at 0 rfl; have z1 := hSw.1.at 1 rfl; have z2 := hSw.1.at 2 rfl; have z3 := hSw.2.at 0 rfl; have z4 := hSw.2.at 1 rfl; go_simp; try with_reducible rfl
          try simp only [Act.put, List.setIfInBounds_toArray, List.set_cons_zero, List.set_cons_succ]
          have rb0 := RB.at 0 rfl
          have frb0 := RB.fz 0 rfl
          have rb1 := RB.at 1 rfl
          have frb1 := RB.fz 1 rfl
          obtain ⟨V1, hV1⟩ : ∃ v, ((wd.setCell ⟨W.heap.size, 0, none⟩ (.int .i64 q)).setCell ⟨W.heap.size, 1, none⟩ (.slice (some ⟨b, off, none⟩) xs.length c)) = v := ⟨_, rfl⟩
          have RN : Blk W.heap.size [.int .i64 q, .slice (some ⟨b, off, none⟩) xs.length c] V1 := by rw [← hV1]; exact (RB.set 0 (.int .i64 q)).set 1 (.slice (some ⟨b, off, none⟩) xs.length c)
          have SN : Blk (W.heap.size + 1) [.int .i64 0, .int .i64 0, .int .i64 0] V1 := by rw [← hV1]; exact (SB.far (by omega) 0 _).far (by omega) 1 _
          have AN : Blk pa [.int .i64 x1, .int .i64 y1, .int .i64 z1] V1 := by rw [← hV1]; exact (AB.far (by omega) 0 _).far (by omega) 1 _
          have XN : Blk px [.int .i64 q, .slice (some ⟨b, off, none⟩) xs.length c] V1 := by rw [← hV1]; exact (XB.far (by omega) 0 _).far (by omega) 1 _
          have ON : Own3 (pa + 1) (some ⟨b, off, none⟩) c xs V1 := by rw [← hV1]; exact Own3.below (Own3.below OX (by omega) 0 _) (by omega) 1 _
          have BN : Below W.heap.size W V1 := by rw [← hV1]; exact (BB.setCell (p := ⟨W.heap.size, 0, none⟩) (Nat.le_refl _) _).setCell (p := ⟨W.heap.size, 1, none⟩) (Nat.le_refl _) _
          clear RB SB AB XB OX BB
          refine wpAnyH_ready (rs := [4]) (by kernel_rfl) (by simp) ?_
          refine AllReadyH.cons (i := 4) rfl (fun K hK => ?_) AllReadyH.nil
          go_simp
          try rw [hV1]
          refine hK.out _ _ ⟨AN, XN⟩ (fun hHeld2 => ?_)
          clear hK K hHeld hV1 rb0 rb1 frb0 frb1
          have hHeld := hHeld2
          clear hHeld2
          try simp only [Act.put, List.setIfInBounds_toArray, List.set_cons_zero, List.set_cons_succ]
          have t0 := SN.at 0 rfl
          have s0 := SN.fz 0 rfl
          have t1 := SN.at 1 rfl
          have s1 := SN.fz 1 rfl
          have t2 := SN.at 2 rfl
          have s2 := SN.fz 2 rfl
          obtain ⟨V2, hV2⟩ : ∃ v, (((V1.setCell ⟨W.heap.size + 1, 0, none⟩ (.int .i64 x1)).setCell ⟨W.heap.size + 1, 1, none⟩ (.int .i64 y1)).setCell ⟨W.heap.size + 1, 2, none⟩ (.int .i64 z1)) = v := ⟨_, rfl⟩
          have RF : Hid (Blk W.heap.size [.int .i64 q, .slice (some ⟨b, off, none⟩) xs.length c] V2) := by show Blk _ _ _; rw [← hV2]; exact ((RN.far (by omega) 0 _).far (by omega) 1 _).far (by omega) 2 _
          have SF : Hid (Blk (W.heap.size + 1) [.int .i64 x1, .int .i64 y1, .int .i64 z1] V2) := by show Blk _ _ _; rw [← hV2]; exact ((SN.set 0 _).set 1 _).set 2 _
          have AF : Blk pa [.int .i64 x1, .int .i64 y1, .int .i64 z1] V2 := by rw [← hV2]; exact ((AN.far (by omega) 0 _).far (by omega) 1 _).far (by omega) 2 _
          have XF : Blk px [.int .i64 q, .slice (some ⟨b, off, none⟩) xs.length c] V2 := by rw [← hV2]; exact ((XN.far (by omega) 0 _).far (by omega) 1 _).far (by omega) 2 _
          have OF : Hid (Own3 (pa + 1) (some ⟨b, off, none⟩) c xs V2) := by show Own3 _ _ _ _ _; rw [← hV2]; exact Own3.below (Own3.below (Own3.below ON (by omega) 0 _) (by omega) 1 _) (by omega) 2 _
          have BF : Hid (Below W.heap.size W V2) := by show Below _ _ _; rw [← hV2]; exact ((BN.setCell (p := ⟨W.heap.size + 1, 0, none⟩) (by show W.heap.size ≤ W.heap.size + 1; omega) _).setCell (p := ⟨W.heap.size + 1, 1, none⟩) (by show W.heap.size ≤ W.heap.size + 1; omega) _).setCell (p := ⟨W.heap.size + 1, 2, none⟩) (by show W.heap.size ≤ W.heap.size + 1; omega) _
          clear RN SN AN XN ON BN
          refine wpAnyH_ready (rs := [5]) (by kernel_rfl) (by simp) ?_
          refine AllReadyH.cons (i := 5) rfl (fun K hK => ?_) AllReadyH.nil
          go_simp
          try rw [hV2]
          refine hK.out _ _ ⟨AF, XF⟩ (fun hHeld2 => ?_)
          clear hK K hHeld hV2 t0 t1 t2 s0 s1 s2 AF XF
          have hHeld := hHeld2
          clear hHeld2
          try simp only [Act.put, List.setIfInBounds_toArray, List.set_cons_zero, List.set_cons_succ]
          refine take_one 6 4 (v := ?_) rfl rfl (by kernel_rfl) (by kernel_rfl) (by kernel_rfl) (fun _ _ _ h => h) (Or.inl ⟨by rfl, ?_⟩) hHeld ?_
          rotate_left
          · intro w' hSw; (try dsimp only at hSw); have z0 := hSw.1.at 0 rfl; have z1 := hSw.1.at 1 rfl; have z2 := hSw.1.at 2 rfl; have z3 := hSw.2.at 0 rfl; have z4 := hSw.2.at 1 rfl; go_simp; try with_reducible rfl
          try simp only [Act.put, List.setIfInBounds_toArray, List.set_cons_zero, List.set_cons_succ]
          refine take_one 7 5 (v := ?_) rfl rfl (by kernel_rfl) (by kernel_rfl) (by kernel_rfl) (fun _ _ _ h => h) (Or.inl ⟨by rfl, ?_⟩) hHeld ?_
          rotate_left
          · intro w' hSw; (try dsimp only at hSw); have z0 := hSw.1.at 0 rfl; have z1 := hSw.1.at 1 rfl; have z2 := hSw.1.at 2 rfl; have z3 := hSw.2.at 0 rfl; have z4 := hSw.2.at 1 rfl; go_simp; try with_reducible rfl
          try simp only [Act.put, List.setIfInBounds_toArray, List.set_cons_zero, List.set_cons_succ]
          refine wpAnyH_done (by kernel_rfl) ?_ _
          clear hHeld
          go_wp2
          exact bodyPost_ret (res_d rfl _ _ W.heap.size (W.heap.size + 1) _ _ _ _ _ _ _ rfl rfl rfl rfl (RF.out.at 0 rfl) (RF.out.at 1 rfl) (SF.out.at 0 rfl) (SF.out.at 1 rfl) (SF.out.at 2 rfl)) rfl ⟨q, some ⟨b, off, none⟩, c, xs, _, _, _, _, _, rfl, OF.out.row, hxl, OF.out.cap, BF.out⟩
      | true =>
        have HX := authW CC.here
        go_wp2_with fail
        refine HX.mono ?_
        clear HX
        rintro en w72 ⟨o0, o1, o2, rfl, C⟩
        replace RB := RB.only C.2 RB.lt (by omega)
        replace SB := SB.only C.2 SB.lt (by omega)
        replace AB := AB.only C.2 AB.lt (by omega)
        replace XB := XB.only C.2 XB.lt (by omega)
        replace OX := Own3.only OX C.2 (by omega)
        replace BB := BB.trans (C.2.below (B := W.heap.size) (by omega) CC.lt)
        replace CC := C.here
        clear C
        obtain ⟨w73, hw73⟩ : ∃ v, ((w72.setCell ⟨pa, 0, none⟩ (.int .i64 o0)).setCell ⟨pa, 1, none⟩ (.int .i64 o1)).setCell ⟨pa, 2, none⟩ (.int .i64 o2) = v := ⟨_, rfl⟩
        have i0 := AB.at 0 rfl
        have j0 := AB.fz 0 rfl
        have i1 := AB.at 1 rfl
        have j1 := AB.fz 1 rfl
        have i2 := AB.at 2 rfl
        have j2 := AB.fz 2 rfl
        have AN : Blk pa [.int .i64 o0, .int .i64 o1, .int .i64 o2] w73 := by rw [← hw73]; exact ((AB.set 0 _).set 1 _).set 2 _
        have RBN : Blk W.heap.size [.int .i64 0, .slice none 0 0] w73 := by rw [← hw73]; exact ((RB.far (by omega) 0 _).far (by omega) 1 _).far (by omega) 2 _
        have SBN : Blk (W.heap.size + 1) [.int .i64 0, .int .i64 0, .int .i64 0] w73 := by rw [← hw73]; exact ((SB.far (by omega) 0 _).far (by omega) 1 _).far (by omega) 2 _
        have XBN : Blk px [.int .i64 q, .slice (some ⟨b, off, none⟩) xs.length c] w73 := by rw [← hw73]; exact ((XB.far (by omega) 0 _).far (by omega) 1 _).far (by omega) 2 _
        have BN : Below W.heap.size W w73 := by rw [← hw73]; exact ((BB.setCell (p := ⟨pa, 0, none⟩) (by show W.heap.size ≤ pa; omega) _).setCell (p := ⟨pa, 1, none⟩) (by show W.heap.size ≤ pa; omega) _).setCell (p := ⟨pa, 2, none⟩) (by show W.heap.size ≤ pa; omega) _
        have CN : Cu p ad len cap zs w73 w73 := by rw [← hw73]; exact (cu_set (cu_set (cu_set CC (by omega) 0 _) (by omega) 1 _) (by omega) 2 _)
        have ON : Own3 (pa + 1) (some ⟨b, off, none⟩) c xs w73 := by rw [← hw73]; exact Own3.below (Own3.below (Own3.below OX (by omega) 0 _) (by omega) 1 _) (by omega) 2 _
        clear AB RB SB XB BB CC OX
        have AB := AN
        have RB := RBN
        have SB := SBN
        have XB := XBN
        have BB := BN
        have CC := CN
        have OX := ON
        clear AN RBN SBN XBN BN CN ON
        have HX := onceW 15 CC.here (by omega)
        go_wp2_with fail
        try rw [hw73]
        refine HX.mono ?_
        clear HX hw73
        rintro en w74 ⟨b15, rfl, C⟩
        replace RB := RB.only C.2 RB.lt (by omega)
        replace SB := SB.only C.2 SB.lt (by omega)
        replace AB := AB.only C.2 AB.lt (by omega)
        replace XB := XB.only C.2 XB.lt (by omega)
        replace OX := Own3.only OX C.2 (by omega)
        replace BB := BB.trans (C.2.below (B := W.heap.size) (by omega) CC.lt)
        replace CC := C.here
        clear C
        cases b15 with
        | false =>
          go_wp2_with fail
          replace RB := RB.drew
          replace SB := SB.drew
          replace AB := AB.drew
          replace XB := XB.drew
          replace OX := OX.drew
          replace BB := BB.drew
          refine wp_region_held_drew (S := (fun V : World => Blk pa [.int .i64 o0, .int .i64 o1, .int .i64 o2] V ∧ Blk px [.int .i64 q, .slice (some ⟨b, off, none⟩) xs.length c] V)) (by kernel_rfl) ⟨AB, XB⟩ (fun hHeld => ?_)
          clear CC
          generalize World.drew w74 = wd at RB SB AB XB OX BB hHeld ⊢
          refine take_one 0 63 (v := ?_) rfl rfl (by kernel_rfl) (by kernel_rfl) (by kernel_rfl) (fun _ _ _ h => h) (Or.inl ⟨by rfl, ?_⟩) hHeld ?_
          rotate_left
          · intro w' hSw; (try dsimp only at hSw); have z0 := hSw.1.at 0 rfl; have z1 := hSw.1.at 1 rfl; have z2 := hSw.1.at 2 rfl; have z3 := hSw.2.at 0 rfl; have z4 := hSw.2.at 1 rfl; go_simp; try with_reducible rfl
          try simp only [Act.put, List.setIfInBounds_toArray, List.set_cons_zero, List.set_cons_succ]
          refine take_one 1 64 (v := ?_) rfl rfl (by kernel_rfl) (by kernel_rfl) (by kernel_rfl) (fun _ _ _ h => h) (Or.inl ⟨by rfl, ?_⟩) hHeld ?_
          rotate_left
          · intro w' hSw; (try dsimp only at hSw); have z0 := hSw.1.at 0 rfl; have z1 := hSw.1.at 1 rfl; have z2 := hSw.1.at 2 rfl; have z3 := hSw.2.at 0 rfl; have z4 := hSw.2.at 1 rfl; go_simp; try with_reducible rfl
          try simp only [Act.put, List.setIfInBounds_toArray, List.set_cons_zero, List.set_cons_succ]
          refine take_one 2 65 (v := ?_) rfl rfl (by kernel_rfl) (by kernel_rfl) (by kernel_rfl) (fun _ _ _ h => h) (Or.inl ⟨by rfl, ?_⟩) hHeld ?_
          rotate_left
          · intro w' hSw; (try dsimp only at hSw); have z0 := hSw.1.at 0 rfl; have z1 := hSw.1.at 1 rfl; have z2 := hSw.1.at 2 rfl; have z3 := hSw.2.at 0 rfl; have z4 := hSw.2.at 1 rfl; go_simp; try with_reducible rfl
          try simp only [Act.put, List.setIfInBounds_toArray, List.set_cons_zero, List.set_cons_succ]
          refine take_one 3 66 (v := ?_) rfl rfl (by kernel_rfl) (by kernel_rfl) (by kernel_rfl) (fun _ _ _ h => h) (Or.inl ⟨by rfl, ?_⟩) hHeld ?_
          rotate_left
          · intro w' hSw; (try dsimp only at hSw); have z0 := hSw.1.at 0 rfl; have z1 := hSw.1.at 1 rfl; have z2 := hSw.1.at 2 rfl; have z3 := hSw.2.at 0 rfl; have z4 := hSw.2.at 1 rfl; go_simp; try with_reducible rfl
          try simp only [Act.put, List.setIfInBounds_toArray, List.set_cons_zero, List.set_cons_succ]
          have rb0 := RB.at 0 rfl
          have frb0 := RB.fz 0 rfl
          have rb1 := RB.at 1 rfl
          have frb1 := RB.fz 1 rfl
          obtain ⟨V1, hV1⟩ : ∃ v, ((wd.setCell ⟨W.heap.size, 0, none⟩ (.int .i64 q)).setCell ⟨W.heap.size, 1, none⟩ (.slice (some ⟨b, off, none⟩) xs.length c)) = v := ⟨_, rfl⟩
          have RN : Blk W.heap.size [.int .i64 q, .slice (some ⟨b, off, none⟩) xs.length c] V1 := by rw [← hV1]; exact (RB.set 0 (.int .i64 q)).set 1 (.slice (some ⟨b, off, none⟩) xs.length c)
          have SN : Blk (W.heap.size + 1) [.int .i64 0, .int .i64 0, .int .i64 0] V1 := by rw [← hV1]; exact (SB.far (by omega) 0 _).far (by omega) 1 _
          have AN : Blk pa [.int .i64 o0, .int .i64 o1, .int .i64 o2] V1 := by rw [← hV1]; exact (AB.far (by omega) 0 _).far (by omega) 1 _
          have XN : Blk px [.int .i64 q, .slice (some ⟨b, off, none⟩) xs.length c] V1 := by rw [← hV1]; exact (XB.far (by omega) 0 _).far (by omega) 1 _
          have ON : Own3 (pa + 1) (some ⟨b, off, none⟩) c xs V1 := by rw [← hV1]; exact Own3.below (Own3.below OX (by omega) 0 _) (by omega) 1 _
          have BN : Below W.heap.size W V1 := by rw [← hV1]; exact (BB.setCell (p := ⟨W.heap.size, 0, none⟩) (Nat.le_refl _) _).setCell (p := ⟨W.heap.size, 1, none⟩) (Nat.le_refl _) _
          clear RB SB AB XB OX BB
          refine wpAnyH_ready (rs := [4]) (by kernel_rfl) (by simp) ?_
          refine AllReadyH.cons (i := 4) rfl (fun K hK => ?_) AllReadyH.nil
          go_simp
          try rw [hV1]
          refine hK.out _ _ ⟨AN, XN⟩ (fun hHeld2 => ?_)
          clear hK K hHeld hV1 rb0 rb1 frb0 frb1
          have hHeld := hHeld2
          clear hHeld2
          try simp only [Act.put, List.setIfInBounds_toArray, List.set_cons_zero, List.set_cons_succ]
          have t0 := SN.at 0 rfl
          have s0 := SN.fz 0 rfl
          have t1 := SN.at 1 rfl
          have s1 := SN.fz 1 rfl
          have t2 := SN.at 2 rfl
          have s2 := SN.fz 2 rfl
          obtain ⟨V2, hV2⟩ : ∃ v, (((V1.setCell ⟨W.heap.size + 1, 0, none⟩ (.int .i64 o0)).setCell ⟨W.heap.size + 1, 1, none⟩ (.int .i64 o1)).setCell ⟨W.heap.size + 1, 2, none⟩ (.int .i64 o2)) = v := ⟨_, rfl⟩
          have RF : Hid (Blk W.heap.size [.int .i64 q, .slice (some ⟨b, off, none⟩) xs.length c] V2) := by show Blk _ _ _; rw [← hV2]; exact ((RN.far (by omega) 0 _).far (by omega) 1 _).far (by omega) 2 _
          have SF : Hid (Blk (W.heap.size + 1) [.int .i64 o0, .int .i64 o1, .int .i64 o2] V2) := by show Blk _ _ _; rw [← hV2]; exact ((SN.set 0 _).set 1 _).set 2 _
          have AF : Blk pa [.int .i64 o0, .int .i64 o1, .int .i64 o2] V2 := by rw [← hV2]; exact ((AN.far (by omega) 0 _).far (by omega) 1 _).far (by omega) 2 _
          have XF : Blk px [.int .i64 q, .slice (some ⟨b, off, none⟩) xs.length c] V2 := by rw [← hV2]; exact ((XN.far (by omega) 0 _).far (by omega) 1 _).far (by omega) 2 _
          have OF : Hid (Own3 (pa + 1) (some ⟨b, off, none⟩) c xs V2) := by show Own3 _ _ _ _ _; rw [← hV2]; exact Own3.below (Own3.below (Own3.below ON (by omega) 0 _) (by omega) 1 _) (by omega) 2 _
          have BF : Hid (Below W.heap.size W V2) := by show Below _ _ _; rw [← hV2]; exact ((BN.setCell (p := ⟨W.heap.size + 1, 0, none⟩) (by show W.heap.size ≤ W.heap.size + 1; omega) _).setCell (p := ⟨W.heap.size + 1, 1, none⟩) (by show W.heap.size ≤ W.heap.size + 1; omega) _).setCell (p := ⟨W.heap.size + 1, 2, none⟩) (by show W.heap.size ≤ W.heap.size + 1; omega) _
          clear RN SN AN XN ON BN
          refine wpAnyH_ready (rs := [5]) (by kernel_rfl) (by simp) ?_
          refine AllReadyH.cons (i := 5) rfl (fun K hK => ?_) AllReadyH.nil
          go_simp
          try rw [hV2]
          refine hK.out _ _ ⟨AF, XF⟩ (fun hHeld2 => ?_)
          clear hK K hHeld hV2 t0 t1 t2 s0 s1 s2 AF XF
          have hHeld := hHeld2
          clear hHeld2
          try simp only [Act.put, List.setIfInBounds_toArray, List.set_cons_zero, List.set_cons_succ]
          refine take_one 6 4 (v := ?_) rfl rfl (by kernel_rfl) (by kernel_rfl) (by kernel_rfl) (fun _ _ _ h => h) (Or.inl ⟨by rfl, ?_⟩) hHeld ?_
          rotate_left
          · intro w' hSw; (try dsimp only at hSw); have z0 := hSw.1.at 0 rfl; have z1 := hSw.1.at 1 rfl; have z2 := hSw.1.at 2 rfl; have z3 := hSw.2.at 0 rfl; have z4 := hSw.2.at 1 rfl; go_simp; try with_reducible rfl
          try simp only [Act.put, List.setIfInBounds_toArray, List.set_cons_zero, List.set_cons_succ]
          refine take_one 7 5 (v := ?_) rfl rfl (by kernel_rfl) (by kernel_rfl) (by kernel_rfl) (fun _ _ _ h => h) (Or.inl ⟨by rfl, ?_⟩) hHeld ?_
          rotate_left
          · intro w' hSw; (try dsimp only at hSw); have z0 := hSw.1.at 0 rfl; have z1 := hSw.1.at 1 rfl; have z2 := hSw.1.at 2 rfl; have z3 := hSw.2.at 0 rfl; have z4 := hSw.2.at 1 rfl; go_simp; try with_reducible rfl
          try simp only [Act.put, List.setIfInBounds_toArray, List.set_cons_zero, List.set_cons_succ]
          refine wpAnyH_done (by kernel_rfl) ?_ _
          clear hHeld
          go_wp2
          exact bodyPost_ret (res_d rfl _ _ W.heap.size (W.heap.size + 1) _ _ _ _ _ _ _ rfl rfl rfl rfl (RF.out.at 0 rfl) (RF.out.at 1 rfl) (SF.out.at 0 rfl) (SF.out.at 1 rfl) (SF.out.at 2 rfl)) rfl ⟨q, some ⟨b, off, none⟩, c, xs, _, _, _, _, _, rfl, OF.out.row, hxl, OF.out.cap, BF.out⟩
        | true =>
          obtain ⟨w75, hw75⟩ : ∃ v, w74.alloc (.cells #[.int .i64 (-1), .int .i64 100000, .int .i64 100001] 3) = v := ⟨_, rfl⟩
          have hal : Below w74.heap.size w74 w75 := by rw [← hw75]; exact (Below.refl _ _).alloc (Nat.le_refl _) _
          have pg : p < w74.heap.size := CC.lt
          have LB : Blk w74.heap.size [.int .i64 (-1), .int .i64 100000, .int .i64 100001] w75 := by rw [← hw75]; exact Blk.new _ _ _
          replace RB := RB.later hal RB.lt
          replace SB := SB.later hal SB.lt
          replace AB := AB.later hal AB.lt
          replace XB := XB.later hal XB.lt
          replace OX := OX.later hal
          replace BB := BB.trans (hal.mono BB.size)
          replace CC := (CC.under hal).here
          clear hal
          have HX := pickI w74.heap.size 3 [-1, 100000, 100001] CC.here (by omega) (by omega) pg LB.lt (by decide) LB (by decide)
          go_wp2_with fail
          try rw [hw75]
          refine HX.mono ?_
          clear HX hw75
          rintro en w76 ⟨nw9, rfl, nw9i, C⟩
          replace RB := RB.only C.2 RB.lt (by omega)
          replace SB := SB.only C.2 SB.lt (by omega)
          replace AB := AB.only C.2 AB.lt (by omega)
          replace XB := XB.only C.2 XB.lt (by omega)
          replace OX := Own3.only OX C.2 (by omega)
          replace BB := BB.trans (C.2.below (B := W.heap.size) (by omega) CC.lt)
          replace CC := C.here
          clear C
          clear LB pg
          go_wp2_with fail
          replace RB := RB.drew
          replace SB := SB.drew
          replace AB := AB.drew
          replace XB := XB.drew
          replace OX := OX.drew
          replace BB := BB.drew
          refine wp_region_held_drew (S := (fun V : World => Blk pa [.int .i64 o0, .int .i64 o1, .int .i64 o2] V ∧ Blk px [.int .i64 q, .slice (some ⟨b, off, none⟩) xs.length c] V)) (by kernel_rfl) ⟨AB, XB⟩ (fun hHeld => ?_)
          clear CC
          generalize World.drew w76 = wd at RB SB AB XB OX BB hHeld ⊢
          refine take_one 0 63 (v := ?_) rfl rfl (by kernel_rfl) (by kernel_rfl) (by kernel_rfl) (fun _ _ _ h => h) (Or.inl ⟨by rfl, ?_⟩) hHeld ?_
          rotate_left
          · intro w' hSw; (try dsimp only at hSw); have z0 := hSw.1.at 0 rfl; have z1 := hSw.1.at 1 rfl; have z2 := hSw.1.at 2 rfl; have z3 := hSw.2.at 0 rfl; have z4 := hSw.2.at 1 rfl; go_simp; try with_reducible rfl
          try simp only [Act.put, List.setIfInBounds_toArray, List.set_cons_zero, List.set_cons_succ]
          refine take_one 1 64 (v := ?_) rfl rfl (by kernel_rfl) (by kernel_rfl) (by kernel_rfl) (fun _ _ _ h => h) (Or.inl ⟨by rfl, ?_⟩) hHeld ?_
          rotate_left
          · intro w' hSw; (try dsimp only at hSw); have z0 := hSw.1.at 0 rfl; have z1 := hSw.1.at 1 rfl; have z2 := hSw.1.at 2 rfl; have z3 := hSw.2.at 0 rfl; have z4 := hSw.2.at 1 rfl; go_simp; try with_reducible rfl
          try simp only [Act.put, List.setIfInBounds_toArray, List.set_cons_zero, List.set_cons_succ]
          refine take_one 2 65 (v := ?_) rfl rfl (by kernel_rfl) (by kernel_rfl) (by kernel_rfl) (fun _ _ _ h => h) (Or.inl ⟨by rfl, ?_⟩) hHeld ?_
          rotate_left
          · intro w' hSw; (try dsimp only at hSw); have z0 := hSw.1.at 0 rfl; have z1 := hSw.1.at 1 rfl; have z2 := hSw.1.at 2 rfl; have z3 := hSw.2.at 0 rfl; have z4 := hSw.2.at 1 rfl; go_simp; try with_reducible rfl
          try simp only [Act.put, List.setIfInBounds_toArray, List.set_cons_zero, List.set_cons_succ]
          refine take_one 3 66 (v := ?_) rfl rfl (by kernel_rfl) (by kernel_rfl) (by kernel_rfl) (fun _ _ _ h => h) (Or.inl ⟨by rfl, ?_⟩) hHeld ?_
          rotate_left
          · intro w' hSw; (try dsimp only at hSw); have z0 := hSw.1.at 0 rfl; have z1 := hSw.1.at 1 rfl; have z2 := hSw.1.at 2 rfl; have z3 := hSw.2.at 0 rfl; have z4 := hSw.2.at 1 rfl; go_simp; try with_reducible rfl
          try simp only [Act.put, List.setIfInBounds_toArray, List.set_cons_zero, List.set_cons_succ]
          have rb0 := RB.at 0 rfl
          have frb0 := RB.fz 0 rfl
          have rb1 := RB.at 1 rfl
          have frb1 := RB.fz 1 rfl
          obtain ⟨V1, hV1⟩ : ∃ v, ((wd.setCell ⟨W.heap.size, 0, none⟩ (.int .i64 q)).setCell ⟨W.heap.size, 1, none⟩ (.slice (some ⟨b, off, none⟩) xs.length c)) = v := ⟨_, rfl⟩
          have RN : Blk W.heap.size [.int .i64 q, .slice (some ⟨b, off, none⟩) xs.length c] V1 := by rw [← hV1]; exact (RB.set 0 (.int .i64 q)).set 1 (.slice (some ⟨b, off, none⟩) xs.length c)
          have SN : Blk (W.heap.size + 1) [.int .i64 0, .int .i64 0, .int .i64 0] V1 := by rw [← hV1]; exact (SB.far (by omega) 0 _).far (by omega) 1 _
          have AN : Blk pa [.int .i64 o0, .int .i64 o1, .int .i64 o2] V1 := by rw [← hV1]; exact (AB.far (by omega) 0 _).far (by omega) 1 _
          have XN : Blk px [.int .i64 q, .slice (some ⟨b, off, none⟩) xs.length c] V1 := by rw [← hV1]; exact (XB.far (by omega) 0 _).far (by omega) 1 _
          have ON : Own3 (pa + 1) (some ⟨b, off, none⟩) c xs V1 := by rw [← hV1]; exact Own3.below (Own3.below OX (by omega) 0 _) (by omega) 1 _
          have BN : Below W.heap.size W V1 := by rw [← hV1]; exact (BB.setCell (p := ⟨W.heap.size, 0, none⟩) (Nat.le_refl _) _).setCell (p := ⟨W.heap.size, 1, none⟩) (Nat.le_refl _) _
          clear RB SB AB XB OX BB
          refine wpAnyH_ready (rs := [4]) (by kernel_rfl) (by simp) ?_
          refine AllReadyH.cons (i := 4) rfl (fun K hK => ?_) AllReadyH.nil
          go_simp
          try rw [hV1]
          refine hK.out _ _ ⟨AN, XN⟩ (fun hHeld2 => ?_)
          clear hK K hHeld hV1 rb0 rb1 frb0 frb1
          have hHeld := hHeld2
          clear hHeld2
          try simp only [Act.put, List.setIfInBounds_toArray, List.set_cons_zero, List.set_cons_succ]
          have t0 := SN.at 0 rfl
          have s0 := SN.fz 0 rfl
          have t1 := SN.at 1 rfl
          have s1 := SN.fz 1 rfl
          have t2 := SN.at 2 rfl
          have s2 := SN.fz 2 rfl
          obtain ⟨V2, hV2⟩ : ∃ v, (((V1.setCell ⟨W.heap.size + 1, 0, none⟩ (.int .i64 o0)).setCell ⟨W.heap.size + 1, 1, none⟩ (.int .i64 o1)).setCell ⟨W.heap.size + 1, 2, none⟩ (.int .i64 o2)) = v := ⟨_, rfl⟩
          have RF : Hid (Blk W.heap.size [.int .i64 q, .slice (some ⟨b, off, none⟩) xs.length c] V2) := by show Blk _ _ _; rw [← hV2]; exact ((RN.far (by omega) 0 _).far (by omega) 1 _).far (by omega) 2 _
          have SF : Hid (Blk (W.heap.size + 1) [.int .i64 o0, .int .i64 o1, .int .i64 o2] V2) := by show Blk _ _ _; rw [← hV2]; exact ((SN.set 0 _).set 1 _).set 2 _
          have AF : Blk pa [.int .i64 o0, .int .i64 o1, .int .i64 o2] V2 := by rw [← hV2]; exact ((AN.far (by omega) 0 _).far (by omega) 1 _).far (by omega) 2 _
          have XF : Blk px [.int .i64 q, .slice (some ⟨b, off, none⟩) xs.length c] V2 := by rw [← hV2]; exact ((XN.far (by omega) 0 _).far (by omega) 1 _).far (by omega) 2 _
          have OF : Hid (Own3 (pa + 1) (some ⟨b, off, none⟩) c xs V2) := by show Own3 _ _ _ _ _; rw [← hV2]; exact Own3.below (Own3.below (Own3.below ON (by omega) 0 _) (by omega) 1 _) (by omega) 2 _
          have BF : Hid (Below W.heap.size W V2) := by show Below _ _ _; rw [← hV2]; exact ((BN.setCell (p := ⟨W.heap.size + 1, 0, none⟩) (by show W.heap.size ≤ W.heap.size + 1; omega) _).setCell (p := ⟨W.heap.size + 1, 1, none⟩) (by show W.heap.size ≤ W.heap.size + 1; omega) _).setCell (p := ⟨W.heap.size + 1, 2, none⟩) (by show W.heap.size ≤ W.heap.size + 1; omega) _
          clear RN SN AN XN ON BN
          refine wpAnyH_ready (rs := [5]) (by kernel_rfl) (by simp) ?_
          refine AllReadyH.cons (i := 5) rfl (fun K hK => ?_) AllReadyH.nil
          go_simp
          try rw [hV2]
          refine hK.out _ _ ⟨AF, XF⟩ (fun hHeld2 => ?_)
          clear hK K hHeld hV2 t0 t1 t2 s0 s1 s2 AF XF
          have hHeld := hHeld2
          clear hHeld2
          try simp only [Act.put, List.setIfInBounds_toArray, List.set_cons_zero, List.set_cons_succ]
          refine take_one 6 4 (v := ?_) rfl rfl (by kernel_rfl) (by kernel_rfl) (by kernel_rfl) (fun _ _ _ h => h) (Or.inl ⟨by rfl, ?_⟩) hHeld ?_
          rotate_left
          · intro w' hSw; (try dsimp only at hSw); have z0 := hSw.1.at 0 rfl; have z1 := hSw.1.at 1 rfl; have z2 := hSw.1.at 2 rfl; have z3 := hSw.2.at 0 rfl; have z4 := hSw.2.at 1 rfl; go_simp; try with_reducible rfl
          try simp only [Act.put, List.setIfInBounds_toArray, List.set_cons_zero, List.set_cons_succ]
          refine take_one 7 5 (v := ?_) rfl rfl (by kernel_rfl) (by kernel_rfl) (by kernel_rfl) (fun _ _ _ h => h) (Or.inl ⟨by rfl, ?_⟩) hHeld ?_
          rotate_left
          · intro w' hSw; (try dsimp only at hSw); have z0 := hSw.1.at 0 rfl; have z1 := hSw.1.at 1 rfl; have z2 := hSw.1.at 2 rfl; have z3 := hSw.2.at 0 rfl; have z4 := hSw.2.at 1 rfl; go_simp; try with_reducible rfl
          try simp only [Act.put, List.setIfInBounds_toArray, List.set_cons_zero, List.set_cons_succ]
          refine wpAnyH_done (by kernel_rfl) ?_ _
          clear hHeld
          go_wp2
          exact bodyPost_ret (res_d rfl _ _ W.heap.size (W.heap.size + 1) _ _ _ _ _ _ _ rfl rfl rfl rfl (RF.out.at 0 rfl) (RF.out.at 1 rfl) (SF.out.at 0 rfl) (SF.out.at 1 rfl) (SF.out.at 2 rfl)) rfl ⟨q, some ⟨b, off, none⟩, c, xs, _, _, _, _, _, rfl, OF.out.row, hxl, OF.out.cap, BF.out⟩
end Go.Proofs.Ytmiceknaipimiaa
