/- Chapter 16: what the laws draw of a code. -/
import Derived.Test.YtaeecaebjafnpaaTd0
import Derived.Test.YtaeecaebjafnpaaTm5
set_option linter.unusedVariables false
set_option maxRecDepth 100000
namespace Go.Proofs.Ytaeecaebjafnpaa
open Go Go.RowKit Own Var Term Draw

theorem res_BB {P : Program} {fn : Func} {p x : Tmp} {ty : TypeId} (hres : fn.results = #[.cell p ty, .cell x ty]) (tmps : Array Value) (w : World) (g h : Nat) (vs us : List Value) (ie : TypeInfo) (hie : P.info? ty = some ie) (hagg : ∀ w, (isAgg ty).run P w = .ok true w) (hg : Blk g vs w) (hh : Blk h us w) (hs : vs.length = ie.size) (hu : us.length = ie.size) (hx : tmps.getD x undef = .pointer (some ⟨h, 0, none⟩)) (hp : tmps.getD p undef = .pointer (some ⟨g, 0, none⟩)) :
    (results fn tmps).run P w = .ok (.tuple #[.agg vs.toArray, .agg us.toArray]) w := by
  have hp' : tmps[p]?.getD undef = .pointer (some ⟨g, 0, none⟩) := by simpa using hp
  have hx' : tmps[x]?.getD undef = .pointer (some ⟨h, 0, none⟩) := by simpa using hx
  have hl := ldB (P := P) ty ie hie hagg (o := 0) vs hg hs (by simp)
  have hk := ldB (P := P) ty ie hie hagg (o := 0) us hh hu (by simp)
  simp [results, hres, hp', hx', asAddr, hl, hk]
theorem res_B3 {P : Program} {fn : Func} {p x y : Tmp} {ty : TypeId} (hres : fn.results = #[.cell p ty, .tmp x, .tmp y]) (tmps : Array Value) (w : World) (g : Nat) (vs : List Value) (u0 u1 : Value) (ie : TypeInfo) (hie : P.info? ty = some ie) (hagg : ∀ w, (isAgg ty).run P w = .ok true w) (h : Blk g vs w) (hs : vs.length = ie.size) (hx : tmps.getD x undef = u0) (hy : tmps.getD y undef = u1) (hp : tmps.getD p undef = .pointer (some ⟨g, 0, none⟩)) :
    (results fn tmps).run P w = .ok (.tuple #[.agg vs.toArray, u0, u1]) w := by
  have hp' : tmps[p]?.getD undef = .pointer (some ⟨g, 0, none⟩) := by simpa using hp
  have hx' : tmps[x]?.getD undef = u0 := by simpa using hx
  have hy' : tmps[y]?.getD undef = u1 := by simpa using hy
  have hl := ldB (P := P) ty ie hie hagg (o := 0) vs h hs (by simp)
  simp [results, hres, hp', hx', hy', asAddr, hl]
theorem listT_size (xs : List ByteArray) : (listT xs).size ≤ 900 := by
  unfold listT
  split
  · cases h : isT (hdT 108 xs.length ++ cat xs) with
    | false => rw [okOr_no h]; show 0 ≤ 900; omega
    | true => rw [okOr_yes h]; exact ((isT_iff _).1 h).1
  · show 0 ≤ 900; omega
theorem tmT_size (a b c d : Int) : (tmT a b c d).size ≤ 900 := by
  unfold tmT
  split
  · exact listT_size _
  · decide
set_option maxHeartbeats 12800000 in
theorem drawRn (ad : Option Addr) (len cap : Nat) (zs : List Int) (W : World) (hz : CodeAt W W.heap.size ad len zs) : Calls Try.prog 12 #[.slice ad len cap] W fun en w' => ∃ a b c d x y : Int, en = .returned (.tuple #[tv a b c d, .int .i64 x, .int .i64 y]) ∧ Below W.heap.size W w' := by
  obtain ⟨ie, hie, hsz⟩ := info_times
  obtain ⟨W1, hW1⟩ : ∃ W1, (W.alloc (.cells #[.int .i64 0, .int .i64 0, .int .i64 0, .int .i64 0] 25)) = W1 := ⟨_, rfl⟩
  have RB : Blk W.heap.size [.int .i64 0, .int .i64 0, .int .i64 0, .int .i64 0] W1 := by rw [← hW1]; exact Blk.new _ _ _
  have B1 : Below W.heap.size W W1 := by rw [← hW1]; exact (Below.refl _ _).alloc (Nat.le_refl _) _
  have HWp : Hid (W.heap.size ≤ W1.heap.size) := B1.size
  have HC : Hid (CodeAt W1 W1.heap.size ad len zs) := (hz.below B1).lt B1.size
  clear hz
  go_enter Try.func12, Try.ntmps12
  go_wp2_with fail
  try rw [hW1]
  refine (newW ad len cap zs W1 HC.out).mono ?_
  clear hW1
  rintro en w1 ⟨rfl, CC, hb⟩
  have hpw := CC.lt
  have lRB := RB.lt
  replace RB := RB.later hb RB.lt
  replace B1 := B1.trans (hb.mono B1.size)
  clear hb HC
  have hWp := HWp.out
  clear HWp
  generalize W1.heap.size = p at *
  have HX := timesW CC.here
  go_wp2_with fail
  refine HX.mono ?_
  rintro en w2 ⟨a, b, c, d, rfl, C⟩
  replace RB := RB.only C.2 RB.lt (by omega)
  replace CC := CC.next C
  clear C HX
  obtain ⟨q, hq⟩ : ∃ q_, w2.heap.size = q_ := ⟨_, rfl⟩
  obtain ⟨V3, hV3⟩ : ∃ v, w2.alloc (.cells #[.int .i64 a, .int .i64 b, .int .i64 c, .int .i64 d] 25) = v := ⟨_, rfl⟩
  have qp : p < q := by have h_ := CC.lt; omega
  have qW : w1.heap.size ≤ q := by have h_ := CC.size; omega
  have RBq : W.heap.size < q := by have h_ := RB.lt; omega
  have QB : Blk q [.int .i64 a, .int .i64 b, .int .i64 c, .int .i64 d] V3 := by rw [← hV3, ← hq]; exact Blk.new _ _ _
  replace RB : Blk W.heap.size [.int .i64 0, .int .i64 0, .int .i64 0, .int .i64 0] V3 := by rw [← hV3]; exact RB.alloc RB.lt _
  replace CC := CC.alloc (.cells #[.int .i64 a, .int .i64 b, .int .i64 c, .int .i64 d] 25)
  rw [hV3] at CC
  have HV3 : Hid (w2.alloc (.cells #[.int .i64 a, .int .i64 b, .int .i64 c, .int .i64 d] 25) = V3) := hV3
  have Hq : Hid (w2.heap.size = q) := hq
  clear hV3 hq
  go_wp2_with fail
  try rw [HV3.out]
  try rw [Hq.out]
  clear HV3 Hq
  replace RB := RB.drew
  replace QB := QB.drew
  replace CC := CC.drew
  refine wp_region_held_drew (S := (fun Vw => Blk q [.int .i64 a, .int .i64 b, .int .i64 c, .int .i64 d] Vw)) (by kernel_rfl) QB (fun hHeld => ?_)
  generalize World.drew V3 = wd at *
  refine take_one 0 11 (v := ?_) rfl rfl (by kernel_rfl) (by kernel_rfl) (by kernel_rfl) (fun _ _ _ h => h) (Or.inl ⟨by rfl, ?_⟩) hHeld ?_
  rotate_left
  · intro w' hSw; (try dsimp only at hSw); have d0 := hSw.at 0 rfl; have d1 := hSw.at 1 rfl; have d2 := hSw.at 2 rfl; have d3 := hSw.at 3 rfl; go_simp; try with_reducible rfl
  try simp only [Act.put, List.setIfInBounds_toArray, List.set_cons_zero, List.set_cons_succ]
  refine take_one 1 12 (v := ?_) rfl rfl (by kernel_rfl) (by kernel_rfl) (by kernel_rfl) (fun _ _ _ h => h) (Or.inl ⟨by rfl, ?_⟩) hHeld ?_
  rotate_left
  · intro w' hSw; (try dsimp only at hSw); have d0 := hSw.at 0 rfl; have d1 := hSw.at 1 rfl; have d2 := hSw.at 2 rfl; have d3 := hSw.at 3 rfl; go_simp; try with_reducible rfl
  try simp only [Act.put, List.setIfInBounds_toArray, List.set_cons_zero, List.set_cons_succ]
  refine take_one 4 15 (v := ?_) rfl rfl (by kernel_rfl) (by kernel_rfl) (by kernel_rfl) (fun _ _ _ h => h) (Or.inl ⟨by rfl, ?_⟩) hHeld ?_
  rotate_left
  · intro w' hSw; (try dsimp only at hSw); have d0 := hSw.at 0 rfl; have d1 := hSw.at 1 rfl; have d2 := hSw.at 2 rfl; have d3 := hSw.at 3 rfl; go_simp; try with_reducible rfl
  try simp only [Act.put, List.setIfInBounds_toArray, List.set_cons_zero, List.set_cons_succ]
  have HB := belowW 70 CC.here (by omega) (by omega)
  refine wpAnyH_ready (rs := [2, 5]) (by kernel_rfl) (by simp) ?_
  refine AllReadyH.cons (i := 2) rfl (fun K hK => ?_) (AllReadyH.cons (i := 5) rfl (fun K hK => ?_) AllReadyH.nil)
  · skip
    go_simp
    refine HB.mono ?_
    rintro en wx ⟨x, rfl, xa, xb, C⟩
    replace RB := RB.only C.2 RB.lt (by omega)
    replace QB := QB.only C.2 QB.lt (by omega)
    replace CC := CC.next C
    clear C HB
    go_wp2_with fail
    refine hK.out _ _ QB (fun hHeld2 => ?_)
    clear hK K hHeld
    have hHeld := hHeld2
    clear hHeld2
    try simp only [Act.put, List.setIfInBounds_toArray, List.set_cons_zero, List.set_cons_succ]
    refine take_one 3 14 (v := (.int .i64 (x - 2))) rfl rfl (by kernel_rfl) (by kernel_rfl) (by kernel_rfl) (fun _ _ _ h => h) (Or.inl ⟨by rfl, ?_⟩) hHeld ?_
    · intro w' hSw; (try dsimp only at hSw); go_simp; rw [IntKind.wrap_i64]; omega
    try simp only [Act.put, List.setIfInBounds_toArray, List.set_cons_zero, List.set_cons_succ]
    refine wpAnyH_ready (rs := [5]) (by kernel_rfl) (by simp) ?_
    refine AllReadyH.cons (i := 5) rfl (fun K hK => ?_) AllReadyH.nil
    go_simp
    obtain ⟨qL, hqL⟩ : ∃ q_, wx.heap.size = q_ := ⟨_, rfl⟩
    obtain ⟨VL, hVL⟩ : ∃ v, wx.alloc (.cells #[.int .i64 1, .int .i64 5, .int .i64 20, .int .i64 200, .int .i64 0, .int .i64 (-1), .int .i64 9223372036854775807] 3) = v := ⟨_, rfl⟩
    have qLp : p < qL := by have h_ := CC.lt; omega
    have qLW : w1.heap.size ≤ qL := by have h_ := CC.size; omega
    have RBqL : W.heap.size < qL := by have h_ := RB.lt; omega
    have QBqL : q < qL := by have h_ := QB.lt; omega
    have LB : Blk qL [.int .i64 1, .int .i64 5, .int .i64 20, .int .i64 200, .int .i64 0, .int .i64 (-1), .int .i64 9223372036854775807] VL := by rw [← hVL, ← hqL]; exact Blk.new _ _ _
    replace RB : Blk W.heap.size [.int .i64 0, .int .i64 0, .int .i64 0, .int .i64 0] VL := by rw [← hVL]; exact RB.alloc RB.lt _
    replace QB : Blk q [.int .i64 a, .int .i64 b, .int .i64 c, .int .i64 d] VL := by rw [← hVL]; exact QB.alloc QB.lt _
    replace CC := CC.alloc (.cells #[.int .i64 1, .int .i64 5, .int .i64 20, .int .i64 200, .int .i64 0, .int .i64 (-1), .int .i64 9223372036854775807] 3)
    rw [hVL] at CC
    rw [hVL, hqL]
    clear hVL
    refine hK.out _ _ QB (fun hHeld2 => ?_)
    clear hK K hHeld
    have hHeld := hHeld2
    clear hHeld2
    try simp only [Act.put, List.setIfInBounds_toArray, List.set_cons_zero, List.set_cons_succ]
    refine wpAnyH_ready (rs := [6]) (by kernel_rfl) (by simp) ?_
    refine AllReadyH.cons (i := 6) rfl (fun K hK => ?_) AllReadyH.nil
    have HB := pickI qL 7 [1, 5, 20, 200, 0, -1, 9223372036854775807] CC.here (by omega) (by omega) qLp LB.lt (by decide) LB (by decide)
    go_simp
    refine HB.mono ?_
    rintro en wy ⟨y, rfl, yi, C⟩
    replace RB := RB.only C.2 RB.lt (by omega)
    replace QB := QB.only C.2 QB.lt (by omega)
    replace LB := LB.only C.2 LB.lt (by omega)
    replace CC := CC.next C
    clear C HB
    go_wp2_with fail
    refine hK.out _ _ QB (fun hHeld2 => ?_)
    clear hK K hHeld
    have hHeld := hHeld2
    clear hHeld2
    try simp only [Act.put, List.setIfInBounds_toArray, List.set_cons_zero, List.set_cons_succ]
    have BB := B1.trans (CC.2.below (B := W.heap.size) (by omega) hpw)
    clear CC
    have RB_ : Blk W.heap.size [.int .i64 a, .int .i64 b, .int .i64 c, .int .i64 d] ((wy).setCells W.heap.size 0 [.int .i64 a, .int .i64 b, .int .i64 c, .int .i64 d]) := RB.part 0 [.int .i64 a, .int .i64 b, .int .i64 c, .int .i64 d] _ (by simp) rfl
    have QB_ := Blk.farS (q := W.heap.size) (by omega) [.int .i64 a, .int .i64 b, .int .i64 c, .int .i64 d] 0 _ QB
    have LB_ := Blk.farS (q := W.heap.size) (by omega) [.int .i64 a, .int .i64 b, .int .i64 c, .int .i64 d] 0 _ LB
    have BB_ := below_sets (m := W.heap.size) (g := W.heap.size) (by omega) [.int .i64 a, .int .i64 b, .int .i64 c, .int .i64 d] 0 _ BB
    refine wpAnyH_ready (rs := [7]) (by kernel_rfl) (by simp) ?_
    refine AllReadyH.cons (i := 7) rfl (fun K hK => ?_) AllReadyH.nil
    refine stepB 25 _ _ (W.heap.size) 0 [.int .i64 0, .int .i64 0, .int .i64 0, .int .i64 0] [.int .i64 a, .int .i64 b, .int .i64 c, .int .i64 d] ie hie RB (by rw [hsz]; rfl) (by simp) rfl rfl rfl rfl rfl ?_
    try simp only [Act.put, List.setIfInBounds_toArray]
    obtain ⟨Vl, hVl⟩ : ∃ Wz, (wy).setCells (W.heap.size) 0 [.int .i64 a, .int .i64 b, .int .i64 c, .int .i64 d] = Wz := ⟨_, rfl⟩
    rw [hVl] at RB_ QB_ LB_ BB_ ⊢
    clear hVl RB QB LB BB
    have RB := RB_
    have QB := QB_
    have LB := LB_
    have BB := BB_
    clear RB_ QB_ LB_ BB_
    refine hK.out _ _ QB (fun hHeld2 => ?_)
    clear hK K hHeld
    have hHeld := hHeld2
    clear hHeld2
    try simp only [Act.put, List.setIfInBounds_toArray, List.set_cons_zero, List.set_cons_succ]
    refine take_one 8 3 (v := ?_) rfl rfl (by kernel_rfl) (by kernel_rfl) (by kernel_rfl) (fun _ _ _ h => h) (Or.inl ⟨by rfl, ?_⟩) hHeld ?_
    rotate_left
    · intro w' hSw; (try dsimp only at hSw); go_simp; try with_reducible rfl
    try simp only [Act.put]
    refine take_one 9 4 (v := ?_) rfl rfl (by kernel_rfl) (by kernel_rfl) (by kernel_rfl) (fun _ _ _ h => h) (Or.inl ⟨by rfl, ?_⟩) hHeld ?_
    rotate_left
    · intro w' hSw; (try dsimp only at hSw); go_simp; try with_reducible rfl
    try simp only [Act.put]
    refine wpAnyH_done (by kernel_rfl) ?_ _
    go_wp2_with fail
    refine bodyPost_ret (res_B3 rfl _ _ W.heap.size _ _ _ ie hie ag25 RB (by rw [hsz]; rfl) rfl rfl rfl) rfl ?_
    first | exact ⟨a, b, c, d, _, _, rfl, BB⟩ | exact ⟨⟨a, b, c, d, _, _, rfl⟩, BB⟩
  · skip
    go_simp
    obtain ⟨qL, hqL⟩ : ∃ q_, wd.heap.size = q_ := ⟨_, rfl⟩
    obtain ⟨VL, hVL⟩ : ∃ v, wd.alloc (.cells #[.int .i64 1, .int .i64 5, .int .i64 20, .int .i64 200, .int .i64 0, .int .i64 (-1), .int .i64 9223372036854775807] 3) = v := ⟨_, rfl⟩
    have qLp : p < qL := by have h_ := CC.lt; omega
    have qLW : w1.heap.size ≤ qL := by have h_ := CC.size; omega
    have RBqL : W.heap.size < qL := by have h_ := RB.lt; omega
    have QBqL : q < qL := by have h_ := QB.lt; omega
    have LB : Blk qL [.int .i64 1, .int .i64 5, .int .i64 20, .int .i64 200, .int .i64 0, .int .i64 (-1), .int .i64 9223372036854775807] VL := by rw [← hVL, ← hqL]; exact Blk.new _ _ _
    replace RB : Blk W.heap.size [.int .i64 0, .int .i64 0, .int .i64 0, .int .i64 0] VL := by rw [← hVL]; exact RB.alloc RB.lt _
    replace QB : Blk q [.int .i64 a, .int .i64 b, .int .i64 c, .int .i64 d] VL := by rw [← hVL]; exact QB.alloc QB.lt _
    replace CC := CC.alloc (.cells #[.int .i64 1, .int .i64 5, .int .i64 20, .int .i64 200, .int .i64 0, .int .i64 (-1), .int .i64 9223372036854775807] 3)
    rw [hVL] at CC
    rw [hVL, hqL]
    clear hVL
    refine hK.out _ _ QB (fun hHeld2 => ?_)
    clear hK K hHeld
    have hHeld := hHeld2
    clear hHeld2
    try simp only [Act.put, List.setIfInBounds_toArray, List.set_cons_zero, List.set_cons_succ]
    have HB := belowW 70 CC.here (by omega) (by omega)
    refine wpAnyH_ready (rs := [2]) (by kernel_rfl) (by simp) ?_
    refine AllReadyH.cons (i := 2) rfl (fun K hK => ?_) AllReadyH.nil
    go_simp
    refine HB.mono ?_
    rintro en wx ⟨x, rfl, xa, xb, C⟩
    replace RB := RB.only C.2 RB.lt (by omega)
    replace QB := QB.only C.2 QB.lt (by omega)
    replace LB := LB.only C.2 LB.lt (by omega)
    replace CC := CC.next C
    clear C HB
    go_wp2_with fail
    refine hK.out _ _ QB (fun hHeld2 => ?_)
    clear hK K hHeld
    have hHeld := hHeld2
    clear hHeld2
    try simp only [Act.put, List.setIfInBounds_toArray, List.set_cons_zero, List.set_cons_succ]
    refine take_one 3 14 (v := (.int .i64 (x - 2))) rfl rfl (by kernel_rfl) (by kernel_rfl) (by kernel_rfl) (fun _ _ _ h => h) (Or.inl ⟨by rfl, ?_⟩) hHeld ?_
    · intro w' hSw; (try dsimp only at hSw); go_simp; rw [IntKind.wrap_i64]; omega
    try simp only [Act.put, List.setIfInBounds_toArray, List.set_cons_zero, List.set_cons_succ]
    refine wpAnyH_ready (rs := [6]) (by kernel_rfl) (by simp) ?_
    refine AllReadyH.cons (i := 6) rfl (fun K hK => ?_) AllReadyH.nil
    have HB := pickI qL 7 [1, 5, 20, 200, 0, -1, 9223372036854775807] CC.here (by omega) (by omega) qLp LB.lt (by decide) LB (by decide)
    go_simp
    refine HB.mono ?_
    rintro en wy ⟨y, rfl, yi, C⟩
    replace RB := RB.only C.2 RB.lt (by omega)
    replace QB := QB.only C.2 QB.lt (by omega)
    replace LB := LB.only C.2 LB.lt (by omega)
    replace CC := CC.next C
    clear C HB
    go_wp2_with fail
    refine hK.out _ _ QB (fun hHeld2 => ?_)
    clear hK K hHeld
    have hHeld := hHeld2
    clear hHeld2
    try simp only [Act.put, List.setIfInBounds_toArray, List.set_cons_zero, List.set_cons_succ]
    have BB := B1.trans (CC.2.below (B := W.heap.size) (by omega) hpw)
    clear CC
    have RB_ : Blk W.heap.size [.int .i64 a, .int .i64 b, .int .i64 c, .int .i64 d] ((wy).setCells W.heap.size 0 [.int .i64 a, .int .i64 b, .int .i64 c, .int .i64 d]) := RB.part 0 [.int .i64 a, .int .i64 b, .int .i64 c, .int .i64 d] _ (by simp) rfl
    have QB_ := Blk.farS (q := W.heap.size) (by omega) [.int .i64 a, .int .i64 b, .int .i64 c, .int .i64 d] 0 _ QB
    have LB_ := Blk.farS (q := W.heap.size) (by omega) [.int .i64 a, .int .i64 b, .int .i64 c, .int .i64 d] 0 _ LB
    have BB_ := below_sets (m := W.heap.size) (g := W.heap.size) (by omega) [.int .i64 a, .int .i64 b, .int .i64 c, .int .i64 d] 0 _ BB
    refine wpAnyH_ready (rs := [7]) (by kernel_rfl) (by simp) ?_
    refine AllReadyH.cons (i := 7) rfl (fun K hK => ?_) AllReadyH.nil
    refine stepB 25 _ _ (W.heap.size) 0 [.int .i64 0, .int .i64 0, .int .i64 0, .int .i64 0] [.int .i64 a, .int .i64 b, .int .i64 c, .int .i64 d] ie hie RB (by rw [hsz]; rfl) (by simp) rfl rfl rfl rfl rfl ?_
    try simp only [Act.put, List.setIfInBounds_toArray]
    obtain ⟨Vl, hVl⟩ : ∃ Wz, (wy).setCells (W.heap.size) 0 [.int .i64 a, .int .i64 b, .int .i64 c, .int .i64 d] = Wz := ⟨_, rfl⟩
    rw [hVl] at RB_ QB_ LB_ BB_ ⊢
    clear hVl RB QB LB BB
    have RB := RB_
    have QB := QB_
    have LB := LB_
    have BB := BB_
    clear RB_ QB_ LB_ BB_
    refine hK.out _ _ QB (fun hHeld2 => ?_)
    clear hK K hHeld
    have hHeld := hHeld2
    clear hHeld2
    try simp only [Act.put, List.setIfInBounds_toArray, List.set_cons_zero, List.set_cons_succ]
    refine take_one 8 3 (v := ?_) rfl rfl (by kernel_rfl) (by kernel_rfl) (by kernel_rfl) (fun _ _ _ h => h) (Or.inl ⟨by rfl, ?_⟩) hHeld ?_
    rotate_left
    · intro w' hSw; (try dsimp only at hSw); go_simp; try with_reducible rfl
    try simp only [Act.put]
    refine take_one 9 4 (v := ?_) rfl rfl (by kernel_rfl) (by kernel_rfl) (by kernel_rfl) (fun _ _ _ h => h) (Or.inl ⟨by rfl, ?_⟩) hHeld ?_
    rotate_left
    · intro w' hSw; (try dsimp only at hSw); go_simp; try with_reducible rfl
    try simp only [Act.put]
    refine wpAnyH_done (by kernel_rfl) ?_ _
    go_wp2_with fail
    refine bodyPost_ret (res_B3 rfl _ _ W.heap.size _ _ _ ie hie ag25 RB (by rw [hsz]; rfl) rfl rfl rfl) rfl ?_
    first | exact ⟨a, b, c, d, _, _, rfl, BB⟩ | exact ⟨⟨a, b, c, d, _, _, rfl⟩, BB⟩
set_option maxHeartbeats 12800000 in
theorem drawLv (ad : Option Addr) (len cap : Nat) (zs : List Int) (W : World) (hz : CodeAt W W.heap.size ad len zs) : Calls Try.prog 20 #[.slice ad len cap] W fun en w' => ∃ a b c d x y : Int, en = .returned (.tuple #[tv a b c d, .int .i64 x, .int .i64 y]) ∧ Below W.heap.size W w' := by
  obtain ⟨ie, hie, hsz⟩ := info_times
  obtain ⟨W1, hW1⟩ : ∃ W1, (W.alloc (.cells #[.int .i64 0, .int .i64 0, .int .i64 0, .int .i64 0] 25)) = W1 := ⟨_, rfl⟩
  have RB : Blk W.heap.size [.int .i64 0, .int .i64 0, .int .i64 0, .int .i64 0] W1 := by rw [← hW1]; exact Blk.new _ _ _
  have B1 : Below W.heap.size W W1 := by rw [← hW1]; exact (Below.refl _ _).alloc (Nat.le_refl _) _
  have HWp : Hid (W.heap.size ≤ W1.heap.size) := B1.size
  have HC : Hid (CodeAt W1 W1.heap.size ad len zs) := (hz.below B1).lt B1.size
  clear hz
  go_enter Try.func20, Try.ntmps20
  go_wp2_with fail
  try rw [hW1]
  refine (newW ad len cap zs W1 HC.out).mono ?_
  clear hW1
  rintro en w1 ⟨rfl, CC, hb⟩
  have hpw := CC.lt
  have lRB := RB.lt
  replace RB := RB.later hb RB.lt
  replace B1 := B1.trans (hb.mono B1.size)
  clear hb HC
  have hWp := HWp.out
  clear HWp
  generalize W1.heap.size = p at *
  have HX := timesW CC.here
  go_wp2_with fail
  refine HX.mono ?_
  rintro en w2 ⟨a, b, c, d, rfl, C⟩
  replace RB := RB.only C.2 RB.lt (by omega)
  replace CC := CC.next C
  clear C HX
  obtain ⟨q, hq⟩ : ∃ q_, w2.heap.size = q_ := ⟨_, rfl⟩
  obtain ⟨V3, hV3⟩ : ∃ v, w2.alloc (.cells #[.int .i64 a, .int .i64 b, .int .i64 c, .int .i64 d] 25) = v := ⟨_, rfl⟩
  have qp : p < q := by have h_ := CC.lt; omega
  have qW : w1.heap.size ≤ q := by have h_ := CC.size; omega
  have RBq : W.heap.size < q := by have h_ := RB.lt; omega
  have QB : Blk q [.int .i64 a, .int .i64 b, .int .i64 c, .int .i64 d] V3 := by rw [← hV3, ← hq]; exact Blk.new _ _ _
  replace RB : Blk W.heap.size [.int .i64 0, .int .i64 0, .int .i64 0, .int .i64 0] V3 := by rw [← hV3]; exact RB.alloc RB.lt _
  replace CC := CC.alloc (.cells #[.int .i64 a, .int .i64 b, .int .i64 c, .int .i64 d] 25)
  rw [hV3] at CC
  have HV3 : Hid (w2.alloc (.cells #[.int .i64 a, .int .i64 b, .int .i64 c, .int .i64 d] 25) = V3) := hV3
  have Hq : Hid (w2.heap.size = q) := hq
  clear hV3 hq
  go_wp2_with fail
  try rw [HV3.out]
  try rw [Hq.out]
  clear HV3 Hq
  replace RB := RB.drew
  replace QB := QB.drew
  replace CC := CC.drew
  refine wp_region_held_drew (S := (fun Vw => Blk q [.int .i64 a, .int .i64 b, .int .i64 c, .int .i64 d] Vw)) (by kernel_rfl) QB (fun hHeld => ?_)
  generalize World.drew V3 = wd at *
  refine take_one 0 11 (v := ?_) rfl rfl (by kernel_rfl) (by kernel_rfl) (by kernel_rfl) (fun _ _ _ h => h) (Or.inl ⟨by rfl, ?_⟩) hHeld ?_
  rotate_left
  · intro w' hSw; (try dsimp only at hSw); have d0 := hSw.at 0 rfl; have d1 := hSw.at 1 rfl; have d2 := hSw.at 2 rfl; have d3 := hSw.at 3 rfl; go_simp; try with_reducible rfl
  try simp only [Act.put, List.setIfInBounds_toArray, List.set_cons_zero, List.set_cons_succ]
  refine take_one 1 12 (v := ?_) rfl rfl (by kernel_rfl) (by kernel_rfl) (by kernel_rfl) (fun _ _ _ h => h) (Or.inl ⟨by rfl, ?_⟩) hHeld ?_
  rotate_left
  · intro w' hSw; (try dsimp only at hSw); have d0 := hSw.at 0 rfl; have d1 := hSw.at 1 rfl; have d2 := hSw.at 2 rfl; have d3 := hSw.at 3 rfl; go_simp; try with_reducible rfl
  try simp only [Act.put, List.setIfInBounds_toArray, List.set_cons_zero, List.set_cons_succ]
  refine take_one 4 15 (v := ?_) rfl rfl (by kernel_rfl) (by kernel_rfl) (by kernel_rfl) (fun _ _ _ h => h) (Or.inl ⟨by rfl, ?_⟩) hHeld ?_
  rotate_left
  · intro w' hSw; (try dsimp only at hSw); have d0 := hSw.at 0 rfl; have d1 := hSw.at 1 rfl; have d2 := hSw.at 2 rfl; have d3 := hSw.at 3 rfl; go_simp; try with_reducible rfl
  try simp only [Act.put, List.setIfInBounds_toArray, List.set_cons_zero, List.set_cons_succ]
  have HB := belowW 90 CC.here (by omega) (by omega)
  refine wpAnyH_ready (rs := [2, 5]) (by kernel_rfl) (by simp) ?_
  refine AllReadyH.cons (i := 2) rfl (fun K hK => ?_) (AllReadyH.cons (i := 5) rfl (fun K hK => ?_) AllReadyH.nil)
  · skip
    go_simp
    refine HB.mono ?_
    rintro en wx ⟨x, rfl, xa, xb, C⟩
    replace RB := RB.only C.2 RB.lt (by omega)
    replace QB := QB.only C.2 QB.lt (by omega)
    replace CC := CC.next C
    clear C HB
    go_wp2_with fail
    refine hK.out _ _ QB (fun hHeld2 => ?_)
    clear hK K hHeld
    have hHeld := hHeld2
    clear hHeld2
    try simp only [Act.put, List.setIfInBounds_toArray, List.set_cons_zero, List.set_cons_succ]
    refine take_one 3 14 (v := (.int .i64 (x - 5))) rfl rfl (by kernel_rfl) (by kernel_rfl) (by kernel_rfl) (fun _ _ _ h => h) (Or.inl ⟨by rfl, ?_⟩) hHeld ?_
    · intro w' hSw; (try dsimp only at hSw); go_simp; rw [IntKind.wrap_i64]; omega
    try simp only [Act.put, List.setIfInBounds_toArray, List.set_cons_zero, List.set_cons_succ]
    refine wpAnyH_ready (rs := [5]) (by kernel_rfl) (by simp) ?_
    refine AllReadyH.cons (i := 5) rfl (fun K hK => ?_) AllReadyH.nil
    go_simp
    obtain ⟨qL, hqL⟩ : ∃ q_, wx.heap.size = q_ := ⟨_, rfl⟩
    obtain ⟨VL, hVL⟩ : ∃ v, wx.alloc (.cells #[.int .i64 0, .int .i64 1, .int .i64 5, .int .i64 100, .int .i64 101, .int .i64 (-1)] 3) = v := ⟨_, rfl⟩
    have qLp : p < qL := by have h_ := CC.lt; omega
    have qLW : w1.heap.size ≤ qL := by have h_ := CC.size; omega
    have RBqL : W.heap.size < qL := by have h_ := RB.lt; omega
    have QBqL : q < qL := by have h_ := QB.lt; omega
    have LB : Blk qL [.int .i64 0, .int .i64 1, .int .i64 5, .int .i64 100, .int .i64 101, .int .i64 (-1)] VL := by rw [← hVL, ← hqL]; exact Blk.new _ _ _
    replace RB : Blk W.heap.size [.int .i64 0, .int .i64 0, .int .i64 0, .int .i64 0] VL := by rw [← hVL]; exact RB.alloc RB.lt _
    replace QB : Blk q [.int .i64 a, .int .i64 b, .int .i64 c, .int .i64 d] VL := by rw [← hVL]; exact QB.alloc QB.lt _
    replace CC := CC.alloc (.cells #[.int .i64 0, .int .i64 1, .int .i64 5, .int .i64 100, .int .i64 101, .int .i64 (-1)] 3)
    rw [hVL] at CC
    rw [hVL, hqL]
    clear hVL
    refine hK.out _ _ QB (fun hHeld2 => ?_)
    clear hK K hHeld
    have hHeld := hHeld2
    clear hHeld2
    try simp only [Act.put, List.setIfInBounds_toArray, List.set_cons_zero, List.set_cons_succ]
    refine wpAnyH_ready (rs := [6]) (by kernel_rfl) (by simp) ?_
    refine AllReadyH.cons (i := 6) rfl (fun K hK => ?_) AllReadyH.nil
    have HB := pickI qL 6 [0, 1, 5, 100, 101, -1] CC.here (by omega) (by omega) qLp LB.lt (by decide) LB (by decide)
    go_simp
    refine HB.mono ?_
    rintro en wy ⟨y, rfl, yi, C⟩
    replace RB := RB.only C.2 RB.lt (by omega)
    replace QB := QB.only C.2 QB.lt (by omega)
    replace LB := LB.only C.2 LB.lt (by omega)
    replace CC := CC.next C
    clear C HB
    go_wp2_with fail
    refine hK.out _ _ QB (fun hHeld2 => ?_)
    clear hK K hHeld
    have hHeld := hHeld2
    clear hHeld2
    try simp only [Act.put, List.setIfInBounds_toArray, List.set_cons_zero, List.set_cons_succ]
    have BB := B1.trans (CC.2.below (B := W.heap.size) (by omega) hpw)
    clear CC
    have RB_ : Blk W.heap.size [.int .i64 a, .int .i64 b, .int .i64 c, .int .i64 d] ((wy).setCells W.heap.size 0 [.int .i64 a, .int .i64 b, .int .i64 c, .int .i64 d]) := RB.part 0 [.int .i64 a, .int .i64 b, .int .i64 c, .int .i64 d] _ (by simp) rfl
    have QB_ := Blk.farS (q := W.heap.size) (by omega) [.int .i64 a, .int .i64 b, .int .i64 c, .int .i64 d] 0 _ QB
    have LB_ := Blk.farS (q := W.heap.size) (by omega) [.int .i64 a, .int .i64 b, .int .i64 c, .int .i64 d] 0 _ LB
    have BB_ := below_sets (m := W.heap.size) (g := W.heap.size) (by omega) [.int .i64 a, .int .i64 b, .int .i64 c, .int .i64 d] 0 _ BB
    refine wpAnyH_ready (rs := [7]) (by kernel_rfl) (by simp) ?_
    refine AllReadyH.cons (i := 7) rfl (fun K hK => ?_) AllReadyH.nil
    refine stepB 25 _ _ (W.heap.size) 0 [.int .i64 0, .int .i64 0, .int .i64 0, .int .i64 0] [.int .i64 a, .int .i64 b, .int .i64 c, .int .i64 d] ie hie RB (by rw [hsz]; rfl) (by simp) rfl rfl rfl rfl rfl ?_
    try simp only [Act.put, List.setIfInBounds_toArray]
    obtain ⟨Vl, hVl⟩ : ∃ Wz, (wy).setCells (W.heap.size) 0 [.int .i64 a, .int .i64 b, .int .i64 c, .int .i64 d] = Wz := ⟨_, rfl⟩
    rw [hVl] at RB_ QB_ LB_ BB_ ⊢
    clear hVl RB QB LB BB
    have RB := RB_
    have QB := QB_
    have LB := LB_
    have BB := BB_
    clear RB_ QB_ LB_ BB_
    refine hK.out _ _ QB (fun hHeld2 => ?_)
    clear hK K hHeld
    have hHeld := hHeld2
    clear hHeld2
    try simp only [Act.put, List.setIfInBounds_toArray, List.set_cons_zero, List.set_cons_succ]
    refine take_one 8 3 (v := ?_) rfl rfl (by kernel_rfl) (by kernel_rfl) (by kernel_rfl) (fun _ _ _ h => h) (Or.inl ⟨by rfl, ?_⟩) hHeld ?_
    rotate_left
    · intro w' hSw; (try dsimp only at hSw); go_simp; try with_reducible rfl
    try simp only [Act.put]
    refine take_one 9 4 (v := ?_) rfl rfl (by kernel_rfl) (by kernel_rfl) (by kernel_rfl) (fun _ _ _ h => h) (Or.inl ⟨by rfl, ?_⟩) hHeld ?_
    rotate_left
    · intro w' hSw; (try dsimp only at hSw); go_simp; try with_reducible rfl
    try simp only [Act.put]
    refine wpAnyH_done (by kernel_rfl) ?_ _
    go_wp2_with fail
    refine bodyPost_ret (res_B3 rfl _ _ W.heap.size _ _ _ ie hie ag25 RB (by rw [hsz]; rfl) rfl rfl rfl) rfl ?_
    first | exact ⟨a, b, c, d, _, _, rfl, BB⟩ | exact ⟨⟨a, b, c, d, _, _, rfl⟩, BB⟩
  · skip
    go_simp
    obtain ⟨qL, hqL⟩ : ∃ q_, wd.heap.size = q_ := ⟨_, rfl⟩
    obtain ⟨VL, hVL⟩ : ∃ v, wd.alloc (.cells #[.int .i64 0, .int .i64 1, .int .i64 5, .int .i64 100, .int .i64 101, .int .i64 (-1)] 3) = v := ⟨_, rfl⟩
    have qLp : p < qL := by have h_ := CC.lt; omega
    have qLW : w1.heap.size ≤ qL := by have h_ := CC.size; omega
    have RBqL : W.heap.size < qL := by have h_ := RB.lt; omega
    have QBqL : q < qL := by have h_ := QB.lt; omega
    have LB : Blk qL [.int .i64 0, .int .i64 1, .int .i64 5, .int .i64 100, .int .i64 101, .int .i64 (-1)] VL := by rw [← hVL, ← hqL]; exact Blk.new _ _ _
    replace RB : Blk W.heap.size [.int .i64 0, .int .i64 0, .int .i64 0, .int .i64 0] VL := by rw [← hVL]; exact RB.alloc RB.lt _
    replace QB : Blk q [.int .i64 a, .int .i64 b, .int .i64 c, .int .i64 d] VL := by rw [← hVL]; exact QB.alloc QB.lt _
    replace CC := CC.alloc (.cells #[.int .i64 0, .int .i64 1, .int .i64 5, .int .i64 100, .int .i64 101, .int .i64 (-1)] 3)
    rw [hVL] at CC
    rw [hVL, hqL]
    clear hVL
    refine hK.out _ _ QB (fun hHeld2 => ?_)
    clear hK K hHeld
    have hHeld := hHeld2
    clear hHeld2
    try simp only [Act.put, List.setIfInBounds_toArray, List.set_cons_zero, List.set_cons_succ]
    have HB := belowW 90 CC.here (by omega) (by omega)
    refine wpAnyH_ready (rs := [2]) (by kernel_rfl) (by simp) ?_
    refine AllReadyH.cons (i := 2) rfl (fun K hK => ?_) AllReadyH.nil
    go_simp
    refine HB.mono ?_
    rintro en wx ⟨x, rfl, xa, xb, C⟩
    replace RB := RB.only C.2 RB.lt (by omega)
    replace QB := QB.only C.2 QB.lt (by omega)
    replace LB := LB.only C.2 LB.lt (by omega)
    replace CC := CC.next C
    clear C HB
    go_wp2_with fail
    refine hK.out _ _ QB (fun hHeld2 => ?_)
    clear hK K hHeld
    have hHeld := hHeld2
    clear hHeld2
    try simp only [Act.put, List.setIfInBounds_toArray, List.set_cons_zero, List.set_cons_succ]
    refine take_one 3 14 (v := (.int .i64 (x - 5))) rfl rfl (by kernel_rfl) (by kernel_rfl) (by kernel_rfl) (fun _ _ _ h => h) (Or.inl ⟨by rfl, ?_⟩) hHeld ?_
    · intro w' hSw; (try dsimp only at hSw); go_simp; rw [IntKind.wrap_i64]; omega
    try simp only [Act.put, List.setIfInBounds_toArray, List.set_cons_zero, List.set_cons_succ]
    refine wpAnyH_ready (rs := [6]) (by kernel_rfl) (by simp) ?_
    refine AllReadyH.cons (i := 6) rfl (fun K hK => ?_) AllReadyH.nil
    have HB := pickI qL 6 [0, 1, 5, 100, 101, -1] CC.here (by omega) (by omega) qLp LB.lt (by decide) LB (by decide)
    go_simp
    refine HB.mono ?_
    rintro en wy ⟨y, rfl, yi, C⟩
    replace RB := RB.only C.2 RB.lt (by omega)
    replace QB := QB.only C.2 QB.lt (by omega)
    replace LB := LB.only C.2 LB.lt (by omega)
    replace CC := CC.next C
    clear C HB
    go_wp2_with fail
    refine hK.out _ _ QB (fun hHeld2 => ?_)
    clear hK K hHeld
    have hHeld := hHeld2
    clear hHeld2
    try simp only [Act.put, List.setIfInBounds_toArray, List.set_cons_zero, List.set_cons_succ]
    have BB := B1.trans (CC.2.below (B := W.heap.size) (by omega) hpw)
    clear CC
    have RB_ : Blk W.heap.size [.int .i64 a, .int .i64 b, .int .i64 c, .int .i64 d] ((wy).setCells W.heap.size 0 [.int .i64 a, .int .i64 b, .int .i64 c, .int .i64 d]) := RB.part 0 [.int .i64 a, .int .i64 b, .int .i64 c, .int .i64 d] _ (by simp) rfl
    have QB_ := Blk.farS (q := W.heap.size) (by omega) [.int .i64 a, .int .i64 b, .int .i64 c, .int .i64 d] 0 _ QB
    have LB_ := Blk.farS (q := W.heap.size) (by omega) [.int .i64 a, .int .i64 b, .int .i64 c, .int .i64 d] 0 _ LB
    have BB_ := below_sets (m := W.heap.size) (g := W.heap.size) (by omega) [.int .i64 a, .int .i64 b, .int .i64 c, .int .i64 d] 0 _ BB
    refine wpAnyH_ready (rs := [7]) (by kernel_rfl) (by simp) ?_
    refine AllReadyH.cons (i := 7) rfl (fun K hK => ?_) AllReadyH.nil
    refine stepB 25 _ _ (W.heap.size) 0 [.int .i64 0, .int .i64 0, .int .i64 0, .int .i64 0] [.int .i64 a, .int .i64 b, .int .i64 c, .int .i64 d] ie hie RB (by rw [hsz]; rfl) (by simp) rfl rfl rfl rfl rfl ?_
    try simp only [Act.put, List.setIfInBounds_toArray]
    obtain ⟨Vl, hVl⟩ : ∃ Wz, (wy).setCells (W.heap.size) 0 [.int .i64 a, .int .i64 b, .int .i64 c, .int .i64 d] = Wz := ⟨_, rfl⟩
    rw [hVl] at RB_ QB_ LB_ BB_ ⊢
    clear hVl RB QB LB BB
    have RB := RB_
    have QB := QB_
    have LB := LB_
    have BB := BB_
    clear RB_ QB_ LB_ BB_
    refine hK.out _ _ QB (fun hHeld2 => ?_)
    clear hK K hHeld
    have hHeld := hHeld2
    clear hHeld2
    try simp only [Act.put, List.setIfInBounds_toArray, List.set_cons_zero, List.set_cons_succ]
    refine take_one 8 3 (v := ?_) rfl rfl (by kernel_rfl) (by kernel_rfl) (by kernel_rfl) (fun _ _ _ h => h) (Or.inl ⟨by rfl, ?_⟩) hHeld ?_
    rotate_left
    · intro w' hSw; (try dsimp only at hSw); go_simp; try with_reducible rfl
    try simp only [Act.put]
    refine take_one 9 4 (v := ?_) rfl rfl (by kernel_rfl) (by kernel_rfl) (by kernel_rfl) (fun _ _ _ h => h) (Or.inl ⟨by rfl, ?_⟩) hHeld ?_
    rotate_left
    · intro w' hSw; (try dsimp only at hSw); go_simp; try with_reducible rfl
    try simp only [Act.put]
    refine wpAnyH_done (by kernel_rfl) ?_ _
    go_wp2_with fail
    refine bodyPost_ret (res_B3 rfl _ _ W.heap.size _ _ _ ie hie ag25 RB (by rw [hsz]; rfl) rfl rfl rfl) rfl ?_
    first | exact ⟨a, b, c, d, _, _, rfl, BB⟩ | exact ⟨⟨a, b, c, d, _, _, rfl⟩, BB⟩
set_option maxHeartbeats 6400000 in
theorem drawIn (ad : Option Addr) (len cap : Nat) (zs : List Int) (W : World) (hz : CodeAt W W.heap.size ad len zs) : Calls Try.prog 16 #[.slice ad len cap] W fun en w' => ∃ a b c d x y z k : Int, en = .returned (.tuple #[tv a b c d, tv x y z k]) ∧ Below W.heap.size W w' := by
  obtain ⟨ie, hie, hsz⟩ := info_times
  obtain ⟨W1, hW1⟩ : ∃ W1, ((W.alloc (.cells #[.int .i64 0, .int .i64 0, .int .i64 0, .int .i64 0] 25)).alloc (.cells #[.int .i64 0, .int .i64 0, .int .i64 0, .int .i64 0] 25)) = W1 := ⟨_, rfl⟩
  have RB : Blk W.heap.size [.int .i64 0, .int .i64 0, .int .i64 0, .int .i64 0] W1 := by rw [← hW1]; exact (Blk.new _ _ _).alloc (by simp) _
  have SB : Blk (W.heap.size + 1) [.int .i64 0, .int .i64 0, .int .i64 0, .int .i64 0] W1 := by rw [← hW1]; have h := Blk.new (W.alloc (.cells #[.int .i64 0, .int .i64 0, .int .i64 0, .int .i64 0] 25)) #[.int .i64 0, .int .i64 0, .int .i64 0, .int .i64 0] 25; rw [World.size_alloc] at h; exact h
  have B1 : Below W.heap.size W W1 := by rw [← hW1]; exact ((Below.refl _ _).alloc (Nat.le_refl _) _).alloc (by simp) _
  have HWp : Hid (W.heap.size ≤ W1.heap.size) := B1.size
  have HC : Hid (CodeAt W1 W1.heap.size ad len zs) := (hz.below B1).lt B1.size
  clear hz
  go_enter Try.func16, Try.ntmps16
  go_wp2_with fail
  try rw [hW1]
  refine (newW ad len cap zs W1 HC.out).mono ?_
  clear hW1
  rintro en w1 ⟨rfl, CC, hb⟩
  have hpw := CC.lt
  have lRB := RB.lt
  replace RB := RB.later hb RB.lt
  have lSB := SB.lt
  replace SB := SB.later hb SB.lt
  replace B1 := B1.trans (hb.mono B1.size)
  clear hb HC
  have hWp := HWp.out
  clear HWp
  generalize W1.heap.size = p at *
  have HX := timesW CC.here
  go_wp2_with fail
  refine HX.mono ?_
  rintro en w2 ⟨a, b, c, d, rfl, C⟩
  replace RB := RB.only C.2 RB.lt (by omega)
  replace SB := SB.only C.2 SB.lt (by omega)
  replace CC := CC.next C
  clear C HX
  obtain ⟨q, hq⟩ : ∃ q_, w2.heap.size = q_ := ⟨_, rfl⟩
  obtain ⟨V3, hV3⟩ : ∃ v, w2.alloc (.cells #[.int .i64 a, .int .i64 b, .int .i64 c, .int .i64 d] 25) = v := ⟨_, rfl⟩
  have qp : p < q := by have h_ := CC.lt; omega
  have qW : w1.heap.size ≤ q := by have h_ := CC.size; omega
  have RBq : W.heap.size < q := by have h_ := RB.lt; omega
  have SBq : (W.heap.size + 1) < q := by have h_ := SB.lt; omega
  have QB : Blk q [.int .i64 a, .int .i64 b, .int .i64 c, .int .i64 d] V3 := by rw [← hV3, ← hq]; exact Blk.new _ _ _
  replace RB : Blk W.heap.size [.int .i64 0, .int .i64 0, .int .i64 0, .int .i64 0] V3 := by rw [← hV3]; exact RB.alloc RB.lt _
  replace SB : Blk (W.heap.size + 1) [.int .i64 0, .int .i64 0, .int .i64 0, .int .i64 0] V3 := by rw [← hV3]; exact SB.alloc SB.lt _
  replace CC := CC.alloc (.cells #[.int .i64 a, .int .i64 b, .int .i64 c, .int .i64 d] 25)
  rw [hV3] at CC
  have HV3 : Hid (w2.alloc (.cells #[.int .i64 a, .int .i64 b, .int .i64 c, .int .i64 d] 25) = V3) := hV3
  have Hq : Hid (w2.heap.size = q) := hq
  clear hV3 hq
  go_wp2_with fail
  try rw [HV3.out]
  try rw [Hq.out]
  clear HV3 Hq
  replace RB := RB.drew
  replace SB := SB.drew
  replace QB := QB.drew
  replace CC := CC.drew
  refine wp_region_held_drew (S := (fun Vw => Blk q [.int .i64 a, .int .i64 b, .int .i64 c, .int .i64 d] Vw)) (by kernel_rfl) QB (fun hHeld => ?_)
  generalize World.drew V3 = wd at *
  refine take_one 0 10 (v := ?_) rfl rfl (by kernel_rfl) (by kernel_rfl) (by kernel_rfl) (fun _ _ _ h => h) (Or.inl ⟨by rfl, ?_⟩) hHeld ?_
  rotate_left
  · intro w' hSw; (try dsimp only at hSw); have d0 := hSw.at 0 rfl; have d1 := hSw.at 1 rfl; have d2 := hSw.at 2 rfl; have d3 := hSw.at 3 rfl; go_simp; try with_reducible rfl
  try simp only [Act.put, List.setIfInBounds_toArray, List.set_cons_zero, List.set_cons_succ]
  refine take_one 1 11 (v := ?_) rfl rfl (by kernel_rfl) (by kernel_rfl) (by kernel_rfl) (fun _ _ _ h => h) (Or.inl ⟨by rfl, ?_⟩) hHeld ?_
  rotate_left
  · intro w' hSw; (try dsimp only at hSw); have d0 := hSw.at 0 rfl; have d1 := hSw.at 1 rfl; have d2 := hSw.at 2 rfl; have d3 := hSw.at 3 rfl; go_simp; try with_reducible rfl
  try simp only [Act.put, List.setIfInBounds_toArray, List.set_cons_zero, List.set_cons_succ]
  have HX := timesW CC.here
  refine wpAnyH_ready (rs := [2]) (by kernel_rfl) (by simp) ?_
  refine AllReadyH.cons (i := 2) rfl (fun K hK => ?_) AllReadyH.nil
  go_simp
  refine HX.mono ?_
  rintro en wx ⟨x, y, z, k, rfl, C⟩
  replace RB := RB.only C.2 RB.lt (by omega)
  replace SB := SB.only C.2 SB.lt (by omega)
  replace QB := QB.only C.2 QB.lt (by omega)
  replace CC := CC.next C
  clear C HX
  go_wp2_with fail
  refine hK.out _ _ QB (fun hHeld2 => ?_)
  clear hK K hHeld
  have hHeld := hHeld2
  clear hHeld2
  try simp only [Act.put, List.setIfInBounds_toArray, List.set_cons_zero, List.set_cons_succ]
  have BB := B1.trans (CC.2.below (B := W.heap.size) (by omega) hpw)
  clear CC
  have RB_ : Blk W.heap.size [.int .i64 a, .int .i64 b, .int .i64 c, .int .i64 d] ((wx).setCells W.heap.size 0 [.int .i64 a, .int .i64 b, .int .i64 c, .int .i64 d]) := RB.part 0 [.int .i64 a, .int .i64 b, .int .i64 c, .int .i64 d] _ (by simp) rfl
  have SB_ := Blk.farS (q := W.heap.size) (by omega) [.int .i64 a, .int .i64 b, .int .i64 c, .int .i64 d] 0 _ SB
  have QB_ := Blk.farS (q := W.heap.size) (by omega) [.int .i64 a, .int .i64 b, .int .i64 c, .int .i64 d] 0 _ QB
  have BB_ := below_sets (m := W.heap.size) (g := W.heap.size) (by omega) [.int .i64 a, .int .i64 b, .int .i64 c, .int .i64 d] 0 _ BB
  refine wpAnyH_ready (rs := [3]) (by kernel_rfl) (by simp) ?_
  refine AllReadyH.cons (i := 3) rfl (fun K hK => ?_) AllReadyH.nil
  refine stepB 25 _ _ (W.heap.size) 0 [.int .i64 0, .int .i64 0, .int .i64 0, .int .i64 0] [.int .i64 a, .int .i64 b, .int .i64 c, .int .i64 d] ie hie RB (by rw [hsz]; rfl) (by simp) rfl rfl rfl rfl rfl ?_
  try simp only [Act.put, List.setIfInBounds_toArray]
  obtain ⟨Vl, hVl⟩ : ∃ Wz, (wx).setCells (W.heap.size) 0 [.int .i64 a, .int .i64 b, .int .i64 c, .int .i64 d] = Wz := ⟨_, rfl⟩
  rw [hVl] at RB_ SB_ QB_ BB_ ⊢
  clear hVl RB SB QB BB
  have RB := RB_
  have SB := SB_
  have QB := QB_
  have BB := BB_
  clear RB_ SB_ QB_ BB_
  refine hK.out _ _ QB (fun hHeld2 => ?_)
  clear hK K hHeld
  have hHeld := hHeld2
  clear hHeld2
  try simp only [Act.put, List.setIfInBounds_toArray, List.set_cons_zero, List.set_cons_succ]
  have SB_ : Blk (W.heap.size + 1) [.int .i64 x, .int .i64 y, .int .i64 z, .int .i64 k] ((Vl).setCells (W.heap.size + 1) 0 [.int .i64 x, .int .i64 y, .int .i64 z, .int .i64 k]) := SB.part 0 [.int .i64 x, .int .i64 y, .int .i64 z, .int .i64 k] _ (by simp) rfl
  have RB_ := Blk.farS (q := (W.heap.size + 1)) (by omega) [.int .i64 x, .int .i64 y, .int .i64 z, .int .i64 k] 0 _ RB
  have QB_ := Blk.farS (q := (W.heap.size + 1)) (by omega) [.int .i64 x, .int .i64 y, .int .i64 z, .int .i64 k] 0 _ QB
  have BB_ := below_sets (m := W.heap.size) (g := (W.heap.size + 1)) (by omega) [.int .i64 x, .int .i64 y, .int .i64 z, .int .i64 k] 0 _ BB
  refine wpAnyH_ready (rs := [4]) (by kernel_rfl) (by simp) ?_
  refine AllReadyH.cons (i := 4) rfl (fun K hK => ?_) AllReadyH.nil
  refine stepB 25 _ _ ((W.heap.size + 1)) 0 [.int .i64 0, .int .i64 0, .int .i64 0, .int .i64 0] [.int .i64 x, .int .i64 y, .int .i64 z, .int .i64 k] ie hie SB (by rw [hsz]; rfl) (by simp) rfl rfl rfl rfl rfl ?_
  try simp only [Act.put]
  obtain ⟨Vm, hVm⟩ : ∃ Wz, (Vl).setCells ((W.heap.size + 1)) 0 [.int .i64 x, .int .i64 y, .int .i64 z, .int .i64 k] = Wz := ⟨_, rfl⟩
  rw [hVm] at SB_ RB_ QB_ BB_ ⊢
  clear hVm SB RB QB BB
  have SB := SB_
  have RB := RB_
  have QB := QB_
  have BB := BB_
  clear SB_ RB_ QB_ BB_
  refine hK.out _ _ QB (fun hHeld2 => ?_)
  clear hK K hHeld
  have hHeld := hHeld2
  clear hHeld2
  try simp only [Act.put, List.setIfInBounds_toArray, List.set_cons_zero, List.set_cons_succ]
  refine wpAnyH_done (by kernel_rfl) ?_ _
  go_wp2_with fail
  refine bodyPost_ret (res_BB rfl _ _ W.heap.size (W.heap.size + 1) _ _ ie hie ag25 RB SB (by rw [hsz]; rfl) (by rw [hsz]; rfl) rfl rfl) rfl ?_
  first | exact ⟨a, b, c, d, x, y, z, k, rfl, BB⟩ | exact ⟨⟨a, b, c, d, x, y, z, k, rfl⟩, BB⟩
set_option maxHeartbeats 6400000 in
theorem drawSh (ad : Option Addr) (len cap : Nat) (zs : List Int) (W : World) (hz : CodeAt W W.heap.size ad len zs) : Calls Try.prog 23 #[.slice ad len cap] W fun en w' => ∃ a b c d : Int, en = .returned (tv a b c d) ∧ Below W.heap.size W w' := by
  obtain ⟨ie, hie, hsz⟩ := info_times
  obtain ⟨W1, hW1⟩ : ∃ W1, (W.alloc (.cells #[.int .i64 0, .int .i64 0, .int .i64 0, .int .i64 0] 25)) = W1 := ⟨_, rfl⟩
  have RB : Blk W.heap.size [.int .i64 0, .int .i64 0, .int .i64 0, .int .i64 0] W1 := by rw [← hW1]; exact Blk.new _ _ _
  have B1 : Below W.heap.size W W1 := by rw [← hW1]; exact (Below.refl _ _).alloc (Nat.le_refl _) _
  have HWp : Hid (W.heap.size ≤ W1.heap.size) := B1.size
  have HC : Hid (CodeAt W1 W1.heap.size ad len zs) := (hz.below B1).lt B1.size
  clear hz
  go_enter Try.func23, Try.ntmps23
  go_wp2_with fail
  try rw [hW1]
  refine (newW ad len cap zs W1 HC.out).mono ?_
  clear hW1
  rintro en w1 ⟨rfl, CC, hb⟩
  have hpw := CC.lt
  have lRB := RB.lt
  replace RB := RB.later hb RB.lt
  replace B1 := B1.trans (hb.mono B1.size)
  clear hb HC
  have hWp := HWp.out
  clear HWp
  generalize W1.heap.size = p at *
  have HX := timesW CC.here
  go_wp2_with fail
  refine HX.mono ?_
  rintro en w2 ⟨a, b, c, d, rfl, C⟩
  replace RB := RB.only C.2 RB.lt (by omega)
  replace CC := CC.next C
  clear C HX
  have BB := B1.trans (CC.2.below (B := W.heap.size) (by omega) hpw)
  have FU := RB.sets [.int .i64 a, .int .i64 b, .int .i64 c, .int .i64 d] rfl
  have FB := below_sets (m := W.heap.size) (g := W.heap.size) (by omega) [.int .i64 a, .int .i64 b, .int .i64 c, .int .i64 d] 0 _ BB
  go_wp2_with (refine wpList_stB 25 _ _ W.heap.size 0 [.int .i64 0, .int .i64 0, .int .i64 0, .int .i64 0] [.int .i64 a, .int .i64 b, .int .i64 c, .int .i64 d] ie hie RB (by rw [hsz]; rfl) (by simp) rfl rfl rfl rfl rfl ?_; try simp only [Act.put])
  exact bodyPost_ret (res_B1 rfl _ _ W.heap.size _ ie hie ag25 FU (by rw [hsz]; rfl) rfl) rfl ⟨a, b, c, d, rfl, FB⟩
set_option maxHeartbeats 6400000 in
theorem drawRd (ad : Option Addr) (len cap : Nat) (zs : List Int) (W : World) (hz : CodeAt W W.heap.size ad len zs) : Calls Try.prog 26 #[.slice ad len cap] W fun en w' => ∃ s : ByteArray, s.size ≤ 1000 ∧ en = .returned (.string s) ∧ Below W.heap.size W w' := by
  obtain ⟨ie, hie, hsz⟩ := info_times
  obtain ⟨W1, hW1⟩ : ∃ W1, W = W1 := ⟨_, rfl⟩
  have B1 : Below W.heap.size W W1 := by rw [← hW1]; exact Below.refl _ _
  have HWp : Hid (W.heap.size ≤ W1.heap.size) := B1.size
  have HC : Hid (CodeAt W1 W1.heap.size ad len zs) := (hz.below B1).lt B1.size
  clear hz
  go_enter Try.func26, Try.ntmps26
  go_wp2_with fail
  try rw [hW1]
  refine (newW ad len cap zs W1 HC.out).mono ?_
  clear hW1
  rintro en w1 ⟨rfl, CC, hb⟩
  have hpw := CC.lt
  replace B1 := B1.trans (hb.mono B1.size)
  clear hb HC
  have hWp := HWp.out
  clear HWp
  generalize W1.heap.size = p at *
  have HX := timesW CC.here
  go_wp2_with fail
  refine HX.mono ?_
  rintro en w2 ⟨a, b, c, d, rfl, C⟩
  replace CC := CC.next C
  clear C HX
  go_wp2_with fail
  refine (specShow_is a b c d _).mono ?_
  rintro en w3 ⟨rfl, hb⟩
  replace CC := CC.under hb
  clear hb
  have hT := tmT_size a b c d
  generalize tmT a b c d = T at *
  have HX := onceW 3 CC.here (by omega)
  go_wp2_with fail
  refine HX.mono ?_
  rintro en w4 ⟨bb, rfl, C⟩
  replace CC := CC.next C
  clear C HX
  cases bb with
  | true =>
    have HX := spoilW T CC.here (by omega)
    go_wp2_with fail
    refine HX.mono ?_
    rintro en w5 ⟨s, hs4, rfl, C⟩
    replace CC := CC.next C
    clear C HX
    have BB := B1.trans (CC.2.below (B := W.heap.size) (by omega) hpw)
    go_wp2
    go_ret
    first | exact ⟨s, hs4, rfl, BB⟩ | exact ⟨⟨s, hs4, rfl⟩, BB⟩
  | false =>
    have BB := B1.trans (CC.2.below (B := W.heap.size) (by omega) hpw)
    go_wp2
    go_ret
    first | exact ⟨T, by omega, rfl, BB⟩ | exact ⟨⟨T, by omega, rfl⟩, BB⟩
end Go.Proofs.Ytaeecaebjafnpaa
