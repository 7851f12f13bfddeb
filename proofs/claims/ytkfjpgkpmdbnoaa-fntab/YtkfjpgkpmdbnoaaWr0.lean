/- A row put among others: the program. -/
import Derived.Test.YtkfjpgkpmdbnoaaBs0
set_option linter.unusedVariables false
set_option maxRecDepth 100000
namespace Go.Proofs.Ytkfjpgkpmdbnoaa
open Go Go.RowKit Go.Joins Own Draw

/-- A row that begins where its block begins, or no row. -/
def RwG (a : Option Addr) (cap : Nat) (xs : List TS) (w : World) : Prop := (a = none ∧ cap = 0 ∧ xs = []) ∨ ∃ g, a = some ⟨g, 0, none⟩ ∧ xs.length ≤ cap ∧ FRow 3 cS w a xs
theorem rwG_own {B cap : Nat} {a : Option Addr} {xs : List TS} {w : World} (h : FOwn 31 3 cS B a cap xs w) : RwG a cap xs w := by
  have hr := FOwn.row lS h
  rcases h.2 with ⟨e, h0⟩ | ⟨g, c, cur, e, _, _, hn, _⟩
  · injection e with e1 e2 e3
    exact Or.inl ⟨e1, e3, List.eq_nil_of_length_eq_zero h0⟩
  · injection e with e1 _ e3
    exact Or.inr ⟨g, e1, by omega, hr⟩
theorem RwG.row {a : Option Addr} {cap : Nat} {xs : List TS} {w : World} (h : RwG a cap xs w) : FRow 3 cS w a xs := by
  rcases h with ⟨rfl, _, rfl⟩ | ⟨g, _, _, hr⟩
  · exact FRow.nil _ _ _ _
  · exact hr
theorem RwG.later {a : Option Addr} {cap : Nat} {xs : List TS} {w w' : World} (h : RwG a cap xs w) (hb : Below w.heap.size w w') : RwG a cap xs w' := by
  rcases h with h | ⟨g, e, hl, hr⟩
  · exact Or.inl h
  · exact Or.inr ⟨g, e, hl, hr.later hb⟩
theorem frow_drop {xs : List TS} {w : World} {g : Nat} (h : FRow 3 cS w (some ⟨g, 0, none⟩) xs) (k : Nat) : FRow 3 cS w (some ⟨g, k * 3, none⟩) (xs.drop k) := by
  intro j hj
  rw [List.length_drop] at hj
  obtain ⟨b, off, e, hb, hc⟩ := h (k + j) (by omega)
  injection e with e
  injection e with e1 e2
  subst e1 e2
  refine ⟨g, k * 3, rfl, hb, fun i v e => ?_⟩
  rw [List.getElem_drop] at e
  have := hc i v e
  rw [show k * 3 + j * 3 + i = 0 + (k + j) * 3 + i by omega]
  exact this
theorem add3 (g k : Nat) : (⟨g, 0, none⟩ : Addr).add k = ⟨g, k, none⟩ := by simp only [Addr.add]; split <;> simp_all
theorem news_S (w : World) (x0 x1 x2 : Int) : FRow 3 cS (w.alloc (.cells #[.int .i64 x0, .int .i64 x1, .int .i64 x2] 31)) (some ⟨w.heap.size, 0, none⟩) [(x0, x1, x2)] := by
  intro j hj
  have h0 : j = 0 := by simpa using hj
  subst h0
  refine ⟨w.heap.size, 0, rfl, by simp, fun i v e => ?_⟩
  have := (Blk.new w #[.int .i64 x0, .int .i64 x1, .int .i64 x2] 31).at i e
  simpa using this
/-- What is answered: a row of its own. -/
def WrP (B : Nat) (ys : List TS) (e : Ending) (w : World) : Prop := ∃ (a : Option Addr) (c : Nat), e = .returned (.slice a ys.length c) ∧ FOwn 31 3 cS B a c ys w
set_option maxHeartbeats 12800000 in
theorem with_is (a : Option Addr) (cap : Nat) (xs : List TS) (x : TS) (w : World) (hr : RwG a cap xs w) (hl : xs.length ≤ 1000000) (hs : xs.Pairwise leS) :
    Calls Try.prog 39 #[.slice a xs.length cap, vS x, .func (.func 41) #[] #[]] w fun e w' => WrP w.heap.size (puT xs x) e w' ∧ Below w.heap.size w w' := by
  have HE : Hid (puT xs x = xs.take (cnS xs x) ++ [x] ++ xs.drop (cnS xs x)) := pu_fl xs x
  generalize puT xs x = ys at HE ⊢
  have K := fun W (hR : FRow 3 cS W a xs) => search_is a cap xs x W hR (by omega) hs
  have hn := cn_le xs x
  generalize cnS xs x = n at HE K hn
  obtain ⟨x0, x1, x2⟩ := x
  dsimp only [vS] at K ⊢
  obtain ⟨V, hV⟩ : ∃ V, w.alloc (.cells #[.int .i64 x0, .int .i64 x1, .int .i64 x2] 31) = V := ⟨_, rfl⟩
  have TV : Blk w.heap.size [.int .i64 x0, .int .i64 x1, .int .i64 x2] V := by rw [← hV]; exact Blk.new _ _ _
  have BV : Below w.heap.size w V := by rw [← hV]; exact (Below.refl _ _).alloc (Nat.le_refl _) _
  replace K := K V (hr.later BV).row
  have d0 := TV.at 0 rfl
  have d1 := TV.at 1 rfl
  have d2 := TV.at 2 rfl
  go_enter Try.func39, Try.ntmps39
  go_wp2_with fail
  try rw [hV]
  refine K.mono ?_
  clear K hV d0 d1 d2
  rintro en W1 ⟨⟨bb, rfl⟩, hb⟩
  replace TV := TV.later hb TV.lt
  replace BV := BV.trans (hb.mono BV.size)
  clear hb
  replace hr := hr.later BV
  go_wp2_with fail
  have TD := TV.drew
  have BD := BV.drew
  replace hr : RwG a cap xs W1.drew := by
    rcases hr with h | ⟨g, e, h1, h2⟩
    · exact Or.inl h
    · exact Or.inr ⟨g, e, h1, h2.drew⟩
  clear TV BV
  rcases hr with ⟨rfl, rfl, rfl⟩ | ⟨g, rfl, hc, hr⟩
  · obtain rfl : n = 0 := by simpa using hn
    have hR0 : FRow 3 cS W1.drew none ([] : List TS) := FRow.nil _ _ _ _
    refine wp_region_held_drew (S := (fun Vw => Blk w.heap.size [.int .i64 x0, .int .i64 x1, .int .i64 x2] Vw)) (by kernel_rfl) TD (fun hHeld => ?_)
    generalize W1.drew = D at TD BD hHeld hR0 ⊢
    refine take_one 0 16 (v := ?_) rfl rfl (by kernel_rfl) (by kernel_rfl) (by kernel_rfl) (fun _ _ _ h => h) (Or.inl ⟨by rfl, ?_⟩) hHeld ?_
    rotate_left
    · intro w' hSw; (try dsimp only at hSw); have j0 := hSw.at 0 rfl; have j1 := hSw.at 1 rfl; have j2 := hSw.at 2 rfl; go_simp; try with_reducible rfl
    try simp only [Act.put, List.setIfInBounds_toArray, List.set_cons_zero, List.set_cons_succ]
    refine take_one 1 17 (v := ?_) rfl rfl (by kernel_rfl) (by kernel_rfl) (by kernel_rfl) (fun _ _ _ h => h) (Or.inl ⟨by rfl, ?_⟩) hHeld ?_
    rotate_left
    · intro w' hSw; (try dsimp only at hSw); have j0 := hSw.at 0 rfl; have j1 := hSw.at 1 rfl; have j2 := hSw.at 2 rfl; go_simp; try with_reducible rfl
    try simp only [Act.put, List.setIfInBounds_toArray, List.set_cons_zero, List.set_cons_succ]
    refine take_one 2 18 (v := .slice none 0 0) rfl rfl (by kernel_rfl) (by kernel_rfl) (by kernel_rfl) (fun _ _ _ h => h) (Or.inl ⟨by rfl, ?_⟩) hHeld ?_
    · intro w' hSw; (try dsimp only at hSw); go_simp; try rfl
    try simp only [Act.put, List.setIfInBounds_toArray, List.set_cons_zero, List.set_cons_succ]
    refine take_one 3 19 (v := ?_) rfl rfl (by kernel_rfl) (by kernel_rfl) (by kernel_rfl) (fun _ _ _ h => h) (Or.inl ⟨by rfl, ?_⟩) hHeld ?_
    rotate_left
    · intro w' hSw; (try dsimp only at hSw); have j0 := hSw.at 0 rfl; have j1 := hSw.at 1 rfl; have j2 := hSw.at 2 rfl; go_simp; try with_reducible rfl
    try simp only [Act.put, List.setIfInBounds_toArray, List.set_cons_zero, List.set_cons_succ]
    refine take_one 5 21 (v := ?_) rfl rfl (by kernel_rfl) (by kernel_rfl) (by kernel_rfl) (fun _ _ _ h => h) (Or.inl ⟨by rfl, ?_⟩) hHeld ?_
    rotate_left
    · intro w' hSw; (try dsimp only at hSw); have j0 := hSw.at 0 rfl; have j1 := hSw.at 1 rfl; have j2 := hSw.at 2 rfl; go_simp; try with_reducible rfl
    try simp only [Act.put, List.setIfInBounds_toArray, List.set_cons_zero, List.set_cons_succ]
    refine take_one 6 22 (v := ?_) rfl rfl (by kernel_rfl) (by kernel_rfl) (by kernel_rfl) (fun _ _ _ h => h) (Or.inl ⟨by rfl, ?_⟩) hHeld ?_
    rotate_left
    · intro w' hSw; (try dsimp only at hSw); have j0 := hSw.at 0 rfl; have j1 := hSw.at 1 rfl; have j2 := hSw.at 2 rfl; go_simp; try with_reducible rfl
    try simp only [Act.put, List.setIfInBounds_toArray, List.set_cons_zero, List.set_cons_succ]
    refine take_one 7 23 (v := .slice none 0 0) rfl rfl (by kernel_rfl) (by kernel_rfl) (by kernel_rfl) (fun _ _ _ h => h) (Or.inl ⟨by rfl, ?_⟩) hHeld ?_
    · intro w' hSw; (try dsimp only at hSw); go_simp; try rfl
    try simp only [Act.put, List.setIfInBounds_toArray, List.set_cons_zero, List.set_cons_succ]
    refine wpAnyH_ready (rs := [4]) (by kernel_rfl) (by simp) ?_
    refine AllReadyH.cons (i := 4) rfl (fun K hK => ?_) AllReadyH.nil
    go_simp
    obtain ⟨Y, hY⟩ : ∃ Y, D.alloc (.cells #[.int .i64 x0, .int .i64 x1, .int .i64 x2] 31) = Y := ⟨_, rfl⟩
    have BY : Below D.heap.size D Y := by rw [← hY]; exact (Below.refl _ _).alloc (Nat.le_refl _) _
    have hx : FRow 3 cS Y (some ⟨D.heap.size, 0, none⟩) [(x0, x1, x2)] := by rw [← hY]; exact news_S D x0 x1 x2
    rw [hY]
    clear hY
    replace hR0 := hR0.later BY
    replace TD := TD.later BY TD.lt
    replace BD := BD.trans (BY.mono BD.size)
    clear BY
    generalize D.heap.size = dg at hx ⊢
    refine hK.out _ _ TD (fun hHeld2 => ?_)
    clear hK K hHeld
    have hHeld := hHeld2
    clear hHeld2
    try simp only [Act.put, List.setIfInBounds_toArray, List.set_cons_zero, List.set_cons_succ]
    refine wpAnyH_ready (rs := [8]) (by kernel_rfl) (by simp) ?_
    refine AllReadyH.cons (i := 8) rfl (fun K hK => ?_) AllReadyH.nil
    go_simp
    obtain ⟨Z, hZ⟩ : ∃ Z, Y.alloc (.cells #[.slice none 0 0, .slice (some ⟨dg, 0, none⟩) 1 1, .slice none 0 0] 24) = Z := ⟨_, rfl⟩
    have BZ : Below Y.heap.size Y Z := by rw [← hZ]; exact (Below.refl _ _).alloc (Nat.le_refl _) _
    have TZ : Blk Y.heap.size [.slice none 0 0, .slice (some ⟨dg, 0, none⟩) 1 1, .slice none 0 0] Z := by rw [← hZ]; exact Blk.new _ _ _
    rw [hZ]
    clear hZ
    replace hR0 := hR0.later BZ
    replace hx := hx.later BZ
    replace TD := TD.later BZ TD.lt
    replace BD := BD.trans (BZ.mono BD.size)
    clear BZ
    generalize Y.heap.size = zg at TZ ⊢
    refine hK.out _ _ TD (fun hHeld2 => ?_)
    clear hK K hHeld
    have hHeld := hHeld2
    clear hHeld2
    try simp only [Act.put, List.setIfInBounds_toArray, List.set_cons_zero, List.set_cons_succ]
    have KC := concat_is zg none (some ⟨dg, 0, none⟩) none 0 1 0 [] [(x0, x1, x2)] [] Z hR0 hx hR0 (by simp) (by simp) (by simp) (by simp) TZ
    rw [show ([] : List TS) ++ [(x0, x1, x2)] ++ [] = ys from HE.symm] at KC
    refine wpAnyH_ready (rs := [9]) (by kernel_rfl) (by simp) ?_
    refine AllReadyH.cons (i := 9) rfl (fun K hK => ?_) AllReadyH.nil
    go_simp
    refine KC.mono ?_
    clear KC
    rintro en v1 ⟨oa, oc, rfl, ho, hb⟩
    have hzb := BD.size
    replace TD := TD.later hb TD.lt
    replace BD := BD.trans (hb.mono BD.size)
    clear hb
    go_wp2_with fail
    refine hK.out _ _ TD (fun hHeld2 => ?_)
    clear hK K hHeld
    have hHeld := hHeld2
    clear hHeld2
    try simp only [Act.put, List.setIfInBounds_toArray, List.set_cons_zero, List.set_cons_succ]
    refine take_one 10 6 (v := ?_) rfl rfl (by kernel_rfl) (by kernel_rfl) (by kernel_rfl) (fun _ _ _ h => h) (Or.inl ⟨by rfl, ?_⟩) hHeld ?_
    rotate_left
    · intro w' hSw; (try dsimp only at hSw); go_simp; try with_reducible rfl
    try simp only [Act.put, List.setIfInBounds_toArray, List.set_cons_zero, List.set_cons_succ]
    refine wpAnyH_done (by kernel_rfl) ?_ _
    clear hHeld
    go_wp2
    go_ret
    exact ⟨⟨oa, oc, rfl, ho.le hzb⟩, BD⟩
  · have hnc : ¬ ((cap : Int) < (n : Int)) := by omega
    have hnl : ¬ ((xs.length : Int) < (n : Int)) := by omega
    have hn1 : (n : Int) ≤ (cap : Int) := by omega
    have hn2 : (n : Int) ≤ (xs.length : Int) := by omega
    obtain ⟨q, hq⟩ : ∃ q, (if cap = n then some (⟨g, 0, none⟩ : Addr) else some ⟨g, n * 3, none⟩) = q := ⟨_, rfl⟩
    have hrd : FRow 3 cS W1.drew q (xs.drop n) := by
      rw [← hq]
      by_cases c : cap = n
      · rw [if_pos c, show xs.drop n = [] from List.drop_of_length_le (by omega)]; exact FRow.nil _ _ _ _
      · rw [if_neg c]; exact frow_drop hr n
    have hrt : FRow 3 cS W1.drew (some ⟨g, 0, none⟩) (xs.take n) := hr.take n
    have hlt : (xs.take n).length = n := by rw [List.length_take]; omega
    have hld : (xs.drop n).length = xs.length - n := List.length_drop
    replace hq : Hid ((if cap = n then some (⟨g, 0, none⟩ : Addr) else some ⟨g, n * 3, none⟩) = q) := hq
    have HE2 : Hid (ys = xs.take n ++ [(x0, x1, x2)] ++ xs.drop n) := HE
    clear HE hr
    refine wp_region_held_drew (S := (fun Vw => Blk w.heap.size [.int .i64 x0, .int .i64 x1, .int .i64 x2] Vw)) (by kernel_rfl) TD (fun hHeld => ?_)
    generalize W1.drew = D at TD BD hHeld hrt hrd ⊢
    refine take_one 0 16 (v := ?_) rfl rfl (by kernel_rfl) (by kernel_rfl) (by kernel_rfl) (fun _ _ _ h => h) (Or.inl ⟨by rfl, ?_⟩) hHeld ?_
    rotate_left
    · intro w' hSw; (try dsimp only at hSw); have j0 := hSw.at 0 rfl; have j1 := hSw.at 1 rfl; have j2 := hSw.at 2 rfl; go_simp; try with_reducible rfl
    try simp only [Act.put, List.setIfInBounds_toArray, List.set_cons_zero, List.set_cons_succ]
    refine take_one 1 17 (v := ?_) rfl rfl (by kernel_rfl) (by kernel_rfl) (by kernel_rfl) (fun _ _ _ h => h) (Or.inl ⟨by rfl, ?_⟩) hHeld ?_
    rotate_left
    · intro w' hSw; (try dsimp only at hSw); have j0 := hSw.at 0 rfl; have j1 := hSw.at 1 rfl; have j2 := hSw.at 2 rfl; go_simp; try with_reducible rfl
    try simp only [Act.put, List.setIfInBounds_toArray, List.set_cons_zero, List.set_cons_succ]
    refine take_one 2 18 (v := .slice (some ⟨g, 0, none⟩) n cap) rfl rfl (by kernel_rfl) (by kernel_rfl) (by kernel_rfl) (fun _ _ _ h => h) (Or.inl ⟨by rfl, ?_⟩) hHeld ?_
    · intro w' hSw; (try dsimp only at hSw); go_simp; try rfl
    try simp only [Act.put, List.setIfInBounds_toArray, List.set_cons_zero, List.set_cons_succ]
    refine take_one 3 19 (v := ?_) rfl rfl (by kernel_rfl) (by kernel_rfl) (by kernel_rfl) (fun _ _ _ h => h) (Or.inl ⟨by rfl, ?_⟩) hHeld ?_
    rotate_left
    · intro w' hSw; (try dsimp only at hSw); have j0 := hSw.at 0 rfl; have j1 := hSw.at 1 rfl; have j2 := hSw.at 2 rfl; go_simp; try with_reducible rfl
    try simp only [Act.put, List.setIfInBounds_toArray, List.set_cons_zero, List.set_cons_succ]
    refine take_one 5 21 (v := ?_) rfl rfl (by kernel_rfl) (by kernel_rfl) (by kernel_rfl) (fun _ _ _ h => h) (Or.inl ⟨by rfl, ?_⟩) hHeld ?_
    rotate_left
    · intro w' hSw; (try dsimp only at hSw); have j0 := hSw.at 0 rfl; have j1 := hSw.at 1 rfl; have j2 := hSw.at 2 rfl; go_simp; try with_reducible rfl
    try simp only [Act.put, List.setIfInBounds_toArray, List.set_cons_zero, List.set_cons_succ]
    refine take_one 6 22 (v := ?_) rfl rfl (by kernel_rfl) (by kernel_rfl) (by kernel_rfl) (fun _ _ _ h => h) (Or.inl ⟨by rfl, ?_⟩) hHeld ?_
    rotate_left
    · intro w' hSw; (try dsimp only at hSw); have j0 := hSw.at 0 rfl; have j1 := hSw.at 1 rfl; have j2 := hSw.at 2 rfl; go_simp; try with_reducible rfl
    try simp only [Act.put, List.setIfInBounds_toArray, List.set_cons_zero, List.set_cons_succ]
    refine take_one 7 23 (v := .slice q (xs.length - n) (cap - n)) rfl rfl (by kernel_rfl) (by kernel_rfl) (by kernel_rfl) (fun _ _ _ h => h) (Or.inl ⟨by rfl, ?_⟩) hHeld ?_
    · intro w' hSw; (try dsimp only at hSw); go_simp; all_goals (first | exact hq.out | (rw [← hq.out]; first | rfl | simp [add3]))
    try simp only [Act.put, List.setIfInBounds_toArray, List.set_cons_zero, List.set_cons_succ]
    refine wpAnyH_ready (rs := [4]) (by kernel_rfl) (by simp) ?_
    refine AllReadyH.cons (i := 4) rfl (fun K hK => ?_) AllReadyH.nil
    go_simp
    obtain ⟨Y, hY⟩ : ∃ Y, D.alloc (.cells #[.int .i64 x0, .int .i64 x1, .int .i64 x2] 31) = Y := ⟨_, rfl⟩
    have BY : Below D.heap.size D Y := by rw [← hY]; exact (Below.refl _ _).alloc (Nat.le_refl _) _
    have hx : FRow 3 cS Y (some ⟨D.heap.size, 0, none⟩) [(x0, x1, x2)] := by rw [← hY]; exact news_S D x0 x1 x2
    rw [hY]
    clear hY
    replace hrt := hrt.later BY
    replace hrd := hrd.later BY
    replace TD := TD.later BY TD.lt
    replace BD := BD.trans (BY.mono BD.size)
    clear BY
    generalize D.heap.size = dg at hx ⊢
    refine hK.out _ _ TD (fun hHeld2 => ?_)
    clear hK K hHeld
    have hHeld := hHeld2
    clear hHeld2
    try simp only [Act.put, List.setIfInBounds_toArray, List.set_cons_zero, List.set_cons_succ]
    refine wpAnyH_ready (rs := [8]) (by kernel_rfl) (by simp) ?_
    refine AllReadyH.cons (i := 8) rfl (fun K hK => ?_) AllReadyH.nil
    go_simp
    obtain ⟨Z, hZ⟩ : ∃ Z, Y.alloc (.cells #[.slice (some ⟨g, 0, none⟩) n cap, .slice (some ⟨dg, 0, none⟩) 1 1, .slice q (xs.length - n) (cap - n)] 24) = Z := ⟨_, rfl⟩
    have BZ : Below Y.heap.size Y Z := by rw [← hZ]; exact (Below.refl _ _).alloc (Nat.le_refl _) _
    have TZ : Blk Y.heap.size [.slice (some ⟨g, 0, none⟩) n cap, .slice (some ⟨dg, 0, none⟩) 1 1, .slice q (xs.length - n) (cap - n)] Z := by rw [← hZ]; exact Blk.new _ _ _
    rw [hZ]
    clear hZ
    replace hrt := hrt.later BZ
    replace hrd := hrd.later BZ
    replace hx := hx.later BZ
    replace TD := TD.later BZ TD.lt
    replace BD := BD.trans (BZ.mono BD.size)
    clear BZ
    generalize Y.heap.size = zg at TZ ⊢
    refine hK.out _ _ TD (fun hHeld2 => ?_)
    clear hK K hHeld
    have hHeld := hHeld2
    clear hHeld2
    try simp only [Act.put, List.setIfInBounds_toArray, List.set_cons_zero, List.set_cons_succ]
    have TZ2 : Blk zg [.slice (some ⟨g, 0, none⟩) (xs.take n).length cap, .slice (some ⟨dg, 0, none⟩) [(x0, x1, x2)].length 1, .slice q (xs.drop n).length (cap - n)] Z := by rw [hlt, hld]; exact TZ
    have KC := concat_is zg (some ⟨g, 0, none⟩) (some ⟨dg, 0, none⟩) q cap 1 (cap - n) (xs.take n) [(x0, x1, x2)] (xs.drop n) Z hrt hx hrd (by omega) (by simp) (by omega) (by simp only [List.length_cons, List.length_nil]; omega) TZ2
    rw [← HE2.out] at KC
    refine wpAnyH_ready (rs := [9]) (by kernel_rfl) (by simp) ?_
    refine AllReadyH.cons (i := 9) rfl (fun K hK => ?_) AllReadyH.nil
    go_simp
    refine KC.mono ?_
    clear KC
    rintro en v1 ⟨oa, oc, rfl, ho, hb⟩
    have hzb := BD.size
    replace TD := TD.later hb TD.lt
    replace BD := BD.trans (hb.mono BD.size)
    clear hb
    go_wp2_with fail
    refine hK.out _ _ TD (fun hHeld2 => ?_)
    clear hK K hHeld
    have hHeld := hHeld2
    clear hHeld2
    try simp only [Act.put, List.setIfInBounds_toArray, List.set_cons_zero, List.set_cons_succ]
    refine take_one 10 6 (v := ?_) rfl rfl (by kernel_rfl) (by kernel_rfl) (by kernel_rfl) (fun _ _ _ h => h) (Or.inl ⟨by rfl, ?_⟩) hHeld ?_
    rotate_left
    · intro w' hSw; (try dsimp only at hSw); go_simp; try with_reducible rfl
    try simp only [Act.put, List.setIfInBounds_toArray, List.set_cons_zero, List.set_cons_succ]
    refine wpAnyH_done (by kernel_rfl) ?_ _
    clear hHeld
    go_wp2
    go_ret
    exact ⟨⟨oa, oc, rfl, ho.le hzb⟩, BD⟩
end Go.Proofs.Ytkfjpgkpmdbnoaa
