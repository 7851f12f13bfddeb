/- Copies of rows; they are compared. -/
import Derived.Test.YtflajkbbggmdjaaNd0
set_option linter.unusedVariables false
set_option maxRecDepth 100000
namespace Go.Proofs.Ytflajkbbggmdjaa.Nd
open Go Go.RowKit Go.Joins Own Draw

theorem infoCI : (Try.prog.info? 3).map (fun i => (i.zero, i.size, i.bytes)) = some (some (.int .i64 0), 1, 8) := by kernel_rfl
set_option maxRecDepth 100000 in
set_option maxHeartbeats 800000 in
theorem toSI_is (a : Option Addr) (cap : Nat) (xs : List Int) (w : World) (hr : RowAt (Value.int .i64) w a xs) (hl : xs.length ≤ 1048576) :
    Calls Try.prog 28 #[.slice a xs.length cap] w fun e w' => e = .returned (.slice (some ⟨w.heap.size, 0, none⟩) xs.length xs.length) ∧ w'.ownsRow w.heap.size 3 1 (.slice (some ⟨w.heap.size, 0, none⟩) xs.length xs.length) xs.length (xs.map (Value.int .i64)) ∧ Below w.heap.size w w' := by
  obtain ⟨i0, hi, hz0, hz1, hz2⟩ := info_parts infoCI
  go_enter Try.func28, Try.ntmps28
  go_wp2_with (first | (at_make; refine wpList_make_full _ rfl _ _ 22 rfl w.heap.size 3 i0 (.int .i64 0) 1 Try.underlying22 hi hz0 hz1 .i64 .i64 xs.length xs.length xs.length rfl rfl rfl rfl (by rw [hz2]; omega) (by unfold maxLen; omega) (Nat.le_refl _) ?_) | go_in)
  intro w1 hown hgrow
  have hbel := (Below.refl w.heap.size w).grown hgrow (Nat.le_refl _) (by simp)
  have hsz := hgrow.size
  clear hgrow
  have hlm : (madeCells #[.int .i64 0] xs.length).toList.length = xs.length := by simp [size_madeCells]
  go_wp2
  go_loopw [4] (fun i wr => ∃ k : Nat, k ≤ xs.length ∧ i = .int .i64 k ∧ wr.ownsRow w.heap.size 3 1 (.slice (some ⟨w.heap.size, 0, none⟩) xs.length xs.length) xs.length ((xs.take k).map (Value.int .i64) ++ (madeCells #[.int .i64 0] xs.length).toList.drop k) ∧ Below w.heap.size w wr) (fun i _ => xs.length - (intOf i).toNat)
  case atStart => exact ⟨0, by omega, rfl, by simpa using hown, hbel⟩
  case round =>
    clear hown hbel
    obtain ⟨k, hk, rfl, hown, hbel⟩ := hrel
    by_cases hlt : k < xs.length
    · obtain ⟨b, off, rfl, hbl, hcell0⟩ := hr k hlt
      have hcell := (hbel.cell (p := ⟨b, off + k, none⟩) hbl).trans hcell0
      have hto : ∃ v, wr.cell? ⟨w.heap.size, k, none⟩ = some v := by
        rw [hown.cellAt _ (by omega)]
        exact ⟨_, List.getElem?_eq_getElem (by rw [List.length_append, List.length_map, List.length_take, List.length_drop, hlm]; omega)⟩
      obtain ⟨v, hto⟩ := hto
      have hfz := hown.frozenAt k
      have hs := (hown.stored k (Value.int .i64 xs[k])).1
      have hset : ((xs.take k).map (Value.int .i64) ++ (madeCells #[.int .i64 0] xs.length).toList.drop k).set k (Value.int .i64 xs[k]) = (xs.take (k + 1)).map (Value.int .i64) ++ (madeCells #[.int .i64 0] xs.length).toList.drop (k + 1) := by
        rw [List.set_append_right _ _ (by simp; omega), List.take_succ_eq_append_getElem hlt, List.map_append, List.append_assoc]
        congr 1
        have e : k - ((xs.take k).map (Value.int .i64)).length = 0 := by simp; omega
        rw [e, List.drop_eq_getElem_cons (by omega)]
        rfl
      rw [hset] at hs
      have HS : Hid (∃ k' : Nat, k' ≤ xs.length ∧ Value.int .i64 ((k : Int) + 1) = .int .i64 k' ∧ (wr.setCell ⟨w.heap.size, k, none⟩ (Value.int .i64 xs[k])).ownsRow w.heap.size 3 1 (.slice (some ⟨w.heap.size, 0, none⟩) xs.length xs.length) xs.length ((xs.take k').map (Value.int .i64) ++ (madeCells #[.int .i64 0] xs.length).toList.drop k') ∧ Below w.heap.size w (wr.setCell ⟨w.heap.size, k, none⟩ (Value.int .i64 xs[k]))) :=
        ⟨k + 1, by omega, by go_num, hs, hbel.setCell (Nat.le_refl _) _⟩
      clear hs hset hcell0 hr
      go_wp2
      go_roundw
      case rel => exact HS.out
      case measure => simp [intOf]; omega
    · obtain rfl : k = xs.length := by omega
      rw [List.take_length, List.drop_of_length_le (by omega), List.append_nil] at hown
      go_wp2
      go_ret
      exact ⟨rfl, hown, hbel⟩
set_option maxRecDepth 100000 in
set_option maxHeartbeats 800000 in
theorem eqSI_is (a b : Option Addr) (ca cb : Nat) (xs : List Int) (w : World) (ha : RowAt (Value.int .i64) w a xs) (hb : RowAt (Value.int .i64) w b xs) (hl : xs.length ≤ 1048576) :
    Calls Try.prog 31 #[.slice a xs.length ca, .slice b xs.length cb] w fun e w' => e = .returned (.bool true) ∧ Below w.heap.size w w' := by
  go_enter Try.func31, Try.ntmps31
  go_wp2
  go_loopw [5] (fun i wr => ∃ k : Nat, k ≤ xs.length ∧ i = .int .i64 k ∧ Below w.heap.size w wr) (fun i _ => xs.length - (intOf i).toNat)
  case atStart => exact ⟨0, by omega, rfl, Below.refl _ _⟩
  case round =>
    obtain ⟨k, hk, rfl, hbel⟩ := hrel
    by_cases hlt : k < xs.length
    · obtain ⟨b1, o1, rfl, l1, hc1⟩ := ha k hlt
      obtain ⟨b2, o2, rfl, l2, hc2⟩ := hb k hlt
      rw [← hbel.cell (p := ⟨b1, o1 + k, none⟩) l1] at hc1
      rw [← hbel.cell (p := ⟨b2, o2 + k, none⟩) l2] at hc2
      generalize xs[k] = x at hc1 hc2
      go_wp2
      go_region
      all_goals
        go_wp2
        go_roundw
        case rel => exact ⟨k + 1, by omega, by go_num, hbel.drew⟩
        case measure => simp [intOf]; omega
    · go_wp2
      go_ret
      exact ⟨rfl, hbel⟩
theorem toSI_u (r : Rw Int) (w : World) (hd : RpI w r) (hl : rtI r ≤ 1048576) : Calls Try.prog 28 #[.slice r.1 r.2.2.length r.2.1] w fun en w' => ∃ y : Rw Int, en = .returned (.slice y.1 y.2.2.length y.2.1) ∧ rsI y = rsI r ∧ RoI w.heap.size w' y ∧ Below w.heap.size w w' :=
  (toSI_is r.1 r.2.1 r.2.2 w hd (Nat.le_trans (rtI_len r) hl)).mono fun e w' h => ⟨(some ⟨w.heap.size, 0, none⟩, r.2.2.length, r.2.2), h.1, rfl, h.2.1, h.2.2⟩
theorem eqSI_u (r q : Rw Int) (w : World) (hr : RpI w r) (hq : RpI w q) (hs : rsI r = rsI q) (hl : rtI r ≤ 1048576) : Calls Try.prog 31 #[.slice r.1 r.2.2.length r.2.1, .slice q.1 q.2.2.length q.2.1] w fun en w' => en = .returned (.bool true) ∧ Below w.heap.size w w' := by
  obtain ⟨a, c, xs⟩ := r
  obtain ⟨b, d, ys⟩ := q
  obtain rfl : xs = ys := hs
  exact eqSI_is a b c d xs w hr hq (Nat.le_trans (rtI_len (a, c, xs)) hl)
theorem resP {fn : Func} {p : Tmp} (hres : fn.results = #[.cell p 100]) (tmps : Array Value) (w : World) (g : Nat) (v0 v1 : Value) (hp : tmps.getD p undef = .pointer (some ⟨g, 0, none⟩)) (h0 : w.cell? ⟨g, 0, none⟩ = some v0) (h1 : w.cell? ⟨g, 1, none⟩ = some v1) :
    (results fn tmps).run Try.prog w = .ok (.agg #[v0, v1]) w := by
  have hp' : tmps[p]?.getD undef = .pointer (some ⟨g, 0, none⟩) := by simpa using hp
  unfold results
  rw [hres]
  go_simp
set_option maxRecDepth 100000 in
theorem toP_is (x0 : Int) (x1 : Int) (w : World) : Calls Try.prog 76 #[.agg #[.int .i64 x0, .int .i64 x1]] w fun e w' => e = .returned (.agg #[.int .i64 x0, .int .i64 x1]) ∧ Below w.heap.size w w' := by
  have hb0 : Below w.heap.size w (((w.alloc (.cells #[.int .i64 x0, .int .i64 x1] 103)).alloc (.cells #[.int .i64 x0, .int .i64 x1] 100)).alloc (.cells #[.int .i64 x0, .int .i64 x1] 100)) :=
    (((Below.refl _ _).alloc (Nat.le_refl _) _).alloc (by simp) _).alloc (by simp; omega) _
  go_enter Try.func76, Try.ntmps76
  go_wp2
  exact bodyPost_ret (resP rfl _ _ (w.heap.size + 1) _ _ rfl (by simp [go_sem]) (by simp [go_sem])) rfl ⟨rfl, hb0⟩
theorem infoP : (Try.prog.info? 100).map (fun i => (i.zero, i.size, i.bytes)) = some (some (.agg #[.int .i64 0, .int .i64 0]), 2, 16) := by kernel_rfl
set_option maxRecDepth 100000 in
set_option maxHeartbeats 1600000 in
theorem toSP_is (a : Option Addr) (cap : Nat) (xs : List TP) (w : World) (hr : FRow 2 cP w a xs) (hl : xs.length ≤ 1048576) :
    Calls Try.prog 29 #[.slice a xs.length cap] w fun e w' => e = .returned (.slice (some ⟨w.heap.size, 0, none⟩) xs.length xs.length) ∧ FOwn 100 2 cP w.heap.size (some ⟨w.heap.size, 0, none⟩) xs.length xs w' ∧ Below w.heap.size w w' := by
  obtain ⟨i0, hi, hz0, hz1, hz2⟩ := info_parts infoP
  go_enter Try.func29, Try.ntmps29
  go_wp2_with (first | (at_make; refine wpList_make_full _ rfl _ _ 28 rfl w.heap.size 100 i0 (.agg #[.int .i64 0, .int .i64 0]) 2 Try.underlying28 hi hz0 hz1 .i64 .i64 xs.length xs.length xs.length rfl rfl rfl rfl (by rw [hz2]; omega) (by unfold maxLen; omega) (Nat.le_refl _) ?_) | go_in)
  intro w1 hown hgrow
  have hbel := (Below.refl w.heap.size w).grown hgrow (Nat.le_refl _) (by simp)
  clear hgrow
  have H0 : ∃ J : List Value, w1.ownsRow w.heap.size 100 2 (.slice (some ⟨w.heap.size, 0, none⟩) xs.length xs.length) xs.length (fl cP (xs.take 0) ++ J) := ⟨_, hown⟩
  clear hown
  go_wp2
  go_loopw [4] (fun i wr => ∃ k : Nat, k ≤ xs.length ∧ i = .int .i64 k ∧ (∃ J : List Value, wr.ownsRow w.heap.size 100 2 (.slice (some ⟨w.heap.size, 0, none⟩) xs.length xs.length) xs.length (fl cP (xs.take k) ++ J)) ∧ Below w.heap.size w wr) (fun i _ => xs.length - (intOf i).toNat)
  case atStart => exact ⟨0, by omega, rfl, H0, hbel⟩
  case round =>
    clear H0 hbel
    obtain ⟨k, hk, rfl, ⟨J, hown⟩, hbel⟩ := hrel
    have hJ : k * 2 + J.length = xs.length * 2 := by have := hown.1; rw [List.length_append, fl_len lP, List.length_take, Nat.min_eq_left hk] at this; exact this
    by_cases hlt : k < xs.length
    · obtain ⟨b, off, rfl, hbl, hc⟩ := hr k hlt
      have h0 : wr.cell? ⟨b, off + k * 2, none⟩ = some (.int .i64 xs[k].1) := (hbel.cell (p := ⟨b, off + k * 2, none⟩) hbl).trans (hc 0 _ rfl)
      have h1 : wr.cell? ⟨b, off + k * 2 + 1, none⟩ = some (.int .i64 xs[k].2) := (hbel.cell (p := ⟨b, off + k * 2 + 1, none⟩) hbl).trans (hc 1 _ rfl)
      clear hr hc
      have hsn : xs.take k ++ [(xs[k].1, xs[k].2)] = xs.take (k + 1) := (List.take_succ_eq_append_getElem hlt).symm
      generalize xs[k].1 = x0 at h0 hsn
      generalize xs[k].2 = x1 at h1 hsn
      go_wp2_with fail
      refine (toP_is x0 x1 _).mono ?_
      rintro e w2 ⟨rfl, hb2⟩
      have hown2 := own_later hown hb2
      have hbel2 := hbel.trans (hb2.mono hbel.size)
      clear h0 h1 hown hbel hb2
      have hs := ((hown2.stored (k * 2) (.int .i64 x0)).1.stored (k * 2 + 1) (.int .i64 x1)).1
      have hp : (((fl cP (xs.take k) ++ J)).set (k * 2) (.int .i64 x0)).set (k * 2 + 1) (.int .i64 x1) = fl cP (xs.take k ++ [(x0, x1)]) ++ J.drop 2 := by
        have := fl_put (f := cP) lP (xs.take k) J (x0, x1) (by omega)
        rw [List.length_take, Nat.min_eq_left hk] at this
        exact this
      rw [hp, hsn] at hs
      have HS : Hid (∃ k' : Nat, k' ≤ xs.length ∧ Value.int .i64 ((k : Int) + 1) = .int .i64 k' ∧ (∃ J : List Value, ((w2.setCell ⟨w.heap.size, k * 2, none⟩ (.int .i64 x0)).setCell ⟨w.heap.size, k * 2 + 1, none⟩ (.int .i64 x1)).ownsRow w.heap.size 100 2 (.slice (some ⟨w.heap.size, 0, none⟩) xs.length xs.length) xs.length (fl cP (xs.take k') ++ J)) ∧ Below w.heap.size w ((w2.setCell ⟨w.heap.size, k * 2, none⟩ (.int .i64 x0)).setCell ⟨w.heap.size, k * 2 + 1, none⟩ (.int .i64 x1))) :=
        ⟨k + 1, by omega, by go_num, ⟨_, hs⟩, ((hbel2.setCell (Nat.le_refl _) _).setCell (Nat.le_refl _) _)⟩
      have hll : (fl cP (xs.take k) ++ J).length = xs.length * 2 := hown2.1
      have u0 : w2.cell? ⟨w.heap.size, k * 2, none⟩ = some (fl cP (xs.take k) ++ J)[k * 2] := by rw [hown2.cellAt _ (by omega)]; exact List.getElem?_eq_getElem (by omega)
      have f0 := hown2.frozenAt (k * 2)
      have u1 : w2.cell? ⟨w.heap.size, k * 2 + 1, none⟩ = some (fl cP (xs.take k) ++ J)[k * 2 + 1] := by rw [hown2.cellAt _ (by omega)]; exact List.getElem?_eq_getElem (by omega)
      have f1 := hown2.frozenAt (k * 2 + 1)
      have hlt2 : (k : Int) < (xs.length : Int) := by omega
      clear hown2 hbel2 hs hp hsn
      generalize (fl cP (xs.take k) ++ J)[k * 2] = q0 at u0
      generalize (fl cP (xs.take k) ++ J)[k * 2 + 1] = q1 at u1
      clear hll hJ
      go_wp2
      go_roundw
      case rel => exact HS.out
      case measure => simp [intOf]; omega
    · obtain rfl : k = xs.length := by omega
      have hj0 : J = [] := List.length_eq_zero_iff.1 (by omega)
      subst hj0
      rw [List.take_length, List.append_nil] at hown
      go_wp2
      go_ret
      exact ⟨rfl, hown, hbel⟩
theorem toSP_u (r : Rw TP) (w : World) (hd : RpP w r) (hl : rtP r ≤ 1048576) : Calls Try.prog 29 #[.slice r.1 r.2.2.length r.2.1] w fun en w' => ∃ y : Rw TP, en = .returned (.slice y.1 y.2.2.length y.2.1) ∧ rsP y = rsP r ∧ RoP w.heap.size w' y ∧ Below w.heap.size w w' :=
  (toSP_is r.1 r.2.1 r.2.2 w hd (Nat.le_trans (rtP_len r) hl)).mono fun e w' h => ⟨(some ⟨w.heap.size, 0, none⟩, r.2.2.length, r.2.2), h.1, rfl, h.2.1, h.2.2⟩
set_option maxRecDepth 100000 in
theorem eqP_is (x0 : Int) (x1 : Int) (w : World) : Calls Try.prog 81 #[.agg #[.int .i64 x0, .int .i64 x1], .agg #[.int .i64 x0, .int .i64 x1]] w fun e w' => e = .returned (.bool true) ∧ Below w.heap.size w w' := by
  have hb0 : Below w.heap.size w ((w.alloc (.cells #[.int .i64 x0, .int .i64 x1] 100)).alloc (.cells #[.int .i64 x0, .int .i64 x1] 100)) := ((Below.refl _ _).alloc (Nat.le_refl _) _).alloc (by simp) _
  go_enter Try.func81, Try.ntmps81
  go_wp2
  go_ret
  exact ⟨rfl, hb0⟩
set_option maxRecDepth 100000 in
set_option maxHeartbeats 1600000 in
theorem eqSP_is (a b : Option Addr) (ca cb : Nat) (xs : List TP) (w : World) (ha : FRow 2 cP w a xs) (hb : FRow 2 cP w b xs) (hl : xs.length ≤ 1048576) :
    Calls Try.prog 32 #[.slice a xs.length ca, .slice b xs.length cb] w fun e w' => e = .returned (.bool true) ∧ Below w.heap.size w w' := by
  go_enter Try.func32, Try.ntmps32
  go_wp2
  go_loopw [5] (fun i wr => ∃ k : Nat, k ≤ xs.length ∧ i = .int .i64 k ∧ Below w.heap.size w wr) (fun i _ => xs.length - (intOf i).toNat)
  case atStart => exact ⟨0, by omega, rfl, Below.refl _ _⟩
  case round =>
    obtain ⟨k, hk, rfl, hbel⟩ := hrel
    by_cases hlt : k < xs.length
    · obtain ⟨b1, o1, rfl, l1, h⟩ := ha k hlt
      obtain ⟨b2, o2, rfl, l2, g⟩ := hb k hlt
      have hlt2 : (k : Int) < (xs.length : Int) := by omega
      have m1 : b1 < wr.drew.heap.size := Nat.lt_of_lt_of_le l1 hbel.size
      have m2 : b2 < wr.drew.heap.size := Nat.lt_of_lt_of_le l2 hbel.size
      have BD := hbel.drew
      have h0 : wr.drew.cell? ⟨b1, o1 + k * 2, none⟩ = some (.int .i64 xs[k].1) := (hbel.cell (p := ⟨b1, o1 + k * 2, none⟩) l1).trans (h 0 _ rfl)
      have h1 : wr.drew.cell? ⟨b1, o1 + k * 2 + 1, none⟩ = some (.int .i64 xs[k].2) := (hbel.cell (p := ⟨b1, o1 + k * 2 + 1, none⟩) l1).trans (h 1 _ rfl)
      have g0 : wr.drew.cell? ⟨b2, o2 + k * 2, none⟩ = some (.int .i64 xs[k].1) := (hbel.cell (p := ⟨b2, o2 + k * 2, none⟩) l2).trans (g 0 _ rfl)
      have g1 : wr.drew.cell? ⟨b2, o2 + k * 2 + 1, none⟩ = some (.int .i64 xs[k].2) := (hbel.cell (p := ⟨b2, o2 + k * 2 + 1, none⟩) l2).trans (g 1 _ rfl)
      generalize xs[k].1 = x0 at h0 g0
      generalize xs[k].2 = x1 at h1 g1
      clear ha hb h g
      go_wp2_with fail
      refine wp_region_held_drew (S := (fun V : World => V.cell? ⟨b1, o1 + k * 2, none⟩ = some (.int .i64 x0) ∧ V.cell? ⟨b1, o1 + k * 2 + 1, none⟩ = some (.int .i64 x1) ∧ V.cell? ⟨b2, o2 + k * 2, none⟩ = some (.int .i64 x0) ∧ V.cell? ⟨b2, o2 + k * 2 + 1, none⟩ = some (.int .i64 x1))) (by kernel_rfl) ⟨h0, h1, g0, g1⟩ (fun hHeld => ?_)
      refine take_one 0 17 (v := ?_) rfl rfl (by kernel_rfl) (by kernel_rfl) (by kernel_rfl) (fun _ _ _ h => h) (Or.inl ⟨by rfl, ?_⟩) hHeld ?_
      rotate_left
      · intro w' hSw; (try dsimp only at hSw); obtain ⟨c0, c1, c2, c3⟩ := hSw; go_simp; try with_reducible rfl
      try simp only [Act.put, List.setIfInBounds_toArray, List.set_cons_zero, List.set_cons_succ]
      refine take_one 1 18 (v := ?_) rfl rfl (by kernel_rfl) (by kernel_rfl) (by kernel_rfl) (fun _ _ _ h => h) (Or.inl ⟨by rfl, ?_⟩) hHeld ?_
      rotate_left
      · intro w' hSw; (try dsimp only at hSw); obtain ⟨c0, c1, c2, c3⟩ := hSw; go_simp; try with_reducible rfl
      try simp only [Act.put, List.setIfInBounds_toArray, List.set_cons_zero, List.set_cons_succ]
      refine take_one 2 19 (v := ?_) rfl rfl (by kernel_rfl) (by kernel_rfl) (by kernel_rfl) (fun _ _ _ h => h) (Or.inl ⟨by rfl, ?_⟩) hHeld ?_
      rotate_left
      · intro w' hSw; (try dsimp only at hSw); obtain ⟨c0, c1, c2, c3⟩ := hSw; go_simp; try with_reducible rfl
      try simp only [Act.put, List.setIfInBounds_toArray, List.set_cons_zero, List.set_cons_succ]
      refine take_one 3 20 (v := ?_) rfl rfl (by kernel_rfl) (by kernel_rfl) (by kernel_rfl) (fun _ _ _ h => h) (Or.inl ⟨by rfl, ?_⟩) hHeld ?_
      rotate_left
      · intro w' hSw; (try dsimp only at hSw); obtain ⟨c0, c1, c2, c3⟩ := hSw; go_simp; try with_reducible rfl
      try simp only [Act.put, List.setIfInBounds_toArray, List.set_cons_zero, List.set_cons_succ]
      refine take_one 4 21 (v := ?_) rfl rfl (by kernel_rfl) (by kernel_rfl) (by kernel_rfl) (fun _ _ _ h => h) (Or.inl ⟨by rfl, ?_⟩) hHeld ?_
      rotate_left
      · intro w' hSw; (try dsimp only at hSw); obtain ⟨c0, c1, c2, c3⟩ := hSw; go_simp; try with_reducible rfl
      try simp only [Act.put, List.setIfInBounds_toArray, List.set_cons_zero, List.set_cons_succ]
      refine take_one 5 22 (v := ?_) rfl rfl (by kernel_rfl) (by kernel_rfl) (by kernel_rfl) (fun _ _ _ h => h) (Or.inl ⟨by rfl, ?_⟩) hHeld ?_
      rotate_left
      · intro w' hSw; (try dsimp only at hSw); obtain ⟨c0, c1, c2, c3⟩ := hSw; go_simp; try with_reducible rfl
      try simp only [Act.put, List.setIfInBounds_toArray, List.set_cons_zero, List.set_cons_succ]
      refine take_one 6 23 (v := ?_) rfl rfl (by kernel_rfl) (by kernel_rfl) (by kernel_rfl) (fun _ _ _ h => h) (Or.inl ⟨by rfl, ?_⟩) hHeld ?_
      rotate_left
      · intro w' hSw; (try dsimp only at hSw); obtain ⟨c0, c1, c2, c3⟩ := hSw; go_simp; try with_reducible rfl
      try simp only [Act.put, List.setIfInBounds_toArray, List.set_cons_zero, List.set_cons_succ]
      refine take_one 7 24 (v := ?_) rfl rfl (by kernel_rfl) (by kernel_rfl) (by kernel_rfl) (fun _ _ _ h => h) (Or.inl ⟨by rfl, ?_⟩) hHeld ?_
      rotate_left
      · intro w' hSw; (try dsimp only at hSw); obtain ⟨c0, c1, c2, c3⟩ := hSw; go_simp; try with_reducible rfl
      try simp only [Act.put, List.setIfInBounds_toArray, List.set_cons_zero, List.set_cons_succ]
      refine wpAnyH_ready (rs := [8]) (by kernel_rfl) (by simp) ?_
      refine AllReadyH.cons (i := 8) rfl (fun K hK => ?_) AllReadyH.nil
      go_simp
      refine (eqP_is x0 x1 _).mono ?_
      rintro e w2 ⟨rfl, hb2⟩
      go_wp2_with fail
      refine hK.out _ _ ⟨(hb2.cell (p := ⟨b1, o1 + k * 2, none⟩) m1).trans h0, (hb2.cell (p := ⟨b1, o1 + k * 2 + 1, none⟩) m1).trans h1, (hb2.cell (p := ⟨b2, o2 + k * 2, none⟩) m2).trans g0, (hb2.cell (p := ⟨b2, o2 + k * 2 + 1, none⟩) m2).trans g1⟩ (fun hHeld2 => ?_)
      clear hK K hHeld
      have hHeld := hHeld2
      clear hHeld2
      try simp only [Act.put, List.setIfInBounds_toArray, List.set_cons_zero, List.set_cons_succ]
      refine take_one 9 26 (v := ?_) rfl rfl (by kernel_rfl) (by kernel_rfl) (by kernel_rfl) (fun _ _ _ h => h) (Or.inl ⟨by rfl, ?_⟩) hHeld ?_
      rotate_left
      · intro w' hSw; (try dsimp only at hSw); obtain ⟨c0, c1, c2, c3⟩ := hSw; go_simp; try with_reducible rfl
      try simp only [Act.put, List.setIfInBounds_toArray, List.set_cons_zero, List.set_cons_succ]
      refine wpAnyH_done (by kernel_rfl) ?_ _
      have B2 := BD.trans (hb2.mono BD.size)
      clear hHeld h0 h1 g0 g1
      go_wp2
      go_roundw
      case rel => exact ⟨k + 1, by omega, by go_num, B2⟩
      case measure => simp [intOf]; omega
    · go_wp2
      go_ret
      exact ⟨rfl, hbel⟩
theorem eqSP_u (r q : Rw TP) (w : World) (hr : RpP w r) (hq : RpP w q) (hs : rsP r = rsP q) (hl : rtP r ≤ 1048576) : Calls Try.prog 32 #[.slice r.1 r.2.2.length r.2.1, .slice q.1 q.2.2.length q.2.1] w fun en w' => en = .returned (.bool true) ∧ Below w.heap.size w w' := by
  obtain ⟨a, c, xs⟩ := r
  obtain ⟨b, d, ys⟩ := q
  obtain rfl : xs = ys := hs
  exact eqSP_is a b c d xs w hr hq (Nat.le_trans (rtP_len (a, c, xs)) hl)
end Go.Proofs.Ytflajkbbggmdjaa.Nd
