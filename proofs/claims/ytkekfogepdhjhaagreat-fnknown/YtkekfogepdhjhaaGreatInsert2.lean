/- A number put into a row of the call's own, wherever its place is. -/
import Derived.Test.YtkekfogepdhjhaaGreatInsert
set_option linter.unusedVariables false
namespace Go.Proofs.YtkekfogepdhjhaaGreat
open Go.RowKit Own Var Term

set_option maxRecDepth 100000 in
set_option maxHeartbeats 1600000 in
theorem ins_end (B : Nat) (b : Option Addr) (n c : Nat) (ks : List Int) (x : Int) (w : World) (hn : ks.length = n) (hown : w.ownsRow B 3 1 (.slice b n c) n (intV ks)) (hl : n ≤ 1048576) (hB : B ≤ w.heap.size) (hnc : n ≤ c) (hcm : c ≤ maxLen) :
    Calls Tryz.prog 45 #[.slice b n c, .int .i64 n, .slice (some ⟨w.heap.size, 0, none⟩) 1 1] (w.alloc (.cells #[.int .i64 x] 3)) fun e w' => ∃ v, e = .returned v ∧ w'.ownsRow B 3 1 v (n + 1) (intV (ks ++ [x])) ∧ (w.alloc (.cells #[.int .i64 x] 3)).grownBy w' (Value.slice b n c).ownBlock ∧ (v.ownBlock = (Value.slice b n c).ownBlock ∨ v.ownBlock = some (w.heap.size + 1)) := by
  obtain ⟨i0, hi, hz0, hz1, hz2⟩ := info_parts infoInt
  unfold maxLen at hcm
  by_cases hcc : n = c
  · subst hcc
    go_enter Tryz.func45, Tryz.ntmps45
    go_wp2_with (first | (at_builtin; refine wpList_append_own_at _ rfl _ _ 25 rfl B 3 i0 (.int .i64 0) 1 8 Tryz.underlying25 hi hz0 hz1 hz2 rfl (by decide) _ _ _ rfl (hown.alloc _) ⟨w.heap.size, 0, none⟩ 1 1 [.int .i64 x] rfl rfl (cell_one_new _ _ _) ?c2 ?c3 ?c4 ?c5 ?_) | go_in)
    case c2 => first | rfl | (intro u hu; simp at hu; subst hu; rfl)
    case c3 => unfold maxLen; omega
    case c4 => omega
    case c5 => simp; omega
    intro v' w4 hown' hgrow _ hloc
    rw [intV_snoc] at hown'
    go_wp2
    go_ret
    exact ⟨_, rfl, hown', hgrow, hloc⟩
  · have i1 : (n : Int) < (c : Int) := by omega
    have i2 : ¬ (n : Int) = (c : Int) := by omega
    go_enter Tryz.func45, Tryz.ntmps45
    go_wp2_with (first | (at_builtin; refine wpList_append_own_at _ rfl _ _ 25 rfl B 3 i0 (.int .i64 0) 1 8 Tryz.underlying25 hi hz0 hz1 hz2 rfl (by decide) _ _ _ rfl (hown.alloc _) ⟨w.heap.size, 0, none⟩ 1 1 [.int .i64 x] rfl rfl (cell_one_new _ _ _) ?c2 ?c3 ?c4 ?c5 ?_) | go_in)
    case c2 => first | rfl | (intro u hu; simp at hu; subst hu; rfl)
    case c3 => unfold maxLen; omega
    case c4 => omega
    case c5 => simp; omega
    intro v' w4 hown' hgrow _ hloc
    rw [intV_snoc] at hown'
    go_wp2
    go_ret
    exact ⟨_, rfl, hown', hgrow, hloc⟩

theorem cells_get {cs : List Value} {cur : Array Value} {n : Nat} (h : cur.toList.take n = cs) {j : Nat} {v : Value} (hj : cs[j]? = some v) : cur[j]? = some v := by
  rw [← h, List.getElem?_take] at hj
  split at hj
  · simpa using hj
  · cases hj

theorem ins_shift (B g c i : Nat) (ks : List Int) (x : Int) (w : World) (hown : w.ownsRow B 3 1 (.slice (some ⟨g, 0, none⟩) ks.length c) ks.length (intV ks)) (hl : ks.length ≤ 1048576) (hi : i < ks.length) (hroom : ks.length + 1 ≤ c) :
    Calls Tryz.prog 45 #[.slice (some ⟨g, 0, none⟩) ks.length c, .int .i64 i, .slice (some ⟨w.heap.size, 0, none⟩) 1 1] (w.alloc (.cells #[.int .i64 x] 3)) fun e w' => ∃ v, e = .returned v ∧ w'.ownsRow B 3 1 v (ks.length + 1) (intV (ks.take i ++ x :: ks.drop i)) ∧ (w.alloc (.cells #[.int .i64 x] 3)).grownBy w' (some g) ∧ (v.ownBlock = some g ∨ v.ownBlock = some (w.heap.size + 1)) := by
  obtain ⟨W, hW⟩ : ∃ W, w.alloc (.cells #[.int .i64 x] 3) = W := ⟨_, rfl⟩
  have hownW : W.ownsRow B 3 1 (.slice (some ⟨g, 0, none⟩) ks.length c) ks.length (intV ks) := by rw [← hW]; exact hown.alloc _
  have hlt := (hown.lt g rfl).2
  have hnew : W.heap[w.heap.size]? = some (.cells #[.int .i64 x] 3 (0, 0)) := by rw [← hW]; show (w.heap.push _)[w.heap.size]? = _; simp
  have hcx : W.cell? ⟨w.heap.size, 0, none⟩ = some (.int .i64 x) := by rw [← hW]; simp [go_sem]
  have hfx : ∀ j, W.frozen? ⟨w.heap.size, j, none⟩ = false := by intro j; rw [← hW]; simp [go_sem]
  rw [hW]
  rcases hownW.2 with ⟨h', _⟩ | ⟨g', cap', cur, h', hb, hg, hnc, hcm, hcs, htake⟩
  · simp at h'
  · simp only [Value.slice.injEq, Option.some.injEq, Addr.mk.injEq, and_true, true_and] at h'
    obtain ⟨rfl, rfl⟩ := h'
    rw [Nat.mul_one] at hcs htake
    have hcell : ∀ j, j < c → ∃ u, W.cell? ⟨g, j, none⟩ = some u := fun j hj => by
      rw [cell_of_row W g j cur 3 (0, 0) hg]
      exact ⟨_, Array.getElem?_eq_getElem (by omega)⟩
    have hfz : ∀ j, W.frozen? ⟨g, j, none⟩ = false := fun j => hownW.frozenAt j
    unfold maxLen at hcm
    have H := Any2.slices_Insert_int_shift Tryz.laysNm221 g 0 ks.length c i w.heap.size 0 1 1 (intV ks) [.int .i64 x] W hi (by omega) hroom (by omega) (by omega) (by simp [intV]) rfl
      (fun j v hj => by rw [Nat.zero_add, cell_of_row W g j cur 3 (0, 0) hg]; exact cells_get htake hj)
      (fun j hj => by obtain ⟨u, hu⟩ := hcell j (by omega); rw [Nat.zero_add, hu]; rfl) (fun j hj => hfz _)
      (fun j v hj => by
        match j, hj with
        | 0, hj => simp at hj; subst hj; exact hcx)
      (one_int ks) (by intro u hu; simp at hu; subst hu; rfl)
      3 3 1 c (by simp [World.shape?, hnew]) (by simp [World.shape?, hg, hcs]) (by omega) (hfx 0) (hfx 1)
    refine H.mono ?_
    rintro e w' ⟨rfl, rfl⟩
    have hgd : W.drew.heap[g]? = some (.cells cur 3 (0, 0)) := hg
    have hlk : (intV ks).length = ks.length := by simp [intV]
    obtain ⟨cu1, h1, e1⟩ := heap_cells (e := 3) ((intV ks).drop i) (0 + (i + 1)) W.drew cur hgd (by rw [List.length_drop, hlk]; omega)
    have hl1 : cu1.size = c := by
      have : cu1.toList.length = cu1.size := rfl
      have h2 : cur.toList.length = cur.size := rfl
      rw [← this, e1]; simp only [List.length_append, List.length_take, List.length_drop, hlk, h2]; omega
    obtain ⟨cu2, h2, e2⟩ := heap_cells (e := 3) [.int .i64 x] (0 + i) _ cu1 h1 (by rw [hl1]; simp; omega)
    have hl2 : cu2.size = c := by
      have t1 : cu2.toList.length = cu2.size := rfl
      have t2 : cu1.toList.length = cu1.size := rfl
      rw [← t1, e2]; simp only [List.length_append, List.length_take, List.length_drop, t2, hl1, List.length_singleton]; omega
    have hcl : cur.toList.length = c := hcs
    have fin : cu2.toList.take (ks.length + 1) = intV (ks.take i ++ x :: ks.drop i) := by
      have ti : cu1.toList.take i = (intV ks).take i := by
        rw [e1, Nat.zero_add, List.append_assoc, List.take_append_of_le_length (by rw [List.length_take]; omega), List.take_take, ← htake, List.take_take]
        congr 1
        omega
      have td : cu1.toList.drop (i + 1) = (intV ks).drop i ++ cur.toList.drop (ks.length + 1) := by
        rw [e1, Nat.zero_add, List.append_assoc, List.drop_append_of_le_length (by rw [List.length_take]; omega), List.drop_of_length_le (by rw [List.length_take]; omega), List.nil_append]
        congr 2
        rw [List.length_drop, hlk]; omega
      rw [e2, Nat.zero_add, ti]
      have tl : ([Value.int .i64 x] : List Value).length = 1 := rfl
      rw [tl, td, ← List.append_assoc]
      rw [List.take_append_of_le_length (by simp only [List.length_append, List.length_take, List.length_drop, hlk, List.length_singleton]; omega), List.take_of_length_le (by simp only [List.length_append, List.length_take, List.length_drop, hlk, List.length_singleton]; omega)]
      unfold intV
      simp
    refine ⟨_, rfl, ⟨by rw [← fin]; simp only [List.length_take]; have : cu2.toList.length = cu2.size := rfl; omega, Or.inr ⟨g, c, cu2, rfl, hb, h2, hroom, by unfold maxLen; omega, by rw [hl2]; omega, by rw [Nat.mul_one]; exact fin⟩⟩, ?_, Or.inl rfl⟩
    have g0 : W.grownBy W.drew (some g) := ⟨rfl, rfl, rfl, Nat.le_refl _, fun _ _ _ => rfl⟩
    exact (g0.trans (grown_cells g _ _ _)).trans (grown_cells g _ _ _)

theorem zero_size (k : Nat) : (Builtin.zeroCells (Value.int .i64 0).cells k).size = k := by simp [Builtin.zeroCells, Value.cells]

theorem ins_grow (B g c i : Nat) (ks : List Int) (x : Int) (w : World) (hown : w.ownsRow B 3 1 (.slice (some ⟨g, 0, none⟩) ks.length c) ks.length (intV ks)) (hl : ks.length ≤ 1048576) (hi : i < ks.length) (hroom : c < ks.length + 1) (hB : B ≤ w.heap.size) :
    Calls Tryz.prog 45 #[.slice (some ⟨g, 0, none⟩) ks.length c, .int .i64 i, .slice (some ⟨w.heap.size, 0, none⟩) 1 1] (w.alloc (.cells #[.int .i64 x] 3)) fun e w' => ∃ v, e = .returned v ∧ w'.ownsRow B 3 1 v (ks.length + 1) (intV (ks.take i ++ x :: ks.drop i)) ∧ (w.alloc (.cells #[.int .i64 x] 3)).grownBy w' (some g) ∧ (v.ownBlock = some g ∨ v.ownBlock = some (w.heap.size + 1)) := by
  obtain ⟨W, hW⟩ : ∃ W, w.alloc (.cells #[.int .i64 x] 3) = W := ⟨_, rfl⟩
  have hownW : W.ownsRow B 3 1 (.slice (some ⟨g, 0, none⟩) ks.length c) ks.length (intV ks) := by rw [← hW]; exact hown.alloc _
  have hz : W.heap.size = w.heap.size + 1 := by rw [← hW]; simp
  have hcx : W.cell? ⟨w.heap.size, 0, none⟩ = some (.int .i64 x) := by rw [← hW]; simp [go_sem]
  rw [hW]
  rcases hownW.2 with ⟨h', _⟩ | ⟨g', cap', cur, h', hb, hg, hnc, hcm, hcs, htake⟩
  · simp at h'
  · simp only [Value.slice.injEq, Option.some.injEq, Addr.mk.injEq, and_true, true_and] at h'
    obtain ⟨rfl, rfl⟩ := h'
    rw [Nat.mul_one] at hcs htake
    have hlk : (intV ks).length = ks.length := by simp [intV]
    have H := Any2.slices_Insert_int_grow Tryz.laysNm221 g 0 ks.length c i w.heap.size 0 1 1 (intV ks) [.int .i64 x] W hi (by omega) hnc hroom (by omega) hlk rfl
      (fun j v hj => by rw [Nat.zero_add, cell_of_row W g j cur 3 (0, 0) hg]; exact cells_get htake hj)
      (fun j v hj => by
        match j, hj with
        | 0, hj => simp at hj; subst hj; exact hcx)
      (one_int ks) (by intro u hu; simp at hu; subst hu; rfl)
    refine H.mono ?_
    rintro e w' ⟨rfl, rfl⟩
    have hge := grownCap_ge W (ks.length + 1) c 3
    have hle := grownCap_le_maxLen W (ks.length + 1) c 3 (by unfold maxLen; omega)
    have hrt : Tryz.laysNm221_ren.t 3 = 3 := rfl
    rw [hrt]
    generalize grownCap W (ks.length + 1) c 3 = cap at hge hle ⊢
    obtain ⟨cur0, hc0⟩ : ∃ cur0 : Array Value, ((intV ks).take i).toArray ++ Builtin.zeroCells (Value.int .i64 0).cells (ks.length + 1 - i) ++ Builtin.zeroCells (Value.int .i64 0).cells (cap - (ks.length + 1)) = cur0 := ⟨_, rfl⟩
    rw [hc0]
    have hs0 : cur0.size = cap := by rw [← hc0]; simp only [Array.size_append, zero_size, List.size_toArray, List.length_take, hlk]; omega
    have ht0 : cur0.toList.take i = (intV ks).take i := by
      rw [← hc0]
      simp only [Array.toList_append, List.append_assoc]
      rw [List.take_append_of_le_length (by simp only [List.length_take, hlk]; omega), List.take_of_length_le (by simp only [List.length_take, hlk]; omega)]
    have hg0 : (W.alloc (.cells cur0 3)).drew.heap[W.heap.size]? = some (.cells cur0 3 (0, 0)) := by show (W.heap.push _)[W.heap.size]? = _; simp
    obtain ⟨cu1, h1, e1⟩ := heap_cells (e := 3) [.int .i64 x] i (W.alloc (.cells cur0 3)).drew cur0 hg0 (by rw [hs0]; simp; omega)
    have hl1 : cu1.toList.length = cap := by
      have t2 : cur0.toList.length = cur0.size := rfl
      rw [e1]; simp only [List.length_append, List.length_take, List.length_drop, List.length_singleton, t2, hs0]; omega
    obtain ⟨cu2, h2, e2⟩ := heap_cells (e := 3) ((intV ks).drop i) (i + 1) ((W.alloc (.cells cur0 3)).drew.setCells W.heap.size i [.int .i64 x]).drew cu1 h1 (by have : cu1.toList.length = cu1.size := rfl; rw [List.length_drop, hlk]; omega)
    have hl2 : cu2.toList.length = cap := by
      rw [e2]; simp only [List.length_append, List.length_take, List.length_drop, hlk, hl1]; omega
    have fin : cu2.toList.take (ks.length + 1) = intV (ks.take i ++ x :: ks.drop i) := by
      have t0 : cur0.toList.length = cap := hs0
      have t1 : cu1.toList.take (i + 1) = (intV ks).take i ++ [.int .i64 x] := by
        rw [e1, ht0, List.take_append_of_le_length (by simp only [List.length_append, List.length_take, List.length_singleton, hlk]; omega), List.take_of_length_le (by simp only [List.length_append, List.length_take, List.length_singleton, hlk]; omega)]
      rw [e2, t1, List.take_append_of_le_length (by simp only [List.length_append, List.length_take, List.length_drop, List.length_singleton, hlk]; omega), List.take_of_length_le (by simp only [List.length_append, List.length_take, List.length_drop, List.length_singleton, hlk]; omega)]
      unfold intV
      simp
    have hsz2 : cu2.size = cap := hl2
    refine ⟨_, rfl, ⟨by rw [← fin]; simp only [List.length_take]; omega, Or.inr ⟨W.heap.size, cap, cu2, rfl, by omega, h2, hge, hle, by rw [hsz2]; omega, by rw [Nat.mul_one]; exact fin⟩⟩, ?_, Or.inr (by show some W.heap.size = _; rw [hz])⟩
    have b1 := grown_cells W.heap.size [.int .i64 x] i (W.alloc (.cells cur0 3)).drew
    have b2 := grown_cells W.heap.size ((intV ks).drop i) (i + 1) ((W.alloc (.cells cur0 3)).drew.setCells W.heap.size i [.int .i64 x]).drew
    have b0 : Below W.heap.size W (W.alloc (.cells cur0 3)).drew := ((Below.refl _ W).alloc (Nat.le_refl _) _).drew
    exact ⟨b2.os.trans (b1.os.trans b0.os), b2.tape.trans (b1.tape.trans b0.tape), b2.output.trans (b1.output.trans b0.output), Nat.le_trans b0.size (Nat.le_trans b1.size b2.size),
      fun j hj _ => (b2.block j (Nat.lt_of_lt_of_le hj (Nat.le_trans b0.size b1.size)) (fun e => by simp at e; omega)).trans ((b1.block j (Nat.lt_of_lt_of_le hj b0.size) (fun e => by simp at e; omega)).trans (b0.block j hj))⟩

theorem ins_is (B : Nat) (b : Option Addr) (c i : Nat) (ks : List Int) (x : Int) (w : World) (hown : w.ownsRow B 3 1 (.slice b ks.length c) ks.length (intV ks)) (hl : ks.length ≤ 1048576) (hi : i ≤ ks.length) (hB : B ≤ w.heap.size) :
    Calls Tryz.prog 45 #[.slice b ks.length c, .int .i64 i, .slice (some ⟨w.heap.size, 0, none⟩) 1 1] (w.alloc (.cells #[.int .i64 x] 3)) fun e w' => ∃ v, e = .returned v ∧ w'.ownsRow B 3 1 v (ks.length + 1) (intV (ks.take i ++ x :: ks.drop i)) ∧ (w.alloc (.cells #[.int .i64 x] 3)).grownBy w' (Value.slice b ks.length c).ownBlock ∧ (v.ownBlock = (Value.slice b ks.length c).ownBlock ∨ v.ownBlock = some (w.heap.size + 1)) := by
  rcases hown.2 with ⟨h', h0⟩ | ⟨g, cap', cur, h', _, _, hnc, hcm, _⟩
  · simp only [Value.slice.injEq] at h'
    obtain ⟨rfl, _, rfl⟩ := h'
    obtain rfl : i = ks.length := by omega
    have := ins_end B none ks.length 0 ks x w rfl hown hl hB (by omega) (by unfold maxLen; omega)
    rw [List.take_length, List.drop_length]
    exact this
  · simp only [Value.slice.injEq] at h'
    obtain ⟨rfl, _, rfl⟩ := h'
    by_cases e : i = ks.length
    · subst e
      have := ins_end B (some ⟨g, 0, none⟩) ks.length c ks x w rfl hown hl hB hnc hcm
      rw [List.take_length, List.drop_length]
      exact this
    · by_cases hc : ks.length + 1 ≤ c
      · exact ins_shift B g c i ks x w hown hl (by omega) hc
      · exact ins_grow B g c i ks x w hown hl (by omega) (by omega) hB
end Go.Proofs.YtkekfogepdhjhaaGreat
