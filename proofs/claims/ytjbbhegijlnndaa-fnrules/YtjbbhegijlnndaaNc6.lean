/- Rules copied. -/
import Derived.Test.YtjbbhegijlnndaaNc1
set_option linter.unusedVariables false
set_option maxRecDepth 100000
namespace Go.Proofs.Ytjbbhegijlnndaa.Nd
open Go Go.RowKit Go.Joins Own Draw

set_option maxRecDepth 100000 in
set_option maxHeartbeats 6400000 in
theorem toT_is (p : TT) (w : World) (hd : DpT w p) (hl : totT p ≤ 1048576) : Calls Try.prog 68 #[vT p] w fun en w' => ∃ y : TT, en = .returned (vT y) ∧ stT y = stT p ∧ OwT w.heap.size w' y ∧ Below w.heap.size w w' := by
  obtain ⟨ie, hie, his⟩ := info_T
  obtain ⟨f0, f1, f2⟩ := p
  unfold totT at hl
  unfold DpT at hd
  dsimp only at hl hd
  have hd1 := hd
  obtain ⟨V0, hV0⟩ : ∃ V, ((w.alloc (.cells #[.int .i64 f0, .slice f1.1 f1.2.2.length f1.2.1, .int .i64 f2] 88)).alloc (.cells #[.int .i64 0, .slice none 0 0, .int .i64 0] 59)).alloc (.cells #[.int .i64 f0, .slice none 0 0, .int .i64 0] 59) = V := ⟨_, rfl⟩
  have BC : Below w.heap.size w V0 := by rw [← hV0]; exact (((Below.refl _ _).alloc (Nat.le_refl _) _).alloc (by simp) _).alloc (by simp; omega) _
  have TA : Blk w.heap.size [.int .i64 f0, .slice f1.1 f1.2.2.length f1.2.1, .int .i64 f2] V0 := by rw [← hV0]; exact ((Blk.new w #[.int .i64 f0, .slice f1.1 f1.2.2.length f1.2.1, .int .i64 f2] 88).alloc (by simp) _).alloc (by simp; omega) _
  have TR : Blk (w.heap.size + 1) [.int .i64 0, .slice none 0 0, .int .i64 0] V0 := by rw [← hV0]; have := (Blk.new (w.alloc (.cells #[.int .i64 f0, .slice f1.1 f1.2.2.length f1.2.1, .int .i64 f2] 88)) #[.int .i64 0, .slice none 0 0, .int .i64 0] 59).alloc (by simp) (.cells #[.int .i64 f0, .slice none 0 0, .int .i64 0] 59); simpa using this
  have TO : Blk (w.heap.size + 1 + 1) [.int .i64 f0, .slice none 0 0, .int .i64 0] V0 := by rw [← hV0]; have := Blk.new ((w.alloc (.cells #[.int .i64 f0, .slice f1.1 f1.2.2.length f1.2.1, .int .i64 f2] 88)).alloc (.cells #[.int .i64 0, .slice none 0 0, .int .i64 0] 59)) #[.int .i64 f0, .slice none 0 0, .int .i64 0] 59; simpa using this
  have ZS : Hid (w.heap.size + 3 ≤ V0.heap.size) := by show _ ≤ _; rw [← hV0]; simp
  have a0 := TA.at 0 rfl
  have a1 := TA.at 1 rfl
  go_enter Try.func68, Try.ntmps68
  go_wp2_with fail
  try rw [hV0]
  refine (toSI_u f1 V0 (hd1.later BC) (by omega)).mono ?_
  clear hV0 a0 a1
  rintro en v1 ⟨y1, rfl, hs1, ho1, hb⟩
  replace ho1 := ho1.le ZS.out
  replace TA := TA.later hb (by have := ZS.out; omega)
  replace TR := TR.later hb (by have := ZS.out; omega)
  replace TO := TO.later hb (by have := ZS.out; omega)
  replace BC := BC.trans (hb.mono BC.size)
  replace ZS : Hid (w.heap.size + 3 ≤ v1.heap.size) := Nat.le_trans ZS.out hb.size
  clear hb
  have a2 := TA.at 2 rfl
  have o1 := TO.at 1 rfl
  have z1 := TO.fz 1 rfl
  have o2 := TO.at 2 rfl
  have z2 := TO.fz 2 rfl
  obtain ⟨V1, hV1⟩ : ∃ V, ((v1.setCell ⟨(w.heap.size + 1 + 1), 1, none⟩ (.slice y1.1 y1.2.2.length y1.2.1)).setCell ⟨(w.heap.size + 1 + 1), 2, none⟩ (.int .i64 f2)) = V := ⟨_, rfl⟩
  have hV1_ : v1.setCells (w.heap.size + 1 + 1) 1 [.slice y1.1 y1.2.2.length y1.2.1, .int .i64 f2] = V1 := hV1
  have BC_ : Below w.heap.size w V1 := by rw [← hV1_]; exact below_sets (by omega) _ _ _ BC
  have TA_ : Blk w.heap.size [.int .i64 f0, .slice f1.1 f1.2.2.length f1.2.1, .int .i64 f2] V1 := by rw [← hV1_]; exact Blk.farS (by omega) _ _ _ TA
  have TR_ : Blk (w.heap.size + 1) [.int .i64 0, .slice none 0 0, .int .i64 0] V1 := by rw [← hV1_]; exact Blk.farS (by omega) _ _ _ TR
  have TO_ : Blk (w.heap.size + 1 + 1) [.int .i64 f0, .slice y1.1 y1.2.2.length y1.2.1, .int .i64 f2] V1 := by rw [← hV1_]; exact TO.part 1 [.slice y1.1 y1.2.2.length y1.2.1, .int .i64 f2] _ (by simp) rfl
  have ho1_ := ho1.far (sets_grown (w.heap.size + 1 + 1) [.slice y1.1 y1.2.2.length y1.2.1, .int .i64 f2] 1 v1) (by omega)
  rw [hV1_] at ho1_
  have ZS_ : Hid (w.heap.size + 3 ≤ V1.heap.size) := Nat.le_trans ZS.out (by rw [← hV1_]; exact (sets_grown (w.heap.size + 1 + 1) _ _ _).size)
  obtain ⟨VF, hVF⟩ : ∃ V, V1.setCells (w.heap.size + 1) 0 [.int .i64 f0, .slice y1.1 y1.2.2.length y1.2.1, .int .i64 f2] = V := ⟨_, rfl⟩
  have TF : Blk (w.heap.size + 1) [.int .i64 f0, .slice y1.1 y1.2.2.length y1.2.1, .int .i64 f2] VF := by rw [← hVF]; exact TR_.sets _ rfl
  have BF : Below w.heap.size w VF := by rw [← hVF]; exact below_sets (by omega) _ _ _ BC_
  have hw1 := (ho1_.far (sets_grown (w.heap.size + 1) [.int .i64 f0, .slice y1.1 y1.2.2.length y1.2.1, .int .i64 f2] 0 V1) (by omega)).le (by omega : w.heap.size ≤ w.heap.size + 3)
  rw [hVF] at hw1
  clear TA TR TO BC ZS hV1_ TA_ BC_ ZS_ ho1 ho1_
  go_wp2_with (first | (refine wpList_ldB 59 _ (w.heap.size + 1 + 1) 0 _ [.int .i64 f0, .slice y1.1 y1.2.2.length y1.2.1, .int .i64 f2] ie hie (Try.isAgg59) TO_ his.symm rfl rfl rfl rfl ?_) | (refine wpList_stB 59 _ _ (w.heap.size + 1) 0 _ [.int .i64 f0, .slice y1.1 y1.2.2.length y1.2.1, .int .i64 f2] ie hie TR_ his.symm (by simp) rfl rfl rfl rfl rfl ?_; rw [hVF]) | go_in)
  exact bodyPost_ret (res_B1 rfl _ _ (w.heap.size + 1) [.int .i64 f0, .slice y1.1 y1.2.2.length y1.2.1, .int .i64 f2] ie hie (Try.isAgg59) TF his.symm rfl) rfl ⟨(f0, y1, f2), rfl, by unfold stT; dsimp only; rw [hs1], hw1, BF⟩
theorem infoTr : (Try.prog.info? 59).map (fun i => (i.zero, i.size, i.bytes)) = some (some (.agg #[.int .i64 0, .slice none 0 0, .int .i64 0]), 3, 40) := by kernel_rfl
set_option maxRecDepth 100000 in
set_option maxHeartbeats 3200000 in
theorem toST_is (r : Rw TT) (w : World) (hd : RpT w r) (hl : rtT r ≤ 1048576) : Calls Try.prog 31 #[.slice r.1 r.2.2.length r.2.1] w fun en w' => ∃ y : Rw TT, en = .returned (.slice y.1 y.2.2.length y.2.1) ∧ rsT y = rsT r ∧ RoT w.heap.size w' y ∧ Below w.heap.size w w' := by
  obtain ⟨a, cap, xs⟩ := r
  obtain ⟨hr, hDp⟩ := hd
  dsimp only at hr hDp hl ⊢
  have hxl := rtT_len (a, cap, xs)
  dsimp only at hxl
  have hte : ∀ x ∈ xs, totT x ≤ 1048576 := fun x hx => by
    have h1 : totT x ≤ (xs.map totT).sum := le_sum_of_mem (List.mem_map_of_mem hx)
    have h2 : rtT (a, cap, xs) = xs.length + (xs.map totT).sum := rfl
    omega
  obtain ⟨i0, hi, hz0, hz1, hz2⟩ := info_parts infoTr
  obtain ⟨ie, hie, his⟩ := info_T
  go_enter Try.func31, Try.ntmps31
  go_wp2_with (first | (at_make; refine wpList_make_full _ rfl _ _ 24 rfl w.heap.size 59 i0 (.agg #[.int .i64 0, .slice none 0 0, .int .i64 0]) 3 Try.underlying24 hi hz0 hz1 .i64 .i64 xs.length xs.length xs.length rfl rfl rfl rfl (by rw [hz2]; omega) (by unfold maxLen; omega) (Nat.le_refl _) ?_) | go_in)
  intro w1 hown hgrow
  have hbel := (Below.refl w.heap.size w).grown hgrow (Nat.le_refl _) (by simp)
  clear hgrow
  have H0 : ∃ (ys : List TT) (Jk : List Value), ys.length = 0 ∧ ys.map stT = (xs.take 0).map stT ∧ w1.ownsRow w.heap.size 59 3 (.slice (some ⟨w.heap.size, 0, none⟩) xs.length xs.length) xs.length (fl cT ys ++ Jk) ∧ (∀ y ∈ ys, OwT (w.heap.size + 1) w1 y) := ⟨[], _, rfl, rfl, hown, fun y hy => by cases hy⟩
  clear hown
  go_wp2
  go_loopw [4] (fun iv wr => ∃ k : Nat, k ≤ xs.length ∧ iv = .int .i64 k ∧ (∃ (ys : List TT) (Jk : List Value), ys.length = k ∧ ys.map stT = (xs.take k).map stT ∧ wr.ownsRow w.heap.size 59 3 (.slice (some ⟨w.heap.size, 0, none⟩) xs.length xs.length) xs.length (fl cT ys ++ Jk) ∧ (∀ y ∈ ys, OwT (w.heap.size + 1) wr y)) ∧ Below w.heap.size w wr) (fun iv _ => xs.length - (intOf iv).toNat)
  case atStart => exact ⟨0, by omega, rfl, H0, hbel⟩
  case round =>
    clear H0 hbel
    obtain ⟨k, hk, rfl, ⟨ys, Jk, hyl, hys, hown, hO⟩, hbel⟩ := hrel
    have hJ : k * 3 + Jk.length = xs.length * 3 := by have := hown.1; rw [List.length_append, fl_len lT, hyl] at this; exact this
    by_cases hlt : k < xs.length
    · obtain ⟨b1, o1, rfl, l1, hcc⟩ := hr k hlt
      have c0 : wr.cell? ⟨b1, o1 + k * 3, none⟩ = some (.int .i64 xs[k].1) := (hbel.cell (p := ⟨b1, o1 + k * 3, none⟩) l1).trans (hcc 0 _ rfl)
      have c1 : wr.cell? ⟨b1, o1 + k * 3 + 1, none⟩ = some (.slice xs[k].2.1.1 xs[k].2.1.2.2.length xs[k].2.1.2.1) := (hbel.cell (p := ⟨b1, o1 + k * 3 + 1, none⟩) l1).trans (hcc 1 _ rfl)
      have c2 : wr.cell? ⟨b1, o1 + k * 3 + 2, none⟩ = some (.int .i64 xs[k].2.2) := (hbel.cell (p := ⟨b1, o1 + k * 3 + 2, none⟩) l1).trans (hcc 2 _ rfl)
      have K1 := toT_is xs[k] wr ((hDp _ (List.getElem_mem hlt)).later hbel) (hte _ (List.getElem_mem hlt))
      have hsn : (xs.take (k + 1)).map stT = (xs.take k).map stT ++ [stT xs[k]] := by rw [List.take_succ_eq_append_getElem hlt, List.map_append]; rfl
      have hlt2 : (k : Int) < (xs.length : Int) := by omega
      have hgw : w.heap.size < wr.heap.size := (hown.lt _ rfl).2
      generalize xs[k] = x at K1 hsn c0 c1 c2
      clear hcc
      go_wp2_with fail
      refine K1.mono ?_
      clear K1 c0 c1 c2
      rintro en w2 ⟨y, rfl, hsy, hoy, hb2⟩
      replace hown := own_later hown hb2
      replace hbel := hbel.trans (hb2.mono hbel.size)
      replace hO : ∀ y ∈ ys, OwT (w.heap.size + 1) w2 y := fun z hz => (hO z hz).later hb2
      replace hoy := hoy.le (by omega : w.heap.size + 1 ≤ wr.heap.size)
      clear hb2
      have hp := fl_put (f := cT) lT ys Jk y (by omega)
      rw [hyl] at hp
      have hG := sets_grown w.heap.size (cT y) (k * 3) w2
      have hS := own_sets (cT y) (k * 3) w2 _ rfl hown
      rw [hp] at hS
      have hO2 : ∀ z ∈ ys ++ [y], OwT (w.heap.size + 1) (w2.setCells w.heap.size (k * 3) (cT y)) z := by
        intro z hz
        rcases List.mem_append.1 hz with hz | hz
        · exact (hO z hz).far hG (by omega)
        · rw [List.mem_singleton.1 hz]; exact hoy.far hG (by omega)
      have B2 := below_sets (m := w.heap.size) (Nat.le_refl _) (cT y) (k * 3) w2 hbel
      have hco : ∀ j, j < xs.length * 3 → (∃ u, w2.cell? ⟨w.heap.size, j, none⟩ = some u) ∧ w2.frozen? ⟨w.heap.size, j, none⟩ = false := fun j hj => by
        have h1 := hown.cellAt j (by have := hown.1; omega)
        have h2 : j < (fl cT ys ++ Jk).length := by have := hown.1; omega
        rw [List.getElem?_eq_getElem h2] at h1
        exact ⟨⟨_, h1⟩, hown.frozenAt j⟩
      obtain ⟨W3, hW3⟩ : ∃ V, w2.setCells w.heap.size (k * 3) (cT y) = V := ⟨_, rfl⟩
      rw [hW3] at hS hO2 B2
      have HR : Hid (∃ k' : Nat, k' ≤ xs.length ∧ Value.int .i64 ((k : Int) + 1) = .int .i64 k' ∧ (∃ (ys : List TT) (Jk : List Value), ys.length = k' ∧ ys.map stT = (xs.take k').map stT ∧ W3.ownsRow w.heap.size 59 3 (.slice (some ⟨w.heap.size, 0, none⟩) xs.length xs.length) xs.length (fl cT ys ++ Jk) ∧ (∀ y ∈ ys, OwT (w.heap.size + 1) W3 y)) ∧ Below w.heap.size w W3) :=
        ⟨k + 1, by omega, by go_num, ⟨ys ++ [y], _, by simp [hyl], by rw [List.map_append, hys, hsn, ← hsy]; rfl, hS, hO2⟩, B2⟩
      have hk16 : k * 3 + 3 ≤ xs.length * 3 := by have := Nat.mul_le_mul_right 3 hlt; omega
      clear hS hO2 B2 hG hp hO hoy hown hys hsn hyl hJ
      go_wp2_with (first | (refine wpList_stO 59 _ _ w.heap.size (k * 3) [.int .i64 y.1, .slice y.2.1.1 y.2.1.2.2.length y.2.1.2.1, .int .i64 y.2.2] ie hie his.symm rfl (fun j hj => hco _ (by simp at hj; omega)) rfl rfl rfl rfl ?_; rw [hW3]) | go_in)
      go_roundw
      case rel => exact HR.out
      case measure => simp [intOf]; omega
    · obtain rfl : k = xs.length := by omega
      have hj0 : Jk = [] := List.length_eq_zero_iff.1 (by omega)
      subst hj0
      rw [List.append_nil] at hown
      rw [List.take_length] at hys
      go_wp2
      go_ret
      refine ⟨(some ⟨w.heap.size, 0, none⟩, xs.length, ys), by rw [hyl]; rfl, hys, ⟨?_, fun y hy => (hO y hy).le (Nat.le_succ _)⟩, hbel⟩
      show World.ownsRow _ _ _ _ (.slice _ ys.length _) ys.length _
      rw [hyl]; exact hown
end Go.Proofs.Ytjbbhegijlnndaa.Nd

set_option linter.unusedVariables false
set_option maxRecDepth 100000
namespace Go.Proofs.Ytjbbhegijlnndaa.Nd
open Go Go.RowKit Go.Joins Own Draw

set_option maxRecDepth 100000 in
set_option maxHeartbeats 6400000 in
theorem eqT_is (x y : TT) (w : World) (hx : DpT w x) (hy : DpT w y) (hs : stT x = stT y) (hl : totT x ≤ 1048576) : Calls Try.prog 70 #[vT x, vT y] w fun en w' => en = .returned (.bool true) ∧ Below w.heap.size w w' := by
  obtain ⟨f0, f1, f2⟩ := x
  obtain ⟨g0, g1, g2⟩ := y
  unfold stT at hs
  unfold DpT at hx hy
  unfold totT at hl
  dsimp only at hx hy hl
  simp only [Prod.mk.injEq] at hs
  obtain ⟨e0, e1, e2⟩ := hs
  have hx1 := hx
  have hy1 := hy
  subst e0
  subst e2
  obtain ⟨V, hV⟩ : ∃ V, (w.alloc (.cells #[.int .i64 f0, .slice f1.1 f1.2.2.length f1.2.1, .int .i64 f2] 59)).alloc (.cells #[.int .i64 f0, .slice g1.1 g1.2.2.length g1.2.1, .int .i64 f2] 59) = V := ⟨_, rfl⟩
  have BC : Below w.heap.size w V := by rw [← hV]; exact ((Below.refl _ _).alloc (Nat.le_refl _) _).alloc (by simp) _
  have TA : Blk w.heap.size [.int .i64 f0, .slice f1.1 f1.2.2.length f1.2.1, .int .i64 f2] V := by rw [← hV]; exact (Blk.new w #[.int .i64 f0, .slice f1.1 f1.2.2.length f1.2.1, .int .i64 f2] 59).alloc (by simp) _
  have TB : Blk (w.heap.size + 1) [.int .i64 f0, .slice g1.1 g1.2.2.length g1.2.1, .int .i64 f2] V := by rw [← hV]; have := Blk.new (w.alloc (.cells #[.int .i64 f0, .slice f1.1 f1.2.2.length f1.2.1, .int .i64 f2] 59)) #[.int .i64 f0, .slice g1.1 g1.2.2.length g1.2.1, .int .i64 f2] 59; simpa using this
  have p0 := TA.at 0 rfl
  have q0 := TB.at 0 rfl
  have p1 := TA.at 1 rfl
  have q1 := TB.at 1 rfl
  go_enter Try.func70, Try.ntmps70
  go_wp2_with fail
  try rw [hV]
  refine (eqSI_u f1 g1 _ (hx1.later BC) (hy1.later BC) e1 (by omega)).mono ?_
  clear hV p0 q0 p1 q1
  rintro en v1 ⟨rfl, hb⟩
  replace TA := TA.later hb (World.block_lt_of_cell? _ _ (TA.at 0 rfl))
  replace TB := TB.later hb (World.block_lt_of_cell? _ _ (TB.at 0 rfl))
  replace BC := BC.trans (hb.mono BC.size)
  clear hb
  have p2 := TA.at 2 rfl
  have q2 := TB.at 2 rfl
  go_wp2
  go_ret
  exact ⟨rfl, BC⟩
set_option maxRecDepth 100000 in
set_option maxHeartbeats 3200000 in
theorem eqST_is (r q : Rw TT) (w : World) (hr : RpT w r) (hq : RpT w q) (hs : rsT r = rsT q) (hl : rtT r ≤ 1048576) : Calls Try.prog 33 #[.slice r.1 r.2.2.length r.2.1, .slice q.1 q.2.2.length q.2.1] w fun en w' => en = .returned (.bool true) ∧ Below w.heap.size w w' := by
  have hlen := rsT_len hs
  obtain ⟨a, ca, xs⟩ := r
  obtain ⟨b, cb, ys⟩ := q
  obtain ⟨ha, hDx⟩ := hr
  obtain ⟨hb, hDy⟩ := hq
  dsimp only at ha hDx hb hDy hl hlen ⊢
  have hst : ∀ k (h : k < xs.length) (h' : k < ys.length), stT xs[k] = stT ys[k] := fun k h h' => by
    have h1 : xs.map stT = ys.map stT := hs
    have h2 : (xs.map stT)[k]'(by simpa using h) = (ys.map stT)[k]'(by simpa using h') := by simp only [h1]
    simpa using h2
  have hte : ∀ x ∈ xs, totT x ≤ 1048576 := fun x hx => by
    have h1 : totT x ≤ (xs.map totT).sum := le_sum_of_mem (List.mem_map_of_mem hx)
    have h2 : rtT (a, ca, xs) = xs.length + (xs.map totT).sum := rfl
    omega
  have hxl := rtT_len (a, ca, xs)
  dsimp only at hxl
  rw [← hlen]
  clear hs
  replace hlen : Hid (xs.length = ys.length) := hlen
  go_enter Try.func33, Try.ntmps33
  go_wp2
  go_loopw [5] (fun i wr => ∃ k : Nat, k ≤ xs.length ∧ i = .int .i64 k ∧ Below w.heap.size w wr) (fun i _ => xs.length - (intOf i).toNat)
  case atStart => exact ⟨0, by omega, rfl, Below.refl _ _⟩
  case round =>
    obtain ⟨k, hk, rfl, hbel⟩ := hrel
    by_cases hlt : k < xs.length
    · have hlt' : k < ys.length := by have := hlen.out; omega
      obtain ⟨b1, o1, rfl, l1, h⟩ := ha k hlt
      obtain ⟨b2, o2, rfl, l2, g⟩ := hb k hlt'
      have hlt2 : (k : Int) < (xs.length : Int) := by omega
      have m1 : b1 < wr.drew.heap.size := Nat.lt_of_lt_of_le l1 hbel.size
      have m2 : b2 < wr.drew.heap.size := Nat.lt_of_lt_of_le l2 hbel.size
      have BD := hbel.drew
      have K1 := eqT_is xs[k] ys[k] wr.drew ((hDx _ (List.getElem_mem hlt)).later BD) ((hDy _ (List.getElem_mem hlt')).later BD) (hst k hlt hlt') (hte _ (List.getElem_mem hlt))
      have h0 : wr.drew.cell? ⟨b1, o1 + k * 3, none⟩ = some (.int .i64 xs[k].1) := (hbel.cell (p := ⟨b1, o1 + k * 3, none⟩) l1).trans (h 0 _ rfl)
      have h1 : wr.drew.cell? ⟨b1, o1 + k * 3 + 1, none⟩ = some (.slice xs[k].2.1.1 xs[k].2.1.2.2.length xs[k].2.1.2.1) := (hbel.cell (p := ⟨b1, o1 + k * 3 + 1, none⟩) l1).trans (h 1 _ rfl)
      have h2 : wr.drew.cell? ⟨b1, o1 + k * 3 + 2, none⟩ = some (.int .i64 xs[k].2.2) := (hbel.cell (p := ⟨b1, o1 + k * 3 + 2, none⟩) l1).trans (h 2 _ rfl)
      have g0 : wr.drew.cell? ⟨b2, o2 + k * 3, none⟩ = some (.int .i64 ys[k].1) := (hbel.cell (p := ⟨b2, o2 + k * 3, none⟩) l2).trans (g 0 _ rfl)
      have g1 : wr.drew.cell? ⟨b2, o2 + k * 3 + 1, none⟩ = some (.slice ys[k].2.1.1 ys[k].2.1.2.2.length ys[k].2.1.2.1) := (hbel.cell (p := ⟨b2, o2 + k * 3 + 1, none⟩) l2).trans (g 1 _ rfl)
      have g2 : wr.drew.cell? ⟨b2, o2 + k * 3 + 2, none⟩ = some (.int .i64 ys[k].2.2) := (hbel.cell (p := ⟨b2, o2 + k * 3 + 2, none⟩) l2).trans (g 2 _ rfl)
      clear h g
      generalize xs[k] = x at K1 h0 h1 h2
      generalize ys[k] = y at K1 g0 g1 g2
      clear hDx hDy hst hte
      go_wp2_with fail
      refine wp_region_held_drew (S := (fun V : World => V.cell? ⟨b1, o1 + k * 3, none⟩ = some (.int .i64 x.1) ∧ V.cell? ⟨b1, o1 + k * 3 + 1, none⟩ = some (.slice x.2.1.1 x.2.1.2.2.length x.2.1.2.1) ∧ V.cell? ⟨b1, o1 + k * 3 + 2, none⟩ = some (.int .i64 x.2.2) ∧ V.cell? ⟨b2, o2 + k * 3, none⟩ = some (.int .i64 y.1) ∧ V.cell? ⟨b2, o2 + k * 3 + 1, none⟩ = some (.slice y.2.1.1 y.2.1.2.2.length y.2.1.2.1) ∧ V.cell? ⟨b2, o2 + k * 3 + 2, none⟩ = some (.int .i64 y.2.2))) (by kernel_rfl) ⟨h0, h1, h2, g0, g1, g2⟩ (fun hHeld => ?_)
      refine take_one 0 17 (v := ?_) rfl rfl (by kernel_rfl) (by kernel_rfl) (by kernel_rfl) (fun _ _ _ h => h) (Or.inl ⟨by rfl, ?_⟩) hHeld ?_
      rotate_left
      · intro w' hSw; (try dsimp only at hSw); obtain ⟨c0, c1, c2, c3, c4, c5⟩ := hSw; go_simp; try with_reducible rfl
      try simp only [Act.put, List.setIfInBounds_toArray, List.set_cons_zero, List.set_cons_succ]
      refine take_one 1 18 (v := ?_) rfl rfl (by kernel_rfl) (by kernel_rfl) (by kernel_rfl) (fun _ _ _ h => h) (Or.inl ⟨by rfl, ?_⟩) hHeld ?_
      rotate_left
      · intro w' hSw; (try dsimp only at hSw); obtain ⟨c0, c1, c2, c3, c4, c5⟩ := hSw; go_simp; try with_reducible rfl
      try simp only [Act.put, List.setIfInBounds_toArray, List.set_cons_zero, List.set_cons_succ]
      refine take_one 2 19 (v := ?_) rfl rfl (by kernel_rfl) (by kernel_rfl) (by kernel_rfl) (fun _ _ _ h => h) (Or.inl ⟨by rfl, ?_⟩) hHeld ?_
      rotate_left
      · intro w' hSw; (try dsimp only at hSw); obtain ⟨c0, c1, c2, c3, c4, c5⟩ := hSw; go_simp; try with_reducible rfl
      try simp only [Act.put, List.setIfInBounds_toArray, List.set_cons_zero, List.set_cons_succ]
      refine take_one 3 20 (v := ?_) rfl rfl (by kernel_rfl) (by kernel_rfl) (by kernel_rfl) (fun _ _ _ h => h) (Or.inl ⟨by rfl, ?_⟩) hHeld ?_
      rotate_left
      · intro w' hSw; (try dsimp only at hSw); obtain ⟨c0, c1, c2, c3, c4, c5⟩ := hSw; go_simp; try with_reducible rfl
      try simp only [Act.put, List.setIfInBounds_toArray, List.set_cons_zero, List.set_cons_succ]
      refine take_one 4 21 (v := ?_) rfl rfl (by kernel_rfl) (by kernel_rfl) (by kernel_rfl) (fun _ _ _ h => h) (Or.inl ⟨by rfl, ?_⟩) hHeld ?_
      rotate_left
      · intro w' hSw; (try dsimp only at hSw); obtain ⟨c0, c1, c2, c3, c4, c5⟩ := hSw; go_simp; try with_reducible rfl
      try simp only [Act.put, List.setIfInBounds_toArray, List.set_cons_zero, List.set_cons_succ]
      refine take_one 5 22 (v := ?_) rfl rfl (by kernel_rfl) (by kernel_rfl) (by kernel_rfl) (fun _ _ _ h => h) (Or.inl ⟨by rfl, ?_⟩) hHeld ?_
      rotate_left
      · intro w' hSw; (try dsimp only at hSw); obtain ⟨c0, c1, c2, c3, c4, c5⟩ := hSw; go_simp; try with_reducible rfl
      try simp only [Act.put, List.setIfInBounds_toArray, List.set_cons_zero, List.set_cons_succ]
      refine take_one 6 23 (v := ?_) rfl rfl (by kernel_rfl) (by kernel_rfl) (by kernel_rfl) (fun _ _ _ h => h) (Or.inl ⟨by rfl, ?_⟩) hHeld ?_
      rotate_left
      · intro w' hSw; (try dsimp only at hSw); obtain ⟨c0, c1, c2, c3, c4, c5⟩ := hSw; go_simp; try with_reducible rfl
      try simp only [Act.put, List.setIfInBounds_toArray, List.set_cons_zero, List.set_cons_succ]
      refine take_one 7 24 (v := ?_) rfl rfl (by kernel_rfl) (by kernel_rfl) (by kernel_rfl) (fun _ _ _ h => h) (Or.inl ⟨by rfl, ?_⟩) hHeld ?_
      rotate_left
      · intro w' hSw; (try dsimp only at hSw); obtain ⟨c0, c1, c2, c3, c4, c5⟩ := hSw; go_simp; try with_reducible rfl
      try simp only [Act.put, List.setIfInBounds_toArray, List.set_cons_zero, List.set_cons_succ]
      refine wpAnyH_ready (rs := [8]) (by kernel_rfl) (by simp) ?_
      refine AllReadyH.cons (i := 8) rfl (fun K hK => ?_) AllReadyH.nil
      go_simp
      refine K1.mono ?_
      clear K1
      rintro e w2 ⟨rfl, hb2⟩
      go_wp2_with fail
      refine hK.out _ _ ⟨(hb2.cell (p := ⟨b1, o1 + k * 3, none⟩) m1).trans h0, (hb2.cell (p := ⟨b1, o1 + k * 3 + 1, none⟩) m1).trans h1, (hb2.cell (p := ⟨b1, o1 + k * 3 + 2, none⟩) m1).trans h2, (hb2.cell (p := ⟨b2, o2 + k * 3, none⟩) m2).trans g0, (hb2.cell (p := ⟨b2, o2 + k * 3 + 1, none⟩) m2).trans g1, (hb2.cell (p := ⟨b2, o2 + k * 3 + 2, none⟩) m2).trans g2⟩ (fun hHeld2 => ?_)
      clear hK K hHeld
      have hHeld := hHeld2
      clear hHeld2
      try simp only [Act.put, List.setIfInBounds_toArray, List.set_cons_zero, List.set_cons_succ]
      refine take_one 9 26 (v := ?_) rfl rfl (by kernel_rfl) (by kernel_rfl) (by kernel_rfl) (fun _ _ _ h => h) (Or.inl ⟨by rfl, ?_⟩) hHeld ?_
      rotate_left
      · intro w' hSw; (try dsimp only at hSw); obtain ⟨c0, c1, c2, c3, c4, c5⟩ := hSw; go_simp; try with_reducible rfl
      try simp only [Act.put, List.setIfInBounds_toArray, List.set_cons_zero, List.set_cons_succ]
      refine wpAnyH_done (by kernel_rfl) ?_ _
      have B2 := BD.trans (hb2.mono BD.size)
      clear hHeld h0 h1 h2 g0 g1 g2
      go_wp2
      go_roundw
      case rel => exact ⟨k + 1, by omega, by go_num, B2⟩
      case measure => simp [intOf]; omega
    · go_wp2
      go_ret
      exact ⟨rfl, hbel⟩
end Go.Proofs.Ytjbbhegijlnndaa.Nd
