/- Nodes that are marked: the law's own call. -/
import Derived.Test.YtpfonadpojcnnaaDoorTm0
set_option linter.unusedVariables false
set_option maxRecDepth 100000
namespace Go.Proofs.YtpfonadpojcnnaaDoor.Nd
open Go Go.RowKit Go.Joins Own Draw Var

theorem adL_take (xs : List TT) (j : Nat) (h : j < xs.length) : adL (xs.take (j + 1)) = adL (xs.take j) + adT xs[j] := by
  unfold adL
  rw [List.take_succ_eq_append_getElem h, List.map_append, List.sum_append, List.map_cons, List.map_nil, List.sum_cons, List.sum_nil, Nat.add_zero]
theorem adL_le (xs : List TT) (j : Nat) : adL (xs.take j) ≤ adL xs := by
  unfold adL
  rw [← List.take_append_drop j xs, List.map_append, List.sum_append, List.take_append_drop]
  omega
theorem adL_len : ∀ xs : List TT, xs.length ≤ adL xs
  | [] => Nat.zero_le _
  | x :: xs => by have := adL_len xs; unfold adL at this ⊢; rw [List.map_cons, List.sum_cons, List.length_cons]; unfold adT; unfold adT at this; omega
theorem row_cell {B g cap : Nat} {W : World} {pre post : List TT} {x : TT} (h : RoT B W (some ⟨g, 0, none⟩, cap, pre ++ x :: post)) (t : Nat) {v : Value} (hv : (cT x)[t]? = some v) : W.cell? ⟨g, pre.length * 4 + t, none⟩ = some v := by
  have hl : pre.length < (pre ++ x :: post).length := by simp
  obtain ⟨b, o, e, _, hc⟩ := (FOwn.row lT h.1) pre.length hl
  simp only [Option.some.injEq, Addr.mk.injEq, and_true] at e
  obtain ⟨rfl, rfl⟩ := e
  have := hc t v (by simpa using hv)
  rw [Nat.zero_add] at this
  exact this
theorem row_fz {B g cap : Nat} {W : World} {L : List TT} (h : RoT B W (some ⟨g, 0, none⟩, cap, L)) (i : Nat) : W.frozen? ⟨g, i, none⟩ = false := World.ownsRow.frozenAt h.1 i
theorem lf_num (k : Nat) : lfM k = ((((k : Int) + 1) % 3) == 0) := rfl
set_option maxRecDepth 100000 in
set_option maxHeartbeats 3200000 in
theorem markT_is (B k0 : Nat) (q : Rw TT) (w : World) (h : RoT B w q) (ap : ApT q) (h0 : 1 ≤ k0) (hA : k0 + adL q.2.2 ≤ 900000) :
    Calls Tryd.prog 7 #[.slice q.1 q.2.2.length q.2.1, .int .i64 (k0 : Int)] w fun e w' => e = .returned (.int .i64 ((k0 + adL q.2.2 : Nat) : Int)) ∧ RoT B w' (q.1, q.2.1, mkL k0 q.2.2) ∧ Below B w w' := by
  obtain ⟨a, cap, xs⟩ := q
  dsimp only at hA ⊢
  have hBw : ∀ k, (Value.slice a xs.length cap).ownBlock = some k → B ≤ k ∧ k < w.heap.size := World.ownsRow.lt h.1
  rcases h.1.2 with ⟨e, e0⟩ | ⟨g, cap', cur, e, _⟩
  · injection e with e1 e2 e3
    subst e1 e3
    have hx : xs = [] := List.length_eq_zero_iff.1 e0
    subst hx
    go_enter Tryd.func7, Tryd.ntmps7
    go_wp2
    go_loopw [1, 5] (fun kv i wr => i = .int .i64 0 ∧ kv = .int .i64 (k0 : Int) ∧ w = wr) (fun _ _ _ => 0)
    case atStart => exact ⟨rfl, rfl, rfl⟩
    case round =>
      obtain ⟨rfl, rfl, rfl⟩ := hrel
      go_wp2
      go_ret
      exact ⟨by simp [adL], h, Below.refl _ _⟩
  · injection e with e1 e2 e3
    subst e1 e3
    have hgB := hBw g rfl
    go_enter Tryd.func7, Tryd.ntmps7
    go_wp2
    go_loopw [1, 5] (fun kv i wr => ∃ j k : Nat, j ≤ xs.length ∧ k = k0 + adL (xs.take j) ∧ i = .int .i64 j ∧ kv = .int .i64 k ∧ RoT B wr (some ⟨g, 0, none⟩, cap, mkL k0 (xs.take j) ++ xs.drop j) ∧ Below B w wr) (fun _ i _ => xs.length - (intOf i).toNat)
    case atStart => exact ⟨0, k0, by omega, by simp [adL], rfl, rfl, by simpa [mkL] using h, Below.refl _ _⟩
    case round =>
      obtain ⟨j, k, hj, hk, rfl, rfl, hro, hbl⟩ := hrel
      by_cases hlt : j < xs.length
      · have hlt2 : (j : Int) < (xs.length : Int) := by omega
        have hjb : (j : Int) ≤ 900000 := by have := adL_len xs; omega
        have hpl : (mkL k0 (xs.take j)).length = j := by rw [mkL_len, List.length_take]; omega
        have hap : ApT (some ⟨g, 0, none⟩, cap, mkL k0 (xs.take j) ++ xs.drop j) := ap_same ap (by dsimp only; rw [List.map_append, mkL_kb, ← List.map_append, List.take_append_drop])
        have had := adL_take xs j hlt
        have hle := adL_le xs (j + 1)
        have hns : mkL k0 (xs.take (j + 1)) = mkL k0 (xs.take j) ++ [mkT k xs[j]] := by rw [List.take_succ_eq_append_getElem hlt, mkL_snoc, hk]
        rw [List.drop_eq_getElem_cons hlt] at hro hap
        have HNX : Hid (∀ W : World, RoT B W (some ⟨g, 0, none⟩, cap, mkL k0 (xs.take j) ++ mkT k xs[j] :: xs.drop (j + 1)) → Below B w W → ∃ j' k' : Nat, j' ≤ xs.length ∧ k' = k0 + adL (xs.take j') ∧ Value.int .i64 ((j : Int) + 1) = .int .i64 j' ∧ Value.int .i64 ((k + adT xs[j] : Nat) : Int) = .int .i64 k' ∧ RoT B W (some ⟨g, 0, none⟩, cap, mkL k0 (xs.take j') ++ xs.drop j') ∧ Below B w W) := fun W hW hb => ⟨j + 1, k + adT xs[j], by omega, by rw [had, hk]; omega, by go_num, rfl, by rw [hns]; simpa using hW, hb⟩
        have hka : k + adT xs[j] ≤ 900000 := by omega
        generalize xs[j] = x at hro hap HNX hka
        generalize hpre : mkL k0 (xs.take j) = pre at hro hap HNX hpl
        generalize xs.drop (j + 1) = post at hro hap HNX
        have hka2 : k + 3 + x.2.2.2.2.2.length ≤ 900000 := by unfold adT at hka; omega
        have ro1 := rot_store (n := 0) hro (t := 0) (u := .int .i64 (k : Int)) (x' := ((k : Int), x.2)) (by omega) rfl rfl
        have ro2 := rot_store (n := 0) ro1 (t := 1) (u := .bool (lfM k)) (x' := ((k : Int), lfM k, x.2.2)) (by omega) rfl rfl
        have y0 := row_cell hro 0 rfl
        have z0 := row_fz hro (pre.length * 4 + 0)
        have y1 := row_cell ro1 1 rfl
        have z1 := row_fz ro1 (pre.length * 4 + 1)
        rw [hpl, Nat.add_zero] at ro1 ro2 y0 z0 y1 z1
        obtain ⟨W1, hW1⟩ : ∃ Y, wr.setCell ⟨g, j * 4, none⟩ (.int .i64 (k : Int)) = Y := ⟨_, rfl⟩
        rw [hW1] at ro1 ro2 y1 z1
        obtain ⟨W2, hW2⟩ : ∃ Y, W1.setCell ⟨g, j * 4 + 1, none⟩ (.bool (lfM k)) = Y := ⟨_, rfl⟩
        rw [hW2] at ro2
        have b2 : Below B w W2 := by rw [← hW2, ← hW1]; exact (hbl.setCell hgB.1 _).setCell hgB.1 _
        have KT := markText_is (k + 2) W2 (by omega) (by omega)
        rw [show (((k + 2 : Nat)) : Int) = (k : Int) + 1 + 1 by omega] at KT
        have hW2b := hW2
        rw [lf_num] at hW2b
        have hki : (k : Int) ≤ 900000 := by omega
        clear hro ro1 hk had hle hns hpre hka
        go_wp2_with fail
        try rw [hW2b]
        refine KT.mono ?_
        clear KT y0 z0 y1 z1
        rintro en v1 ⟨rfl, hb⟩
        have ro2b := RoT.later ro2 hb
        have b3 : Below B w v1 := b2.trans (hb.mono (Nat.le_trans (Nat.le_of_lt (Nat.lt_of_le_of_lt hgB.1 (World.ownsRow.lt ro2.1 g rfl).2)) (Nat.le_refl _)))
        have ro3 := rot_store (n := 0) ro2b (t := 2) (u := .string (mt (k + 2))) (x' := ((k : Int), lfM k, mt (k + 2), x.2.2.2)) (by omega) rfl rfl
        have y2 := row_cell ro2b 2 rfl
        have z2 := row_fz ro2b (pre.length * 4 + 2)
        have y3 := row_cell ro3 3 rfl
        rw [hpl] at ro3 y2 z2 y3
        obtain ⟨W3, hW3⟩ : ∃ Y, v1.setCell ⟨g, j * 4 + 2, none⟩ (.string (mt (k + 2))) = Y := ⟨_, rfl⟩
        rw [hW3] at ro3 y3
        have b4 : Below B w W3 := by rw [← hW3]; exact b3.setCell hgB.1 _
        have KK := markI_is B (k + 3) x.2.2.2.1 x.2.2.2.2.2.length x.2.2.2.2.1 _ W3 (ro3.2 ((k : Int), lfM k, mt (k + 2), x.2.2.2) (List.mem_append.2 (Or.inr (List.mem_cons_self ..)))) (by omega) (by omega)
        rw [show (((k + 3 : Nat)) : Int) = (k : Int) + 1 + 1 + 1 by omega] at KK
        have hap3 : ApT (some ⟨g, 0, none⟩, cap, pre ++ ((k : Int), lfM k, mt (k + 2), x.2.2.2) :: post) := ap_same hap (by dsimp only; simp [kbT])
        have hoB := fun i e => (World.ownsRow.lt (ro3.2 ((k : Int), lfM k, mt (k + 2), x.2.2.2) (List.mem_append.2 (Or.inr (List.mem_cons_self ..)))) i e).1
        have hB3 : B ≤ W3.heap.size := by have := (World.ownsRow.lt ro3.1 g rfl).2; omega
        clear ro2 ro2b hW2 hW2b
        go_wp2_with fail
        refine KK.mono ?_
        clear KK y2 z2 y3
        rintro en v2 ⟨rfl, ho, hg⟩
        have ro4 := rot_kid (y := ((k : Int), lfM k, mt (k + 2), x.2.2.2)) ro3 hap3 (ks := rgI (k + 3) x.2.2.2.2.2.length) (rg_len _ _) (by rw [rg_mks]; exact ho) hg
        have b5 : Below B w v2 := b4.grown hg hB3 hoB
        have HR := HNX.out v2 ro4 b5
        rw [show k + adT x = k + 3 + x.2.2.2.2.2.length by unfold adT; omega, show (((k + 3 + x.2.2.2.2.2.length : Nat)) : Int) = (k : Int) + 3 + x.2.2.2.2.2.length by omega] at HR
        clear ro3 ro4 hap3 HNX ho hg
        go_wp2
        go_roundw
        case rel => exact HR
        case measure => simp [intOf]; omega
      · obtain rfl : j = xs.length := by omega
        have hlt2 : ¬ ((xs.length : Nat) : Int) < (xs.length : Int) := by omega
        rw [List.take_length, List.drop_length, List.append_nil] at hro
        rw [List.take_length] at hk
        go_wp2
        go_ret
        exact ⟨rfl, hro, hbl⟩
end Go.Proofs.YtpfonadpojcnnaaDoor.Nd
