/- Marks of acts. -/
import Derived.Test.YtflajkbbggmdjaaRe0
set_option linter.unusedVariables false
set_option maxRecDepth 100000
namespace Go.Proofs.Ytflajkbbggmdjaa
open Go Go.RowKit Go.Joins Own Draw

set_option maxRecDepth 100000 in
set_option maxHeartbeats 1600000 in
theorem markA_is (B k0 : Nat) (a : Option Addr) (n cap : Nat) (vs : List Value) (w : World) (h : w.ownsRow B 71 9 (.slice a n cap) n vs) (hl : n ≤ 1000) (hk0 : k0 ≤ 1000) :
    Calls Try.prog 16 #[.slice a n cap, .int .i64 (k0 : Int)] w fun e w' => e = .returned (.int .i64 ((k0 + n * 9 : Nat) : Int)) ∧ w'.ownsRow B 71 9 (.slice a n cap) n (mks (gA k0) (n * 9)) ∧ w.grownBy w' (Value.slice a n cap).ownBlock := by
  rcases h.2 with ⟨e, h0⟩ | ⟨g, cap', cur, e, _⟩
  · injection e with e1 e2 e3
    subst e1 e3 h0
    have hv : vs = [] := List.length_eq_zero_iff.1 (by have := h.1; omega)
    subst hv
    go_enter Try.func16, Try.ntmps16
    go_wp2
    go_loopw [1, 5] (fun kv i wr => i = .int .i64 0 ∧ kv = .int .i64 (k0 : Int) ∧ w = wr) (fun _ _ _ => 0)
    case atStart => exact ⟨rfl, rfl, rfl⟩
    case round =>
      obtain ⟨rfl, rfl, rfl⟩ := hrel
      go_wp2
      go_ret
      exact ⟨by simp, h, World.grownBy.refl _ _⟩
  · injection e with e1 e2 e3
    subst e1 e3
    have H0 : w.ownsRow B 71 9 (.slice (some ⟨g, 0, none⟩) n cap) n (mks (gA k0) (0 * 9) ++ vs.drop (0 * 9)) := by rw [Nat.zero_mul]; exact h
    have hvl : vs.length = n * 9 := by have := h.1; omega
    have hG0 : w.grownBy w (some g) := World.grownBy.refl _ _
    clear h
    go_enter Try.func16, Try.ntmps16
    go_wp2
    go_loopw [1, 5] (fun kv i wr => ∃ k m : Nat, k ≤ n ∧ m = k0 + k * 9 ∧ i = .int .i64 k ∧ kv = .int .i64 m ∧ wr.ownsRow B 71 9 (.slice (some ⟨g, 0, none⟩) n cap) n (mks (gA k0) (k * 9) ++ vs.drop (k * 9)) ∧ w.grownBy wr (some g)) (fun _ i _ => n - (intOf i).toNat)
    case atStart => exact ⟨0, k0, by omega, by omega, rfl, rfl, H0, hG0⟩
    case round =>
      clear H0 hG0
      obtain ⟨k, m, hk, hm, rfl, rfl, hown, hG⟩ := hrel
      by_cases hlt : k < n
      · have hs0 := hown.stored (k * 9) (.int .i64 ((m : Int)))
        have hs1 := hs0.1.stored (k * 9 + 1) (.int .i64 ((m : Int) + 1))
        have hs2 := hs1.1.stored (k * 9 + 2) (.int .i64 ((m : Int) + 1 + 1))
        have hs3 := hs2.1.stored (k * 9 + 3) (.int .i64 ((m : Int) + 1 + 1 + 1))
        have hs4 := hs3.1.stored (k * 9 + 4) (.int .i64 ((m : Int) + 1 + 1 + 1 + 1))
        have hs5 := hs4.1.stored (k * 9 + 5) (.int .i64 ((m : Int) + 1 + 1 + 1 + 1 + 1))
        have hs6 := hs5.1.stored (k * 9 + 6) (.int .i64 ((m : Int) + 1 + 1 + 1 + 1 + 1 + 1))
        have hs7 := hs6.1.stored (k * 9 + 7) (.int .i64 ((m : Int) + 1 + 1 + 1 + 1 + 1 + 1 + 1))
        have hG8 := (grown_to (grown_to (grown_to (grown_to (grown_to (grown_to (grown_to (grown_to hG hs0.2) hs1.2) hs2.2) hs3.2) hs4.2) hs5.2) hs6.2) hs7.2)
        have h8 := hs7.1
        have hll : (mks (gA k0) (k * 9) ++ vs.drop (k * 9)).length = n * 9 := by have := hown.1; omega
        have u0 : wr.cell? ⟨g, k * 9, none⟩ = some (mks (gA k0) (k * 9) ++ vs.drop (k * 9))[k * 9] := by rw [hown.cellAt _ (by omega)]; exact List.getElem?_eq_getElem (by omega)
        have f0 := hown.frozenAt (k * 9)
        have u1 : wr.cell? ⟨g, k * 9 + 1, none⟩ = some (mks (gA k0) (k * 9) ++ vs.drop (k * 9))[k * 9 + 1] := by rw [hown.cellAt _ (by omega)]; exact List.getElem?_eq_getElem (by omega)
        have f1 := hown.frozenAt (k * 9 + 1)
        have u2 : wr.cell? ⟨g, k * 9 + 2, none⟩ = some (mks (gA k0) (k * 9) ++ vs.drop (k * 9))[k * 9 + 2] := by rw [hown.cellAt _ (by omega)]; exact List.getElem?_eq_getElem (by omega)
        have f2 := hown.frozenAt (k * 9 + 2)
        have u3 : wr.cell? ⟨g, k * 9 + 3, none⟩ = some (mks (gA k0) (k * 9) ++ vs.drop (k * 9))[k * 9 + 3] := by rw [hown.cellAt _ (by omega)]; exact List.getElem?_eq_getElem (by omega)
        have f3 := hown.frozenAt (k * 9 + 3)
        have u4 : wr.cell? ⟨g, k * 9 + 4, none⟩ = some (mks (gA k0) (k * 9) ++ vs.drop (k * 9))[k * 9 + 4] := by rw [hown.cellAt _ (by omega)]; exact List.getElem?_eq_getElem (by omega)
        have f4 := hown.frozenAt (k * 9 + 4)
        have u5 : wr.cell? ⟨g, k * 9 + 5, none⟩ = some (mks (gA k0) (k * 9) ++ vs.drop (k * 9))[k * 9 + 5] := by rw [hown.cellAt _ (by omega)]; exact List.getElem?_eq_getElem (by omega)
        have f5 := hown.frozenAt (k * 9 + 5)
        have u6 : wr.cell? ⟨g, k * 9 + 6, none⟩ = some (mks (gA k0) (k * 9) ++ vs.drop (k * 9))[k * 9 + 6] := by rw [hown.cellAt _ (by omega)]; exact List.getElem?_eq_getElem (by omega)
        have f6 := hown.frozenAt (k * 9 + 6)
        have u7 : wr.cell? ⟨g, k * 9 + 7, none⟩ = some (mks (gA k0) (k * 9) ++ vs.drop (k * 9))[k * 9 + 7] := by rw [hown.cellAt _ (by omega)]; exact List.getElem?_eq_getElem (by omega)
        have f7 := hown.frozenAt (k * 9 + 7)
        have hlt2 : (k : Int) < (n : Int) := by omega
        have hm2 : (m : Int) ≤ 200000000 := by omega
        generalize (mks (gA k0) (k * 9) ++ vs.drop (k * 9))[k * 9] = q0 at u0
        generalize (mks (gA k0) (k * 9) ++ vs.drop (k * 9))[k * 9 + 1] = q1 at u1
        generalize (mks (gA k0) (k * 9) ++ vs.drop (k * 9))[k * 9 + 2] = q2 at u2
        generalize (mks (gA k0) (k * 9) ++ vs.drop (k * 9))[k * 9 + 3] = q3 at u3
        generalize (mks (gA k0) (k * 9) ++ vs.drop (k * 9))[k * 9 + 4] = q4 at u4
        generalize (mks (gA k0) (k * 9) ++ vs.drop (k * 9))[k * 9 + 5] = q5 at u5
        generalize (mks (gA k0) (k * 9) ++ vs.drop (k * 9))[k * 9 + 6] = q6 at u6
        generalize (mks (gA k0) (k * 9) ++ vs.drop (k * 9))[k * 9 + 7] = q7 at u7
        have e8 : (((m + 8 : Nat)) : Int) = (m : Int) + 1 + 1 + 1 + 1 + 1 + 1 + 1 + 1 := by omega
        have K := markText_is (m + 8) ((((((((wr.setCell ⟨g, k * 9, none⟩ (.int .i64 ((m : Int)))).setCell ⟨g, k * 9 + 1, none⟩ (.int .i64 ((m : Int) + 1))).setCell ⟨g, k * 9 + 2, none⟩ (.int .i64 ((m : Int) + 1 + 1))).setCell ⟨g, k * 9 + 3, none⟩ (.int .i64 ((m : Int) + 1 + 1 + 1))).setCell ⟨g, k * 9 + 4, none⟩ (.int .i64 ((m : Int) + 1 + 1 + 1 + 1))).setCell ⟨g, k * 9 + 5, none⟩ (.int .i64 ((m : Int) + 1 + 1 + 1 + 1 + 1))).setCell ⟨g, k * 9 + 6, none⟩ (.int .i64 ((m : Int) + 1 + 1 + 1 + 1 + 1 + 1))).setCell ⟨g, k * 9 + 7, none⟩ (.int .i64 ((m : Int) + 1 + 1 + 1 + 1 + 1 + 1 + 1))) (by omega) (by omega)
        rw [e8] at K
        have hm9 : Hid (m = k0 + k * 9) := hm
        clear hown hG hm hs0 hs1 hs2 hs3 hs4 hs5 hs6 hs7
        go_wp2_with fail
        refine K.mono ?_
        clear K
        rintro en w2 ⟨rfl, hb2⟩
        clear u0 f0 u1 f1 u2 f2 u3 f3 u4 f4 u5 f5 u6 f6 u7 f7
        replace h8 := own_later h8 hb2
        replace hG8 := grown_to hG8 (⟨hb2.os, hb2.tape, hb2.output, hb2.size, fun k hk _ => hb2.block k hk⟩ : World.grownBy _ w2 (some g))
        clear hb2
        have hl8 := h8.1
        have u8 : w2.cell? ⟨g, k * 9 + 8, none⟩ = some (((((((((mks (gA k0) (k * 9) ++ vs.drop (k * 9)).set (k * 9) (.int .i64 ((m : Int)))).set (k * 9 + 1) (.int .i64 ((m : Int) + 1))).set (k * 9 + 2) (.int .i64 ((m : Int) + 1 + 1))).set (k * 9 + 3) (.int .i64 ((m : Int) + 1 + 1 + 1))).set (k * 9 + 4) (.int .i64 ((m : Int) + 1 + 1 + 1 + 1))).set (k * 9 + 5) (.int .i64 ((m : Int) + 1 + 1 + 1 + 1 + 1))).set (k * 9 + 6) (.int .i64 ((m : Int) + 1 + 1 + 1 + 1 + 1 + 1))).set (k * 9 + 7) (.int .i64 ((m : Int) + 1 + 1 + 1 + 1 + 1 + 1 + 1)))[k * 9 + 8] := by rw [h8.cellAt _ (by omega)]; exact List.getElem?_eq_getElem (by omega)
        have f8 := h8.frozenAt (k * 9 + 8)
        generalize (((((((((mks (gA k0) (k * 9) ++ vs.drop (k * 9)).set (k * 9) (.int .i64 ((m : Int)))).set (k * 9 + 1) (.int .i64 ((m : Int) + 1))).set (k * 9 + 2) (.int .i64 ((m : Int) + 1 + 1))).set (k * 9 + 3) (.int .i64 ((m : Int) + 1 + 1 + 1))).set (k * 9 + 4) (.int .i64 ((m : Int) + 1 + 1 + 1 + 1))).set (k * 9 + 5) (.int .i64 ((m : Int) + 1 + 1 + 1 + 1 + 1))).set (k * 9 + 6) (.int .i64 ((m : Int) + 1 + 1 + 1 + 1 + 1 + 1))).set (k * 9 + 7) (.int .i64 ((m : Int) + 1 + 1 + 1 + 1 + 1 + 1 + 1)))[k * 9 + 8] = q8 at u8
        have hs8 := h8.stored (k * 9 + 8) (.string (mt (m + 8)))
        have hs := hs8.1
        have hE : (((((((((mks (gA k0) (k * 9) ++ vs.drop (k * 9)).set (k * 9) (.int .i64 ((m : Int)))).set (k * 9 + 1) (.int .i64 ((m : Int) + 1))).set (k * 9 + 2) (.int .i64 ((m : Int) + 1 + 1))).set (k * 9 + 3) (.int .i64 ((m : Int) + 1 + 1 + 1))).set (k * 9 + 4) (.int .i64 ((m : Int) + 1 + 1 + 1 + 1))).set (k * 9 + 5) (.int .i64 ((m : Int) + 1 + 1 + 1 + 1 + 1))).set (k * 9 + 6) (.int .i64 ((m : Int) + 1 + 1 + 1 + 1 + 1 + 1))).set (k * 9 + 7) (.int .i64 ((m : Int) + 1 + 1 + 1 + 1 + 1 + 1 + 1))).set (k * 9 + 8) (.string (mt (m + 8))) = mks (gA k0) ((k + 1) * 9) ++ vs.drop ((k + 1) * 9) := by rw [← gA_0 k0 k m hm9.out, ← gA_1 k0 k m hm9.out, ← gA_2 k0 k m hm9.out, ← gA_3 k0 k m hm9.out, ← gA_4 k0 k m hm9.out, ← gA_5 k0 k m hm9.out, ← gA_6 k0 k m hm9.out, ← gA_7 k0 k m hm9.out, ← gA_8 k0 k m hm9.out, mks_put (gA k0) vs (k * 9) (k * 9 + 1) (by omega) (by omega), mks_put (gA k0) vs (k * 9 + 1) (k * 9 + 2) (by omega) (by omega), mks_put (gA k0) vs (k * 9 + 2) (k * 9 + 3) (by omega) (by omega), mks_put (gA k0) vs (k * 9 + 3) (k * 9 + 4) (by omega) (by omega), mks_put (gA k0) vs (k * 9 + 4) (k * 9 + 5) (by omega) (by omega), mks_put (gA k0) vs (k * 9 + 5) (k * 9 + 6) (by omega) (by omega), mks_put (gA k0) vs (k * 9 + 6) (k * 9 + 7) (by omega) (by omega), mks_put (gA k0) vs (k * 9 + 7) (k * 9 + 8) (by omega) (by omega), mks_put (gA k0) vs (k * 9 + 8) ((k + 1) * 9) (by omega) (by omega)]
        rw [hE] at hs
        have HS : Hid (∃ k' m' : Nat, k' ≤ n ∧ m' = k0 + k' * 9 ∧ Value.int .i64 ((k : Int) + 1) = .int .i64 k' ∧ Value.int .i64 ((m : Int) + 1 + 1 + 1 + 1 + 1 + 1 + 1 + 1 + 1) = .int .i64 m' ∧ (w2.setCell ⟨g, k * 9 + 8, none⟩ (.string (mt (m + 8)))).ownsRow B 71 9 (.slice (some ⟨g, 0, none⟩) n cap) n (mks (gA k0) (k' * 9) ++ vs.drop (k' * 9)) ∧ w.grownBy (w2.setCell ⟨g, k * 9 + 8, none⟩ (.string (mt (m + 8)))) (some g)) :=
          ⟨k + 1, m + 1 + 1 + 1 + 1 + 1 + 1 + 1 + 1 + 1, by omega, by have := hm9.out; omega, by go_num, by go_num, hs, grown_to hG8 hs8.2⟩
        clear h8 hG8 hs hs8 hE hl8 hll hm9
        generalize mt (m + 8) = XX at HS
        go_wp2
        go_roundw
        case rel => exact HS.out
        case measure => simp [intOf]; omega
      · obtain rfl : k = n := by omega
        rw [← hvl, List.drop_length, List.append_nil, hvl] at hown
        go_wp2
        go_ret
        exact ⟨by rw [hm]; rfl, hown, hG⟩
end Go.Proofs.Ytflajkbbggmdjaa
