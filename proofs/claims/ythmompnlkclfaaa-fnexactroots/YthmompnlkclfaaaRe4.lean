/- Rows of events. -/
import Derived.Test.YthmompnlkclfaaaRe0
set_option linter.unusedVariables false
set_option maxRecDepth 100000
namespace Go.Proofs.Ythmompnlkclfaaa
open Go Go.RowKit Go.Joins Own Draw

set_option maxRecDepth 100000 in
set_option maxHeartbeats 1600000 in
theorem markE_is (B k0 : Nat) (a : Option Addr) (n cap : Nat) (vs : List Value) (w : World) (h : w.ownsRow B 48 11 (.slice a n cap) n vs) (hl : n ≤ 2000000) (hk0 : k0 ≤ 100000000) :
    Calls Try.prog 14 #[.slice a n cap, .int .i64 (k0 : Int)] w fun e w' => e = .returned (.int .i64 ((k0 + n * 11 : Nat) : Int)) ∧ w'.ownsRow B 48 11 (.slice a n cap) n (mks (gE k0) (n * 11)) ∧ w.grownBy w' (Value.slice a n cap).ownBlock := by
  rcases h.2 with ⟨e, h0⟩ | ⟨g, cap', cur, e, _⟩
  · injection e with e1 e2 e3
    subst e1 e3 h0
    have hv : vs = [] := List.length_eq_zero_iff.1 (by have := h.1; omega)
    subst hv
    go_enter Try.func14, Try.ntmps14
    go_wp2
    go_loopw [1, 5] (fun kv i wr => i = .int .i64 0 ∧ kv = .int .i64 (k0 : Int) ∧ w = wr) (fun _ _ _ => 0)
    case atStart => exact ⟨rfl, rfl, rfl⟩
    case round =>
      obtain ⟨rfl, rfl, rfl⟩ := hrel
      go_wp2
      go_ret
      exact ⟨by simp, h, World.grownBy.refl _ _⟩
  · injection e with e1 e2 e3
    subst e1 e3
    have H0 : w.ownsRow B 48 11 (.slice (some ⟨g, 0, none⟩) n cap) n (mks (gE k0) (0 * 11) ++ vs.drop (0 * 11)) := by rw [Nat.zero_mul]; exact h
    have hvl : vs.length = n * 11 := by have := h.1; omega
    have hG0 : w.grownBy w (some g) := World.grownBy.refl _ _
    clear h
    go_enter Try.func14, Try.ntmps14
    go_wp2
    go_loopw [1, 5] (fun kv i wr => ∃ k m : Nat, k ≤ n ∧ m = k0 + k * 11 ∧ i = .int .i64 k ∧ kv = .int .i64 m ∧ wr.ownsRow B 48 11 (.slice (some ⟨g, 0, none⟩) n cap) n (mks (gE k0) (k * 11) ++ vs.drop (k * 11)) ∧ w.grownBy wr (some g)) (fun _ i _ => n - (intOf i).toNat)
    case atStart => exact ⟨0, k0, by omega, by omega, rfl, rfl, H0, hG0⟩
    case round =>
      clear H0 hG0
      obtain ⟨k, m, hk, hm, rfl, rfl, hown, hG⟩ := hrel
      by_cases hlt : k < n
      · have hs0 := hown.stored (k * 11) (.int .i64 ((m : Int)))
        have hs1 := hs0.1.stored (k * 11 + 1) (.int .i64 ((m : Int) + 1))
        have hs2 := hs1.1.stored (k * 11 + 2) (.int .i64 ((m : Int) + 1 + 1))
        have hs3 := hs2.1.stored (k * 11 + 3) (.int .i64 ((m : Int) + 1 + 1 + 1))
        have hs4 := hs3.1.stored (k * 11 + 4) (.int .i64 ((m : Int) + 1 + 1 + 1 + 1))
        have hs5 := hs4.1.stored (k * 11 + 5) (.int .i64 ((m : Int) + 1 + 1 + 1 + 1 + 1))
        have hs6 := hs5.1.stored (k * 11 + 6) (.int .i64 ((m : Int) + 1 + 1 + 1 + 1 + 1 + 1))
        have hs7 := hs6.1.stored (k * 11 + 7) (.int .i64 ((m : Int) + 1 + 1 + 1 + 1 + 1 + 1 + 1))
        have hs8 := hs7.1.stored (k * 11 + 8) (.int .i64 ((m : Int) + 1 + 1 + 1 + 1 + 1 + 1 + 1 + 1))
        have hs9 := hs8.1.stored (k * 11 + 9) (.int .i64 ((m : Int) + 1 + 1 + 1 + 1 + 1 + 1 + 1 + 1 + 1))
        have hs10 := hs9.1.stored (k * 11 + 10) (.int .i64 ((m : Int) + 1 + 1 + 1 + 1 + 1 + 1 + 1 + 1 + 1 + 1))
        have hs := hs10.1
        have hE : (((((((((((mks (gE k0) (k * 11) ++ vs.drop (k * 11)).set (k * 11) (.int .i64 ((m : Int)))).set (k * 11 + 1) (.int .i64 ((m : Int) + 1))).set (k * 11 + 2) (.int .i64 ((m : Int) + 1 + 1))).set (k * 11 + 3) (.int .i64 ((m : Int) + 1 + 1 + 1))).set (k * 11 + 4) (.int .i64 ((m : Int) + 1 + 1 + 1 + 1))).set (k * 11 + 5) (.int .i64 ((m : Int) + 1 + 1 + 1 + 1 + 1))).set (k * 11 + 6) (.int .i64 ((m : Int) + 1 + 1 + 1 + 1 + 1 + 1))).set (k * 11 + 7) (.int .i64 ((m : Int) + 1 + 1 + 1 + 1 + 1 + 1 + 1))).set (k * 11 + 8) (.int .i64 ((m : Int) + 1 + 1 + 1 + 1 + 1 + 1 + 1 + 1))).set (k * 11 + 9) (.int .i64 ((m : Int) + 1 + 1 + 1 + 1 + 1 + 1 + 1 + 1 + 1))).set (k * 11 + 10) (.int .i64 ((m : Int) + 1 + 1 + 1 + 1 + 1 + 1 + 1 + 1 + 1 + 1)) = mks (gE k0) ((k + 1) * 11) ++ vs.drop ((k + 1) * 11) := by rw [← gE_0 k0 k m hm, ← gE_1 k0 k m hm, ← gE_2 k0 k m hm, ← gE_3 k0 k m hm, ← gE_4 k0 k m hm, ← gE_5 k0 k m hm, ← gE_6 k0 k m hm, ← gE_7 k0 k m hm, ← gE_8 k0 k m hm, ← gE_9 k0 k m hm, ← gE_10 k0 k m hm, mks_put (gE k0) vs (k * 11) (k * 11 + 1) (by omega) (by omega), mks_put (gE k0) vs (k * 11 + 1) (k * 11 + 2) (by omega) (by omega), mks_put (gE k0) vs (k * 11 + 2) (k * 11 + 3) (by omega) (by omega), mks_put (gE k0) vs (k * 11 + 3) (k * 11 + 4) (by omega) (by omega), mks_put (gE k0) vs (k * 11 + 4) (k * 11 + 5) (by omega) (by omega), mks_put (gE k0) vs (k * 11 + 5) (k * 11 + 6) (by omega) (by omega), mks_put (gE k0) vs (k * 11 + 6) (k * 11 + 7) (by omega) (by omega), mks_put (gE k0) vs (k * 11 + 7) (k * 11 + 8) (by omega) (by omega), mks_put (gE k0) vs (k * 11 + 8) (k * 11 + 9) (by omega) (by omega), mks_put (gE k0) vs (k * 11 + 9) (k * 11 + 10) (by omega) (by omega), mks_put (gE k0) vs (k * 11 + 10) ((k + 1) * 11) (by omega) (by omega)]
        rw [hE] at hs
        have HS : Hid (∃ k' m' : Nat, k' ≤ n ∧ m' = k0 + k' * 11 ∧ Value.int .i64 ((k : Int) + 1) = .int .i64 k' ∧ Value.int .i64 ((m : Int) + 1 + 1 + 1 + 1 + 1 + 1 + 1 + 1 + 1 + 1 + 1) = .int .i64 m' ∧ (((((((((((wr.setCell ⟨g, k * 11, none⟩ (.int .i64 ((m : Int)))).setCell ⟨g, k * 11 + 1, none⟩ (.int .i64 ((m : Int) + 1))).setCell ⟨g, k * 11 + 2, none⟩ (.int .i64 ((m : Int) + 1 + 1))).setCell ⟨g, k * 11 + 3, none⟩ (.int .i64 ((m : Int) + 1 + 1 + 1))).setCell ⟨g, k * 11 + 4, none⟩ (.int .i64 ((m : Int) + 1 + 1 + 1 + 1))).setCell ⟨g, k * 11 + 5, none⟩ (.int .i64 ((m : Int) + 1 + 1 + 1 + 1 + 1))).setCell ⟨g, k * 11 + 6, none⟩ (.int .i64 ((m : Int) + 1 + 1 + 1 + 1 + 1 + 1))).setCell ⟨g, k * 11 + 7, none⟩ (.int .i64 ((m : Int) + 1 + 1 + 1 + 1 + 1 + 1 + 1))).setCell ⟨g, k * 11 + 8, none⟩ (.int .i64 ((m : Int) + 1 + 1 + 1 + 1 + 1 + 1 + 1 + 1))).setCell ⟨g, k * 11 + 9, none⟩ (.int .i64 ((m : Int) + 1 + 1 + 1 + 1 + 1 + 1 + 1 + 1 + 1))).setCell ⟨g, k * 11 + 10, none⟩ (.int .i64 ((m : Int) + 1 + 1 + 1 + 1 + 1 + 1 + 1 + 1 + 1 + 1))).ownsRow B 48 11 (.slice (some ⟨g, 0, none⟩) n cap) n (mks (gE k0) (k' * 11) ++ vs.drop (k' * 11)) ∧ w.grownBy (((((((((((wr.setCell ⟨g, k * 11, none⟩ (.int .i64 ((m : Int)))).setCell ⟨g, k * 11 + 1, none⟩ (.int .i64 ((m : Int) + 1))).setCell ⟨g, k * 11 + 2, none⟩ (.int .i64 ((m : Int) + 1 + 1))).setCell ⟨g, k * 11 + 3, none⟩ (.int .i64 ((m : Int) + 1 + 1 + 1))).setCell ⟨g, k * 11 + 4, none⟩ (.int .i64 ((m : Int) + 1 + 1 + 1 + 1))).setCell ⟨g, k * 11 + 5, none⟩ (.int .i64 ((m : Int) + 1 + 1 + 1 + 1 + 1))).setCell ⟨g, k * 11 + 6, none⟩ (.int .i64 ((m : Int) + 1 + 1 + 1 + 1 + 1 + 1))).setCell ⟨g, k * 11 + 7, none⟩ (.int .i64 ((m : Int) + 1 + 1 + 1 + 1 + 1 + 1 + 1))).setCell ⟨g, k * 11 + 8, none⟩ (.int .i64 ((m : Int) + 1 + 1 + 1 + 1 + 1 + 1 + 1 + 1))).setCell ⟨g, k * 11 + 9, none⟩ (.int .i64 ((m : Int) + 1 + 1 + 1 + 1 + 1 + 1 + 1 + 1 + 1))).setCell ⟨g, k * 11 + 10, none⟩ (.int .i64 ((m : Int) + 1 + 1 + 1 + 1 + 1 + 1 + 1 + 1 + 1 + 1))) (some g)) :=
          ⟨k + 1, m + 1 + 1 + 1 + 1 + 1 + 1 + 1 + 1 + 1 + 1 + 1, by omega, by omega, by go_num, by go_num, hs, (grown_to (grown_to (grown_to (grown_to (grown_to (grown_to (grown_to (grown_to (grown_to (grown_to (grown_to hG hs0.2) hs1.2) hs2.2) hs3.2) hs4.2) hs5.2) hs6.2) hs7.2) hs8.2) hs9.2) hs10.2)⟩
        have hll : (mks (gE k0) (k * 11) ++ vs.drop (k * 11)).length = n * 11 := by have := hown.1; omega
        have u0 : wr.cell? ⟨g, k * 11, none⟩ = some (mks (gE k0) (k * 11) ++ vs.drop (k * 11))[k * 11] := by rw [hown.cellAt _ (by omega)]; exact List.getElem?_eq_getElem (by omega)
        have f0 := hown.frozenAt (k * 11)
        have u1 : wr.cell? ⟨g, k * 11 + 1, none⟩ = some (mks (gE k0) (k * 11) ++ vs.drop (k * 11))[k * 11 + 1] := by rw [hown.cellAt _ (by omega)]; exact List.getElem?_eq_getElem (by omega)
        have f1 := hown.frozenAt (k * 11 + 1)
        have u2 : wr.cell? ⟨g, k * 11 + 2, none⟩ = some (mks (gE k0) (k * 11) ++ vs.drop (k * 11))[k * 11 + 2] := by rw [hown.cellAt _ (by omega)]; exact List.getElem?_eq_getElem (by omega)
        have f2 := hown.frozenAt (k * 11 + 2)
        have u3 : wr.cell? ⟨g, k * 11 + 3, none⟩ = some (mks (gE k0) (k * 11) ++ vs.drop (k * 11))[k * 11 + 3] := by rw [hown.cellAt _ (by omega)]; exact List.getElem?_eq_getElem (by omega)
        have f3 := hown.frozenAt (k * 11 + 3)
        have u4 : wr.cell? ⟨g, k * 11 + 4, none⟩ = some (mks (gE k0) (k * 11) ++ vs.drop (k * 11))[k * 11 + 4] := by rw [hown.cellAt _ (by omega)]; exact List.getElem?_eq_getElem (by omega)
        have f4 := hown.frozenAt (k * 11 + 4)
        have u5 : wr.cell? ⟨g, k * 11 + 5, none⟩ = some (mks (gE k0) (k * 11) ++ vs.drop (k * 11))[k * 11 + 5] := by rw [hown.cellAt _ (by omega)]; exact List.getElem?_eq_getElem (by omega)
        have f5 := hown.frozenAt (k * 11 + 5)
        have u6 : wr.cell? ⟨g, k * 11 + 6, none⟩ = some (mks (gE k0) (k * 11) ++ vs.drop (k * 11))[k * 11 + 6] := by rw [hown.cellAt _ (by omega)]; exact List.getElem?_eq_getElem (by omega)
        have f6 := hown.frozenAt (k * 11 + 6)
        have u7 : wr.cell? ⟨g, k * 11 + 7, none⟩ = some (mks (gE k0) (k * 11) ++ vs.drop (k * 11))[k * 11 + 7] := by rw [hown.cellAt _ (by omega)]; exact List.getElem?_eq_getElem (by omega)
        have f7 := hown.frozenAt (k * 11 + 7)
        have u8 : wr.cell? ⟨g, k * 11 + 8, none⟩ = some (mks (gE k0) (k * 11) ++ vs.drop (k * 11))[k * 11 + 8] := by rw [hown.cellAt _ (by omega)]; exact List.getElem?_eq_getElem (by omega)
        have f8 := hown.frozenAt (k * 11 + 8)
        have u9 : wr.cell? ⟨g, k * 11 + 9, none⟩ = some (mks (gE k0) (k * 11) ++ vs.drop (k * 11))[k * 11 + 9] := by rw [hown.cellAt _ (by omega)]; exact List.getElem?_eq_getElem (by omega)
        have f9 := hown.frozenAt (k * 11 + 9)
        have u10 : wr.cell? ⟨g, k * 11 + 10, none⟩ = some (mks (gE k0) (k * 11) ++ vs.drop (k * 11))[k * 11 + 10] := by rw [hown.cellAt _ (by omega)]; exact List.getElem?_eq_getElem (by omega)
        have f10 := hown.frozenAt (k * 11 + 10)
        have hlt2 : (k : Int) < (n : Int) := by omega
        have hm2 : (m : Int) ≤ 200000000 := by omega
        generalize (mks (gE k0) (k * 11) ++ vs.drop (k * 11))[k * 11] = q0 at u0
        generalize (mks (gE k0) (k * 11) ++ vs.drop (k * 11))[k * 11 + 1] = q1 at u1
        generalize (mks (gE k0) (k * 11) ++ vs.drop (k * 11))[k * 11 + 2] = q2 at u2
        generalize (mks (gE k0) (k * 11) ++ vs.drop (k * 11))[k * 11 + 3] = q3 at u3
        generalize (mks (gE k0) (k * 11) ++ vs.drop (k * 11))[k * 11 + 4] = q4 at u4
        generalize (mks (gE k0) (k * 11) ++ vs.drop (k * 11))[k * 11 + 5] = q5 at u5
        generalize (mks (gE k0) (k * 11) ++ vs.drop (k * 11))[k * 11 + 6] = q6 at u6
        generalize (mks (gE k0) (k * 11) ++ vs.drop (k * 11))[k * 11 + 7] = q7 at u7
        generalize (mks (gE k0) (k * 11) ++ vs.drop (k * 11))[k * 11 + 8] = q8 at u8
        generalize (mks (gE k0) (k * 11) ++ vs.drop (k * 11))[k * 11 + 9] = q9 at u9
        generalize (mks (gE k0) (k * 11) ++ vs.drop (k * 11))[k * 11 + 10] = q10 at u10
        clear hown hG hs hs0 hs1 hs2 hs3 hs4 hs5 hs6 hs7 hs8 hs9 hs10 hll hm hE
        go_wp2
        go_roundw
        case rel => exact HS.out
        case measure => simp [intOf]; omega
      · obtain rfl : k = n := by omega
        rw [← hvl, List.drop_length, List.append_nil, hvl] at hown
        go_wp2
        go_ret
        exact ⟨by rw [hm]; rfl, hown, hG⟩
set_option maxRecDepth 100000 in
set_option maxHeartbeats 1600000 in
theorem markI_is (B k0 : Nat) (a : Option Addr) (n cap : Nat) (vs : List Value) (w : World) (h : w.ownsRow B 3 1 (.slice a n cap) n vs) (hl : n ≤ 2000000) (hk0 : k0 ≤ 100000000) :
    Calls Try.prog 15 #[.slice a n cap, .int .i64 (k0 : Int)] w fun e w' => e = .returned (.int .i64 ((k0 + n : Nat) : Int)) ∧ w'.ownsRow B 3 1 (.slice a n cap) n (mks (gI k0) (n)) ∧ w.grownBy w' (Value.slice a n cap).ownBlock := by
  rcases h.2 with ⟨e, h0⟩ | ⟨g, cap', cur, e, _⟩
  · injection e with e1 e2 e3
    subst e1 e3 h0
    have hv : vs = [] := List.length_eq_zero_iff.1 (by have := h.1; omega)
    subst hv
    go_enter Try.func15, Try.ntmps15
    go_wp2
    go_loopw [1, 5] (fun kv i wr => i = .int .i64 0 ∧ kv = .int .i64 (k0 : Int) ∧ w = wr) (fun _ _ _ => 0)
    case atStart => exact ⟨rfl, rfl, rfl⟩
    case round =>
      obtain ⟨rfl, rfl, rfl⟩ := hrel
      go_wp2
      go_ret
      exact ⟨by simp, h, World.grownBy.refl _ _⟩
  · injection e with e1 e2 e3
    subst e1 e3
    have H0 : w.ownsRow B 3 1 (.slice (some ⟨g, 0, none⟩) n cap) n (mks (gI k0) (0) ++ vs.drop (0)) := by exact h
    have hvl : vs.length = n := by have := h.1; omega
    have hG0 : w.grownBy w (some g) := World.grownBy.refl _ _
    clear h
    go_enter Try.func15, Try.ntmps15
    go_wp2
    go_loopw [1, 5] (fun kv i wr => ∃ k m : Nat, k ≤ n ∧ m = k0 + k ∧ i = .int .i64 k ∧ kv = .int .i64 m ∧ wr.ownsRow B 3 1 (.slice (some ⟨g, 0, none⟩) n cap) n (mks (gI k0) k ++ vs.drop k) ∧ w.grownBy wr (some g)) (fun _ i _ => n - (intOf i).toNat)
    case atStart => exact ⟨0, k0, by omega, by omega, rfl, rfl, H0, hG0⟩
    case round =>
      clear H0 hG0
      obtain ⟨k, m, hk, hm, rfl, rfl, hown, hG⟩ := hrel
      by_cases hlt : k < n
      · have hs0 := hown.stored k (.int .i64 ((m : Int)))
        have hs := hs0.1
        have hE : (mks (gI k0) k ++ vs.drop k).set k (.int .i64 ((m : Int))) = mks (gI k0) (k + 1) ++ vs.drop (k + 1) := by rw [← gI_0 k0 k m hm, mks_put (gI k0) vs k (k + 1) (by omega) (by omega)]
        rw [hE] at hs
        have HS : Hid (∃ k' m' : Nat, k' ≤ n ∧ m' = k0 + k' ∧ Value.int .i64 ((k : Int) + 1) = .int .i64 k' ∧ Value.int .i64 ((m : Int) + 1) = .int .i64 m' ∧ (wr.setCell ⟨g, k, none⟩ (.int .i64 ((m : Int)))).ownsRow B 3 1 (.slice (some ⟨g, 0, none⟩) n cap) n (mks (gI k0) k' ++ vs.drop k') ∧ w.grownBy (wr.setCell ⟨g, k, none⟩ (.int .i64 ((m : Int)))) (some g)) :=
          ⟨k + 1, m + 1, by omega, by omega, by go_num, by go_num, hs, (grown_to hG hs0.2)⟩
        have hll : (mks (gI k0) k ++ vs.drop k).length = n := by have := hown.1; omega
        have u0 : wr.cell? ⟨g, k, none⟩ = some (mks (gI k0) k ++ vs.drop k)[k] := by rw [hown.cellAt _ (by omega)]; exact List.getElem?_eq_getElem (by omega)
        have f0 := hown.frozenAt k
        have hlt2 : (k : Int) < (n : Int) := by omega
        have hm2 : (m : Int) ≤ 200000000 := by omega
        generalize (mks (gI k0) k ++ vs.drop k)[k] = q0 at u0
        clear hown hG hs hs0 hll hm hE
        go_wp2
        go_roundw
        case rel => exact HS.out
        case measure => simp [intOf]; omega
      · obtain rfl : k = n := by omega
        rw [← hvl, List.drop_length, List.append_nil, hvl] at hown
        go_wp2
        go_ret
        exact ⟨by rw [hm]; rfl, hown, hG⟩
set_option maxRecDepth 100000 in
set_option maxHeartbeats 1600000 in
theorem heldI_is (B k0 : Nat) (a : Option Addr) (n cap : Nat) (w : World) (h : w.ownsRow B 3 1 (.slice a n cap) n (mks (gI k0) (n))) (hl : n ≤ 2000000) (hk0 : k0 ≤ 100000000) :
    Calls Try.prog 16 #[.slice a n cap, .int .i64 (k0 : Int)] w fun e w' => e = .returned (.int .i64 ((k0 + n : Nat) : Int)) ∧ Below w.heap.size w w' := by
  have hcell : ∀ i, i < n → ∃ g, a = some ⟨g, 0, none⟩ ∧ w.cell? ⟨g, i, none⟩ = some (gI k0 i) ∧ g < w.heap.size := by
    intro i hi
    rcases h.2 with ⟨e, h0⟩ | ⟨g, cap', cur, e, _⟩
    · omega
    · injection e with e1 e2 e3
      subst e1 e3
      exact ⟨g, rfl, by rw [h.cellAt i (by omega), mks_get _ _ _ hi], (h.lt g rfl).2⟩
  clear h
  go_enter Try.func16, Try.ntmps16
  go_wp2
  go_loopw [1, 5] (fun kv i wr => ∃ k m : Nat, k ≤ n ∧ m = k0 + k ∧ i = .int .i64 k ∧ kv = .int .i64 m ∧ Below w.heap.size w wr) (fun _ i _ => n - (intOf i).toNat)
  case atStart => exact ⟨0, k0, by omega, by omega, rfl, rfl, Below.refl _ _⟩
  case round =>
    obtain ⟨k, m, hk, hm, rfl, rfl, hbel⟩ := hrel
    by_cases hlt : k < n
    · obtain ⟨g, e0, h0, hg0⟩ := hcell k (by omega)
      rw [← hbel.cell (p := ⟨g, k, none⟩) hg0, gI_0 k0 k m hm] at h0
      subst e0
      have hlt2 : (k : Int) < (n : Int) := by omega
      have hm2 : (m : Int) ≤ 200000000 := by omega
      have hm3 : m + 1 = k0 + k + 1 := by omega
      clear hcell hm
      go_wp2
      go_roundw
      case rel => exact ⟨k + 1, m + 1, by omega, hm3, by go_num, by go_num, hbel⟩
      case measure => simp [intOf]; omega
    · obtain rfl : k = n := by omega
      go_wp2
      go_ret
      exact ⟨by rw [hm]; rfl, hbel⟩
end Go.Proofs.Ythmompnlkclfaaa
