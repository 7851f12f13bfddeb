/- Marks of pairs. -/
import Derived.Test.YtflajkbbggmdjaaNd0
set_option linter.unusedVariables false
set_option maxRecDepth 100000
namespace Go.Proofs.Ytflajkbbggmdjaa.Nd
open Go Go.RowKit Go.Joins Own Draw

def gP (k0 i : Nat) : Value := .int .i64 ((k0 + i : Nat) : Int)
theorem gP_0 (k0 k m : Nat) (hm : m = k0 + k * 2) : gP k0 (k * 2) = .int .i64 ((m : Int)) := by
  subst hm
  unfold gP
  congr 1
theorem gP_1 (k0 k m : Nat) (hm : m = k0 + k * 2) : gP k0 (k * 2 + 1) = .int .i64 ((m : Int) + 1) := by
  subst hm
  unfold gP
  congr 1
set_option maxRecDepth 100000 in
set_option maxHeartbeats 1600000 in
theorem markP_is (B k0 : Nat) (a : Option Addr) (n cap : Nat) (vs : List Value) (w : World) (h : w.ownsRow B 100 2 (.slice a n cap) n vs) (hl : n ≤ 2000000) (hk0 : k0 ≤ 100000000) :
    Calls Try.prog 46 #[.slice a n cap, .int .i64 (k0 : Int)] w fun e w' => e = .returned (.int .i64 ((k0 + n * 2 : Nat) : Int)) ∧ w'.ownsRow B 100 2 (.slice a n cap) n (mks (gP k0) (n * 2)) ∧ w.grownBy w' (Value.slice a n cap).ownBlock := by
  rcases h.2 with ⟨e, h0⟩ | ⟨g, cap', cur, e, _⟩
  · injection e with e1 e2 e3
    subst e1 e3 h0
    have hv : vs = [] := List.length_eq_zero_iff.1 (by have := h.1; omega)
    subst hv
    go_enter Try.func46, Try.ntmps46
    go_wp2
    go_loopw [1, 5] (fun kv i wr => i = .int .i64 0 ∧ kv = .int .i64 (k0 : Int) ∧ w = wr) (fun _ _ _ => 0)
    case atStart => exact ⟨rfl, rfl, rfl⟩
    case round =>
      obtain ⟨rfl, rfl, rfl⟩ := hrel
      go_wp2
      go_ret
      exact ⟨by simp, h, World.grownBy.refl _ _⟩
  · injection e with e1 e2 e3
    subst e1 e3
    have H0 : w.ownsRow B 100 2 (.slice (some ⟨g, 0, none⟩) n cap) n (mks (gP k0) (0 * 2) ++ vs.drop (0 * 2)) := by rw [Nat.zero_mul]; exact h
    have hvl : vs.length = n * 2 := by have := h.1; omega
    have hG0 : w.grownBy w (some g) := World.grownBy.refl _ _
    clear h
    go_enter Try.func46, Try.ntmps46
    go_wp2
    go_loopw [1, 5] (fun kv i wr => ∃ k m : Nat, k ≤ n ∧ m = k0 + k * 2 ∧ i = .int .i64 k ∧ kv = .int .i64 m ∧ wr.ownsRow B 100 2 (.slice (some ⟨g, 0, none⟩) n cap) n (mks (gP k0) (k * 2) ++ vs.drop (k * 2)) ∧ w.grownBy wr (some g)) (fun _ i _ => n - (intOf i).toNat)
    case atStart => exact ⟨0, k0, by omega, by omega, rfl, rfl, H0, hG0⟩
    case round =>
      clear H0 hG0
      obtain ⟨k, m, hk, hm, rfl, rfl, hown, hG⟩ := hrel
      by_cases hlt : k < n
      · have hs0 := hown.stored (k * 2) (.int .i64 ((m : Int)))
        have hs1 := hs0.1.stored (k * 2 + 1) (.int .i64 ((m : Int) + 1))
        have hs := hs1.1
        have hE : ((mks (gP k0) (k * 2) ++ vs.drop (k * 2)).set (k * 2) (.int .i64 ((m : Int)))).set (k * 2 + 1) (.int .i64 ((m : Int) + 1)) = mks (gP k0) ((k + 1) * 2) ++ vs.drop ((k + 1) * 2) := by rw [← gP_0 k0 k m hm, ← gP_1 k0 k m hm, mks_put (gP k0) vs (k * 2) (k * 2 + 1) (by omega) (by omega), mks_put (gP k0) vs (k * 2 + 1) ((k + 1) * 2) (by omega) (by omega)]
        rw [hE] at hs
        have HS : Hid (∃ k' m' : Nat, k' ≤ n ∧ m' = k0 + k' * 2 ∧ Value.int .i64 ((k : Int) + 1) = .int .i64 k' ∧ Value.int .i64 ((m : Int) + 1 + 1) = .int .i64 m' ∧ ((wr.setCell ⟨g, k * 2, none⟩ (.int .i64 ((m : Int)))).setCell ⟨g, k * 2 + 1, none⟩ (.int .i64 ((m : Int) + 1))).ownsRow B 100 2 (.slice (some ⟨g, 0, none⟩) n cap) n (mks (gP k0) (k' * 2) ++ vs.drop (k' * 2)) ∧ w.grownBy ((wr.setCell ⟨g, k * 2, none⟩ (.int .i64 ((m : Int)))).setCell ⟨g, k * 2 + 1, none⟩ (.int .i64 ((m : Int) + 1))) (some g)) :=
          ⟨k + 1, m + 1 + 1, by omega, by omega, by go_num, by go_num, hs, (grown_to (grown_to hG hs0.2) hs1.2)⟩
        have hll : (mks (gP k0) (k * 2) ++ vs.drop (k * 2)).length = n * 2 := by have := hown.1; omega
        have u0 : wr.cell? ⟨g, k * 2, none⟩ = some (mks (gP k0) (k * 2) ++ vs.drop (k * 2))[k * 2] := by rw [hown.cellAt _ (by omega)]; exact List.getElem?_eq_getElem (by omega)
        have f0 := hown.frozenAt (k * 2)
        have u1 : wr.cell? ⟨g, k * 2 + 1, none⟩ = some (mks (gP k0) (k * 2) ++ vs.drop (k * 2))[k * 2 + 1] := by rw [hown.cellAt _ (by omega)]; exact List.getElem?_eq_getElem (by omega)
        have f1 := hown.frozenAt (k * 2 + 1)
        have hlt2 : (k : Int) < (n : Int) := by omega
        have hm2 : (m : Int) ≤ 200000000 := by omega
        generalize (mks (gP k0) (k * 2) ++ vs.drop (k * 2))[k * 2] = q0 at u0
        generalize (mks (gP k0) (k * 2) ++ vs.drop (k * 2))[k * 2 + 1] = q1 at u1
        clear hown hG hs hs0 hs1 hll hm hE
        go_wp2
        go_roundw
        case rel => exact HS.out
        case measure => simp [intOf]; omega
      · obtain rfl : k = n := by omega
        rw [← hvl, List.drop_length, List.append_nil, hvl] at hown
        go_wp2
        go_ret
        exact ⟨by rw [hm]; rfl, hown, hG⟩
end Go.Proofs.Ytflajkbbggmdjaa.Nd
