/- Rows of slots. -/
import Derived.Test.YtkfjpgkpmdbnoaaRg0
set_option linter.unusedVariables false
set_option maxRecDepth 100000
namespace Go.Proofs.Ytkfjpgkpmdbnoaa
open Go Go.RowKit Go.Joins Own Draw

set_option maxRecDepth 100000 in
set_option maxHeartbeats 1600000 in
theorem markS_is (B k0 : Nat) (a : Option Addr) (n cap : Nat) (vs : List Value) (w : World) (h : w.ownsRow B 31 3 (.slice a n cap) n vs) (hl : n ≤ 2000000) (hk0 : k0 ≤ 100000000) :
    Calls Try.prog 31 #[.slice a n cap, .int .i64 (k0 : Int)] w fun e w' => e = .returned (.int .i64 ((k0 + n * 3 : Nat) : Int)) ∧ w'.ownsRow B 31 3 (.slice a n cap) n (mks (gS k0) (n * 3)) ∧ w.grownBy w' (Value.slice a n cap).ownBlock := by
  rcases h.2 with ⟨e, h0⟩ | ⟨g, cap', cur, e, _⟩
  · injection e with e1 e2 e3
    subst e1 e3 h0
    have hv : vs = [] := List.length_eq_zero_iff.1 (by have := h.1; omega)
    subst hv
    go_enter Try.func31, Try.ntmps31
    go_wp2
    go_loopw [1, 5] (fun kv i wr => i = .int .i64 0 ∧ kv = .int .i64 (k0 : Int) ∧ w = wr) (fun _ _ _ => 0)
    case atStart => exact ⟨rfl, rfl, rfl⟩
    case round =>
      obtain ⟨rfl, rfl, rfl⟩ := hrel
      go_wp2
      go_ret
      exact ⟨by simp, h, World.grownBy.refl _ _⟩
  · injection e with e1 e2 e3
    subst e1 e3
    have H0 : w.ownsRow B 31 3 (.slice (some ⟨g, 0, none⟩) n cap) n (mks (gS k0) (0 * 3) ++ vs.drop (0 * 3)) := by rw [Nat.zero_mul]; exact h
    have hvl : vs.length = n * 3 := by have := h.1; omega
    have hG0 : w.grownBy w (some g) := World.grownBy.refl _ _
    clear h
    go_enter Try.func31, Try.ntmps31
    go_wp2
    go_loopw [1, 5] (fun kv i wr => ∃ k m : Nat, k ≤ n ∧ m = k0 + k * 3 ∧ i = .int .i64 k ∧ kv = .int .i64 m ∧ wr.ownsRow B 31 3 (.slice (some ⟨g, 0, none⟩) n cap) n (mks (gS k0) (k * 3) ++ vs.drop (k * 3)) ∧ w.grownBy wr (some g)) (fun _ i _ => n - (intOf i).toNat)
    case atStart => exact ⟨0, k0, by omega, by omega, rfl, rfl, H0, hG0⟩
    case round =>
      clear H0 hG0
      obtain ⟨k, m, hk, hm, rfl, rfl, hown, hG⟩ := hrel
      by_cases hlt : k < n
      · have hs0 := hown.stored (k * 3) (.int .i64 ((m : Int)))
        have hs1 := hs0.1.stored (k * 3 + 1) (.int .i64 ((m : Int) + 1))
        have hs2 := hs1.1.stored (k * 3 + 2) (.int .i64 ((m : Int) + 1 + 1))
        have hs := hs2.1
        have hE : (((mks (gS k0) (k * 3) ++ vs.drop (k * 3)).set (k * 3) (.int .i64 ((m : Int)))).set (k * 3 + 1) (.int .i64 ((m : Int) + 1))).set (k * 3 + 2) (.int .i64 ((m : Int) + 1 + 1)) = mks (gS k0) ((k + 1) * 3) ++ vs.drop ((k + 1) * 3) := by rw [← gS_0 k0 k m hm, ← gS_1 k0 k m hm, ← gS_2 k0 k m hm, mks_put (gS k0) vs (k * 3) (k * 3 + 1) (by omega) (by omega), mks_put (gS k0) vs (k * 3 + 1) (k * 3 + 2) (by omega) (by omega), mks_put (gS k0) vs (k * 3 + 2) ((k + 1) * 3) (by omega) (by omega)]
        rw [hE] at hs
        have HS : Hid (∃ k' m' : Nat, k' ≤ n ∧ m' = k0 + k' * 3 ∧ Value.int .i64 ((k : Int) + 1) = .int .i64 k' ∧ Value.int .i64 ((m : Int) + 1 + 1 + 1) = .int .i64 m' ∧ (((wr.setCell ⟨g, k * 3, none⟩ (.int .i64 ((m : Int)))).setCell ⟨g, k * 3 + 1, none⟩ (.int .i64 ((m : Int) + 1))).setCell ⟨g, k * 3 + 2, none⟩ (.int .i64 ((m : Int) + 1 + 1))).ownsRow B 31 3 (.slice (some ⟨g, 0, none⟩) n cap) n (mks (gS k0) (k' * 3) ++ vs.drop (k' * 3)) ∧ w.grownBy (((wr.setCell ⟨g, k * 3, none⟩ (.int .i64 ((m : Int)))).setCell ⟨g, k * 3 + 1, none⟩ (.int .i64 ((m : Int) + 1))).setCell ⟨g, k * 3 + 2, none⟩ (.int .i64 ((m : Int) + 1 + 1))) (some g)) :=
          ⟨k + 1, m + 1 + 1 + 1, by omega, by omega, by go_num, by go_num, hs, (grown_to (grown_to (grown_to hG hs0.2) hs1.2) hs2.2)⟩
        have hll : (mks (gS k0) (k * 3) ++ vs.drop (k * 3)).length = n * 3 := by have := hown.1; omega
        have u0 : wr.cell? ⟨g, k * 3, none⟩ = some (mks (gS k0) (k * 3) ++ vs.drop (k * 3))[k * 3] := by rw [hown.cellAt _ (by omega)]; exact List.getElem?_eq_getElem (by omega)
        have f0 := hown.frozenAt (k * 3)
        have u1 : wr.cell? ⟨g, k * 3 + 1, none⟩ = some (mks (gS k0) (k * 3) ++ vs.drop (k * 3))[k * 3 + 1] := by rw [hown.cellAt _ (by omega)]; exact List.getElem?_eq_getElem (by omega)
        have f1 := hown.frozenAt (k * 3 + 1)
        have u2 : wr.cell? ⟨g, k * 3 + 2, none⟩ = some (mks (gS k0) (k * 3) ++ vs.drop (k * 3))[k * 3 + 2] := by rw [hown.cellAt _ (by omega)]; exact List.getElem?_eq_getElem (by omega)
        have f2 := hown.frozenAt (k * 3 + 2)
        have hlt2 : (k : Int) < (n : Int) := by omega
        have hm2 : (m : Int) ≤ 200000000 := by omega
        generalize (mks (gS k0) (k * 3) ++ vs.drop (k * 3))[k * 3] = q0 at u0
        generalize (mks (gS k0) (k * 3) ++ vs.drop (k * 3))[k * 3 + 1] = q1 at u1
        generalize (mks (gS k0) (k * 3) ++ vs.drop (k * 3))[k * 3 + 2] = q2 at u2
        clear hown hG hs hs0 hs1 hs2 hll hm hE
        go_wp2
        go_roundw
        case rel => exact HS.out
        case measure => simp [intOf]; omega
      · obtain rfl : k = n := by omega
        rw [← hvl, List.drop_length, List.append_nil, hvl] at hown
        go_wp2
        go_ret
        exact ⟨by rw [hm]; rfl, hown, hG⟩
set_option maxRecDepth 100000 in
set_option maxHeartbeats 1600000 in
theorem heldS_is (B k0 : Nat) (a : Option Addr) (n cap : Nat) (w : World) (h : w.ownsRow B 31 3 (.slice a n cap) n (mks (gS k0) (n * 3))) (hl : n ≤ 2000000) (hk0 : k0 ≤ 100000000) :
    Calls Try.prog 32 #[.slice a n cap, .int .i64 (k0 : Int)] w fun e w' => e = .returned (.int .i64 ((k0 + n * 3 : Nat) : Int)) ∧ Below w.heap.size w w' := by
  have hcell : ∀ i, i < n * 3 → ∃ g, a = some ⟨g, 0, none⟩ ∧ w.cell? ⟨g, i, none⟩ = some (gS k0 i) ∧ g < w.heap.size := by
    intro i hi
    rcases h.2 with ⟨e, h0⟩ | ⟨g, cap', cur, e, _⟩
    · omega
    · injection e with e1 e2 e3
      subst e1 e3
      exact ⟨g, rfl, by rw [h.cellAt i (by omega), mks_get _ _ _ hi], (h.lt g rfl).2⟩
  clear h
  go_enter Try.func32, Try.ntmps32
  go_wp2
  go_loopw [1, 5] (fun kv i wr => ∃ k m : Nat, k ≤ n ∧ m = k0 + k * 3 ∧ i = .int .i64 k ∧ kv = .int .i64 m ∧ Below w.heap.size w wr) (fun _ i _ => n - (intOf i).toNat)
  case atStart => exact ⟨0, k0, by omega, by omega, rfl, rfl, Below.refl _ _⟩
  case round =>
    obtain ⟨k, m, hk, hm, rfl, rfl, hbel⟩ := hrel
    by_cases hlt : k < n
    · obtain ⟨g, e0, h0, hg0⟩ := hcell (k * 3) (by omega)
      rw [← hbel.cell (p := ⟨g, k * 3, none⟩) hg0, gS_0 k0 k m hm] at h0
      obtain ⟨g1, e1, h1, hg1⟩ := hcell (k * 3 + 1) (by omega)
      obtain rfl : g = g1 := by rw [e0] at e1; injection e1 with e1; injection e1
      rw [← hbel.cell (p := ⟨g, k * 3 + 1, none⟩) hg0, gS_1 k0 k m hm] at h1
      obtain ⟨g2, e2, h2, hg2⟩ := hcell (k * 3 + 2) (by omega)
      obtain rfl : g = g2 := by rw [e0] at e2; injection e2 with e2; injection e2
      rw [← hbel.cell (p := ⟨g, k * 3 + 2, none⟩) hg0, gS_2 k0 k m hm] at h2
      subst e0
      have hlt2 : (k : Int) < (n : Int) := by omega
      have hm2 : (m : Int) ≤ 200000000 := by omega
      have hm3 : m + 1 + 1 + 1 = k0 + (k + 1) * 3 := by omega
      clear hcell hm
      go_wp2
      go_roundw
      case rel => exact ⟨k + 1, m + 1 + 1 + 1, by omega, hm3, by go_num, by go_num, hbel⟩
      case measure => simp [intOf]; omega
    · obtain rfl : k = n := by omega
      go_wp2
      go_ret
      exact ⟨by rw [hm]; rfl, hbel⟩
end Go.Proofs.Ytkfjpgkpmdbnoaa
