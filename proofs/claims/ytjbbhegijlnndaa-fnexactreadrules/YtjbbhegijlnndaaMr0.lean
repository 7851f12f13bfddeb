/- Marks of numbers. -/
import Derived.Test.YtjbbhegijlnndaaFl
import Derived.Test.YtjbbhegijlnndaaDraw
set_option linter.unusedVariables false
set_option maxRecDepth 100000
namespace Go.Proofs.Ytjbbhegijlnndaa
open Go Go.RowKit Go.Joins Own Draw

abbrev TI := Int
abbrev cI (p : TI) : List Value := [.int .i64 p]
abbrev vI (p : TI) : Value := .agg #[.int .i64 p]
theorem lI (p : TI) : (cI p).length = 1 := rfl
def gI (k0 i : Nat) : Value := .int .i64 ((k0 + i : Nat) : Int)
theorem gI_0 (k0 k m : Nat) (hm : m = k0 + k) : gI k0 k = .int .i64 ((m : Int)) := by
  subst hm
  unfold gI
  congr 1

set_option maxRecDepth 100000 in
set_option maxHeartbeats 1600000 in
theorem markI_is (B k0 : Nat) (a : Option Addr) (n cap : Nat) (vs : List Value) (w : World) (h : w.ownsRow B 3 1 (.slice a n cap) n vs) (hl : n ≤ 4000000) (hk0 : k0 ≤ 100000000) :
    Calls Try.prog 74 #[.slice a n cap, .int .i64 (k0 : Int)] w fun e w' => e = .returned (.int .i64 ((k0 + n : Nat) : Int)) ∧ w'.ownsRow B 3 1 (.slice a n cap) n (mks (gI k0) (n)) ∧ w.grownBy w' (Value.slice a n cap).ownBlock := by
  rcases h.2 with ⟨e, h0⟩ | ⟨g, cap', cur, e, _⟩
  · injection e with e1 e2 e3
    subst e1 e3 h0
    have hv : vs = [] := List.length_eq_zero_iff.1 (by have := h.1; omega)
    subst hv
    go_enter Try.func74, Try.ntmps74
    go_wp2
    go_loopw [1, 5] (fun kv i wr => i = .int .i64 0 ∧ kv = .int .i64 (k0 : Int) ∧ w = wr) (fun _ _ _ => 0)
    case atStart => exact ⟨rfl, rfl, rfl⟩
    case round =>
      obtain ⟨rfl, rfl, rfl⟩ := hrel
      go_wp2
      go_ret
      exact ⟨by simp, h, World.grownBy.refl _ _⟩
  · injection e with e1 e2 e3
    subst e1 e3
    have H0 : w.ownsRow B 3 1 (.slice (some ⟨g, 0, none⟩) n cap) n (mks (gI k0) (0) ++ vs.drop (0)) := by exact h
    have hvl : vs.length = n := by have := h.1; omega
    have hG0 : w.grownBy w (some g) := World.grownBy.refl _ _
    clear h
    go_enter Try.func74, Try.ntmps74
    go_wp2
    go_loopw [1, 5] (fun kv i wr => ∃ k m : Nat, k ≤ n ∧ m = k0 + k ∧ i = .int .i64 k ∧ kv = .int .i64 m ∧ wr.ownsRow B 3 1 (.slice (some ⟨g, 0, none⟩) n cap) n (mks (gI k0) k ++ vs.drop k) ∧ w.grownBy wr (some g)) (fun _ i _ => n - (intOf i).toNat)
    case atStart => exact ⟨0, k0, by omega, by omega, rfl, rfl, H0, hG0⟩
    case round =>
      clear H0 hG0
      obtain ⟨k, m, hk, hm, rfl, rfl, hown, hG⟩ := hrel
      by_cases hlt : k < n
      · have hs0 := hown.stored k (.int .i64 ((m : Int)))
        have hs := hs0.1
        have hE : (mks (gI k0) k ++ vs.drop k).set k (.int .i64 ((m : Int))) = mks (gI k0) (k + 1) ++ vs.drop (k + 1) := by rw [← gI_0 k0 k m hm, mks_put (gI k0) vs k (k + 1) (by omega) (by omega)]
        rw [hE] at hs
        have HS : Hid (∃ k' m' : Nat, k' ≤ n ∧ m' = k0 + k' ∧ Value.int .i64 ((k : Int) + 1) = .int .i64 k' ∧ Value.int .i64 ((m : Int) + 1) = .int .i64 m' ∧ (wr.setCell ⟨g, k, none⟩ (.int .i64 ((m : Int)))).ownsRow B 3 1 (.slice (some ⟨g, 0, none⟩) n cap) n (mks (gI k0) k' ++ vs.drop k') ∧ w.grownBy (wr.setCell ⟨g, k, none⟩ (.int .i64 ((m : Int)))) (some g)) :=
          ⟨k + 1, m + 1, by omega, by omega, by go_num, by go_num, hs, (grown_to hG hs0.2)⟩
        have hll : (mks (gI k0) k ++ vs.drop k).length = n := by have := hown.1; omega
        have u0 : wr.cell? ⟨g, k, none⟩ = some (mks (gI k0) k ++ vs.drop k)[k] := by rw [hown.cellAt _ (by omega)]; exact List.getElem?_eq_getElem (by omega)
        have f0 := hown.frozenAt k
        have hlt2 : (k : Int) < (n : Int) := by omega
        have hm2 : (m : Int) ≤ 200000000 := by omega
        generalize (mks (gI k0) k ++ vs.drop k)[k] = q0 at u0
        clear hown hG hs hs0 hll hm hE
        go_wp2
        go_roundw
        case rel => exact HS.out
        case measure => simp [intOf]; omega
      · obtain rfl : k = n := by omega
        rw [← hvl, List.drop_length, List.append_nil, hvl] at hown
        go_wp2
        go_ret
        exact ⟨by rw [hm]; rfl, hown, hG⟩
set_option maxRecDepth 100000 in
set_option maxHeartbeats 1600000 in
theorem heldI_is (B k0 : Nat) (a : Option Addr) (n cap : Nat) (w : World) (h : w.ownsRow B 3 1 (.slice a n cap) n (mks (gI k0) (n))) (hl : n ≤ 4000000) (hk0 : k0 ≤ 100000000) :
    Calls Try.prog 75 #[.slice a n cap, .int .i64 (k0 : Int)] w fun e w' => e = .returned (.int .i64 ((k0 + n : Nat) : Int)) ∧ Below w.heap.size w w' := by
  have hcell : ∀ i, i < n → ∃ g, a = some ⟨g, 0, none⟩ ∧ w.cell? ⟨g, i, none⟩ = some (gI k0 i) ∧ g < w.heap.size := by
    intro i hi
    rcases h.2 with ⟨e, h0⟩ | ⟨g, cap', cur, e, _⟩
    · omega
    · injection e with e1 e2 e3
      subst e1 e3
      exact ⟨g, rfl, by rw [h.cellAt i (by omega), mks_get _ _ _ hi], (h.lt g rfl).2⟩
  clear h
  go_enter Try.func75, Try.ntmps75
  go_wp2
  go_loopw [1, 5] (fun kv i wr => ∃ k m : Nat, k ≤ n ∧ m = k0 + k ∧ i = .int .i64 k ∧ kv = .int .i64 m ∧ Below w.heap.size w wr) (fun _ i _ => n - (intOf i).toNat)
  case atStart => exact ⟨0, k0, by omega, by omega, rfl, rfl, Below.refl _ _⟩
  case round =>
    obtain ⟨k, m, hk, hm, rfl, rfl, hbel⟩ := hrel
    by_cases hlt : k < n
    · obtain ⟨g, e0, h0, hg0⟩ := hcell k (by omega)
      rw [← hbel.cell (p := ⟨g, k, none⟩) hg0, gI_0 k0 k m hm] at h0
      subst e0
      have hlt2 : (k : Int) < (n : Int) := by omega
      have hm2 : (m : Int) ≤ 200000000 := by omega
      have hm3 : m + 1 = k0 + k + 1 := by omega
      clear hcell hm
      go_wp2
      go_roundw
      case rel => exact ⟨k + 1, m + 1, by omega, hm3, by go_num, by go_num, hbel⟩
      case measure => simp [intOf]; omega
    · obtain rfl : k = n := by omega
      go_wp2
      go_ret
      exact ⟨by rw [hm]; rfl, hbel⟩
end Go.Proofs.Ytjbbhegijlnndaa
