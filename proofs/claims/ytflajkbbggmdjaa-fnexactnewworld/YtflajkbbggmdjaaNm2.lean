/- Pairs that bear their marks. -/
import Derived.Test.YtflajkbbggmdjaaNm1
import Derived.Test.YtflajkbbggmdjaaRe4
set_option linter.unusedVariables false
set_option maxRecDepth 100000
namespace Go.Proofs.Ytflajkbbggmdjaa.Nd
open Go Go.RowKit Go.Joins Own Draw

set_option maxRecDepth 100000 in
set_option maxHeartbeats 1600000 in
theorem heldP_is (B k0 : Nat) (a : Option Addr) (n cap : Nat) (w : World) (h : w.ownsRow B 100 2 (.slice a n cap) n (mks (gP k0) (n * 2))) (hl : n ≤ 2000000) (hk0 : k0 ≤ 100000000) :
    Calls Try.prog 95 #[.slice a n cap, .int .i64 (k0 : Int)] w fun e w' => e = .returned (.int .i64 ((k0 + n * 2 : Nat) : Int)) ∧ Below w.heap.size w w' := by
  have hcell : ∀ i, i < n * 2 → ∃ g, a = some ⟨g, 0, none⟩ ∧ w.cell? ⟨g, i, none⟩ = some (gP k0 i) ∧ g < w.heap.size := by
    intro i hi
    rcases h.2 with ⟨e, h0⟩ | ⟨g, cap', cur, e, _⟩
    · omega
    · injection e with e1 e2 e3
      subst e1 e3
      exact ⟨g, rfl, by rw [h.cellAt i (by omega), mks_get _ _ _ hi], (h.lt g rfl).2⟩
  clear h
  go_enter Try.func95, Try.ntmps95
  go_wp2
  go_loopw [1, 5] (fun kv i wr => ∃ k m : Nat, k ≤ n ∧ m = k0 + k * 2 ∧ i = .int .i64 k ∧ kv = .int .i64 m ∧ Below w.heap.size w wr) (fun _ i _ => n - (intOf i).toNat)
  case atStart => exact ⟨0, k0, by omega, by omega, rfl, rfl, Below.refl _ _⟩
  case round =>
    obtain ⟨k, m, hk, hm, rfl, rfl, hbel⟩ := hrel
    by_cases hlt : k < n
    · obtain ⟨g, e0, h0, hg0⟩ := hcell (k * 2) (by omega)
      rw [← hbel.cell (p := ⟨g, k * 2, none⟩) hg0, gP_0 k0 k m hm] at h0
      obtain ⟨g1, e1, h1, hg1⟩ := hcell (k * 2 + 1) (by omega)
      obtain rfl : g = g1 := by rw [e0] at e1; injection e1 with e1; injection e1
      rw [← hbel.cell (p := ⟨g, k * 2 + 1, none⟩) hg0, gP_1 k0 k m hm] at h1
      subst e0
      have hlt2 : (k : Int) < (n : Int) := by omega
      have hm2 : (m : Int) ≤ 200000000 := by omega
      have hm3 : m + 1 + 1 = k0 + (k + 1) * 2 := by omega
      clear hcell hm
      go_wp2
      go_roundw
      case rel => exact ⟨k + 1, m + 1 + 1, by omega, hm3, by go_num, by go_num, hbel⟩
      case measure => simp [intOf]; omega
    · obtain rfl : k = n := by omega
      go_wp2
      go_ret
      exact ⟨by rw [hm]; rfl, hbel⟩
end Go.Proofs.Ytflajkbbggmdjaa.Nd
