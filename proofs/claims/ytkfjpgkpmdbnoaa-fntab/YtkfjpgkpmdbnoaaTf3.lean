/- The last version of a holder: the model. -/
import Derived.Test.YtkfjpgkpmdbnoaaTf0
set_option linter.unusedVariables false
set_option maxRecDepth 100000
namespace Go.Proofs.Ytkfjpgkpmdbnoaa
open Go Go.RowKit Go.Joins Own Draw

set_option maxRecDepth 100000 in
set_option maxHeartbeats 3200000 in
theorem specLast_is (a : Option Addr) (cap : Nat) (xs : List TS) (n : Int) (w : World) (hr : FRow 3 cS w a xs) (hl : xs.length ≤ 1048576) :
    Calls Try.prog 43 #[.slice a xs.length cap, .int .i64 n] w fun e w' => e = .returned (.int .i64 (laG xs n)) ∧ Below w.heap.size w w' := by
  go_enter Try.func43, Try.ntmps43
  go_wp2
  go_loopw [5, 6] (fun q i wr => ∃ (k : Nat) (u : Int), k ≤ xs.length ∧ i = .int .i64 k ∧ q = .int .i64 u ∧ Hid (laG (xs.take k) n = u) ∧ Below w.heap.size w wr) (fun _ i _ => xs.length - (intOf i).toNat)
  case atStart => exact ⟨0, 0, by omega, rfl, rfl, rfl, Below.refl _ _⟩
  case round =>
    obtain ⟨k, u, hk, rfl, rfl, hu, hbel⟩ := hrel
    by_cases hlt : k < xs.length
    · have hlt2 : (k : Int) < (xs.length : Int) := by omega
      obtain ⟨b1, o1, rfl, l1, hc⟩ := hr k hlt
      have h0 : wr.cell? ⟨b1, o1 + k * 3, none⟩ = some (.int .i64 xs[k].1) := (hbel.cell (p := ⟨b1, o1 + k * 3, none⟩) l1).trans (hc 0 _ rfl)
      have h1 : wr.cell? ⟨b1, o1 + k * 3 + 1, none⟩ = some (.int .i64 xs[k].2.1) := (hbel.cell (p := ⟨b1, o1 + k * 3 + 1, none⟩) l1).trans (hc 1 _ rfl)
      clear hc
      by_cases hw : xs[k].1 = n
      · have HN : Hid (laG (xs.take (k + 1)) n = xs[k].2.1) := by show _ = _; rw [laG_at hlt]; unfold laS; rw [if_pos hw]
        rw [hw] at h0
        generalize xs[k].2.1 = y at h1 HN
        clear hu hr hw
        go_wp2
        go_roundw
        case rel => exact ⟨k + 1, y, by omega, by go_num, rfl, HN, hbel⟩
        case measure => simp [intOf]; omega
      · have HN : Hid (laG (xs.take (k + 1)) n = u) := by show _ = _; rw [laG_at hlt]; unfold laS; rw [if_neg hw]; exact hu.out
        have g1 : (xs[k].1 == n) = false := beq_eq_false_iff_ne.2 hw
        generalize xs[k].1 = y at h0 g1
        clear hu hr hw
        go_wp2
        go_roundw
        case rel => exact ⟨k + 1, u, by omega, by go_num, rfl, HN, hbel⟩
        case measure => simp [intOf]; omega
    · obtain rfl : k = xs.length := by omega
      have HV : Hid (laG xs n = u) := by have := hu.out; rw [List.take_length] at this; exact this
      clear hu hr
      go_wp2
      go_ret
      exact ⟨by rw [HV.out]; try rfl, hbel⟩
end Go.Proofs.Ytkfjpgkpmdbnoaa
