/- Rows of numbers copied and compared. -/
import Derived.Test.YtpfonadpojcnnaaDoorNd0
set_option linter.unusedVariables false
set_option maxRecDepth 100000
namespace Go.Proofs.YtpfonadpojcnnaaDoor.Nd
open Go Go.RowKit Go.Joins Own Draw

theorem infoCI : (Tryd.prog.info? 3).map (fun i => (i.zero, i.size, i.bytes)) = some (some (.int .i64 0), 1, 8) := by kernel_rfl
set_option maxRecDepth 100000 in
set_option maxHeartbeats 800000 in
theorem eqSI_is (a b : Option Addr) (ca cb : Nat) (xs : List Int) (w : World) (ha : RowAt (Value.int .i64) w a xs) (hb : RowAt (Value.int .i64) w b xs) (hl : xs.length ≤ 1048576) :
    Calls Tryd.prog 25 #[.slice a xs.length ca, .slice b xs.length cb] w fun e w' => e = .returned (.bool true) ∧ Below w.heap.size w w' := by
  go_enter Tryd.func25, Tryd.ntmps25
  go_wp2
  go_loopw [5] (fun i wr => ∃ k : Nat, k ≤ xs.length ∧ i = .int .i64 k ∧ Below w.heap.size w wr) (fun i _ => xs.length - (intOf i).toNat)
  case atStart => exact ⟨0, by omega, rfl, Below.refl _ _⟩
  case round =>
    obtain ⟨k, hk, rfl, hbel⟩ := hrel
    by_cases hlt : k < xs.length
    · obtain ⟨b1, o1, rfl, l1, hc1⟩ := ha k hlt
      obtain ⟨b2, o2, rfl, l2, hc2⟩ := hb k hlt
      rw [← hbel.cell (p := ⟨b1, o1 + k, none⟩) l1] at hc1
      rw [← hbel.cell (p := ⟨b2, o2 + k, none⟩) l2] at hc2
      generalize xs[k] = x at hc1 hc2
      go_wp2
      go_region
      all_goals
        go_wp2
        go_roundw
        case rel => exact ⟨k + 1, by omega, by go_num, hbel.drew⟩
        case measure => simp [intOf]; omega
    · go_wp2
      go_ret
      exact ⟨rfl, hbel⟩
theorem eqSI_u (r q : Rw Int) (w : World) (hr : RpI w r) (hq : RpI w q) (hs : rsI r = rsI q) (hl : rtI r ≤ 1048576) : Calls Tryd.prog 25 #[.slice r.1 r.2.2.length r.2.1, .slice q.1 q.2.2.length q.2.1] w fun en w' => en = .returned (.bool true) ∧ Below w.heap.size w w' := by
  obtain ⟨a, c, xs⟩ := r
  obtain ⟨b, d, ys⟩ := q
  obtain rfl : xs = ys := hs
  exact eqSI_is a b c d xs w hr hq (Nat.le_trans (rtI_len (a, c, xs)) hl)
end Go.Proofs.YtpfonadpojcnnaaDoor.Nd
