/- The chain of a key: the program. -/
import Derived.Test.YtgjgacmkhmhooaaCp
set_option linter.unusedVariables false
set_option maxRecDepth 100000
namespace Go.Proofs.Ytgjgacmkhmhooaa
open Go Go.RowKit Go.Joins Own Draw

theorem hoV_i64 {xs : List TE} (h : ∀ p ∈ xs, i64 (paE p) ∧ i64 (evE p)) : ∀ p ∈ xs, i64 (hoV p).1 := by
  intro p hp
  obtain ⟨h1, h2⟩ := h p hp
  unfold hoV awV
  split
  · exact h2
  · split
    · exact h1
    · show i64 0; unfold i64; omega
set_option maxRecDepth 100000 in
set_option maxHeartbeats 1600000 in
theorem implChain_is (a : Option Addr) (cap : Nat) (xs : List TE) (n : Int) (w : World) (hr : FRow 11 cE w a xs) (hl : xs.length ≤ 1048576) (hn : i64 n) (hx : ∀ p ∈ xs, i64 (kyE p) ∧ i64 (paE p) ∧ i64 (evE p)) :
    Calls Try.prog 11 #[.slice a xs.length cap, .int .i64 n] w fun en w' => ∃ (ra : Option Addr) (rc : Nat), en = .returned (.slice ra (chainN xs n).length rc) ∧ w'.ownsRow w.heap.size 3 1 (.slice ra (chainN xs n).length rc) (chainN xs n).length ((chainN xs n).map (Value.int .i64)) ∧ Below w.heap.size w w' := by
  rw [chain_bw]
  have KB := backwards_is a xs.length cap n 22 w
  have bX := bx3_below w a xs.length cap n 22
  have sX := bx3_size w a xs.length cap n 22
  obtain ⟨c1, c2, c3⟩ := bx3_cells w a xs.length cap n 22
  have K2 := backFrom_is w.heap.size (w.heap.size + 1) (w.heap.size + 2) n hn a cap xs hl (fun p h => (hx p h).1) (hoV_i64 (fun p h => (hx p h).2)) (Bx3 w a xs.length cap n 22) (hr.later bX) (by omega) (by omega) (by omega) c1 c2 c3
  clear c1 c2 c3 hx hr
  generalize frL xs (bwL xs hoV xs.length n true) = L at K2 ⊢
  generalize Bx3 w a xs.length cap n 22 = V at *
  go_enter Try.func11, Try.ntmps11
  go_wp2_with fail
  refine KB.mono ?_
  clear KB
  rintro en w1 ⟨rfl, rfl⟩
  go_wp2_with fail
  refine K2.mono ?_
  clear K2
  rintro en w2 ⟨ra, rc, rfl, ho, hb2⟩
  replace ho := ownsRow_le ho bX.size
  replace bX := bX.trans (hb2.mono bX.size)
  clear hb2 sX
  go_wp2
  go_ret
  exact ⟨ra, rc, rfl, ho, bX⟩
end Go.Proofs.Ytgjgacmkhmhooaa
