/- What is right: tickets, authenticators, grants. -/
import Derived.Test.YtbbaddcldoflfaaRest
namespace Go.Proofs.Ytbbaddcldoflfaa
open Go Go.RowKit

/-! What is right. -/
/-- A number from 0 to a last one, or from a first one on. -/
def btw (n lo hi : Int) : Bool := decide (lo ≤ n) && decide (n ≤ hi)
def svOk (s : Int) : Bool := btw s 0 2 || btw s 10 12
def allB (l : List Int) (m : Nat) : Bool := decide (l.length ≤ m) && l.all fun n => btw n 0 2
def tOk (c s k a b e : Int) (P V : List Int) : Bool := btw c 0 5 && (svOk s && (btw k 1 1000000 && (rOk a b e && (allB P 6 && allB V 4))))
def aOk (c t q : Int) : Bool := btw c 0 5 && (btw t 0 100000 && btw q 0 1000000)
def gOk (k s n a b e : Int) : Bool := btw k 1 1000000 && (svOk s && (btw n 0 1000000 && rOk a b e))

theorem btw_iff (n lo hi : Int) : btw n lo hi = true ↔ lo ≤ n ∧ n ≤ hi := by unfold btw; simp
theorem inB_btw (n g : Int) : inB n g = btw n 0 g := rfl
end Go.Proofs.Ytbbaddcldoflfaa
