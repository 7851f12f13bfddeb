/- Chapter 8: what the model replies. -/
import Derived.Test.YtcaieniddnhkbaaSp8a
set_option linter.unusedVariables false
set_option maxRecDepth 100000
namespace Go.Proofs.Ytcaieniddnhkbaa
open Go Go.RowKit Own Var Term

theorem Blk.lt {g : Nat} {v : Value} {vs : List Value} {w : World} (h : Blk g (v :: vs) w) : g < w.heap.size := World.block_lt_of_cell? w _ (h.at 0 rfl)
theorem shR_size (a b c : Int) : (shR a b c).size ≤ 900 := by
  unfold shR
  split
  · exact listT_size _
  · show 0 ≤ 900; omega
theorem not_empty {x : ByteArray} (h : x ≠ ⟨#[]⟩) : x.toList.isEmpty = false := by
  cases hx : x.toList.isEmpty with
  | false => rfl
  | true =>
    rw [ByteArray.toList_eq, List.isEmpty_iff] at hx
    exact (h (ByteArray.ext (Array.toList_inj.1 hx))).elim
end Go.Proofs.Ytcaieniddnhkbaa
