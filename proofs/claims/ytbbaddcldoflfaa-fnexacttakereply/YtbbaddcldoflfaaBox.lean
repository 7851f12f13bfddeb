/- Tickets: what is sealed in a box, and opened. -/
import Derived.Test.YtbbaddcldoflfaaFaces2
import Derived.Test.YtbbaddcldoflfaaLists
set_option linter.unusedVariables false
namespace Go.Proofs.Ytbbaddcldoflfaa
open Go Go.RowKit Own Var Term

theorem okOr_size (s : ByteArray) : (okOr s).size ≤ 900 := by
  cases h : isT s with
  | false => rw [okOr_no h]; show 0 ≤ 900; omega
  | true => rw [okOr_yes h]; exact ((isT_iff s).1 h).1
theorem listT_size (xs : List ByteArray) : (listT xs).size ≤ 900 := by
  unfold listT
  split
  · exact okOr_size _
  · show 0 ≤ 900; omega
theorem sealT_size (k : Int) (t : ByteArray) : (sealT k t).size ≤ 900 := by
  unfold sealT
  split
  · exact okOr_size _
  · show 0 ≤ 900; omega
theorem keyT_size (k : Int) : (keyT k).size ≤ 900 := by rw [← keyT_ok]; exact okOr_size _

set_option maxRecDepth 100000 in
theorem sealA_is (c t q : Int) (key : Int) (x : ByteArray) (w : World) (hx : x.size ≤ 1048576) : Calls Try.prog 90 #[.agg #[.int .i64 c, .int .i64 t, .int .i64 q, .int .i64 key], .string x] w fun en w' => en = .returned (.string (sealT key x)) ∧ Below w.heap.size w w' := by
  have B0 : Below w.heap.size w (w.alloc (.cells #[.int .i64 c, .int .i64 t, .int .i64 q, .int .i64 key] 92)) := (Below.refl _ _).alloc (Nat.le_refl _) _
  go_enter Try.func90, Try.ntmps90
  go_wp2_with fail
  refine (impl_seal key x _ hx).mono ?_
  rintro en w1 ⟨rfl, hb1⟩
  have B1 := B0.trans (hb1.mono B0.size)
  clear B0 hb1
  go_wp2
  go_ret
  exact ⟨rfl, B1⟩
set_option maxRecDepth 100000 in
theorem sealG_is (k s n a b e : Int) (key : Int) (x : ByteArray) (w : World) (hx : x.size ≤ 1048576) : Calls Try.prog 80 #[.agg #[.int .i64 k, .int .i64 s, .int .i64 n, .int .i64 a, .int .i64 b, .int .i64 e, .int .i64 key], .string x] w fun en w' => en = .returned (.string (sealT key x)) ∧ Below w.heap.size w w' := by
  have B0 : Below w.heap.size w (w.alloc (.cells #[.int .i64 k, .int .i64 s, .int .i64 n, .int .i64 a, .int .i64 b, .int .i64 e, .int .i64 key] 78)) := (Below.refl _ _).alloc (Nat.le_refl _) _
  go_enter Try.func80, Try.ntmps80
  go_wp2_with fail
  refine (impl_seal key x _ hx).mono ?_
  rintro en w1 ⟨rfl, hb1⟩
  have B1 := B0.trans (hb1.mono B0.size)
  clear B0 hb1
  go_wp2
  go_ret
  exact ⟨rfl, B1⟩
set_option maxRecDepth 100000 in
theorem openG_is (k s n a b e : Int) (key : Int) (x : ByteArray) (w : World) (hx : x.size ≤ 1048576) : Calls Try.prog 76 #[.agg #[.int .i64 k, .int .i64 s, .int .i64 n, .int .i64 a, .int .i64 b, .int .i64 e, .int .i64 key], .string x] w fun en w' => en = .returned (.string (openR x key).1) ∧ Below w.heap.size w w' := by
  have B0 : Below w.heap.size w (w.alloc (.cells #[.int .i64 k, .int .i64 s, .int .i64 n, .int .i64 a, .int .i64 b, .int .i64 e, .int .i64 key] 78)) := (Below.refl _ _).alloc (Nat.le_refl _) _
  go_enter Try.func76, Try.ntmps76
  go_wp2_with fail
  refine (impl_open x key _ hx).mono ?_
  rintro en w1 ⟨rfl, hb1⟩
  have B1 := B0.trans (hb1.mono B0.size)
  clear B0 hb1
  go_wp2
  go_ret
  exact ⟨rfl, B1⟩
end Go.Proofs.Ytbbaddcldoflfaa
