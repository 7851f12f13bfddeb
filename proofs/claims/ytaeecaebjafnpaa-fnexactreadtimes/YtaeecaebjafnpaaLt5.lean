/- Chapter 16: the law on Times read. -/
import Derived.Test.YtaeecaebjafnpaaTm6
import Derived.Test.YtaeecaebjafnpaaTm7
import Derived.Test.YtaeecaebjafnpaaLt2
set_option linter.unusedVariables false
set_option maxRecDepth 100000
namespace Go.Proofs.Ytaeecaebjafnpaa
open Go.RowKit Own Var Term

set_option maxHeartbeats 3200000 in
theorem lawRead (s : ByteArray) (w : World) (ws : s.size ≤ maxLen) : Calls Try.prog 10 #[.string s] w fun en w' => en = .returned (.bool true) ∧ Below w.heap.size w w' := by
  unfold maxLen at ws
  by_cases ht : (s.size : Int) > 1048576
  · go_enter Try.func10, Try.ntmps10
    go_wp2
    go_ret
    exact ⟨rfl, Below.refl _ _⟩
  have hs : s.size ≤ 1048576 := by omega
  have htd : decide ((s.size : Int) > 1048576) = false := by simpa using ht
  have R1 := fun w => specRead_is s w hs
  have R2 := fun w => implRead_is s w hs
  obtain ⟨p0, p1, p2, p3, kk, hV⟩ : ∃ p0 p1 p2 p3 : Int, ∃ kk : Bool, trV (numsR s).1 = .tuple #[tv p0 p1 p2 p3, .bool kk] := tmIf_form _ _ _ _ _
  rw [hV] at R1 R2
  clear hV
  have BC := Below.refl w.heap.size w
  go_enter Try.func10, Try.ntmps10
  go_wp2_with fail
  refine (R1 _).mono ?_
  rintro en w2 ⟨rfl, hb⟩
  replace BC := BC.trans (hb.mono BC.size)
  clear hb
  have XA_ : Below w2.heap.size w2 (w2.alloc (.cells #[.int .i64 p0, .int .i64 p1, .int .i64 p2, .int .i64 p3] 25)) := (Below.refl _ _).alloc (Nat.le_refl _) _
  have VC : Blk w2.heap.size [.int .i64 p0, .int .i64 p1, .int .i64 p2, .int .i64 p3] (w2.alloc (.cells #[.int .i64 p0, .int .i64 p1, .int .i64 p2, .int .i64 p3] 25)) := Blk.new _ _ _
  replace BC := BC.trans (XA_.mono BC.size)
  clear XA_
  obtain ⟨V3, hV3⟩ : ∃ Wz, (w2.alloc (.cells #[.int .i64 p0, .int .i64 p1, .int .i64 p2, .int .i64 p3] 25)) = Wz := ⟨_, rfl⟩
  rw [hV3] at VC BC
  go_wp2_with fail
  try rw [hV3]
  refine (R2 _).mono ?_
  rintro en w5 ⟨rfl, hb⟩
  replace VC := VC.later hb VC.lt
  replace BC := BC.trans (hb.mono BC.size)
  clear hb
  clear hV3
  have XA_ : Below w5.heap.size w5 (w5.alloc (.cells #[.int .i64 p0, .int .i64 p1, .int .i64 p2, .int .i64 p3] 25)) := (Below.refl _ _).alloc (Nat.le_refl _) _
  have XC : Blk w5.heap.size [.int .i64 p0, .int .i64 p1, .int .i64 p2, .int .i64 p3] (w5.alloc (.cells #[.int .i64 p0, .int .i64 p1, .int .i64 p2, .int .i64 p3] 25)) := Blk.new _ _ _
  replace VC := VC.later XA_ VC.lt
  replace BC := BC.trans (XA_.mono BC.size)
  clear XA_
  obtain ⟨V6, hV6⟩ : ∃ Wz, (w5.alloc (.cells #[.int .i64 p0, .int .i64 p1, .int .i64 p2, .int .i64 p3] 25)) = Wz := ⟨_, rfl⟩
  rw [hV6] at VC XC BC
  have q1_ := VC.at 0 rfl
  have q2_ := VC.at 1 rfl
  have q3_ := VC.at 2 rfl
  have q4_ := VC.at 3 rfl
  have q5_ := XC.at 0 rfl
  have q6_ := XC.at 1 rfl
  have q7_ := XC.at 2 rfl
  have q8_ := XC.at 3 rfl
  go_wp2_with fail
  try rw [hV6]
  refine (eqTimes_is p0 p1 p2 p3 _).mono ?_
  rintro en w7 ⟨rfl, hb⟩
  replace VC := VC.later hb VC.lt
  replace XC := XC.later hb XC.lt
  replace BC := BC.trans (hb.mono BC.size)
  clear hb
  clear q1_ q2_ q3_ q4_ q5_ q6_ q7_ q8_ hV6
  clear R1 R2
  cases kk <;> (go_wp2; go_ret; exact ⟨rfl, BC⟩)

end Go.Proofs.Ytaeecaebjafnpaa
