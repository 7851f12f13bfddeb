/- What the laws draw. -/
import Derived.Test.YtkfjpgkpmdbnoaaDw0
import Derived.Test.YtkfjpgkpmdbnoaaTs1
set_option linter.unusedVariables false
set_option maxRecDepth 100000
namespace Go.Proofs.Ytkfjpgkpmdbnoaa
open Go Go.RowKit Go.Joins Own Draw Go.Proofs.Ytkfjpgkpmdbnoaa.Var

/-- A table that is drawn from a code. -/
def DrP (B : Nat) (e : Value → Value) (w : Ending) (w' : World) : Prop := ∃ (ra : Option Addr) (rc : Nat) (ys : List TS), w = .returned (e (.slice ra ys.length rc)) ∧ ys.length ≤ 11 ∧ FOwn 31 3 cS B ra rc ys w'
set_option maxRecDepth 100000 in
set_option maxHeartbeats 12800000 in
theorem drawAdd_is (ad : Option Addr) (len cap : Nat) (zs : List Int) (W : World) (hz : CodeAt W W.heap.size ad len zs) :
    Calls Try.prog 13 #[.slice ad len cap] W fun e w' => (∃ who key : Int, DrP W.heap.size (fun v => .tuple #[v, .int .i64 who, .int .i64 key]) e w') ∧ Below W.heap.size W w' := by
  go_enter Try.func13, Try.ntmps13
  go_wp2_with fail
  refine (newW ad len cap zs W hz).mono ?_
  rintro e w1 ⟨rfl, CC, b1⟩
  clear hz
  obtain ⟨p, hpc⟩ : ∃ n, W.heap.size = n := ⟨_, rfl⟩
  rw [hpc] at CC b1 ⊢
  have hpW := CC.lt
  obtain ⟨qL, hqL⟩ : ∃ q_, w1.heap.size = q_ := ⟨_, rfl⟩
  obtain ⟨V2, hV2⟩ : ∃ v, w1.alloc (.cells #[.int .i64 0, .int .i64 1, .int .i64 2, .int .i64 3, .int .i64 99, .int .i64 100, .int .i64 (-1)] 3) = v := ⟨_, rfl⟩
  have qLp : p < qL := by have h_ := CC.lt; omega
  have qLW : w1.heap.size ≤ qL := by have h_ := CC.size; omega
  have LB : Blk qL [.int .i64 0, .int .i64 1, .int .i64 2, .int .i64 3, .int .i64 99, .int .i64 100, .int .i64 (-1)] V2 := by rw [← hV2, ← hqL]; exact Blk.new _ _ _
  replace CC := CC.alloc (.cells #[.int .i64 0, .int .i64 1, .int .i64 2, .int .i64 3, .int .i64 99, .int .i64 100, .int .i64 (-1)] 3)
  rw [hV2] at CC
  have HV2 : Hid (w1.alloc (.cells #[.int .i64 0, .int .i64 1, .int .i64 2, .int .i64 3, .int .i64 99, .int .i64 100, .int .i64 (-1)] 3) = V2) := hV2
  have HqL : Hid (w1.heap.size = qL) := hqL
  clear hV2 hqL
  have HX := pickI qL 7 [0, 1, 2, 3, 99, 100, -1] CC.here (by omega) (by omega) qLp LB.lt (by decide) LB (by decide)
  go_wp2_with fail
  try rw [HV2.out]
  try rw [HqL.out]
  refine HX.mono ?_
  rintro en w3 ⟨who, rfl, whoi, C⟩
  replace LB := LB.only C.2 LB.lt (by omega)
  replace CC := CC.next C
  clear C HX
  clear HV2 HqL
  clear LB
  obtain ⟨qM, hqM⟩ : ∃ q_, w3.heap.size = q_ := ⟨_, rfl⟩
  obtain ⟨V4, hV4⟩ : ∃ v, w3.alloc (.cells #[.int .i64 6, .int .i64 50, .int .i64 51, .int .i64 0, .int .i64 1000000, .int .i64 1000001] 3) = v := ⟨_, rfl⟩
  have qMp : p < qM := by have h_ := CC.lt; omega
  have qMW : w1.heap.size ≤ qM := by have h_ := CC.size; omega
  have LC : Blk qM [.int .i64 6, .int .i64 50, .int .i64 51, .int .i64 0, .int .i64 1000000, .int .i64 1000001] V4 := by rw [← hV4, ← hqM]; exact Blk.new _ _ _
  replace CC := CC.alloc (.cells #[.int .i64 6, .int .i64 50, .int .i64 51, .int .i64 0, .int .i64 1000000, .int .i64 1000001] 3)
  rw [hV4] at CC
  have HV4 : Hid (w3.alloc (.cells #[.int .i64 6, .int .i64 50, .int .i64 51, .int .i64 0, .int .i64 1000000, .int .i64 1000001] 3) = V4) := hV4
  have HqM : Hid (w3.heap.size = qM) := hqM
  clear hV4 hqM
  have HX := pickI qM 6 [6, 50, 51, 0, 1000000, 1000001] CC.here (by omega) (by omega) qMp LC.lt (by decide) LC (by decide)
  go_wp2_with fail
  try rw [HV4.out]
  try rw [HqM.out]
  refine HX.mono ?_
  rintro en w5 ⟨key, rfl, keyi, C⟩
  replace LC := LC.only C.2 LC.lt (by omega)
  replace CC := CC.next C
  clear C HX
  clear HV4 HqM
  clear LC
  have S := some_is w5 CC.here
  have l1 := CC.lt
  go_wp2_with fail
  refine S.mono ?_
  clear S
  rintro e w9 ⟨ra, rc, ys, rfl, hy, ro, C⟩
  replace CC := CC.next C
  have B9 := b1.trans (CC.2.below (Nat.le_refl _) hpW)
  replace ro : FOwn 31 3 cS p ra rc ys w9 := ownsRow_le ro (by omega)
  clear C CC b1
  go_wp2
  refine bodyPost_ret (results_tmp3 rfl _ _ _) rfl ?_
  exact ⟨⟨who, key, ra, rc, ys, rfl, hy, by rw [hpc]; exact ro⟩, by rw [hpc]; exact B9⟩
set_option maxRecDepth 100000 in
set_option maxHeartbeats 12800000 in
theorem drawShow_is (ad : Option Addr) (len cap : Nat) (zs : List Int) (W : World) (hz : CodeAt W W.heap.size ad len zs) :
    Calls Try.prog 21 #[.slice ad len cap] W fun e w' => DrP W.heap.size (fun v => v) e w' ∧ Below W.heap.size W w' := by
  go_enter Try.func21, Try.ntmps21
  go_wp2_with fail
  refine (newW ad len cap zs W hz).mono ?_
  rintro e w1 ⟨rfl, CC, b1⟩
  clear hz
  obtain ⟨p, hpc⟩ : ∃ n, W.heap.size = n := ⟨_, rfl⟩
  rw [hpc] at CC b1 ⊢
  have hpW := CC.lt
  have S := some_is w1 CC.here
  go_wp2_with fail
  refine S.mono ?_
  clear S
  rintro e w9 ⟨ra, rc, ys, rfl, hy, ro, C⟩
  have B9 := b1.trans (C.2.below (Nat.le_refl _) hpW)
  replace ro : FOwn 31 3 cS p ra rc ys w9 := ownsRow_le ro (by omega)
  clear C CC b1
  go_wp2
  go_ret
  exact ⟨⟨ra, rc, ys, rfl, hy, by rw [hpc]; exact ro⟩, by rw [hpc]; exact B9⟩
theorem shT_size (xs : List TS) (h : xs.length ≤ 11) : (shT xs).size ≤ 500 := by
  unfold shT
  split
  · have h1 := shS_size xs (varOf (xs.length : Int))
    have h2 := varOf_size (xs.length : Int)
    omega
  · show 0 ≤ 500; omega
set_option maxRecDepth 100000 in
set_option maxHeartbeats 12800000 in
theorem drawRead_is (ad : Option Addr) (len cap : Nat) (zs : List Int) (W : World) (hz : CodeAt W W.heap.size ad len zs) :
    Calls Try.prog 24 #[.slice ad len cap] W fun e w' => (∃ s : ByteArray, e = .returned (.string s) ∧ s.size ≤ 1004) ∧ Below W.heap.size W w' := by
  go_enter Try.func24, Try.ntmps24
  go_wp2_with fail
  refine (newW ad len cap zs W hz).mono ?_
  rintro e w1 ⟨rfl, CC, b1⟩
  clear hz
  obtain ⟨p, hpc⟩ : ∃ n, W.heap.size = n := ⟨_, rfl⟩
  rw [hpc] at CC b1 ⊢
  have hpW := CC.lt
  have S := some_is w1 CC.here
  go_wp2_with fail
  refine S.mono ?_
  clear S
  rintro e w2 ⟨ra, rc, ys, rfl, hy, ro, C⟩
  replace CC := CC.next C
  clear C
  have K := specShow_is ra rc ys w2 (FOwn.row lS ro) (by omega)
  have hsz := shT_size ys hy
  generalize shT ys = t at K hsz
  go_wp2_with fail
  refine K.mono ?_
  clear K
  rintro e w3 ⟨rfl, hb⟩
  replace CC := CC.under hb
  clear hb ro
  have HX := onceW 3 CC.here (by omega)
  go_wp2_with fail
  refine HX.mono ?_
  clear HX
  rintro e w4 ⟨b, rfl, C⟩
  replace CC := CC.next C
  clear C
  cases b with
  | false =>
    have B9 := b1.trans (CC.2.below (Nat.le_refl _) hpW)
    go_wp2
    go_ret
    exact ⟨⟨t, rfl, by omega⟩, by rw [hpc]; exact B9⟩
  | true =>
    have HX := spoilW t CC.here (by omega)
    go_wp2_with fail
    refine HX.mono ?_
    clear HX
    rintro e w5 ⟨s, rfl, hs, C⟩
    replace CC := CC.next C
    have B9 := b1.trans (CC.2.below (Nat.le_refl _) hpW)
    go_wp2
    go_ret
    exact ⟨⟨s, rfl, hs⟩, by rw [hpc]; exact B9⟩
end Go.Proofs.Ytkfjpgkpmdbnoaa
