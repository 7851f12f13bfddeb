/- The law on Chain. -/
import Derived.Test.YtgjgacmkhmhooaaCh2
import Derived.Test.YtgjgacmkhmhooaaRe1
import Derived.Test.YtgjgacmkhmhooaaRe3
import Derived.Test.YtgjgacmkhmhooaaRe4
set_option linter.unusedVariables false
set_option maxRecDepth 100000
namespace Go.Proofs.Ytgjgacmkhmhooaa
open Go Go.RowKit Go.Joins Own Draw

set_option maxRecDepth 100000 in
set_option maxHeartbeats 800000 in
theorem eqJ_is (a b : Option Addr) (ca cb : Nat) (xs : List Int) (w : World) (ha : RowAt (Value.int .i64) w a xs) (hb : RowAt (Value.int .i64) w b xs) (hl : xs.length ≤ 2000000) :
    Calls Try.prog 12 #[.slice a xs.length ca, .slice b xs.length cb] w fun e w' => e = .returned (.bool true) ∧ Below w.heap.size w w' := by
  go_enter Try.func12, Try.ntmps12
  go_wp2
  go_loopw [5] (fun i wr => ∃ k : Nat, k ≤ xs.length ∧ i = .int .i64 k ∧ Below w.heap.size w wr) (fun i _ => xs.length - (intOf i).toNat)
  case atStart => exact ⟨0, by omega, rfl, Below.refl _ _⟩
  case round =>
    obtain ⟨k, hk, rfl, hbel⟩ := hrel
    by_cases hlt : k < xs.length
    · obtain ⟨b1, o1, rfl, l1, hc1⟩ := ha k hlt
      obtain ⟨b2, o2, rfl, l2, hc2⟩ := hb k hlt
      rw [← hbel.cell (p := ⟨b1, o1 + k, none⟩) l1] at hc1
      rw [← hbel.cell (p := ⟨b2, o2 + k, none⟩) l2] at hc2
      generalize xs[k] = x at hc1 hc2
      go_wp2
      go_region
      all_goals
        go_wp2
        go_roundw
        case rel => exact ⟨k + 1, by omega, by go_num, hbel.drew⟩
        case measure => simp [intOf]; omega
    · go_wp2
      go_ret
      exact ⟨rfl, hbel⟩
set_option maxRecDepth 100000 in
set_option maxHeartbeats 6400000 in
theorem law_chain (a0 : Option Addr) (cap0 : Nat) (xs0 : List TE) (n1 : Int) (w : World) (hr0 : FRow 11 cE w a0 xs0) (hl0 : xs0.length ≤ maxLen) (hn0 : i64 n1) (hx : ∀ p ∈ xs0, i64 (kyE p) ∧ i64 (paE p) ∧ i64 (evE p)) :
    Calls Try.prog 4 #[.slice a0 xs0.length cap0, .int .i64 n1] w fun en w' => en = .returned (.bool true) ∧ Below w.heap.size w w' := by
  have hsz0 := fun w => szSE_is a0 xs0.length cap0 (1048576) w (by omega) hl0
  by_cases hz0 : xs0.length ≤ 1048576
  · simp only [if_pos hz0] at hsz0
    have nz0 : ¬ (((1048576 - xs0.length : Nat) : Int) < 0) := by omega
    have b0 : Below w.heap.size w w := Below.refl _ _
    have hy : (chainN xs0 n1).length ≤ 2000000 := by have := chG_len xs0 (xs0.length + 1) [] n1; unfold chainN; simp at this; omega
    go_enter Try.func4, Try.ntmps4
    go_wp2_with fail
    refine (hsz0 _).mono ?_
    rintro en wz ⟨rfl, rfl⟩
    clear hsz0 nz0
    go_wp2_with fail
    refine (toSE_is a0 cap0 xs0 _ (hr0.later b0) hz0).mono ?_
    rintro en w1 ⟨rfl, o1, hb⟩
    replace b0 := b0.trans (hb.mono b0.size)
    clear hb
    go_wp2_with fail
    refine (specChain_is _ _ xs0 n1 _ (FOwn.row lE o1) hz0).mono ?_
    rintro en w2 ⟨sa, sc, rfl, so, hb⟩
    replace o1 := own_later o1 hb
    replace b0 := b0.trans (hb.mono b0.size)
    clear hb
    clear o1
    have sl : ∀ k, (Value.slice sa (chainN xs0 n1).length sc).ownBlock = some k → k < w2.heap.size := fun k e => (so.lt k e).2
    have hB0 := b0.size
    go_wp2_with fail
    refine (toSE_is a0 cap0 xs0 _ (hr0.later b0) hz0).mono ?_
    rintro en w3 ⟨rfl, o3, hb⟩
    replace so := own_later so hb
    replace b0 := b0.trans (hb.mono b0.size)
    clear hb
    have hBx := b0.size
    have xl0 : w2.heap.size < w3.heap.size := (o3.lt _ rfl).2
    go_wp2_with fail
    refine (implChain_is _ _ xs0 n1 _ (FOwn.row lE o3) hz0 hn0 hx).mono ?_
    rintro en w4 ⟨ga, gc, rfl, go, hb⟩
    replace so := own_later so hb
    replace o3 := own_later o3 hb
    replace b0 := b0.trans (hb.mono b0.size)
    clear hb
    have gl : ∀ k, (Value.slice ga (chainN xs0 n1).length gc).ownBlock = some k → w3.heap.size ≤ k := fun k e => (go.lt k e).1
    go_wp2_with fail
    refine (eqJ_is ga sa gc sc _ _ (irow_of go) (irow_of so) hy).mono ?_
    rintro en w5 ⟨rfl, hb⟩
    replace so := own_later so hb
    replace o3 := own_later o3 hb
    replace go := own_later go hb
    replace b0 := b0.trans (hb.mono b0.size)
    clear hb
    go_wp2_with fail
    refine (toSE_is a0 cap0 xs0 _ (hr0.later b0) hz0).mono ?_
    rintro en w6 ⟨rfl, o6, hb⟩
    replace so := own_later so hb
    replace o3 := own_later o3 hb
    replace go := own_later go hb
    replace b0 := b0.trans (hb.mono b0.size)
    clear hb
    go_wp2_with fail
    refine (eqSE_is _ _ _ _ xs0 _ (FOwn.row lE o3) (FOwn.row lE o6) hz0).mono ?_
    rintro en w7 ⟨rfl, hb⟩
    replace so := own_later so hb
    replace o3 := own_later o3 hb
    replace go := own_later go hb
    replace o6 := own_later o6 hb
    replace b0 := b0.trans (hb.mono b0.size)
    clear hb
    clear o6
    go_wp2_with fail
    refine (markE_is _ (1) _ _ _ _ _ o3 (by omega) (by omega)).mono ?_
    rintro en w8 ⟨rfl, mk, hg⟩
    rw [ob_some] at hg
    replace so := own_kept so hg (fun k e h => by have := sl k e; injection h with h; omega)
    replace go := own_kept go hg (fun k e h => by have := gl k e; have := xl0; injection h with h; omega)
    replace b0 := b0.grown hg b0.size (fun k e => by injection e with e; rw [← e]; exact hB0)
    clear mk hg
    clear o3
    go_wp2_with fail
    refine (eqJ_is ga sa gc sc _ _ (irow_of go) (irow_of so) hy).mono ?_
    rintro en w9 ⟨rfl, hb⟩
    replace so := own_later so hb
    replace go := own_later go hb
    replace b0 := b0.trans (hb.mono b0.size)
    clear hb
    go_wp2_with fail
    refine (markI_is _ 1 _ _ _ _ _ go hy (by omega)).mono ?_
    rintro en w10 ⟨rfl, mo, hg⟩
    replace so := own_kept so hg (fun k e h => by have := sl k e; have := gl k h; have := xl0; omega)
    replace b0 := b0.grown hg b0.size (fun k e => by have := gl k e; have := hBx; omega)
    clear hg go
    go_wp2_with fail
    refine (heldI_is _ 1 _ _ _ _ mo hy (by omega)).mono ?_
    rintro en w11 ⟨rfl, hb⟩
    replace so := own_later so hb
    replace mo := own_later mo hb
    replace b0 := b0.trans (hb.mono b0.size)
    clear hb
    have hn : ¬ (((1 + (chainN xs0 n1).length : Nat) : Int) < 0) := by omega
    go_wp2_with fail
    refine (toSE_is a0 cap0 xs0 _ (hr0.later b0) hz0).mono ?_
    rintro en w12 ⟨rfl, o12, hb⟩
    replace so := own_later so hb
    replace mo := own_later mo hb
    replace b0 := b0.trans (hb.mono b0.size)
    clear hb
    go_wp2_with fail
    refine (implChain_is _ _ xs0 n1 _ (FOwn.row lE o12) hz0 hn0 hx).mono ?_
    rintro en w13 ⟨ha, hc, rfl, ho, hb⟩
    replace so := own_later so hb
    replace mo := own_later mo hb
    replace o12 := own_later o12 hb
    replace b0 := b0.trans (hb.mono b0.size)
    clear hb
    clear o12
    go_wp2_with fail
    refine (eqJ_is ha sa hc sc _ _ (irow_of ho) (irow_of so) hy).mono ?_
    rintro en w14 ⟨rfl, hb⟩
    replace so := own_later so hb
    replace mo := own_later mo hb
    replace ho := own_later ho hb
    replace b0 := b0.trans (hb.mono b0.size)
    clear hb
    have HM := heldI_is _ 1 _ _ _ _ mo hy (by omega)
    go_wp2_with fail
    refine HM.mono ?_
    clear HM
    rintro en wl ⟨rfl, hb⟩
    replace so := own_later so hb
    replace mo := own_later mo hb
    replace ho := own_later ho hb
    replace b0 := b0.trans (hb.mono b0.size)
    go_wp2
    go_ret
    exact ⟨rfl, b0⟩
  · simp only [if_neg hz0] at hsz0
    go_enter Try.func4, Try.ntmps4
    go_wp2_with fail
    refine (hsz0 _).mono ?_
    rintro en wz ⟨rfl, rfl⟩
    go_wp2
    go_ret
    exact ⟨rfl, Below.refl _ _⟩
end Go.Proofs.Ytgjgacmkhmhooaa
