/- Laws over tables. -/
import Derived.Test.YtkfjpgkpmdbnoaaLt1
import Derived.Test.YtkfjpgkpmdbnoaaTr1
import Derived.Test.YtkfjpgkpmdbnoaaTr2
import Derived.Test.YtkfjpgkpmdbnoaaRi3
import Derived.Test.YtkfjpgkpmdbnoaaRg2
set_option linter.unusedVariables false
set_option maxRecDepth 100000
namespace Go.Proofs.Ytkfjpgkpmdbnoaa
open Go.Proofs.Ytkfjpgkpmdbnoaa.Var Go Go.RowKit Go.Joins Own Draw

/-- What is read is small. -/
theorem rd_small (s : ByteArray) : (rdT s).1.length ≤ 20 := by
  cases e : (rdT s).2 with
  | true => exact tab_len (read_says (s := s) (l := (rdT s).1) (by rw [← e])).1
  | false =>
    have h := rdJ_no (s := s) (by rw [rd_same]; exact e)
    rw [← rd_same, h]
    exact Nat.zero_le _
set_option maxRecDepth 100000 in
set_option maxHeartbeats 6400000 in
theorem law_readtab (s0 : ByteArray) (w : World) :
    Calls Try.prog 11 #[.string s0] w fun en w' => en = .returned (.bool true) ∧ Below w.heap.size w w' := by
  by_cases hz0 : s0.size ≤ 1048576
  rotate_left
  · have z0_ : (1048576 : Int) < (s0.size : Int) := by omega
    go_enter Try.func11, Try.ntmps11
    go_wp2
    go_ret
    exact ⟨rfl, Below.refl _ _⟩
  · have HS : ∀ w : World, Calls Try.prog 25 #[.string s0] w fun e w' => ∃ (ra : Option Addr) (rc : Nat), e = .returned (.tuple #[.slice ra (rdT s0).1.length rc, .bool (rdT s0).2]) ∧ FOwn 31 3 cS w.heap.size ra rc (rdT s0).1 w' ∧ Below w.heap.size w w' := fun w => (specRead_is s0 w hz0).mono fun _ _ ⟨⟨ra, rc, h1, h2⟩, h3⟩ => ⟨ra, rc, h1, h2, h3⟩
    have HI : ∀ w : World, Calls Try.prog 22 #[.string s0] w fun e w' => ∃ (ra : Option Addr) (rc : Nat), e = .returned (.tuple #[.slice ra (rdT s0).1.length rc, .bool (rdT s0).2]) ∧ FOwn 31 3 cS w.heap.size ra rc (rdT s0).1 w' ∧ Below w.heap.size w w' := fun w => (implRead_is s0 w hz0).mono fun _ _ ⟨⟨ra, rc, h1, h2⟩, h3⟩ => ⟨ra, rc, h1, h2, h3⟩
    have hy0 : (rdT s0).1.length ≤ 1048576 := by have := rd_small s0; omega
    have z0_ : ¬ (1048576 : Int) < (s0.size : Int) := by omega
    generalize rdT s0 = u at HS HI hy0
    obtain ⟨ys, ub⟩ := u
    dsimp only at HS HI hy0
    have e1_ : (ub != ub) = false := by simp
    have b0 : Below w.heap.size w w := Below.refl _ _
    have hy : (ys).length ≤ 1048576 := hy0
    go_enter Try.func11, Try.ntmps11
    go_wp2_with fail
    refine (HS _ ).mono ?_
    rintro en w1 ⟨sa, sc, rfl, so, hb⟩
    replace b0 := b0.trans (hb.mono b0.size)
    clear hb
    have sl : ∀ k, (Value.slice sa (ys).length sc).ownBlock = some k → k < w1.heap.size := fun k e => (so.lt k e).2
    have hBx := b0.size
    go_wp2_with fail
    refine (HI _ ).mono ?_
    rintro en w2 ⟨ga, gc, rfl, go, hb⟩
    replace so := own_later so hb
    replace b0 := b0.trans (hb.mono b0.size)
    clear hb
    have gl : ∀ k, (Value.slice ga (ys).length gc).ownBlock = some k → w1.heap.size ≤ k := fun k e => (go.lt k e).1
    go_wp2_with fail
    refine (eqSS_is ga sa gc sc _ _ (FOwn.row lS go) (FOwn.row lS so) hy).mono ?_
    rintro en w3 ⟨rfl, hb⟩
    replace so := own_later so hb
    replace go := own_later go hb
    replace b0 := b0.trans (hb.mono b0.size)
    clear hb
    go_wp2_with fail
    refine (markS_is _ 1 _ _ _ _ _ go (Nat.le_trans hy (by decide)) (by omega)).mono ?_
    rintro en w5 ⟨rfl, mo, hg⟩
    replace so := own_kept so hg (fun k e h => by have := sl k e; have := gl k h;  omega)
    replace b0 := b0.grown hg b0.size (fun k e => by have := gl k e; have := hBx; omega)
    clear hg go
    go_wp2_with fail
    refine (heldS_is _ 1 _ _ _ _ mo (Nat.le_trans hy (by decide)) (by omega)).mono ?_
    rintro en w6 ⟨rfl, hb⟩
    replace so := own_later so hb
    replace mo := own_later mo hb
    replace b0 := b0.trans (hb.mono b0.size)
    clear hb
    have hn : ¬ (((1 + (ys).length * 3 : Nat) : Int) < 0) := by omega
    go_wp2_with fail
    refine (HI _ ).mono ?_
    rintro en w7 ⟨ha, hc, rfl, ho, hb⟩
    replace so := own_later so hb
    replace mo := own_later mo hb
    replace b0 := b0.trans (hb.mono b0.size)
    clear hb
    go_wp2_with fail
    refine (eqSS_is ha sa hc sc _ _ (FOwn.row lS ho) (FOwn.row lS so) hy).mono ?_
    rintro en w8 ⟨rfl, hb⟩
    replace so := own_later so hb
    replace mo := own_later mo hb
    replace ho := own_later ho hb
    replace b0 := b0.trans (hb.mono b0.size)
    clear hb
    have HM := heldS_is _ 1 _ _ _ _ mo (Nat.le_trans hy (by decide)) (by omega)
    go_wp2_with fail
    refine HM.mono ?_
    clear HM
    rintro en wl ⟨rfl, hb⟩
    replace so := own_later so hb
    replace mo := own_later mo hb
    replace ho := own_later ho hb
    replace b0 := b0.trans (hb.mono b0.size)
    go_wp2
    go_ret
    exact ⟨rfl, b0⟩
end Go.Proofs.Ytkfjpgkpmdbnoaa
