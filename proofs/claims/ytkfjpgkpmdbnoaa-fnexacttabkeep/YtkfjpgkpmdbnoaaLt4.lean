/- Laws over tables. -/
import Derived.Test.YtkfjpgkpmdbnoaaLt1
import Derived.Test.YtkfjpgkpmdbnoaaTk1
import Derived.Test.YtkfjpgkpmdbnoaaKe1
import Derived.Test.YtkfjpgkpmdbnoaaRg2
set_option linter.unusedVariables false
set_option maxRecDepth 100000
namespace Go.Proofs.Ytkfjpgkpmdbnoaa
open Go Go.RowKit Go.Joins Own Draw

set_option maxRecDepth 100000 in
set_option maxHeartbeats 6400000 in
theorem law_tabkeep (a0 : Option Addr) (cap0 : Nat) (xs0 : List TS) (n1 : Int) (w : World) (hr0 : FRow 3 cS w a0 xs0) (hl0 : xs0.length ≤ maxLen) (hn : i64 n1) :
    Calls Try.prog 9 #[.slice a0 xs0.length cap0, .int .i64 n1] w fun en w' => en = .returned (.bool true) ∧ Below w.heap.size w w' := by
  have hsz0 := fun w => szSS_is a0 xs0.length cap0 (1048576) w (by omega) hl0
  by_cases hz0 : xs0.length ≤ 1048576
  · simp only [if_pos hz0] at hsz0
    have nz0 : ¬ (((1048576 - xs0.length : Nat) : Int) < 0) := by omega
    have HS := fun (a : Option Addr) (cap : Nat) (w : World) (hr : FRow 3 cS w a xs0) => specKeep_is a cap xs0 n1 w hr hz0
    have HI := fun (B cap : Nat) (a : Option Addr) (w : World) (ho : FOwn 31 3 cS B a cap xs0 w) => implKeep_is B cap a xs0 n1 w ho hz0 hn
    have hy0 := Nat.le_trans (keT_len xs0 n1) hz0
    generalize keT xs0 n1 = ys at HS HI hy0
    have b0 : Below w.heap.size w w := Below.refl _ _
    have hy : (ys).length ≤ 1048576 := hy0
    go_enter Try.func9, Try.ntmps9
    go_wp2_with fail
    refine (hsz0 _).mono ?_
    rintro en wz ⟨rfl, rfl⟩
    clear hsz0 nz0
    go_wp2_with fail
    refine (toSS_is a0 cap0 xs0 _ (hr0.later b0) hz0).mono ?_
    rintro en w1 ⟨rfl, o1, hb⟩
    replace b0 := b0.trans (hb.mono b0.size)
    clear hb
    go_wp2_with fail
    refine (HS _ _ _ (FOwn.row lS o1)).mono ?_
    rintro en w2 ⟨sa, sc, rfl, so, hb⟩
    replace o1 := own_later o1 hb
    replace b0 := b0.trans (hb.mono b0.size)
    clear hb
    clear o1
    have sl : ∀ k, (Value.slice sa (ys).length sc).ownBlock = some k → k < w2.heap.size := fun k e => (so.lt k e).2
    have hB0 := b0.size
    go_wp2_with fail
    refine (toSS_is a0 cap0 xs0 _ (hr0.later b0) hz0).mono ?_
    rintro en w3 ⟨rfl, o3, hb⟩
    replace so := own_later so hb
    replace b0 := b0.trans (hb.mono b0.size)
    clear hb
    have hBx := b0.size
    have xl0 : w2.heap.size < w3.heap.size := (o3.lt _ rfl).2
    go_wp2_with fail
    refine (HI _ _ _ _ o3).mono ?_
    rintro en w4 ⟨ga, gc, rfl, go, hb⟩
    replace so := own_later so hb
    replace o3 := own_later o3 hb
    replace b0 := b0.trans (hb.mono b0.size)
    clear hb
    have gl : ∀ k, (Value.slice ga (ys).length gc).ownBlock = some k → w3.heap.size ≤ k := fun k e => (go.lt k e).1
    go_wp2_with fail
    refine (eqSS_is ga sa gc sc _ _ (FOwn.row lS go) (FOwn.row lS so) hy).mono ?_
    rintro en w5 ⟨rfl, hb⟩
    replace so := own_later so hb
    replace o3 := own_later o3 hb
    replace go := own_later go hb
    replace b0 := b0.trans (hb.mono b0.size)
    clear hb
    go_wp2_with fail
    refine (toSS_is a0 cap0 xs0 _ (hr0.later b0) hz0).mono ?_
    rintro en w6 ⟨rfl, o6, hb⟩
    replace so := own_later so hb
    replace o3 := own_later o3 hb
    replace go := own_later go hb
    replace b0 := b0.trans (hb.mono b0.size)
    clear hb
    go_wp2_with fail
    refine (eqSS_is _ _ _ _ xs0 _ (FOwn.row lS o3) (FOwn.row lS o6) hz0).mono ?_
    rintro en w7 ⟨rfl, hb⟩
    replace so := own_later so hb
    replace o3 := own_later o3 hb
    replace go := own_later go hb
    replace o6 := own_later o6 hb
    replace b0 := b0.trans (hb.mono b0.size)
    clear hb
    clear o6
    go_wp2_with fail
    refine (markS_is _ (1) _ _ _ _ _ o3 (by omega) (by omega)).mono ?_
    rintro en w8 ⟨rfl, mk, hg⟩
    rw [ob_some] at hg
    replace so := own_kept so hg (fun k e h => by have := sl k e; injection h with h; omega)
    replace go := own_kept go hg (fun k e h => by have := gl k e; have := xl0; injection h with h; omega)
    replace b0 := b0.grown hg b0.size (fun k e => by injection e with e; rw [← e]; exact hB0)
    clear mk hg
    clear o3
    go_wp2_with fail
    refine (eqSS_is ga sa gc sc _ _ (FOwn.row lS go) (FOwn.row lS so) hy).mono ?_
    rintro en w9 ⟨rfl, hb⟩
    replace so := own_later so hb
    replace go := own_later go hb
    replace b0 := b0.trans (hb.mono b0.size)
    clear hb
    go_wp2_with fail
    refine (markS_is _ 1 _ _ _ _ _ go (Nat.le_trans hy (by decide)) (by omega)).mono ?_
    rintro en w10 ⟨rfl, mo, hg⟩
    replace so := own_kept so hg (fun k e h => by have := sl k e; have := gl k h; have := xl0; omega)
    replace b0 := b0.grown hg b0.size (fun k e => by have := gl k e; have := hBx; omega)
    clear hg go
    go_wp2_with fail
    refine (heldS_is _ 1 _ _ _ _ mo (Nat.le_trans hy (by decide)) (by omega)).mono ?_
    rintro en w11 ⟨rfl, hb⟩
    replace so := own_later so hb
    replace mo := own_later mo hb
    replace b0 := b0.trans (hb.mono b0.size)
    clear hb
    have hn : ¬ (((1 + (ys).length * 3 : Nat) : Int) < 0) := by omega
    go_wp2_with fail
    refine (toSS_is a0 cap0 xs0 _ (hr0.later b0) hz0).mono ?_
    rintro en w12 ⟨rfl, o12, hb⟩
    replace so := own_later so hb
    replace mo := own_later mo hb
    replace b0 := b0.trans (hb.mono b0.size)
    clear hb
    go_wp2_with fail
    refine (HI _ _ _ _ o12).mono ?_
    rintro en w13 ⟨ha, hc, rfl, ho, hb⟩
    replace so := own_later so hb
    replace mo := own_later mo hb
    replace o12 := own_later o12 hb
    replace b0 := b0.trans (hb.mono b0.size)
    clear hb
    clear o12
    go_wp2_with fail
    refine (eqSS_is ha sa hc sc _ _ (FOwn.row lS ho) (FOwn.row lS so) hy).mono ?_
    rintro en w14 ⟨rfl, hb⟩
    replace so := own_later so hb
    replace mo := own_later mo hb
    replace ho := own_later ho hb
    replace b0 := b0.trans (hb.mono b0.size)
    clear hb
    have HM := heldS_is _ 1 _ _ _ _ mo (Nat.le_trans hy (by decide)) (by omega)
    go_wp2_with fail
    refine HM.mono ?_
    clear HM
    rintro en wl ⟨rfl, hb⟩
    replace so := own_later so hb
    replace mo := own_later mo hb
    replace ho := own_later ho hb
    replace b0 := b0.trans (hb.mono b0.size)
    go_wp2
    go_ret
    exact ⟨rfl, b0⟩
  · simp only [if_neg hz0] at hsz0
    go_enter Try.func9, Try.ntmps9
    go_wp2_with fail
    refine (hsz0 _).mono ?_
    rintro en wz ⟨rfl, rfl⟩
    go_wp2
    go_ret
    exact ⟨rfl, Below.refl _ _⟩
end Go.Proofs.Ytkfjpgkpmdbnoaa
