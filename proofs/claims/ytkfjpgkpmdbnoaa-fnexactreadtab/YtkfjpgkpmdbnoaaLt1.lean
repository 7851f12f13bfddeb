/- Laws over tables. -/
import Derived.Test.YtkfjpgkpmdbnoaaTb1
import Derived.Test.YtkfjpgkpmdbnoaaOk0
import Derived.Test.YtkfjpgkpmdbnoaaRg1
set_option linter.unusedVariables false
set_option maxRecDepth 100000
namespace Go.Proofs.Ytkfjpgkpmdbnoaa
open Go Go.RowKit Go.Joins Own Draw

theorem own_kept {w w' : World} {B e s n : Nat} {v : Value} {xs : List Value} {r : Option Nat} (h : w.ownsRow B e s v n xs) (hg : w.grownBy w' r) (hd : ∀ k, v.ownBlock = some k → r ≠ some k) : w'.ownsRow B e s v n xs := by
  refine World.ownsRow.kept h hg ?_
  cases hv : v.ownBlock with
  | none => exact Or.inl rfl
  | some k => right; intro e; exact hd k hv e.symm
theorem irow_of {w : World} {B c : Nat} {a : Option Addr} {ys : List Int} (h : w.ownsRow B 3 1 (.slice a ys.length c) ys.length (ys.map (Value.int .i64))) : RowAt (Value.int .i64) w a ys := by
  rcases h.2 with ⟨e, h0⟩ | ⟨g, cap, cur, e, _⟩
  · intro j hj; omega
  · injection e with e1 _ e3
    subst e1 e3
    exact RowAt.own h
theorem ob_some (g n c : Nat) : (Value.slice (some ⟨g, 0, none⟩) n c).ownBlock = some g := rfl
set_option maxRecDepth 100000 in
set_option maxHeartbeats 6400000 in
theorem law_tabok (a0 : Option Addr) (cap0 : Nat) (xs0 : List TS) (w : World) (hr0 : FRow 3 cS w a0 xs0) (hl0 : xs0.length ≤ maxLen) :
    Calls Try.prog 5 #[.slice a0 xs0.length cap0] w fun en w' => en = .returned (.bool true) ∧ Below w.heap.size w w' := by
  have hsz0 := fun w => szSS_is a0 xs0.length cap0 (1048576) w (by omega) hl0
  by_cases hz0 : xs0.length ≤ 1048576
  · simp only [if_pos hz0] at hsz0
    have nz0 : ¬ (((1048576 - xs0.length : Nat) : Int) < 0) := by omega
    have b0 : Below w.heap.size w w := Below.refl _ _
    go_enter Try.func5, Try.ntmps5
    go_wp2_with fail
    refine (hsz0 _).mono ?_
    rintro en wz ⟨rfl, rfl⟩
    clear hsz0 nz0
    go_wp2_with fail
    refine (toSS_is a0 cap0 xs0 _ (hr0.later b0) hz0).mono ?_
    rintro en w1 ⟨rfl, o1, hb⟩
    replace b0 := b0.trans (hb.mono b0.size)
    clear hb
    go_wp2_with fail
    refine (specTab_is _ _ xs0 _ (FOwn.row lS o1) hz0).mono ?_
    rintro en w2 ⟨rfl, hb⟩
    replace o1 := own_later o1 hb
    replace b0 := b0.trans (hb.mono b0.size)
    clear hb
    clear o1
    go_wp2_with fail
    refine (toSS_is a0 cap0 xs0 _ (hr0.later b0) hz0).mono ?_
    rintro en w3 ⟨rfl, o3, hb⟩
    replace b0 := b0.trans (hb.mono b0.size)
    clear hb
    have xl0 : w2.heap.size < w3.heap.size := (o3.lt _ rfl).2
    go_wp2_with fail
    refine (implTab_is _ _ xs0 _ (FOwn.row lS o3) hz0).mono ?_
    rintro en w4 ⟨rfl, hb⟩
    replace o3 := own_later o3 hb
    replace b0 := b0.trans (hb.mono b0.size)
    clear hb
    generalize tabB xs0 = v at *
    go_wp2_with fail
    refine (toSS_is a0 cap0 xs0 _ (hr0.later b0) hz0).mono ?_
    rintro en w5 ⟨rfl, o5, hb⟩
    replace o3 := own_later o3 hb
    replace b0 := b0.trans (hb.mono b0.size)
    clear hb
    go_wp2_with fail
    refine (eqSS_is _ _ _ _ xs0 _ (FOwn.row lS o3) (FOwn.row lS o5) hz0).mono ?_
    rintro en w6 ⟨rfl, hb⟩
    replace o3 := own_later o3 hb
    replace o5 := own_later o5 hb
    replace b0 := b0.trans (hb.mono b0.size)
    clear hb
    clear o5
    go_wp2
    go_ret
    exact ⟨rfl, b0⟩
  · simp only [if_neg hz0] at hsz0
    go_enter Try.func5, Try.ntmps5
    go_wp2_with fail
    refine (hsz0 _).mono ?_
    rintro en wz ⟨rfl, rfl⟩
    go_wp2
    go_ret
    exact ⟨rfl, Below.refl _ _⟩
end Go.Proofs.Ytkfjpgkpmdbnoaa
