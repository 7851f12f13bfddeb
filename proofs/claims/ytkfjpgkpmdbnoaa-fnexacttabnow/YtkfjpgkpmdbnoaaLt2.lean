/- Laws over tables. -/
import Derived.Test.YtkfjpgkpmdbnoaaLt1
import Derived.Test.YtkfjpgkpmdbnoaaTf1
import Derived.Test.YtkfjpgkpmdbnoaaTf2
import Derived.Test.YtkfjpgkpmdbnoaaNf0
set_option linter.unusedVariables false
set_option maxRecDepth 100000
namespace Go.Proofs.Ytkfjpgkpmdbnoaa
open Go Go.RowKit Go.Joins Own Draw

set_option maxRecDepth 100000 in
set_option maxHeartbeats 6400000 in
theorem law_tabfind (a0 : Option Addr) (cap0 : Nat) (xs0 : List TS) (n1 : Int) (n2 : Int) (w : World) (hr0 : FRow 3 cS w a0 xs0) (hl0 : xs0.length ≤ maxLen) :
    Calls Try.prog 8 #[.slice a0 xs0.length cap0, .int .i64 n1, .int .i64 n2] w fun en w' => en = .returned (.bool true) ∧ Below w.heap.size w w' := by
  have hsz0 := fun w => szSS_is a0 xs0.length cap0 (1048576) w (by omega) hl0
  by_cases hz0 : xs0.length ≤ 1048576
  · simp only [if_pos hz0] at hsz0
    have nz0 : ¬ (((1048576 - xs0.length : Nat) : Int) < 0) := by omega
    have b0 : Below w.heap.size w w := Below.refl _ _
    go_enter Try.func8, Try.ntmps8
    go_wp2_with fail
    refine (hsz0 _).mono ?_
    rintro en wz ⟨rfl, rfl⟩
    clear hsz0 nz0
    go_wp2_with fail
    refine (toSS_is a0 cap0 xs0 _ (hr0.later b0) hz0).mono ?_
    rintro en w1 ⟨rfl, o1, hb⟩
    replace b0 := b0.trans (hb.mono b0.size)
    clear hb
    go_wp2_with fail
    refine (specFindT_is _ _ xs0 n1 n2 _ (FOwn.row lS o1) hz0).mono ?_
    rintro en w2 ⟨rfl, hb⟩
    replace o1 := own_later o1 hb
    replace b0 := b0.trans (hb.mono b0.size)
    clear hb
    clear o1
    go_wp2_with fail
    refine (toSS_is a0 cap0 xs0 _ (hr0.later b0) hz0).mono ?_
    rintro en w3 ⟨rfl, o3, hb⟩
    replace b0 := b0.trans (hb.mono b0.size)
    clear hb
    have xl0 : w2.heap.size < w3.heap.size := (o3.lt _ rfl).2
    go_wp2_with fail
    refine (implFind_is _ _ xs0 n1 n2 _ (FOwn.row lS o3) hz0).mono ?_
    rintro en w4 ⟨rfl, hb⟩
    replace o3 := own_later o3 hb
    replace b0 := b0.trans (hb.mono b0.size)
    clear hb
    generalize (fiT xs0 n1 n2).1 = u0 at *
    generalize (fiT xs0 n1 n2).2 = u1 at *
    have e0_ : (u0 != u0) = false := by simp
    have e1_ : (u1 != u1) = false := by simp
    go_wp2_with fail
    refine (toSS_is a0 cap0 xs0 _ (hr0.later b0) hz0).mono ?_
    rintro en w5 ⟨rfl, o5, hb⟩
    replace o3 := own_later o3 hb
    replace b0 := b0.trans (hb.mono b0.size)
    clear hb
    go_wp2_with fail
    refine (eqSS_is _ _ _ _ xs0 _ (FOwn.row lS o3) (FOwn.row lS o5) hz0).mono ?_
    rintro en w6 ⟨rfl, hb⟩
    replace o3 := own_later o3 hb
    replace o5 := own_later o5 hb
    replace b0 := b0.trans (hb.mono b0.size)
    clear hb
    clear o5
    go_wp2
    go_ret
    exact ⟨rfl, b0⟩
  · simp only [if_neg hz0] at hsz0
    go_enter Try.func8, Try.ntmps8
    go_wp2_with fail
    refine (hsz0 _).mono ?_
    rintro en wz ⟨rfl, rfl⟩
    go_wp2
    go_ret
    exact ⟨rfl, Below.refl _ _⟩
set_option maxRecDepth 100000 in
set_option maxHeartbeats 6400000 in
theorem law_tabnow (a0 : Option Addr) (cap0 : Nat) (xs0 : List TS) (n1 : Int) (w : World) (hr0 : FRow 3 cS w a0 xs0) (hl0 : xs0.length ≤ maxLen) :
    Calls Try.prog 7 #[.slice a0 xs0.length cap0, .int .i64 n1] w fun en w' => en = .returned (.bool true) ∧ Below w.heap.size w w' := by
  have hsz0 := fun w => szSS_is a0 xs0.length cap0 (1048576) w (by omega) hl0
  by_cases hz0 : xs0.length ≤ 1048576
  · simp only [if_pos hz0] at hsz0
    have nz0 : ¬ (((1048576 - xs0.length : Nat) : Int) < 0) := by omega
    have b0 : Below w.heap.size w w := Below.refl _ _
    have HS := fun (a : Option Addr) (cap : Nat) (w : World) (hr : FRow 3 cS w a xs0) => specNow_is a cap xs0 n1 w hr hz0
    have HI := fun (a : Option Addr) (cap : Nat) (w : World) (hr : FRow 3 cS w a xs0) => implNow_is a cap xs0 n1 w hr hz0
    generalize noT xs0 n1 = u at HS HI
    obtain ⟨⟨u0, u1, u2⟩, ub⟩ := u
    dsimp only [vS] at HS HI
    have e1_ : (ub != ub) = false := by simp
    go_enter Try.func7, Try.ntmps7
    go_wp2_with fail
    refine (hsz0 _).mono ?_
    rintro en wz ⟨rfl, rfl⟩
    clear hsz0 nz0
    go_wp2_with fail
    refine (toSS_is a0 cap0 xs0 _ (hr0.later b0) hz0).mono ?_
    rintro en w1 ⟨rfl, o1, hb⟩
    replace b0 := b0.trans (hb.mono b0.size)
    clear hb
    go_wp2_with fail
    refine (HS _ _ _ (FOwn.row lS o1)).mono ?_
    clear HS
    rintro en w2 ⟨rfl, hb⟩
    replace b0 := b0.trans (hb.mono b0.size)
    clear hb o1
    obtain ⟨V, hV⟩ : ∃ V, w2.alloc (.cells #[.int .i64 u0, .int .i64 u1, .int .i64 u2] 31) = V := ⟨_, rfl⟩
    have UV : Blk w2.heap.size [.int .i64 u0, .int .i64 u1, .int .i64 u2] V := by rw [← hV]; exact Blk.new _ _ _
    replace b0 : Below w.heap.size w V := by rw [← hV]; exact b0.alloc b0.size _
    obtain ⟨g2, hg2⟩ : ∃ g, w2.heap.size = g := ⟨_, rfl⟩
    rw [hg2] at UV
    go_wp2_with fail
    try rw [hV]
    try rw [hg2]
    refine (toSS_is a0 cap0 xs0 _ (hr0.later b0) hz0).mono ?_
    clear hV hg2
    rintro en w3 ⟨rfl, o3, hb⟩
    replace UV := UV.later hb UV.lt
    replace b0 := b0.trans (hb.mono b0.size)
    clear hb
    go_wp2_with fail
    refine (HI _ _ _ (FOwn.row lS o3)).mono ?_
    clear HI
    rintro en w4 ⟨rfl, hb⟩
    replace o3 := own_later o3 hb
    replace UV := UV.later hb UV.lt
    replace b0 := b0.trans (hb.mono b0.size)
    clear hb
    obtain ⟨V2, hV⟩ : ∃ V, w4.alloc (.cells #[.int .i64 u0, .int .i64 u1, .int .i64 u2] 31) = V := ⟨_, rfl⟩
    have hbV : Below w4.heap.size w4 V2 := by rw [← hV]; exact (Below.refl _ _).alloc (Nat.le_refl _) _
    have UX : Blk w4.heap.size [.int .i64 u0, .int .i64 u1, .int .i64 u2] V2 := by rw [← hV]; exact Blk.new _ _ _
    replace UV := UV.later hbV UV.lt
    replace o3 := own_later o3 hbV
    replace b0 := b0.trans (hbV.mono b0.size)
    clear hbV
    obtain ⟨g4, hg4⟩ : ∃ g, w4.heap.size = g := ⟨_, rfl⟩
    rw [hg4] at UX
    have q0 := UV.at 0 rfl
    have q1 := UV.at 1 rfl
    have q2 := UV.at 2 rfl
    have p0 := UX.at 0 rfl
    have p1 := UX.at 1 rfl
    have p2 := UX.at 2 rfl
    go_wp2_with fail
    try rw [hV]
    try rw [hg4]
    try go_wp2_with fail
    refine (eqS_is u0 u1 u2 _).mono ?_
    clear hV hg4 q0 q1 q2 p0 p1 p2
    rintro en w5 ⟨rfl, hb⟩
    replace o3 := own_later o3 hb
    replace b0 := b0.trans (hb.mono b0.size)
    clear hb UV UX
    go_wp2_with fail
    refine (toSS_is a0 cap0 xs0 _ (hr0.later b0) hz0).mono ?_
    rintro en w6 ⟨rfl, o5, hb⟩
    replace o3 := own_later o3 hb
    replace b0 := b0.trans (hb.mono b0.size)
    clear hb
    go_wp2_with fail
    refine (eqSS_is _ _ _ _ xs0 _ (FOwn.row lS o3) (FOwn.row lS o5) hz0).mono ?_
    rintro en w7 ⟨rfl, hb⟩
    replace b0 := b0.trans (hb.mono b0.size)
    clear hb o3 o5
    go_wp2
    go_ret
    exact ⟨rfl, b0⟩
  · simp only [if_neg hz0] at hsz0
    go_enter Try.func7, Try.ntmps7
    go_wp2_with fail
    refine (hsz0 _).mono ?_
    rintro en wz ⟨rfl, rfl⟩
    go_wp2
    go_ret
    exact ⟨rfl, Below.refl _ _⟩
end Go.Proofs.Ytkfjpgkpmdbnoaa
