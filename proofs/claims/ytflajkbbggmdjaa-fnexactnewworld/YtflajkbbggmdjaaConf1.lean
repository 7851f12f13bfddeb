/- Configs that are right: the program. -/
import Derived.Test.YtflajkbbggmdjaaPair3
set_option linter.unusedVariables false
namespace Go.Proofs.Ytflajkbbggmdjaa
open Go Go.RowKit Draw

/-- A Config: its rows, where they lie, how far they may grow, and Skew. -/
structure Cf where
  ua : Option Addr
  uc : Nat
  U : List Int
  sa : Option Addr
  sc : Nat
  S : List Int
  la : Option Addr
  lc : Nat
  L : List (Int × Int)
  xa : Option Addr
  xc : Nat
  X : List (Int × Int)
  k : Int
abbrev Cf.val (c : Cf) : Value := .agg #[.slice c.ua c.U.length c.uc, .slice c.sa c.S.length c.sc, .slice c.la c.L.length c.lc, .slice c.xa c.X.length c.xc, .int .i64 c.k]
abbrev Cf.cells (c : Cf) : List Value := [.slice c.ua c.U.length c.uc, .slice c.sa c.S.length c.sc, .slice c.la c.L.length c.lc, .slice c.xa c.X.length c.xc, .int .i64 c.k]
/-- The rows of a Config lie in memory. -/
structure CfAt (c : Cf) (w : World) : Prop where
  hu : RowAt (Value.int .i64) w c.ua c.U
  hs : RowAt (Value.int .i64) w c.sa c.S
  hl : PRow w c.la c.L
  hx : PRow w c.xa c.X
structure CfOk (c : Cf) : Prop where
  lu : c.U.length ≤ 1048576
  ls : c.S.length ≤ 1048576
  ll : c.L.length ≤ 1048576
  lx : c.X.length ≤ 1048576
  cl : c.L.length ≤ c.lc
  cx : c.X.length ≤ c.xc
theorem CfAt.later {c : Cf} {w w' : World} (h : CfAt c w) (hb : Below w.heap.size w w') : CfAt c w' := ⟨h.hu.later hb, h.hs.later hb, h.hl.later hb, h.hx.later hb⟩
def realmB (l : List Int) : Bool := decide (l.length = 3) && allB l 3
def confB (c : Cf) : Bool := realmB c.U && (realmB c.S && (pairsB ulB c.L && (pairsB svB c.X && btw c.k 0 20)))
theorem ul_i64 (a b : Int) (h : ulB a b = true) : i64 a ∧ i64 b := by
  unfold ulB at h
  rw [Bool.and_eq_true, Bool.and_eq_true] at h
  have h0 := (btw_iff _ _ _).1 h.1
  have h1 := (btw_iff _ _ _).1 h.2.1
  unfold i64
  omega
theorem sv_i64 (a b : Int) (h : svB a b = true) : i64 a ∧ i64 b := by
  unfold svB at h
  rw [Bool.and_eq_true] at h
  have h0 := (btw_iff _ _ _).1 h.1
  have h1 := (btw_iff _ _ _).1 h.2
  unfold i64
  omega
set_option maxRecDepth 100000 in
theorem realmsOk_is (a : Option Addr) (cap : Nat) (xs : List Int) (w : World) (hr : RowAt (Value.int .i64) w a xs) (hl : xs.length ≤ 1048576) :
    Calls Try.prog 77 #[.slice a xs.length cap, .int .i64 3] w fun e w' => e = .returned (.bool (realmB xs)) ∧ Below w.heap.size w w' := by
  by_cases h : xs.length = 3
  · have e1 : ((xs.length : Int) == 3) = true := beq_iff_eq.2 (by omega)
    have e2 : decide ((xs.length : Int) = 3) = true := decide_eq_true (by omega)
    have HR : Hid (realmB xs = allB xs 3) := by show realmB xs = _; unfold realmB; rw [decide_eq_true h]; rfl
    clear h
    go_enter Try.func77, Try.ntmps77
    go_wp2_with fail
    refine (listOk_is 98 enters95 realm_is a cap xs 3 _ hr hl (by omega)).mono ?_
    rintro e w1 ⟨rfl, hb⟩
    generalize hv : allB xs 3 = v
    go_wp2
    go_ret
    exact ⟨by rw [HR.out, hv]; rfl, hb⟩
  · have e1 : ((xs.length : Int) == 3) = false := beq_eq_false_iff_ne.2 (by omega)
    have e2 : decide ((xs.length : Int) = 3) = false := decide_eq_false (by omega)
    have HR : Hid (realmB xs = false) := by show realmB xs = _; unfold realmB; rw [decide_eq_false h]; rfl
    go_enter Try.func77, Try.ntmps77
    go_wp2
    go_ret
    exact ⟨by rw [HR.out]; rfl, Below.refl _ _⟩

set_option maxRecDepth 100000 in
set_option maxHeartbeats 3200000 in
theorem right_is (c : Cf) (w : World) (C : CfAt c w) (K : CfOk c) : Calls Try.prog 30 #[c.val] w fun en w' => en = .returned (.bool (confB c)) ∧ Below w.heap.size w w' := by
  obtain ⟨W1, hW1⟩ : ∃ W1, w.alloc (.cells #[.slice c.ua c.U.length c.uc, .slice c.sa c.S.length c.sc, .slice c.la c.L.length c.lc, .slice c.xa c.X.length c.xc, .int .i64 c.k] 30) = W1 := ⟨_, rfl⟩
  have B0 : Below w.heap.size w W1 := by rw [← hW1]; exact (Below.refl _ _).alloc (Nat.le_refl _) _
  have T0 : Blk w.heap.size c.cells W1 := by rw [← hW1]; exact Blk.new _ _ _
  have Z0 : Hid (w.heap.size < W1.heap.size) := by show _ < _; rw [← hW1]; simp
  have d0 := T0.at 0 rfl
  have d1 := T0.at 1 rfl
  have d2 := T0.at 2 rfl
  have d3 := T0.at 3 rfl
  have d4 := T0.at 4 rfl
  have HC : Hid (confB c = (realmB c.U && (realmB c.S && (pairsB ulB c.L && (pairsB svB c.X && btw c.k 0 20))))) := (rfl : confB c = _)
  go_enter Try.func30, Try.ntmps30
  go_wp2_with fail
  try rw [hW1]
  refine (realmsOk_is c.ua c.uc c.U _ (C.hu.later B0) K.lu).mono ?_
  clear hW1
  rintro e w2 ⟨rfl, hb2⟩
  have B2 := B0.trans (hb2.mono B0.size)
  clear d0 d1 d2 d3 d4
  have T2 := T0.later hb2 Z0.out
  have Z2 : Hid (w.heap.size < w2.heap.size) := Nat.lt_of_lt_of_le Z0.out hb2.size
  clear T0 Z0 hb2
  have d0 := T2.at 0 rfl
  have d1 := T2.at 1 rfl
  have d2 := T2.at 2 rfl
  have d3 := T2.at 3 rfl
  have d4 := T2.at 4 rfl
  by_cases h0 : realmB c.U = true
  · rw [h0]
    go_wp2_with fail
    refine (realmsOk_is c.sa c.sc c.S _ (C.hs.later B2) K.ls).mono ?_
    rintro e w3 ⟨rfl, hb3⟩
    have B3 := B2.trans (hb3.mono B2.size)
    clear d0 d1 d2 d3 d4
    have T3 := T2.later hb3 Z2.out
    have Z3 : Hid (w.heap.size < w3.heap.size) := Nat.lt_of_lt_of_le Z2.out hb3.size
    clear T2 Z2 hb3
    have d0 := T3.at 0 rfl
    have d1 := T3.at 1 rfl
    have d2 := T3.at 2 rfl
    have d3 := T3.at 3 rfl
    have d4 := T3.at 4 rfl
    by_cases h1 : realmB c.S = true
    · rw [h1]
      go_wp2_with fail
      refine (pairsOk_is 79 ulB enters59 unlike_is ul_i64 c.la c.lc c.L _ (C.hl.later B3) K.ll).mono ?_
      rintro e w4 ⟨rfl, hb4⟩
      have B4 := B3.trans (hb4.mono B3.size)
      clear d0 d1 d2 d3 d4
      have T4 := T3.later hb4 Z3.out
      have Z4 : Hid (w.heap.size < w4.heap.size) := Nat.lt_of_lt_of_le Z3.out hb4.size
      clear T3 Z3 hb4
      have d0 := T4.at 0 rfl
      have d1 := T4.at 1 rfl
      have d2 := T4.at 2 rfl
      have d3 := T4.at 3 rfl
      have d4 := T4.at 4 rfl
      by_cases h2 : pairsB ulB c.L = true
      · rw [h2]
        go_wp2_with fail
        refine (pairsOk_is 80 svB enters60 services_is sv_i64 c.xa c.xc c.X _ (C.hx.later B4) K.lx).mono ?_
        rintro e w5 ⟨rfl, hb5⟩
        have B5 := B4.trans (hb5.mono B4.size)
        clear d0 d1 d2 d3 d4
        have T5 := T4.later hb5 Z4.out
        have Z5 : Hid (w.heap.size < w5.heap.size) := Nat.lt_of_lt_of_le Z4.out hb5.size
        clear T4 Z4 hb5
        have d0 := T5.at 0 rfl
        have d1 := T5.at 1 rfl
        have d2 := T5.at 2 rfl
        have d3 := T5.at 3 rfl
        have d4 := T5.at 4 rfl
        by_cases h3 : pairsB svB c.X = true
        · rw [h3]
          go_wp2_with fail
          refine (within_is c.k 20 _).mono ?_
          rintro e wx ⟨rfl, rfl⟩
          rw [show inB c.k 20 = btw c.k 0 20 from rfl]
          clear d0 d1 d2 d3 d4
          generalize hval : btw c.k 0 20 = bb
          go_wp2
          go_ret
          exact ⟨by rw [HC.out, h0, h1, h2, h3, hval]; rfl, B5⟩
        · rw [Bool.not_eq_true] at h3
          rw [h3]
          clear d0 d1 d2 d3 d4
          go_wp2
          go_ret
          exact ⟨by rw [HC.out, h0, h1, h2, h3]; rfl, B5⟩
      · rw [Bool.not_eq_true] at h2
        rw [h2]
        clear d0 d1 d2 d3 d4
        go_wp2
        go_ret
        exact ⟨by rw [HC.out, h0, h1, h2]; rfl, B4⟩
    · rw [Bool.not_eq_true] at h1
      rw [h1]
      clear d0 d1 d2 d3 d4
      go_wp2
      go_ret
      exact ⟨by rw [HC.out, h0, h1]; rfl, B3⟩
  · rw [Bool.not_eq_true] at h0
    rw [h0]
    clear d0 d1 d2 d3 d4
    go_wp2
    go_ret
    exact ⟨by rw [HC.out, h0]; rfl, B2⟩
end Go.Proofs.Ytflajkbbggmdjaa
