/- Derive as the program has it; both are the same. -/
import Derived.Test.YtcilgmofhkpkpaaFg3
set_option linter.unusedVariables false
namespace Go.Proofs.Ytcilgmofhkpkpaa
open Go Go.RowKit

/-- What is found for a pair: what is needed, taken, set; and whether it is there. -/
def trip (q : Int × Int) : Int × Int × Int × Bool :=
  if q = (1, 0) then (0, 0, 0, true) else if q = (2, 0) then (1, 0, 64, true) else if q = (3, 0) then (2, 0, 128, true) else
  if q = (4, 0) then (4, 15, 0, true) else if q = (5, 0) then (8, 0, 16, true) else if q = (6, 16) then (0, 15, 0, true) else (0, 0, 0, false)
theorem tab_trip (q : Int × Int) : (tab 63 q).getD (dv 0 0 0) = dv (trip q).1 (trip q).2.1 (trip q).2.2.1 ∧ (tab 63 q).isSome = (trip q).2.2.2 := by
  unfold trip
  by_cases h0 : q = (1, 0)
  · subst h0; exact ⟨rfl, rfl⟩
  by_cases h1 : q = (2, 0)
  · subst h1; exact ⟨rfl, rfl⟩
  by_cases h2 : q = (3, 0)
  · subst h2; exact ⟨rfl, rfl⟩
  by_cases h3 : q = (4, 0)
  · subst h3; exact ⟨rfl, rfl⟩
  by_cases h4 : q = (5, 0)
  · subst h4; exact ⟨rfl, rfl⟩
  by_cases h5 : q = (6, 16)
  · subst h5; exact ⟨rfl, rfl⟩
  rw [if_neg h0, if_neg h1, if_neg h2, if_neg h3, if_neg h4, if_neg h5]
  have e : tab 63 q = none := by
    unfold tab
    rw [Option.map_eq_none_iff, List.find?_eq_none]
    intro j hj
    rw [List.mem_range] at hj
    intro c
    rw [Bool.and_eq_true, beq_iff_eq] at c
    obtain ⟨_, c⟩ := c
    match j, hj with
    | 0, _ => exact h0 c.symm
    | 1, _ => exact h1 c.symm
    | 2, _ => exact h2 c.symm
    | 3, _ => exact h3 c.symm
    | 4, _ => exact h4 c.symm
    | 5, _ => exact h5 c.symm
  rw [e]
  exact ⟨rfl, rfl⟩
def andI (x y : Int) : Int := bits .and .i64 x y
def orI (x y : Int) : Int := bits .or .i64 x y
def makP (p w : Int) (t : Int × Int × Int × Bool) : Int × Bool :=
  if t.2.2.2 && hasF p t.1 then (orI (andI p (orI (orI w t.2.1) 192)) t.2.2.1, true) else (0, false)
def derP (p k w : Int) : Int × Bool :=
  if btw p 0 255 && hasF 15 w then makP p w (trip (k, andI p 16)) else (0, false)
theorem and16 (p : Int) (h : 0 ≤ p) (h2 : p ≤ 255) : i64 (andI p 16) := by
  obtain ⟨x, rfl⟩ : ∃ x : Nat, p = x := ⟨p.toNat, by omega⟩
  unfold andI
  rw [show (16 : Int) = ((16 : Nat) : Int) from rfl, bits_nat x 16 (by omega) (by omega)]
  have hz : x &&& 16 ≤ x := Nat.and_le_left
  unfold i64
  omega
set_option maxRecDepth 100000 in
theorem implDer_is (p k w : Int) (hk : i64 k) (W : World) : Calls Try.prog 12 #[.int .i64 p, .int .i64 k, .int .i64 w] W fun e W' => e = .returned (.tuple #[.int .i64 (derP p k w).1, .bool (derP p k w).2]) ∧ Below W.heap.size W W' := by
  go_enter Try.func12, Try.ntmps12
  go_wp2_with fail
  refine (implOk_is p _).mono ?_
  rintro e W2 ⟨rfl, rfl⟩
  by_cases hp : btw p 0 255 = true
  · have hp2 := (btw_iff _ _ _).1 hp
    rw [hp]
    go_wp2_with fail
    refine (hasF_is 15 w _).mono ?_
    rintro e W2 ⟨rfl, rfl⟩
    by_cases hF : hasF 15 w = true
    · obtain ⟨tn, tt, ts, tb, ht⟩ : ∃ tn tt ts tb, trip (k, andI p 16) = (tn, tt, ts, tb) := ⟨_, _, _, _, rfl⟩
      have HE : Hid (derP p k w = makP p w (tn, tt, ts, tb)) := by show _ = _; unfold derP; rw [hp, hF, ht]; rfl
      rw [hF]
      have ha := and16 p hp2.1 hp2.2
      clear hp hF
      go_wp2_with fail
      refine (deriv_is _).mono ?_
      rintro e W2 ⟨m, rfl, hm, hb⟩
      have hlook := hm.look hk ha
      obtain ⟨t1, t2⟩ := tab_trip (k, andI p 16)
      rw [t1, t2, ht] at hlook
      clear t1 t2 ha hm ht
      unfold andI at hlook
      obtain ⟨V1, hV1⟩ : ∃ V1, W2.alloc (.cells #[.int .i64 tn, .int .i64 tt, .int .i64 ts] 42) = V1 := ⟨_, rfl⟩
      have B1 : Below W.heap.size W V1 := by rw [← hV1]; exact hb.alloc hb.size _
      have T1 : Blk W2.heap.size [.int .i64 tn, .int .i64 tt, .int .i64 ts] V1 := by rw [← hV1]; exact Blk.new _ _ _
      have c0 := T1.at 0 rfl
      have c1 := T1.at 1 rfl
      have c2 := T1.at 2 rfl
      clear T1
      have HB1 : Hid (Below W.heap.size W V1) := B1
      clear B1
      cases tb with
      | false =>
        go_wp2
        try rw [hV1]
        go_wp2
        go_ret2
        exact ⟨ended (show ((0 : Int), false) = derP p k w from Eq.symm (by rw [HE.out]; rfl)), HB1.out⟩
      | true =>
        go_wp2_with fail
        try rw [hV1]
        go_wp2_with fail
        refine (hasF_is p tn _).mono ?_
        rintro e W3 ⟨rfl, rfl⟩
        by_cases hN : hasF p tn = true
        · rw [hN]
          have HQ : Hid (derP p k w = (orI (andI p (orI (orI w tt) 192)) ts, true)) := by show _ = _; rw [HE.out]; unfold makP; rw [hN]; rfl
          clear hN HE
          go_wp2
          go_ret2
          exact ⟨ended (show (orI (andI p (orI (orI w tt) 192)) ts, true) = derP p k w from HQ.out.symm), HB1.out⟩
        · rw [Bool.not_eq_true] at hN
          rw [hN]
          have HQ : Hid (derP p k w = (0, false)) := by show _ = _; rw [HE.out]; unfold makP; rw [hN]; rfl
          clear hN HE
          go_wp2
          go_ret2
          exact ⟨ended (show ((0 : Int), false) = derP p k w from HQ.out.symm), HB1.out⟩
    · rw [Bool.not_eq_true] at hF
      have HE : Hid (derP p k w = (0, false)) := by show _ = _; unfold derP; rw [hF, Bool.and_false]; rfl
      rw [hF]
      go_wp2
      go_ret2
      exact ⟨ended (show ((0 : Int), false) = derP p k w from HE.out.symm), Below.refl _ _⟩
  · rw [Bool.not_eq_true] at hp
    have HE : Hid (derP p k w = (0, false)) := by show _ = _; unfold derP; rw [hp, Bool.false_and]; rfl
    rw [hp]
    go_wp2
    go_ret2
    exact ⟨ended (show ((0 : Int), false) = derP p k w from HE.out.symm), Below.refl _ _⟩
end Go.Proofs.Ytcilgmofhkpkpaa
