/- The law on flags: what is drawn, and all that is derived of it. -/
import Derived.Test.YtcilgmofhkpkpaaFg6
import Derived.Test.YtcilgmofhkpkpaaReg
import Derived.OwnWalk
import Derived.Laws.OwnMore
set_option linter.unusedVariables false
namespace Go.Proofs.Ytcilgmofhkpkpaa
open Go Go.RowKit Draw

theorem big_go (a : Option Addr) (len cap : Nat) (W : World) (h : len ≤ 1048576) :
    Calls Try.prog 10 #[.slice a len cap] W fun e w' => e = .returned (.bool false) ∧ W = w' := by
  have hd : decide ((1048576 : Int) < (len : Int)) = false := by simp; omega
  go_enter Try.func10, Try.ntmps10
  go_wp2
  go_ret
  exact ⟨rfl, rfl⟩
theorem big_yes (a : Option Addr) (len cap : Nat) (W : World) (h : 1048576 < len) (h2 : len ≤ maxLen) :
    Calls Try.prog 10 #[.slice a len cap] W fun e w' => e = .returned (.bool true) ∧ W = w' := by
  unfold maxLen at h2
  have hd : decide ((1048576 : Int) < (len : Int)) = true := by simp; omega
  go_enter Try.func10, Try.ntmps10
  go_wp2
  go_ret
  exact ⟨rfl, rfl⟩
set_option maxRecDepth 100000 in
set_option maxHeartbeats 1600000 in
theorem at0 (a : Option Addr) (len cap : Nat) (zs : List Int) (W : World) (hz : CodeAt W W.heap.size a len zs) :
    Calls Try.prog 16 #[.slice a len cap, .int .i64 0] W fun e w' => ∃ z : Int, e = .returned (.int .i64 z) ∧ 0 ≤ z ∧ z ≤ 255 ∧ W = w' := by
  have hl := hz.1
  by_cases h : 0 < len
  · obtain ⟨⟨h1, h2⟩, b, off, e, hp, hc⟩ := hz.2 0 h
    subst e
    rw [Nat.add_zero] at hc
    generalize zs.getD 0 0 = z at h1 h2 hc
    have hd : decide ((0 : Int) < (len : Int)) = true := by simp; omega
    go_enter Try.func16, Try.ntmps16
    go_wp2
    go_ret
    exact ⟨z, by go_num, h1, h2, rfl⟩
  · obtain rfl : len = 0 := by omega
    go_enter Try.func16, Try.ntmps16
    go_wp2
    go_ret
    exact ⟨0, by go_num, by omega, by omega, rfl⟩
set_option maxRecDepth 100000 in
set_option maxHeartbeats 1600000 in
theorem at1 (a : Option Addr) (len cap : Nat) (zs : List Int) (W : World) (hz : CodeAt W W.heap.size a len zs) :
    Calls Try.prog 16 #[.slice a len cap, .int .i64 1] W fun e w' => ∃ z : Int, e = .returned (.int .i64 z) ∧ 0 ≤ z ∧ z ≤ 255 ∧ W = w' := by
  have hl := hz.1
  by_cases h : 1 < len
  · obtain ⟨⟨h1, h2⟩, b, off, e, hp, hc⟩ := hz.2 1 h
    subst e
    generalize zs.getD 1 0 = z at h1 h2 hc
    have hd : decide ((1 : Int) < (len : Int)) = true := by simp; omega
    go_enter Try.func16, Try.ntmps16
    go_wp2
    go_ret
    exact ⟨z, by go_num, h1, h2, rfl⟩
  · have hd : decide ((1 : Int) < (len : Int)) = false := by simp; omega
    obtain ⟨q, hq⟩ : ∃ q : Nat, q = (37 + len * 11) % 256 := ⟨_, rfl⟩
    by_cases h0 : len = 0
    · subst h0
      go_enter Try.func16, Try.ntmps16
      go_wp2
      go_ret
      exact ⟨37, by go_num, by omega, by omega, rfl⟩
    · obtain rfl : len = 1 := by omega
      go_enter Try.func16, Try.ntmps16
      go_wp2
      go_ret
      exact ⟨48, by go_num, by omega, by omega, rfl⟩
theorem newW (a : Option Addr) (len cap : Nat) (zs : List Int) (W : World) (hz : CodeAt W W.heap.size a len zs) :
    Calls Try.prog 24 #[.slice a len cap] W fun e w' => e = .returned (.pointer (some ⟨W.heap.size, 0, none⟩)) ∧ Cu W.heap.size a len cap zs w' w' ∧ Below W.heap.size W w' := by
  refine (new_go a len cap zs W hz).mono ?_
  rintro e w' ⟨rfl, h1, h2, h3⟩
  exact ⟨rfl, Cu.start ⟨h1, hz.below h2, Nat.zero_le _⟩, h2⟩
set_option maxRecDepth 100000 in
theorem flagsW {p : Nat} {a : Option Addr} {len cap : Nat} {zs : List Int} {w : World} (h : Cu p a len cap zs w w) :
    Calls Try.prog 25 #[.pointer (some ⟨p, 0, none⟩)] w fun e w' => ∃ x : Int, e = .returned (.int .i64 x) ∧ i64 x ∧ Cu p a len cap zs w w' := by
  go_enter Try.func25, Try.ntmps25
  go_wp2_with fail
  refine (onceW 15 h (by omega)).mono ?_
  rintro e w1 ⟨b, rfl, c1⟩
  cases b with
  | true =>
    obtain ⟨V, hV⟩ : ∃ V, w1.alloc (.cells #[.int .i64 (-1), .int .i64 256, .int .i64 1000] 3) = V := ⟨_, rfl⟩
    have T : Blk w1.heap.size [.int .i64 (-1), .int .i64 256, .int .i64 1000] V := by rw [← hV]; exact Blk.new _ _ _
    have c2 : Cu p a len cap zs w V := by rw [← hV]; exact c1.alloc _
    have hp := c1.lt
    have hs : w1.heap.size < V.heap.size := by rw [← hV]; simp
    go_wp2_with fail
    try rw [hV]
    clear hV
    refine (pickI w1.heap.size 3 [-1, 256, 1000] c2.here (by omega) (by omega) hp hs rfl T (by decide)).mono ?_
    rintro e w2 ⟨x, rfl, hx, c3⟩
    have c4 := c2.next c3
    clear T hs hp c1 c2 c3
    go_wp2
    go_ret
    exact ⟨x, rfl, hx, c4⟩
  | false =>
    go_wp2_with fail
    refine (belowW 256 c1.here (by omega) (by omega)).mono ?_
    rintro e w2 ⟨x, rfl, h0, h1, c2⟩
    have c3 := c1.next c2
    go_wp2
    go_ret
    exact ⟨x, rfl, (by unfold i64; omega), c3⟩
set_option maxRecDepth 100000 in
theorem drawDer (a : Option Addr) (len cap : Nat) (zs : List Int) (W : World) (hz : CodeAt W W.heap.size a len zs) :
    Calls Try.prog 11 #[.slice a len cap] W fun e w' => ∃ p k q : Int, e = .returned (.tuple #[.int .i64 p, .int .i64 k, .int .i64 q]) ∧ i64 p ∧ i64 k ∧ i64 q ∧ Below W.heap.size W w' := by
  go_enter Try.func11, Try.ntmps11
  go_wp2_with fail
  refine (newW a len cap zs W hz).mono ?_
  rintro e w1 ⟨rfl, c1, b1⟩
  go_wp2_with fail
  refine (flagsW c1).mono ?_
  rintro e w2 ⟨p, rfl, hp, c2⟩
  go_wp2_with fail
  refine (belowW 8 c2.here (by omega) (by omega)).mono ?_
  rintro e w3 ⟨k, rfl, k0, k1, c3⟩
  go_wp2_with fail
  refine (onceW 2 c3.here (by omega)).mono ?_
  rintro e w4 ⟨b, rfl, c4⟩
  have C4 := c2.next (c3.next c4)
  have B4 : Below W.heap.size W w4 := b1.trans (C4.2.below (Nat.le_refl _) c1.lt)
  have hk : i64 k := by unfold i64; omega
  have hlt := c1.lt
  clear B4 c1 c2 c3 c4
  cases b with
  | true =>
    by_cases hp0 : 0 ≤ p
    · skip
      go_wp2_with fail
      refine (onceW 8 C4.here (by omega)).mono ?_
      rintro e w5 ⟨b8, rfl, c5⟩
      have C5 := C4.next c5
      clear C4 c5
      cases b8 with
      | true =>
        go_wp2_with fail
        refine (flagsW C5.here).mono ?_
        rintro e w6 ⟨q, rfl, hq, c6⟩
        have B6 : Below W.heap.size W w6 := b1.trans ((C5.next c6).2.below (Nat.le_refl _) hlt)
        clear c6 C5
        go_wp2
        go_ret3
        exact ⟨p % 16, k, q, rfl, (by unfold i64; omega), hk, hq, B6⟩
      | false =>
        go_wp2_with fail
        refine (belowW 16 C5.here (by omega) (by omega)).mono ?_
        rintro e w6 ⟨q, rfl, q0, q1, c6⟩
        have B6 : Below W.heap.size W w6 := b1.trans ((C5.next c6).2.below (Nat.le_refl _) hlt)
        clear c6 C5
        go_wp2
        go_ret3
        exact ⟨p % 16, k, q, rfl, (by unfold i64; omega), hk, (by unfold i64; omega), B6⟩
    · skip
      go_wp2_with fail
      refine (onceW 8 C4.here (by omega)).mono ?_
      rintro e w5 ⟨b8, rfl, c5⟩
      have C5 := C4.next c5
      clear C4 c5
      cases b8 with
      | true =>
        go_wp2_with fail
        refine (flagsW C5.here).mono ?_
        rintro e w6 ⟨q, rfl, hq, c6⟩
        have B6 : Below W.heap.size W w6 := b1.trans ((C5.next c6).2.below (Nat.le_refl _) hlt)
        clear c6 C5
        go_wp2
        go_ret3
        exact ⟨p, k, q, rfl, hp, hk, hq, B6⟩
      | false =>
        go_wp2_with fail
        refine (belowW 16 C5.here (by omega) (by omega)).mono ?_
        rintro e w6 ⟨q, rfl, q0, q1, c6⟩
        have B6 : Below W.heap.size W w6 := b1.trans ((C5.next c6).2.below (Nat.le_refl _) hlt)
        clear c6 C5
        go_wp2
        go_ret3
        exact ⟨p, k, q, rfl, hp, hk, (by unfold i64; omega), B6⟩
  | false =>
    go_wp2_with fail
    refine (onceW 8 C4.here (by omega)).mono ?_
    rintro e w5 ⟨b8, rfl, c5⟩
    have C5 := C4.next c5
    clear C4 c5
    cases b8 with
    | true =>
      go_wp2_with fail
      refine (flagsW C5.here).mono ?_
      rintro e w6 ⟨q, rfl, hq, c6⟩
      have B6 : Below W.heap.size W w6 := b1.trans ((C5.next c6).2.below (Nat.le_refl _) hlt)
      clear c6 C5
      go_wp2
      go_ret3
      exact ⟨p, k, q, rfl, hp, hk, hq, B6⟩
    | false =>
      go_wp2_with fail
      refine (belowW 16 C5.here (by omega) (by omega)).mono ?_
      rintro e w6 ⟨q, rfl, q0, q1, c6⟩
      have B6 : Below W.heap.size W w6 := b1.trans ((C5.next c6).2.below (Nat.le_refl _) hlt)
      clear c6 C5
      go_wp2
      go_ret3
      exact ⟨p, k, q, rfl, hp, hk, (by unfold i64; omega), B6⟩
/-- What holds of all that is derived. -/
def fine (p f : Nat) : Bool := belX f p && decide (f < 256) && decide (f / 32 % 2 = 0) && (decide (p / 64 % 2 = 0) || decide (f / 64 % 2 = 1)) && (decide (p / 128 % 2 = 0) || decide (f / 128 % 2 = 1)) &&
  (!(specN f 2 15).2 || (decide ((specN f 2 15).1 < 256) && belX (specN f 2 15).1 p && decide ((specN f 2 15).1 / 64 % 2 = 1)))
theorem fine_tab : ∀ p < 256, ∀ w < 16, ∀ k < 7, k = 0 ∨ (specN p k w).2 = false ∨ fine p (specN p k w).1 = true := by decide +kernel
theorem der_zero (p k w : Int) (h : (specF p k w).2 = false) : (specF p k w).1 = 0 := by
  unfold specF at *
  split at h
  · unfold specD at *
    split at h
    · rename_i h1; rw [if_pos h1, if_pos (by assumption)]
    · rename_i h1
      split at h
      · rename_i h2; rw [if_pos (by assumption), if_neg h1, if_pos h2]
      · cases h
  · rename_i h1
    rw [if_neg h1]
theorem belM_nat (a b : Nat) (ha : a < 256) (hb : b < 256) : belM (a : Int) (b : Int) = belX a b := by
  unfold belM belX belN
  rw [(btw_iff _ _ _).2 ⟨by omega, by omega⟩, (btw_iff _ _ _).2 ⟨by omega, by omega⟩]
  simp only [List.all_cons, List.all_nil, List.range, List.range.loop, pw, hasM_nat, Bool.true_and]
/-- What is derived, where it is, as plain numbers. -/
theorem der_fine (p k w : Int) (h : (specF p k w).2 = true) : ∃ x f : Nat, p = x ∧ x < 256 ∧ (specF p k w).1 = f ∧ fine x f = true := by
  unfold specF at *
  split at h
  · rename_i h1
    rw [if_pos h1]
    rw [Bool.and_eq_true, Bool.and_eq_true, btw_iff, btw_iff, btw_iff] at h1
    obtain ⟨⟨h1, h2⟩, h3⟩ := h1
    obtain ⟨x, rfl⟩ : ∃ x : Nat, p = x := ⟨p.toNat, by omega⟩
    obtain ⟨y, rfl⟩ : ∃ y : Nat, w = y := ⟨w.toNat, by omega⟩
    obtain ⟨n, rfl⟩ : ∃ n : Nat, k = n := ⟨k.toNat, by omega⟩
    have e : (n : Int).toNat = n := rfl
    rw [e, specD_nat] at *
    refine ⟨x, (specN x n y).1, rfl, by omega, rfl, ?_⟩
    rcases fine_tab x (by omega) y (by omega) n (by omega) with t | t | t
    · omega
    · have h' : (specN x n y).2 = true := h
      rw [t] at h'; cases h'
    · exact t
  · cases h
end Go.Proofs.Ytcilgmofhkpkpaa
