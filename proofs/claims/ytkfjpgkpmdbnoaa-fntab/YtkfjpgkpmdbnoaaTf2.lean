/- The last slot of a holder: the model. -/
import Derived.Test.YtkfjpgkpmdbnoaaTb1
import Derived.Test.YtkfjpgkpmdbnoaaTf0
import Derived.Test.YtkfjpgkpmdbnoaaRg1
import Derived.Test.YtkfjpgkpmdbnoaaBig
set_option linter.unusedVariables false
set_option maxRecDepth 100000
namespace Go.Proofs.Ytkfjpgkpmdbnoaa
open Go Go.RowKit Go.Joins Own Draw

set_option maxRecDepth 100000 in
set_option maxHeartbeats 6400000 in
theorem specNow_is (a : Option Addr) (cap : Nat) (xs : List TS) (n : Int) (w : World) (hr : FRow 3 cS w a xs) (hl : xs.length ≤ 1048576) :
    Calls Try.prog 17 #[.slice a xs.length cap, .int .i64 n] w fun e w' => e = .returned (.tuple #[vS (noT xs n).1, .bool (noT xs n).2]) ∧ Below w.heap.size w w' := by
  obtain ⟨ie, hie, hsz⟩ := info_S
  go_enter Try.func17, Try.ntmps17
  go_wp2
  have T0 : Blk w.heap.size [.int .i64 0, .int .i64 0, .int .i64 0] ((w.alloc (.cells #[.int .i64 0, .int .i64 0, .int .i64 0] 31)).alloc (.cells #[.int .i64 0, .int .i64 0, .int .i64 0] 31)) := (Blk.new w #[.int .i64 0, .int .i64 0, .int .i64 0] 31).alloc (by simp) _
  have T1 : Blk (w.heap.size + 1) [.int .i64 0, .int .i64 0, .int .i64 0] ((w.alloc (.cells #[.int .i64 0, .int .i64 0, .int .i64 0] 31)).alloc (.cells #[.int .i64 0, .int .i64 0, .int .i64 0] 31)) := by
    have := Blk.new (w.alloc (.cells #[.int .i64 0, .int .i64 0, .int .i64 0] 31)) #[.int .i64 0, .int .i64 0, .int .i64 0] 31
    simpa [go_sem] using this
  have B1 : Below w.heap.size w ((w.alloc (.cells #[.int .i64 0, .int .i64 0, .int .i64 0] 31)).alloc (.cells #[.int .i64 0, .int .i64 0, .int .i64 0] 31)) := ((Below.refl _ _).alloc (Nat.le_refl _) _).alloc (by simp) _
  generalize ((w.alloc (.cells #[.int .i64 0, .int .i64 0, .int .i64 0] 31)).alloc (.cells #[.int .i64 0, .int .i64 0, .int .i64 0] 31)) = V at T0 T1 B1 ⊢
  have hg : w.heap.size ≠ w.heap.size + 1 := by omega
  have hs1 : w.heap.size + 1 ≥ w.heap.size := by omega
  go_loopw [7, 8] (fun q i wr => ∃ (k : Nat) (o : TS) (b : Bool), k ≤ xs.length ∧ i = .int .i64 k ∧ q = .bool b ∧ Hid (0 < k → tabB xs = true) ∧ Hid (noG (xs.take k) n = (o, b)) ∧ Blk w.heap.size [.int .i64 0, .int .i64 0, .int .i64 0] wr ∧ Blk (w.heap.size + 1) [.int .i64 o.1, .int .i64 o.2.1, .int .i64 o.2.2] wr ∧ Below w.heap.size w wr) (fun _ i _ => xs.length - (intOf i).toNat)
  case atStart => exact ⟨0, (0, 0, 0), false, by omega, rfl, rfl, fun h => absurd h (by omega), rfl, T0, T1, B1⟩
  case round =>
    clear T0 T1 B1
    obtain ⟨k, o, b, hk, rfl, rfl, htb, hu, T0, T1, hbel⟩ := hrel
    by_cases hlt : k < xs.length
    · have hlt2 : (k : Int) < (xs.length : Int) := by omega
      go_wp2_with fail
      have K := specTab_is a cap xs wr (hr.later hbel) hl
      refine K.mono ?_
      clear K
      rintro en wt ⟨rfl, bt⟩
      have s1 : w.heap.size + 1 < wr.heap.size := Blk.lt T1
      replace T0 := T0.later bt (by omega)
      replace T1 := T1.later bt s1
      replace hbel := hbel.trans (bt.mono hbel.size)
      clear bt s1
      cases ht : tabB xs with
      | false =>
        have HV : Hid (noT xs n = (o, b)) := by
          have hk0 : k = 0 := Nat.eq_zero_of_not_pos fun h => by
            have := htb.out h
            rw [ht] at this
            cases this
          have := hu.out
          rw [hk0] at this
          exact (noT_bad ht).trans this
        clear hu hr ht htb
        have TN := T0.sets [.int .i64 o.1, .int .i64 o.2.1, .int .i64 o.2.2] rfl
        have BN := below_sets (m := w.heap.size) (Nat.le_refl w.heap.size) [.int .i64 o.1, .int .i64 o.2.1, .int .i64 o.2.2] 0 _ hbel
        go_wp2_with (first | (refine wpList_ldB 31 _ (w.heap.size + 1) 0 [.int .i64 o.1, .int .i64 o.2.1, .int .i64 o.2.2] [.int .i64 o.1, .int .i64 o.2.1, .int .i64 o.2.2] ie hie Try.isAgg31 T1 (by rw [hsz]; rfl) rfl rfl rfl rfl ?_; try simp only [Act.put]) | (refine wpList_stB 31 _ _ w.heap.size 0 [.int .i64 0, .int .i64 0, .int .i64 0] [.int .i64 o.1, .int .i64 o.2.1, .int .i64 o.2.2] ie hie T0 (by rw [hsz]; rfl) (by simp) rfl rfl rfl rfl rfl ?_; try simp only [Act.put]) | fail)
        exact bodyPost_ret (res_B2 rfl _ _ w.heap.size [.int .i64 o.1, .int .i64 o.2.1, .int .i64 o.2.2] (.bool b) ie hie Try.isAgg31 TN (by rw [hsz]; rfl) rfl rfl) rfl ⟨by rw [HV.out], BN⟩
      | true =>
        obtain ⟨b1, o1, rfl, l1, hc⟩ := hr k hlt
        have h0 : wt.cell? ⟨b1, o1 + k * 3, none⟩ = some (.int .i64 xs[k].1) := (hbel.cell (p := ⟨b1, o1 + k * 3, none⟩) l1).trans (hc 0 _ rfl)
        have h1 : wt.cell? ⟨b1, o1 + k * 3 + 1, none⟩ = some (.int .i64 xs[k].2.1) := (hbel.cell (p := ⟨b1, o1 + k * 3 + 1, none⟩) l1).trans (hc 1 _ rfl)
        have h2 : wt.cell? ⟨b1, o1 + k * 3 + 2, none⟩ = some (.int .i64 xs[k].2.2) := (hbel.cell (p := ⟨b1, o1 + k * 3 + 2, none⟩) l1).trans (hc 2 _ rfl)
        clear hc
        have HT : Hid (0 < k + 1 → tabB xs = true) := fun _ => ht
        by_cases hw : xs[k].1 = n
        · have HN : Hid (noG (xs.take (k + 1)) n = ((xs[k].1, xs[k].2.1, xs[k].2.2), true)) := by show _ = _; rw [noG_at hlt]; unfold noS; rw [if_pos hw]
          rw [hw] at h0 HN
          generalize xs[k].2.1 = y at h1 HN
          generalize xs[k].2.2 = z at h2 HN
          clear hu hr ht hw htb
          have TN := T1.sets [.int .i64 n, .int .i64 y, .int .i64 z] rfl
          have TM := Blk.farS hg.symm [.int .i64 n, .int .i64 y, .int .i64 z] 0 _ T0
          have BN := below_sets (m := w.heap.size) hs1 [.int .i64 n, .int .i64 y, .int .i64 z] 0 _ hbel
          go_wp2_with (first | (refine wpList_stB 31 _ _ (w.heap.size + 1) 0 [.int .i64 o.1, .int .i64 o.2.1, .int .i64 o.2.2] [.int .i64 n, .int .i64 y, .int .i64 z] ie hie T1 (by rw [hsz]; rfl) (by simp) rfl rfl rfl rfl rfl ?_; try simp only [Act.put]) | fail)
          go_roundw
          case rel => exact ⟨k + 1, (n, y, z), true, by omega, by go_num, rfl, HT, HN, TM, TN, BN⟩
          case measure => simp [intOf]; omega
        · have HN : Hid (noG (xs.take (k + 1)) n = (o, b)) := by show _ = _; rw [noG_at hlt]; unfold noS; rw [if_neg hw]; exact hu.out
          have g1 : (xs[k].1 == n) = false := beq_eq_false_iff_ne.2 hw
          generalize xs[k].1 = y at h0 g1
          clear hu hr ht hw htb h1 h2
          go_wp2
          go_roundw
          case rel => exact ⟨k + 1, o, b, by omega, by go_num, rfl, HT, HN, T0, T1, hbel⟩
          case measure => simp [intOf]; omega
    · obtain rfl : k = xs.length := by omega
      have HV : Hid (noT xs n = (o, b)) := by
        by_cases hz : xs.length = 0
        · rw [noT_empty hz]
          have := hu.out
          rw [hz] at this
          exact this
        · exact (noT_ok (htb.out (by omega))).trans hu.out
      clear htb hu hr
      have TN := T0.sets [.int .i64 o.1, .int .i64 o.2.1, .int .i64 o.2.2] rfl
      have BN := below_sets (m := w.heap.size) (Nat.le_refl w.heap.size) [.int .i64 o.1, .int .i64 o.2.1, .int .i64 o.2.2] 0 _ hbel
      go_wp2_with (first | (refine wpList_ldB 31 _ (w.heap.size + 1) 0 [.int .i64 o.1, .int .i64 o.2.1, .int .i64 o.2.2] [.int .i64 o.1, .int .i64 o.2.1, .int .i64 o.2.2] ie hie Try.isAgg31 T1 (by rw [hsz]; rfl) rfl rfl rfl rfl ?_; try simp only [Act.put]) | (refine wpList_stB 31 _ _ w.heap.size 0 [.int .i64 0, .int .i64 0, .int .i64 0] [.int .i64 o.1, .int .i64 o.2.1, .int .i64 o.2.2] ie hie T0 (by rw [hsz]; rfl) (by simp) rfl rfl rfl rfl rfl ?_; try simp only [Act.put]) | fail)
      exact bodyPost_ret (res_B2 rfl _ _ w.heap.size [.int .i64 o.1, .int .i64 o.2.1, .int .i64 o.2.2] (.bool b) ie hie Try.isAgg31 TN (by rw [hsz]; rfl) rfl rfl) rfl ⟨by rw [HV.out], BN⟩
end Go.Proofs.Ytkfjpgkpmdbnoaa
