/- What is found in a table: the model. -/
import Derived.Test.YtkfjpgkpmdbnoaaTb1
import Derived.Test.YtkfjpgkpmdbnoaaTf0
set_option linter.unusedVariables false
set_option maxRecDepth 100000
namespace Go.Proofs.Ytkfjpgkpmdbnoaa
open Go Go.RowKit Go.Joins Own Draw

set_option maxRecDepth 100000 in
set_option maxHeartbeats 3200000 in
theorem specFindT_is (a : Option Addr) (cap : Nat) (xs : List TS) (n v : Int) (w : World) (hr : FRow 3 cS w a xs) (hl : xs.length ≤ 1048576) :
    Calls Try.prog 34 #[.slice a xs.length cap, .int .i64 n, .int .i64 v] w fun e w' => e = .returned (.tuple #[.int .i64 (fiT xs n v).1, .bool (fiT xs n v).2]) ∧ Below w.heap.size w w' := by
  go_enter Try.func34, Try.ntmps34
  go_wp2
  go_loopw [8] (fun i wr => ∃ k : Nat, k ≤ xs.length ∧ i = .int .i64 k ∧ Hid (0 < k → tabB xs = true) ∧ Hid (∀ j (h : j < xs.length), j < k → ¬ (xs[j].1 = n ∧ xs[j].2.1 = v)) ∧ Below w.heap.size w wr) (fun i _ => xs.length - (intOf i).toNat)
  case atStart => exact ⟨0, by omega, rfl, fun h => absurd h (by omega), fun j h hj => absurd hj (by omega), Below.refl _ _⟩
  case round =>
    obtain ⟨k, hk, rfl, htb, hno, hbel⟩ := hrel
    by_cases hlt : k < xs.length
    · have hlt2 : (k : Int) < (xs.length : Int) := by omega
      go_wp2_with fail
      have K := specTab_is a cap xs wr (hr.later hbel) hl
      refine K.mono ?_
      clear K htb
      rintro en wt ⟨rfl, bt⟩
      replace hbel := hbel.trans (bt.mono hbel.size)
      clear bt
      cases ht : tabB xs with
      | false =>
        have HV : Hid (fiT xs n v = (0, false)) := fiT_bad ht
        clear hno hr ht
        go_wp2
        go_ret2
        exact ⟨by rw [HV.out]; try rfl, hbel⟩
      | true =>
        obtain ⟨b1, o1, rfl, l1, hc⟩ := hr k hlt
        have h0 : wt.cell? ⟨b1, o1 + k * 3, none⟩ = some (.int .i64 xs[k].1) := (hbel.cell (p := ⟨b1, o1 + k * 3, none⟩) l1).trans (hc 0 _ rfl)
        have h1 : wt.cell? ⟨b1, o1 + k * 3 + 1, none⟩ = some (.int .i64 xs[k].2.1) := (hbel.cell (p := ⟨b1, o1 + k * 3 + 1, none⟩) l1).trans (hc 1 _ rfl)
        have h2 : wt.cell? ⟨b1, o1 + k * 3 + 2, none⟩ = some (.int .i64 xs[k].2.2) := (hbel.cell (p := ⟨b1, o1 + k * 3 + 2, none⟩) l1).trans (hc 2 _ rfl)
        clear hc
        by_cases hw : xs[k].1 = n
        · by_cases hv : xs[k].2.1 = v
          · have HV : Hid (fiT xs n v = (xs[k].2.2, true)) := (fiT_ok ht).trans (fiG_at hlt ⟨hw, hv⟩ fun j h hj => hno.out j h hj)
            rw [hw] at h0
            rw [hv] at h1
            generalize xs[k].2.2 = z at h2 HV
            clear hno hr ht hw hv
            go_wp2
            go_ret2
            exact ⟨by rw [HV.out]; try rfl, hbel⟩
          · have HN : Hid (∀ j (h : j < xs.length), j < k + 1 → ¬ (xs[j].1 = n ∧ xs[j].2.1 = v)) := fun j h hj => by
              by_cases e : j = k
              · subst e; exact fun q => hv q.2
              · exact hno.out j h (by omega)
            have HT : Hid (0 < k + 1 → tabB xs = true) := fun _ => ht
            rw [hw] at h0
            have g2 : (xs[k].2.1 == v) = false := beq_eq_false_iff_ne.2 hv
            generalize xs[k].2.1 = y at h1 g2
            clear hno hr ht hw hv
            go_wp2
            go_roundw
            case rel => exact ⟨k + 1, by omega, by go_num, HT, HN, hbel⟩
            case measure => simp [intOf]; omega
        · have HN : Hid (∀ j (h : j < xs.length), j < k + 1 → ¬ (xs[j].1 = n ∧ xs[j].2.1 = v)) := fun j h hj => by
            by_cases e : j = k
            · subst e; exact fun q => hw q.1
            · exact hno.out j h (by omega)
          have HT : Hid (0 < k + 1 → tabB xs = true) := fun _ => ht
          have g1 : (xs[k].1 == n) = false := beq_eq_false_iff_ne.2 hw
          generalize xs[k].1 = y at h0 g1
          clear hno hr ht hw
          go_wp2
          go_roundw
          case rel => exact ⟨k + 1, by omega, by go_num, HT, HN, hbel⟩
          case measure => simp [intOf]; omega
    · obtain rfl : k = xs.length := by omega
      have HV : Hid (fiT xs n v = (0, false)) := by
        by_cases hz : xs.length = 0
        · exact fiT_empty hz
        · exact (fiT_ok (htb.out (by omega))).trans (fiG_none fun j h => hno.out j h h)
      clear hno hr
      go_wp2
      go_ret2
      exact ⟨by rw [HV.out]; try rfl, hbel⟩
end Go.Proofs.Ytkfjpgkpmdbnoaa
