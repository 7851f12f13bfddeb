/- Tables of keys that are right: the model. -/
import Derived.Test.YtkfjpgkpmdbnoaaTb0
import Derived.Deep.QuietTactic
import Derived.BigQuiet
import Derived.Deep.CutRange
import Derived.Deep.DeepCutAuto
set_option linter.unusedVariables false
set_option maxRecDepth 100000
namespace Go.Proofs.Ytkfjpgkpmdbnoaa
open Go Go.RowKit Go.Joins Own Draw

set_option maxRecDepth 100000 in
set_option maxHeartbeats 6400000 in
theorem specTab_is (a : Option Addr) (cap : Nat) (xs : List TS) (w : World) (hr : FRow 3 cS w a xs) (hl : xs.length ≤ 1048576) :
    Calls Try.prog 16 #[.slice a xs.length cap] w fun e w' => e = .returned (.bool (tabB xs)) ∧ Below w.heap.size w w' := by
  by_cases h20 : xs.length ≤ 20
  · have h21 : ¬ ((20 : Int) < (xs.length : Int)) := by omega
    go_enter Try.func16, Try.ntmps16
    go_wp2
    go_loopw [3] (fun i wr => ∃ k : Nat, k ≤ xs.length ∧ i = .int .i64 k ∧ Hid (∀ j, j < k → slC xs j = true) ∧ Below w.heap.size w wr) (fun i _ => xs.length - (intOf i).toNat)
    case atStart => exact ⟨0, by omega, rfl, fun j hj => absurd hj (by omega), Below.refl _ _⟩
    case round =>
      obtain ⟨k, hk, rfl, hno, hbel⟩ := hrel
      by_cases hlt : k < xs.length
      · obtain ⟨b1, o1, rfl, l1, hc⟩ := hr k hlt
        have h0 : wr.cell? ⟨b1, o1 + k * 3, none⟩ = some (.int .i64 xs[k].1) := (hbel.cell (p := ⟨b1, o1 + k * 3, none⟩) l1).trans (hc 0 _ rfl)
        have h1 : wr.cell? ⟨b1, o1 + k * 3 + 1, none⟩ = some (.int .i64 xs[k].2.1) := (hbel.cell (p := ⟨b1, o1 + k * 3 + 1, none⟩) l1).trans (hc 1 _ rfl)
        have h2 : wr.cell? ⟨b1, o1 + k * 3 + 2, none⟩ = some (.int .i64 xs[k].2.2) := (hbel.cell (p := ⟨b1, o1 + k * 3 + 2, none⟩) l1).trans (hc 2 _ rfl)
        have hlt2 : (k : Int) < (xs.length : Int) := by omega
        have HE : Hid (el xs k = (xs[k].1, xs[k].2.1, xs[k].2.2)) := el_at hlt
        clear hc
        generalize xs[k].1 = x0 at h0 HE
        generalize xs[k].2.1 = x1 at h1 HE
        generalize xs[k].2.2 = x2 at h2 HE
        have T1 : Blk wr.heap.size [.int .i64 x0, .int .i64 x1, .int .i64 x2] (wr.alloc (.cells #[.int .i64 x0, .int .i64 x1, .int .i64 x2] 31)) := Blk.new wr #[.int .i64 x0, .int .i64 x1, .int .i64 x2] 31
        have B1 : Below w.heap.size w (wr.alloc (.cells #[.int .i64 x0, .int .i64 x1, .int .i64 x2] 31)) := hbel.alloc hbel.size _
        obtain ⟨r, HR⟩ : ∃ r : Bool, Hid (slD xs k = !r) := ⟨!slD xs k, by show _ = _; simp⟩
        go_upto_region 7 with fail
        clear h0 h1 h2 hbel
        generalize (wr.alloc (.cells #[.int .i64 x0, .int .i64 x1, .int .i64 x2] 31)) = V at T1 B1 ⊢
        generalize wr.heap.size = g at T1 ⊢
        go_cut [3, 9, 16, 71] (fun s3 s9 s16 s71 wx => s3 = .int .i64 (k : Int) ∧ s71 = .bool r ∧ Blk g [.int .i64 x0, .int .i64 x1, .int .i64 x2] wx ∧ Below w.heap.size w wx)
        case first =>
          clear hno hl
          have d0 := T1.at 0 rfl
          have d1 := T1.at 1 rfl
          have d2 := T1.at 2 rfl
          have A0 := fun w => inq x0 0 99 _ rfl w
          have A1 := fun w => inq x1 1 1000 _ rfl w
          have A2 := fun w => inq x2 1 1000000 _ rfl w
          by_cases c0 : btw x0 0 99 = true
          · rw [c0] at A0
            by_cases c1 : btw x1 1 1000 = true
            · rw [c1] at A1
              by_cases c2 : btw x2 1 1000000 = true
              · rw [c2] at A2
                have SA : Hid (slA (el xs k) = true) := by show _ = _; rw [HE.out]; unfold slA; rw [c0, c1, c2]; rfl
                clear c0 c1 c2
                by_cases hz : k = 0
                · have kz : (k : Int) = 0 := by omega
                  have HS : Hid (slD xs k = true) := slD_z SA.out hz
                  clear SA hr l1
                  rw [kz]
                  replace kz : Hid ((k : Int) = 0) := kz
                  clear hz hlt2
                  obtain rfl : r = false := by
                    have := HR.out
                    rw [HS.out] at this
                    cases r
                    · first | rfl | exact absurd this (by decide)
                    · first | rfl | exact absurd this (by decide)
                  clear HR HE
                  go_big_quiet (first | (go_at_call_of 44 x0; refine Calls.quiet_of_same (A0 _)) | (go_at_call_of 44 x1; refine Calls.quiet_of_same (A1 _)) | (go_at_call_of 44 x2; refine Calls.quiet_of_same (A2 _)))
                  go_wp2
                  go_meet
                  exact ⟨by rw [kz.out], rfl, T1.drewN nq, below_drewN B1 nq⟩
                · obtain ⟨p, hp⟩ : ∃ p, k = p + 1 := ⟨k - 1, by omega⟩
                  have HS0 : Hid (slD xs k = slB (el xs p) (el xs k)) := slD_s SA.out hp
                  obtain ⟨b2, o2, e2, l2, hd⟩ := hr p (by omega)
                  injection e2 with e2
                  injection e2 with e2 e3
                  subst e2 e3
                  have HP : Hid (el xs p = (xs[p].1, xs[p].2.1, xs[p].2.2)) := el_at (by omega)
                  have f0 : V.cell? ⟨b1, o1 + p * 3, none⟩ = some (.int .i64 xs[p].1) := (B1.cell (p := ⟨b1, o1 + p * 3, none⟩) l1).trans (hd 0 _ rfl)
                  have f1 : V.cell? ⟨b1, o1 + p * 3 + 1, none⟩ = some (.int .i64 xs[p].2.1) := (B1.cell (p := ⟨b1, o1 + p * 3 + 1, none⟩) l1).trans (hd 1 _ rfl)
                  generalize xs[p].1 = y0 at f0 HP
                  generalize xs[p].2.1 = y1 at f1 HP
                  have kp : (k : Int) = (p : Int) + 1 := by omega
                  have hpl : (p : Int) < (xs.length : Int) := by omega
                  have hpz : (0 : Int) < (p : Int) + 1 := by omega
                  have hps : (p : Int) + 1 - 1 = (p : Int) := by omega
                  have hpn : ¬ ((p : Int) < 0) := by omega
                  clear SA hr l1 l2 hd
                  rw [kp]
                  replace kp : Hid ((k : Int) = (p : Int) + 1) := kp
                  clear hz hlt2
                  replace hp : Hid (k = p + 1) := hp
                  by_cases g0 : x0 < y0
                  · have HS : Hid (slD xs k = false) := by show _ = _; rw [HS0.out, HP.out, HE.out]; unfold slB; rw [decide_eq_true g0]; rfl
                    clear HS0 HP
                    obtain rfl : r = true := by
                      have := HR.out
                      rw [HS.out] at this
                      cases r
                      · first | rfl | exact absurd this (by decide)
                      · first | rfl | exact absurd this (by decide)
                    clear HR HE
                    go_big_quiet (first | (go_at_call_of 44 x0; refine Calls.quiet_of_same (A0 _)) | (go_at_call_of 44 x1; refine Calls.quiet_of_same (A1 _)) | (go_at_call_of 44 x2; refine Calls.quiet_of_same (A2 _)))
                    go_wp2
                    go_meet
                    exact ⟨by rw [kp.out], rfl, T1.drewN nq, below_drewN B1 nq⟩
                  · by_cases g1 : y0 = x0
                    · replace g1 := g1.symm
                      subst g1
                      by_cases g2 : x1 ≤ y1
                      · have HS : Hid (slD xs k = false) := by show _ = _; rw [HS0.out, HP.out, HE.out]; unfold slB; rw [decide_eq_true g2]; simp
                        clear HS0 HP
                        obtain rfl : r = true := by
                          have := HR.out
                          rw [HS.out] at this
                          cases r
                          · first | rfl | exact absurd this (by decide)
                          · first | rfl | exact absurd this (by decide)
                        clear HR HE
                        go_big_quiet (first | (go_at_call_of 44 x0; refine Calls.quiet_of_same (A0 _)) | (go_at_call_of 44 x1; refine Calls.quiet_of_same (A1 _)) | (go_at_call_of 44 x2; refine Calls.quiet_of_same (A2 _)))
                        go_wp2
                        go_meet
                        exact ⟨by rw [kp.out], rfl, T1.drewN nq, below_drewN B1 nq⟩
                      · have HS : Hid (slD xs k = true) := by show _ = _; rw [HS0.out, HP.out, HE.out]; unfold slB; rw [decide_eq_false g2]; simp
                        clear HS0 HP
                        obtain rfl : r = false := by
                          have := HR.out
                          rw [HS.out] at this
                          cases r
                          · first | rfl | exact absurd this (by decide)
                          · first | rfl | exact absurd this (by decide)
                        clear HR HE
                        go_big_quiet (first | (go_at_call_of 44 x0; refine Calls.quiet_of_same (A0 _)) | (go_at_call_of 44 x1; refine Calls.quiet_of_same (A1 _)) | (go_at_call_of 44 x2; refine Calls.quiet_of_same (A2 _)))
                        go_wp2
                        go_meet
                        exact ⟨by rw [kp.out], rfl, T1.drewN nq, below_drewN B1 nq⟩
                    · have HS : Hid (slD xs k = true) := by show _ = _; rw [HS0.out, HP.out, HE.out]; unfold slB; rw [decide_eq_false g0, show (y0 == x0) = false from beq_eq_false_iff_ne.2 g1]; rfl
                      have g3 : (y0 == x0) = false := beq_eq_false_iff_ne.2 g1
                      clear HS0 HP
                      obtain rfl : r = false := by
                        have := HR.out
                        rw [HS.out] at this
                        cases r
                        · first | rfl | exact absurd this (by decide)
                        · first | rfl | exact absurd this (by decide)
                      clear HR HE
                      go_big_quiet (first | (go_at_call_of 44 x0; refine Calls.quiet_of_same (A0 _)) | (go_at_call_of 44 x1; refine Calls.quiet_of_same (A1 _)) | (go_at_call_of 44 x2; refine Calls.quiet_of_same (A2 _)))
                      go_wp2
                      go_meet
                      exact ⟨by rw [kp.out], rfl, T1.drewN nq, below_drewN B1 nq⟩
              · rw [Bool.not_eq_true] at c2
                rw [c2] at A2
                have HS : Hid (slD xs k = false) := slD_a (by rw [HE.out]; unfold slA; rw [c2]; simp)
                clear c0 c1 c2 hr
                obtain rfl : r = true := by
                  have := HR.out
                  rw [HS.out] at this
                  cases r
                  · first | rfl | exact absurd this (by decide)
                  · first | rfl | exact absurd this (by decide)
                clear HR HE
                go_big_quiet (first | (go_at_call_of 44 x0; refine Calls.quiet_of_same (A0 _)) | (go_at_call_of 44 x1; refine Calls.quiet_of_same (A1 _)) | (go_at_call_of 44 x2; refine Calls.quiet_of_same (A2 _)))
                go_wp2
                go_meet
                exact ⟨rfl, rfl, T1.drewN nq, below_drewN B1 nq⟩
            · rw [Bool.not_eq_true] at c1
              rw [c1] at A1
              have HS : Hid (slD xs k = false) := slD_a (by rw [HE.out]; unfold slA; rw [c1]; simp)
              clear c0 c1 hr
              obtain rfl : r = true := by
                have := HR.out
                rw [HS.out] at this
                cases r
                · first | rfl | exact absurd this (by decide)
                · first | rfl | exact absurd this (by decide)
              clear HR HE
              go_big_quiet (first | (go_at_call_of 44 x0; refine Calls.quiet_of_same (A0 _)) | (go_at_call_of 44 x1; refine Calls.quiet_of_same (A1 _)) | (go_at_call_of 44 x2; refine Calls.quiet_of_same (A2 _)))
              go_wp2
              go_meet
              exact ⟨rfl, rfl, T1.drewN nq, below_drewN B1 nq⟩
          · rw [Bool.not_eq_true] at c0
            rw [c0] at A0
            have HS : Hid (slD xs k = false) := slD_a (by rw [HE.out]; unfold slA; rw [c0]; simp)
            clear c0 hr
            obtain rfl : r = true := by
              have := HR.out
              rw [HS.out] at this
              cases r
              · first | rfl | exact absurd this (by decide)
              · first | rfl | exact absurd this (by decide)
            clear HR HE
            go_big_quiet (first | (go_at_call_of 44 x0; refine Calls.quiet_of_same (A0 _)) | (go_at_call_of 44 x1; refine Calls.quiet_of_same (A1 _)) | (go_at_call_of 44 x2; refine Calls.quiet_of_same (A2 _)))
            go_wp2
            go_meet
            exact ⟨rfl, rfl, T1.drewN nq, below_drewN B1 nq⟩
        case rest =>
          clear T1 B1
          obtain ⟨rfl, rfl, T1, B1⟩ := hcut
          cases r with
          | true =>
            have HV : Hid (tabB xs = false) := tabB_not hlt (slC_d HR.out)
            clear hno hr
            go_wp2
            go_ret
            exact ⟨by rw [HV.out]; rfl, B1⟩
          | false =>
            have HD : Hid (slD xs k = true) := HR.out
            have HK : Hid ((el xs k).2.2 = x2) := by show _ = _; rw [HE.out]
            clear HR HE
            go_wp2
            go_loopw [5] (fun ii wj => ∃ j : Nat, j ≤ k ∧ ii = .int .i64 j ∧ Hid (∀ q, q < j → ¬ (el xs q).2.2 = x2) ∧ Blk g [.int .i64 x0, .int .i64 x1, .int .i64 x2] wj ∧ Below w.heap.size w wj) (fun ii _ => k - (intOf ii).toNat)
            case atStart => exact ⟨0, by omega, rfl, fun q hq => absurd hq (by omega), T1, B1⟩
            case round =>
              clear T1 B1
              obtain ⟨j, hj, rfl, hnk, T1, B1⟩ := hrel
              by_cases hjl : j < k
              · obtain ⟨b2, o2, e2, l2, hd⟩ := hr j (by omega)
                injection e2 with e2
                injection e2 with e2 e3
                subst e2 e3
                have f2 : wr.cell? ⟨b1, o1 + j * 3 + 2, none⟩ = some (.int .i64 xs[j].2.2) := (B1.cell (p := ⟨b1, o1 + j * 3 + 2, none⟩) l1).trans (hd 2 _ rfl)
                have d2 := T1.at 2 rfl
                have HJ : Hid ((el xs j).2.2 = xs[j].2.2) := by show _ = _; rw [el_at]
                have hj2 : (j : Int) < (k : Int) := by omega
                have hj3 : (j : Int) < (xs.length : Int) := by omega
                clear hd l2
                generalize xs[j].2.2 = z at f2 HJ
                by_cases hz : z = x2
                · subst hz
                  have HV : Hid (tabB xs = false) := tabB_not hlt (slC_k hjl (by rw [HJ.out, HK.out]))
                  clear hno hr hnk HJ HK HD
                  go_wp2_with fail
                  go_big_quiet (fail)
                  go_wp2
                  go_ret
                  exact ⟨by rw [HV.out]; rfl, below_drewN B1 nq⟩
                · have hz2 : (z == x2) = false := beq_eq_false_iff_ne.2 hz
                  have HN : Hid (∀ q, q < j + 1 → ¬ (el xs q).2.2 = x2) := fun q hq => by
                    by_cases e : q = j
                    · subst e; rw [HJ.out]; exact hz
                    · exact hnk.out q (by omega)
                  clear hr hnk HJ
                  go_wp2_with fail
                  go_big_quiet (fail)
                  go_wp2
                  go_roundw
                  case rel => exact ⟨j + 1, by omega, by go_num, HN, T1.drewN nq, below_drewN B1 nq⟩
                  case measure => simp [intOf]; omega
              · obtain rfl : j = k := by omega
                have HN : Hid (∀ q, q < j + 1 → slC xs q = true) := fun q hq => by
                  by_cases e : q = j
                  · subst e; exact slC_yes HD.out (fun i hi => by rw [HK.out]; exact hnk.out i hi)
                  · exact hno.out q (by omega)
                clear hno hnk HD HK hr
                go_wp2
                go_roundw
                case rel => exact ⟨j + 1, by omega, by go_num, HN, B1⟩
                case measure => simp [intOf]; omega
      · obtain rfl : k = xs.length := by omega
        have HV : Hid (tabB xs = true) := tabB_yes h20 hno.out
        go_wp2
        go_ret
        exact ⟨by rw [HV.out]; rfl, hbel⟩
  · have h21 : ((20 : Int) < (xs.length : Int)) := by omega
    have HV : Hid (tabB xs = false) := tabB_many h20
    go_enter Try.func16, Try.ntmps16
    go_wp2
    go_ret
    exact ⟨by rw [HV.out]; rfl, Below.refl _ _⟩
end Go.Proofs.Ytkfjpgkpmdbnoaa
