/- TabOk of the program. -/
import Derived.Test.YtkfjpgkpmdbnoaaAl
import Derived.Test.YtkfjpgkpmdbnoaaSk0
set_option linter.unusedVariables false
set_option maxRecDepth 100000
namespace Go.Proofs.Ytkfjpgkpmdbnoaa
open Go Go.RowKit Go.Joins Own Draw

theorem wf_key {p : TS} (h : slA p = true) : (Lit.int .i64 p.2.2).wf = true := by
  unfold slA btw at h
  simp only [Bool.and_eq_true, decide_eq_true_eq] at h
  simp [Lit.wf, IntKind.min, IntKind.max, IntKind.signed, IntKind.bits]
  omega
set_option maxHeartbeats 6400000 in
theorem implTab_is (a : Option Addr) (cap : Nat) (xs : List TS) (w : World) (hr : FRow 3 cS w a xs) (hl : xs.length ≤ 1048576) :
    Calls Try.prog 29 #[.slice a xs.length cap] w fun e w' => e = .returned (.bool (tabB xs)) ∧ Below w.heap.size w w' := by
  have hE := fun b hb => tab_same xs b hb
  generalize tabB xs = ans at hE ⊢
  by_cases h20 : xs.length ≤ 20
  · have h21 : (xs.length : Int) ≤ 20 := by omega
    have K1 := allRight_is a cap xs w hr hl
    by_cases ha : xs.all slA = true
    · by_cases hi : riS xs = true
      · have hwf : ∀ p ∈ xs, (Lit.int .i64 p.2.2).wf = true := fun p hp => wf_key (List.all_eq_true.1 ha p hp)
        have HE : Hid (∀ b : Bool, (b = true ↔ (xs.map (·.2.2)).Nodup) → ans = b) := fun b hb => by
          have := hE b hb
          rwa [decide_eq_true h20, ha, hi] at this
        rw [ha] at K1
        clear hE ha
        go_enter Try.func29, Try.ntmps29
        go_wp2_with fail
        refine K1.mono ?_
        clear K1
        rintro en w1 ⟨rfl, B1⟩
        have K2 := rise_is a cap xs w1 (hr.later B1) hl
        rw [hi] at K2
        clear hi
        go_wp2_with fail
        refine K2.mono ?_
        clear K2
        rintro en w2 ⟨rfl, B2⟩
        have BB := B1.trans (B2.mono B1.size)
        clear B1 B2
        have K3 := keysOf_is a cap xs w2 (hr.later BB) hl hwf
        go_wp2_with fail
        refine K3.mono ?_
        clear K3
        rintro en w3 ⟨g, rfl, hS, B3⟩
        replace BB := BB.trans (B3.mono BB.size)
        have l1 := World.ownsMap.len hS Try.underlying81 3
        have nd := DS_nodup (xs.map (·.2.2))
        rw [List.length_map] at nd
        generalize Maps.size (DS (H := Value) (xs.map (·.2.2))) = q at l1 nd
        by_cases c : q = xs.length
        · have HV : Hid (ans = true) := HE.out true ⟨fun _ => nd.1 c, fun _ => rfl⟩
          have e1 : ((q : Int) == (xs.length : Int)) = true := by rw [c]; exact beq_self_eq_true _
          clear HE nd hS B3 hr hwf c
          go_wp2
          go_ret
          exact ⟨by first | (rw [HV.out]; rfl) | rw [HV.out], BB⟩
        · have HV : Hid (ans = false) := HE.out false ⟨fun h => (by cases h), fun h => absurd (nd.2 h) c⟩
          have e1 : ((q : Int) == (xs.length : Int)) = false := beq_eq_false_iff_ne.2 (by omega)
          clear HE nd hS B3 hr hwf c
          go_wp2
          go_ret
          exact ⟨by first | (rw [HV.out]; rfl) | rw [HV.out], BB⟩
      · rw [Bool.not_eq_true] at hi
        have HV : Hid (ans = false) := by show _ = _; rw [hE (decide ((xs.map (·.2.2)).Nodup)) (decide_eq_true_iff), hi]; simp
        rw [ha] at K1
        clear hE ha
        go_enter Try.func29, Try.ntmps29
        go_wp2_with fail
        refine K1.mono ?_
        clear K1
        rintro en w1 ⟨rfl, B1⟩
        have K2 := rise_is a cap xs w1 (hr.later B1) hl
        rw [hi] at K2
        clear hi
        go_wp2_with fail
        refine K2.mono ?_
        clear K2
        rintro en w2 ⟨rfl, B2⟩
        have BB := B1.trans (B2.mono B1.size)
        clear B1 B2 hr
        go_wp2
        go_ret
        exact ⟨by first | (rw [HV.out]; rfl) | rw [HV.out], BB⟩
    · rw [Bool.not_eq_true] at ha
      have HV : Hid (ans = false) := by show _ = _; rw [hE (decide ((xs.map (·.2.2)).Nodup)) (decide_eq_true_iff), ha]; simp
      rw [ha] at K1
      clear hE ha
      go_enter Try.func29, Try.ntmps29
      go_wp2_with fail
      refine K1.mono ?_
      clear K1
      rintro en w1 ⟨rfl, B1⟩
      clear hr
      go_wp2
      go_ret
      exact ⟨by first | (rw [HV.out]; rfl) | rw [HV.out], B1⟩
  · have HV : Hid (ans = false) := by show _ = _; rw [hE (decide ((xs.map (·.2.2)).Nodup)) (decide_eq_true_iff), decide_eq_false h20]; rfl
    have h21 : ¬ ((xs.length : Int) ≤ 20) := by omega
    clear hE hr
    go_enter Try.func29, Try.ntmps29
    go_wp2
    go_ret
    exact ⟨by first | (rw [HV.out]; rfl) | rw [HV.out], Below.refl _ _⟩
end Go.Proofs.Ytkfjpgkpmdbnoaa
