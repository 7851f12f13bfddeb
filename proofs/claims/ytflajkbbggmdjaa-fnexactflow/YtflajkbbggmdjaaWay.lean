/- The law on ways, step by step. -/
import Derived.Test.YtflajkbbggmdjaaHop
set_option linter.unusedVariables false
namespace Go.Proofs.Ytflajkbbggmdjaa
open Go Go.RowKit Draw Own

theorem nh_cases (c : Cf) (a b : Int) : (nhV c a b = -1 ∧ (confB c = true → a ≠ b → (a, b) ∉ c.L)) ∨ (∃ r : Nat, nhV c a b = (r : Int) ∧ (a, (r : Int)) ∈ c.L ∧ ((r : Int) = b ∨ nhV c (r : Int) b = b)) := by
  by_cases hc : confB c = true
  · obtain ⟨hin, _, hd⟩ := conf_links hc
    by_cases hab : (0 ≤ a ∧ a ≤ 2) ∧ (0 ≤ b ∧ b ≤ 2)
    · obtain ⟨f, rfl⟩ : ∃ f : Nat, a = (f : Int) := ⟨a.toNat, by omega⟩
      obtain ⟨t, rfl⟩ : ∃ t : Nat, b = (t : Int) := ⟨b.toNat, by omega⟩
      have hf : f < 3 := by omega
      have ht : t < 3 := by omega
      rw [nhV_in c f t hc hf ht]
      rcases hop_way hd hf ht with ⟨h1, h2⟩ | ⟨q, hq, h1, h2, h3⟩
      · left
        refine ⟨h1, fun _ hn hm => ?_⟩
        have := h2 (fun e => hn (by rw [e]))
        unfold lkH at this
        exact of_decide_eq_false this hm
      · right
        refine ⟨q, h1, of_decide_eq_true h2, ?_⟩
        rcases h3 with h3 | h3
        · left; rw [h3]
        · right; rw [nhV_in c q t hc hq ht]; exact h3
    · left
      refine ⟨?_, fun _ _ hm => hab (hin _ hm)⟩
      unfold nhV
      have : (btw a 0 2 && btw b 0 2) = false := by
        rw [Bool.and_eq_false_iff]
        by_cases h1 : 0 ≤ a ∧ a ≤ 2
        · right
          cases hb : btw b 0 2 with
          | false => rfl
          | true => exact absurd ⟨h1, (btw_iff _ _ _).1 hb⟩ hab
        · left
          cases hb : btw a 0 2 with
          | false => rfl
          | true => exact absurd ((btw_iff _ _ _).1 hb) h1
      rw [this]; simp
  · left
    refine ⟨?_, fun h => absurd h hc⟩
    unfold nhV
    rw [Bool.not_eq_true] at hc
    rw [hc]; rfl
end Go.Proofs.Ytflajkbbggmdjaa
