/- What is stricter, as plain data. -/
import Derived.Test.YtjbbhegijlnndaaSm0
set_option linter.unusedVariables false
set_option maxRecDepth 100000
namespace Go.Proofs.Ytjbbhegijlnndaa.Nd
open Go Go.RowKit Go.Joins Own Draw Go.Proofs.Ytjbbhegijlnndaa

def notP (p : PT) : Bool := if p.1 = 1 ∨ p.1 = 2 then decide (p.2.1.length = 0) else if p.1 = 5 then decide (p.2.2 = 0) else false
def condK (k : Int) (x y : PT × Bool) : Bool := if k = 1 ∨ k = 2 then x.2 && x.1.2.1.all (fun n => y.1.2.1.contains n) else if k = 3 then y.1.2.1.all (fun n => x.1.2.1.contains n) else x.2 && decide (x.1.2.2 ≤ y.1.2.2)
def nothK (a : List PT) : Nat → Bool
  | 0 => false
  | i + 1 => nothK a i || ((ofK ((i : Int) + 1) a).2 && notP (ofK ((i : Int) + 1) a).1)
def allK (a b : List PT) : Nat → Bool
  | 0 => true
  | i + 1 => allK a b i && (!(ofK ((i : Int) + 1) b).2 || condK ((i : Int) + 1) (ofK ((i : Int) + 1) a) (ofK ((i : Int) + 1) b))
def strP (a b : List PT) : Bool := okL a && (okL b && (nothK a 5 || allK a b 5))
/-- Do rules in their short form ask what a rule asks. -/
def asksP (own : List PT) (r : PT) : Bool := condK r.1 (ofK r.1 own) (r, true)
theorem any_nrm (f : PT → Bool) (l : List PT) : ∀ i, (nrmK l i).any f = ((List.range i).any fun j => (ofK ((j : Int) + 1) l).2 && f (ofK ((j : Int) + 1) l).1)
  | 0 => rfl
  | i + 1 => by
    unfold nrmK
    rw [List.any_append, any_nrm f l i, List.range_succ, List.any_append]
    congr 1
    cases h : (ofK ((i : Int) + 1) l).2 <;> simp [h]
theorem all_nrm (f : PT → Bool) (l : List PT) : ∀ i, (nrmK l i).all f = ((List.range i).all fun j => !(ofK ((j : Int) + 1) l).2 || f (ofK ((j : Int) + 1) l).1)
  | 0 => rfl
  | i + 1 => by
    unfold nrmK
    rw [List.all_append, all_nrm f l i, List.range_succ, List.all_append]
    congr 1
    cases h : (ofK ((i : Int) + 1) l).2 <;> simp [h]
theorem noth_any (a : List PT) : ∀ i, nothK a i = (nrmK a i).any notP
  | 0 => rfl
  | i + 1 => by
    rw [any_nrm, List.range_succ, List.any_append, ← any_nrm, ← noth_any a i]
    have e : nothK a (i + 1) = (nothK a i || ((ofK ((i : Int) + 1) a).2 && notP (ofK ((i : Int) + 1) a).1)) := rfl
    rw [e]
    simp
/-- One of a kind in the short form is what the rules of the kind come to. -/
theorem ofK_app_ne (k : Int) (l : List PT) (p : PT) (h : p.1 ≠ k) : ofK k (l ++ [p]) = ofK k l := by rw [ofK_snoc]; unfold stepK; rw [if_neg h]
theorem ofK_nrm {a : List PT} (h : okL a = true) (k : Nat) (hk : 1 ≤ k) : ∀ i, ofK (k : Int) (nrmK a i) = if k ≤ i then ofK (k : Int) a else ((0, [], 0), false)
  | 0 => by rw [if_neg (by omega)]; rfl
  | i + 1 => by
    have hacc := ofK_ok ((i : Int) + 1) _ a rfl (okL_mem h).2
    have ih := ofK_nrm h k hk i
    unfold nrmK
    by_cases e : (ofK ((i : Int) + 1) a).2 = true
    · rw [if_pos e]
      unfold AccOk at hacc
      rw [if_pos e] at hacc
      by_cases hki : k = i + 1
      · subst hki
        have e2 : (((i + 1 : Nat)) : Int) = (i : Int) + 1 := by omega
        rw [ofK_snoc, ih, if_neg (by omega), if_pos (Nat.le_refl _), e2]
        unfold stepK
        rw [if_pos hacc.2]
        show (if false = true then _ else _) = _
        rw [if_neg (fun c => by cases c)]
        exact Prod.ext rfl e.symm
      · rw [ofK_app_ne _ _ _ (by rw [hacc.2]; omega), ih]
        by_cases hk2 : k ≤ i
        · rw [if_pos hk2, if_pos (by omega)]
        · rw [if_neg hk2, if_neg (by omega)]
    · rw [if_neg e, List.append_nil, ih]
      by_cases hki : k = i + 1
      · subst hki
        have e2 : (((i + 1 : Nat)) : Int) = (i : Int) + 1 := by omega
        rw [if_neg (by omega), if_pos (Nat.le_refl _), e2]
        unfold AccOk at hacc
        rw [if_neg e] at hacc
        rw [Bool.not_eq_true] at e
        exact Prod.ext hacc.symm e.symm
      · by_cases hk2 : k ≤ i
        · rw [if_pos hk2, if_pos (by omega)]
        · rw [if_neg hk2, if_neg (by omega)]
theorem cond_true (k : Int) (x y : PT × Bool) : condK k x y = condK k x (y.1, true) := rfl
theorem all_all {a b : List PT} (ha : okL a = true) (hb : okL b = true) : ∀ i, i ≤ 5 → allK a b i = (nrmK b i).all (asksP (nrmP a))
  | 0, _ => rfl
  | i + 1, hi => by
    rw [all_nrm, List.range_succ, List.all_append, ← all_nrm, ← all_all ha hb i (by omega)]
    have hacc := ofK_ok ((i : Int) + 1) _ b rfl (okL_mem hb).2
    have e1 : ofK ((i : Int) + 1) (nrmP a) = ofK ((i : Int) + 1) a := by
      unfold nrmP
      rw [if_pos ha]
      have := ofK_nrm ha (i + 1) (by omega) 5
      rw [if_pos hi] at this
      have e2 : (((i + 1 : Nat)) : Int) = (i : Int) + 1 := by omega
      rw [e2] at this
      exact this
    have e : allK a b (i + 1) = (allK a b i && (!(ofK ((i : Int) + 1) b).2 || condK ((i : Int) + 1) (ofK ((i : Int) + 1) a) (ofK ((i : Int) + 1) b))) := rfl
    rw [e]
    congr 1
    rw [List.all_cons, List.all_nil, Bool.and_true]
    cases hf : (ofK ((i : Int) + 1) b).2 with
    | false => rfl
    | true =>
      unfold AccOk at hacc
      rw [if_pos hf] at hacc
      rw [Bool.not_true, Bool.false_or, Bool.false_or]
      unfold asksP
      rw [hacc.2, e1, cond_true]
theorem str_impl (a b : List PT) : strP a b = (okL a && (okL b && ((nrmP a).any notP || (nrmP b).all (asksP (nrmP a))))) := by
  unfold strP
  cases ha : okL a with
  | false => rfl
  | true =>
    cases hb : okL b with
    | false => rfl
    | true =>
      rw [all_all ha hb 5 (Nat.le_refl _), noth_any]
      unfold nrmP
      rw [if_pos ha, if_pos hb]
theorem nrm_ok (a : List PT) : okL (nrmP a) = true := by
  have h := nrm_small a
  unfold okL
  rw [Bool.and_eq_true]
  exact ⟨decide_eq_true (by omega), List.all_eq_true.2 h.2⟩
theorem all_cong {xs L ys : List Int} (h : ∀ x, x ∈ L ↔ x ∈ xs) : ys.all (fun y => L.contains y) = ys.all (fun y => xs.contains y) := by
  congr 1
  funext y
  rw [Bool.eq_iff_iff, List.contains_iff_mem, List.contains_iff_mem, h]
theorem acc_rise {k : Int} {f : PT × Bool} (h : AccOk k f) : riB (-1) f.1.2.1 = true := by
  unfold AccOk at h
  by_cases e : f.2 = true
  · rw [if_pos e] at h
    exact okP_set h.1
  · rw [if_neg e] at h
    rw [h]; rfl
end Go.Proofs.Ytjbbhegijlnndaa.Nd
