/- What the short form of rules allows, what is stricter. -/
import Derived.Test.YtjbbhegijlnndaaSt0
import Derived.Test.YtjbbhegijlnndaaRu3
set_option linter.unusedVariables false
set_option maxRecDepth 100000
namespace Go.Proofs.Ytjbbhegijlnndaa.Nd
open Go Go.RowKit Go.Joins Own Draw Go.Proofs.Ytjbbhegijlnndaa

theorem on1 (xs : List Int) (n : Int) (q : PA) : onP (1, xs, n) q = xs.contains q.1 := rfl
theorem on2 (xs : List Int) (n : Int) (q : PA) : onP (2, xs, n) q = xs.contains q.2.1 := rfl
theorem on3 (xs : List Int) (n : Int) (q : PA) : onP (3, xs, n) q = xs.all (fun g => q.2.2.1.contains g) := rfl
theorem on4 (xs : List Int) (n : Int) (q : PA) : onP (4, xs, n) q = decide (q.2.2.2.1 ≤ n) := rfl
theorem on5 (xs : List Int) (n : Int) (q : PA) : onP (5, xs, n) q = decide (q.2.2.2.2 < n) := rfl
theorem kind_of {p : PT} (h : okP p = true) : 1 ≤ p.1 ∧ p.1 ≤ 5 := by
  by_cases h4 : 4 ≤ p.1
  · have := (okP_high h h4).1
    omega
  · have := (okP_low h h4).1
    omega
theorem join_on {p r : PT} {q : PA} (hp : okP p = true) (hr : okP r = true) (he : r.1 = p.1) : onP (joinP p r) q = (onP p q && onP r q) := by
  obtain ⟨k, xs, n⟩ := p
  obtain ⟨k2, ys, m⟩ := r
  obtain rfl : k2 = k := he
  by_cases h4 : 4 ≤ k2
  · have h5 : k2 ≤ 5 := (okP_high hp h4).1
    have ej : joinP (k2, xs, n) (k2, ys, m) = (k2, [], min n m) := by unfold joinP; rw [if_pos h4]
    rw [ej, Bool.eq_iff_iff, Bool.and_eq_true]
    obtain rfl | rfl : k2 = 4 ∨ k2 = 5 := by omega
    · rw [on4, on4, on4, decide_eq_true_eq, decide_eq_true_eq, decide_eq_true_eq]
      omega
    · rw [on5, on5, on5, decide_eq_true_eq, decide_eq_true_eq, decide_eq_true_eq]
      omega
  · obtain ⟨h13, _, hx⟩ := okP_low hp h4
    obtain ⟨_, _, hy⟩ := okP_low hr h4
    have rx := ri_mem (show riB (-1) xs = true from hx)
    have ry := ri_mem (show riB (-1) ys = true from hy)
    have HM := mem_metP k2 xs ys
    have ej : joinP (k2, xs, n) (k2, ys, m) = (k2, metP k2 xs ys, 0) := by unfold joinP; rw [if_neg h4]
    dsimp only at h13
    rw [ej, Bool.eq_iff_iff, Bool.and_eq_true]
    obtain rfl | rfl | rfl : k2 = 1 ∨ k2 = 2 ∨ k2 = 3 := by omega
    · rw [on1, on1, on1, List.contains_iff_mem, List.contains_iff_mem, List.contains_iff_mem, HM]
      exact ⟨fun h => h.2.elim id (fun c => absurd c.1 (by decide)), fun h => ⟨rx _ h.1, Or.inl h⟩⟩
    · rw [on2, on2, on2, List.contains_iff_mem, List.contains_iff_mem, List.contains_iff_mem, HM]
      exact ⟨fun h => h.2.elim id (fun c => absurd c.1 (by decide)), fun h => ⟨rx _ h.1, Or.inl h⟩⟩
    · rw [on3, on3, on3, List.all_eq_true, List.all_eq_true, List.all_eq_true]
      refine ⟨fun h => ⟨fun x hx => h x ((HM x).2 ⟨rx x hx, Or.inr ⟨rfl, Or.inl hx⟩⟩), fun x hx => h x ((HM x).2 ⟨ry x hx, Or.inr ⟨rfl, Or.inr hx⟩⟩)⟩, fun h x hx => ?_⟩
      rcases ((HM x).1 hx).2 with c | ⟨_, c | c⟩
      · exact h.1 x c.1
      · exact h.1 x c
      · exact h.2 x c
def accB (k : Int) (l : List PT) (q : PA) : Bool := !(ofK k l).2 || onP (ofK k l).1 q
theorem accB_is (k : Int) (q : PA) : ∀ (n : Nat) (l : List PT), l.length = n → (∀ r ∈ l, okP r = true) → accB k l q = l.all (fun p => !decide (p.1 = k) || onP p q)
  | 0, l, e, _ => by
    obtain rfl := List.eq_nil_of_length_eq_zero e
    rfl
  | n + 1, l, e, h => by
    obtain ⟨m, r, rfl⟩ : ∃ m r, l = m ++ [r] := ⟨l.dropLast, l.getLast (by intro c; subst c; cases e), (List.dropLast_concat_getLast _).symm⟩
    have hm := accB_is k q n m (by simpa using e) (fun x hx => h x (List.mem_append_left _ hx))
    have ha := ofK_ok k _ m rfl (fun x hx => h x (List.mem_append_left _ hx))
    have hr := h r (by simp)
    rw [List.all_append, ← hm, List.all_cons, List.all_nil, Bool.and_true]
    unfold accB
    rw [ofK_snoc]
    unfold stepK
    by_cases hk : r.1 = k
    · rw [if_pos hk]
      by_cases h2 : (ofK k m).2 = true
      · unfold AccOk at ha
        rw [if_pos h2] at ha
        rw [if_pos h2]
        dsimp only
        rw [join_on ha.1 hr (hk.trans ha.2.symm), h2]
        simp [hk]
      · rw [if_neg h2]
        simp [hk, h2]
    · rw [if_neg hk]
      simp [hk]
theorem all_on {l : List PT} (h : ∀ r ∈ l, okP r = true) (q : PA) : l.all (fun p => onP p q) = (List.range 5).all fun j => accB ((j : Int) + 1) l q := by
  rw [Bool.eq_iff_iff, List.all_eq_true, List.all_eq_true]
  constructor
  · intro hl j _
    rw [accB_is _ q _ l rfl h, List.all_eq_true]
    intro p hp
    rw [hl p hp, Bool.or_true]
  · intro hl p hp
    have hk := kind_of (h p hp)
    have h0 := hl (p.1 - 1).toNat (List.mem_range.2 (by omega))
    rw [accB_is _ q _ l rfl h, List.all_eq_true] at h0
    have h1 := h0 p hp
    have e : (((p.1 - 1).toNat : Nat) : Int) + 1 = p.1 := by omega
    rw [e] at h1
    simpa using h1
theorem al_nrm {l : List PT} (h : okL l = true) (q : PA) : alB (nrmP l) q = alB l q := by
  unfold alB
  rw [nrm_ok, h, all_on (okL_mem h).2]
  unfold nrmP
  rw [if_pos h, all_nrm]
  rfl
theorem okL_app {a b : List PT} (ha : okL a = true) (hb : okL b = true) (hl : a.length + b.length ≤ 20) : okL (a ++ b) = true := by
  unfold okL at *
  rw [Bool.and_eq_true] at *
  exact ⟨decide_eq_true (by rw [List.length_append]; omega), by rw [List.all_append, ha.2, hb.2]; rfl⟩
theorem al_app {a b : List PT} (ha : okL a = true) (hb : okL b = true) (hl : a.length + b.length ≤ 20) (q : PA) : alB (a ++ b) q = (alB a q && alB b q) := by
  unfold alB
  rw [okL_app ha hb hl, ha, hb, List.all_append]
  rfl
theorem ofK_short {a : List PT} (h : okL a = true) (i : Nat) (hi : i + 1 ≤ 5) : ofK ((i : Int) + 1) (nrmK a 5) = ofK ((i : Int) + 1) a := by
  have := ofK_nrm h (i + 1) (by omega) 5
  rw [if_pos hi] at this
  have e2 : (((i + 1 : Nat)) : Int) = (i : Int) + 1 := by omega
  rw [e2] at this
  exact this
theorem ofK_shortP {a : List PT} (h : okL a = true) (i : Nat) (hi : i < 5) : ofK ((i : Int) + 1) (nrmP a) = ofK ((i : Int) + 1) a := by
  unfold nrmP
  rw [if_pos h]
  exact ofK_short h i hi
theorem nrmK_again {a : List PT} (h : okL a = true) : ∀ i, i ≤ 5 → nrmK (nrmK a 5) i = nrmK a i
  | 0, _ => rfl
  | i + 1, hi => by
    have e := ofK_short h i hi
    show nrmK (nrmK a 5) i ++ (if (ofK ((i : Int) + 1) (nrmK a 5)).2 = true then [(ofK ((i : Int) + 1) (nrmK a 5)).1] else []) = nrmK a i ++ (if (ofK ((i : Int) + 1) a).2 = true then [(ofK ((i : Int) + 1) a).1] else [])
    rw [nrmK_again h i (by omega), e]
theorem nrm_again (a : List PT) : nrmP (nrmP a) = nrmP a := by
  have h2 := nrm_ok a
  by_cases h : okL a = true
  · have e : nrmP a = nrmK a 5 := by unfold nrmP; rw [if_pos h]
    rw [e] at h2 ⊢
    unfold nrmP
    rw [if_pos h2]
    exact nrmK_again h 5 (Nat.le_refl _)
  · have e : nrmP a = [] := by unfold nrmP; rw [if_neg h]
    rw [e]
    rfl
theorem condK_self {k : Int} {x : PT × Bool} (h : x.2 = true) : condK k x x = true := by
  unfold condK
  split
  · rw [h]; simp
  · split
    · simp
    · rw [h]; simp
theorem allK_of {a b : List PT} : ∀ i, (∀ j : Nat, j < i → ofK ((j : Int) + 1) a = ofK ((j : Int) + 1) b) → allK a b i = true
  | 0, _ => rfl
  | i + 1, h => by
    show (allK a b i && (!(ofK ((i : Int) + 1) b).2 || condK ((i : Int) + 1) (ofK ((i : Int) + 1) a) (ofK ((i : Int) + 1) b))) = true
    rw [allK_of i (fun j hj => h j (by omega)), h i (by omega), Bool.true_and]
    by_cases h2 : (ofK ((i : Int) + 1) b).2 = true
    · rw [condK_self h2, Bool.or_true]
    · rw [Bool.eq_false_iff.2 h2]; rfl
theorem str_same {a b : List PT} (ha : okL a = true) (hb : okL b = true) (h : ∀ j : Nat, j < 5 → ofK ((j : Int) + 1) a = ofK ((j : Int) + 1) b) : strP a b = true := by
  unfold strP
  rw [ha, hb, allK_of 5 h, Bool.or_true]
  rfl
theorem str_self {a : List PT} (ha : okL a = true) : strP a a = true := str_same ha ha (fun _ _ => rfl)
theorem str_nrm {a : List PT} (ha : okL a = true) : strP a (nrmP a) = true := str_same ha (nrm_ok a) (fun j hj => (ofK_shortP ha j hj).symm)
theorem nrm_str {a : List PT} (ha : okL a = true) : strP (nrmP a) a = true := str_same (nrm_ok a) ha (fun j hj => ofK_shortP ha j hj)
theorem not_on {p : PT} {q : PA} (hp : okP p = true) (hn : notP p = true) (hu : 0 ≤ q.2.2.2.2) : onP p q = false := by
  obtain ⟨k, xs, n⟩ := p
  have hk := kind_of hp
  dsimp only at hk
  obtain rfl | rfl | rfl | rfl | rfl : k = 1 ∨ k = 2 ∨ k = 3 ∨ k = 4 ∨ k = 5 := by omega
  · have h0 : xs.length = 0 := by simpa [notP] using hn
    obtain rfl := List.eq_nil_of_length_eq_zero h0
    rfl
  · have h0 : xs.length = 0 := by simpa [notP] using hn
    obtain rfl := List.eq_nil_of_length_eq_zero h0
    rfl
  · simp [notP] at hn
  · simp [notP] at hn
  · have h0 : n = 0 := by simpa [notP] using hn
    subst h0
    rw [on5]
    exact decide_eq_false (by omega)
theorem cond_on {k : Int} {x y : PT × Bool} {q : PA} (hx : AccOk k x) (hy : AccOk k y) (h2 : y.2 = true) (hc : condK k x y = true) (ho : (!x.2 || onP x.1 q) = true) : onP y.1 q = true := by
  obtain ⟨⟨yk, ys, m⟩, yb⟩ := y
  obtain ⟨⟨xk, xs, n⟩, xb⟩ := x
  dsimp only at h2 ho
  subst h2
  unfold AccOk at hx hy
  rw [if_pos rfl] at hy
  obtain ⟨hy, ey⟩ := hy
  dsimp only at hy ey
  subst ey
  have hk := kind_of hy
  dsimp only at hk ⊢
  obtain rfl | rfl | rfl | rfl | rfl : yk = 1 ∨ yk = 2 ∨ yk = 3 ∨ yk = 4 ∨ yk = 5 := by omega
  · have hc' : xb = true ∧ ∀ z ∈ xs, z ∈ ys := by simpa [condK] using hc
    obtain ⟨rfl, hc'⟩ := hc'
    rw [if_pos rfl] at hx
    obtain rfl : xk = 1 := hx.2
    rw [Bool.not_true, Bool.false_or, on1, List.contains_iff_mem] at ho
    rw [on1, List.contains_iff_mem]
    exact hc' _ ho
  · have hc' : xb = true ∧ ∀ z ∈ xs, z ∈ ys := by simpa [condK] using hc
    obtain ⟨rfl, hc'⟩ := hc'
    rw [if_pos rfl] at hx
    obtain rfl : xk = 2 := hx.2
    rw [Bool.not_true, Bool.false_or, on2, List.contains_iff_mem] at ho
    rw [on2, List.contains_iff_mem]
    exact hc' _ ho
  · have hc' : ∀ z ∈ ys, z ∈ xs := by simpa [condK] using hc
    rw [on3, List.all_eq_true]
    intro z hz
    cases xb with
    | true =>
      rw [if_pos rfl] at hx
      obtain rfl : xk = 3 := hx.2
      rw [Bool.not_true, Bool.false_or, on3, List.all_eq_true] at ho
      exact ho z (hc' z hz)
    | false =>
      rw [if_neg (show ¬ ((false : Bool) = true) from Bool.false_ne_true)] at hx
      have e : xs = [] := by injection hx with _ h; injection h
      have := hc' z hz
      rw [e] at this
      cases this
  · have hc' : xb = true ∧ n ≤ m := by simpa [condK] using hc
    obtain ⟨rfl, hc'⟩ := hc'
    rw [if_pos rfl] at hx
    obtain rfl : xk = 4 := hx.2
    rw [Bool.not_true, Bool.false_or, on4, decide_eq_true_eq] at ho
    rw [on4, decide_eq_true_eq]
    omega
  · have hc' : xb = true ∧ n ≤ m := by simpa [condK] using hc
    obtain ⟨rfl, hc'⟩ := hc'
    rw [if_pos rfl] at hx
    obtain rfl : xk = 5 := hx.2
    rw [Bool.not_true, Bool.false_or, on5, decide_eq_true_eq] at ho
    rw [on5, decide_eq_true_eq]
    omega
theorem allK_get {a b : List PT} : ∀ i, allK a b i = true → ∀ j : Nat, j < i → (!(ofK ((j : Int) + 1) b).2 || condK ((j : Int) + 1) (ofK ((j : Int) + 1) a) (ofK ((j : Int) + 1) b)) = true
  | 0, _, j, hj => absurd hj (by omega)
  | i + 1, h, j, hj => by
    have h' : (allK a b i && (!(ofK ((i : Int) + 1) b).2 || condK ((i : Int) + 1) (ofK ((i : Int) + 1) a) (ofK ((i : Int) + 1) b))) = true := h
    rw [Bool.and_eq_true] at h'
    by_cases e : j = i
    · subst e; exact h'.2
    · exact allK_get i h'.1 j (by omega)
/-- What is stricter allows nothing more. -/
theorem str_sound {a b : List PT} {q : PA} (hs : strP a b = true) (hu : 0 ≤ q.2.2.2.2) (h : alB a q = true) : alB b q = true := by
  unfold strP at hs
  rw [Bool.and_eq_true, Bool.and_eq_true, Bool.or_eq_true] at hs
  obtain ⟨ha, hb, hs⟩ := hs
  have h1 : (List.range 5).all (fun j => accB ((j : Int) + 1) a q) = true := by
    rw [← all_on (okL_mem ha).2]
    unfold alB at h
    rw [ha, Bool.true_and] at h
    exact h
  unfold alB
  rw [hb, all_on (okL_mem hb).2, Bool.true_and, List.all_eq_true]
  rw [List.all_eq_true] at h1
  rcases hs with hs | hs
  · exfalso
    rw [noth_any, any_nrm] at hs
    obtain ⟨j, hj, h2⟩ := List.any_eq_true.1 hs
    rw [Bool.and_eq_true] at h2
    have h3 := h1 j hj
    have hacc := ofK_ok ((j : Int) + 1) _ a rfl (okL_mem ha).2
    unfold AccOk at hacc
    rw [if_pos h2.1] at hacc
    unfold accB at h3
    rw [h2.1, not_on hacc.1 h2.2 hu] at h3
    cases h3
  · intro j hj
    have hc := allK_get 5 hs j (List.mem_range.1 hj)
    have h3 := h1 j hj
    unfold accB at h3 ⊢
    by_cases h2 : (ofK ((j : Int) + 1) b).2 = true
    · rw [h2, Bool.not_true, Bool.false_or] at hc
      rw [cond_on (ofK_ok ((j : Int) + 1) _ a rfl (okL_mem ha).2) (ofK_ok ((j : Int) + 1) _ b rfl (okL_mem hb).2) h2 hc h3, Bool.or_true]
    · rw [Bool.eq_false_iff.2 h2]; rfl
end Go.Proofs.Ytjbbhegijlnndaa.Nd
