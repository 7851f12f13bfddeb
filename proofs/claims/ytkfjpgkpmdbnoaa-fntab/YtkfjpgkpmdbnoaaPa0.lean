/- Tables as plain data: their order, what is put among them. -/
import Derived.Test.YtkfjpgkpmdbnoaaTb0
import Derived.Test.YtkfjpgkpmdbnoaaTf0
import Derived.Test.YtkfjpgkpmdbnoaaTk0
import Derived.Test.YtkfjpgkpmdbnoaaTd0
set_option linter.unusedVariables false
set_option maxRecDepth 100000
namespace Go.Proofs.Ytkfjpgkpmdbnoaa
open Go Go.RowKit Go.Joins Own

def cmpI (a b : Int) : Int := if a < b then -1 else if a > b then 1 else 0
def cmpS (p q : TS) : Int := if cmpI p.1 q.1 = 0 then cmpI p.2.1 q.2.1 else cmpI p.1 q.1
/-- The one stands ahead of the other. -/
def ltS (p q : TS) : Prop := p.1 < q.1 ∨ (p.1 = q.1 ∧ p.2.1 < q.2.1)
def leS (p q : TS) : Prop := p.1 < q.1 ∨ (p.1 = q.1 ∧ p.2.1 ≤ q.2.1)
instance (p q : TS) : Decidable (ltS p q) := by unfold ltS; exact inferInstance
theorem cmp_lt (p q : TS) : cmpS p q < 0 ↔ ltS p q := by unfold cmpS cmpI ltS; repeat' split <;> omega
theorem cmp_ge (p q : TS) : cmpS p q ≥ 0 ↔ ¬ ltS p q := by rw [← cmp_lt]; omega
theorem cmp_small (p q : TS) : -1 ≤ cmpS p q ∧ cmpS p q ≤ 1 := by unfold cmpS cmpI; repeat' split <;> omega
theorem slB_iff (p q : TS) : slB p q = true ↔ ltS p q := by
  unfold slB ltS
  simp only [Bool.not_eq_true', Bool.or_eq_false_iff, Bool.and_eq_false_iff, decide_eq_false_iff_not, beq_eq_false_iff_ne]
  omega
theorem ltS_le {p q : TS} (h : ltS p q) : leS p q := by unfold ltS at h; unfold leS; omega
theorem ltS_trans {p q r : TS} (h : ltS p q) (k : ltS q r) : ltS p r := by unfold ltS at *; omega
theorem ltS_irr {p q : TS} (h : ltS p q) (k : ltS q p) : False := by unfold ltS at *; omega
theorem le_lt {p q r : TS} (h : leS p q) (k : ltS q r) : ltS p r := by unfold ltS at *; unfold leS at h; omega
theorem el_get {xs : List TS} {i : Nat} (h : i < xs.length) : el xs i = xs[i] := el_at h
/-- What a right table is, place by place. -/
theorem tab_facts (xs : List TS) : tabB xs = true ↔ xs.length ≤ 20 ∧ ∀ i (h : i < xs.length), slA xs[i] = true ∧ (∀ (h0 : 0 < i), ltS (xs[i - 1]'(by omega)) xs[i]) ∧ ∀ j (hj : j < i), (xs[j]'(by omega)).2.2 ≠ xs[i].2.2 := by
  unfold tabB
  rw [Bool.and_eq_true, decide_eq_true_eq, List.all_eq_true]
  refine and_congr Iff.rfl ?_
  constructor
  · intro H i hi
    have h := H i (List.mem_range.2 hi)
    unfold slC slD at h
    rw [Bool.and_eq_true, Bool.and_eq_true, List.all_eq_true, el_get hi] at h
    obtain ⟨⟨h1, h2⟩, h3⟩ := h
    refine ⟨h1, fun h0 => ?_, fun j hj => ?_⟩
    · rw [Bool.or_eq_true, el_get (show i - 1 < xs.length by omega)] at h2
      rcases h2 with h2 | h2
      · rw [beq_iff_eq] at h2; omega
      · exact (slB_iff _ _).1 h2
    · have := h3 j (List.mem_range.2 hj)
      rw [el_get (show j < xs.length by omega)] at this
      simpa using this
  · intro H i hi
    have hi := List.mem_range.1 hi
    obtain ⟨h1, h2, h3⟩ := H i hi
    unfold slC slD
    rw [Bool.and_eq_true, Bool.and_eq_true, List.all_eq_true, el_get hi]
    refine ⟨⟨h1, ?_⟩, fun j hj => ?_⟩
    · rw [Bool.or_eq_true]
      by_cases h0 : i = 0
      · exact Or.inl (by rw [h0]; rfl)
      · refine Or.inr ?_
        rw [el_get (show i - 1 < xs.length by omega)]
        exact (slB_iff _ _).2 (h2 (by omega))
    · have hj := List.mem_range.1 hj
      rw [el_get (show j < xs.length by omega)]
      simpa using h3 j hj
theorem rise_all {xs : List TS} (h : ∀ i (h : i < xs.length), ∀ (h0 : 0 < i), ltS (xs[i - 1]'(by omega)) xs[i]) : xs.Pairwise ltS := by
  rw [List.pairwise_iff_getElem]
  have : ∀ (d i j : Nat) (hi : i < xs.length) (hj : j < xs.length), j = i + 1 + d → ltS xs[i] xs[j] := by
    intro d
    induction d with
    | zero => intro i j hi hj e; subst e; exact h (i + 1) hj (by omega)
    | succ d ih =>
      intro i j hi hj e
      have h1 := ih i (j - 1) hi (by omega) (by omega)
      exact ltS_trans h1 (h j hj (by omega))
  exact fun i j hi hj hij => this (j - i - 1) i j hi hj (by omega)
theorem tab_iff (xs : List TS) : tabB xs = true ↔ xs.length ≤ 20 ∧ (∀ p ∈ xs, slA p = true) ∧ xs.Pairwise ltS ∧ (xs.map (·.2.2)).Nodup := by
  rw [tab_facts]
  refine and_congr Iff.rfl ?_
  constructor
  · intro H
    refine ⟨fun p hp => ?_, rise_all (fun i h => (H i h).2.1), ?_⟩
    · obtain ⟨i, hi, rfl⟩ := List.getElem_of_mem hp
      exact (H i hi).1
    · unfold List.Nodup
      rw [List.pairwise_iff_getElem]
      intro i j hi hj hij
      rw [List.getElem_map, List.getElem_map]
      rw [List.length_map] at hj
      exact (H j hj).2.2 i hij
  · rintro ⟨h1, h2, h3⟩ i hi
    refine ⟨h1 _ (List.getElem_mem hi), fun h0 => List.pairwise_iff_getElem.1 h2 _ _ _ _ (by omega), fun j hj => ?_⟩
    have := List.pairwise_iff_getElem.1 h3 j i (by rw [List.length_map]; omega) (by rw [List.length_map]; exact hi) hj
    rwa [List.getElem_map, List.getElem_map] at this
theorem tab_rise {xs : List TS} (h : tabB xs = true) : xs.Pairwise ltS := ((tab_iff xs).1 h).2.2.1
theorem tab_ws {xs : List TS} (h : tabB xs = true) : xs.Pairwise leS := (tab_rise h).imp ltS_le
/-- Two of a rising row that are alike in Who and Ver are one. -/
theorem rise_one {xs : List TS} (h : xs.Pairwise ltS) {p q : TS} (hp : p ∈ xs) (hq : q ∈ xs) (e1 : p.1 = q.1) (e2 : p.2.1 = q.2.1) : p = q := by
  obtain ⟨i, hi, rfl⟩ := List.getElem_of_mem hp
  obtain ⟨j, hj, rfl⟩ := List.getElem_of_mem hq
  rw [List.pairwise_iff_getElem] at h
  rcases Nat.lt_trichotomy i j with c | c | c
  · have := h i j hi hj c
    unfold ltS at this
    omega
  · subst c; rfl
  · have := h j i hj hi c
    unfold ltS at this
    omega
/-- The rise of a row, place by place. -/
def riS (xs : List TS) : Bool := (List.range xs.length).all fun i => (i == 0) || slB (el xs (i - 1)) (el xs i)
theorem ri_no {xs : List TS} {k : Nat} (hk : k < xs.length) (h0 : 0 < k) (h : ¬ ltS (xs[k - 1]'(by omega)) xs[k]) : riS xs = false := by
  rw [← Bool.not_eq_true]
  intro c
  unfold riS at c
  rw [List.all_eq_true] at c
  have := c k (List.mem_range.2 hk)
  rw [Bool.or_eq_true, el_get hk, el_get (show k - 1 < xs.length by omega)] at this
  rcases this with h2 | h2
  · rw [beq_iff_eq] at h2; omega
  · exact h ((slB_iff _ _).1 h2)
theorem ri_yes {xs : List TS} (h : ∀ i (h : i < xs.length), ∀ (h0 : 0 < i), ltS (xs[i - 1]'(by omega)) xs[i]) : riS xs = true := by
  unfold riS
  rw [List.all_eq_true]
  intro i hi
  have hi := List.mem_range.1 hi
  rw [Bool.or_eq_true]
  by_cases h0 : i = 0
  · exact Or.inl (by rw [h0]; rfl)
  · refine Or.inr ?_
    rw [el_get (show i - 1 < xs.length by omega), el_get hi]
    exact (slB_iff _ _).2 (h i hi (by omega))
theorem ri_pair {xs : List TS} : riS xs = true ↔ xs.Pairwise ltS := by
  constructor
  · intro h
    refine rise_all fun i hi h0 => ?_
    by_cases c : ltS (xs[i - 1]'(by omega)) xs[i]
    · exact c
    · rw [ri_no hi h0 c] at h; cases h
  · intro h
    exact ri_yes fun i hi h0 => List.pairwise_iff_getElem.1 h _ _ _ _ (by omega)
/-- What a program asks, one after another, is what is right. -/
theorem tab_same (xs : List TS) (b : Bool) (hb : b = true ↔ (xs.map (·.2.2)).Nodup) : tabB xs = (decide (xs.length ≤ 20) && (xs.all slA && (riS xs && b))) := by
  rw [Bool.eq_iff_iff, tab_iff, Bool.and_eq_true, Bool.and_eq_true, Bool.and_eq_true, decide_eq_true_eq, List.all_eq_true, ri_pair, hb]

/-- The slots of one, from the greatest Ver on. -/
def vsL (xs : List TS) (who : Int) : List TS := xs.reverse.filter (fun p => p.1 == who)
/-- How many stand ahead of x. -/
def cnS (xs : List TS) (x : TS) : Nat := xs.countP (fun p => decide (ltS p x))
/-- x put where it belongs. -/
def puT (xs : List TS) (x : TS) : List TS := xs.take (cnS xs x) ++ x :: xs.drop (cnS xs x)
theorem cn_at {xs : List TS} {x : TS} {k : Nat} (hk : k ≤ xs.length) (h1 : ∀ t (h : t < xs.length), t < k → ltS xs[t] x) (h2 : ∀ t (h : t < xs.length), k ≤ t → ¬ ltS xs[t] x) : cnS xs x = k := by
  unfold cnS
  conv => lhs; rw [← List.take_append_drop k xs]
  rw [List.countP_append]
  have e1 : (xs.take k).countP (fun p => decide (ltS p x)) = (xs.take k).length := by
    rw [List.countP_eq_length]
    intro p hp
    obtain ⟨i, hi, rfl⟩ := List.getElem_of_mem hp
    rw [List.length_take] at hi
    rw [List.getElem_take]
    exact decide_eq_true (h1 i (by omega) (by omega))
  have e2 : (xs.drop k).countP (fun p => decide (ltS p x)) = 0 := by
    rw [List.countP_eq_zero]
    intro p hp
    obtain ⟨i, hi, rfl⟩ := List.getElem_of_mem hp
    rw [List.length_drop] at hi
    rw [List.getElem_drop]
    rw [decide_eq_true_eq]
    exact h2 (k + i) (by omega) (by omega)
  rw [e1, e2, List.length_take]
  omega
theorem cn_le (xs : List TS) (x : TS) : cnS xs x ≤ xs.length := List.countP_le_length
/-- In a row in order those that stand ahead of x are the first ones. -/
theorem cn_spec {xs : List TS} (h : xs.Pairwise leS) (x : TS) : (∀ t (ht : t < xs.length), t < cnS xs x → ltS xs[t] x) ∧ (∀ t (ht : t < xs.length), cnS xs x ≤ t → ¬ ltS xs[t] x) := by
  have key : ∀ n, n ≤ xs.length → (∀ t (ht : t < xs.length), t < n → ltS xs[t] x) ∨ ∃ k, k ≤ n ∧ (∀ t (ht : t < xs.length), t < k → ltS xs[t] x) ∧ (∀ t (ht : t < xs.length), k ≤ t → ¬ ltS xs[t] x) := by
    intro n
    induction n with
    | zero => intro _; exact Or.inl fun t _ h => absurd h (by omega)
    | succ n ih =>
      intro hn
      rcases ih (by omega) with h1 | ⟨k, hk, h1, h2⟩
      · by_cases c : ltS (xs[n]'(by omega)) x
        · refine Or.inl fun t ht hlt => ?_
          by_cases e : t = n
          · subst e; exact c
          · exact h1 t ht (by omega)
        · refine Or.inr ⟨n, by omega, h1, fun t ht hle c2 => ?_⟩
          by_cases e : n = t
          · subst e; exact c c2
          · exact c (le_lt (List.pairwise_iff_getElem.1 h n t (by omega) ht (by omega)) c2)
      · exact Or.inr ⟨k, by omega, h1, h2⟩
  rcases key xs.length (Nat.le_refl _) with h1 | ⟨k, hk, h1, h2⟩
  · have e : cnS xs x = xs.length := cn_at (Nat.le_refl _) h1 (fun t ht hle => by omega)
    rw [e]
    exact ⟨h1, fun t ht hle => by omega⟩
  · rw [cn_at hk h1 h2]
    exact ⟨h1, h2⟩
theorem pu_len (xs : List TS) (x : TS) : (puT xs x).length = xs.length + 1 := by
  have := cn_le xs x
  unfold puT
  rw [List.length_append, List.length_cons, List.length_take, List.length_drop]
  omega
theorem pu_perm (xs : List TS) (x : TS) : (puT xs x).Perm (x :: xs) := by
  unfold puT
  refine List.perm_middle.trans ?_
  rw [List.take_append_drop]
theorem pu_ws {xs : List TS} {x : TS} (h : xs.Pairwise leS) : (puT xs x).Pairwise leS := by
  obtain ⟨h1, h2⟩ := cn_spec h x
  unfold puT
  generalize cnS xs x = k at h1 h2
  have hs := h
  rw [← List.take_append_drop k xs] at hs
  rw [List.pairwise_append] at hs ⊢
  refine ⟨hs.1, List.pairwise_cons.2 ⟨fun p hp => ?_, hs.2.1⟩, fun a ha b hb => ?_⟩
  · obtain ⟨i, hi, rfl⟩ := List.getElem_of_mem hp
    rw [List.length_drop] at hi
    rw [List.getElem_drop]
    have := h2 (k + i) (by omega) (by omega)
    unfold ltS at this
    unfold leS
    omega
  · rcases List.mem_cons.1 hb with rfl | hb
    · obtain ⟨i, hi, rfl⟩ := List.getElem_of_mem ha
      rw [List.length_take] at hi
      rw [List.getElem_take]
      exact ltS_le (h1 i (by omega) (by omega))
    · exact hs.2.2 a ha b hb
theorem pu_fl (xs : List TS) (x : TS) : puT xs x = xs.take (cnS xs x) ++ [x] ++ xs.drop (cnS xs x) := by unfold puT; simp
end Go.Proofs.Ytkfjpgkpmdbnoaa
