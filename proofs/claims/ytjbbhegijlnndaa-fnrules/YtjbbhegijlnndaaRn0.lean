/- Rules of one kind: joined, of a kind, in their short form. -/
import Derived.Test.YtjbbhegijlnndaaRu0
set_option linter.unusedVariables false
set_option maxRecDepth 100000
namespace Go.Proofs.Ytjbbhegijlnndaa.Nd
open Go Go.RowKit Go.Joins Own Draw

/-- Numbers that two rules of a kind come to. -/
def metP (k : Int) (xs ys : List Int) : List Int := ((List.range 31).map Int.ofNat).filter fun n => (xs.contains n && ys.contains n) || (decide (k = 3) && (xs.contains n || ys.contains n))
def joinP (a b : PT) : PT := if 4 ≤ a.1 then (a.1, [], min a.2.2 b.2.2) else (a.1, metP a.1 a.2.1 b.2.1, 0)
def stepK (k : Int) (acc : PT × Bool) (r : PT) : PT × Bool := if r.1 = k then (if acc.2 = true then (joinP acc.1 r, true) else (r, true)) else acc
def ofK (k : Int) (l : List PT) : PT × Bool := l.foldl (stepK k) ((0, [], 0), false)
/-- One of a kind, up to a kind. -/
def nrmK (l : List PT) : Nat → List PT
  | 0 => []
  | i + 1 => nrmK l i ++ if (ofK ((i : Int) + 1) l).2 = true then [(ofK ((i : Int) + 1) l).1] else []
def nrmP (l : List PT) : List PT := if okL l = true then nrmK l 5 else []
theorem rise_ext : ∀ {l m : List Int}, l.Pairwise (· < ·) → m.Pairwise (· < ·) → (∀ x, x ∈ l ↔ x ∈ m) → l = m
  | [], [], _, _, _ => rfl
  | [], y :: m, _, _, h => absurd ((h y).2 (List.mem_cons_self ..)) (by simp)
  | x :: l, [], _, _, h => absurd ((h x).1 (List.mem_cons_self ..)) (by simp)
  | x :: l, y :: m, hl, hm, h => by
    rw [List.pairwise_cons] at hl hm
    have hxy : x = y := by
      rcases List.mem_cons.1 ((h x).1 (List.mem_cons_self ..)) with e | e
      · exact e
      · rcases List.mem_cons.1 ((h y).2 (List.mem_cons_self ..)) with e2 | e2
        · exact e2.symm
        · have := hl.1 y e2; have := hm.1 x e; omega
    subst hxy
    congr 1
    refine rise_ext hl.2 hm.2 (fun z => ⟨fun hz => ?_, fun hz => ?_⟩)
    · rcases List.mem_cons.1 ((h z).1 (List.mem_cons_of_mem _ hz)) with e | e
      · subst e; have := hl.1 z hz; omega
      · exact e
    · rcases List.mem_cons.1 ((h z).2 (List.mem_cons_of_mem _ hz)) with e | e
      · subst e; have := hm.1 z hz; omega
      · exact e
theorem range_pair : ((List.range 31).map Int.ofNat).Pairwise (· < ·) := by decide
theorem mem_range31 (x : Int) : x ∈ (List.range 31).map Int.ofNat ↔ -1 < x ∧ x ≤ 30 := by
  rw [List.mem_map]
  constructor
  · rintro ⟨n, hn, rfl⟩
    rw [List.mem_range] at hn
    show -1 < (n : Int) ∧ (n : Int) ≤ 30
    omega
  · intro h
    exact ⟨x.toNat, by rw [List.mem_range]; omega, by show (x.toNat : Int) = x; omega⟩
theorem metP_pair (k : Int) (xs ys : List Int) : (metP k xs ys).Pairwise (· < ·) := List.Pairwise.sublist (List.filter_sublist ..) range_pair
theorem mem_metP (k : Int) (xs ys : List Int) (x : Int) : x ∈ metP k xs ys ↔ (-1 < x ∧ x ≤ 30) ∧ ((x ∈ xs ∧ x ∈ ys) ∨ (k = 3 ∧ (x ∈ xs ∨ x ∈ ys))) := by
  unfold metP
  rw [List.mem_filter, mem_range31]
  simp
theorem metP_ri (k : Int) (xs ys : List Int) : riB (-1) (metP k xs ys) = true := ri_of (metP_pair k xs ys) (fun x hx => ((mem_metP k xs ys x).1 hx).1)
/-- What is met of two rows that rise. -/
theorem met_and {k : Int} (hk : k ≠ 3) {xs ys L : List Int} (hx : riB (-1) xs = true) (hL : L.Pairwise (· < ·)) (hm : ∀ x, x ∈ L ↔ x ∈ xs ∧ x ∈ ys) : L = metP k xs ys :=
  rise_ext hL (metP_pair k xs ys) (fun x => by
    rw [hm, mem_metP]
    exact ⟨fun h => ⟨ri_mem hx x h.1, Or.inl h⟩, fun h => h.2.elim id (fun c => absurd c.1 hk)⟩)
theorem met_or {xs ys L : List Int} (hx : riB (-1) xs = true) (hy : riB (-1) ys = true) (hL : L.Pairwise (· < ·)) (hm : ∀ x, x ∈ L ↔ x ∈ xs ∨ x ∈ ys) : L = metP 3 xs ys :=
  rise_ext hL (metP_pair 3 xs ys) (fun x => by
    rw [hm, mem_metP]
    exact ⟨fun h => ⟨h.elim (ri_mem hx x) (ri_mem hy x), Or.inr ⟨rfl, h⟩⟩, fun h => h.2.elim (fun c => Or.inl c.1) (fun c => c.2)⟩)
theorem met_self {k : Int} {xs : List Int} (hx : riB (-1) xs = true) : metP k xs xs = xs :=
  rise_ext (metP_pair k xs xs) (ri_pair hx) (fun x => by
    rw [mem_metP]
    exact ⟨fun h => h.2.elim (fun c => c.1) (fun c => c.2.elim id id), fun h => ⟨ri_mem hx x h, Or.inl ⟨h, h⟩⟩⟩)
/-- What a right rule is, by its kind. -/
theorem okP_low {p : PT} (h : okP p = true) (hk : ¬ 4 ≤ p.1) : (1 ≤ p.1 ∧ p.1 ≤ 3) ∧ p.2.2 = 0 ∧ riB (-1) p.2.1 = true := by
  unfold okP at h
  split at h
  · rename_i h1
    rw [btw_iff] at h1
    simp only [Bool.and_eq_true, decide_eq_true_eq] at h
    exact ⟨h1, h⟩
  · simp only [Bool.and_eq_true] at h
    have := (btw_iff _ _ _).1 h.1
    omega
theorem okP_high {p : PT} (h : okP p = true) (hk : 4 ≤ p.1) : p.1 ≤ 5 ∧ p.2.1 = [] ∧ 0 ≤ p.2.2 ∧ p.2.2 ≤ 100000 := by
  unfold okP at h
  split at h
  · rename_i h1
    rw [btw_iff] at h1
    omega
  · simp only [Bool.and_eq_true, decide_eq_true_eq] at h
    have h1 := (btw_iff _ _ _).1 h.1
    have h2 := (btw_iff _ _ _).1 h.2.2
    exact ⟨h1.2, List.eq_nil_of_length_eq_zero h.2.1, h2.1, h2.2⟩
theorem okP_of_low {p : PT} (h1 : 1 ≤ p.1 ∧ p.1 ≤ 3) (h2 : p.2.2 = 0) (h3 : riB (-1) p.2.1 = true) : okP p = true := by
  unfold okP
  rw [if_pos ((btw_iff _ _ _).2 h1)]
  simp [h2, h3]
theorem okP_of_high {p : PT} (h1 : 4 ≤ p.1 ∧ p.1 ≤ 5) (h2 : p.2.1 = []) (h3 : 0 ≤ p.2.2 ∧ p.2.2 ≤ 100000) : okP p = true := by
  unfold okP
  rw [if_neg (by rw [btw_iff]; omega), (btw_iff _ _ _).2 h1, h2, (btw_iff _ _ _).2 h3]
  rfl
theorem join_self {p : PT} (h : okP p = true) : joinP p p = p := by
  unfold joinP
  obtain ⟨k, xs, n⟩ := p
  by_cases hk : 4 ≤ k
  · obtain ⟨_, h2, _⟩ := okP_high h hk
    rw [if_pos hk]
    dsimp only at h2
    rw [h2]
    simp
  · obtain ⟨_, h2, h3⟩ := okP_low h hk
    rw [if_neg hk]
    dsimp only at h2 h3
    rw [met_self h3, h2]
theorem join_ok {p q : PT} (hp : okP p = true) (hq : okP q = true) (he : q.1 = p.1) : okP (joinP p q) = true ∧ (joinP p q).1 = p.1 := by
  unfold joinP
  by_cases hk : 4 ≤ p.1
  · obtain ⟨h1, h2, h3, h4⟩ := okP_high hp hk
    obtain ⟨_, _, h5, h6⟩ := okP_high hq (by omega)
    rw [if_pos hk]
    exact ⟨okP_of_high ⟨hk, h1⟩ rfl ⟨by show 0 ≤ min p.2.2 q.2.2; omega, by show min p.2.2 q.2.2 ≤ 100000; omega⟩, rfl⟩
  · obtain ⟨h1, h2, h3⟩ := okP_low hp hk
    rw [if_neg hk]
    exact ⟨okP_of_low h1 rfl (metP_ri _ _ _), rfl⟩
/-- What the fold has come to, of right rules: right, of the kind. -/
def AccOk (k : Int) (acc : PT × Bool) : Prop := if acc.2 = true then okP acc.1 = true ∧ acc.1.1 = k else acc.1 = (0, [], 0)
theorem acc_step {k : Int} {acc : PT × Bool} {r : PT} (h : AccOk k acc) (hr : okP r = true) : AccOk k (stepK k acc r) := by
  unfold stepK
  by_cases e : r.1 = k
  · rw [if_pos e]
    obtain ⟨x, b⟩ := acc
    cases b with
    | true =>
      unfold AccOk at h ⊢
      rw [if_pos rfl] at h
      rw [if_pos rfl, if_pos rfl]
      have := join_ok h.1 hr (by rw [e, h.2])
      exact ⟨this.1, this.2.trans h.2⟩
    | false =>
      have e2 : (if (x, false).2 = true then (joinP (x, false).1 r, true) else (r, true)) = (r, true) := if_neg (fun c => by cases c)
      unfold AccOk
      rw [e2, if_pos rfl]
      exact ⟨hr, e⟩
  · rw [if_neg e]; exact h
theorem ofK_snoc (k : Int) (l : List PT) (r : PT) : ofK k (l ++ [r]) = stepK k (ofK k l) r := by unfold ofK; rw [List.foldl_append]; rfl
theorem ofK_nil (k : Int) : ofK k [] = ((0, [], 0), false) := rfl
theorem ofK_ok (k : Int) : ∀ (n : Nat) (l : List PT), l.length = n → (∀ r ∈ l, okP r = true) → AccOk k (ofK k l) := by
  intro n
  induction n with
  | zero => intro l hl _; rw [List.eq_nil_of_length_eq_zero hl]; rfl
  | succ n ih =>
    intro l hl h
    obtain ⟨l', r, rfl⟩ : ∃ l' r, l = l' ++ [r] := ⟨l.dropLast, l.getLast (by intro e; rw [e] at hl; simp at hl), (List.dropLast_concat_getLast _).symm⟩
    rw [ofK_snoc]
    exact acc_step (ih l' (by simpa using hl) (fun r hr => h r (List.mem_append.2 (Or.inl hr)))) (h r (by simp))
theorem okL_mem {l : List PT} (h : okL l = true) : l.length ≤ 20 ∧ ∀ r ∈ l, okP r = true := by
  unfold okL at h
  simp only [Bool.and_eq_true, decide_eq_true_eq] at h
  exact ⟨h.1, List.all_eq_true.1 h.2⟩
theorem ofK_of {l : List PT} (h : okL l = true) (k : Int) (j : Nat) : AccOk k (ofK k (l.take j)) := ofK_ok k _ _ rfl (fun r hr => (okL_mem h).2 r (List.mem_of_mem_take hr))
end Go.Proofs.Ytjbbhegijlnndaa.Nd
