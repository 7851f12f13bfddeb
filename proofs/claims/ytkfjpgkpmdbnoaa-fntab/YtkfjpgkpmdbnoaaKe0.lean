/- What is kept of a table, as plain data. -/
import Derived.Test.YtkfjpgkpmdbnoaaAd0
import Derived.Test.YtkfjpgkpmdbnoaaTk0
set_option linter.unusedVariables false
set_option maxRecDepth 100000
namespace Go.Proofs.Ytkfjpgkpmdbnoaa
open Go Go.RowKit Go.Joins Own Draw

/-- What is kept of the holders below j: each one's last n, put in one by one. -/
def keL (xs : List TS) (n : Int) : Nat → List TS
  | 0 => []
  | j + 1 => ((vsL xs (j : Int)).take n.toNat).foldl puT (keL xs n j)
theorem fp_perm : ∀ (l ks : List TS), (l.foldl puT ks).Perm (l ++ ks)
  | [], ks => List.Perm.refl _
  | x :: l, ks => by
    rw [List.foldl_cons]
    refine (fp_perm l (puT ks x)).trans ?_
    refine ((pu_perm ks x).append_left l).trans ?_
    exact List.perm_middle
theorem fp_ws : ∀ (l ks : List TS), ks.Pairwise leS → (l.foldl puT ks).Pairwise leS
  | [], ks, h => h
  | x :: l, ks, h => by rw [List.foldl_cons]; exact fp_ws l _ (pu_ws h)
theorem fp_len (l ks : List TS) : (l.foldl puT ks).length = l.length + ks.length := by rw [(fp_perm l ks).length_eq, List.length_append]
theorem fp_snoc (l ks : List TS) (x : TS) : (l ++ [x]).foldl puT ks = puT (l.foldl puT ks) x := by rw [List.foldl_append]; rfl
theorem ke_ws (xs : List TS) (n : Int) : ∀ j, (keL xs n j).Pairwise leS
  | 0 => List.Pairwise.nil
  | j + 1 => fp_ws _ _ (ke_ws xs n j)
theorem ke_len {xs : List TS} (n : Int) (h : xs.length ≤ 20) : ∀ j, (keL xs n j).length ≤ 20 * j
  | 0 => Nat.le_refl _
  | j + 1 => by
    have h1 := ke_len n h j
    have h2 := vs_len xs (j : Int)
    show (((vsL xs (j : Int)).take n.toNat).foldl puT (keL xs n j)).length ≤ _
    rw [fp_len, List.length_take]
    omega
theorem ke_perm (xs : List TS) (n : Int) : ∀ j, (keL xs n j).Perm ((List.range j).flatMap fun i : Nat => (vsL xs (i : Int)).take n.toNat)
  | 0 => List.Perm.refl _
  | j + 1 => by
    show (((vsL xs (j : Int)).take n.toNat).foldl puT (keL xs n j)).Perm _
    refine (fp_perm _ _).trans ?_
    rw [List.range_succ, List.flatMap_append]
    refine List.perm_append_comm.trans ?_
    refine ((ke_perm xs n j).append_right _).trans ?_
    simp
/-- The last m of a row that meet q, from the last one on. -/
theorem last_mem (q : TS → Bool) (m : Nat) (p : TS) : ∀ l : List TS, p ∈ (l.reverse.filter q).take m ↔ ∃ k, ∃ h : k < l.length, l[k] = p ∧ q p = true ∧ (l.drop (k + 1)).countP q < m
  | [] => by simp
  | a :: r => by
    have ih := last_mem q m p r
    have hF : (r.reverse.filter q).length = r.countP q := by rw [← List.countP_eq_length_filter, List.countP_reverse]
    rw [List.reverse_cons, List.filter_append, List.take_append, List.mem_append, ih, hF]
    constructor
    · rintro (⟨k, h, h1, h2, h3⟩ | h)
      · exact ⟨k + 1, by simpa using h, by simpa using h1, h2, by simpa using h3⟩
      · have h1 := List.mem_of_mem_take h
        rw [List.mem_filter, List.mem_singleton] at h1
        obtain ⟨rfl, hq⟩ := h1
        refine ⟨0, by simp, rfl, hq, ?_⟩
        show r.countP q < m
        apply Nat.lt_of_not_le
        intro c
        rw [Nat.sub_eq_zero_of_le c, List.take_zero] at h
        cases h
    · rintro ⟨k, h, h1, h2, h3⟩
      cases k with
      | zero =>
        right
        have h1' : a = p := h1
        subst h1'
        have h3' : r.countP q < m := h3
        have e : [a].filter q = [a] := by simp [h2]
        rw [e, List.take_of_length_le (by simp; omega)]
        simp
      | succ k =>
        left
        exact ⟨k, by simpa using h, by simpa using h1, h2, by simpa using h3⟩
theorem slot_lim {p : TS} (h : slA p = true) : 0 ≤ p.1 ∧ p.1 ≤ 99 := by
  unfold slA btw at h
  simp only [Bool.and_eq_true, decide_eq_true_eq] at h
  omega
theorem keG_sub (xs : List TS) (n : Int) : ∀ m, m ≤ xs.length → (keG xs n m).Sublist (xs.take m)
  | 0, _ => by simp [keG]
  | m + 1, h => by
    have ih := keG_sub xs n m (by omega)
    have hm : m < xs.length := h
    rw [List.take_succ_eq_append_getElem hm]
    by_cases hb : ((beG xs xs[m].1 m xs.length : Nat) : Int) < n
    · rw [keG_yes hm hb]; exact ih.append (List.Sublist.refl _)
    · rw [keG_no hm hb]; exact ih.trans (List.sublist_append_left _ _)
theorem keG_mem (xs : List TS) (n : Int) (p : TS) : ∀ m, m ≤ xs.length → (p ∈ keG xs n m ↔ ∃ k, ∃ h : k < xs.length, k < m ∧ xs[k] = p ∧ ((beG xs xs[k].1 k xs.length : Nat) : Int) < n)
  | 0, _ => by simp [keG]
  | m + 1, h => by
    have ih := keG_mem xs n p m (by omega)
    have hm : m < xs.length := h
    by_cases hb : ((beG xs xs[m].1 m xs.length : Nat) : Int) < n
    · rw [keG_yes hm hb, List.mem_append, ih, List.mem_singleton]
      constructor
      · rintro (⟨k, hk, h1, h2, h3⟩ | h1)
        · exact ⟨k, hk, by omega, h2, h3⟩
        · exact ⟨m, hm, by omega, h1.symm, hb⟩
      · rintro ⟨k, hk, h1, h2, h3⟩
        by_cases e : k = m
        · subst e; exact Or.inr h2.symm
        · exact Or.inl ⟨k, hk, by omega, h2, h3⟩
    · rw [keG_no hm hb, ih]
      constructor
      · rintro ⟨k, hk, h1, h2, h3⟩
        exact ⟨k, hk, by omega, h2, h3⟩
      · rintro ⟨k, hk, h1, h2, h3⟩
        by_cases e : k = m
        · subst e; exact absurd h3 hb
        · exact ⟨k, hk, by omega, h2, h3⟩
theorem be_end (xs : List TS) (who : Int) (k : Nat) : beG xs who k xs.length = (xs.drop (k + 1)).countP (fun p => p.1 == who) := by unfold beG; rw [List.take_length]
theorem sorted_one : ∀ (A B : List TS), A.Pairwise ltS → B.Pairwise ltS → (∀ x, x ∈ A ↔ x ∈ B) → A = B
  | [], [], _, _, _ => rfl
  | [], b :: B, _, _, h => by have := (h b).2 (List.mem_cons_self ..); cases this
  | a :: A, [], _, _, h => by have := (h a).1 (List.mem_cons_self ..); cases this
  | a :: A, b :: B, hA, hB, h => by
    rw [List.pairwise_cons] at hA hB
    have e : a = b := by
      rcases List.mem_cons.1 ((h a).1 (List.mem_cons_self ..)) with e | h1
      · exact e
      · rcases List.mem_cons.1 ((h b).2 (List.mem_cons_self ..)) with e | h2
        · exact e.symm
        · exact (ltS_irr (hB.1 a h1) (hA.1 b h2)).elim
    subst e
    rw [sorted_one A B hA.2 hB.2 (fun x => ⟨fun hx => ?_, fun hx => ?_⟩)]
    · rcases List.mem_cons.1 ((h x).1 (List.mem_cons_of_mem _ hx)) with e | h1
      · subst e; exact (ltS_irr (hA.1 x hx) (hA.1 x hx)).elim
      · exact h1
    · rcases List.mem_cons.1 ((h x).2 (List.mem_cons_of_mem _ hx)) with e | h1
      · subst e; exact (ltS_irr (hB.1 x hx) (hB.1 x hx)).elim
      · exact h1
theorem rise_nodup {xs : List TS} (h : xs.Pairwise ltS) : xs.Nodup := h.imp fun hab e => by subst e; exact ltS_irr hab hab
/-- What the program keeps is what the model keeps. -/
theorem ke_same {xs : List TS} (h : tabB xs = true) (n : Int) : keL xs n 100 = keT xs n := by
  have ht := (tab_iff xs).1 h
  have hr := ht.2.2.1
  have hmem : ∀ p, p ∈ keL xs n 100 ↔ p ∈ keG xs n xs.length := by
    intro p
    rw [(ke_perm xs n 100).mem_iff, List.mem_flatMap, keG_mem xs n p xs.length (Nat.le_refl _)]
    constructor
    · rintro ⟨i, hi, hp⟩
      unfold vsL at hp
      obtain ⟨k, hk, h1, h2, h3⟩ := (last_mem _ _ p xs).1 hp
      subst h1
      have h2' : xs[k].1 = (i : Int) := by simpa using h2
      refine ⟨k, hk, hk, rfl, ?_⟩
      rw [be_end, h2']
      omega
    · rintro ⟨k, hk, _, h2, h3⟩
      subst h2
      have hs := (slot_lim (ht.2.1 xs[k] (List.getElem_mem hk)))
      refine ⟨xs[k].1.toNat, List.mem_range.2 (by omega), ?_⟩
      unfold vsL
      have e : ((xs[k].1.toNat : Nat) : Int) = xs[k].1 := by omega
      rw [e]
      refine (last_mem _ _ _ xs).2 ⟨k, hk, rfl, by simp, ?_⟩
      rw [be_end] at h3
      omega
  have hG : (keG xs n xs.length).Pairwise ltS := by
    have hs := keG_sub xs n xs.length (Nat.le_refl _)
    rw [List.take_length] at hs
    exact hr.sublist hs
  have hin : ∀ p ∈ keL xs n 100, p ∈ xs := fun p hp => by
    have hs := keG_sub xs n xs.length (Nat.le_refl _)
    rw [List.take_length] at hs
    exact hs.subset ((hmem p).1 hp)
  have hnd : (keL xs n 100).Nodup := by
    rw [(ke_perm xs n 100).nodup_iff]
    unfold List.Nodup
    rw [List.pairwise_flatMap]
    refine ⟨fun i _ => ?_, ?_⟩
    · have : (vsL xs (i : Int)).Nodup := by
        unfold vsL
        exact (List.pairwise_reverse.2 ((rise_nodup hr).imp fun hab e => hab e.symm)).filter _
      exact this.sublist (List.take_sublist _ _)
    · refine List.nodup_range.imp ?_
      intro i j hij a ha b hb e
      subst e
      have h1 := (vs_mem.1 (List.mem_of_mem_take ha)).2
      have h2 := (vs_mem.1 (List.mem_of_mem_take hb)).2
      omega
  have hL : (keL xs n 100).Pairwise ltS := by
    refine ((ke_ws xs n 100).and hnd).imp_of_mem ?_
    intro a b ha hb hab
    obtain ⟨h1, h2⟩ := hab
    by_cases c : a.1 = b.1 ∧ a.2.1 = b.2.1
    · exact absurd (rise_one hr (hin a ha) (hin b hb) c.1 c.2) h2
    · unfold leS at h1
      unfold ltS
      omega
  rw [keT_ok h]
  exact sorted_one _ _ hL hG hmem
end Go.Proofs.Ytkfjpgkpmdbnoaa
