/- Roots: the program and the model say the same. -/
import Derived.Test.YthmompnlkclfaaaRo3
set_option linter.unusedVariables false
set_option maxRecDepth 100000
namespace Go.Proofs.Ythmompnlkclfaaa
open Go Go.RowKit Go.Joins Own Draw

/-- An event whose Evid is its Parent. -/
def alE (p : TE) : TE := (p.1, p.2.1, p.2.2.1, p.2.2.2.1, p.2.2.2.2.1, p.2.2.2.2.2.1, p.2.2.2.2.2.2.1, p.2.2.2.2.2.2.1, p.2.2.2.2.2.2.2.2)
theorem al_kd (p : TE) : kdE (alE p) = kdE p := rfl
theorem al_ho (p : TE) : hoV (alE p) = awV p := by
  unfold hoV awV
  rw [al_kd]
  have h1 : evE (alE p) = paE p := rfl
  have h2 : paE (alE p) = paE p := rfl
  rw [h1, h2]
  by_cases e4 : kdE p = 4
  · rw [if_pos e4, if_pos (by omega)]
  · rw [if_neg e4]
theorem findN_al (xs : List TE) (q : Int) : findN (xs.map alE) q = findN xs q := by
  unfold findN
  rw [List.findIdx?_map]
  rfl
theorem bwL_al (xs : List TE) : ∀ (f : Nat) (q : Int) (m : Bool), bwL (xs.map alE) hoV f q m = bwL xs awV f q m
  | 0, q, m => rfl
  | f + 1, q, m => by
    unfold bwL
    simp only [findN_al, List.length_map, List.getElem_map, al_ho]
    split
    · rw [bwL_al xs f]
    · rfl
theorem frL_al (xs : List TE) (l : List Int) : frL (xs.map alE) l = frL xs l := by
  unfold frL
  cases l.getLast? with
  | none => rfl
  | some z =>
    have h : isLog (xs.map alE) z = isLog xs z := by
      unfold isLog
      rw [List.getElem?_map]
      cases xs[z.toNat]? with
      | none => rfl
      | some p => rfl
    dsimp only
    rw [h]
/-- The chain in so many steps. -/
def chF (xs : List TE) (f : Nat) (q : Int) : List Int := frL xs (bwL xs awV f q true)
theorem chF_len (xs : List TE) (q : Int) : chF xs (xs.length + 1) q = chF xs xs.length q := by
  have h := ch_len (xs.map alE) q
  rw [ch_bw, ch_bw, bwL_al, bwL_al, frL_al, frL_al, List.length_map] at h
  unfold chF
  by_cases h1 : frL xs (bwL xs awV (xs.length + 1) q true) = [] <;> by_cases h2 : frL xs (bwL xs awV xs.length q true) = []
  · rw [h1, h2]
  · rw [if_pos h1, if_neg h2] at h; simp at h; exact absurd h h2
  · rw [if_neg h1, if_pos h2] at h; simp at h; exact absurd h h1
  · rw [if_neg h1, if_neg h2] at h; simpa using h
theorem lk_wrap (r s : Int) (hs : i64 s) : lkV r (wrap64 (s - 10)) = if btw s 10 12 then lkV r (s - 10) else 0 := by
  unfold i64 at hs
  by_cases h : btw s 10 12 = true
  · have h2 := (btw_iff _ _ _).1 h
    rw [if_pos h]
    have e : wrap64 (s - 10) = s - 10 := by unfold wrap64; omega
    rw [e]
  · rw [if_neg h]
    have h2 : ¬ (10 ≤ s ∧ s ≤ 12) := fun c => h ((btw_iff _ _ _).2 c)
    unfold lkV
    have h3 : btw (wrap64 (s - 10)) 0 2 = false := by
      rw [Bool.eq_false_iff]
      intro c
      have := (btw_iff _ _ _).1 c
      unfold wrap64 at this
      omega
    rw [h3, Bool.and_false, if_neg (by simp)]
theorem own_x {p : TE} (hk : kdE p = 2 ∨ kdE p = 3 ∨ kdE p = 4) (hs : i64 (seE p)) : ownR p = [xS p] := by
  unfold ownR xS
  rw [if_neg (by omega)]
  by_cases h3 : kdE p = 3
  · rw [if_pos h3, if_neg (by omega), if_pos h3, lk_wrap _ _ hs]
  · rw [if_neg h3, if_pos (by omega)]
    rfl
theorem keysOf_snoc (xs : List TE) (l : List Int) (z : Int) : keysOf xs (l ++ [z]) = keysOf xs l ++ ownAt xs z := by
  unfold keysOf
  rw [List.flatMap_append]
  simp
/-- The model's answer, told by the chain. -/
theorem rt_bw (xs : List TE) (hx : ∀ p ∈ xs, i64 (seE p)) : ∀ (f : Nat) (out : List Int) (q : Int), out.Pairwise (· < ·) →
    (chF xs f q = [] ∨ (0 : Int) ∈ keysOf xs (chF xs f q) → rtG xs f out q = []) ∧
    (chF xs f q ≠ [] → ¬ (0 : Int) ∈ keysOf xs (chF xs f q) → (rtG xs f out q).Pairwise (· < ·) ∧ ∀ z, z ∈ rtG xs f out q ↔ z ∈ out ∨ z ∈ keysOf xs (chF xs f q))
  | 0, out, q, ho => by
    have e : chF xs 0 q = [] := by simp [chF, bwL, frL]
    exact ⟨fun _ => rfl, fun h => absurd e h⟩
  | f + 1, out, q, ho => by
    rcases findN_cases xs q with h | ⟨i, h, hi⟩
    · have e : chF xs (f + 1) q = [] := by unfold chF; rw [bwL_no h]; simp [frL]
      exact ⟨fun _ => rtG_no h, fun h => absurd e h⟩
    · have hrt := rtG_yes (f := f) (out := out) h hi
      have hch : chF xs (f + 1) q = frL xs ((i : Int) :: bwL xs awV f (awV xs[i]).1 (awV xs[i]).2) := by unfold chF; rw [bwL_yes h hi]
      by_cases e1 : kdE xs[i] = 1
      · have ha : awV xs[i] = (0, false) := by unfold awV; rw [if_neg (by omega)]
        have hc1 : chF xs (f + 1) q = [(i : Int)] := by
          rw [hch, ha]
          show frL xs ((i : Int) :: bwL xs awV f 0 false) = _
          rw [bwL_false, frL_one hi, if_pos e1]
        have hk : keysOf xs [(i : Int)] = [pkV (byE xs[i]), ckV (reE xs[i])] := by
          unfold keysOf
          rw [List.flatMap_cons, List.flatMap_nil, List.append_nil, ownAt_at hi]
          unfold ownR
          rw [if_pos e1]
        rw [hc1, hk, hrt, if_pos e1]
        constructor
        · rintro (c | c)
          · cases c
          · rw [if_pos (by simp at c; omega)]
        · intro _ c
          rw [if_neg (by simp at c; omega)]
          refine ⟨putI_rises (putI_rises ho), fun z => ?_⟩
          rw [putI_mem, putI_mem]
          simp only [List.mem_cons, List.not_mem_nil, or_false]
          constructor
          · rintro (c | c | c)
            · exact Or.inr (Or.inr c)
            · exact Or.inr (Or.inl c)
            · exact Or.inl c
          · rintro (c | c | c)
            · exact Or.inr (Or.inr c)
            · exact Or.inr (Or.inl c)
            · exact Or.inl c
      · rw [hrt, if_neg e1]
        by_cases e2 : kdE xs[i] = 2 ∨ kdE xs[i] = 3 ∨ kdE xs[i] = 4
        · have ha : awV xs[i] = (paE xs[i], true) := by unfold awV; rw [if_pos e2]
          have hox := own_x e2 (hx _ (List.getElem_mem hi))
          have hc1 : chF xs (f + 1) q = if chF xs f (paE xs[i]) = [] then [] else chF xs f (paE xs[i]) ++ [(i : Int)] := by
            rw [hch, ha]
            show frL xs ((i : Int) :: bwL xs awV f (paE xs[i]) true) = _
            by_cases hb : bwL xs awV f (paE xs[i]) true = []
            · have : chF xs f (paE xs[i]) = [] := by unfold chF; rw [hb]; simp [frL]
              rw [this, if_pos rfl, hb, frL_one hi, if_neg e1]
            · rw [frL_cons hb]
              rfl
          obtain ⟨ih1, ih2⟩ := rt_bw xs hx f (putI out (xS xs[i])) (paE xs[i]) (putI_rises ho)
          by_cases hn : chF xs f (paE xs[i]) = []
          · rw [if_pos hn] at hc1
            refine ⟨fun _ => ?_, fun c => absurd hc1 c⟩
            by_cases x0 : xS xs[i] = 0
            · rw [if_pos x0]
            · rw [if_neg x0]; exact ih1 (Or.inl hn)
          · rw [if_neg hn] at hc1
            rw [hc1, keysOf_snoc, ownAt_at hi, hox]
            constructor
            · rintro (c | c)
              · simp at c
              · by_cases x0 : xS xs[i] = 0
                · rw [if_pos x0]
                · rw [if_neg x0]
                  refine ih1 (Or.inr ?_)
                  rcases List.mem_append.1 c with c | c
                  · exact c
                  · rw [List.mem_singleton] at c; exact absurd c.symm x0
            · intro _ c
              have x0 : ¬ xS xs[i] = 0 := fun e => c (List.mem_append_right _ (by rw [e]; simp))
              have c2 : ¬ (0 : Int) ∈ keysOf xs (chF xs f (paE xs[i])) := fun e => c (List.mem_append_left _ e)
              obtain ⟨p1, p2⟩ := ih2 hn c2
              rw [if_neg x0]
              refine ⟨p1, fun z => ?_⟩
              rw [p2 z, putI_mem, List.mem_append, List.mem_singleton]
              constructor
              · rintro ((c | c) | c)
                · exact Or.inr (Or.inr c)
                · exact Or.inl c
                · exact Or.inr (Or.inl c)
              · rintro (c | c | c)
                · exact Or.inl (Or.inr c)
                · exact Or.inr c
                · exact Or.inl (Or.inl c)
        · have ha : awV xs[i] = (0, false) := by unfold awV; rw [if_neg e2]
          have hc1 : chF xs (f + 1) q = [] := by
            rw [hch, ha]
            show frL xs ((i : Int) :: bwL xs awV f 0 false) = _
            rw [bwL_false, frL_one hi, if_neg e1]
          refine ⟨fun _ => ?_, fun c => absurd hc1 c⟩
          rw [if_pos (by unfold xS; rw [if_neg (by omega), if_neg (by omega)])]
theorem btw_le {n lo hi : Int} (h : btw n lo hi = true) : lo ≤ n ∧ n ≤ hi := (btw_iff _ _ _).1 h
theorem pk_le (p : Int) : 0 ≤ pkV p ∧ pkV p ≤ 100 := by
  unfold pkV
  split
  · rename_i h; have := btw_le h; omega
  · split
    · rename_i h; have := btw_le h; omega
    · omega
theorem ck_le (p : Int) : 0 ≤ ckV p ∧ ckV p ≤ 100 := by
  unfold ckV
  split
  · rename_i h; have := btw_le h; omega
  · omega
theorem lk_le (a b : Int) : 0 ≤ lkV a b ∧ lkV a b ≤ 100 := by
  unfold lkV
  split
  · rename_i h
    rw [Bool.and_eq_true] at h
    have h1 := btw_le h.1
    have h2 := btw_le h.2
    omega
  · omega
theorem own_le (p : TE) : ∀ z ∈ ownR p, 0 ≤ z ∧ z ≤ 100 := by
  intro z hz
  unfold ownR at hz
  split at hz
  · simp only [List.mem_cons, List.not_mem_nil, or_false] at hz
    rcases hz with rfl | rfl
    · exact pk_le _
    · exact ck_le _
  · split at hz
    · rw [List.mem_singleton] at hz; subst hz; exact lk_le _ _
    · rw [List.mem_singleton] at hz; subst hz
      unfold skV
      split
      · exact pk_le _
      · omega
theorem keys_le (xs : List TE) (l : List Int) : ∀ z ∈ keysOf xs l, 0 ≤ z ∧ z ≤ 100 := by
  intro z hz
  unfold keysOf at hz
  obtain ⟨y, _, hy⟩ := List.mem_flatMap.1 hz
  exact own_le _ z hy
theorem rt_same (c : Cf) (xs : List TE) (n : Int) (hx : ∀ p ∈ xs, i64 (seE p)) : rtS c xs n = roP c xs n := by
  unfold rtS roP
  by_cases hc : confB c = true
  · rw [if_pos hc, if_pos hc]
    obtain ⟨h1, h2⟩ := rt_bw xs hx (xs.length + 1) [] n List.Pairwise.nil
    rw [chF_len] at h1 h2
    have hE : chF xs xs.length n = chA xs n := rfl
    rw [hE] at h1 h2
    by_cases hn : chA xs n = []
    · rw [h1 (Or.inl hn), hn]
      have : keysOf xs [] = [] := rfl
      rw [this]
      simp [riL, Lib.compact, Lib.compactUpTo]
    · by_cases h0 : (0 : Int) ∈ keysOf xs (chA xs n)
      · rw [h1 (Or.inr h0), if_neg]
        intro c
        have := List.all_eq_true.1 c 0 h0
        simp [btw] at this
      · obtain ⟨p1, p2⟩ := h2 hn h0
        rw [if_pos]
        · refine sorted_ext _ _ p1 (riL_rises _) fun z => ?_
          rw [p2 z, riL_mem]
          simp
        · rw [List.all_eq_true]
          intro z hz
          have := keys_le xs _ z hz
          refine (btw_iff _ _ _).2 ⟨?_, by omega⟩
          by_cases e : z = 0
          · subst e; exact absurd hz h0
          · omega
  · rw [if_neg hc, if_neg hc]
theorem roP_len (c : Cf) (xs : List TE) (n : Int) : (roP c xs n).length ≤ 2 * xs.length := by
  unfold roP
  have h1 := riL_len (keysOf xs (chA xs n))
  have h2 := keysOf_len xs (chA xs n)
  have h3 := chA_len xs n
  split
  · split
    · omega
    · simp
  · simp
theorem roP_in (c : Cf) (xs : List TE) (n : Int) : ∀ z ∈ roP c xs n, 0 ≤ z ∧ z ≤ 100 := by
  intro z hz
  unfold roP at hz
  split at hz
  · split at hz
    · exact keys_le xs _ z ((riL_mem _ _).1 hz)
    · cases hz
  · cases hz
end Go.Proofs.Ythmompnlkclfaaa
