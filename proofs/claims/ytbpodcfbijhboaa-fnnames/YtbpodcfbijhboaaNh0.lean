/- Chapter 18 as plain data: names read. -/
import Derived.Test.YtbpodcfbijhboaaNg0
set_option linter.unusedVariables false
set_option maxRecDepth 100000
namespace Go.Proofs.Ytbpodcfbijhboaa.Nd
open Go Go.RowKit Go.Joins Own Draw

/-- The program's way, over what is left of the text: pieces that are done, the last one, in the Realm, quoted. -/
abbrev SI := List (List UInt8) × List UInt8 × Bool × Bool
def pI : List UInt8 → SI → SI
  | [], st => st
  | b :: t, (ps, l, r, q) =>
    if q = true ∨ sgB b = false then pI t (ps, l ++ [b], r, false)
    else if b.toNat = 92 then pI t (ps, l, r, true)
    else if r = true then (ps, l, r, q)
    else pI t (ps ++ [l], [], decide (b.toNat = 64), q)
def strB (l : List UInt8) : ByteArray := ⟨l.toArray⟩
def nmI (st : SI) : PT := if st.2.2.1 = true then (st.1.map strB, strB st.2.1) else ((st.1 ++ [st.2.1]).map strB, ByteArray.empty)
def fI (s : ByteArray) : PT := nmI (pI s.data.toList ([], [], false, false))
/-- The model's way. -/
abbrev SS := List ByteArray × List UInt8 × Bool
def pS : List UInt8 → SS → SS
  | [], st => st
  | [b], (ps, l, r) =>
    if b.toNat = 47 ∧ r = false then (ps ++ [strB l], [], r)
    else if b.toNat = 64 ∧ r = false then (ps ++ [strB l], [], true)
    else (ps, l ++ [b], r)
  | b :: c :: t, (ps, l, r) =>
    if b.toNat = 92 then pS t (ps, l ++ [c], r)
    else if b.toNat = 47 ∧ r = false then pS (c :: t) (ps ++ [strB l], [], r)
    else if b.toNat = 64 ∧ r = false then pS (c :: t) (ps ++ [strB l], [], true)
    else pS (c :: t) (ps, l ++ [b], r)
def nmS (st : SS) : PT := if st.2.2 = true then (st.1, strB st.2.1) else (st.1 ++ [strB st.2.1], ByteArray.empty)
def fS (s : ByteArray) : PT := nmS (pS s.data.toList ([], [], false))
theorem sg_92 {b : UInt8} (h : b.toNat = 92) : sgB b = true := by unfold sgB; rw [decide_eq_true h, Bool.or_true, Bool.or_true]
theorem not_sg {b : UInt8} (h : sgB b = false) : b.toNat ≠ 47 ∧ b.toNat ≠ 64 ∧ b.toNat ≠ 92 := by
  unfold sgB at h
  simp only [Bool.or_eq_false_iff, decide_eq_false_iff_not] at h
  exact ⟨h.1, h.2.1, h.2.2⟩
theorem pI_plain {b : UInt8} (h : sgB b = false) (t : List UInt8) (ps : List (List UInt8)) (l : List UInt8) (r q : Bool) : pI (b :: t) (ps, l, r, q) = pI t (ps, l ++ [b], r, false) := by
  show (if q = true ∨ sgB b = false then _ else _) = _
  rw [if_pos (Or.inr h)]
theorem pI_quoted (b : UInt8) (t : List UInt8) (ps : List (List UInt8)) (l : List UInt8) (r : Bool) : pI (b :: t) (ps, l, r, true) = pI t (ps, l ++ [b], r, false) := by
  show (if true = true ∨ sgB b = false then _ else _) = _
  rw [if_pos (Or.inl rfl)]
theorem pI_quote {b : UInt8} (h : b.toNat = 92) (t : List UInt8) (ps : List (List UInt8)) (l : List UInt8) (r : Bool) : pI (b :: t) (ps, l, r, false) = pI t (ps, l, r, true) := by
  show (if false = true ∨ sgB b = false then _ else if b.toNat = 92 then _ else _) = _
  rw [if_neg (by rw [sg_92 h]; simp), if_pos h]
theorem pI_stop {b : UInt8} (h : sgB b = true) (h2 : b.toNat ≠ 92) (t : List UInt8) (ps : List (List UInt8)) (l : List UInt8) : pI (b :: t) (ps, l, true, false) = (ps, l, true, false) := by
  show (if false = true ∨ sgB b = false then _ else if b.toNat = 92 then _ else if true = true then _ else _) = _
  rw [if_neg (by rw [h]; simp), if_neg h2, if_pos rfl]
theorem pI_part {b : UInt8} (h : sgB b = true) (h2 : b.toNat ≠ 92) (t : List UInt8) (ps : List (List UInt8)) (l : List UInt8) : pI (b :: t) (ps, l, false, false) = pI t (ps ++ [l], [], decide (b.toNat = 64), false) := by
  show (if false = true ∨ sgB b = false then _ else if b.toNat = 92 then _ else if false = true then _ else _) = _
  rw [if_neg (by rw [h]; simp), if_neg h2, if_neg (by decide)]
theorem pI_esc : ∀ (l t : List UInt8) (ps : List (List UInt8)) (a : List UInt8) (r : Bool), pI (escL l ++ t) (ps, a, r, false) = pI t (ps, a ++ l, r, false)
  | [], t, ps, a, r => by show pI t _ = _; rw [List.append_nil]
  | b :: l, t, ps, a, r => by
    unfold escL
    by_cases h : sgB b = true
    · rw [if_pos h, List.cons_append, List.cons_append, pI_quote (by decide), pI_quoted, pI_esc l, List.append_assoc]; rfl
    · rw [if_neg h, List.cons_append, pI_plain (by simpa using h), pI_esc l, List.append_assoc]; rfl
theorem pS_more {b : UInt8} (h : b.toNat ≠ 92) (t : List UInt8) (ps : List ByteArray) (l : List UInt8) (r : Bool) :
    pS (b :: t) (ps, l, r) = if b.toNat = 47 ∧ r = false then pS t (ps ++ [strB l], [], r) else if b.toNat = 64 ∧ r = false then pS t (ps ++ [strB l], [], true) else pS t (ps, l ++ [b], r) := by
  cases t with
  | nil => rfl
  | cons c t =>
    show (if b.toNat = 92 then _ else _) = _
    rw [if_neg h]
theorem pS_quote {b : UInt8} (h : b.toNat = 92) (c : UInt8) (t : List UInt8) (ps : List ByteArray) (l : List UInt8) (r : Bool) : pS (b :: c :: t) (ps, l, r) = pS t (ps, l ++ [c], r) := by
  show (if b.toNat = 92 then _ else _) = _
  rw [if_pos h]
theorem pS_last {b : UInt8} (h : b.toNat = 92) (ps : List ByteArray) (l : List UInt8) (r : Bool) : pS [b] (ps, l, r) = (ps, l ++ [b], r) := by
  show (if b.toNat = 47 ∧ r = false then _ else if b.toNat = 64 ∧ r = false then _ else _) = _
  rw [if_neg (by omega), if_neg (by omega)]
theorem pS_esc : ∀ (l t : List UInt8) (ps : List ByteArray) (a : List UInt8) (r : Bool), pS (escL l ++ t) (ps, a, r) = pS t (ps, a ++ l, r)
  | [], t, ps, a, r => by show pS t _ = _; rw [List.append_nil]
  | b :: l, t, ps, a, r => by
    unfold escL
    by_cases h : sgB b = true
    · rw [if_pos h, List.cons_append, List.cons_append, pS_quote (by decide), pS_esc l, List.append_assoc]; rfl
    · have hn := not_sg (b := b) (by simpa using h)
      rw [if_neg h, List.cons_append, pS_more hn.2.2, if_neg (by omega), if_neg (by omega), pS_esc l, List.append_assoc]; rfl
def byL (s : ByteArray) : List UInt8 := s.data.toList
theorem byL_app (a b : ByteArray) : byL (a ++ b) = byL a ++ byL b := by unfold byL; simp [ByteArray.data_append]
theorem byL_esc (s : ByteArray) : byL (escB s) = escL (byL s) := by unfold byL escB; simp
theorem str_by (s : ByteArray) : strB (byL s) = s := by unfold strB byL; cases s; simp
theorem byL_inj {a b : ByteArray} (h : byL a = byL b) : a = b := by rw [← str_by a, ← str_by b, h]
theorem byL_empty : byL ByteArray.empty = [] := rfl
/-- The parts that were read behind k + 1 of them. -/
theorem pI_jo {xs : List ByteArray} : ∀ (k : Nat) (h : k < xs.length) (t : List UInt8), pI (byL (jo xs (k + 1)) ++ t) ([], [], false, false) = pI t ((xs.take k).map byL, byL (xs[k]'h), false, false)
  | 0, h, t => by
    rw [jo_first h, byL_esc, pI_esc]; rfl
  | k + 1, h, t => by
    rw [jo_next h (by omega), byL_app, byL_app, byL_esc, List.append_assoc, List.append_assoc, pI_jo k (by omega)]
    show pI (47 :: (escL (byL xs[k + 1]) ++ t)) _ = _
    rw [pI_part (by decide) (by decide), pI_esc, List.take_succ_eq_append_getElem (show k < xs.length by omega), List.map_append]
    rfl
theorem pS_jo {xs : List ByteArray} : ∀ (k : Nat) (h : k < xs.length) (t : List UInt8), pS (byL (jo xs (k + 1)) ++ t) ([], [], false) = pS t (xs.take k, byL (xs[k]'h), false)
  | 0, h, t => by
    rw [jo_first h, byL_esc, pS_esc]; rfl
  | k + 1, h, t => by
    rw [jo_next h (by omega), byL_app, byL_app, byL_esc, List.append_assoc, List.append_assoc, pS_jo k (by omega)]
    show pS (47 :: (escL (byL xs[k + 1]) ++ t)) _ = _
    rw [pS_more (by decide), if_pos ⟨by decide, rfl⟩, pS_esc, str_by, List.take_succ_eq_append_getElem (show k < xs.length by omega)]
    rfl
theorem map_str (xs : List ByteArray) : (xs.map byL).map strB = xs := by
  rw [List.map_map]
  have : (strB ∘ byL) = id := by funext s; exact str_by s
  rw [this, List.map_id]
/-- What is shown of a right name is read as it, both ways. -/
theorem read_show {p : PT} (h : okN p = true) : fI (showN p) = p ∧ fS (showN p) = p := by
  obtain ⟨xs, m⟩ := p
  obtain ⟨⟨h1, _⟩, _⟩ := ok_parts h
  dsimp only at h1
  obtain ⟨n, hn⟩ : ∃ n, xs.length = n + 1 := ⟨xs.length - 1, by omega⟩
  have hlt : n < xs.length := by omega
  have htk : xs.take n ++ [xs[n]] = xs := by
    rw [← List.take_succ_eq_append_getElem hlt, ← hn]
    exact List.take_length
  have e : showN (xs, m) = if m = ByteArray.empty then jo xs (n + 1) else jo xs (n + 1) ++ atB ++ escB m := by
    unfold showN; rw [if_pos h]; dsimp only; rw [hn]
  rw [e]
  by_cases hm : m = ByteArray.empty
  · rw [if_pos hm]
    subst hm
    constructor
    · have := pI_jo n hlt []
      rw [List.append_nil] at this
      unfold fI
      show nmI (pI (byL (jo xs (n + 1))) _) = _
      rw [this]
      show nmI ((xs.take n).map byL, byL xs[n], false, false) = _
      unfold nmI
      rw [if_neg (by simp)]
      dsimp only
      rw [show (xs.take n).map byL ++ [byL xs[n]] = (xs.take n ++ [xs[n]]).map byL by rw [List.map_append]; rfl, htk, map_str]
    · have := pS_jo n hlt []
      rw [List.append_nil] at this
      unfold fS
      show nmS (pS (byL (jo xs (n + 1))) _) = _
      rw [this]
      show nmS (xs.take n, byL xs[n], false) = _
      unfold nmS
      rw [if_neg (by simp)]
      dsimp only
      rw [str_by, htk]
  · rw [if_neg hm]
    constructor
    · unfold fI
      show nmI (pI (byL (jo xs (n + 1) ++ atB ++ escB m)) _) = _
      rw [byL_app, byL_app, byL_esc, List.append_assoc, pI_jo n hlt]
      show nmI (pI (64 :: escL (byL m)) _) = _
      rw [pI_part (by decide) (by decide)]
      have := pI_esc (byL m) [] ((xs.take n).map byL ++ [byL xs[n]]) [] (decide ((64 : UInt8).toNat = 64))
      rw [List.append_nil] at this
      rw [this]
      show nmI ((xs.take n).map byL ++ [byL xs[n]], [] ++ byL m, true, false) = _
      unfold nmI
      rw [if_pos rfl]
      dsimp only
      rw [List.nil_append, str_by, show (xs.take n).map byL ++ [byL xs[n]] = (xs.take n ++ [xs[n]]).map byL by rw [List.map_append]; rfl, htk, map_str]
    · unfold fS
      show nmS (pS (byL (jo xs (n + 1) ++ atB ++ escB m)) _) = _
      rw [byL_app, byL_app, byL_esc, List.append_assoc, pS_jo n hlt]
      show nmS (pS (64 :: escL (byL m)) _) = _
      rw [pS_more (by decide), if_neg (by decide), if_pos ⟨by decide, rfl⟩]
      have := pS_esc (byL m) [] (xs.take n ++ [strB (byL xs[n])]) [] true
      rw [List.append_nil] at this
      rw [this]
      show nmS (xs.take n ++ [strB (byL xs[n])], [] ++ byL m, true) = _
      unfold nmS
      rw [if_pos rfl]
      dsimp only
      rw [List.nil_append, str_by, str_by, htk]
/-- What is read of a text, and whether any. -/
def gdN (s : ByteArray) : Bool := okN (fS s) && decide (showN (fS s) = s)
def rdN (s : ByteArray) : PT := if gdN s = true then fS s else ([], ByteArray.empty)
theorem show_some {p : PT} (h : okN p = true) : showN p ≠ ByteArray.empty := by
  intro c
  have e := (read_show h).1
  rw [c] at e
  have hk := (ok_parts h).2.1
  have e2 : fI ByteArray.empty = ([ByteArray.empty], ByteArray.empty) := rfl
  rw [e2] at e
  rw [← e] at hk
  have := (hk ByteArray.empty (by simp)).1
  exact absurd this (by decide)
theorem gd_spec (s : ByteArray) : gdN s = (!(decide (s = ByteArray.empty)) && decide (showN (fS s) = s)) := by
  unfold gdN
  by_cases h : okN (fS s) = true
  · rw [h]
    by_cases hs : showN (fS s) = s
    · have : s ≠ ByteArray.empty := by rw [← hs]; exact show_some h
      rw [decide_eq_false this, decide_eq_true hs]; rfl
    · rw [decide_eq_false hs, Bool.and_false, Bool.and_false]
  · by_cases hs : showN (fS s) = s
    · have : s = ByteArray.empty := by rw [← hs]; unfold showN; rw [if_neg h]
      rw [decide_eq_true this]; simp at h; rw [h]; rfl
    · rw [decide_eq_false hs, Bool.and_false, Bool.and_false]
/-- What the program asks of its own name says the same. -/
theorem gd_impl (s : ByteArray) (p : PT) (hp : gdN s = true → p = fI s) : (okN p && decide (showN p = s)) = gdN s ∧ (gdN s = true → p = rdN s) := by
  by_cases hg : gdN s = true
  · have e := hp hg
    have hg2 := hg
    unfold gdN at hg2
    simp only [Bool.and_eq_true, decide_eq_true_eq] at hg2
    have e2 : fI s = fS s := by
      have h1 := read_show hg2.1
      rw [hg2.2] at h1
      rw [h1.1]
    rw [e, e2, hg2.1, decide_eq_true hg2.2, hg]
    exact ⟨rfl, fun _ => by unfold rdN; rw [if_pos hg]⟩
  · refine ⟨?_, fun h => absurd h hg⟩
    rw [Bool.not_eq_true] at hg
    rw [hg]
    by_cases h1 : okN p = true
    · by_cases h2 : showN p = s
      · exfalso
        have h3 := (read_show h1).2
        rw [h2] at h3
        unfold gdN at hg
        rw [h3, h1, decide_eq_true h2] at hg
        cases hg
      · rw [decide_eq_false h2, Bool.and_false]
    · simp at h1; rw [h1]; rfl
theorem esc_low {l : List UInt8} (h : ∀ b ∈ l, b.toNat < 128) : ∀ b ∈ escL l, b.toNat < 128 := by
  induction l with
  | nil => intro b hb; cases hb
  | cons x t ih =>
    intro b hb
    have ht := ih (fun y hy => h y (List.mem_cons_of_mem _ hy))
    unfold escL at hb
    split at hb
    · rcases List.mem_cons.1 hb with rfl | hb
      · decide
      · rcases List.mem_cons.1 hb with rfl | hb
        · exact h _ (List.mem_cons_self ..)
        · exact ht b hb
    · rcases List.mem_cons.1 hb with rfl | hb
      · exact h _ (List.mem_cons_self ..)
      · exact ht b hb
theorem all_low {s : ByteArray} (h : allB s = true) : ∀ b ∈ byL s, b.toNat < 128 := by
  intro b hb
  unfold allB at h
  rw [List.all_eq_true] at h
  have := h b hb
  unfold inB at this
  simp only [Bool.and_eq_true, decide_eq_true_eq] at this
  omega
theorem jo_low {xs : List ByteArray} (h : ∀ x ∈ xs, x.size ≤ 20 ∧ allB x = true) : ∀ (k : Nat), k < xs.length → (∀ b ∈ byL (jo xs (k + 1)), b.toNat < 128) ∧ (jo xs (k + 1)).size + 1 ≤ 41 * (k + 1)
  | 0, hk => by
    have hx := h xs[0] (List.getElem_mem hk)
    have hs := escB_size xs[0]
    rw [jo_first hk]
    refine ⟨fun b hb => ?_, by omega⟩
    rw [byL_esc] at hb
    exact esc_low (all_low hx.2) b hb
  | k + 1, hk => by
    have hx := h xs[k + 1] (List.getElem_mem hk)
    have hs := escB_size xs[k + 1]
    obtain ⟨i1, i2⟩ := jo_low h k (by omega)
    rw [jo_next hk (by omega)]
    refine ⟨fun b hb => ?_, ?_⟩
    · rw [byL_app, byL_app, byL_esc] at hb
      rcases List.mem_append.1 hb with hb | hb
      · rcases List.mem_append.1 hb with hb | hb
        · exact i1 b hb
        · have : b = 47 := by simpa [byL] using hb
          subst this; decide
      · exact esc_low (all_low hx.2) b hb
    · rw [ByteArray.size_append, ByteArray.size_append]
      have : slash.size = 1 := rfl
      omega
theorem show_low {p : PT} (h : okN p = true) : (∀ b ∈ byL (showN p), b.toNat < 128) ∧ (showN p).size ≤ 204 := by
  obtain ⟨xs, m⟩ := p
  obtain ⟨⟨h1, h2⟩, h3, h4, h5⟩ := ok_parts h
  dsimp only at h1 h2 h3 h4 h5
  obtain ⟨n, hn⟩ : ∃ n, xs.length = n + 1 := ⟨xs.length - 1, by omega⟩
  obtain ⟨j1, j2⟩ := jo_low (fun x hx => (h3 x hx).2) n (by omega)
  unfold showN
  rw [if_pos h]
  dsimp only
  rw [hn]
  by_cases hm : m = ByteArray.empty
  · rw [if_pos hm]; exact ⟨j1, by omega⟩
  · rw [if_neg hm]
    have hs := escB_size m
    refine ⟨fun b hb => ?_, ?_⟩
    · rw [byL_app, byL_app, byL_esc] at hb
      rcases List.mem_append.1 hb with hb | hb
      · rcases List.mem_append.1 hb with hb | hb
        · exact j1 b hb
        · have : b = 64 := by simpa [byL] using hb
          subst this; decide
      · exact esc_low (all_low h5) b hb
    · rw [ByteArray.size_append, ByteArray.size_append]
      have : atB.size = 1 := rfl
      omega
theorem gd_ascii {s : ByteArray} (h : gdN s = true) : (∀ b ∈ byL s, b.toNat < 128) ∧ s.size ≤ 204 := by
  unfold gdN at h
  simp only [Bool.and_eq_true, decide_eq_true_eq] at h
  have := show_low h.1
  rw [h.2] at this
  exact this
end Go.Proofs.Ytbpodcfbijhboaa.Nd
