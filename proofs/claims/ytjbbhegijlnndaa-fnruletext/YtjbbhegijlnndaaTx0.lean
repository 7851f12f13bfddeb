/- Numbers read from texts. -/
import Derived.Test.YtjbbhegijlnndaaSh0
import Derived.Test.YtjbbhegijlnndaaReadVarMath
import Derived.Test.YtjbbhegijlnndaaRu4
set_option linter.unusedVariables false
set_option maxRecDepth 100000
namespace Go.Proofs.Ytjbbhegijlnndaa.Nd
open Go Go.RowKit Go.Joins Own Draw Go.Proofs.Ytjbbhegijlnndaa Go.Proofs.Ytjbbhegijlnndaa.Var

/-- What stands from place i on. -/
def suf (s : ByteArray) (i : Nat) : ByteArray := s.extract i s.size
theorem suf_size (s : ByteArray) (i : Nat) : (suf s i).size = s.size - i := by simp [suf, ByteArray.size_extract]
theorem suf_list (s : ByteArray) (i : Nat) : (suf s i).data.toList = s.data.toList.drop i := by
  have h : s.data.toList.length = s.size := rfl
  simp [suf, ByteArray.data_extract, List.extract]
  rw [List.take_of_length_le]
  rw [List.length_drop]; omega
theorem ext_list {a b : ByteArray} (h : a.data.toList = b.data.toList) : a = b := by
  cases a; cases b; simp at h; simp [h]
theorem suf_suf (s : ByteArray) (i j : Nat) : suf (suf s i) j = suf s (i + j) := by
  apply ext_list; rw [suf_list, suf_list, suf_list, List.drop_drop]
theorem suf_zero (s : ByteArray) : suf s 0 = s := by apply ext_list; rw [suf_list, List.drop_zero]
theorem suf_at (s : ByteArray) (i : Nat) : at_ (suf s i) 0 = at_ s i := by
  unfold at_; rw [suf_list]; simp [List.getD_eq_getElem?_getD, List.getElem?_drop]
theorem empty_of (s : ByteArray) (h : s.size = 0) : s = ⟨#[]⟩ := by
  apply ByteArray.ext; exact Array.eq_empty_of_size_eq_zero h

/-- The first place from j on at which a number can end. -/
def find (s : ByteArray) : Nat → Nat → Nat × Nat
  | 0, _ => (0, 0)
  | f + 1, j => if j < s.size ∧ (∀ i, i < j → 128 ≤ at_ s i) ∧ at_ s j < 128 ∧ (j = 0 ∨ at_ s j ≠ 0) then (valB (s.data.toList.take (j + 1)), j + 1) else find s f (j + 1)
theorem find_ans (s : ByteArray) : ∀ f j, f + j = 7 → (∀ i, i < j → i < s.size → ¬ canonK s i) → Ans s (find s f j).1 (find s f j).2 := by
  intro f
  induction f with
  | zero => intro j hj h; exact Or.inl ⟨rfl, rfl, fun i h7 hs => h i (by omega) hs⟩
  | succ f ih =>
    intro j hj h
    rw [find]
    split
    · rename_i hc
      exact Or.inr ⟨by simp, by simp; omega, by simp; omega, by simpa [canonK] using hc.2, rfl⟩
    · rename_i hc
      refine ih (j + 1) (by omega) fun i hi hs hk => ?_
      by_cases e : i = j
      · subst e; exact hc ⟨hs, hk⟩
      · exact h i (by omega) hs hk
/-- The number that Var begins the text with, and how many bytes it takes. -/
def rvN (s : ByteArray) : Nat := (find s 7 0).1
def rvK (s : ByteArray) : Nat := (find s 7 0).2
theorem rv_ans (s : ByteArray) : Ans s (rvN s) (rvK s) := find_ans s 7 0 rfl fun i hi => absurd hi (by omega)
theorem rv_one {s : ByteArray} {n k : Nat} (h : Ans s n k) : n = rvN s ∧ k = rvK s := Ans_one s n k _ _ h (rv_ans s)
theorem rvK_le (s : ByteArray) : rvK s ≤ 7 ∧ rvK s ≤ s.size := by
  rcases rv_ans s with ⟨_, h, _⟩ | ⟨_, h1, h2, _⟩ <;> omega
theorem rvN_le (s : ByteArray) : rvN s ≤ 562949953421311 := by
  rcases rv_ans s with ⟨h, _, _⟩ | ⟨_, h1, h2, _, h⟩
  · omega
  · rw [h]; exact valB_seven _ (by have := List.length_take_le (rvK s) s.data.toList; omega)

theorem data_append (a b : ByteArray) : (a ++ b).data.toList = a.data.toList ++ b.data.toList := by simp [ByteArray.data_append]
theorem size_list (a : ByteArray) : a.size = a.data.toList.length := rfl
theorem valB_varB (n : Nat) : Var.valB (varB n) = n := by
  induction n using Nat.strongRecOn with
  | ind n ih =>
    by_cases h : n < 128
    · rw [varB_small n h]
      simp only [Var.valB]
      rw [UInt8.toNat_ofNat_of_lt' (by show _ < 256; omega)]
      omega
    · rw [varB_great n h]
      simp only [Var.valB]
      rw [UInt8.toNat_ofNat_of_lt' (by show _ < 256; omega), ih (n / 128) (by omega)]
      omega
theorem ans_made (n : Nat) (h : n ≤ 562949953421311) (t : ByteArray) : Ans (⟨(varB n).toArray⟩ ++ t) n (varB n).length := by
  have h7 := varB_seven n h
  have h1 := varB_pos n
  have e : (⟨(varB n).toArray⟩ ++ t : ByteArray).data.toList = varB n ++ t.data.toList := by rw [data_append]
  have hs : (⟨(varB n).toArray⟩ ++ t : ByteArray).size = (varB n).length + t.size := by rw [size_list, e, List.length_append]; rfl
  have et : (⟨(varB n).toArray⟩ ++ t : ByteArray).data.toList.take (varB n).length = varB n := by rw [e]; simp
  refine Or.inr ⟨h1, h7, by omega, ?_, ?_⟩
  · rw [Var.canonK_iff _ _ (by omega)]
    have e1 : (varB n).length - 1 + 1 = (varB n).length := by omega
    rw [e1, et, valB_varB]
  · rw [et, valB_varB]

theorem varOf_nat (n : Nat) (h : n ≤ 562949953421311) : varOf (n : Int) = ⟨(varB n).toArray⟩ := by unfold varOf; rw [if_pos (by omega)]; rfl
theorem rv_made (n : Nat) (h : n ≤ 562949953421311) (t : ByteArray) : rvN (varOf (n : Int) ++ t) = n ∧ rvK (varOf (n : Int) ++ t) = (varOf (n : Int)).size ∧ rvK (varOf (n : Int) ++ t) ≠ 0 := by
  have h1 := ans_made n h t
  rw [← varOf_nat n h] at h1
  have h2 := rv_one h1
  have h3 := varB_pos n
  have h4 : (varOf (n : Int)).size = (varB n).length := by rw [varOf_nat n h]; rfl
  refine ⟨h2.1.symm, by rw [h4]; exact h2.2.symm, by rw [← h2.2]; omega⟩
theorem suf_app (a b : ByteArray) : suf (a ++ b) a.size = b := by
  apply ext_list; rw [suf_list, data_append, size_list, List.drop_left]
theorem rv_taken {t : ByteArray} (h : rvK t ≠ 0) : t = varOf (rvN t : Int) ++ suf t (rvK t) := by
  rcases rv_ans t with ⟨_, h0, _⟩ | ⟨k1, k7, ks, hc, hv⟩
  · exact absurd h0 h
  · have hcv := (canonK_iff t (rvK t - 1) (by omega)).1 hc
    rw [(by omega : rvK t - 1 + 1 = rvK t), ← hv] at hcv
    apply ext_list
    rw [varOf_nat _ (rvN_le t), data_append, suf_list]
    show _ = varB (rvN t) ++ _
    rw [hcv, List.take_append_drop]
theorem app_assoc (a b c : ByteArray) : a ++ b ++ c = a ++ (b ++ c) := by apply ext_list; simp only [data_append, List.append_assoc]
theorem nil_app (a : ByteArray) : ⟨#[]⟩ ++ a = a := by apply ext_list; rw [data_append]; simp
theorem app_nil (a : ByteArray) : a ++ ⟨#[]⟩ = a := by apply ext_list; rw [data_append]; simp
theorem shN_cut : ∀ (xs : List Int) (s : ByteArray), shN s xs = s ++ shN ⟨#[]⟩ xs
  | [], s => (app_nil s).symm
  | x :: xs, s => by
    show shN (s ++ varOf x) xs = s ++ shN (⟨#[]⟩ ++ varOf x) xs
    rw [shN_cut xs (s ++ varOf x), shN_cut xs (⟨#[]⟩ ++ varOf x), nil_app, app_assoc]
def shR (p : PT) : ByteArray := shH p ++ shN ⟨#[]⟩ p.2.1
theorem shS_one (s : ByteArray) (p : PT) : shN (s ++ shH p) p.2.1 = s ++ shR p := by rw [shN_cut, app_assoc]; rfl
theorem shS_snoc' (s : ByteArray) (l : List PT) (p : PT) : shS s (l ++ [p]) = shS s l ++ shR p := by rw [shS_snoc, shS_one]
theorem shS_cut : ∀ (l : List PT) (s : ByteArray), shS s l = s ++ shS ⟨#[]⟩ l
  | [], s => (app_nil s).symm
  | p :: l, s => by
    show shS (shN (s ++ shH p) p.2.1) l = s ++ shS (shN (⟨#[]⟩ ++ shH p) p.2.1) l
    rw [shS_cut l (shN (s ++ shH p) p.2.1), shS_cut l (shN (⟨#[]⟩ ++ shH p) p.2.1), shS_one, shS_one, nil_app, app_assoc]
theorem shH_nums (p : PT) : shH p = shN ⟨#[]⟩ [p.1, p.2.2, (p.2.1.length : Int)] := by
  show _ = ⟨#[]⟩ ++ varOf p.1 ++ varOf p.2.2 ++ varOf (p.2.1.length : Int)
  rw [nil_app]; rfl
theorem ok_bounds {p : PT} (h : okP p = true) : (0 ≤ p.1 ∧ p.1 ≤ 5) ∧ (0 ≤ p.2.2 ∧ p.2.2 ≤ 100000) ∧ (∀ x ∈ p.2.1, 0 ≤ x ∧ x ≤ 30) ∧ p.2.1.length ≤ 31 := by
  have hs := okP_set h
  refine ⟨?_, ?_, fun x hx => by have := ri_mem hs x hx; omega, ri_len hs⟩
  · by_cases hk : 4 ≤ p.1
    · have := okP_high h hk; omega
    · have := okP_low h hk; omega
  · by_cases hk : 4 ≤ p.1
    · have := okP_high h hk; omega
    · have := okP_low h hk; omega
end Go.Proofs.Ytjbbhegijlnndaa.Nd

set_option linter.unusedVariables false
set_option maxRecDepth 100000
namespace Go.Proofs.Ytjbbhegijlnndaa.Nd
open Go Go.RowKit Go.Joins Own Draw Go.Proofs.Ytjbbhegijlnndaa Go.Proofs.Ytjbbhegijlnndaa.Var

/-- The next number, at most g; of a text that broke there is none. -/
def upF (g : Int) : Option ByteArray → Int × Option ByteArray
  | none => (0, none)
  | some t => if rvK t = 0 ∨ g < (rvN t : Int) then (0, none) else ((rvN t : Int), some (suf t (rvK t)))
theorem upF_eq (g : Int) (t : ByteArray) : upF g (some t) = if rvK t = 0 ∨ g < (rvN t : Int) then (0, none) else ((rvN t : Int), some (suf t (rvK t))) := rfl
def itN : Nat → Option ByteArray → List Int × Option ByteArray
  | 0, st => ([], st)
  | i + 1, st => ((itN i st).1 ++ [(upF 30 (itN i st).2).1], (upF 30 (itN i st).2).2)
def rdR (st : Option ByteArray) : PT × Option ByteArray :=
  (((upF 5 st).1, (itN (upF 31 (upF 100000 (upF 5 st).2).2).1.toNat (upF 31 (upF 100000 (upF 5 st).2).2).2).1, (upF 100000 (upF 5 st).2).1), (itN (upF 31 (upF 100000 (upF 5 st).2).2).1.toNat (upF 31 (upF 100000 (upF 5 st).2).2).2).2)
def itR : Nat → Option ByteArray → List PT × Option ByteArray
  | 0, st => ([], st)
  | i + 1, st => ((itR i st).1 ++ [(rdR (itR i st).2).1], (rdR (itR i st).2).2)
def endI (x : List PT × Option ByteArray) : List PT × Bool := if x.2 = some ⟨#[]⟩ ∧ okL x.1 = true then (x.1, true) else ([], false)
def rdI (s : ByteArray) : List PT × Bool := endI (itR (upF 20 (some s)).1.toNat (upF 20 (some s)).2)
theorem upF_bound (g : Int) (hg : 0 ≤ g) (st : Option ByteArray) : 0 ≤ (upF g st).1 ∧ (upF g st).1 ≤ g := by
  cases st with
  | none => exact ⟨Int.le_refl _, hg⟩
  | some t =>
    rw [upF_eq]
    split
    · exact ⟨Int.le_refl _, hg⟩
    · rename_i h
      have := not_or.1 h
      exact ⟨by show 0 ≤ (rvN t : Int); omega, by show (rvN t : Int) ≤ g; omega⟩
theorem upF_some {g : Int} {st : Option ByteArray} {t' : ByteArray} (h : (upF g st).2 = some t') : ∃ t, st = some t ∧ t = varOf (upF g st).1 ++ t' := by
  cases st with
  | none => cases h
  | some t =>
    refine ⟨t, rfl, ?_⟩
    rw [upF_eq] at h ⊢
    by_cases c : rvK t = 0 ∨ g < (rvN t : Int)
    · rw [if_pos c] at h; cases h
    · rw [if_neg c] at h ⊢
      have h2 : suf t (rvK t) = t' := by injection h
      rw [← h2]
      exact rv_taken (fun e => c (Or.inl e))
theorem itN_len (st : Option ByteArray) : ∀ i, (itN i st).1.length = i
  | 0 => rfl
  | i + 1 => by show ((itN i st).1 ++ [_]).length = _; rw [List.length_append, itN_len st i]; rfl
theorem itN_some {st : Option ByteArray} : ∀ {i : Nat} {t' : ByteArray}, (itN i st).2 = some t' → ∃ t, st = some t ∧ t = shN ⟨#[]⟩ (itN i st).1 ++ t'
  | 0, t', h => ⟨t', h, (nil_app t').symm⟩
  | i + 1, t', h => by
    obtain ⟨t1, h1, h2⟩ := upF_some (show (upF 30 (itN i st).2).2 = some t' from h)
    obtain ⟨t, h3, h4⟩ := itN_some h1
    refine ⟨t, h3, ?_⟩
    show t = shN ⟨#[]⟩ ((itN i st).1 ++ [(upF 30 (itN i st).2).1]) ++ t'
    rw [shN_snoc, h4, h2, app_assoc]
theorem rdR_some {st : Option ByteArray} {t' : ByteArray} (h : (rdR st).2 = some t') : ∃ t, st = some t ∧ t = shR (rdR st).1 ++ t' := by
  obtain ⟨t3, h3, e3⟩ := itN_some (show (itN (upF 31 (upF 100000 (upF 5 st).2).2).1.toNat (upF 31 (upF 100000 (upF 5 st).2).2).2).2 = some t' from h)
  obtain ⟨t2, h2, e2⟩ := upF_some h3
  obtain ⟨t1, h1, e1⟩ := upF_some h2
  obtain ⟨t0, h0, e0⟩ := upF_some h1
  refine ⟨t0, h0, ?_⟩
  have hb := (upF_bound 31 (by omega) (upF 100000 (upF 5 st).2).2).1
  have hl : ((rdR st).1.2.1.length : Int) = (upF 31 (upF 100000 (upF 5 st).2).2).1 := by
    show ((itN _ _).1.length : Int) = _
    rw [itN_len]
    omega
  unfold shR shH
  rw [hl, e0, e1, e2, e3]
  show _ = varOf (upF 5 st).1 ++ varOf (upF 100000 (upF 5 st).2).1 ++ varOf (upF 31 (upF 100000 (upF 5 st).2).2).1 ++ _ ++ t'
  simp only [app_assoc]
  rfl
theorem itR_len (st : Option ByteArray) : ∀ i, (itR i st).1.length = i
  | 0 => rfl
  | i + 1 => by show ((itR i st).1 ++ [_]).length = _; rw [List.length_append, itR_len st i]; rfl
theorem itR_some {st : Option ByteArray} : ∀ {i : Nat} {t' : ByteArray}, (itR i st).2 = some t' → ∃ t, st = some t ∧ t = shS ⟨#[]⟩ (itR i st).1 ++ t'
  | 0, t', h => ⟨t', h, (nil_app t').symm⟩
  | i + 1, t', h => by
    obtain ⟨t1, h1, h2⟩ := rdR_some (show (rdR (itR i st).2).2 = some t' from h)
    obtain ⟨t, h3, h4⟩ := itR_some h1
    refine ⟨t, h3, ?_⟩
    show t = shS ⟨#[]⟩ ((itR i st).1 ++ [(rdR (itR i st).2).1]) ++ t'
    rw [shS_snoc', h4, h2, app_assoc]
/-- What the program takes is shown as the text again. -/
theorem rdI_sound {s : ByteArray} (h : (rdI s).2 = true) : okL (rdI s).1 = true ∧ showP (rdI s).1 = s := by
  unfold rdI endI at h ⊢
  by_cases c : (itR (upF 20 (some s)).1.toNat (upF 20 (some s)).2).2 = some ⟨#[]⟩ ∧ okL (itR (upF 20 (some s)).1.toNat (upF 20 (some s)).2).1 = true
  · rw [if_pos c]
    refine ⟨c.2, ?_⟩
    obtain ⟨t1, h1, e1⟩ := itR_some c.1
    obtain ⟨t0, h0, e0⟩ := upF_some h1
    injection h0 with h0
    have hb := (upF_bound 20 (by omega) (some s)).1
    unfold showP
    rw [if_pos c.2, itR_len, shS_cut]
    rw [app_nil] at e1
    rw [e1] at e0
    refine Eq.trans ?_ (h0.trans e0).symm
    congr 2
    omega
  · rw [if_neg c] at h; cases h
theorem rdI_no {s : ByteArray} (h : (rdI s).2 = false) : (rdI s).1 = [] := by
  unfold rdI endI at h ⊢
  by_cases c : (itR (upF 20 (some s)).1.toNat (upF 20 (some s)).2).2 = some ⟨#[]⟩ ∧ okL (itR (upF 20 (some s)).1.toNat (upF 20 (some s)).2).1 = true
  · rw [if_pos c] at h; cases h
  · rw [if_neg c]
theorem upF_made {g n : Int} (h0 : 0 ≤ n) (h1 : n ≤ g) (h2 : g ≤ 562949953421311) (t : ByteArray) : upF g (some (varOf n ++ t)) = (n, some t) := by
  obtain ⟨m, rfl⟩ := Int.eq_ofNat_of_zero_le h0
  obtain ⟨e1, e2, e3⟩ := rv_made m (by omega) t
  rw [upF_eq, if_neg (by rw [e1]; omega), e1, e2, suf_app]
theorem itN_made : ∀ (i : Nat) (xs : List Int), xs.length = i → (∀ x ∈ xs, 0 ≤ x ∧ x ≤ 30) → ∀ t, itN i (some (shN ⟨#[]⟩ xs ++ t)) = (xs, some t)
  | 0, xs, hl, _, t => by
    rw [List.eq_nil_of_length_eq_zero hl]
    show ([], some (⟨#[]⟩ ++ t)) = _
    rw [nil_app]
  | i + 1, xs, hl, h, t => by
    obtain ⟨ys, x, rfl⟩ : ∃ ys x, xs = ys ++ [x] := ⟨xs.dropLast, xs.getLast (by intro e; rw [e] at hl; cases hl), (List.dropLast_concat_getLast _).symm⟩
    have hx := h x (by simp)
    have ih := itN_made i ys (by simpa using hl) (fun y hy => h y (by simp [hy])) (varOf x ++ t)
    rw [shN_snoc, app_assoc]
    unfold itN
    rw [ih, upF_made hx.1 hx.2 (by omega)]
theorem rdR_made {p : PT} (h : okP p = true) (t : ByteArray) : rdR (some (shR p ++ t)) = (p, some t) := by
  obtain ⟨h1, h2, h3, h4⟩ := ok_bounds h
  have e : shR p ++ t = varOf p.1 ++ (varOf p.2.2 ++ (varOf (p.2.1.length : Int) ++ (shN ⟨#[]⟩ p.2.1 ++ t))) := by unfold shR shH; simp only [app_assoc]
  rw [e]
  unfold rdR
  rw [upF_made h1.1 h1.2 (by omega), upF_made h2.1 h2.2 (by omega), upF_made (by omega) (by omega) (by omega)]
  show (((p.1, (itN (p.2.1.length : Int).toNat _).1, p.2.2), _)) = _
  rw [Int.toNat_natCast, itN_made _ p.2.1 rfl h3]
theorem itR_made : ∀ (i : Nat) (l : List PT), l.length = i → (∀ p ∈ l, okP p = true) → ∀ t, itR i (some (shS ⟨#[]⟩ l ++ t)) = (l, some t)
  | 0, l, hl, _, t => by
    rw [List.eq_nil_of_length_eq_zero hl]
    show ([], some (⟨#[]⟩ ++ t)) = _
    rw [nil_app]
  | i + 1, l, hl, h, t => by
    obtain ⟨ys, x, rfl⟩ : ∃ ys x, l = ys ++ [x] := ⟨l.dropLast, l.getLast (by intro e; rw [e] at hl; cases hl), (List.dropLast_concat_getLast _).symm⟩
    have hx := h x (by simp)
    have ih := itR_made i ys (by simpa using hl) (fun y hy => h y (by simp [hy])) (shR x ++ t)
    rw [shS_snoc', app_assoc]
    unfold itR
    rw [ih, rdR_made hx]
/-- What is shown of right rules the program takes, as they were. -/
theorem rdI_made {l : List PT} (h : okL l = true) : rdI (showP l) = (l, true) := by
  have h20 := (okL_mem h).1
  unfold rdI showP
  rw [if_pos h, shS_cut, upF_made (by omega) (by omega) (by omega)]
  show endI (itR (l.length : Int).toNat (some (shS ⟨#[]⟩ l))) = _
  have e := itR_made l.length l rfl (okL_mem h).2 ⟨#[]⟩
  rw [app_nil] at e
  rw [Int.toNat_natCast, e]
  unfold endI
  rw [if_pos ⟨rfl, h⟩]
end Go.Proofs.Ytjbbhegijlnndaa.Nd

set_option linter.unusedVariables false
set_option maxRecDepth 100000
namespace Go.Proofs.Ytjbbhegijlnndaa.Nd
open Go Go.RowKit Go.Joins Own Draw Go.Proofs.Ytjbbhegijlnndaa Go.Proofs.Ytjbbhegijlnndaa.Var

def itV (s : ByteArray) (a : Nat) : Nat → Option (List Int × Nat)
  | 0 => some ([], a)
  | i + 1 => match itV s a i with
    | none => none
    | some (l, p) => if rvK (suf s p) = 0 then none else some (l ++ [(rvN (suf s p) : Int)], p + rvK (suf s p))
theorem itV_le {s : ByteArray} {a : Nat} (ha : a ≤ s.size) : ∀ {i : Nat} {l : List Int} {p : Nat}, itV s a i = some (l, p) → p ≤ s.size ∧ l.length = i ∧ (∀ x ∈ l, 0 ≤ x ∧ x ≤ 562949953421311)
  | 0, l, p, h => by
    have h2 : ([], a) = (l, p) := by injection h
    injection h2 with h3 h4
    subst h3 h4
    exact ⟨ha, rfl, fun x hx => by cases hx⟩
  | i + 1, l, p, h => by
    unfold itV at h
    cases e : itV s a i with
    | none => rw [e] at h; cases h
    | some q =>
      obtain ⟨l1, p1⟩ := q
      rw [e] at h
      dsimp only at h
      have ih := itV_le ha e
      by_cases c : rvK (suf s p1) = 0
      · rw [if_pos c] at h; cases h
      · rw [if_neg c] at h
        have h2 : (l1 ++ [(rvN (suf s p1) : Int)], p1 + rvK (suf s p1)) = (l, p) := by injection h
        injection h2 with h3 h4
        subst h3 h4
        have hk := (rvK_le (suf s p1)).2
        rw [suf_size] at hk
        have hn := rvN_le (suf s p1)
        refine ⟨by omega, by rw [List.length_append, ih.2.1]; rfl, fun x hx => ?_⟩
        rcases List.mem_append.1 hx with hx | hx
        · exact ih.2.2 x hx
        · rw [List.mem_singleton] at hx; subst hx; omega
theorem itV_made (s : ByteArray) (a : Nat) : ∀ (i : Nat) (xs : List Int), xs.length = i → (∀ x ∈ xs, 0 ≤ x ∧ x ≤ 562949953421311) → ∀ t, suf s a = shN ⟨#[]⟩ xs ++ t → ∃ p, itV s a i = some (xs, p) ∧ suf s p = t
  | 0, xs, hl, _, t, h => by
    rw [List.eq_nil_of_length_eq_zero hl] at h ⊢
    exact ⟨a, rfl, h.trans (nil_app t)⟩
  | i + 1, xs, hl, hx, t, h => by
    obtain ⟨ys, x, rfl⟩ : ∃ ys x, xs = ys ++ [x] := ⟨xs.dropLast, xs.getLast (by intro e; rw [e] at hl; cases hl), (List.dropLast_concat_getLast _).symm⟩
    have hx1 := hx x (by simp)
    rw [shN_snoc, app_assoc] at h
    obtain ⟨p, e1, e2⟩ := itV_made s a i ys (by simpa using hl) (fun y hy => hx y (by simp [hy])) _ h
    obtain ⟨m, rfl⟩ := Int.eq_ofNat_of_zero_le hx1.1
    obtain ⟨f1, f2, f3⟩ := rv_made m (by omega) t
    refine ⟨p + rvK (suf s p), ?_, ?_⟩
    · unfold itV
      rw [e1]
      dsimp only
      rw [e2, if_neg f3, f1]
    · rw [← suf_suf, e2, f2, suf_app]
def thr (v : List Int) (i : Nat) : Int := v.getD i 0
def stR (s : ByteArray) (x : List PT × Nat) : Option (List PT × Nat) := match itV s x.2 3 with
  | none => none
  | some (v, e) => if 31 < thr v 2 then none else match itV s e (thr v 2).toNat with
    | none => none
    | some (l, e2) => some (x.1 ++ [(thr v 0, l, thr v 1)], e2)
def itW (s : ByteArray) (a : Nat) : Nat → Option (List PT × Nat)
  | 0 => some ([], a)
  | i + 1 => match itW s a i with
    | none => none
    | some x => stR s x
def rdS (s : ByteArray) : List PT × Bool := match itV s 0 1 with
  | none => ([], false)
  | some (v, a) => if 20 < thr v 0 then ([], false) else match itW s a (thr v 0).toNat with
    | none => ([], false)
    | some x => if showP x.1 = s then (x.1, true) else ([], false)
theorem stR_le {s : ByteArray} {x y : List PT × Nat} (h : stR s x = some y) (hx : x.2 ≤ s.size) (h31 : ∀ p ∈ x.1, p.2.1.length ≤ 31) : y.2 ≤ s.size ∧ y.1.length = x.1.length + 1 ∧ ∀ p ∈ y.1, p.2.1.length ≤ 31 := by
  unfold stR at h
  cases e : itV s x.2 3 with
  | none => rw [e] at h; cases h
  | some q =>
    obtain ⟨v, a⟩ := q
    rw [e] at h
    dsimp only at h
    have h1 := itV_le hx e
    by_cases c : 31 < thr v 2
    · rw [if_pos c] at h; cases h
    · rw [if_neg c] at h
      cases e2 : itV s a (thr v 2).toNat with
      | none => rw [e2] at h; cases h
      | some r =>
        obtain ⟨l, b⟩ := r
        rw [e2] at h
        dsimp only at h
        have h2 := itV_le h1.1 e2
        injection h with h
        subst h
        refine ⟨h2.1, by simp, fun p hp => ?_⟩
        rcases List.mem_append.1 hp with hp | hp
        · exact h31 p hp
        · rw [List.mem_singleton] at hp; subst hp; show l.length ≤ 31; omega
theorem itW_le {s : ByteArray} {a : Nat} (ha : a ≤ s.size) : ∀ {i : Nat} {x : List PT × Nat}, itW s a i = some x → x.2 ≤ s.size ∧ x.1.length = i ∧ ∀ p ∈ x.1, p.2.1.length ≤ 31
  | 0, x, h => by
    have h2 : ([], a) = x := by injection h
    subst h2
    exact ⟨ha, rfl, fun p hp => by cases hp⟩
  | i + 1, x, h => by
    unfold itW at h
    cases e : itW s a i with
    | none => rw [e] at h; cases h
    | some y =>
      rw [e] at h
      have h1 := itW_le ha e
      have h2 := stR_le h h1.1 h1.2.2
      exact ⟨h2.1, by rw [h2.2.1, h1.2.1], h2.2.2⟩
theorem stR_made {s t : ByteArray} {x : List PT × Nat} {p : PT} (h : okP p = true) (hs : suf s x.2 = shR p ++ t) : ∃ e, stR s x = some (x.1 ++ [p], e) ∧ suf s e = t := by
  obtain ⟨h1, h2, h3, h4⟩ := ok_bounds h
  have e : suf s x.2 = shN ⟨#[]⟩ [p.1, p.2.2, (p.2.1.length : Int)] ++ (shN ⟨#[]⟩ p.2.1 ++ t) := by rw [hs]; unfold shR; rw [shH_nums, app_assoc]
  obtain ⟨a, e1, e2⟩ := itV_made s x.2 3 [p.1, p.2.2, (p.2.1.length : Int)] rfl (by simp; omega) _ e
  obtain ⟨b, f1, f2⟩ := itV_made s a p.2.1.length p.2.1 rfl (fun y hy => by have := h3 y hy; omega) _ e2
  refine ⟨b, ?_, f2⟩
  unfold stR
  rw [e1]
  dsimp only
  have t0 : thr [p.1, p.2.2, (p.2.1.length : Int)] 0 = p.1 := rfl
  have t1 : thr [p.1, p.2.2, (p.2.1.length : Int)] 1 = p.2.2 := rfl
  have t2 : thr [p.1, p.2.2, (p.2.1.length : Int)] 2 = (p.2.1.length : Int) := rfl
  rw [t2, if_neg (by omega), Int.toNat_natCast, f1, t0, t1]
theorem itW_made (s : ByteArray) (a : Nat) : ∀ (i : Nat) (l : List PT), l.length = i → (∀ p ∈ l, okP p = true) → ∀ t, suf s a = shS ⟨#[]⟩ l ++ t → ∃ e, itW s a i = some (l, e) ∧ suf s e = t
  | 0, l, hl, _, t, h => by
    rw [List.eq_nil_of_length_eq_zero hl] at h ⊢
    exact ⟨a, rfl, h.trans (nil_app t)⟩
  | i + 1, l, hl, hx, t, h => by
    obtain ⟨ys, x, rfl⟩ : ∃ ys x, l = ys ++ [x] := ⟨l.dropLast, l.getLast (by intro e; rw [e] at hl; cases hl), (List.dropLast_concat_getLast _).symm⟩
    rw [shS_snoc', app_assoc] at h
    obtain ⟨p, e1, e2⟩ := itW_made s a i ys (by simpa using hl) (fun y hy => hx y (by simp [hy])) _ h
    obtain ⟨e, f1, f2⟩ := stR_made (x := (ys, p)) (hx x (by simp)) e2
    refine ⟨e, ?_, f2⟩
    unfold itW
    rw [e1]
    exact f1
theorem rdS_made {l : List PT} (h : okL l = true) : rdS (showP l) = (l, true) := by
  have h20 := (okL_mem h).1
  have e0 : suf (showP l) 0 = shN ⟨#[]⟩ [(l.length : Int)] ++ shS ⟨#[]⟩ l := by
    rw [suf_zero]
    unfold showP
    rw [if_pos h, shS_cut]
    show _ = ⟨#[]⟩ ++ varOf (l.length : Int) ++ _
    rw [nil_app]
  obtain ⟨a, e1, e2⟩ := itV_made (showP l) 0 1 [(l.length : Int)] rfl (by simp; omega) _ e0
  obtain ⟨b, f1, _⟩ := itW_made (showP l) a l.length l rfl (okL_mem h).2 ⟨#[]⟩ (by rw [e2, app_nil])
  unfold rdS
  rw [e1]
  dsimp only
  have t0 : thr [(l.length : Int)] 0 = (l.length : Int) := rfl
  rw [t0, if_neg (by omega), Int.toNat_natCast, f1]
  dsimp only
  rw [if_pos rfl]
theorem itV_nil : itV ⟨#[]⟩ 0 1 = none := by
  have h : rvK (suf ⟨#[]⟩ 0) = 0 := by
    have := (rvK_le (suf ⟨#[]⟩ 0)).2
    rw [suf_size] at this
    have h2 : (⟨#[]⟩ : ByteArray).size = 0 := rfl
    omega
  show (if rvK (suf ⟨#[]⟩ 0) = 0 then none else some (([] : List Int) ++ [(rvN (suf ⟨#[]⟩ 0) : Int)], 0 + rvK (suf ⟨#[]⟩ 0))) = none
  rw [if_pos h]
theorem rdS_sound {s : ByteArray} (h : (rdS s).2 = true) : okL (rdS s).1 = true ∧ showP (rdS s).1 = s := by
  unfold rdS at h ⊢
  cases e : itV s 0 1 with
  | none => rw [e] at h; cases h
  | some q =>
    obtain ⟨v, a⟩ := q
    rw [e] at h
    dsimp only at h ⊢
    by_cases c : 20 < thr v 0
    · rw [if_pos c] at h; cases h
    · rw [if_neg c] at h ⊢
      cases e2 : itW s a (thr v 0).toNat with
      | none => rw [e2] at h; cases h
      | some x =>
        rw [e2] at h
        dsimp only at h ⊢
        by_cases c2 : showP x.1 = s
        · rw [if_pos c2]
          refine ⟨?_, c2⟩
          by_cases c3 : okL x.1 = true
          · exact c3
          · exfalso
            unfold showP at c2
            rw [if_neg c3] at c2
            rw [← c2, itV_nil] at e
            cases e
        · rw [if_neg c2] at h; cases h
theorem rdS_no {s : ByteArray} (h : (rdS s).2 = false) : (rdS s).1 = [] := by
  unfold rdS at h ⊢
  cases e : itV s 0 1 with
  | none => rfl
  | some q =>
    obtain ⟨v, a⟩ := q
    rw [e] at h
    dsimp only at h ⊢
    by_cases c : 20 < thr v 0
    · rw [if_pos c]
    · rw [if_neg c] at h ⊢
      cases e2 : itW s a (thr v 0).toNat with
      | none => rfl
      | some x =>
        rw [e2] at h
        dsimp only at h ⊢
        by_cases c2 : showP x.1 = s
        · rw [if_pos c2] at h; cases h
        · rw [if_neg c2]
/-- Both ways take the same. -/
theorem rd_same (s : ByteArray) : rdI s = rdS s := by
  cases h : (rdI s).2 with
  | true =>
    obtain ⟨h1, h2⟩ := rdI_sound h
    have := rdS_made h1
    rw [h2] at this
    rw [this]
    exact Prod.ext rfl h
  | false =>
    cases h2 : (rdS s).2 with
    | true =>
      obtain ⟨h3, h4⟩ := rdS_sound h2
      have := rdI_made h3
      rw [h4] at this
      rw [this] at h
      cases h
    | false => exact Prod.ext ((rdI_no h).trans (rdS_no h2).symm) (h.trans h2.symm)
theorem rd_small (s : ByteArray) : (rdI s).1.length ≤ 20 ∧ ∀ p ∈ (rdI s).1, okP p = true := by
  cases h : (rdI s).2 with
  | true => exact okL_mem (rdI_sound h).1
  | false => rw [rdI_no h]; exact ⟨Nat.zero_le _, fun p hp => by cases hp⟩
end Go.Proofs.Ytjbbhegijlnndaa.Nd
