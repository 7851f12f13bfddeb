/- A table read from a text: the program as plain data. -/
import Derived.Test.YtkfjpgkpmdbnoaaTr2
set_option linter.unusedVariables false
set_option maxRecDepth 100000
namespace Go.Proofs.Ytkfjpgkpmdbnoaa
open Go Go.RowKit Go.Joins Own Draw Go.Proofs.Ytkfjpgkpmdbnoaa.Var

/-- The next number, at most g; of a text that broke there is none. -/
def upF (g : Int) : Option ByteArray → Int × Option ByteArray
  | none => (0, none)
  | some t => if rvK t = 0 ∨ g < (rvN t : Int) then (0, none) else ((rvN t : Int), some (suf t (rvK t)))
theorem upF_eq (g : Int) (t : ByteArray) : upF g (some t) = if rvK t = 0 ∨ g < (rvN t : Int) then (0, none) else ((rvN t : Int), some (suf t (rvK t))) := rfl
def rdS (st : Option ByteArray) : TS × Option ByteArray :=
  (((upF 99 st).1, (upF 1000 (upF 99 st).2).1, (upF 1000000 (upF 1000 (upF 99 st).2).2).1), (upF 1000000 (upF 1000 (upF 99 st).2).2).2)
def itJ : Nat → Option ByteArray → List TS × Option ByteArray
  | 0, st => ([], st)
  | i + 1, st => ((itJ i st).1 ++ [(rdS (itJ i st).2).1], (rdS (itJ i st).2).2)
def endJ (x : List TS × Option ByteArray) : List TS × Bool := if x.2 = some ⟨#[]⟩ ∧ tabB x.1 = true then (x.1, true) else ([], false)
def rdJ (s : ByteArray) : List TS × Bool := endJ (itJ (upF 20 (some s)).1.toNat (upF 20 (some s)).2)
theorem upF_bound (g : Int) (hg : 0 ≤ g) (st : Option ByteArray) : 0 ≤ (upF g st).1 ∧ (upF g st).1 ≤ g := by
  cases st with
  | none => exact ⟨Int.le_refl _, hg⟩
  | some t =>
    rw [upF_eq]
    split
    · exact ⟨Int.le_refl _, hg⟩
    · rename_i h
      have := not_or.1 h
      exact ⟨by show 0 ≤ (rvN t : Int); omega, by show (rvN t : Int) ≤ g; omega⟩
theorem upF_some {g : Int} {st : Option ByteArray} {t' : ByteArray} (h : (upF g st).2 = some t') : ∃ t, st = some t ∧ t = varOf (upF g st).1 ++ t' := by
  cases st with
  | none => cases h
  | some t =>
    refine ⟨t, rfl, ?_⟩
    rw [upF_eq] at h ⊢
    by_cases c : rvK t = 0 ∨ g < (rvN t : Int)
    · rw [if_pos c] at h; cases h
    · rw [if_neg c] at h ⊢
      have h2 : suf t (rvK t) = t' := by injection h
      rw [← h2]
      exact rv_taken (fun e => c (Or.inl e))
theorem rdS_some {st : Option ByteArray} {t' : ByteArray} (h : (rdS st).2 = some t') : ∃ t, st = some t ∧ t = shH (rdS st).1 ++ t' := by
  obtain ⟨t2, h2, e2⟩ := upF_some (show (upF 1000000 (upF 1000 (upF 99 st).2).2).2 = some t' from h)
  obtain ⟨t1, h1, e1⟩ := upF_some h2
  obtain ⟨t0, h0, e0⟩ := upF_some h1
  refine ⟨t0, h0, ?_⟩
  rw [e0, e1, e2]
  show _ = varOf (upF 99 st).1 ++ varOf (upF 1000 (upF 99 st).2).1 ++ varOf (upF 1000000 (upF 1000 (upF 99 st).2).2).1 ++ t'
  simp only [app_assoc]
theorem itJ_len (st : Option ByteArray) : ∀ i, (itJ i st).1.length = i
  | 0 => rfl
  | i + 1 => by show ((itJ i st).1 ++ [_]).length = _; rw [List.length_append, itJ_len st i]; rfl
theorem itJ_some {st : Option ByteArray} : ∀ {i : Nat} {t' : ByteArray}, (itJ i st).2 = some t' → ∃ t, st = some t ∧ t = shS ⟨#[]⟩ (itJ i st).1 ++ t'
  | 0, t', h => ⟨t', h, (nil_app t').symm⟩
  | i + 1, t', h => by
    obtain ⟨t1, h1, h2⟩ := rdS_some (show (rdS (itJ i st).2).2 = some t' from h)
    obtain ⟨t, h3, h4⟩ := itJ_some h1
    refine ⟨t, h3, ?_⟩
    show t = shS ⟨#[]⟩ ((itJ i st).1 ++ [(rdS (itJ i st).2).1]) ++ t'
    rw [shS_snoc, h4, h2, app_assoc]
/-- What the program takes is shown as the text again. -/
theorem rdJ_sound {s : ByteArray} (h : (rdJ s).2 = true) : tabB (rdJ s).1 = true ∧ shT (rdJ s).1 = s := by
  unfold rdJ endJ at h ⊢
  by_cases c : (itJ (upF 20 (some s)).1.toNat (upF 20 (some s)).2).2 = some ⟨#[]⟩ ∧ tabB (itJ (upF 20 (some s)).1.toNat (upF 20 (some s)).2).1 = true
  · rw [if_pos c]
    refine ⟨c.2, ?_⟩
    obtain ⟨t1, h1, e1⟩ := itJ_some c.1
    obtain ⟨t0, h0, e0⟩ := upF_some h1
    injection h0 with h0
    have hb := (upF_bound 20 (by omega) (some s)).1
    unfold shT
    rw [if_pos c.2, itJ_len, shS_cut]
    rw [app_nil] at e1
    rw [e1] at e0
    refine Eq.trans ?_ (h0.trans e0).symm
    congr 2
    omega
  · rw [if_neg c] at h; cases h
theorem rdJ_no {s : ByteArray} (h : (rdJ s).2 = false) : rdJ s = ([], false) := by
  unfold rdJ endJ at h ⊢
  by_cases c : (itJ (upF 20 (some s)).1.toNat (upF 20 (some s)).2).2 = some ⟨#[]⟩ ∧ tabB (itJ (upF 20 (some s)).1.toNat (upF 20 (some s)).2).1 = true
  · rw [if_pos c] at h; cases h
  · rw [if_neg c]
theorem upF_made {g n : Int} (h0 : 0 ≤ n) (h1 : n ≤ g) (h2 : g ≤ 562949953421311) (t : ByteArray) : upF g (some (varOf n ++ t)) = (n, some t) := by
  obtain ⟨m, rfl⟩ := Int.eq_ofNat_of_zero_le h0
  obtain ⟨e1, e2, e3⟩ := rv_made m (by omega) t
  rw [upF_eq, if_neg (by rw [e1]; omega), e1, e2, suf_app]
theorem rdS_made {p : TS} (h : slA p = true) (t : ByteArray) : rdS (some (shH p ++ t)) = (p, some t) := by
  obtain ⟨h1, h2, h3⟩ := slot_bounds h
  have e : shH p ++ t = varOf p.1 ++ (varOf p.2.1 ++ (varOf p.2.2 ++ t)) := by unfold shH; simp only [app_assoc]
  rw [e]
  unfold rdS
  rw [upF_made h1.1 h1.2 (by omega), upF_made (by omega) h2.2 (by omega), upF_made (by omega) h3.2 (by omega)]
theorem itJ_made : ∀ (i : Nat) (l : List TS), l.length = i → (∀ p ∈ l, slA p = true) → ∀ t, itJ i (some (shS ⟨#[]⟩ l ++ t)) = (l, some t)
  | 0, l, hl, _, t => by
    rw [List.eq_nil_of_length_eq_zero hl]
    show ([], some (⟨#[]⟩ ++ t)) = _
    rw [nil_app]
  | i + 1, l, hl, h, t => by
    obtain ⟨ys, x, rfl⟩ : ∃ ys x, l = ys ++ [x] := ⟨l.dropLast, l.getLast (by intro e; rw [e] at hl; cases hl), (List.dropLast_concat_getLast _).symm⟩
    have hx := h x (by simp)
    have ih := itJ_made i ys (by simpa using hl) (fun y hy => h y (by simp [hy])) (shH x ++ t)
    rw [shS_snoc, app_assoc]
    unfold itJ
    rw [ih, rdS_made hx]
/-- What is shown of a right table the program takes, as it was. -/
theorem rdJ_made {l : List TS} (h : tabB l = true) : rdJ (shT l) = (l, true) := by
  have h20 := tab_len h
  unfold rdJ shT
  rw [if_pos h, shS_cut, upF_made (by omega) (by omega) (by omega)]
  show endJ (itJ (l.length : Int).toNat (some (shS ⟨#[]⟩ l))) = _
  have e := itJ_made l.length l rfl (fun x hx => by obtain ⟨k, hk, rfl⟩ := List.mem_iff_getElem.1 hx; exact tab_slot h k hk) ⟨#[]⟩
  rw [app_nil] at e
  rw [Int.toNat_natCast, e]
  unfold endJ
  rw [if_pos ⟨rfl, h⟩]
/-- Both read the same. -/
theorem rd_same (s : ByteArray) : rdJ s = rdT s := by
  cases e : (rdJ s).2 with
  | true =>
    obtain ⟨h1, h2⟩ := rdJ_sound e
    have h3 := read_shown h1
    rw [h2] at h3
    rw [h3, ← e]
  | false =>
    rw [rdJ_no e]
    refine (read_none fun l hl c => ?_).symm
    have := rdJ_made hl
    rw [c] at this
    rw [this] at e
    cases e
end Go.Proofs.Ytkfjpgkpmdbnoaa
