/- Plain mathematics for Dec and ReadDec: decimal digits, a sign ahead, no needless nought. -/
import Derived.Test.YtpidfofjjdjkdaiDoorHexMath
import Derived.Lib.Bytealg
namespace Go.Proofs.YtpidfofjjdjkdaiDoor.Dec
open Own Hex

/-- A decimal digit. -/
def isD (b : UInt8) : Bool := decide (48 ≤ b.toNat) && decide (b.toNat ≤ 57)
theorem isD_iff (b : UInt8) : isD b = true ↔ 48 ≤ b.toNat ∧ b.toNat ≤ 57 := by simp [isD]
/-- What digits say. -/
def dval (l : List UInt8) : Nat := l.foldl (fun n b => n * 10 + (b.toNat - 48)) 0
theorem dval_nil : dval [] = 0 := rfl
theorem dval_snoc (l : List UInt8) (b : UInt8) : dval (l ++ [b]) = dval l * 10 + (b.toNat - 48) := by simp [dval, List.foldl_append]

/-- The digits of a number; of 0 none; so many at most. -/
def decF : Nat → Nat → List UInt8
  | 0, _ => []
  | f + 1, m => if m = 0 then [] else decF f (m / 10) ++ [UInt8.ofNat (48 + m % 10)]
theorem decF_zero (f : Nat) : decF f 0 = [] := by
  cases f with
  | zero => rfl
  | succ f => rw [decF, if_pos rfl]
theorem decF_same (f : Nat) : ∀ g m, m ≤ f → m ≤ g → decF f m = decF g m := by
  induction f with
  | zero =>
    intro g m h _
    obtain rfl : m = 0 := by omega
    rw [decF_zero, decF_zero]
  | succ f ih =>
    intro g m h1 h2
    cases g with
    | zero =>
      obtain rfl : m = 0 := by omega
      rw [decF_zero, decF_zero]
    | succ g =>
      rw [decF, decF]
      by_cases h : m = 0
      · rw [if_pos h, if_pos h]
      · rw [if_neg h, if_neg h, ih g (m / 10) (by omega) (by omega)]
def decP (m : Nat) : List UInt8 := decF m m
theorem decP_zero : decP 0 = [] := rfl
theorem decP_pos (m : Nat) (h : m ≠ 0) : decP m = decP (m / 10) ++ [UInt8.ofNat (48 + m % 10)] := by
  unfold decP
  rw [decF_same m (m + 1) m (Nat.le_refl _) (by omega), decF, if_neg h, decF_same m (m / 10) (m / 10) (by omega) (Nat.le_refl _)]
theorem digit_val (m : Nat) : (UInt8.ofNat (48 + m % 10)).toNat = 48 + m % 10 := UInt8.toNat_ofNat_of_lt' (by show _ < 256; omega)

theorem decP_len (k : Nat) : ∀ m, m < 10 ^ k → (decP m).length ≤ k := by
  induction k with
  | zero => intro m h; have : m = 0 := by simpa using h
            rw [this, decP_zero]; simp
  | succ k ih =>
    intro m h
    by_cases h0 : m = 0
    · rw [h0, decP_zero]; simp
    · rw [decP_pos m h0, List.length_append]
      have := ih (m / 10) (by rw [Nat.pow_succ] at h; omega)
      simp only [List.length_cons, List.length_nil]; omega
theorem decP_19 (m : Nat) (h : m ≤ 9223372036854775808) : (decP m).length ≤ 19 :=
  decP_len 19 m (by have : 10 ^ 19 = 10000000000000000000 := by decide
                    omega)

/-- Digits, at least one, the first no nought. -/
def fine (l : List UInt8) : Prop := (∀ b ∈ l, isD b = true) ∧ ∃ b r, l = b :: r ∧ b.toNat ≠ 48

theorem decP_fine (m : Nat) (h : m ≠ 0) : fine (decP m) ∧ dval (decP m) = m := by
  induction m using Nat.strongRecOn with
  | ind m ih =>
    rw [decP_pos m h]
    by_cases h0 : m / 10 = 0
    · rw [h0, decP_zero]
      refine ⟨⟨?_, _, [], rfl, ?_⟩, ?_⟩
      · intro b hb
        simp only [List.nil_append, List.mem_singleton] at hb
        rw [hb, isD_iff, digit_val]; omega
      · rw [digit_val]; omega
      · rw [dval_snoc, dval_nil, digit_val]; omega
    · obtain ⟨⟨i1, b, r, e, hb⟩, i2⟩ := ih (m / 10) (by omega) h0
      refine ⟨⟨?_, b, r ++ [UInt8.ofNat (48 + m % 10)], by rw [e]; rfl, hb⟩, ?_⟩
      · intro c hc
        rcases List.mem_append.1 hc with hc | hc
        · exact i1 c hc
        · simp only [List.mem_singleton] at hc
          rw [hc, isD_iff, digit_val]; omega
      · rw [dval_snoc, i2, digit_val]; omega

theorem decP_dval_rev (l : List UInt8) : (∀ b ∈ l.reverse, isD b = true) → (∃ b r, l.reverse = b :: r ∧ b.toNat ≠ 48) → decP (dval l.reverse) = l.reverse ∧ dval l.reverse ≠ 0 := by
  induction l with
  | nil => rintro _ ⟨b, r, e, _⟩; simp at e
  | cons c l ih =>
    intro hd hh
    rw [List.reverse_cons] at *
    have hc := (isD_iff c).1 (hd c (by simp))
    by_cases h0 : l.reverse = []
    · rw [h0] at hh ⊢
      obtain ⟨b, r, e, hb⟩ := hh
      have e1 : c = b := by injection e
      rw [← e1] at hb
      clear e e1
      rw [dval_snoc, dval_nil, decP_pos _ (by omega)]
      have e1 : (0 * 10 + (c.toNat - 48)) / 10 = 0 := by omega
      have e2 : 48 + (0 * 10 + (c.toNat - 48)) % 10 = c.toNat := by omega
      rw [e1, e2, decP_zero]
      exact ⟨by simp, by omega⟩
    · obtain ⟨i1, i2⟩ := ih (fun b hb => hd b (by simp at hb ⊢; exact Or.inl hb)) (by
        obtain ⟨b, r, e, hb⟩ := hh
        cases hl : l.reverse with
        | nil => exact absurd hl h0
        | cons b' r' =>
          rw [hl] at e
          simp only [List.cons_append, List.cons.injEq] at e
          exact ⟨b', r', rfl, by rw [e.1]; exact hb⟩)
      rw [dval_snoc, decP_pos _ (by omega)]
      have e1 : (dval l.reverse * 10 + (c.toNat - 48)) / 10 = dval l.reverse := by omega
      have e2 : 48 + (dval l.reverse * 10 + (c.toNat - 48)) % 10 = c.toNat := by omega
      rw [e1, e2, i1]
      exact ⟨by simp, by omega⟩
theorem decP_dval (l : List UInt8) (h : fine l) : decP (dval l) = l ∧ dval l ≠ 0 := by
  have := decP_dval_rev l.reverse
  rw [List.reverse_reverse] at this
  exact this h.1 h.2

/-- The text of a number. -/
def decB (n : Int) : List UInt8 := if n = 0 then [48] else if n < 0 then 45 :: decP n.natAbs else decP n.natAbs

/-- The digits of a text that may begin with a sign. -/
def rest (l : List UInt8) : List UInt8 := match l with | 45 :: r => r | _ => l
def neg (l : List UInt8) : Bool := match l with | 45 :: _ => true | _ => false
/-- What a text says. -/
def valD (l : List UInt8) : Int := if neg l then -(dval (rest l) : Int) else (dval (rest l) : Int)
/-- A text that Dec makes of a number of at most nine digits. -/
def canon (l : List UInt8) : Prop := (fine (rest l) ∨ l = [48]) ∧ (rest l).length ≤ 9

theorem rest_neg (r : List UInt8) : rest (45 :: r) = r := rfl
theorem neg_neg (r : List UInt8) : neg (45 :: r) = true := rfl
theorem rest_of (l : List UInt8) (h : ∀ r, l ≠ 45 :: r) : rest l = l ∧ neg l = false := by
  unfold rest neg
  split
  · exact absurd rfl (h _)
  · exact ⟨rfl, rfl⟩

/-- The digits among some bytes. -/
def digs (l : List UInt8) : List UInt8 := l.filter isD
theorem digs_snoc (l : List UInt8) (b : UInt8) : digs (l ++ [b]) = digs l ++ (if isD b then [b] else []) := by
  unfold digs
  rw [List.filter_append]
  by_cases h : isD b = true <;> simp [h]
theorem digs_all (l : List UInt8) (h : ∀ b ∈ l, isD b = true) : digs l = l := List.filter_eq_self.2 h

/-- What the model reckons of a text: the digits of its first eleven bytes, turned by a sign. -/
def specN (l : List UInt8) : Int := if neg l then -(dval (digs (l.take 11)) : Int) else (dval (digs (l.take 11)) : Int)
def specK (l : List UInt8) : Nat := (digs (l.take 11)).length

theorem digs_rest (l : List UInt8) (h : ∀ b ∈ rest l, isD b = true) : digs l = rest l := by
  unfold rest at *
  split at h
  · rename_i r
    have e : digs (45 :: r) = digs r := by simp [digs, isD]
    rw [e]; exact digs_all r h
  · exact digs_all l h

theorem canon_of (l : List UInt8) (hk : specK l ≤ 9) (hl : l.length ≤ 10) (he : decB (specN l) = l) : canon l := by
  have e11 : l.take 11 = l := List.take_of_length_le (by omega)
  unfold specK at hk
  rw [e11] at hk
  unfold decB at he
  by_cases h0 : specN l = 0
  · rw [if_pos h0] at he
    rw [← he]
    exact ⟨Or.inr rfl, by decide⟩
  · rw [if_neg h0] at he
    have hm : (specN l).natAbs ≠ 0 := by omega
    have hf := decP_fine _ hm
    by_cases hn : specN l < 0
    · rw [if_pos hn] at he
      have er : rest l = decP (specN l).natAbs := by
        generalize decP (specN l).natAbs = q at he
        rw [← he]; rfl
      have hf2 : fine (rest l) := by rw [er]; exact hf.1
      exact ⟨Or.inl hf2, by rw [← digs_rest l hf2.1]; exact hk⟩
    · rw [if_neg hn] at he
      have er : rest l = l := by
        apply (rest_of l _).1
        intro r hr
        obtain ⟨b, r', e, hb⟩ := hf.1.2
        rw [he] at e
        have hd := hf.1.1 45 (by rw [he, hr]; simp)
        exact absurd hd (by decide)
      have hf2 : fine (rest l) := by rw [er, ← he]; exact hf.1
      exact ⟨Or.inl hf2, by rw [← digs_rest l hf2.1]; exact hk⟩

theorem of_canon (l : List UInt8) (h : canon l) : specK l ≤ 9 ∧ l.length ≤ 10 ∧ decB (specN l) = l ∧ specN l = valD l := by
  obtain ⟨h1, h2⟩ := h
  rcases h1 with h1 | h1
  · have hd := digs_rest l h1.1
    by_cases hn : ∃ r, l = 45 :: r
    · obtain ⟨r, rfl⟩ := hn
      have hl : (45 :: r).length ≤ 10 := by rw [rest_neg] at h2; simp only [List.length_cons]; omega
      have e11 : (45 :: r).take 11 = 45 :: r := List.take_of_length_le (by omega)
      have es : specN (45 :: r) = -(dval r : Int) := by unfold specN; rw [neg_neg, e11, hd, rest_neg]; rfl
      have ev : valD (45 :: r) = -(dval r : Int) := by unfold valD; rw [neg_neg, rest_neg]; rfl
      have hp := decP_dval r h1
      refine ⟨by unfold specK; rw [e11, hd]; exact h2, hl, ?_, by rw [es, ev]⟩
      rw [es]
      unfold decB
      rw [if_neg (by omega), if_pos (by omega)]
      have : (-(dval r : Int)).natAbs = dval r := by omega
      rw [this, hp.1]
    · have hr := rest_of l (fun r hr => hn ⟨r, hr⟩)
      have hl : l.length ≤ 10 := by rw [hr.1] at h2; omega
      have e11 : l.take 11 = l := List.take_of_length_le (by omega)
      have es : specN l = (dval l : Int) := by unfold specN; rw [hr.2, e11, hd, hr.1]; rfl
      have ev : valD l = (dval l : Int) := by unfold valD; rw [hr.2, hr.1]; rfl
      have h1' : fine l := by rw [hr.1] at h1; exact h1
      have hp := decP_dval l h1'
      refine ⟨by unfold specK; rw [e11, hd]; exact h2, hl, ?_, by rw [es, ev]⟩
      rw [es]
      unfold decB
      rw [if_neg (by omega), if_neg (by omega)]
      have : (dval l : Int).natAbs = dval l := by omega
      rw [this, hp.1]
  · subst h1
    decide

/-- What ReadDec may answer. -/
def Ans (l : List UInt8) (n : Int) (ok : Bool) : Prop := (canon l ∧ n = valD l ∧ ok = true) ∨ (¬ canon l ∧ n = 0 ∧ ok = false)
theorem Ans_one (l : List UInt8) (n m : Int) (a b : Bool) (h : Ans l n a) (k : Ans l m b) : n = m ∧ a = b := by
  rcases h with ⟨h1, rfl, rfl⟩ | ⟨h1, rfl, rfl⟩ <;> rcases k with ⟨k1, rfl, rfl⟩ | ⟨k1, rfl, rfl⟩
  · exact ⟨rfl, rfl⟩
  · exact absurd h1 k1
  · exact absurd k1 h1
  · exact ⟨rfl, rfl⟩

theorem dval_lt_rev (l : List UInt8) (h : ∀ b ∈ l.reverse, isD b = true) : dval l.reverse < 10 ^ l.length := by
  induction l with
  | nil => decide
  | cons c l ih =>
    rw [List.reverse_cons] at *
    have hc := (isD_iff c).1 (h c (by simp))
    have := ih (fun b hb => h b (by simp at hb ⊢; exact Or.inl hb))
    rw [dval_snoc, List.length_cons, Nat.pow_succ]
    generalize 10 ^ l.length = q at *
    omega
theorem dval_lt (l : List UInt8) (h : ∀ b ∈ l, isD b = true) : dval l < 10 ^ l.length := by
  have := dval_lt_rev l.reverse
  rw [List.reverse_reverse, List.length_reverse] at this
  exact this h

theorem index10 : ∀ n, n < 256 → Lib.indexByte (signs.take 10) (UInt8.ofNat n) = if 48 ≤ n ∧ n ≤ 57 then (n : Int) - 48 else -1 := by decide +kernel
theorem index10_of (b : UInt8) : Lib.indexByte (signs.take 10) b = if 48 ≤ b.toNat ∧ b.toNat ≤ 57 then (b.toNat : Int) - 48 else -1 := by
  have := index10 b.toNat b.toNat_lt
  rwa [UInt8.ofNat_toNat] at this
end Go.Proofs.YtpidfofjjdjkdaiDoor.Dec
