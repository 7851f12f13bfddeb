/- Plain mathematics for ReadVar: which beginnings of a text Var makes. -/
import Derived.Test.YtkfjpgkpmdbnoaaVarMath
import Derived.Test.YtkfjpgkpmdbnoaaNum
namespace Go.Proofs.Ytkfjpgkpmdbnoaa.Var
open Own

/-- What bytes say, seven bits each, the lowest first. -/
def valB : List UInt8 → Nat
  | [] => 0
  | b :: l => b.toNat % 128 + 128 * valB l
theorem valB_lt (l : List UInt8) : valB l < 128 ^ l.length := by
  induction l with
  | nil => decide
  | cons b l ih =>
    rw [valB, List.length_cons, Nat.pow_succ]
    generalize 128 ^ l.length = q at *
    omega
theorem valB_snoc (l : List UInt8) (b : UInt8) : valB (l ++ [b]) = valB l + b.toNat % 128 * 128 ^ l.length := by
  induction l with
  | nil => simp [valB]
  | cons c l ih =>
    rw [List.cons_append, valB, valB, ih, List.length_cons, Nat.pow_succ, Nat.mul_add]
    have : 128 * (b.toNat % 128 * 128 ^ l.length) = b.toNat % 128 * (128 ^ l.length * 128) := by rw [Nat.mul_comm 128, Nat.mul_assoc]
    omega
theorem valB_seven (l : List UInt8) (h : l.length ≤ 7) : valB l ≤ 562949953421311 := by
  have h1 := valB_lt l
  have h2 : 128 ^ l.length ≤ 128 ^ 7 := Nat.pow_le_pow_right (by omega) h
  have h3 : 128 ^ 7 = 562949953421312 := by decide
  omega

/-- A beginning that Var can have made: all but the last byte say 'more', and none is needless. -/
def canon (l : List UInt8) : Prop := ∃ p b, l = p ++ [b] ∧ (∀ x ∈ p, 128 ≤ x.toNat) ∧ b.toNat < 128 ∧ (p = [] ∨ b.toNat ≠ 0)

theorem varB_val (p : List UInt8) (b : UInt8) (hp : ∀ x ∈ p, 128 ≤ x.toNat) (hb : b.toNat < 128) (h0 : p = [] ∨ b.toNat ≠ 0) :
    varB (valB (p ++ [b])) = p ++ [b] ∧ (b.toNat ≠ 0 → 1 ≤ valB (p ++ [b])) := by
  induction p with
  | nil =>
    have e : valB ([] ++ [b]) = b.toNat := by simp [valB]; omega
    rw [e, varB_small _ hb]
    exact ⟨by simp, fun h => by omega⟩
  | cons c p ih =>
    have hb0 : b.toNat ≠ 0 := h0.resolve_left (by simp)
    have hc : 128 ≤ c.toNat := hp c (List.mem_cons_self ..)
    have hc2 := c.toNat_lt
    obtain ⟨i1, i2⟩ := ih (fun x hx => hp x (List.mem_cons_of_mem _ hx)) (Or.inr hb0)
    have hv := i2 hb0
    have e : valB (c :: p ++ [b]) = c.toNat % 128 + 128 * valB (p ++ [b]) := by rw [List.cons_append, valB]
    refine ⟨?_, fun _ => by rw [e]; omega⟩
    rw [e, varB_great _ (by omega)]
    have e1 : (c.toNat % 128 + 128 * valB (p ++ [b])) % 128 = c.toNat % 128 := by omega
    have e2 : (c.toNat % 128 + 128 * valB (p ++ [b])) / 128 = valB (p ++ [b]) := by omega
    rw [e1, e2, i1]
    have e3 : 128 + c.toNat % 128 = c.toNat := by omega
    rw [e3]
    simp
theorem canon_varB (n : Nat) : ∃ p b, varB n = p ++ [b] ∧ (∀ x ∈ p, 128 ≤ x.toNat) ∧ b.toNat < 128 ∧ (p = [] ∨ b.toNat ≠ 0) ∧ (1 ≤ n → b.toNat ≠ 0) := by
  induction n using Nat.strongRecOn with
  | ind n ih =>
    by_cases h : n < 128
    · refine ⟨[], UInt8.ofNat n, by rw [varB_small n h]; rfl, by simp, ?_, Or.inl rfl, ?_⟩
      · rw [UInt8.toNat_ofNat_of_lt' (by show _ < 256; omega)]; exact h
      · rw [UInt8.toNat_ofNat_of_lt' (by show _ < 256; omega)]; omega
    · obtain ⟨p, b, e, hp, hb, h0, h1⟩ := ih (n / 128) (by omega)
      have hb0 := h1 (by omega)
      refine ⟨UInt8.ofNat (128 + n % 128) :: p, b, by rw [varB_great n h, e]; rfl, ?_, hb, Or.inr hb0, fun _ => hb0⟩
      intro x hx
      rcases List.mem_cons.1 hx with rfl | hx
      · rw [UInt8.toNat_ofNat_of_lt' (by show _ < 256; omega)]; omega
      · exact hp x hx
theorem canon_iff (l : List UInt8) : canon l ↔ varB (valB l) = l := by
  constructor
  · rintro ⟨p, b, rfl, hp, hb, h0⟩
    exact (varB_val p b hp hb h0).1
  · intro h
    obtain ⟨p, b, e, hp, hb, h0, _⟩ := canon_varB (valB l)
    exact ⟨p, b, by rw [← h, e], hp, hb, h0⟩

/-- The byte at place i. -/
def at_ (s : ByteArray) (i : Nat) : Nat := (s.data.toList.getD i 0).toNat
theorem at_eq (s : ByteArray) (i : Nat) (h : i < s.size) : s[i].toNat = at_ s i := by
  have hl : i < s.data.toList.length := h
  unfold at_
  rw [List.getD_eq_getElem?_getD, List.getElem?_eq_getElem hl]
  rfl
theorem mem_take_at (s : ByteArray) (k : Nat) (hk : k ≤ s.size) (P : Nat → Prop) : (∀ x ∈ s.data.toList.take k, P x.toNat) ↔ ∀ j, j < k → P (at_ s j) := by
  have hlen : (s.data.toList.take k).length = k := by rw [List.length_take]; have : s.data.toList.length = s.size := rfl; omega
  constructor
  · intro h j hj
    have hl : j < s.data.toList.length := by have : s.data.toList.length = s.size := rfl; omega
    have : s.data.toList[j] ∈ s.data.toList.take k := by
      rw [List.mem_take_iff_getElem]
      exact ⟨j, by omega, rfl⟩
    have h2 := h _ this
    unfold at_
    rw [List.getD_eq_getElem?_getD, List.getElem?_eq_getElem hl]
    exact h2
  · intro h x hx
    rw [List.mem_take_iff_getElem] at hx
    obtain ⟨j, hj, rfl⟩ := hx
    have hl : j < s.data.toList.length := by omega
    have h2 := h j (by omega)
    unfold at_ at h2
    rw [List.getD_eq_getElem?_getD, List.getElem?_eq_getElem hl] at h2
    exact h2
/-- The same by places. -/
def canonK (s : ByteArray) (k : Nat) : Prop := (∀ j, j < k → 128 ≤ at_ s j) ∧ at_ s k < 128 ∧ (k = 0 ∨ at_ s k ≠ 0)
theorem canonK_iff (s : ByteArray) (k : Nat) (hk : k < s.size) : canonK s k ↔ varB (valB (s.data.toList.take (k + 1))) = s.data.toList.take (k + 1) := by
  rw [← canon_iff, Num.take_snoc s k hk]
  have hlen : (s.data.toList.take k).length = k := by rw [List.length_take]; have : s.data.toList.length = s.size := rfl; omega
  unfold canonK
  rw [← mem_take_at s k (by omega) (fun x => 128 ≤ x), ← at_eq s k hk]
  constructor
  · rintro ⟨h1, h2, h3⟩
    refine ⟨_, _, rfl, h1, h2, ?_⟩
    rcases h3 with h3 | h3
    · left; rw [h3]; rfl
    · exact Or.inr h3
  · rintro ⟨p, b, e, hp, hb, h0⟩
    obtain ⟨rfl, e2⟩ := List.append_inj' e rfl
    simp only [List.cons.injEq, and_true] at e2
    rw [e2]
    refine ⟨hp, hb, ?_⟩
    rcases h0 with h0 | h0
    · left
      have := congrArg List.length h0
      rw [hlen] at this
      simpa using this
    · exact Or.inr h0

/-- What ReadVar may answer: the number and how many bytes it took. -/
def Ans (s : ByteArray) (n k : Nat) : Prop :=
  (n = 0 ∧ k = 0 ∧ ∀ j, j < 7 → j < s.size → ¬ canonK s j) ∨ (1 ≤ k ∧ k ≤ 7 ∧ k ≤ s.size ∧ canonK s (k - 1) ∧ n = valB (s.data.toList.take k))
theorem canonK_one (s : ByteArray) (i j : Nat) (hi : canonK s i) (hj : canonK s j) : i = j := by
  rcases Nat.lt_trichotomy i j with h | h | h
  · have := hj.1 i h; have := hi.2.1; omega
  · exact h
  · have := hi.1 j h; have := hj.2.1; omega
theorem Ans_one (s : ByteArray) (n k n' k' : Nat) (h : Ans s n k) (h' : Ans s n' k') : n = n' ∧ k = k' := by
  rcases h with ⟨a, b, c⟩ | ⟨a1, a2, a3, a4, a5⟩ <;> rcases h' with ⟨a', b', c'⟩ | ⟨a1', a2', a3', a4', a5'⟩
  · omega
  · exact absurd a4' (c _ (by omega) (by omega))
  · exact absurd a4 (c' _ (by omega) (by omega))
  · have := canonK_one s _ _ a4 a4'
    have e : k = k' := by omega
    subst e
    exact ⟨by rw [a5, a5'], rfl⟩
end Go.Proofs.Ytkfjpgkpmdbnoaa.Var
