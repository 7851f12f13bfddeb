/- What is learned: the program's answer in one word; boxes of two cells. -/
import Derived.Test.YtkekfogepdhjhaaGreatLearn3
import Derived.Test.YtkekfogepdhjhaaGreatMarks2
set_option linter.unusedVariables false
namespace Go.Proofs.YtkekfogepdhjhaaGreat
open Go.RowKit Own Var Term

theorem impl_learn (a9 b9 : Option Addr) (ca cb : Nat) (xs : List ByteArray) (ks : List Int) (t : ByteArray) (w : World) (hr : RowAt Value.string w a9 xs) (hq : RowAt (Value.int .i64) w b9 ks) (hl : xs.length ≤ 1048576) (hl2 : ks.length ≤ 1048576) (hcap : xs.length ≤ ca) (hs : ∀ x ∈ xs, x.size ≤ 1048576) (ht : t.size ≤ 1048576) :
    Calls Tryz.prog 9 #[.agg #[.slice a9 xs.length ca, .slice b9 ks.length cb], .string t] w fun e w' => ∃ v, e = .returned v ∧ KeepK w.heap.size w' v (lrnT xs ks t) (lrnK xs ks) ∧ Below w.heap.size w w' := by
  unfold lrnT lrnK
  cases hK : kOk xs ks with
  | false =>
    simp only [Bool.false_eq_true, if_false]
    exact impl_learn_bad a9 b9 ca cb xs ks t w hr hq hl hl2 hcap hs ht hK
  | true =>
    simp only [if_true]
    unfold putT
    cases hT : isT t with
    | false =>
      rw [if_neg (by simp)]
      exact impl_learn_no1 a9 b9 ca cb xs ks t w hr hq hl hl2 hcap hs ht hK hT
    | true =>
      cases hI : inB xs t with
      | true =>
        rw [if_neg (by simp)]
        exact impl_learn_no2 a9 b9 ca cb xs ks t w hr hq hl hl2 hcap hs ht hK hT hI
      | false =>
        by_cases h60 : xs.length < 60
        · rw [if_pos ⟨rfl, rfl, h60⟩]
          exact impl_learn_yes a9 b9 ca cb xs ks t w hr hq hl hl2 hcap hs ht hK hT hI h60
        · rw [if_neg (fun c => h60 c.2.2)]
          exact impl_learn_no3 a9 b9 ca cb xs ks t w hr hq hl hl2 hcap hs ht hK hT hI h60
theorem lrn_len (xs : List ByteArray) (ks : List Int) (t : ByteArray) : (lrnT xs ks t).length ≤ 1048576 ∧ (lrnK xs ks).length ≤ 1048576 := by
  unfold lrnT lrnK
  cases hK : kOk xs ks with
  | false => simp
  | true =>
    have := kOk_len hK
    simp only [if_true]
    unfold putT
    split
    · simp; omega
    · omega

/-- A block of two cells. -/
def Bx (w : World) (p : Nat) (v0 v1 : Value) : Prop := p < w.heap.size ∧ w.cell? ⟨p, 0, none⟩ = some v0 ∧ w.cell? ⟨p, 1, none⟩ = some v1
theorem Bx.later {w w' : World} {p : Nat} {v0 v1 : Value} (h : Bx w p v0 v1) (hb : Below w.heap.size w w') : Bx w' p v0 v1 :=
  ⟨Nat.lt_of_lt_of_le h.1 hb.size, (hb.cell (p := ⟨p, 0, none⟩) h.1).trans h.2.1, (hb.cell (p := ⟨p, 1, none⟩) h.1).trans h.2.2⟩
theorem Bx.new (w : World) (v0 v1 : Value) (t : TypeId) : Bx (w.alloc (.cells #[v0, v1] t)) w.heap.size v0 v1 := by
  refine ⟨by simp, ?_, ?_⟩ <;> simp [go_sem]
theorem Bx.turn {w w' : World} {p : Nat} {v0 v1 : Value} {q1 q2 : Option Nat} (h : Bx w p v0 v1) (ht : Turn2 w w' q1 q2) (h1 : some p ≠ q1) (h2 : some p ≠ q2) : Bx w' p v0 v1 :=
  ⟨Nat.lt_of_lt_of_le h.1 ht.2.2.2.1, (World.cell?_of_block (w := w) (a := ⟨p, 0, none⟩) (ht.2.2.2.2 p h.1 h1 h2)).trans h.2.1, (World.cell?_of_block (w := w) (a := ⟨p, 1, none⟩) (ht.2.2.2.2 p h.1 h1 h2)).trans h.2.2⟩
/-- Rows that the call owns, as rows. -/
theorem row_own9 {w : World} {B : Nat} {a : Option Addr} {c : Nat} {xs : List ByteArray} (h : w.ownsRow B 9 1 (.slice a xs.length c) xs.length (strV xs)) : RowAt Value.string w a xs := by
  obtain ⟨a', c', e, _, hr⟩ := own_row h
  simp only [Value.slice.injEq] at e
  rw [e.1]; exact hr
theorem row_own3 {w : World} {B : Nat} {a : Option Addr} {c : Nat} {xs : List Int} (h : w.ownsRow B 3 1 (.slice a xs.length c) xs.length (intV xs)) : RowAt (Value.int .i64) w a xs := by
  obtain ⟨a', c', e, _, hr⟩ := own_row h
  simp only [Value.slice.injEq] at e
  rw [e.1]; exact hr
theorem row_marks9 {w : World} {B : Nat} {a : Option Addr} {n c : Nat} (h : w.ownsRow B 9 1 (.slice a n c) n (strV (mtL n))) : RowAt Value.string w a (mtL n) := by
  obtain ⟨a', c', e, _, hr⟩ := own_row h
  simp only [Value.slice.injEq] at e
  rw [e.1]; exact hr
theorem row_marks3 {w : World} {B : Nat} {a : Option Addr} {K n c : Nat} (h : w.ownsRow B 3 1 (.slice a n c) n (intV (miK K n))) : RowAt (Value.int .i64) w a (miK K n) := by
  obtain ⟨a', c', e, _, hr⟩ := own_row h
  simp only [Value.slice.injEq] at e
  rw [e.1]; exact hr
theorem ne_of_lt {w : World} {B n : Nat} {e : TypeId} {v : Value} {xs : List Value} (h : w.ownsRow B e 1 v n xs) {p : Nat} (hp : p < B ∨ w.heap.size ≤ p) : some p ≠ v.ownBlock := by
  intro e
  have := h.lt p e.symm
  omega
end Go.Proofs.YtkekfogepdhjhaaGreat
