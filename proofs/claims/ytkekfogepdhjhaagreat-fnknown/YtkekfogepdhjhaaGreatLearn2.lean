/- What is learned: the model and the program. -/
import Derived.Test.YtkekfogepdhjhaaGreatLearn1
set_option linter.unusedVariables false
namespace Go.Proofs.YtkekfogepdhjhaaGreat
open Go.RowKit Own Var Term

/-- What Learn answers: its terms, its keys. -/
def lrnT (xs : List ByteArray) (ks : List Int) (t : ByteArray) : List ByteArray := if kOk xs ks = true then putT xs t else []
def lrnK (xs : List ByteArray) (ks : List Int) : List Int := if kOk xs ks = true then ks else []
theorem keep_nil (B : Nat) (w : World) : KeepK B w (.agg #[.slice none 0 0, .slice none 0 0]) [] [] :=
  ⟨none, none, 0, 0, rfl, World.ownsRow_nil _ _ _ _, World.ownsRow_nil _ _ _ _⟩
theorem kOk_len {xs : List ByteArray} {ks : List Int} (h : kOk xs ks = true) : xs.length ≤ 60 ∧ ks.length ≤ 40 := by
  unfold kOk at h
  simp at h
  exact ⟨h.1.1.1, h.1.2⟩
theorem KeepK.later {B : Nat} {w w' : World} {v : Value} {xs : List ByteArray} {ks : List Int} (h : KeepK B w v xs ks) (hb : Below w.heap.size w w') : KeepK B w' v xs ks := by
  obtain ⟨a, b, ca, cb, rfl, h1, h2⟩ := h
  exact ⟨a, b, ca, cb, rfl, own_later h1 hb, own_later h2 hb⟩
theorem KeepK.base {B B' : Nat} {w : World} {v : Value} {xs : List ByteArray} {ks : List Int} (h : KeepK B w v xs ks) (hb : B' ≤ B) : KeepK B' w v xs ks := by
  obtain ⟨a, b, ca, cb, rfl, h1, h2⟩ := h
  exact ⟨a, b, ca, cb, rfl, own_base h1 hb, own_base h2 hb⟩
/-- Behind a store below the base. -/
theorem KeepK.setCell {B : Nat} {w : World} {v : Value} {xs : List ByteArray} {ks : List Int} (h : KeepK B w v xs ks) {p : Addr} (hp : p.block < B) (u : Value) : KeepK B (w.setCell p u) v xs ks := by
  obtain ⟨a, b, ca, cb, rfl, h1, h2⟩ := h
  exact ⟨a, b, ca, cb, rfl, ownsRow_setCell_below h1 hp u, ownsRow_setCell_below h2 hp u⟩

theorem l3Learn_is (B : Nat) (a b : Option Addr) (ca cb : Nat) (xs : List ByteArray) (ks : List Int) (t : ByteArray) (w : World) (ho : w.ownsRow B 9 1 (.slice a xs.length ca) xs.length (strV xs)) (hp : w.ownsRow B 3 1 (.slice b ks.length cb) ks.length (intV ks)) (hB : B ≤ w.heap.size) (hl : xs.length ≤ 1048576) (ht : t.size ≤ 1048576) :
    Calls Tryz.prog 47 #[.agg #[.slice a xs.length ca, .slice b ks.length cb], .string t] w fun e w' => ∃ v, e = .returned v ∧ KeepK B w' v (putT xs t) ks ∧ Below B w w' := by
  by_cases h : isT t = true ∧ inB xs t = false ∧ xs.length < 60
  · unfold putT
    rw [if_pos h]
    exact l3Learn_yes B a b ca cb xs ks t w ho hp hB ht h.1 h.2.1 h.2.2
  · unfold putT
    rw [if_neg h]
    obtain ⟨a', ca', ea, _, hr⟩ := own_row ho
    simp only [Value.slice.injEq] at ea
    obtain ⟨rfl, _, rfl⟩ := ea
    refine (l3Learn_no a b ca cb xs ks t w hr hl ht h).mono ?_
    rintro e w' ⟨rfl, hb⟩
    exact ⟨_, rfl, KeepK.later ⟨a, b, ca, cb, rfl, ho, hp⟩ hb, hb.mono hB⟩
end Go.Proofs.YtkekfogepdhjhaaGreat
