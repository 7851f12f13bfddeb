/- What reads lists of numbers: the program and the model, one contract each; marks in a row of numbers. -/
import Derived.Test.YtcaieniddnhkbaaMarks
set_option linter.unusedVariables false
namespace Go.Proofs.Ytcaieniddnhkbaa
open Go.RowKit Own Var Term

theorem psL_size (n : Nat) : ∀ r E, rep (bh 7) n r = some E → ∀ x ∈ psL n r, x.size ≤ r.size := by
  induction n with
  | zero => intro r E _ x hx; simp [psL] at hx
  | succ n ih =>
    intro r E h x hx
    obtain ⟨r', h1, h2⟩ := rep_succ h
    rw [psL_succ (bh_mono 7 r r' h1)] at hx
    obtain ⟨j, _, hj, hr⟩ := bh_suf 7 r r' h1
    have hz : r'.size ≤ r.size := by rw [hr, suf_size]; omega
    rcases List.mem_cons.1 hx with rfl | hx
    · exact ext_size _ _
    · exact Nat.le_trans (ih r' E h2 x hx) hz
theorem parts_size (s : ByteArray) : ∀ x ∈ (partsR s).1, x.size ≤ 900 := by
  unfold partsR
  cases hr : rk s 108 with
  | none => intro x hx; simp at hx
  | some q =>
    obtain ⟨n, r⟩ := q
    obtain ⟨hn, E, hE⟩ := rk_list hr
    have hf := rk_facts hr
    intro x hx
    have := psL_size n r E hE x hx
    omega
theorem parts_no (s : ByteArray) (h : (partsR s).2 = false) : (partsR s).1 = [] := by
  unfold partsR at h ⊢
  cases hr : rk s 108 with
  | none => rfl
  | some q => rw [hr] at h; cases h
/-- What ReadNums tells, of the parts. -/
def numsP (xs : List ByteArray) (b : Bool) : List Int × Bool := if (b && xs.all fun x => (numR x).2) = true then (xs.map fun x => (numR x).1, true) else ([], false)
def numsR (s : ByteArray) : List Int × Bool := numsP (partsR s).1 (partsR s).2
/-- The cells of numbers; of the first k parts'. -/
def intV (zs : List Int) : List Value := zs.map (Value.int .i64)
def rowR (xs : List ByteArray) (k : Nat) : List Value := intV ((xs.take k).map fun x => (numR x).1)
theorem rowR_succ (xs : List ByteArray) (k : Nat) (h : k < xs.length) : rowR xs k ++ [.int .i64 (numR xs[k]).1] = rowR xs (k + 1) := by
  unfold rowR intV; rw [List.take_succ_eq_append_getElem h, List.map_append, List.map_append]; rfl
theorem rowR_full (xs : List ByteArray) : rowR xs xs.length = intV (xs.map fun x => (numR x).1) := by unfold rowR; rw [List.take_length]

theorem own_rowAt {α : Type} {f : α → Value} {w : World} {base n c : Nat} {a : Option Addr} {e : TypeId} {xs : List α} (h : w.ownsRow base e 1 (.slice a n c) n (xs.map f)) : RowAt f w a xs := by
  obtain ⟨a', c', e', _, hr⟩ := own_row h
  injection e' with e1 e2 e3
  subst e1
  exact hr
theorem own_ne {w : World} {b b' n n' : Nat} {v v' : Value} {xs xs' : List Value} (h : w.ownsRow b 9 1 v n xs) (h' : w.ownsRow b' 3 1 v' n' xs') : v.ownBlock = none ∨ v.ownBlock ≠ v'.ownBlock := by
  rcases h.2 with ⟨rfl, _⟩ | ⟨g, cap, cur, rfl, _, hg, _⟩
  · exact Or.inl rfl
  · right
    rcases h'.2 with ⟨rfl, _⟩ | ⟨g', cap', cur', rfl, _, hg', _⟩
    · simp [Value.ownBlock]
    · intro e
      simp only [Value.ownBlock, Option.some.injEq] at e
      subst e
      rw [hg] at hg'
      simp at hg'
end Go.Proofs.Ytcaieniddnhkbaa
