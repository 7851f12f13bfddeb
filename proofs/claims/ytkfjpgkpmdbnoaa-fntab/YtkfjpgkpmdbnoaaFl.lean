/- Rows of flat structs: their cells, rows that a call owns, marks in them. -/
import Derived.Test.YtkfjpgkpmdbnoaaReg
import Derived.OwnWalk
import Derived.Laws.OwnMore
set_option linter.unusedVariables false
namespace Go.Proofs.Ytkfjpgkpmdbnoaa
open Go Go.RowKit Go.Joins Own

def fl {α : Type} (f : α → List Value) (xs : List α) : List Value := xs.flatMap f
theorem fl_snoc {α : Type} (f : α → List Value) (xs : List α) (x : α) : fl f (xs ++ [x]) = fl f xs ++ f x := by unfold fl; rw [List.flatMap_append]; simp
theorem fl_app {α : Type} (f : α → List Value) (xs ys : List α) : fl f xs ++ fl f ys = fl f (xs ++ ys) := by unfold fl; rw [List.flatMap_append]
theorem fl_cons {α : Type} (f : α → List Value) (x : α) (xs : List α) : fl f (x :: xs) = f x ++ fl f xs := rfl
theorem fl_len {α : Type} {s : Nat} {f : α → List Value} (hs : ∀ x, (f x).length = s) (xs : List α) : (fl f xs).length = xs.length * s := by
  induction xs with
  | nil => simp [fl]
  | cons x xs ih => rw [fl_cons, List.length_append, ih, hs, List.length_cons, Nat.succ_mul, Nat.add_comm]
theorem fl_get {α : Type} {s : Nat} {f : α → List Value} (hs : ∀ x, (f x).length = s) (xs : List α) : ∀ j (h : j < xs.length) (i : Nat), i < s → (fl f xs)[j * s + i]? = (f xs[j])[i]? := by
  induction xs with
  | nil => intro j h; simp at h
  | cons x xs ih =>
    intro j h i hi
    cases j with
    | zero => rw [fl_cons, Nat.zero_mul, Nat.zero_add, List.getElem?_append_left (by rw [hs]; exact hi)]; rfl
    | succ j =>
      have e : (j + 1) * s + i = s + (j * s + i) := by rw [Nat.succ_mul]; omega
      rw [fl_cons, e, List.getElem?_append_right (by rw [hs]; omega), hs, Nat.add_sub_cancel_left, ih j (by simpa using h) i hi]
      rfl
def sets : List Value → Nat → List Value → List Value
  | L, _, [] => L
  | L, i, v :: vs => sets (L.set i v) (i + 1) vs
theorem sets_at : ∀ (vs A J : List Value), vs.length ≤ J.length → sets (A ++ J) A.length vs = A ++ vs ++ J.drop vs.length
  | [], A, J, h => by simp [sets]
  | v :: vs, A, [], h => by simp at h
  | v :: vs, A, u :: J, h => by
    show sets ((A ++ u :: J).set A.length v) (A.length + 1) vs = _
    have e : (A ++ u :: J).set A.length v = (A ++ [v]) ++ J := by simp
    have e2 := sets_at vs (A ++ [v]) J (by simpa using h)
    rw [List.length_append] at e2
    rw [e]
    simpa using e2
theorem fl_put {α : Type} {s : Nat} {f : α → List Value} (hs : ∀ x, (f x).length = s) (ys : List α) (J : List Value) (x : α) (h : s ≤ J.length) : sets (fl f ys ++ J) (ys.length * s) (f x) = fl f (ys ++ [x]) ++ J.drop s := by
  have e := sets_at (f x) (fl f ys) J (by rw [hs]; exact h)
  rw [fl_len hs, hs] at e
  rw [e, fl_snoc]
/-- The cells from a on hold the row. -/
def FRow {α : Type} (s : Nat) (f : α → List Value) (w : World) (a : Option Addr) (xs : List α) : Prop :=
  ∀ j (h : j < xs.length), ∃ b off, a = some ⟨b, off, none⟩ ∧ b < w.heap.size ∧ ∀ i v, (f xs[j])[i]? = some v → w.cell? ⟨b, off + j * s + i, none⟩ = some v
theorem FRow.later {α : Type} {s : Nat} {f : α → List Value} {w w' : World} {a : Option Addr} {xs : List α} (h : FRow s f w a xs) (hb : Below w.heap.size w w') : FRow s f w' a xs := by
  intro j hj
  obtain ⟨b, off, e, hlt, h0⟩ := h j hj
  exact ⟨b, off, e, Nat.lt_of_lt_of_le hlt hb.size, fun i v e => by rw [hb.cell (p := ⟨b, off + j * s + i, none⟩) hlt]; exact h0 i v e⟩
theorem FRow.low {α : Type} {s n : Nat} {f : α → List Value} {w w' : World} {a : Option Addr} {xs : List α} (h : FRow s f w a xs) (hb : Below n w w') (hn : ∀ p : Addr, a = some p → p.block < n) : FRow s f w' a xs := by
  intro j hj
  obtain ⟨b, off, e, hlt, h0⟩ := h j hj
  exact ⟨b, off, e, Nat.lt_of_lt_of_le hlt hb.size, fun i v e2 => by rw [hb.cell (p := ⟨b, off + j * s + i, none⟩) (show b < n from hn ⟨b, off, none⟩ e)]; exact h0 i v e2⟩
theorem FRow.nil {α : Type} (s : Nat) (f : α → List Value) (w : World) (a : Option Addr) : FRow s f w a [] := by intro j hj; simp at hj
theorem FRow.drew {α : Type} {s : Nat} {f : α → List Value} {w : World} {a : Option Addr} {xs : List α} (h : FRow s f w a xs) : FRow s f w.drew a xs := h
theorem FRow.take {α : Type} {s : Nat} {f : α → List Value} {w : World} {a : Option Addr} {xs : List α} (h : FRow s f w a xs) (k : Nat) : FRow s f w a (xs.take k) := by
  intro j hj
  have hj' : j < xs.length := by rw [List.length_take] at hj; omega
  rw [List.getElem_take]
  exact h j hj'
theorem own_shape {w : World} {B n sz : Nat} {e : TypeId} {v : Value} {xs : List Value} (h : w.ownsRow B e sz v n xs) : ∃ a cap, v = .slice a n cap ∧ n ≤ cap := by
  rcases h.2 with ⟨rfl, h0⟩ | ⟨g, cap, cur, rfl, e2, e3, e4, _⟩
  · subst h0; exact ⟨none, 0, rfl, Nat.le_refl _⟩
  · exact ⟨_, cap, rfl, e4⟩
/-- A row that the call owns from block B on, behind the slice (a, cap). -/
def FOwn {α : Type} (t s : Nat) (f : α → List Value) (B : Nat) (a : Option Addr) (cap : Nat) (xs : List α) (w : World) : Prop := w.ownsRow B t s (.slice a xs.length cap) xs.length (fl f xs)
theorem FOwn.row {α : Type} {t s : Nat} {f : α → List Value} {w : World} {B c : Nat} {a : Option Addr} {xs : List α} (hs : ∀ x, (f x).length = s) (h : FOwn t s f B a c xs w) : FRow s f w a xs := by
  intro j hj
  rcases h.2 with ⟨e, h0⟩ | ⟨g, cap, cur, e, e2, e3, e4, _⟩
  · omega
  · injection e with e1 _ e3'
    subst e1
    subst e3'
    have hlt : g < w.heap.size := (h.lt g rfl).2
    refine ⟨g, 0, rfl, hlt, fun i v e => ?_⟩
    have hi : i < s := by rw [← hs xs[j]]; exact (List.getElem?_eq_some_iff.1 e).1
    have hb : j * s + i < xs.length * s := by
      have : (j + 1) * s ≤ xs.length * s := Nat.mul_le_mul_right _ hj
      rw [Nat.succ_mul] at this
      omega
    rw [Nat.zero_add, h.cellAt (j * s + i) hb, fl_get hs xs j hj i hi]
    exact e
theorem FOwn.le {α : Type} {t s : Nat} {f : α → List Value} {w : World} {B B' c : Nat} {a : Option Addr} {xs : List α} (h : FOwn t s f B a c xs w) (hb : B' ≤ B) : FOwn t s f B' a c xs w := ownsRow_le h hb
theorem FOwn.nil {α : Type} (t s : Nat) (f : α → List Value) (B : Nat) (w : World) : FOwn t s f B none 0 [] w := ⟨by simp [fl], Or.inl ⟨rfl, rfl⟩⟩
theorem FOwn.cap {α : Type} {t s : Nat} {f : α → List Value} {w : World} {B c : Nat} {a : Option Addr} {xs : List α} (h : FOwn t s f B a c xs w) : xs.length ≤ c := by
  obtain ⟨a', c', e, hl⟩ := own_shape h
  injection e with _ _ e
  subst e
  exact hl
theorem grown_to {w w1 w2 : World} {r : Option Nat} (h : w.grownBy w1 r) (k : w1.grownBy w2 r) : w.grownBy w2 r :=
  ⟨k.os.trans h.os, k.tape.trans h.tape, k.output.trans h.output, Nat.le_trans h.size k.size, fun j hj hn => (k.block j (Nat.lt_of_lt_of_le hj h.size) hn).trans (h.block j hj hn)⟩
/-- The first n marks. -/
def mks (g : Nat → Value) (n : Nat) : List Value := (List.range n).map g
theorem mks_len (g : Nat → Value) (n : Nat) : (mks g n).length = n := by unfold mks; simp
theorem mks_put (g : Nat → Value) (vs : List Value) (m m' : Nat) (hm : m' = m + 1) (h : m < vs.length) : (mks g m ++ vs.drop m).set m (g m) = mks g m' ++ vs.drop m' := by
  subst hm
  have e : mks g (m + 1) = mks g m ++ [g m] := by unfold mks; rw [List.range_succ, List.map_append]; rfl
  rw [List.set_append_right _ _ (by rw [mks_len]; omega), mks_len, Nat.sub_self, e, List.append_assoc, List.drop_eq_getElem_cons h]
  rfl
theorem mks_get (g : Nat → Value) (n k : Nat) (h : k < n) : (mks g n)[k]? = some (g k) := by unfold mks; rw [List.getElem?_map, List.getElem?_range h]; rfl
end Go.Proofs.Ytkfjpgkpmdbnoaa
