/- A Config in a block, while things are drawn. -/
import Derived.Test.YtgmbgginddfnmaaReg
import Derived.Test.YtgmbgginddfnmaaConf3
set_option linter.unusedVariables false
namespace Go.Proofs.Ytgmbgginddfnmaa
open Go Go.RowKit Go.Joins Own Draw

def prV (xs : List (Int × Int)) : List Value := xs.flatMap fun p => [.int .i64 p.1, .int .i64 p.2]
theorem prV_snoc (xs : List (Int × Int)) (a b : Int) : prV xs ++ [.int .i64 a, .int .i64 b] = prV (xs ++ [(a, b)]) := by unfold prV; rw [List.flatMap_append]; rfl
theorem intV_snoc (xs : List Int) (a : Int) : intV xs ++ [.int .i64 a] = intV (xs ++ [a]) := by unfold intV; rw [List.map_append]; rfl
def ety : Nat → TypeId
  | 0 => 3
  | 1 => 3
  | _ => 36
def esz : Nat → Nat
  | 0 => 1
  | 1 => 1
  | _ => 2
def Cf.row (c : Cf) : Nat → Value
  | 0 => .slice c.ua c.U.length c.uc
  | 1 => .slice c.sa c.S.length c.sc
  | 2 => .slice c.la c.L.length c.lc
  | _ => .slice c.xa c.X.length c.xc
def Cf.len (c : Cf) : Nat → Nat
  | 0 => c.U.length
  | 1 => c.S.length
  | 2 => c.L.length
  | _ => c.X.length
def Cf.cel (c : Cf) : Nat → List Value
  | 0 => intV c.U
  | 1 => intV c.S
  | 2 => prV c.L
  | _ => prV c.X
/-- The rows of a Config are the call's own, from block B on, each in a block of its own. -/
structure OwnC (B : Nat) (c : Cf) (w : World) : Prop where
  own : ∀ i, i < 4 → w.ownsRow B (ety i) (esz i) (c.row i) (c.len i) (c.cel i)
  ap : ∀ i j, i < 4 → j < 4 → i ≠ j → ∀ k, (c.row i).ownBlock = some k → (c.row j).ownBlock ≠ some k
theorem OwnC.later {B : Nat} {c : Cf} {w w' : World} (h : OwnC B c w) (hb : Below w.heap.size w w') : OwnC B c w' := ⟨fun i hi => own_later (h.own i hi) hb, h.ap⟩
theorem OwnC.only {B p : Nat} {c : Cf} {w w' : World} (h : OwnC B c w) (ho : Only p w w') (hp : p < B) : OwnC B c w' := ⟨fun i hi => own_only (h.own i hi) ho hp, h.ap⟩
theorem OwnC.set {B : Nat} {c : Cf} {w : World} (h : OwnC B c w) {a : Addr} (ha : a.block < B) (u : Value) : OwnC B c (w.setCell a u) := ⟨fun i hi => ownsRow_setCell_below (h.own i hi) ha u, h.ap⟩
theorem OwnC.le {B B' : Nat} {c : Cf} {w : World} (h : OwnC B c w) (hb : B' ≤ B) : OwnC B' c w := ⟨fun i hi => ownsRow_le (h.own i hi) hb, h.ap⟩
/-- Of d all rows but the i-th are those of c. -/
def Else (i : Nat) (c d : Cf) : Prop := ∀ j, j < 4 → j ≠ i → d.row j = c.row j ∧ d.len j = c.len j ∧ d.cel j = c.cel j
theorem OwnC.turn {B : Nat} {c d : Cf} {w w' : World} (h : OwnC B c w) {i : Nat} (hi : i < 4) (hd : Else i c d) (hg : w.grownBy w' (c.row i).ownBlock) (ho : w'.ownsRow B (ety i) (esz i) (d.row i) (d.len i) (d.cel i))
    (hat : (d.row i).ownBlock = (c.row i).ownBlock ∨ ∃ k, (d.row i).ownBlock = some k ∧ w.heap.size ≤ k) : OwnC B d w' := by
  have new : ∀ j, j < 4 → j ≠ i → ∀ k, (d.row i).ownBlock = some k → (c.row j).ownBlock ≠ some k := by
    intro j hj hn k hk e
    rcases hat with e1 | ⟨q, e1, hq⟩
    · rw [e1] at hk; exact h.ap i j hi hj (Ne.symm hn) k hk e
    · rw [e1] at hk
      cases hk
      have := ((h.own j hj).lt k e).2
      omega
  refine ⟨fun j hj => ?_, fun j m hj hm hn k => ?_⟩
  · by_cases e : j = i
    · subst e; exact ho
    · obtain ⟨e1, e2, e3⟩ := hd j hj e
      rw [e1, e2, e3]
      refine (h.own j hj).kept hg ?_
      cases hv : (c.row j).ownBlock with
      | none => exact Or.inl rfl
      | some k => right; intro e4; exact h.ap j i hj hi e k hv e4.symm
  · by_cases e : j = i
    · subst e
      intro hk
      rw [(hd m hm (Ne.symm hn)).1]
      exact new m hm (Ne.symm hn) k hk
    · by_cases e' : m = i
      · subst e'
        rw [(hd j hj e).1]
        intro hk hk2
        exact new j hj e k hk2 hk
      · rw [(hd j hj e).1, (hd m hm e').1]
        exact h.ap j m hj hm hn k
theorem own_shape {w : World} {B n sz : Nat} {e : TypeId} {v : Value} {xs : List Value} (h : w.ownsRow B e sz v n xs) : ∃ a cap, v = .slice a n cap ∧ n ≤ cap := by
  rcases h.2 with ⟨rfl, h0⟩ | ⟨g, cap, cur, rfl, e2, e3, e4, _⟩
  · subst h0; exact ⟨none, 0, rfl, Nat.le_refl _⟩
  · exact ⟨_, cap, rfl, e4⟩
theorem own_ints {w : World} {B n c : Nat} {a : Option Addr} {xs : List Int} (h : w.ownsRow B 3 1 (.slice a n c) n (intV xs)) (hn : xs.length = n) : RowAt (Value.int .i64) w a xs := by
  subst hn
  obtain ⟨a', c', e', _, hr⟩ := own_row (f := Value.int .i64) h
  injection e' with e1 e2 e3
  subst e1
  exact hr
theorem prV_get (xs : List (Int × Int)) : ∀ j (h : j < xs.length), (prV xs)[j * 2]? = some (.int .i64 xs[j].1) ∧ (prV xs)[j * 2 + 1]? = some (.int .i64 xs[j].2) := by
  induction xs with
  | nil => intro j h; simp at h
  | cons p xs ih =>
    intro j h
    cases j with
    | zero => exact ⟨rfl, rfl⟩
    | succ j =>
      have := ih j (by simpa using h)
      have e : prV (p :: xs) = .int .i64 p.1 :: .int .i64 p.2 :: prV xs := rfl
      rw [e, show (j + 1) * 2 = j * 2 + 1 + 1 by omega]
      simpa using this
theorem own_pairs {w : World} {B n c : Nat} {a : Option Addr} {xs : List (Int × Int)} (h : w.ownsRow B 36 2 (.slice a n c) n (prV xs)) (hn : xs.length = n) : PRow w a xs := by
  subst hn
  intro j hj
  rcases h.2 with ⟨e, h0⟩ | ⟨g, cap, cur, e, e2, e3, e4, _⟩
  · omega
  · injection e with e1 _ e3'
    subst e1
    subst e3'
    have hlt : g < w.heap.size := (h.lt g rfl).2
    refine ⟨g, 0, rfl, hlt, ?_, ?_⟩
    · rw [Nat.zero_add, h.cellAt (j * 2) (by omega)]; exact (prV_get xs j hj).1
    · rw [Nat.zero_add, h.cellAt (j * 2 + 1) (by omega)]; exact (prV_get xs j hj).2
theorem OwnC.at {B : Nat} {c : Cf} {w : World} (h : OwnC B c w) : CfAt c w :=
  ⟨own_ints (h.own 0 (by omega)) rfl, own_ints (h.own 1 (by omega)) rfl, own_pairs (h.own 2 (by omega)) rfl, own_pairs (h.own 3 (by omega)) rfl⟩
theorem OwnC.ok {B : Nat} {c : Cf} {w : World} (h : OwnC B c w) (h0 : c.U.length ≤ 100) (h1 : c.S.length ≤ 100) (h2 : c.L.length ≤ 100) (h3 : c.X.length ≤ 100) : CfOk c := by
  obtain ⟨a, cap, e, le⟩ := own_shape (h.own 2 (by omega))
  obtain ⟨a', cap', e', le'⟩ := own_shape (h.own 3 (by omega))
  injection e with _ _ e
  injection e' with _ _ e'
  subst e e'
  exact ⟨by omega, by omega, by omega, by omega, le, le'⟩
/-- How many stand in the rows. -/
structure Lens (c : Cf) (a b d e : Nat) : Prop where
  u : c.U.length = a
  s : c.S.length = b
  l : c.L.length ≤ d
  x : c.X.length ≤ e
/-- Block q holds a Config, and its rows are the call's own. -/
structure KC (q : Nat) (c : Cf) (w : World) : Prop where
  blk : Blk q c.cells w
  own : OwnC (q + 1) c w
theorem KC.lt {q : Nat} {c : Cf} {w : World} (h : KC q c w) : q < w.heap.size := h.blk.lt
theorem KC.draw {p q : Nat} {c : Cf} {w w' : World} (h : KC q c w) (ho : Only p w w') (hp : p < q) : KC q c w' := ⟨h.blk.only ho h.lt (by omega), h.own.only ho (by omega)⟩
theorem KC.below {q : Nat} {c : Cf} {w w' : World} (h : KC q c w) (hb : Below w.heap.size w w') : KC q c w' := ⟨h.blk.later hb h.lt, h.own.later hb⟩
theorem KC.drew {q : Nat} {c : Cf} {w : World} (h : KC q c w) : KC q c w.drew := h.below (Below.refl _ _).drew
theorem KC.alloc {q : Nat} {c : Cf} {w : World} (h : KC q c w) (o : Obj) : KC q c (w.alloc o) := h.below ((Below.refl _ _).alloc (Nat.le_refl _) _)
theorem Else.refl (i : Nat) (c : Cf) : Else i c c := fun _ _ _ => ⟨rfl, rfl, rfl⟩
/-- A row has grown: its slice is stored into the block. -/
theorem KC.app {q : Nat} {c d : Cf} {w w' : World} (h : KC q c w) {i : Nat} (hi : i < 4) (hd : Else i c d) (hg : w.grownBy w' (c.row i).ownBlock) (ho : w'.ownsRow (q + 1) (ety i) (esz i) (d.row i) (d.len i) (d.cel i))
    (hat : (d.row i).ownBlock = (c.row i).ownBlock ∨ ∃ k, (d.row i).ownBlock = some k ∧ w.heap.size ≤ k) (hc : c.cells.set i (d.row i) = d.cells) :
    Blk q c.cells w' ∧ Below (q + 1) w w' ∧ KC q d (w'.setCell ⟨q, i, none⟩ (d.row i)) := by
  have hb : Below (q + 1) w w' := by
    refine ⟨hg.os, hg.tape, hg.output, hg.size, fun k hk => hg.block k (by have := h.lt; omega) (fun e => ?_)⟩
    have := ((h.own.own i hi).lt k e.symm).1
    omega
  have hB := h.blk.lower hb (by omega)
  refine ⟨hB, hb, ⟨?_, (h.own.turn hi hd hg ho hat).set (by dsimp only; omega) _⟩⟩
  rw [← hc]
  exact hB.set i (d.row i)
theorem KC.skew {q : Nat} {c : Cf} {w : World} (h : KC q c w) (x : Int) : KC q { c with k := x } (w.setCell ⟨q, 4, none⟩ (.int .i64 x)) :=
  ⟨h.blk.set 4 (.int .i64 x), (OwnC.set (c := { c with k := x }) ⟨h.own.own, h.own.ap⟩ (by dsimp only; omega) _)⟩
end Go.Proofs.Ytgmbgginddfnmaa
