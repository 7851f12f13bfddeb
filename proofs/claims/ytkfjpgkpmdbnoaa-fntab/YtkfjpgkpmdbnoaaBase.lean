/- What all texts of this seat stand on: small predicates of the program and the model, rows and blocks in memory, regions that draw their order. -/
import Derived.Test.YtkfjpgkpmdbnoaaRows
import Derived.WalkKit
import Derived.WalkSpells
import Derived.WalkLawsBesides
import Derived.Deep.QuietTactic
import Derived.Deep.RegionHeld3
import Derived.Maps.AppendAt
import Derived.BigQuiet
import Derived.WalkSmall
import Derived.Below
set_option linter.unusedVariables false
namespace Go.Proofs.Ytkfjpgkpmdbnoaa
open Go Go.RowKit
/-- A number lies between none and g. -/
def inB (n g : Int) : Bool := decide (0 ≤ n) && decide (n ≤ g)
theorem in_is (n l g : Int) (w : World) : Calls Try.prog 44 #[.int .i64 n, .int .i64 l, .int .i64 g] w fun e w' => e = .returned (.bool (decide (l ≤ n) && decide (n ≤ g))) ∧ w = w' := by
  by_cases h0 : l ≤ n
  · by_cases h1 : n ≤ g
    · go_enter Try.func44, Try.ntmps44
      go_wp2
      go_ret
      exact ⟨by simp [h0, h1], rfl⟩
    · go_enter Try.func44, Try.ntmps44
      go_wp2
      go_ret
      exact ⟨by simp [h1], rfl⟩
  · go_enter Try.func44, Try.ntmps44
    go_wp2
    go_ret
    exact ⟨by rw [show decide (l ≤ n) = false by simp; omega]; rfl, rfl⟩

/-! What is right. -/
/-- A number from 0 to a last one, or from a first one on. -/
def btw (n lo hi : Int) : Bool := decide (lo ≤ n) && decide (n ≤ hi)
def allB (l : List Int) (m : Nat) : Bool := decide (l.length ≤ m) && l.all fun n => btw n 0 2
theorem btw_iff (n lo hi : Int) : btw n lo hi = true ↔ lo ≤ n ∧ n ≤ hi := by unfold btw; simp
theorem inB_btw (n g : Int) : inB n g = btw n 0 g := rfl

/-- A number of 64 bits. -/
def i64 (n : Int) : Prop := -9223372036854775808 ≤ n ∧ n ≤ 9223372036854775807
/-- The cells from a on hold the row. -/
def RowAt {α : Type} (f : α → Value) (w : World) (a : Option Addr) (xs : List α) : Prop :=
  ∀ j (h : j < xs.length), ∃ b off, a = some ⟨b, off, none⟩ ∧ b < w.heap.size ∧ w.cell? ⟨b, off + j, none⟩ = some (f xs[j])
theorem RowAt.later {α : Type} {f : α → Value} {w w' : World} {a : Option Addr} {xs : List α} (h : RowAt f w a xs) (hb : Below w.heap.size w w') : RowAt f w' a xs := by
  intro j hj
  obtain ⟨b, off, e, hlt, hc⟩ := h j hj
  exact ⟨b, off, e, Nat.lt_of_lt_of_le hlt hb.size, by rw [hb.cell (p := ⟨b, off + j, none⟩) hlt]; exact hc⟩
theorem RowAt.own {α : Type} {f : α → Value} {w : World} {base g cap n : Nat} {e : TypeId} {xs : List α} (h : w.ownsRow base e 1 (.slice (some ⟨g, 0, none⟩) n cap) n (xs.map f)) : RowAt f w (some ⟨g, 0, none⟩) xs := by
  have hl : xs.length = n := by have := h.1; simpa using this
  intro j hj
  refine ⟨g, 0, rfl, (h.lt g rfl).2, ?_⟩
  rw [Nat.zero_add, h.cellAt j (by omega)]
  simp [hj]
theorem RowAt.nil {α : Type} {f : α → Value} (w : World) (a : Option Addr) : RowAt f w a [] := by intro j hj; simp at hj

theorem infoInt : (Try.prog.info? 3).map (fun i => (i.zero, i.size, i.bytes)) = some (some (.int .i64 0), 1, 8) := by kernel_rfl

theorem all_yes {xs : List Int} (h : ∀ j (hj : j < xs.length), btw xs[j] 0 2 = true) : (xs.all fun n => btw n 0 2) = true := by
  rw [List.all_eq_true]
  intro x hx
  obtain ⟨j, hj, rfl⟩ := List.mem_iff_getElem.1 hx
  exact h j hj
theorem all_no {xs : List Int} {j : Nat} (hj : j < xs.length) (h : btw xs[j] 0 2 = false) : (xs.all fun n => btw n 0 2) = false := by
  cases hh : xs.all fun n => btw n 0 2 with
  | false => rfl
  | true => rw [List.all_eq_true] at hh; rw [hh _ (List.getElem_mem hj)] at h; cases h

/-- A block of the call's own, its cells written out. -/
structure Blk (g : Nat) (vs : List Value) (W : World) : Prop where
  out : ∀ i v, vs[i]? = some v → W.cell? ⟨g, i, none⟩ = some v ∧ W.frozen? ⟨g, i, none⟩ = false
theorem Blk.at {g : Nat} {vs : List Value} {W : World} (h : Blk g vs W) (i : Nat) {v : Value} (e : vs[i]? = some v) : W.cell? ⟨g, i, none⟩ = some v := (h.out i v e).1
theorem Blk.fz {g : Nat} {vs : List Value} {W : World} (h : Blk g vs W) (i : Nat) {v : Value} (e : vs[i]? = some v) : W.frozen? ⟨g, i, none⟩ = false := (h.out i v e).2
theorem Blk.new (w : World) (cs : Array Value) (t : TypeId) : Blk w.heap.size cs.toList (w.alloc (.cells cs t)) := by
  constructor
  intro i v e
  refine ⟨?_, ?_⟩
  · rw [World.cell?_alloc_mark w cs t (0, 0) i]
    simpa using e
  · simp [go_sem]
theorem Blk.later {g : Nat} {vs : List Value} {W W' : World} (h : Blk g vs W) (hb : Below W.heap.size W W') (hg : g < W.heap.size) : Blk g vs W' :=
  ⟨fun i v e => ⟨(hb.cell (p := ⟨g, i, none⟩) hg).trans (h.out i v e).1, (hb.frozen (p := ⟨g, i, none⟩) hg).trans (h.out i v e).2⟩⟩
theorem Blk.drew {g : Nat} {vs : List Value} {W : World} (h : Blk g vs W) : Blk g vs W.drew := ⟨fun i v e => h.out i v e⟩
theorem Blk.alloc {g : Nat} {vs : List Value} {W : World} (h : Blk g vs W) (hg : g < W.heap.size) (o : Obj) : Blk g vs (W.alloc o) := h.later ((Below.refl _ _).alloc (Nat.le_refl _) o) hg
theorem Blk.set {g : Nat} {vs : List Value} {W : World} (h : Blk g vs W) (k : Nat) (u : Value) : Blk g (vs.set k u) (W.setCell ⟨g, k, none⟩ u) := by
  constructor
  intro i v e
  by_cases c : k = i
  · subst c
    have hl : k < vs.length := by
      have := List.getElem?_eq_some_iff.1 e
      obtain ⟨q, _⟩ := this
      simpa using q
    rw [List.getElem?_set_self hl, Option.some.injEq] at e
    subst e
    have hq := h.out k vs[k] (List.getElem?_eq_getElem hl)
    exact ⟨World.cell?_setCell_same' _ _ _ (by rw [hq.1]; rfl), by simpa using hq.2⟩
  · rw [List.getElem?_set_ne c] at e
    have hq := h.out i v e
    exact ⟨by rw [World.cell?_setCell_other _ _ _ _ (by simp)]; exact hq.1, by simpa using hq.2⟩
theorem Blk.far {g g' : Nat} {vs : List Value} {W : World} (h : Blk g vs W) (hn : g' ≠ g) (k : Nat) (u : Value) : Blk g vs (W.setCell ⟨g', k, none⟩ u) :=
  ⟨fun i v e => ⟨by rw [World.cell?_setCell_other _ _ _ _ (by simp)]; exact (h.out i v e).1, by simpa using (h.out i v e).2⟩⟩

theorem unwanted {ops : Array Oper} {tmps : Array Value} {o : Oper} {j d : Nat} {b c : Bool} (hg : o.guard = some (j, b)) (hd : (ops[j]?).bind (·.dst) = some d) (ht : tmps[d]? = some (.bool c)) (hc : (c == b) = false) : Region.wanted o (yielded ops tmps) = false := by
  have hy : yielded ops tmps j = some c := by unfold yielded; rw [hd]; simp only [Option.bind_some, ht]
  unfold Region.wanted
  rw [hg]
  simp only [hy]
  simpa using hc
theorem unwanted_undef {ops : Array Oper} {tmps : Array Value} {o : Oper} {j d : Nat} {b : Bool} (hg : o.guard = some (j, b)) (hd : (ops[j]?).bind (·.dst) = some d) (ht : tmps[d]? = some undef) : Region.wanted o (yielded ops tmps) = false := by
  have hy : yielded ops tmps j = none := by unfold yielded; rw [hd]; simp only [Option.bind_some, ht]; rfl
  unfold Region.wanted
  rw [hg]
  simp only [hy]
  rfl
/-- An operation of a drawn region that yields its value wherever S holds is taken first. -/
theorem take_one {P : Program} {ops : Array Oper} {Q : Exit → Act → World → Prop} {md : Region.Mode} {S : World → Prop} (i d : Nat) {oi : Oper} {v : Value} {fuel : Nat} {listed : Array Bool} {a : Act} {w : World} (hi : ops[i]? = some oi) (hd : oi.dst = some d)
    (hs : Region.noSelect ops = true) (hf : Region.free md ops listed i = true) (hr : (Region.ready md ops listed).contains i = true) (hQ : ∀ c a w, Q (.panic c) (a.put (some d) v) w → Q (.panic c) a w)
    (hy : YieldsIf P ops S oi v a) (hS : S w) (h : wpAnyH P md ops Q S fuel (listed.setIfInBounds i true) (a.put (some d) v) w) : wpAnyH P md ops Q S (fuel + 1) listed a w :=
  wpAnyH_take hi hs hf hr (by rw [hd]; exact hQ) hy hS (by rw [hd]; exact h)
/-- An operation of a drawn region that its guard passes over is taken first. -/
theorem skip_one {P : Program} {ops : Array Oper} {Q : Exit → Act → World → Prop} {md : Region.Mode} {S : World → Prop} (i d : Nat) {oi : Oper} {fuel : Nat} {listed : Array Bool} {a : Act} {w : World} (hi : ops[i]? = some oi) (hd : oi.dst = some d)
    (hs : Region.noSelect ops = true) (hf : Region.free md ops listed i = true) (hr : (Region.ready md ops listed).contains i = true) (hQ : ∀ c a w, Q (.panic c) (a.put (some d) undef) w → Q (.panic c) a w)
    (hw : Region.wanted oi (yielded ops a.tmps) = false) (hS : S w) (h : wpAnyH P md ops Q S fuel (listed.setIfInBounds i true) (a.put (some d) undef) w) : wpAnyH P md ops Q S (fuel + 1) listed a w :=
  take_one i d hi hd hs hf hr hQ (Or.inr ⟨hw, rfl⟩) hS h

theorem Blk.lower {g n : Nat} {vs : List Value} {W W' : World} (h : Blk g vs W) (hb : Below n W W') (hg : g < n) : Blk g vs W' :=
  ⟨fun i v e => ⟨(hb.cell (p := ⟨g, i, none⟩) hg).trans (h.out i v e).1, (hb.frozen (p := ⟨g, i, none⟩) hg).trans (h.out i v e).2⟩⟩
theorem own_blk {α : Type} {f : α → Value} {w : World} {base n : Nat} {e : TypeId} {v : Value} {xs : List α} (h : w.ownsRow base e 1 v n (xs.map f)) (hn : 0 < n) :
    ∃ g cap, v = .slice (some ⟨g, 0, none⟩) n cap ∧ n ≤ cap ∧ base ≤ g ∧ g < w.heap.size ∧ Blk g (xs.map f) w := by
  have hl : xs.length = n := by have := h.1; simpa using this
  rcases h.2 with ⟨_, h0⟩ | ⟨g, cap, cur, rfl, e2, e3, e4, _⟩
  · omega
  · refine ⟨g, cap, rfl, e4, e2, (h.lt g rfl).2, ⟨fun i u hu => ⟨?_, h.frozenAt i⟩⟩⟩
    have hi : i < n := by
      obtain ⟨q, _⟩ := List.getElem?_eq_some_iff.1 hu
      simpa [hl] using q
    rw [h.cellAt i (by omega)]
    exact hu
theorem own_later {w w' : World} {base : Nat} {e : TypeId} {size : Nat} {v : Value} {n : Nat} {xs : List Value} (h : w.ownsRow base e size v n xs) (hb : Below w.heap.size w w') : w'.ownsRow base e size v n xs := by
  refine ⟨h.1, ?_⟩
  rcases h.2 with h0 | ⟨g, cap, cur, e1, e2, e3, e4⟩
  · exact Or.inl h0
  · exact Or.inr ⟨g, cap, cur, e1, e2, (hb.block g (by subst e1; exact (h.lt g rfl).2)).trans e3, e4⟩
theorem own_row {α : Type} {f : α → Value} {w : World} {base n : Nat} {e : TypeId} {v : Value} {xs : List α} (h : w.ownsRow base e 1 v n (xs.map f)) :
    ∃ a cap, v = .slice a xs.length cap ∧ xs.length ≤ cap ∧ RowAt f w a xs := by
  have hl : xs.length = n := by have := h.1; simpa using this
  subst hl
  rcases h.2 with ⟨rfl, h0⟩ | ⟨g, cap, cur, rfl, e2, e3, e4, _⟩
  · have : xs = [] := List.length_eq_zero_iff.1 h0
    subst this
    exact ⟨none, 0, rfl, Nat.le_refl _, RowAt.nil _ _⟩
  · exact ⟨_, cap, rfl, e4, RowAt.own h⟩

theorem RowAt.set {α : Type} {f : α → Value} {w : World} {a : Option Addr} {xs : List α} (h : RowAt f w a xs) (q i : Nat) (u : Value) (hn : ∀ p : Addr, a = some p → p.block ≠ q) : RowAt f (w.setCell ⟨q, i, none⟩ u) a xs := by
  intro j hj
  obtain ⟨b, off, e, hlt, hc⟩ := h j hj
  refine ⟨b, off, e, by simpa using hlt, ?_⟩
  have := hn _ e
  rw [World.cell?_setCell_other _ _ _ _ (by intro he; simp only [Addr.mk.injEq] at he; exact this he.1.symm)]
  exact hc
end Go.Proofs.Ytkfjpgkpmdbnoaa
