/- Blocks and rows, for what is read. -/
import Derived.Test.YtbbaddcldoflfaaJust
import Derived.Test.YtbbaddcldoflfaaTold
set_option linter.unusedVariables false
namespace Go.Proofs.Ytbbaddcldoflfaa
open Go Go.RowKit Go.Joins Own Var Term

theorem Blk.lower {g n : Nat} {vs : List Value} {W W' : World} (h : Blk g vs W) (hb : Below n W W') (hg : g < n) : Blk g vs W' :=
  ⟨fun i v e => ⟨(hb.cell (p := ⟨g, i, none⟩) hg).trans (h.out i v e).1, (hb.frozen (p := ⟨g, i, none⟩) hg).trans (h.out i v e).2⟩⟩
theorem own_blk {α : Type} {f : α → Value} {w : World} {base n : Nat} {e : TypeId} {v : Value} {xs : List α} (h : w.ownsRow base e 1 v n (xs.map f)) (hn : 0 < n) :
    ∃ g cap, v = .slice (some ⟨g, 0, none⟩) n cap ∧ n ≤ cap ∧ base ≤ g ∧ g < w.heap.size ∧ Blk g (xs.map f) w := by
  have hl : xs.length = n := by have := h.1; simpa using this
  rcases h.2 with ⟨_, h0⟩ | ⟨g, cap, cur, rfl, e2, e3, e4, _⟩
  · omega
  · refine ⟨g, cap, rfl, e4, e2, (h.lt g rfl).2, ⟨fun i u hu => ⟨?_, h.frozenAt i⟩⟩⟩
    have hi : i < n := by
      obtain ⟨q, _⟩ := List.getElem?_eq_some_iff.1 hu
      simpa [hl] using q
    rw [h.cellAt i (by omega)]
    exact hu
theorem openR_size (s : ByteArray) (k : Int) : (openR s k).1.size ≤ 900 := by
  unfold openR
  cases hr : rk s 115 with
  | none => show 0 ≤ 900; omega
  | some q =>
    obtain ⟨n, t⟩ := q
    obtain ⟨_, _, _, _, _, h⟩ := rk_facts hr
    show (if (n : Int) = k then (t, true) else (⟨#[]⟩, false)).1.size ≤ 900
    split
    · exact h
    · show 0 ≤ 900; omega
theorem Blk.fill3 {m g : Nat} {w W : World} {u0 u1 u2 : Value} (h : Blk g [u0, u1, u2] W) (hb : Below m w W) (hg : m ≤ g) (v0 v1 v2 : Value) :
    Blk g [v0, v1, v2] ((((W).setCell ⟨g, 0, none⟩ (v0)).setCell ⟨g, 1, none⟩ (v1)).setCell ⟨g, 2, none⟩ (v2)) ∧ Below m w ((((W).setCell ⟨g, 0, none⟩ (v0)).setCell ⟨g, 1, none⟩ (v1)).setCell ⟨g, 2, none⟩ (v2)) :=
  ⟨(((h.set 0 v0).set 1 v1).set 2 v2), (((hb.setCell (by dsimp only; omega) _).setCell (by dsimp only; omega) _).setCell (by dsimp only; omega) _)⟩
theorem Blk.fill6 {m g : Nat} {w W : World} {u0 u1 u2 u3 u4 u5 : Value} (h : Blk g [u0, u1, u2, u3, u4, u5] W) (hb : Below m w W) (hg : m ≤ g) (v0 v1 v2 v3 v4 v5 : Value) :
    Blk g [v0, v1, v2, v3, v4, v5] (((((((W).setCell ⟨g, 0, none⟩ (v0)).setCell ⟨g, 1, none⟩ (v1)).setCell ⟨g, 2, none⟩ (v2)).setCell ⟨g, 3, none⟩ (v3)).setCell ⟨g, 4, none⟩ (v4)).setCell ⟨g, 5, none⟩ (v5)) ∧ Below m w (((((((W).setCell ⟨g, 0, none⟩ (v0)).setCell ⟨g, 1, none⟩ (v1)).setCell ⟨g, 2, none⟩ (v2)).setCell ⟨g, 3, none⟩ (v3)).setCell ⟨g, 4, none⟩ (v4)).setCell ⟨g, 5, none⟩ (v5)) :=
  ⟨((((((h.set 0 v0).set 1 v1).set 2 v2).set 3 v3).set 4 v4).set 5 v5), ((((((hb.setCell (by dsimp only; omega) _).setCell (by dsimp only; omega) _).setCell (by dsimp only; omega) _).setCell (by dsimp only; omega) _).setCell (by dsimp only; omega) _).setCell (by dsimp only; omega) _)⟩
theorem Blk.fill8 {m g : Nat} {w W : World} {u0 u1 u2 u3 u4 u5 u6 u7 : Value} (h : Blk g [u0, u1, u2, u3, u4, u5, u6, u7] W) (hb : Below m w W) (hg : m ≤ g) (v0 v1 v2 v3 v4 v5 v6 v7 : Value) :
    Blk g [v0, v1, v2, v3, v4, v5, v6, v7] (((((((((W).setCell ⟨g, 0, none⟩ (v0)).setCell ⟨g, 1, none⟩ (v1)).setCell ⟨g, 2, none⟩ (v2)).setCell ⟨g, 3, none⟩ (v3)).setCell ⟨g, 4, none⟩ (v4)).setCell ⟨g, 5, none⟩ (v5)).setCell ⟨g, 6, none⟩ (v6)).setCell ⟨g, 7, none⟩ (v7)) ∧ Below m w (((((((((W).setCell ⟨g, 0, none⟩ (v0)).setCell ⟨g, 1, none⟩ (v1)).setCell ⟨g, 2, none⟩ (v2)).setCell ⟨g, 3, none⟩ (v3)).setCell ⟨g, 4, none⟩ (v4)).setCell ⟨g, 5, none⟩ (v5)).setCell ⟨g, 6, none⟩ (v6)).setCell ⟨g, 7, none⟩ (v7)) :=
  ⟨((((((((h.set 0 v0).set 1 v1).set 2 v2).set 3 v3).set 4 v4).set 5 v5).set 6 v6).set 7 v7), ((((((((hb.setCell (by dsimp only; omega) _).setCell (by dsimp only; omega) _).setCell (by dsimp only; omega) _).setCell (by dsimp only; omega) _).setCell (by dsimp only; omega) _).setCell (by dsimp only; omega) _).setCell (by dsimp only; omega) _).setCell (by dsimp only; omega) _)⟩
end Go.Proofs.Ytbbaddcldoflfaa
