/- What is told of what was shown. -/
import Derived.Test.YtbbaddcldoflfaaTickMath
import Derived.Test.YtbbaddcldoflfaaRes5
import Derived.Test.YtbbaddcldoflfaaJust
set_option linter.unusedVariables false
namespace Go.Proofs.Ytbbaddcldoflfaa
open Go Go.RowKit Own Var Term

theorem ne_text {x s : ByteArray} (h : ¬ x = s) : (x.toList == s.toList) = false := by
  rw [beq_eq_false_iff_ne]
  intro e
  apply h
  apply ext_list
  simpa [ByteArray.toList_eq] using e
def toldB (x s : ByteArray) : Bool := decide (x.size ≠ 0) && decide (x = s)
set_option maxRecDepth 100000 in
set_option maxHeartbeats 3200000 in
theorem toldG_is (k s0 n a b e : Int) (key : Int) (x s : ByteArray) (w : World) : Calls Try.prog 53 #[.agg #[.int .i64 k, .int .i64 s0, .int .i64 n, .int .i64 a, .int .i64 b, .int .i64 e, .int .i64 key], .string x, .string s] w fun en w' => en = .returned (.tuple #[.agg #[if toldB x s then .int .i64 k else .int .i64 0, if toldB x s then .int .i64 s0 else .int .i64 0, if toldB x s then .int .i64 n else .int .i64 0, if toldB x s then .int .i64 a else .int .i64 0, if toldB x s then .int .i64 b else .int .i64 0, if toldB x s then .int .i64 e else .int .i64 0], .bool (toldB x s)]) ∧ Below w.heap.size w w' := by
  have B2 : Below w.heap.size w ((w.alloc (.cells #[.int .i64 k, .int .i64 s0, .int .i64 n, .int .i64 a, .int .i64 b, .int .i64 e, .int .i64 key] 78)).alloc (.cells #[.int .i64 k, .int .i64 s0, .int .i64 n, .int .i64 a, .int .i64 b, .int .i64 e] 56)) := ((Below.refl _ _).alloc (Nat.le_refl _) _).alloc (by simp) _
  have B3 : Below w.heap.size w (((w.alloc (.cells #[.int .i64 k, .int .i64 s0, .int .i64 n, .int .i64 a, .int .i64 b, .int .i64 e, .int .i64 key] 78)).alloc (.cells #[.int .i64 0, .int .i64 0, .int .i64 0, .int .i64 0, .int .i64 0, .int .i64 0] 56)).alloc (.cells #[.int .i64 0, .int .i64 0, .int .i64 0, .int .i64 0, .int .i64 0, .int .i64 0] 56)) := (((Below.refl _ _).alloc (Nat.le_refl _) _).alloc (by simp) _).alloc (by simp; omega) _
  by_cases h0 : x = ⟨#[]⟩
  · have ht : toldB x s = false := by unfold toldB; rw [h0]; rfl
    rw [ht]
    subst h0
    go_enter Try.func53, Try.ntmps53
    go_wp2
    exact bodyPost_ret (res_gb rfl _ _ (w.heap.size + 1) _ _ _ _ _ _ (.bool false) rfl rfl (by simp [go_sem]) (by simp [go_sem]) (by simp [go_sem]) (by simp [go_sem]) (by simp [go_sem]) (by simp [go_sem])) rfl ⟨rfl, B3⟩
  · have q2 := ne_nil x (by rcases Nat.eq_zero_or_pos x.size with h | h; exact absurd (empty_of x h) h0; exact h)
    by_cases h1 : x = s
    · have ht : toldB x s = true := by unfold toldB; simp [h1]; intro h; exact h0 (h1.trans h)
      rw [ht]
      subst h1
      go_enter Try.func53, Try.ntmps53
      go_wp2
      exact bodyPost_ret (res_gb rfl _ _ (w.heap.size + 1) _ _ _ _ _ _ (.bool true) rfl rfl (by simp [go_sem]) (by simp [go_sem]) (by simp [go_sem]) (by simp [go_sem]) (by simp [go_sem]) (by simp [go_sem])) rfl ⟨rfl, B2⟩
    · have ht : toldB x s = false := by unfold toldB; simp [h1]
      have q4 := ne_text h1
      rw [ht]
      go_enter Try.func53, Try.ntmps53
      go_wp2
      exact bodyPost_ret (res_gb rfl _ _ (w.heap.size + 1) _ _ _ _ _ _ (.bool false) rfl rfl (by simp [go_sem]) (by simp [go_sem]) (by simp [go_sem]) (by simp [go_sem]) (by simp [go_sem]) (by simp [go_sem])) rfl ⟨rfl, B3⟩
end Go.Proofs.Ytbbaddcldoflfaa

set_option linter.unusedVariables false
namespace Go.Proofs.Ytbbaddcldoflfaa
open Go Go.RowKit Go.Joins Own Var Term

theorem Blk.lower {g n : Nat} {vs : List Value} {W W' : World} (h : Blk g vs W) (hb : Below n W W') (hg : g < n) : Blk g vs W' :=
  ⟨fun i v e => ⟨(hb.cell (p := ⟨g, i, none⟩) hg).trans (h.out i v e).1, (hb.frozen (p := ⟨g, i, none⟩) hg).trans (h.out i v e).2⟩⟩
theorem own_blk {α : Type} {f : α → Value} {w : World} {base n : Nat} {e : TypeId} {v : Value} {xs : List α} (h : w.ownsRow base e 1 v n (xs.map f)) (hn : 0 < n) :
    ∃ g cap, v = .slice (some ⟨g, 0, none⟩) n cap ∧ n ≤ cap ∧ base ≤ g ∧ g < w.heap.size ∧ Blk g (xs.map f) w := by
  have hl : xs.length = n := by have := h.1; simpa using this
  rcases h.2 with ⟨_, h0⟩ | ⟨g, cap, cur, rfl, e2, e3, e4, _⟩
  · omega
  · refine ⟨g, cap, rfl, e4, e2, (h.lt g rfl).2, ⟨fun i u hu => ⟨?_, h.frozenAt i⟩⟩⟩
    have hi : i < n := by
      obtain ⟨q, _⟩ := List.getElem?_eq_some_iff.1 hu
      simpa [hl] using q
    rw [h.cellAt i (by omega)]
    exact hu
theorem openR_size (s : ByteArray) (k : Int) : (openR s k).1.size ≤ 900 := by
  unfold openR
  cases hr : rk s 115 with
  | none => show 0 ≤ 900; omega
  | some q =>
    obtain ⟨n, t⟩ := q
    obtain ⟨_, _, _, _, _, h⟩ := rk_facts hr
    show (if (n : Int) = k then (t, true) else (⟨#[]⟩, false)).1.size ≤ 900
    split
    · exact h
    · show 0 ≤ 900; omega
theorem Blk.fill3 {m g : Nat} {w W : World} {u0 u1 u2 : Value} (h : Blk g [u0, u1, u2] W) (hb : Below m w W) (hg : m ≤ g) (v0 v1 v2 : Value) :
    Blk g [v0, v1, v2] ((((W).setCell ⟨g, 0, none⟩ (v0)).setCell ⟨g, 1, none⟩ (v1)).setCell ⟨g, 2, none⟩ (v2)) ∧ Below m w ((((W).setCell ⟨g, 0, none⟩ (v0)).setCell ⟨g, 1, none⟩ (v1)).setCell ⟨g, 2, none⟩ (v2)) :=
  ⟨(((h.set 0 v0).set 1 v1).set 2 v2), (((hb.setCell (by dsimp only; omega) _).setCell (by dsimp only; omega) _).setCell (by dsimp only; omega) _)⟩
theorem Blk.fill6 {m g : Nat} {w W : World} {u0 u1 u2 u3 u4 u5 : Value} (h : Blk g [u0, u1, u2, u3, u4, u5] W) (hb : Below m w W) (hg : m ≤ g) (v0 v1 v2 v3 v4 v5 : Value) :
    Blk g [v0, v1, v2, v3, v4, v5] (((((((W).setCell ⟨g, 0, none⟩ (v0)).setCell ⟨g, 1, none⟩ (v1)).setCell ⟨g, 2, none⟩ (v2)).setCell ⟨g, 3, none⟩ (v3)).setCell ⟨g, 4, none⟩ (v4)).setCell ⟨g, 5, none⟩ (v5)) ∧ Below m w (((((((W).setCell ⟨g, 0, none⟩ (v0)).setCell ⟨g, 1, none⟩ (v1)).setCell ⟨g, 2, none⟩ (v2)).setCell ⟨g, 3, none⟩ (v3)).setCell ⟨g, 4, none⟩ (v4)).setCell ⟨g, 5, none⟩ (v5)) :=
  ⟨((((((h.set 0 v0).set 1 v1).set 2 v2).set 3 v3).set 4 v4).set 5 v5), ((((((hb.setCell (by dsimp only; omega) _).setCell (by dsimp only; omega) _).setCell (by dsimp only; omega) _).setCell (by dsimp only; omega) _).setCell (by dsimp only; omega) _).setCell (by dsimp only; omega) _)⟩
theorem Blk.fill8 {m g : Nat} {w W : World} {u0 u1 u2 u3 u4 u5 u6 u7 : Value} (h : Blk g [u0, u1, u2, u3, u4, u5, u6, u7] W) (hb : Below m w W) (hg : m ≤ g) (v0 v1 v2 v3 v4 v5 v6 v7 : Value) :
    Blk g [v0, v1, v2, v3, v4, v5, v6, v7] (((((((((W).setCell ⟨g, 0, none⟩ (v0)).setCell ⟨g, 1, none⟩ (v1)).setCell ⟨g, 2, none⟩ (v2)).setCell ⟨g, 3, none⟩ (v3)).setCell ⟨g, 4, none⟩ (v4)).setCell ⟨g, 5, none⟩ (v5)).setCell ⟨g, 6, none⟩ (v6)).setCell ⟨g, 7, none⟩ (v7)) ∧ Below m w (((((((((W).setCell ⟨g, 0, none⟩ (v0)).setCell ⟨g, 1, none⟩ (v1)).setCell ⟨g, 2, none⟩ (v2)).setCell ⟨g, 3, none⟩ (v3)).setCell ⟨g, 4, none⟩ (v4)).setCell ⟨g, 5, none⟩ (v5)).setCell ⟨g, 6, none⟩ (v6)).setCell ⟨g, 7, none⟩ (v7)) :=
  ⟨((((((((h.set 0 v0).set 1 v1).set 2 v2).set 3 v3).set 4 v4).set 5 v5).set 6 v6).set 7 v7), ((((((((hb.setCell (by dsimp only; omega) _).setCell (by dsimp only; omega) _).setCell (by dsimp only; omega) _).setCell (by dsimp only; omega) _).setCell (by dsimp only; omega) _).setCell (by dsimp only; omega) _).setCell (by dsimp only; omega) _).setCell (by dsimp only; omega) _)⟩
end Go.Proofs.Ytbbaddcldoflfaa
