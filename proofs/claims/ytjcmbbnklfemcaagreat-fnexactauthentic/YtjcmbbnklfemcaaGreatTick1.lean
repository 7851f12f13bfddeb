/- Tickets: the small predicates, of the program and of the model. -/
import Derived.Test.YtjcmbbnklfemcaaGreatRest
import Derived.Test.YtjcmbbnklfemcaaGreatTermImpl
set_option linter.unusedVariables false
namespace Go.Proofs.YtjcmbbnklfemcaaGreat
open Go Go.RowKit

set_option maxRecDepth 100000 in
theorem prin_is (n : Int) (w : World) : Calls Tryz.prog 140 #[.int .i64 n] w fun e w' => e = .returned (.bool (btw n 0 5)) ∧ w = w' := by
  go_enter Tryz.func140, Tryz.ntmps140
  go_wp2_with fail
  refine (within_is n 5 _).mono ?_
  rintro e w1 ⟨rfl, rfl⟩
  go_wp2
  go_ret
  exact ⟨rfl, rfl⟩
set_option maxRecDepth 100000 in
theorem serv_is (n : Int) (w : World) : Calls Tryz.prog 139 #[.int .i64 n] w fun e w' => e = .returned (.bool (btw n 0 2)) ∧ w = w' := by
  go_enter Tryz.func139, Tryz.ntmps139
  go_wp2_with fail
  refine (within_is n 2 _).mono ?_
  rintro e w1 ⟨rfl, rfl⟩
  go_wp2
  go_ret
  exact ⟨rfl, rfl⟩
set_option maxRecDepth 100000 in
theorem realm_is (n : Int) (w : World) : Calls Tryz.prog 153 #[.int .i64 n] w fun e w' => e = .returned (.bool (btw n 0 2)) ∧ w = w' := by
  go_enter Tryz.func153, Tryz.ntmps153
  go_wp2_with fail
  refine (within_is n 2 _).mono ?_
  rintro e w1 ⟨rfl, rfl⟩
  go_wp2
  go_ret
  exact ⟨rfl, rfl⟩

/-- A number of 64 bits. -/
def i64 (n : Int) : Prop := -9223372036854775808 ≤ n ∧ n ≤ 9223372036854775807
theorem wrap_btw (n : Int) (hn : i64 n) : btw (wrap64 (n - 10)) 0 2 = btw n 10 12 := by
  unfold i64 at hn
  have h : (btw (wrap64 (n - 10)) 0 2 = true) ↔ (btw n 10 12 = true) := by
    rw [btw_iff, btw_iff]
    unfold wrap64
    omega
  exact Bool.eq_iff_iff.2 h
set_option maxRecDepth 100000 in
theorem recv_is (n : Int) (w : World) (hn : i64 n) : Calls Tryz.prog 165 #[.int .i64 n] w fun e w' => e = .returned (.bool (svOk n)) ∧ w = w' := by
  go_enter Tryz.func165, Tryz.ntmps165
  go_wp2_with fail
  refine (serv_is n _).mono ?_
  rintro e w1 ⟨rfl, rfl⟩
  by_cases h : btw n 0 2 = true
  · rw [h]
    go_wp2
    go_ret
    exact ⟨by unfold svOk; rw [h]; rfl, rfl⟩
  · rw [Bool.not_eq_true] at h
    rw [h]
    go_wp2_with fail
    refine (realm_is _ _).mono ?_
    rintro e w1 ⟨rfl, rfl⟩
    go_wp2
    go_ret
    refine ⟨?_, rfl⟩
    unfold svOk
    rw [h, Bool.false_or]
    rw [← wrap_btw n hn]
    rfl
set_option maxRecDepth 100000 in
theorem spec_prin (n : Int) (w : World) : Calls Tryz.prog 34 #[.int .i64 n] w fun e w' => e = .returned (.bool (btw n 0 5)) ∧ w = w' := by
  have h : btw n 0 5 = (decide (0 ≤ n) && decide (n < 6)) := by unfold btw; congr 1; apply decide_eq_decide.2; omega
  rw [h]
  by_cases h0 : 0 ≤ n
  · go_enter Tryz.func34, Tryz.ntmps34
    go_wp2
    go_ret
    exact ⟨by simp [h0], rfl⟩
  · go_enter Tryz.func34, Tryz.ntmps34
    go_wp2
    go_ret
    exact ⟨by simp; omega, rfl⟩
set_option maxRecDepth 100000 in
theorem spec_serv (n : Int) (w : World) : Calls Tryz.prog 68 #[.int .i64 n] w fun e w' => e = .returned (.bool (svOk n)) ∧ w = w' := by
  go_enter Tryz.func68, Tryz.ntmps68
  go_wp2_with fail
  refine (in_is n 0 2 _).mono ?_
  rintro e w1 ⟨rfl, rfl⟩
  rw [show (decide (0 ≤ n) && decide (n ≤ 2)) = btw n 0 2 from rfl]
  by_cases h : btw n 0 2 = true
  · rw [h]
    go_wp2
    go_ret
    exact ⟨by unfold svOk; rw [h]; rfl, rfl⟩
  · rw [Bool.not_eq_true] at h
    rw [h]
    go_wp2_with fail
    refine (in_is n 10 12 _).mono ?_
    rintro e w1 ⟨rfl, rfl⟩
    go_wp2
    go_ret
    exact ⟨by unfold svOk; rw [h]; rfl, rfl⟩
end Go.Proofs.YtjcmbbnklfemcaaGreat

set_option linter.unusedVariables false
namespace Go.Proofs.YtjcmbbnklfemcaaGreat
open Go Go.RowKit Own Var Term

/-- A block of the call's own, its cells written out. -/
structure Blk (g : Nat) (vs : List Value) (W : World) : Prop where
  out : ∀ i v, vs[i]? = some v → W.cell? ⟨g, i, none⟩ = some v ∧ W.frozen? ⟨g, i, none⟩ = false
theorem Blk.at {g : Nat} {vs : List Value} {W : World} (h : Blk g vs W) (i : Nat) {v : Value} (e : vs[i]? = some v) : W.cell? ⟨g, i, none⟩ = some v := (h.out i v e).1
theorem Blk.fz {g : Nat} {vs : List Value} {W : World} (h : Blk g vs W) (i : Nat) {v : Value} (e : vs[i]? = some v) : W.frozen? ⟨g, i, none⟩ = false := (h.out i v e).2
theorem Blk.new (w : World) (cs : Array Value) (t : TypeId) : Blk w.heap.size cs.toList (w.alloc (.cells cs t)) := by
  constructor
  intro i v e
  refine ⟨?_, ?_⟩
  · rw [World.cell?_alloc_mark w cs t (0, 0) i]
    simpa using e
  · simp [go_sem]
theorem Blk.later {g : Nat} {vs : List Value} {W W' : World} (h : Blk g vs W) (hb : Below W.heap.size W W') (hg : g < W.heap.size) : Blk g vs W' :=
  ⟨fun i v e => ⟨(hb.cell (p := ⟨g, i, none⟩) hg).trans (h.out i v e).1, (hb.frozen (p := ⟨g, i, none⟩) hg).trans (h.out i v e).2⟩⟩
theorem Blk.drew {g : Nat} {vs : List Value} {W : World} (h : Blk g vs W) : Blk g vs W.drew := ⟨fun i v e => h.out i v e⟩
theorem Blk.alloc {g : Nat} {vs : List Value} {W : World} (h : Blk g vs W) (hg : g < W.heap.size) (o : Obj) : Blk g vs (W.alloc o) := h.later ((Below.refl _ _).alloc (Nat.le_refl _) o) hg
theorem Blk.set {g : Nat} {vs : List Value} {W : World} (h : Blk g vs W) (k : Nat) (u : Value) : Blk g (vs.set k u) (W.setCell ⟨g, k, none⟩ u) := by
  constructor
  intro i v e
  by_cases c : k = i
  · subst c
    have hl : k < vs.length := by
      have := List.getElem?_eq_some_iff.1 e
      obtain ⟨q, _⟩ := this
      simpa using q
    rw [List.getElem?_set_self hl, Option.some.injEq] at e
    subst e
    have hq := h.out k vs[k] (List.getElem?_eq_getElem hl)
    exact ⟨World.cell?_setCell_same' _ _ _ (by rw [hq.1]; rfl), by simpa using hq.2⟩
  · rw [List.getElem?_set_ne c] at e
    have hq := h.out i v e
    exact ⟨by rw [World.cell?_setCell_other _ _ _ _ (by simp)]; exact hq.1, by simpa using hq.2⟩
theorem Blk.far {g g' : Nat} {vs : List Value} {W : World} (h : Blk g vs W) (hn : g' ≠ g) (k : Nat) (u : Value) : Blk g vs (W.setCell ⟨g', k, none⟩ u) :=
  ⟨fun i v e => ⟨by rw [World.cell?_setCell_other _ _ _ _ (by simp)]; exact (h.out i v e).1, by simpa using (h.out i v e).2⟩⟩

set_option maxRecDepth 100000 in
set_option maxHeartbeats 1600000 in
theorem authOk_is (c t q : Int) (w : World) : Calls Tryz.prog 192 #[.agg #[.int .i64 c, .int .i64 t, .int .i64 q]] w fun en w' => en = .returned (.bool (aOk c t q)) ∧ Below w.heap.size w w' := by
  obtain ⟨W1, hW1⟩ : ∃ W1, w.alloc (.cells #[.int .i64 c, .int .i64 t, .int .i64 q] 80) = W1 := ⟨_, rfl⟩
  have B0 : Below w.heap.size w W1 := by rw [← hW1]; exact (Below.refl _ _).alloc (Nat.le_refl _) _
  have T0 : Blk w.heap.size [.int .i64 c, .int .i64 t, .int .i64 q] W1 := by rw [← hW1]; exact Blk.new _ _ _
  have Z0 : Hid (w.heap.size < W1.heap.size) := by show _ < _; rw [← hW1]; simp
  have d0 := T0.at 0 rfl
  have d1 := T0.at 1 rfl
  have d2 := T0.at 2 rfl
  go_enter Tryz.func192, Tryz.ntmps192
  go_wp2_with fail
  try rw [hW1]
  refine (prin_is c _).mono ?_
  clear hW1
  rintro e wx ⟨rfl, rfl⟩
  by_cases h0 : btw c 0 5 = true
  · rw [h0]
    go_wp2_with fail
    refine (within_is t 100000 _).mono ?_
    rintro e wx ⟨rfl, rfl⟩
    rw [show inB t 100000 = btw t 0 100000 from rfl]
    by_cases h1 : btw t 0 100000 = true
    · rw [h1]
      go_wp2_with fail
      refine (within_is q 1000000 _).mono ?_
      rintro e wx ⟨rfl, rfl⟩
      rw [show inB q 1000000 = btw q 0 1000000 from rfl]
      clear d0 d1 d2
      generalize hval : btw q 0 1000000 = bb
      go_wp2
      go_ret
      exact ⟨by unfold aOk; rw [h0, h1, hval]; rfl, B0⟩
    · rw [Bool.not_eq_true] at h1
      rw [h1]
      clear d0 d1 d2
      go_wp2
      go_ret
      exact ⟨by unfold aOk; rw [h0, h1]; rfl, B0⟩
  · rw [Bool.not_eq_true] at h0
    rw [h0]
    clear d0 d1 d2
    go_wp2
    go_ret
    exact ⟨by unfold aOk; rw [h0]; rfl, B0⟩

set_option maxRecDepth 100000 in
set_option maxHeartbeats 1600000 in
theorem spec_authOk (c t q : Int) (w : World) : Calls Tryz.prog 70 #[.agg #[.int .i64 c, .int .i64 t, .int .i64 q]] w fun en w' => en = .returned (.bool (aOk c t q)) ∧ Below w.heap.size w w' := by
  obtain ⟨W1, hW1⟩ : ∃ W1, w.alloc (.cells #[.int .i64 c, .int .i64 t, .int .i64 q] 80) = W1 := ⟨_, rfl⟩
  have B0 : Below w.heap.size w W1 := by rw [← hW1]; exact (Below.refl _ _).alloc (Nat.le_refl _) _
  have T0 : Blk w.heap.size [.int .i64 c, .int .i64 t, .int .i64 q] W1 := by rw [← hW1]; exact Blk.new _ _ _
  have Z0 : Hid (w.heap.size < W1.heap.size) := by show _ < _; rw [← hW1]; simp
  have d0 := T0.at 0 rfl
  have d1 := T0.at 1 rfl
  have d2 := T0.at 2 rfl
  go_enter Tryz.func70, Tryz.ntmps70
  go_wp2_with fail
  try rw [hW1]
  refine (spec_prin c _).mono ?_
  clear hW1
  rintro e wx ⟨rfl, rfl⟩
  by_cases h0 : btw c 0 5 = true
  · rw [h0]
    go_wp2_with fail
    refine (in_is t 0 100000 _).mono ?_
    rintro e wx ⟨rfl, rfl⟩
    rw [show (decide (0 ≤ t) && decide (t ≤ 100000)) = btw t 0 100000 from rfl]
    by_cases h1 : btw t 0 100000 = true
    · rw [h1]
      go_wp2_with fail
      refine (in_is q 0 1000000 _).mono ?_
      rintro e wx ⟨rfl, rfl⟩
      rw [show (decide (0 ≤ q) && decide (q ≤ 1000000)) = btw q 0 1000000 from rfl]
      clear d0 d1 d2
      generalize hval : btw q 0 1000000 = bb
      go_wp2
      go_ret
      exact ⟨by unfold aOk; rw [h0, h1, hval]; rfl, B0⟩
    · rw [Bool.not_eq_true] at h1
      rw [h1]
      clear d0 d1 d2
      go_wp2
      go_ret
      exact ⟨by unfold aOk; rw [h0, h1]; rfl, B0⟩
  · rw [Bool.not_eq_true] at h0
    rw [h0]
    clear d0 d1 d2
    go_wp2
    go_ret
    exact ⟨by unfold aOk; rw [h0]; rfl, B0⟩
end Go.Proofs.YtjcmbbnklfemcaaGreat
