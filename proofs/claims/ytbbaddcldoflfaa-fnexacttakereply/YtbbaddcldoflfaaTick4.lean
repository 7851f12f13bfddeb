/- Tickets: what is right, of authenticators and grants. -/
import Derived.Test.YtbbaddcldoflfaaTick1
import Derived.Test.YtbbaddcldoflfaaWalks
set_option linter.unusedVariables false
namespace Go.Proofs.Ytbbaddcldoflfaa
open Go Go.RowKit Own Var Term

/-- A block of the call's own, its cells written out. -/
structure Blk (g : Nat) (vs : List Value) (W : World) : Prop where
  out : ∀ i v, vs[i]? = some v → W.cell? ⟨g, i, none⟩ = some v ∧ W.frozen? ⟨g, i, none⟩ = false
theorem Blk.at {g : Nat} {vs : List Value} {W : World} (h : Blk g vs W) (i : Nat) {v : Value} (e : vs[i]? = some v) : W.cell? ⟨g, i, none⟩ = some v := (h.out i v e).1
theorem Blk.fz {g : Nat} {vs : List Value} {W : World} (h : Blk g vs W) (i : Nat) {v : Value} (e : vs[i]? = some v) : W.frozen? ⟨g, i, none⟩ = false := (h.out i v e).2
theorem Blk.new (w : World) (cs : Array Value) (t : TypeId) : Blk w.heap.size cs.toList (w.alloc (.cells cs t)) := by
  constructor
  intro i v e
  refine ⟨?_, ?_⟩
  · rw [World.cell?_alloc_mark w cs t (0, 0) i]
    simpa using e
  · simp [go_sem]
theorem Blk.later {g : Nat} {vs : List Value} {W W' : World} (h : Blk g vs W) (hb : Below W.heap.size W W') (hg : g < W.heap.size) : Blk g vs W' :=
  ⟨fun i v e => ⟨(hb.cell (p := ⟨g, i, none⟩) hg).trans (h.out i v e).1, (hb.frozen (p := ⟨g, i, none⟩) hg).trans (h.out i v e).2⟩⟩
theorem Blk.drew {g : Nat} {vs : List Value} {W : World} (h : Blk g vs W) : Blk g vs W.drew := ⟨fun i v e => h.out i v e⟩
theorem Blk.alloc {g : Nat} {vs : List Value} {W : World} (h : Blk g vs W) (hg : g < W.heap.size) (o : Obj) : Blk g vs (W.alloc o) := h.later ((Below.refl _ _).alloc (Nat.le_refl _) o) hg
theorem Blk.set {g : Nat} {vs : List Value} {W : World} (h : Blk g vs W) (k : Nat) (u : Value) : Blk g (vs.set k u) (W.setCell ⟨g, k, none⟩ u) := by
  constructor
  intro i v e
  by_cases c : k = i
  · subst c
    have hl : k < vs.length := by
      have := List.getElem?_eq_some_iff.1 e
      obtain ⟨q, _⟩ := this
      simpa using q
    rw [List.getElem?_set_self hl, Option.some.injEq] at e
    subst e
    have hq := h.out k vs[k] (List.getElem?_eq_getElem hl)
    exact ⟨World.cell?_setCell_same' _ _ _ (by rw [hq.1]; rfl), by simpa using hq.2⟩
  · rw [List.getElem?_set_ne c] at e
    have hq := h.out i v e
    exact ⟨by rw [World.cell?_setCell_other _ _ _ _ (by simp)]; exact hq.1, by simpa using hq.2⟩
theorem Blk.far {g g' : Nat} {vs : List Value} {W : World} (h : Blk g vs W) (hn : g' ≠ g) (k : Nat) (u : Value) : Blk g vs (W.setCell ⟨g', k, none⟩ u) :=
  ⟨fun i v e => ⟨by rw [World.cell?_setCell_other _ _ _ _ (by simp)]; exact (h.out i v e).1, by simpa using (h.out i v e).2⟩⟩

set_option maxRecDepth 100000 in
set_option maxHeartbeats 1600000 in
theorem authOk_is (c t q : Int) (w : World) : Calls Try.prog 89 #[.agg #[.int .i64 c, .int .i64 t, .int .i64 q]] w fun en w' => en = .returned (.bool (aOk c t q)) ∧ Below w.heap.size w w' := by
  obtain ⟨W1, hW1⟩ : ∃ W1, w.alloc (.cells #[.int .i64 c, .int .i64 t, .int .i64 q] 40) = W1 := ⟨_, rfl⟩
  have B0 : Below w.heap.size w W1 := by rw [← hW1]; exact (Below.refl _ _).alloc (Nat.le_refl _) _
  have T0 : Blk w.heap.size [.int .i64 c, .int .i64 t, .int .i64 q] W1 := by rw [← hW1]; exact Blk.new _ _ _
  have Z0 : Hid (w.heap.size < W1.heap.size) := by show _ < _; rw [← hW1]; simp
  have d0 := T0.at 0 rfl
  have d1 := T0.at 1 rfl
  have d2 := T0.at 2 rfl
  go_enter Try.func89, Try.ntmps89
  go_wp2_with fail
  try rw [hW1]
  refine (prin_is c _).mono ?_
  clear hW1
  rintro e wx ⟨rfl, rfl⟩
  by_cases h0 : btw c 0 5 = true
  · rw [h0]
    go_wp2_with fail
    refine (within_is t 100000 _).mono ?_
    rintro e wx ⟨rfl, rfl⟩
    rw [show inB t 100000 = btw t 0 100000 from rfl]
    by_cases h1 : btw t 0 100000 = true
    · rw [h1]
      go_wp2_with fail
      refine (within_is q 1000000 _).mono ?_
      rintro e wx ⟨rfl, rfl⟩
      rw [show inB q 1000000 = btw q 0 1000000 from rfl]
      clear d0 d1 d2
      generalize hval : btw q 0 1000000 = bb
      go_wp2
      go_ret
      exact ⟨by unfold aOk; rw [h0, h1, hval]; rfl, B0⟩
    · rw [Bool.not_eq_true] at h1
      rw [h1]
      clear d0 d1 d2
      go_wp2
      go_ret
      exact ⟨by unfold aOk; rw [h0, h1]; rfl, B0⟩
  · rw [Bool.not_eq_true] at h0
    rw [h0]
    clear d0 d1 d2
    go_wp2
    go_ret
    exact ⟨by unfold aOk; rw [h0]; rfl, B0⟩

set_option maxRecDepth 100000 in
set_option maxHeartbeats 1600000 in
theorem spec_authOk (c t q : Int) (w : World) : Calls Try.prog 59 #[.agg #[.int .i64 c, .int .i64 t, .int .i64 q]] w fun en w' => en = .returned (.bool (aOk c t q)) ∧ Below w.heap.size w w' := by
  obtain ⟨W1, hW1⟩ : ∃ W1, w.alloc (.cells #[.int .i64 c, .int .i64 t, .int .i64 q] 40) = W1 := ⟨_, rfl⟩
  have B0 : Below w.heap.size w W1 := by rw [← hW1]; exact (Below.refl _ _).alloc (Nat.le_refl _) _
  have T0 : Blk w.heap.size [.int .i64 c, .int .i64 t, .int .i64 q] W1 := by rw [← hW1]; exact Blk.new _ _ _
  have Z0 : Hid (w.heap.size < W1.heap.size) := by show _ < _; rw [← hW1]; simp
  have d0 := T0.at 0 rfl
  have d1 := T0.at 1 rfl
  have d2 := T0.at 2 rfl
  go_enter Try.func59, Try.ntmps59
  go_wp2_with fail
  try rw [hW1]
  refine (spec_prin c _).mono ?_
  clear hW1
  rintro e wx ⟨rfl, rfl⟩
  by_cases h0 : btw c 0 5 = true
  · rw [h0]
    go_wp2_with fail
    refine (in_is t 0 100000 _).mono ?_
    rintro e wx ⟨rfl, rfl⟩
    rw [show (decide (0 ≤ t) && decide (t ≤ 100000)) = btw t 0 100000 from rfl]
    by_cases h1 : btw t 0 100000 = true
    · rw [h1]
      go_wp2_with fail
      refine (in_is q 0 1000000 _).mono ?_
      rintro e wx ⟨rfl, rfl⟩
      rw [show (decide (0 ≤ q) && decide (q ≤ 1000000)) = btw q 0 1000000 from rfl]
      clear d0 d1 d2
      generalize hval : btw q 0 1000000 = bb
      go_wp2
      go_ret
      exact ⟨by unfold aOk; rw [h0, h1, hval]; rfl, B0⟩
    · rw [Bool.not_eq_true] at h1
      rw [h1]
      clear d0 d1 d2
      go_wp2
      go_ret
      exact ⟨by unfold aOk; rw [h0, h1]; rfl, B0⟩
  · rw [Bool.not_eq_true] at h0
    rw [h0]
    clear d0 d1 d2
    go_wp2
    go_ret
    exact ⟨by unfold aOk; rw [h0]; rfl, B0⟩

set_option maxRecDepth 100000 in
set_option maxHeartbeats 1600000 in
theorem grantOk_is (k s n a b e : Int) (w : World) (hs : i64 s) : Calls Try.prog 79 #[.agg #[.int .i64 k, .int .i64 s, .int .i64 n, .int .i64 a, .int .i64 b, .int .i64 e]] w fun en w' => en = .returned (.bool (gOk k s n a b e)) ∧ Below w.heap.size w w' := by
  obtain ⟨W1, hW1⟩ : ∃ W1, w.alloc (.cells #[.int .i64 k, .int .i64 s, .int .i64 n, .int .i64 a, .int .i64 b, .int .i64 e] 56) = W1 := ⟨_, rfl⟩
  have B0 : Below w.heap.size w W1 := by rw [← hW1]; exact (Below.refl _ _).alloc (Nat.le_refl _) _
  have T0 : Blk w.heap.size [.int .i64 k, .int .i64 s, .int .i64 n, .int .i64 a, .int .i64 b, .int .i64 e] W1 := by rw [← hW1]; exact Blk.new _ _ _
  have Z0 : Hid (w.heap.size < W1.heap.size) := by show _ < _; rw [← hW1]; simp
  have d0 := T0.at 0 rfl
  have d1 := T0.at 1 rfl
  have d2 := T0.at 2 rfl
  have d3 := T0.at 3 rfl
  have d4 := T0.at 4 rfl
  have d5 := T0.at 5 rfl
  go_enter Try.func79, Try.ntmps79
  go_wp2_with fail
  try rw [hW1]
  refine (keyOk_is k _).mono ?_
  clear hW1
  rintro e wx ⟨rfl, rfl⟩
  rw [show (decide (1 ≤ k) && decide (k ≤ 1000000)) = btw k 1 1000000 from rfl]
  by_cases h0 : btw k 1 1000000 = true
  · rw [h0]
    go_wp2_with fail
    refine (recv_is s _ hs).mono ?_
    rintro e wx ⟨rfl, rfl⟩
    by_cases h1 : svOk s = true
    · rw [h1]
      go_wp2_with fail
      refine (within_is n 1000000 _).mono ?_
      rintro e wx ⟨rfl, rfl⟩
      rw [show inB n 1000000 = btw n 0 1000000 from rfl]
      by_cases h2 : btw n 0 1000000 = true
      · rw [h2]
        go_wp2_with fail
        refine (right_is a b e _).mono ?_
        rintro e w5 ⟨rfl, hb5⟩
        have B5 := B0.trans (hb5.mono B0.size)
        clear d0 d1 d2 d3 d4 d5
        have T5 := T0.later hb5 Z0.out
        have Z5 : Hid (w.heap.size < w5.heap.size) := Nat.lt_of_lt_of_le Z0.out hb5.size
        clear T0 Z0 hb5
        have d0 := T5.at 0 rfl
        have d1 := T5.at 1 rfl
        have d2 := T5.at 2 rfl
        have d3 := T5.at 3 rfl
        have d4 := T5.at 4 rfl
        have d5 := T5.at 5 rfl
        clear d0 d1 d2 d3 d4 d5
        generalize hval : rOk a b e = bb
        go_wp2
        go_ret
        exact ⟨by unfold gOk; rw [h0, h1, h2, hval]; rfl, B5⟩
      · rw [Bool.not_eq_true] at h2
        rw [h2]
        clear d0 d1 d2 d3 d4 d5
        go_wp2
        go_ret
        exact ⟨by unfold gOk; rw [h0, h1, h2]; rfl, B0⟩
    · rw [Bool.not_eq_true] at h1
      rw [h1]
      clear d0 d1 d2 d3 d4 d5
      go_wp2
      go_ret
      exact ⟨by unfold gOk; rw [h0, h1]; rfl, B0⟩
  · rw [Bool.not_eq_true] at h0
    rw [h0]
    clear d0 d1 d2 d3 d4 d5
    go_wp2
    go_ret
    exact ⟨by unfold gOk; rw [h0]; rfl, B0⟩

set_option maxRecDepth 100000 in
set_option maxHeartbeats 1600000 in
theorem spec_grantOk (k s n a b e : Int) (w : World) : Calls Try.prog 47 #[.agg #[.int .i64 k, .int .i64 s, .int .i64 n, .int .i64 a, .int .i64 b, .int .i64 e]] w fun en w' => en = .returned (.bool (gOk k s n a b e)) ∧ Below w.heap.size w w' := by
  obtain ⟨W1, hW1⟩ : ∃ W1, w.alloc (.cells #[.int .i64 k, .int .i64 s, .int .i64 n, .int .i64 a, .int .i64 b, .int .i64 e] 56) = W1 := ⟨_, rfl⟩
  have B0 : Below w.heap.size w W1 := by rw [← hW1]; exact (Below.refl _ _).alloc (Nat.le_refl _) _
  have T0 : Blk w.heap.size [.int .i64 k, .int .i64 s, .int .i64 n, .int .i64 a, .int .i64 b, .int .i64 e] W1 := by rw [← hW1]; exact Blk.new _ _ _
  have Z0 : Hid (w.heap.size < W1.heap.size) := by show _ < _; rw [← hW1]; simp
  have d0 := T0.at 0 rfl
  have d1 := T0.at 1 rfl
  have d2 := T0.at 2 rfl
  have d3 := T0.at 3 rfl
  have d4 := T0.at 4 rfl
  have d5 := T0.at 5 rfl
  go_enter Try.func47, Try.ntmps47
  go_wp2_with fail
  try rw [hW1]
  refine (in_is k 1 1000000 _).mono ?_
  clear hW1
  rintro e wx ⟨rfl, rfl⟩
  rw [show (decide (1 ≤ k) && decide (k ≤ 1000000)) = btw k 1 1000000 from rfl]
  by_cases h0 : btw k 1 1000000 = true
  · rw [h0]
    go_wp2_with fail
    refine (spec_serv s _).mono ?_
    rintro e wx ⟨rfl, rfl⟩
    by_cases h1 : svOk s = true
    · rw [h1]
      go_wp2_with fail
      refine (in_is n 0 1000000 _).mono ?_
      rintro e wx ⟨rfl, rfl⟩
      rw [show (decide (0 ≤ n) && decide (n ≤ 1000000)) = btw n 0 1000000 from rfl]
      by_cases h2 : btw n 0 1000000 = true
      · rw [h2]
        go_wp2_with fail
        refine (specOk_is a b e _).mono ?_
        rintro e w5 ⟨rfl, hb5⟩
        have B5 := B0.trans (hb5.mono B0.size)
        clear d0 d1 d2 d3 d4 d5
        have T5 := T0.later hb5 Z0.out
        have Z5 : Hid (w.heap.size < w5.heap.size) := Nat.lt_of_lt_of_le Z0.out hb5.size
        clear T0 Z0 hb5
        have d0 := T5.at 0 rfl
        have d1 := T5.at 1 rfl
        have d2 := T5.at 2 rfl
        have d3 := T5.at 3 rfl
        have d4 := T5.at 4 rfl
        have d5 := T5.at 5 rfl
        clear d0 d1 d2 d3 d4 d5
        generalize hval : rOk a b e = bb
        go_wp2
        go_ret
        exact ⟨by unfold gOk; rw [h0, h1, h2, hval]; rfl, B5⟩
      · rw [Bool.not_eq_true] at h2
        rw [h2]
        clear d0 d1 d2 d3 d4 d5
        go_wp2
        go_ret
        exact ⟨by unfold gOk; rw [h0, h1, h2]; rfl, B0⟩
    · rw [Bool.not_eq_true] at h1
      rw [h1]
      clear d0 d1 d2 d3 d4 d5
      go_wp2
      go_ret
      exact ⟨by unfold gOk; rw [h0, h1]; rfl, B0⟩
  · rw [Bool.not_eq_true] at h0
    rw [h0]
    clear d0 d1 d2 d3 d4 d5
    go_wp2
    go_ret
    exact ⟨by unfold gOk; rw [h0]; rfl, B0⟩
end Go.Proofs.Ytbbaddcldoflfaa
