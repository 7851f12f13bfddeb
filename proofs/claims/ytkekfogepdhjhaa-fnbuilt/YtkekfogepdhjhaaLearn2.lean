/- What is learned: the model and the program. -/
import Derived.Test.YtkekfogepdhjhaaLearn1
set_option linter.unusedVariables false
namespace Go.Proofs.Ytkekfogepdhjhaa
open Go.RowKit Own Var Term

/-- What Learn answers: its terms, its keys. -/
def lrnT (xs : List ByteArray) (ks : List Int) (t : ByteArray) : List ByteArray := if kOk xs ks = true then putT xs t else []
def lrnK (xs : List ByteArray) (ks : List Int) : List Int := if kOk xs ks = true then ks else []
theorem keep_nil (B : Nat) (w : World) : KeepK B w (.agg #[.slice none 0 0, .slice none 0 0]) [] [] :=
  ⟨none, none, 0, 0, rfl, World.ownsRow_nil _ _ _ _, World.ownsRow_nil _ _ _ _⟩
theorem kOk_len {xs : List ByteArray} {ks : List Int} (h : kOk xs ks = true) : xs.length ≤ 60 ∧ ks.length ≤ 40 := by
  unfold kOk at h
  simp at h
  exact ⟨h.1.1.1, h.1.2⟩
theorem KeepK.later {B : Nat} {w w' : World} {v : Value} {xs : List ByteArray} {ks : List Int} (h : KeepK B w v xs ks) (hb : Below w.heap.size w w') : KeepK B w' v xs ks := by
  obtain ⟨a, b, ca, cb, rfl, h1, h2⟩ := h
  exact ⟨a, b, ca, cb, rfl, own_later h1 hb, own_later h2 hb⟩
theorem KeepK.base {B B' : Nat} {w : World} {v : Value} {xs : List ByteArray} {ks : List Int} (h : KeepK B w v xs ks) (hb : B' ≤ B) : KeepK B' w v xs ks := by
  obtain ⟨a, b, ca, cb, rfl, h1, h2⟩ := h
  exact ⟨a, b, ca, cb, rfl, own_base h1 hb, own_base h2 hb⟩
/-- Behind a store below the base. -/
theorem KeepK.setCell {B : Nat} {w : World} {v : Value} {xs : List ByteArray} {ks : List Int} (h : KeepK B w v xs ks) {p : Addr} (hp : p.block < B) (u : Value) : KeepK B (w.setCell p u) v xs ks := by
  obtain ⟨a, b, ca, cb, rfl, h1, h2⟩ := h
  exact ⟨a, b, ca, cb, rfl, ownsRow_setCell_below h1 hp u, ownsRow_setCell_below h2 hp u⟩

theorem l3Learn_is (B : Nat) (a b : Option Addr) (ca cb : Nat) (xs : List ByteArray) (ks : List Int) (t : ByteArray) (w : World) (ho : w.ownsRow B 9 1 (.slice a xs.length ca) xs.length (strV xs)) (hp : w.ownsRow B 3 1 (.slice b ks.length cb) ks.length (intV ks)) (hB : B ≤ w.heap.size) (hl : xs.length ≤ 1048576) (ht : t.size ≤ 1048576) :
    Calls Try.prog 63 #[.agg #[.slice a xs.length ca, .slice b ks.length cb], .string t] w fun e w' => ∃ v, e = .returned v ∧ KeepK B w' v (putT xs t) ks ∧ Below B w w' := by
  by_cases h : isT t = true ∧ inB xs t = false ∧ xs.length < 60
  · unfold putT
    rw [if_pos h]
    exact l3Learn_yes B a b ca cb xs ks t w ho hp hB ht h.1 h.2.1 h.2.2
  · unfold putT
    rw [if_neg h]
    obtain ⟨a', ca', ea, _, hr⟩ := own_row ho
    simp only [Value.slice.injEq] at ea
    obtain ⟨rfl, _, rfl⟩ := ea
    refine (l3Learn_no a b ca cb xs ks t w hr hl ht h).mono ?_
    rintro e w' ⟨rfl, hb⟩
    exact ⟨_, rfl, KeepK.later ⟨a, b, ca, cb, rfl, ho, hp⟩ hb, hb.mono hB⟩

set_option maxRecDepth 100000 in
set_option maxHeartbeats 3200000 in
theorem spec_learn (g1 o1 g2 o2 ca cb : Nat) (xs : List ByteArray) (ks : List Int) (t : ByteArray) (w : World) (hr : RowAt Value.string w (some ⟨g1, o1, none⟩) xs) (hq : RowAt (Value.int .i64) w (some ⟨g2, o2, none⟩) ks) (hl : xs.length ≤ 1048576) (hl2 : ks.length ≤ 1048576) (hcap : xs.length ≤ ca) (hs : ∀ x ∈ xs, x.size ≤ 1048576) (ht : t.size ≤ 1048576) :
    Calls Try.prog 26 #[.agg #[.slice (some ⟨g1, o1, none⟩) xs.length ca, .slice (some ⟨g2, o2, none⟩) ks.length cb], .string t] w fun e w' => ∃ v, e = .returned v ∧ KeepK w.heap.size w' v (lrnT xs ks t) (lrnK xs ks) ∧ Below w.heap.size w w' := by
  obtain ⟨W2, hW2⟩ : ∃ W2, (w.alloc (.cells #[.slice (some ⟨g1, o1, none⟩) xs.length ca, .slice (some ⟨g2, o2, none⟩) ks.length cb] 27)).alloc (.cells #[.slice none 0 0, .slice none 0 0] 27) = W2 := ⟨_, rfl⟩
  have hb0 : Below w.heap.size w W2 := by rw [← hW2]; exact ((Below.refl _ _).alloc (Nat.le_refl _) _).alloc (by simp) _
  have hz : Hid (W2.heap.size = w.heap.size + 2) := by show W2.heap.size = w.heap.size + 2; rw [← hW2]; simp
  have c0 : W2.cell? ⟨w.heap.size, 0, none⟩ = some (.slice (some ⟨g1, o1, none⟩) xs.length ca) := by rw [← hW2]; simp [go_sem]
  have c1 : W2.cell? ⟨w.heap.size, 1, none⟩ = some (.slice (some ⟨g2, o2, none⟩) ks.length cb) := by rw [← hW2]; simp [go_sem]
  have c2 : W2.cell? ⟨w.heap.size + 1, 0, none⟩ = some (.slice none 0 0) := by rw [← hW2]; simp [go_sem]
  have c3 : W2.cell? ⟨w.heap.size + 1, 1, none⟩ = some (.slice none 0 0) := by rw [← hW2]; simp [go_sem]
  have f2 : W2.frozen? ⟨w.heap.size + 1, 0, none⟩ = false := by rw [← hW2]; simp [go_sem]
  have f3 : W2.frozen? ⟨w.heap.size + 1, 1, none⟩ = false := by rw [← hW2]; simp [go_sem]
  have L0 : ∀ o, (⟨w.heap.size, o, none⟩ : Addr).block < W2.heap.size := fun o => by have := hz.out; show w.heap.size < _; omega
  have L1 : ∀ o, (⟨w.heap.size + 1, o, none⟩ : Addr).block < W2.heap.size := fun o => by have := hz.out; show w.heap.size + 1 < _; omega
  have FIN : Hid (∀ (W : World) (v0 v1 : Value) (X : List ByteArray) (Y : List Int), Below W2.heap.size W2 W → KeepK W2.heap.size W (.agg #[v0, v1]) X Y → ((W.setCell ⟨w.heap.size + 1, 0, none⟩ v0).setCell ⟨w.heap.size + 1, 1, none⟩ v1).cell? ⟨w.heap.size + 1, 0, none⟩ = some v0 ∧ ((W.setCell ⟨w.heap.size + 1, 0, none⟩ v0).setCell ⟨w.heap.size + 1, 1, none⟩ v1).cell? ⟨w.heap.size + 1, 1, none⟩ = some v1 ∧ KeepK w.heap.size ((W.setCell ⟨w.heap.size + 1, 0, none⟩ v0).setCell ⟨w.heap.size + 1, 1, none⟩ v1) (.agg #[v0, v1]) X Y ∧ Below w.heap.size w ((W.setCell ⟨w.heap.size + 1, 0, none⟩ v0).setCell ⟨w.heap.size + 1, 1, none⟩ v1)) := by
    intro W v0 v1 X Y hB hK
    have d2 := (hB.cell (L1 0)).trans c2
    have d3 := (hB.cell (L1 1)).trans c3
    have hb5 := hb0.trans (hB.mono hb0.size)
    refine ⟨?_, ?_, ((hK.setCell (L1 0) _).setCell (L1 1) _).base hb0.size, (hb5.setCell (by show w.heap.size ≤ w.heap.size + 1; omega) _).setCell (by show w.heap.size ≤ w.heap.size + 1; omega) _⟩
    · rw [World.cell?_setCell_other _ _ _ _ (by simp)]
      exact World.cell?_setCell_same' _ _ _ (by rw [d2]; rfl)
    · exact World.cell?_setCell_same' _ _ _ (by rw [World.cell?_setCell_other _ _ _ _ (by simp), d3]; rfl)
  have hO := spec_knownOk (some ⟨g1, o1, none⟩) (some ⟨g2, o2, none⟩) ca cb xs ks W2 (hr.later hb0) (hq.later hb0) hl hl2 hcap hs
  unfold lrnT lrnK
  cases hK : kOk xs ks with
  | false =>
    rw [hK] at hO
    simp only [Bool.false_eq_true, if_false]
    go_enter Try.func26, Try.ntmps26
    go_wp2_with fail
    try rw [hW2]
    refine hO.mono ?_
    clear hW2 hO
    rintro e w1 ⟨rfl, hb1⟩
    have FF := FIN.out w1 (.slice none 0 0) (.slice none 0 0) [] [] hb1 (keep_nil _ _)
    have d2 := (hb1.cell (L1 0)).trans c2
    have d3 := (hb1.cell (L1 1)).trans c3
    have x2 := (hb1.frozen (L1 0)).trans f2
    have x3 := (hb1.frozen (L1 1)).trans f3
    go_wp2
    refine bodyPost_ret (res_two rfl _ _ (w.heap.size + 1) _ _ rfl FF.1 FF.2.1) rfl ⟨_, rfl, FF.2.2.1, FF.2.2.2⟩
  | true =>
    rw [hK] at hO
    simp only [if_true]
    go_enter Try.func26, Try.ntmps26
    go_wp2_with fail
    try rw [hW2]
    refine hO.mono ?_
    clear hW2 hO
    rintro e w1 ⟨rfl, hb1⟩
    have e0 := (hb1.cell (L0 0)).trans c0
    have e1 := (hb1.cell (L0 1)).trans c1
    have hb01 := hb0.trans (hb1.mono hb0.size)
    have H2 := l3Copy_is g1 o1 g2 o2 ca cb xs ks w1 (hr.later hb01) (hq.later hb01) hl hl2
    go_wp2_with fail
    refine H2.mono ?_
    clear H2
    rintro e w2 ⟨v, rfl, ⟨a, b, ka, kb, rfl, ho, hp⟩, hb2⟩
    have hb12 := hb1.trans (hb2.mono hb1.size)
    have H3 := l3Learn_is w1.heap.size a b ka kb xs ks t w2 ho hp hb2.size hl ht
    go_wp2_with fail
    refine H3.mono ?_
    clear H3 ho hp
    rintro e w3 ⟨v, rfl, hKK, hb3⟩
    have hb13 : Below W2.heap.size W2 w3 := hb12.trans (hb3.mono hb1.size)
    obtain ⟨a3, b3, ka3, kb3, rfl, h5, h6⟩ := hKK
    have FF := FIN.out w3 _ _ (putT xs t) ks hb13 (KeepK.base ⟨a3, b3, ka3, kb3, rfl, h5, h6⟩ hb1.size)
    have d2 := (hb13.cell (L1 0)).trans c2
    have d3 := (hb13.cell (L1 1)).trans c3
    have x2 := (hb13.frozen (L1 0)).trans f2
    have x3 := (hb13.frozen (L1 1)).trans f3
    clear h5 h6 hb3 hb13 hb12 hb2 e0 e1
    generalize (putT xs t).length = nn at *
    go_wp2
    refine bodyPost_ret (res_two rfl _ _ (w.heap.size + 1) _ _ rfl FF.1 FF.2.1) rfl ⟨_, rfl, FF.2.2.1, FF.2.2.2⟩
end Go.Proofs.Ytkekfogepdhjhaa
