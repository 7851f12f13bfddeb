/- What is learned: the program. -/
import Derived.Test.YtkekfogepdhjhaaGreatLearn1
set_option linter.unusedVariables false
namespace Go.Proofs.YtkekfogepdhjhaaGreat
open Go.RowKit Own Var Term

set_option maxRecDepth 100000 in
set_option maxHeartbeats 3200000 in
theorem impl_learn_bad (a9 b9 : Option Addr) (ca cb : Nat) (xs : List ByteArray) (ks : List Int) (t : ByteArray) (w : World) (hr : RowAt Value.string w a9 xs) (hq : RowAt (Value.int .i64) w b9 ks) (hl : xs.length ≤ 1048576) (hl2 : ks.length ≤ 1048576) (hcap : xs.length ≤ ca) (hs : ∀ x ∈ xs, x.size ≤ 1048576) (ht : t.size ≤ 1048576) (hK : kOk xs ks = false) :
    Calls Tryz.prog 9 #[.agg #[.slice a9 xs.length ca, .slice b9 ks.length cb], .string t] w fun e w' => ∃ v, e = .returned v ∧ KeepK w.heap.size w' v [] [] ∧ Below w.heap.size w w' := by
  obtain ⟨W2, hW2⟩ : ∃ W2, (w.alloc (.cells #[.slice a9 xs.length ca, .slice b9 ks.length cb] 27)).alloc (.cells #[.slice none 0 0, .slice none 0 0] 27) = W2 := ⟨_, rfl⟩
  have hb0 : Below w.heap.size w W2 := by rw [← hW2]; exact ((Below.refl _ _).alloc (Nat.le_refl _) _).alloc (by simp) _
  have hz : Hid (W2.heap.size = w.heap.size + 2) := by show W2.heap.size = w.heap.size + 2; rw [← hW2]; simp
  have c0 : W2.cell? ⟨w.heap.size, 0, none⟩ = some (.slice a9 xs.length ca) := by rw [← hW2]; simp [go_sem]
  have c1 : W2.cell? ⟨w.heap.size, 1, none⟩ = some (.slice b9 ks.length cb) := by rw [← hW2]; simp [go_sem]
  have c2 : W2.cell? ⟨w.heap.size + 1, 0, none⟩ = some (.slice none 0 0) := by rw [← hW2]; simp [go_sem]
  have c3 : W2.cell? ⟨w.heap.size + 1, 1, none⟩ = some (.slice none 0 0) := by rw [← hW2]; simp [go_sem]
  have f2 : W2.frozen? ⟨w.heap.size + 1, 0, none⟩ = false := by rw [← hW2]; simp [go_sem]
  have f3 : W2.frozen? ⟨w.heap.size + 1, 1, none⟩ = false := by rw [← hW2]; simp [go_sem]
  have L0 : ∀ o, (⟨w.heap.size, o, none⟩ : Addr).block < W2.heap.size := fun o => by have := hz.out; show w.heap.size < _; omega
  have L1 : ∀ o, (⟨w.heap.size + 1, o, none⟩ : Addr).block < W2.heap.size := fun o => by have := hz.out; show w.heap.size + 1 < _; omega
  have FIN : Hid (∀ (W : World) (v0 v1 : Value) (X : List ByteArray) (Y : List Int), Below W2.heap.size W2 W → KeepK W2.heap.size W (.agg #[v0, v1]) X Y → ((W.setCell ⟨w.heap.size + 1, 0, none⟩ v0).setCell ⟨w.heap.size + 1, 1, none⟩ v1).cell? ⟨w.heap.size + 1, 0, none⟩ = some v0 ∧ ((W.setCell ⟨w.heap.size + 1, 0, none⟩ v0).setCell ⟨w.heap.size + 1, 1, none⟩ v1).cell? ⟨w.heap.size + 1, 1, none⟩ = some v1 ∧ KeepK w.heap.size ((W.setCell ⟨w.heap.size + 1, 0, none⟩ v0).setCell ⟨w.heap.size + 1, 1, none⟩ v1) (.agg #[v0, v1]) X Y ∧ Below w.heap.size w ((W.setCell ⟨w.heap.size + 1, 0, none⟩ v0).setCell ⟨w.heap.size + 1, 1, none⟩ v1)) := by
    intro W v0 v1 X Y hB hK
    have d2 := (hB.cell (L1 0)).trans c2
    have d3 := (hB.cell (L1 1)).trans c3
    have hb5 := hb0.trans (hB.mono hb0.size)
    refine ⟨?_, ?_, ((hK.setCell (L1 0) _).setCell (L1 1) _).base hb0.size, (hb5.setCell (by show w.heap.size ≤ w.heap.size + 1; omega) _).setCell (by show w.heap.size ≤ w.heap.size + 1; omega) _⟩
    · rw [World.cell?_setCell_other _ _ _ _ (by simp)]
      exact World.cell?_setCell_same' _ _ _ (by rw [d2]; rfl)
    · exact World.cell?_setCell_same' _ _ _ (by rw [World.cell?_setCell_other _ _ _ _ (by simp), d3]; rfl)
  have hO := impl_knownOk a9 b9 ca cb xs ks W2 (hr.later hb0) (hq.later hb0) hl hl2 hcap hs
  rw [hK] at hO
  go_enter Tryz.func9, Tryz.ntmps9
  go_wp2_with fail
  try rw [hW2]
  refine hO.mono ?_
  clear hW2 hO
  rintro e w1 ⟨rfl, hb1⟩
  have FF := FIN.out w1 (.slice none 0 0) (.slice none 0 0) [] [] hb1 (keep_nil _ _)
  have d2 := (hb1.cell (L1 0)).trans c2
  have d3 := (hb1.cell (L1 1)).trans c3
  have x2 := (hb1.frozen (L1 0)).trans f2
  have x3 := (hb1.frozen (L1 1)).trans f3
  go_wp2
  refine bodyPost_ret (res_two rfl _ _ (w.heap.size + 1) _ _ rfl FF.1 FF.2.1) rfl ⟨_, rfl, FF.2.2.1, FF.2.2.2⟩

set_option maxRecDepth 100000 in
set_option maxHeartbeats 3200000 in
theorem impl_learn_no1 (a9 b9 : Option Addr) (ca cb : Nat) (xs : List ByteArray) (ks : List Int) (t : ByteArray) (w : World) (hr : RowAt Value.string w a9 xs) (hq : RowAt (Value.int .i64) w b9 ks) (hl : xs.length ≤ 1048576) (hl2 : ks.length ≤ 1048576) (hcap : xs.length ≤ ca) (hs : ∀ x ∈ xs, x.size ≤ 1048576) (ht : t.size ≤ 1048576) (hK : kOk xs ks = true) (hT : isT t = false) :
    Calls Tryz.prog 9 #[.agg #[.slice a9 xs.length ca, .slice b9 ks.length cb], .string t] w fun e w' => ∃ v, e = .returned v ∧ KeepK w.heap.size w' v xs ks ∧ Below w.heap.size w w' := by
  obtain ⟨W2, hW2⟩ : ∃ W2, (w.alloc (.cells #[.slice a9 xs.length ca, .slice b9 ks.length cb] 27)).alloc (.cells #[.slice none 0 0, .slice none 0 0] 27) = W2 := ⟨_, rfl⟩
  have hb0 : Below w.heap.size w W2 := by rw [← hW2]; exact ((Below.refl _ _).alloc (Nat.le_refl _) _).alloc (by simp) _
  have hz : Hid (W2.heap.size = w.heap.size + 2) := by show W2.heap.size = w.heap.size + 2; rw [← hW2]; simp
  have c0 : W2.cell? ⟨w.heap.size, 0, none⟩ = some (.slice a9 xs.length ca) := by rw [← hW2]; simp [go_sem]
  have c1 : W2.cell? ⟨w.heap.size, 1, none⟩ = some (.slice b9 ks.length cb) := by rw [← hW2]; simp [go_sem]
  have c2 : W2.cell? ⟨w.heap.size + 1, 0, none⟩ = some (.slice none 0 0) := by rw [← hW2]; simp [go_sem]
  have c3 : W2.cell? ⟨w.heap.size + 1, 1, none⟩ = some (.slice none 0 0) := by rw [← hW2]; simp [go_sem]
  have f2 : W2.frozen? ⟨w.heap.size + 1, 0, none⟩ = false := by rw [← hW2]; simp [go_sem]
  have f3 : W2.frozen? ⟨w.heap.size + 1, 1, none⟩ = false := by rw [← hW2]; simp [go_sem]
  have L0 : ∀ o, (⟨w.heap.size, o, none⟩ : Addr).block < W2.heap.size := fun o => by have := hz.out; show w.heap.size < _; omega
  have L1 : ∀ o, (⟨w.heap.size + 1, o, none⟩ : Addr).block < W2.heap.size := fun o => by have := hz.out; show w.heap.size + 1 < _; omega
  have FIN : Hid (∀ (W : World) (v0 v1 : Value) (X : List ByteArray) (Y : List Int), Below W2.heap.size W2 W → KeepK W2.heap.size W (.agg #[v0, v1]) X Y → ((W.setCell ⟨w.heap.size + 1, 0, none⟩ v0).setCell ⟨w.heap.size + 1, 1, none⟩ v1).cell? ⟨w.heap.size + 1, 0, none⟩ = some v0 ∧ ((W.setCell ⟨w.heap.size + 1, 0, none⟩ v0).setCell ⟨w.heap.size + 1, 1, none⟩ v1).cell? ⟨w.heap.size + 1, 1, none⟩ = some v1 ∧ KeepK w.heap.size ((W.setCell ⟨w.heap.size + 1, 0, none⟩ v0).setCell ⟨w.heap.size + 1, 1, none⟩ v1) (.agg #[v0, v1]) X Y ∧ Below w.heap.size w ((W.setCell ⟨w.heap.size + 1, 0, none⟩ v0).setCell ⟨w.heap.size + 1, 1, none⟩ v1)) := by
    intro W v0 v1 X Y hB hK
    have d2 := (hB.cell (L1 0)).trans c2
    have d3 := (hB.cell (L1 1)).trans c3
    have hb5 := hb0.trans (hB.mono hb0.size)
    refine ⟨?_, ?_, ((hK.setCell (L1 0) _).setCell (L1 1) _).base hb0.size, (hb5.setCell (by show w.heap.size ≤ w.heap.size + 1; omega) _).setCell (by show w.heap.size ≤ w.heap.size + 1; omega) _⟩
    · rw [World.cell?_setCell_other _ _ _ _ (by simp)]
      exact World.cell?_setCell_same' _ _ _ (by rw [d2]; rfl)
    · exact World.cell?_setCell_same' _ _ _ (by rw [World.cell?_setCell_other _ _ _ _ (by simp), d3]; rfl)
  have hO := impl_knownOk a9 b9 ca cb xs ks W2 (hr.later hb0) (hq.later hb0) hl hl2 hcap hs
  rw [hK] at hO
  go_enter Tryz.func9, Tryz.ntmps9
  go_wp2_with fail
  try rw [hW2]
  refine hO.mono ?_
  clear hW2 hO
  rintro e w1 ⟨rfl, hb1⟩
  have e0 := (hb1.cell (L0 0)).trans c0
  have e1 := (hb1.cell (L0 1)).trans c1
  have hb01 := hb0.trans (hb1.mono hb0.size)
  have H2 := copyKnown_is a9 b9 ca cb xs ks w1 (hr.later hb01) (hq.later hb01) hl hl2 hs
  go_wp2_with fail
  refine H2.mono ?_
  clear H2
  rintro e w2 ⟨v, rfl, ⟨a, b, ka, kb, rfl, ho, hp⟩, hb2⟩
  obtain ⟨W3, hW3⟩ : ∃ W3, w2.alloc (.cells #[.slice a xs.length ka, .slice b ks.length kb] 27) = W3 := ⟨_, rfl⟩
  have hb3 : Below w2.heap.size w2 W3 := by rw [← hW3]; exact (Below.refl _ _).alloc (Nat.le_refl _) _
  have hz3 : Hid (W3.heap.size = w2.heap.size + 1) := by show W3.heap.size = w2.heap.size + 1; rw [← hW3]; simp
  have m0 : W3.cell? ⟨w2.heap.size, 0, none⟩ = some (.slice a xs.length ka) := by rw [← hW3]; simp [go_sem]
  have m1 : W3.cell? ⟨w2.heap.size, 1, none⟩ = some (.slice b ks.length kb) := by rw [← hW3]; simp [go_sem]
  have n0 : W3.frozen? ⟨w2.heap.size, 0, none⟩ = false := by rw [← hW3]; simp [go_sem]
  have L3 : ∀ o, (⟨w2.heap.size, o, none⟩ : Addr).block < W3.heap.size := fun o => by have := hz3.out; show w2.heap.size < _; omega
  have hlt1 : ∀ k, (Value.slice a xs.length ka).ownBlock = some k → k < w2.heap.size := fun k hk => (ho.lt k hk).2
  have hlt2 : ∀ k, (Value.slice b ks.length kb).ownBlock = some k → k < w2.heap.size := fun k hk => (hp.lt k hk).2
  have hb13 : Below W2.heap.size W2 W3 := (hb1.trans (hb2.mono hb1.size)).trans (hb3.mono (Nat.le_trans hb1.size hb2.size))
  have hM : Hid (w.heap.size + 2 ≤ w2.heap.size) := by have h1 := hz.out; have h2 := hb1.size; have h3 := hb2.size; show w.heap.size + 2 ≤ w2.heap.size; omega
  clear e0 e1
  have H4 := impl_ok t W3 (by omega)
  rw [hT] at H4
  go_wp2_with fail
  try rw [hW3]
  refine H4.mono ?_
  clear hW3 H4
  rintro e w4 ⟨rfl, hb4⟩
  have hb14 : Below W2.heap.size W2 w4 := hb13.trans (hb4.mono hb13.size)
  have e0 := (hb14.cell (L0 0)).trans c0
  have p0 := (hb4.cell (L3 0)).trans m0
  have p1 := (hb4.cell (L3 1)).trans m1
  have p2 := (hb4.frozen (L3 0)).trans n0
  have d2 := (hb14.cell (L1 0)).trans c2
  have d3 := (hb14.cell (L1 1)).trans c3
  have x2 := (hb14.frozen (L1 0)).trans f2
  have x3 := (hb14.frozen (L1 1)).trans f3
  have ho4 := own_later (own_later ho hb3) hb4
  have hp4 := own_later (own_later hp hb3) hb4
  have FF := FIN.out w4 _ _ xs ks hb14 (KeepK.base ⟨a, b, ka, kb, rfl, ho4, hp4⟩ hb1.size)
  clear ho hp ho4 hp4 hb13 hb14 hb3 hb4 hb2 m0 m1 n0
  go_wp2
  refine bodyPost_ret (res_two rfl _ _ (w.heap.size + 1) _ _ rfl FF.1 FF.2.1) rfl ⟨_, rfl, FF.2.2.1, FF.2.2.2⟩

set_option maxRecDepth 100000 in
set_option maxHeartbeats 3200000 in
theorem impl_learn_no2 (a9 b9 : Option Addr) (ca cb : Nat) (xs : List ByteArray) (ks : List Int) (t : ByteArray) (w : World) (hr : RowAt Value.string w a9 xs) (hq : RowAt (Value.int .i64) w b9 ks) (hl : xs.length ≤ 1048576) (hl2 : ks.length ≤ 1048576) (hcap : xs.length ≤ ca) (hs : ∀ x ∈ xs, x.size ≤ 1048576) (ht : t.size ≤ 1048576) (hK : kOk xs ks = true) (hT : isT t = true) (hIn : inB xs t = true) :
    Calls Tryz.prog 9 #[.agg #[.slice a9 xs.length ca, .slice b9 ks.length cb], .string t] w fun e w' => ∃ v, e = .returned v ∧ KeepK w.heap.size w' v xs ks ∧ Below w.heap.size w w' := by
  obtain ⟨W2, hW2⟩ : ∃ W2, (w.alloc (.cells #[.slice a9 xs.length ca, .slice b9 ks.length cb] 27)).alloc (.cells #[.slice none 0 0, .slice none 0 0] 27) = W2 := ⟨_, rfl⟩
  have hb0 : Below w.heap.size w W2 := by rw [← hW2]; exact ((Below.refl _ _).alloc (Nat.le_refl _) _).alloc (by simp) _
  have hz : Hid (W2.heap.size = w.heap.size + 2) := by show W2.heap.size = w.heap.size + 2; rw [← hW2]; simp
  have c0 : W2.cell? ⟨w.heap.size, 0, none⟩ = some (.slice a9 xs.length ca) := by rw [← hW2]; simp [go_sem]
  have c1 : W2.cell? ⟨w.heap.size, 1, none⟩ = some (.slice b9 ks.length cb) := by rw [← hW2]; simp [go_sem]
  have c2 : W2.cell? ⟨w.heap.size + 1, 0, none⟩ = some (.slice none 0 0) := by rw [← hW2]; simp [go_sem]
  have c3 : W2.cell? ⟨w.heap.size + 1, 1, none⟩ = some (.slice none 0 0) := by rw [← hW2]; simp [go_sem]
  have f2 : W2.frozen? ⟨w.heap.size + 1, 0, none⟩ = false := by rw [← hW2]; simp [go_sem]
  have f3 : W2.frozen? ⟨w.heap.size + 1, 1, none⟩ = false := by rw [← hW2]; simp [go_sem]
  have L0 : ∀ o, (⟨w.heap.size, o, none⟩ : Addr).block < W2.heap.size := fun o => by have := hz.out; show w.heap.size < _; omega
  have L1 : ∀ o, (⟨w.heap.size + 1, o, none⟩ : Addr).block < W2.heap.size := fun o => by have := hz.out; show w.heap.size + 1 < _; omega
  have FIN : Hid (∀ (W : World) (v0 v1 : Value) (X : List ByteArray) (Y : List Int), Below W2.heap.size W2 W → KeepK W2.heap.size W (.agg #[v0, v1]) X Y → ((W.setCell ⟨w.heap.size + 1, 0, none⟩ v0).setCell ⟨w.heap.size + 1, 1, none⟩ v1).cell? ⟨w.heap.size + 1, 0, none⟩ = some v0 ∧ ((W.setCell ⟨w.heap.size + 1, 0, none⟩ v0).setCell ⟨w.heap.size + 1, 1, none⟩ v1).cell? ⟨w.heap.size + 1, 1, none⟩ = some v1 ∧ KeepK w.heap.size ((W.setCell ⟨w.heap.size + 1, 0, none⟩ v0).setCell ⟨w.heap.size + 1, 1, none⟩ v1) (.agg #[v0, v1]) X Y ∧ Below w.heap.size w ((W.setCell ⟨w.heap.size + 1, 0, none⟩ v0).setCell ⟨w.heap.size + 1, 1, none⟩ v1)) := by
    intro W v0 v1 X Y hB hK
    have d2 := (hB.cell (L1 0)).trans c2
    have d3 := (hB.cell (L1 1)).trans c3
    have hb5 := hb0.trans (hB.mono hb0.size)
    refine ⟨?_, ?_, ((hK.setCell (L1 0) _).setCell (L1 1) _).base hb0.size, (hb5.setCell (by show w.heap.size ≤ w.heap.size + 1; omega) _).setCell (by show w.heap.size ≤ w.heap.size + 1; omega) _⟩
    · rw [World.cell?_setCell_other _ _ _ _ (by simp)]
      exact World.cell?_setCell_same' _ _ _ (by rw [d2]; rfl)
    · exact World.cell?_setCell_same' _ _ _ (by rw [World.cell?_setCell_other _ _ _ _ (by simp), d3]; rfl)
  have hO := impl_knownOk a9 b9 ca cb xs ks W2 (hr.later hb0) (hq.later hb0) hl hl2 hcap hs
  rw [hK] at hO
  have hI := fun w' (hb : Below W2.heap.size W2 w') => contains_is a9 ca xs t w' ((hr.later hb0).later hb) hl
  simp only [hIn] at hI
  go_enter Tryz.func9, Tryz.ntmps9
  go_wp2_with fail
  try rw [hW2]
  refine hO.mono ?_
  clear hW2 hO
  rintro e w1 ⟨rfl, hb1⟩
  have e0 := (hb1.cell (L0 0)).trans c0
  have e1 := (hb1.cell (L0 1)).trans c1
  have hb01 := hb0.trans (hb1.mono hb0.size)
  have H2 := copyKnown_is a9 b9 ca cb xs ks w1 (hr.later hb01) (hq.later hb01) hl hl2 hs
  go_wp2_with fail
  refine H2.mono ?_
  clear H2
  rintro e w2 ⟨v, rfl, ⟨a, b, ka, kb, rfl, ho, hp⟩, hb2⟩
  obtain ⟨W3, hW3⟩ : ∃ W3, w2.alloc (.cells #[.slice a xs.length ka, .slice b ks.length kb] 27) = W3 := ⟨_, rfl⟩
  have hb3 : Below w2.heap.size w2 W3 := by rw [← hW3]; exact (Below.refl _ _).alloc (Nat.le_refl _) _
  have hz3 : Hid (W3.heap.size = w2.heap.size + 1) := by show W3.heap.size = w2.heap.size + 1; rw [← hW3]; simp
  have m0 : W3.cell? ⟨w2.heap.size, 0, none⟩ = some (.slice a xs.length ka) := by rw [← hW3]; simp [go_sem]
  have m1 : W3.cell? ⟨w2.heap.size, 1, none⟩ = some (.slice b ks.length kb) := by rw [← hW3]; simp [go_sem]
  have n0 : W3.frozen? ⟨w2.heap.size, 0, none⟩ = false := by rw [← hW3]; simp [go_sem]
  have L3 : ∀ o, (⟨w2.heap.size, o, none⟩ : Addr).block < W3.heap.size := fun o => by have := hz3.out; show w2.heap.size < _; omega
  have hlt1 : ∀ k, (Value.slice a xs.length ka).ownBlock = some k → k < w2.heap.size := fun k hk => (ho.lt k hk).2
  have hlt2 : ∀ k, (Value.slice b ks.length kb).ownBlock = some k → k < w2.heap.size := fun k hk => (hp.lt k hk).2
  have hb13 : Below W2.heap.size W2 W3 := (hb1.trans (hb2.mono hb1.size)).trans (hb3.mono (Nat.le_trans hb1.size hb2.size))
  have hM : Hid (w.heap.size + 2 ≤ w2.heap.size) := by have h1 := hz.out; have h2 := hb1.size; have h3 := hb2.size; show w.heap.size + 2 ≤ w2.heap.size; omega
  clear e0 e1
  have H4 := impl_ok t W3 (by omega)
  rw [hT] at H4
  go_wp2_with fail
  try rw [hW3]
  refine H4.mono ?_
  clear hW3 H4
  rintro e w4 ⟨rfl, hb4⟩
  have hb14 : Below W2.heap.size W2 w4 := hb13.trans (hb4.mono hb13.size)
  have e0 := (hb14.cell (L0 0)).trans c0
  have p0 := (hb4.cell (L3 0)).trans m0
  have p1 := (hb4.cell (L3 1)).trans m1
  have p2 := (hb4.frozen (L3 0)).trans n0
  have d2 := (hb14.cell (L1 0)).trans c2
  have d3 := (hb14.cell (L1 1)).trans c3
  have x2 := (hb14.frozen (L1 0)).trans f2
  have x3 := (hb14.frozen (L1 1)).trans f3
  have ho4 := own_later (own_later ho hb3) hb4
  have hp4 := own_later (own_later hp hb3) hb4
  have HI := hI w4 hb14
  clear hI
  have FF := FIN.out w4 _ _ xs ks hb14 (KeepK.base ⟨a, b, ka, kb, rfl, ho4, hp4⟩ hb1.size)
  clear ho hp ho4 hp4 hb13 hb14 hb3 hb4 hb2 m0 m1 n0
  go_wp2_with fail
  refine HI.mono ?_
  rintro e w5 ⟨rfl, rfl⟩
  go_wp2
  refine bodyPost_ret (res_two rfl _ _ (w.heap.size + 1) _ _ rfl FF.1 FF.2.1) rfl ⟨_, rfl, FF.2.2.1, FF.2.2.2⟩

set_option maxRecDepth 100000 in
set_option maxHeartbeats 3200000 in
theorem impl_learn_no3 (a9 b9 : Option Addr) (ca cb : Nat) (xs : List ByteArray) (ks : List Int) (t : ByteArray) (w : World) (hr : RowAt Value.string w a9 xs) (hq : RowAt (Value.int .i64) w b9 ks) (hl : xs.length ≤ 1048576) (hl2 : ks.length ≤ 1048576) (hcap : xs.length ≤ ca) (hs : ∀ x ∈ xs, x.size ≤ 1048576) (ht : t.size ≤ 1048576) (hK : kOk xs ks = true) (hT : isT t = true) (hIn : inB xs t = false) (h60 : ¬ xs.length < 60) :
    Calls Tryz.prog 9 #[.agg #[.slice a9 xs.length ca, .slice b9 ks.length cb], .string t] w fun e w' => ∃ v, e = .returned v ∧ KeepK w.heap.size w' v xs ks ∧ Below w.heap.size w w' := by
  have h60' : decide ((xs.length : Int) < 60) = false := by simp; omega
  obtain ⟨W2, hW2⟩ : ∃ W2, (w.alloc (.cells #[.slice a9 xs.length ca, .slice b9 ks.length cb] 27)).alloc (.cells #[.slice none 0 0, .slice none 0 0] 27) = W2 := ⟨_, rfl⟩
  have hb0 : Below w.heap.size w W2 := by rw [← hW2]; exact ((Below.refl _ _).alloc (Nat.le_refl _) _).alloc (by simp) _
  have hz : Hid (W2.heap.size = w.heap.size + 2) := by show W2.heap.size = w.heap.size + 2; rw [← hW2]; simp
  have c0 : W2.cell? ⟨w.heap.size, 0, none⟩ = some (.slice a9 xs.length ca) := by rw [← hW2]; simp [go_sem]
  have c1 : W2.cell? ⟨w.heap.size, 1, none⟩ = some (.slice b9 ks.length cb) := by rw [← hW2]; simp [go_sem]
  have c2 : W2.cell? ⟨w.heap.size + 1, 0, none⟩ = some (.slice none 0 0) := by rw [← hW2]; simp [go_sem]
  have c3 : W2.cell? ⟨w.heap.size + 1, 1, none⟩ = some (.slice none 0 0) := by rw [← hW2]; simp [go_sem]
  have f2 : W2.frozen? ⟨w.heap.size + 1, 0, none⟩ = false := by rw [← hW2]; simp [go_sem]
  have f3 : W2.frozen? ⟨w.heap.size + 1, 1, none⟩ = false := by rw [← hW2]; simp [go_sem]
  have L0 : ∀ o, (⟨w.heap.size, o, none⟩ : Addr).block < W2.heap.size := fun o => by have := hz.out; show w.heap.size < _; omega
  have L1 : ∀ o, (⟨w.heap.size + 1, o, none⟩ : Addr).block < W2.heap.size := fun o => by have := hz.out; show w.heap.size + 1 < _; omega
  have FIN : Hid (∀ (W : World) (v0 v1 : Value) (X : List ByteArray) (Y : List Int), Below W2.heap.size W2 W → KeepK W2.heap.size W (.agg #[v0, v1]) X Y → ((W.setCell ⟨w.heap.size + 1, 0, none⟩ v0).setCell ⟨w.heap.size + 1, 1, none⟩ v1).cell? ⟨w.heap.size + 1, 0, none⟩ = some v0 ∧ ((W.setCell ⟨w.heap.size + 1, 0, none⟩ v0).setCell ⟨w.heap.size + 1, 1, none⟩ v1).cell? ⟨w.heap.size + 1, 1, none⟩ = some v1 ∧ KeepK w.heap.size ((W.setCell ⟨w.heap.size + 1, 0, none⟩ v0).setCell ⟨w.heap.size + 1, 1, none⟩ v1) (.agg #[v0, v1]) X Y ∧ Below w.heap.size w ((W.setCell ⟨w.heap.size + 1, 0, none⟩ v0).setCell ⟨w.heap.size + 1, 1, none⟩ v1)) := by
    intro W v0 v1 X Y hB hK
    have d2 := (hB.cell (L1 0)).trans c2
    have d3 := (hB.cell (L1 1)).trans c3
    have hb5 := hb0.trans (hB.mono hb0.size)
    refine ⟨?_, ?_, ((hK.setCell (L1 0) _).setCell (L1 1) _).base hb0.size, (hb5.setCell (by show w.heap.size ≤ w.heap.size + 1; omega) _).setCell (by show w.heap.size ≤ w.heap.size + 1; omega) _⟩
    · rw [World.cell?_setCell_other _ _ _ _ (by simp)]
      exact World.cell?_setCell_same' _ _ _ (by rw [d2]; rfl)
    · exact World.cell?_setCell_same' _ _ _ (by rw [World.cell?_setCell_other _ _ _ _ (by simp), d3]; rfl)
  have hO := impl_knownOk a9 b9 ca cb xs ks W2 (hr.later hb0) (hq.later hb0) hl hl2 hcap hs
  rw [hK] at hO
  have hI := fun w' (hb : Below W2.heap.size W2 w') => contains_is a9 ca xs t w' ((hr.later hb0).later hb) hl
  simp only [hIn] at hI
  go_enter Tryz.func9, Tryz.ntmps9
  go_wp2_with fail
  try rw [hW2]
  refine hO.mono ?_
  clear hW2 hO
  rintro e w1 ⟨rfl, hb1⟩
  have e0 := (hb1.cell (L0 0)).trans c0
  have e1 := (hb1.cell (L0 1)).trans c1
  have hb01 := hb0.trans (hb1.mono hb0.size)
  have H2 := copyKnown_is a9 b9 ca cb xs ks w1 (hr.later hb01) (hq.later hb01) hl hl2 hs
  go_wp2_with fail
  refine H2.mono ?_
  clear H2
  rintro e w2 ⟨v, rfl, ⟨a, b, ka, kb, rfl, ho, hp⟩, hb2⟩
  obtain ⟨W3, hW3⟩ : ∃ W3, w2.alloc (.cells #[.slice a xs.length ka, .slice b ks.length kb] 27) = W3 := ⟨_, rfl⟩
  have hb3 : Below w2.heap.size w2 W3 := by rw [← hW3]; exact (Below.refl _ _).alloc (Nat.le_refl _) _
  have hz3 : Hid (W3.heap.size = w2.heap.size + 1) := by show W3.heap.size = w2.heap.size + 1; rw [← hW3]; simp
  have m0 : W3.cell? ⟨w2.heap.size, 0, none⟩ = some (.slice a xs.length ka) := by rw [← hW3]; simp [go_sem]
  have m1 : W3.cell? ⟨w2.heap.size, 1, none⟩ = some (.slice b ks.length kb) := by rw [← hW3]; simp [go_sem]
  have n0 : W3.frozen? ⟨w2.heap.size, 0, none⟩ = false := by rw [← hW3]; simp [go_sem]
  have L3 : ∀ o, (⟨w2.heap.size, o, none⟩ : Addr).block < W3.heap.size := fun o => by have := hz3.out; show w2.heap.size < _; omega
  have hlt1 : ∀ k, (Value.slice a xs.length ka).ownBlock = some k → k < w2.heap.size := fun k hk => (ho.lt k hk).2
  have hlt2 : ∀ k, (Value.slice b ks.length kb).ownBlock = some k → k < w2.heap.size := fun k hk => (hp.lt k hk).2
  have hb13 : Below W2.heap.size W2 W3 := (hb1.trans (hb2.mono hb1.size)).trans (hb3.mono (Nat.le_trans hb1.size hb2.size))
  have hM : Hid (w.heap.size + 2 ≤ w2.heap.size) := by have h1 := hz.out; have h2 := hb1.size; have h3 := hb2.size; show w.heap.size + 2 ≤ w2.heap.size; omega
  clear e0 e1
  have H4 := impl_ok t W3 (by omega)
  rw [hT] at H4
  go_wp2_with fail
  try rw [hW3]
  refine H4.mono ?_
  clear hW3 H4
  rintro e w4 ⟨rfl, hb4⟩
  have hb14 : Below W2.heap.size W2 w4 := hb13.trans (hb4.mono hb13.size)
  have e0 := (hb14.cell (L0 0)).trans c0
  have p0 := (hb4.cell (L3 0)).trans m0
  have p1 := (hb4.cell (L3 1)).trans m1
  have p2 := (hb4.frozen (L3 0)).trans n0
  have d2 := (hb14.cell (L1 0)).trans c2
  have d3 := (hb14.cell (L1 1)).trans c3
  have x2 := (hb14.frozen (L1 0)).trans f2
  have x3 := (hb14.frozen (L1 1)).trans f3
  have ho4 := own_later (own_later ho hb3) hb4
  have hp4 := own_later (own_later hp hb3) hb4
  have HI := hI w4 hb14
  clear hI
  have FF := FIN.out w4 _ _ xs ks hb14 (KeepK.base ⟨a, b, ka, kb, rfl, ho4, hp4⟩ hb1.size)
  clear ho hp ho4 hp4 hb13 hb14 hb3 hb4 hb2 m0 m1 n0
  go_wp2_with fail
  refine HI.mono ?_
  rintro e w5 ⟨rfl, rfl⟩
  go_wp2
  refine bodyPost_ret (res_two rfl _ _ (w.heap.size + 1) _ _ rfl FF.1 FF.2.1) rfl ⟨_, rfl, FF.2.2.1, FF.2.2.2⟩

/-- An operation of a drawn region that yields its value in whatever world is taken first. -/
theorem take_any {P : Program} {ops : Array Oper} {Q : Exit → Act → World → Prop} {md : Region.Mode} (i d : Nat) {oi : Oper} {v : Value} {fuel : Nat} {listed : Array Bool} {a : Act} {w : World} (hi : ops[i]? = some oi) (hd : oi.dst = some d)
    (hs : Region.noSelect ops = true) (hf : Region.free md ops listed i = true) (hr : (Region.ready md ops listed).contains i = true) (hQ : ∀ c a w, Q (.panic c) (a.put (some d) v) w → Q (.panic c) a w)
    (hy : Yields P ops oi v a) (h : wpAny P md ops Q fuel (listed.setIfInBounds i true) (a.put (some d) v) w) : wpAny P md ops Q (fuel + 1) listed a w :=
  wpAny_take hi hs hf hr (by rw [hd]; exact hQ) hy (by rw [hd]; exact h)

/-- A step of a drawn region: 'append' onto a row of the call's own, and where the new row lies. -/
theorem step_own_at {P : Program} {ops : Array Oper} {o : Oper} {a : Act} {w : World} {K : Act → World → Prop} {Q : Exit → Act → World → Prop} {E : Prop} (d : Nat) (hd : o.dst = some d) (hgd : o.guard = none) (s x : Operand) (t : TypeId)
    (ho : o.op = .call { callee := .builtin .append, args := #[s, x], argTypes := #[t, t] })
    (base : Nat) (e : TypeId) (i : TypeInfo) (z : Value) (size bytes : Nat) (ht : P.underlying t = some (.slice e)) (hi : P.info? e = some i) (hz : i.zero = some z)
    (hsize : i.size = size) (hby : i.bytes = bytes) (hzs : z.cells.size = size) (hsz : 0 < size)
    (v : Value) (n : Nat) (xs : List Value) (hs : a.eval s = v) (hown : w.ownsRow base e size v n xs)
    (ad : Addr) (m c : Nat) (news : List Value) (hx : a.eval x = .slice (some ad) m c) (hl : news.length = m * size) (hnews : ∀ j u, news[j]? = some u → w.cell? (ad.add j) = some u) (h1 : ∀ u ∈ news, u.oneCell' = true)
    (h63 : n + m ≤ maxLen) (hbytes : (n + m) * bytes ≤ 140737488355328) (hbase : base ≤ w.heap.size)
    (h : ∀ v' w', w'.ownsRow base e size v' (n + m) (xs ++ news) → w.grownBy w' v.ownBlock → (v'.ownBlock = v.ownBlock ∨ v'.ownBlock = some w.heap.size) → K (a.put (some d) v') w') :
    if Region.wanted o (yielded ops a.tmps) = true then Oper.wp P o a w K Q else E := by
  have hw : Region.wanted o (yielded ops a.tmps) = true := by simp [Region.wanted, hgd]
  rw [if_pos hw]
  obtain ⟨v', w', hr, h2, h3, _, h5⟩ := run_append_own_at (P := P) w base t o.type e i z size bytes ht hi hz hsize hby hzs hsz v n xs hown ad m c news hl hnews h1 h63 hbytes hbase
  unfold Oper.wp execOp
  simp only [ho, resolve, invoke, builtin, Sem.run_bind, Sem.run_pure, Result.andThen_ok, List.map_toArray, List.map_cons, List.map_nil, hs, hx, hr]
  have := h v' w' h2 h3 h5
  rw [← hd] at this
  exact this

set_option maxRecDepth 100000 in
set_option maxHeartbeats 6400000 in
theorem impl_learn_yes (a9 b9 : Option Addr) (ca cb : Nat) (xs : List ByteArray) (ks : List Int) (t : ByteArray) (w : World) (hr : RowAt Value.string w a9 xs) (hq : RowAt (Value.int .i64) w b9 ks) (hl : xs.length ≤ 1048576) (hl2 : ks.length ≤ 1048576) (hcap : xs.length ≤ ca) (hs : ∀ x ∈ xs, x.size ≤ 1048576) (ht : t.size ≤ 1048576) (hK : kOk xs ks = true) (hT : isT t = true) (hIn : inB xs t = false) (h60 : xs.length < 60) :
    Calls Tryz.prog 9 #[.agg #[.slice a9 xs.length ca, .slice b9 ks.length cb], .string t] w fun e w' => ∃ v, e = .returned v ∧ KeepK w.heap.size w' v (xs ++ [t]) ks ∧ Below w.heap.size w w' := by
  obtain ⟨i0, hi, hz0, hz1, hz2⟩ := info_parts infoStr
  have h60' : (xs.length : Int) < 60 := by omega
  obtain ⟨W2, hW2⟩ : ∃ W2, (w.alloc (.cells #[.slice a9 xs.length ca, .slice b9 ks.length cb] 27)).alloc (.cells #[.slice none 0 0, .slice none 0 0] 27) = W2 := ⟨_, rfl⟩
  have hb0 : Below w.heap.size w W2 := by rw [← hW2]; exact ((Below.refl _ _).alloc (Nat.le_refl _) _).alloc (by simp) _
  have hz : Hid (W2.heap.size = w.heap.size + 2) := by show W2.heap.size = w.heap.size + 2; rw [← hW2]; simp
  have c0 : W2.cell? ⟨w.heap.size, 0, none⟩ = some (.slice a9 xs.length ca) := by rw [← hW2]; simp [go_sem]
  have c1 : W2.cell? ⟨w.heap.size, 1, none⟩ = some (.slice b9 ks.length cb) := by rw [← hW2]; simp [go_sem]
  have c2 : W2.cell? ⟨w.heap.size + 1, 0, none⟩ = some (.slice none 0 0) := by rw [← hW2]; simp [go_sem]
  have c3 : W2.cell? ⟨w.heap.size + 1, 1, none⟩ = some (.slice none 0 0) := by rw [← hW2]; simp [go_sem]
  have f2 : W2.frozen? ⟨w.heap.size + 1, 0, none⟩ = false := by rw [← hW2]; simp [go_sem]
  have f3 : W2.frozen? ⟨w.heap.size + 1, 1, none⟩ = false := by rw [← hW2]; simp [go_sem]
  have L0 : ∀ o, (⟨w.heap.size, o, none⟩ : Addr).block < W2.heap.size := fun o => by have := hz.out; show w.heap.size < _; omega
  have L1 : ∀ o, (⟨w.heap.size + 1, o, none⟩ : Addr).block < W2.heap.size := fun o => by have := hz.out; show w.heap.size + 1 < _; omega
  have FIN : Hid (∀ (W : World) (v0 v1 : Value) (X : List ByteArray) (Y : List Int), Below W2.heap.size W2 W → KeepK W2.heap.size W (.agg #[v0, v1]) X Y → ((W.setCell ⟨w.heap.size + 1, 0, none⟩ v0).setCell ⟨w.heap.size + 1, 1, none⟩ v1).cell? ⟨w.heap.size + 1, 0, none⟩ = some v0 ∧ ((W.setCell ⟨w.heap.size + 1, 0, none⟩ v0).setCell ⟨w.heap.size + 1, 1, none⟩ v1).cell? ⟨w.heap.size + 1, 1, none⟩ = some v1 ∧ KeepK w.heap.size ((W.setCell ⟨w.heap.size + 1, 0, none⟩ v0).setCell ⟨w.heap.size + 1, 1, none⟩ v1) (.agg #[v0, v1]) X Y ∧ Below w.heap.size w ((W.setCell ⟨w.heap.size + 1, 0, none⟩ v0).setCell ⟨w.heap.size + 1, 1, none⟩ v1)) := by
    intro W v0 v1 X Y hB hK
    have d2 := (hB.cell (L1 0)).trans c2
    have d3 := (hB.cell (L1 1)).trans c3
    have hb5 := hb0.trans (hB.mono hb0.size)
    refine ⟨?_, ?_, ((hK.setCell (L1 0) _).setCell (L1 1) _).base hb0.size, (hb5.setCell (by show w.heap.size ≤ w.heap.size + 1; omega) _).setCell (by show w.heap.size ≤ w.heap.size + 1; omega) _⟩
    · rw [World.cell?_setCell_other _ _ _ _ (by simp)]
      exact World.cell?_setCell_same' _ _ _ (by rw [d2]; rfl)
    · exact World.cell?_setCell_same' _ _ _ (by rw [World.cell?_setCell_other _ _ _ _ (by simp), d3]; rfl)
  have hO := impl_knownOk a9 b9 ca cb xs ks W2 (hr.later hb0) (hq.later hb0) hl hl2 hcap hs
  rw [hK] at hO
  have hI := fun w' (hb : Below W2.heap.size W2 w') => contains_is a9 ca xs t w' ((hr.later hb0).later hb) hl
  simp only [hIn] at hI
  go_enter Tryz.func9, Tryz.ntmps9
  go_wp2_with fail
  try rw [hW2]
  refine hO.mono ?_
  clear hW2 hO
  rintro e w1 ⟨rfl, hb1⟩
  have e0 := (hb1.cell (L0 0)).trans c0
  have e1 := (hb1.cell (L0 1)).trans c1
  have hb01 := hb0.trans (hb1.mono hb0.size)
  have H2 := copyKnown_is a9 b9 ca cb xs ks w1 (hr.later hb01) (hq.later hb01) hl hl2 hs
  go_wp2_with fail
  refine H2.mono ?_
  clear H2
  rintro e w2 ⟨v, rfl, ⟨a, b, ka, kb, rfl, ho, hp⟩, hb2⟩
  obtain ⟨W3, hW3⟩ : ∃ W3, w2.alloc (.cells #[.slice a xs.length ka, .slice b ks.length kb] 27) = W3 := ⟨_, rfl⟩
  have hb3 : Below w2.heap.size w2 W3 := by rw [← hW3]; exact (Below.refl _ _).alloc (Nat.le_refl _) _
  have hz3 : Hid (W3.heap.size = w2.heap.size + 1) := by show W3.heap.size = w2.heap.size + 1; rw [← hW3]; simp
  have m0 : W3.cell? ⟨w2.heap.size, 0, none⟩ = some (.slice a xs.length ka) := by rw [← hW3]; simp [go_sem]
  have m1 : W3.cell? ⟨w2.heap.size, 1, none⟩ = some (.slice b ks.length kb) := by rw [← hW3]; simp [go_sem]
  have n0 : W3.frozen? ⟨w2.heap.size, 0, none⟩ = false := by rw [← hW3]; simp [go_sem]
  have L3 : ∀ o, (⟨w2.heap.size, o, none⟩ : Addr).block < W3.heap.size := fun o => by have := hz3.out; show w2.heap.size < _; omega
  have hlt1 : ∀ k, (Value.slice a xs.length ka).ownBlock = some k → k < w2.heap.size := fun k hk => (ho.lt k hk).2
  have hlt2 : ∀ k, (Value.slice b ks.length kb).ownBlock = some k → k < w2.heap.size := fun k hk => (hp.lt k hk).2
  have hb13 : Below W2.heap.size W2 W3 := (hb1.trans (hb2.mono hb1.size)).trans (hb3.mono (Nat.le_trans hb1.size hb2.size))
  have hM : Hid (w.heap.size + 2 ≤ w2.heap.size) := by have h1 := hz.out; have h2 := hb1.size; have h3 := hb2.size; show w.heap.size + 2 ≤ w2.heap.size; omega
  clear e0 e1
  have H4 := impl_ok t W3 (by omega)
  rw [hT] at H4
  go_wp2_with fail
  try rw [hW3]
  refine H4.mono ?_
  clear hW3 H4
  rintro e w4 ⟨rfl, hb4⟩
  have hb14 : Below W2.heap.size W2 w4 := hb13.trans (hb4.mono hb13.size)
  have e0 := (hb14.cell (L0 0)).trans c0
  have p0 := (hb4.cell (L3 0)).trans m0
  have p1 := (hb4.cell (L3 1)).trans m1
  have p2 := (hb4.frozen (L3 0)).trans n0
  have d2 := (hb14.cell (L1 0)).trans c2
  have d3 := (hb14.cell (L1 1)).trans c3
  have x2 := (hb14.frozen (L1 0)).trans f2
  have x3 := (hb14.frozen (L1 1)).trans f3
  have ho4 := own_later (own_later ho hb3) hb4
  have hp4 := own_later (own_later hp hb3) hb4
  have HI := hI w4 hb14
  clear hI
  go_wp2_with fail
  refine HI.mono ?_
  rintro e w5 ⟨rfl, rfl⟩
  go_wp2_with fail
  refine wp_region_any (by kernel_rfl) ?_
  rw [show ({ w4 with drawn := w4.drawn + 1 } : World) = w4.drew from rfl]
  refine take_any 0 27 (v := ?_) rfl rfl (by kernel_rfl) (by kernel_rfl) (by kernel_rfl) (fun _ _ _ h => h) (Or.inl ⟨by rfl, ?_⟩) ?_
  rotate_left
  · intro w'; go_simp; try with_reducible rfl
  try simp only [Act.put, List.setIfInBounds_toArray, List.set_cons_zero, List.set_cons_succ]
  refine take_any 2 29 (v := ?_) rfl rfl (by kernel_rfl) (by kernel_rfl) (by kernel_rfl) (fun _ _ _ h => h) (Or.inl ⟨by rfl, ?_⟩) ?_
  rotate_left
  · intro w'; go_simp; try with_reducible rfl
  try simp only [Act.put, List.setIfInBounds_toArray, List.set_cons_zero, List.set_cons_succ]
  refine wpAny_ready (rs := [1, 3]) (by kernel_rfl) (by simp) ?_
  refine AllReady.cons (i := 1) rfl (fun K hK2 => ?_) ?_
  · go_simp
    refine hK2 _ _ ?_
    clear hK2 K
    refine wpAny_ready (rs := [3]) (by kernel_rfl) (by simp) ?_
    refine AllReady.cons (i := 3) rfl (fun K hK2 => ?_) AllReady.nil
    have hK3 : Shut _ := hK2
    clear hK2
    have hK2 := hK3
    clear hK3
    go_simp
    refine (clone_is t _ ht).mono ?_
    rintro e w5 ⟨rfl, hb5⟩
    go_wp2_with fail
    have hb45 : Below w4.heap.size w4 w5 := ((Below.refl _ w4).drew).trans hb5
    have l45 : W3.heap.size ≤ w4.heap.size := hb4.size
    have q0 : w5.cell? ⟨w2.heap.size, 0, none⟩ = some (.slice a xs.length ka) := (hb45.cell (Nat.lt_of_lt_of_le (L3 0) l45)).trans p0
    refine hK2.out _ _ ?_
    clear hK2 K
    refine wpAny_ready (rs := [4]) (by kernel_rfl) (by simp) ?_
    refine AllReady.cons (i := 4) rfl (fun K hK2 => ?_) AllReady.nil
    go_simp
    have hb6 : Below w5.heap.size w5 (w5.alloc (.cells #[.string t] 9)) := (Below.refl _ _).alloc (Nat.le_refl _) _
    have q1 : (w5.alloc (.cells #[.string t] 9)).cell? ⟨w2.heap.size, 0, none⟩ = some (.slice a xs.length ka) := (hb6.cell (p := ⟨w2.heap.size, 0, none⟩) (Nat.lt_of_lt_of_le (L3 0) (Nat.le_trans l45 hb45.size))).trans q0
    refine hK2 _ _ ?_
    clear hK2 K
    have ho5 := own_later ho4 hb45
    have hp5 := own_later hp4 hb45
    refine wpAny_ready (rs := [5]) (by kernel_rfl) (by simp) ?_
    refine AllReady.cons (i := 5) rfl (fun K hK2 => ?_) AllReady.nil
    refine step_own_at 32 rfl rfl _ _ 24 rfl w1.heap.size 9 i0 (.string ⟨#[]⟩) 1 16 Tryz.underlying24 hi hz0 hz1 hz2 rfl (by decide) (.slice a xs.length ka) xs.length (strV xs) rfl (ho5.alloc _) ⟨w5.heap.size, 0, none⟩ 1 1 [.string t] rfl rfl (cell_one_new _ _ _) (by intro u hu; simp at hu; subst hu; rfl) (by unfold maxLen; omega) (by omega) (by have h1 := hb2.size; have h2 := hb3.size; have h3 := hb45.size; simp; omega) ?_
    intro v' w6 hown' hgrow hloc
    have hz6 : Hid (w2.heap.size + 1 ≤ w5.heap.size) := by have h1 := hz3.out; have h2 := hb45.size; show w2.heap.size + 1 ≤ w5.heap.size; omega
    have hk6 : ∀ k, k < w2.heap.size + 1 → (Value.slice a xs.length ka).ownBlock ≠ some k → w6.heap[k]? = w5.heap[k]? := fun k h1 h2 =>
      (hgrow.block k (by have := hz6.out; simp; omega) (fun e => h2 e.symm)).trans (Below.heap_alloc w5 _ k (by have := hz6.out; omega))
    have nM : (Value.slice a xs.length ka).ownBlock ≠ some w2.heap.size := fun e => absurd (hlt1 _ e) (by omega)
    have r0 : w6.cell? ⟨w2.heap.size, 0, none⟩ = some (.slice a xs.length ka) := (World.cell?_of_block (w := w5) (a := ⟨w2.heap.size, 0, none⟩) (hk6 w2.heap.size (by omega) nM)).trans ((hb45.cell (Nat.lt_of_lt_of_le (L3 0) l45)).trans p0)
    have r1 : w6.cell? ⟨w2.heap.size, 1, none⟩ = some (.slice b ks.length kb) := (World.cell?_of_block (w := w5) (a := ⟨w2.heap.size, 1, none⟩) (hk6 w2.heap.size (by omega) nM)).trans ((hb45.cell (Nat.lt_of_lt_of_le (L3 1) l45)).trans p1)
    have r2 : w6.frozen? ⟨w2.heap.size, 0, none⟩ = false := (World.frozen?_of_block (w := w5) (a := ⟨w2.heap.size, 0, none⟩) (hk6 w2.heap.size (by omega) nM)).trans ((hb45.frozen (Nat.lt_of_lt_of_le (L3 0) l45)).trans p2)
    refine hK2 _ _ ?_
    clear hK2 K
    have hp6 := World.ownsRow.kept (hp5.alloc (.cells #[.string t] 9)) hgrow (own_ne' ho hp)
    rw [strV_snoc] at hown'
    have hne : v'.ownBlock ≠ some w2.heap.size := by
      intro e
      rcases hloc with h | h
      · rw [h] at e; exact nM e
      · rw [h] at e
        have := hz6.out
        simp at e
        omega
    have hne2 : (Value.slice b ks.length kb).ownBlock ≠ some w2.heap.size := fun e => absurd (hlt2 _ e) (by omega)
    have hbW : Below w1.heap.size w1 w5 := (hb2.trans (hb3.mono hb2.size)).trans ((hb4.trans (hb45.mono hb4.size)).mono (Nat.le_trans hb2.size hb3.size))
    have hb16 : Below w1.heap.size w1 w6 := below_app hbW (Nat.le_refl _) ho5 hgrow
    have hbX : Below W2.heap.size W2 w6 := hb1.trans (hb16.mono hb1.size)
    obtain ⟨a2, ka2, rfl, _, _⟩ := own_row hown'
    have hl9 : xs.length + 1 = (xs ++ [t]).length := by simp
    rw [hl9] at hown'
    have hS6 := own_setCell hown' ⟨w2.heap.size, 0, none⟩ (.slice a2 (xs ++ [t]).length ka2) hne
    have hT6 := own_setCell hp6 ⟨w2.heap.size, 0, none⟩ (.slice a2 (xs ++ [t]).length ka2) hne2
    have hbY : Below W2.heap.size W2 (w6.setCell ⟨w2.heap.size, 0, none⟩ (.slice a2 (xs ++ [t]).length ka2)) := hbX.setCell (by have h1 := hM.out; have h2 := hz.out; show W2.heap.size ≤ w2.heap.size; omega) _
    have FF := FIN.out _ _ _ (xs ++ [t]) ks hbY (KeepK.base ⟨a2, b, ka2, kb, rfl, hS6, hT6⟩ hb1.size)
    have s2 := (hbX.cell (L1 0)).trans c2
    have s3 := (hbX.cell (L1 1)).trans c3
    have t2 := (hbX.frozen (L1 0)).trans f2
    have t3 := (hbX.frozen (L1 1)).trans f3
    have neq : Hid (w2.heap.size ≠ w.heap.size + 1) := by have h1 := hM.out; show w2.heap.size ≠ w.heap.size + 1; omega
    clear hS6 hT6 hbY hbX hb16 hbW hne hne2 hown' hgrow hloc hp6 hk6 nM ho5 hp5 ho4 hp4 ho hp d2 d3 x2 x3 p0 p1 p2 e0 m0 m1 n0 hb4 hb45 hb5 hb6 hb13 hb14 hb3 hb2
    generalize (xs ++ [t]).length = nn at *
    try simp only [Act.put, List.setIfInBounds_toArray, List.set_cons_zero, List.set_cons_succ]
    refine take_any 6 33 (v := ?_) rfl rfl (by kernel_rfl) (by kernel_rfl) (by kernel_rfl) (fun _ _ _ h => h) (Or.inl ⟨by rfl, ?_⟩) ?_
    rotate_left
    · intro w'; go_simp; try with_reducible rfl
    try simp only [Act.put, List.setIfInBounds_toArray, List.set_cons_zero, List.set_cons_succ]
    refine wpAny_ready (rs := [7]) (by kernel_rfl) (by simp) ?_
    refine AllReady.cons (i := 7) rfl (fun K hK2 => ?_) AllReady.nil
    go_simp
    refine hK2 _ _ ?_
    clear hK2 K
    refine wpAny_done (by kernel_rfl) ?_ _
    have neq' := neq.out
    have k0 : (w6.setCell ⟨w2.heap.size, 0, none⟩ (.slice a2 nn ka2)).cell? ⟨w2.heap.size, 0, none⟩ = some (.slice a2 nn ka2) := World.cell?_setCell_same' _ _ _ (by rw [r0]; rfl)
    have k1 : (w6.setCell ⟨w2.heap.size, 0, none⟩ (.slice a2 nn ka2)).cell? ⟨w2.heap.size, 1, none⟩ = some (.slice b ks.length kb) := by rw [World.cell?_setCell_other _ _ _ _ (by simp)]; exact r1
    have k2 : (w6.setCell ⟨w2.heap.size, 0, none⟩ (.slice a2 nn ka2)).cell? ⟨w.heap.size + 1, 0, none⟩ = some (.slice none 0 0) := by rw [World.cell?_setCell_other _ _ _ _ (by intro e; first | (simp at e; done) | (simp at e; omega))]; exact s2
    have k3 : (w6.setCell ⟨w2.heap.size, 0, none⟩ (.slice a2 nn ka2)).cell? ⟨w.heap.size + 1, 1, none⟩ = some (.slice none 0 0) := by rw [World.cell?_setCell_other _ _ _ _ (by intro e; simp at e)]; exact s3
    have k4 : (w6.setCell ⟨w2.heap.size, 0, none⟩ (.slice a2 nn ka2)).frozen? ⟨w.heap.size + 1, 0, none⟩ = false := by rw [World.frozen?_setCell]; exact t2
    have k5 : (w6.setCell ⟨w2.heap.size, 0, none⟩ (.slice a2 nn ka2)).frozen? ⟨w.heap.size + 1, 1, none⟩ = false := by rw [World.frozen?_setCell]; exact t3
    generalize (w6.setCell ⟨w2.heap.size, 0, none⟩ (.slice a2 nn ka2)) = W7 at *
    clear r0 r1 r2 s2 s3 t2 t3
    go_wp2
    refine bodyPost_ret (res_two rfl _ _ (w.heap.size + 1) _ _ rfl FF.1 FF.2.1) rfl ⟨_, rfl, FF.2.2.1, FF.2.2.2⟩
  refine AllReady.cons (i := 3) rfl (fun K hK2 => ?_) AllReady.nil
  have hK3 : Shut _ := hK2
  clear hK2
  have hK2 := hK3
  clear hK3
  go_simp
  refine (clone_is t _ ht).mono ?_
  rintro e w5 ⟨rfl, hb5⟩
  go_wp2_with fail
  have hb45 : Below w4.heap.size w4 w5 := ((Below.refl _ w4).drew).trans hb5
  have l45 : W3.heap.size ≤ w4.heap.size := hb4.size
  have q0 : w5.cell? ⟨w2.heap.size, 0, none⟩ = some (.slice a xs.length ka) := (hb45.cell (Nat.lt_of_lt_of_le (L3 0) l45)).trans p0
  refine hK2.out _ _ ?_
  clear hK2 K
  refine wpAny_ready (rs := [1, 4]) (by kernel_rfl) (by simp) ?_
  refine AllReady.cons (i := 1) rfl (fun K hK2 => ?_) ?_
  · go_simp
    refine hK2 _ _ ?_
    clear hK2 K
    refine wpAny_ready (rs := [4]) (by kernel_rfl) (by simp) ?_
    refine AllReady.cons (i := 4) rfl (fun K hK2 => ?_) AllReady.nil
    go_simp
    have hb6 : Below w5.heap.size w5 (w5.alloc (.cells #[.string t] 9)) := (Below.refl _ _).alloc (Nat.le_refl _) _
    have q1 : (w5.alloc (.cells #[.string t] 9)).cell? ⟨w2.heap.size, 0, none⟩ = some (.slice a xs.length ka) := (hb6.cell (p := ⟨w2.heap.size, 0, none⟩) (Nat.lt_of_lt_of_le (L3 0) (Nat.le_trans l45 hb45.size))).trans q0
    refine hK2 _ _ ?_
    clear hK2 K
    have ho5 := own_later ho4 hb45
    have hp5 := own_later hp4 hb45
    refine wpAny_ready (rs := [5]) (by kernel_rfl) (by simp) ?_
    refine AllReady.cons (i := 5) rfl (fun K hK2 => ?_) AllReady.nil
    refine step_own_at 32 rfl rfl _ _ 24 rfl w1.heap.size 9 i0 (.string ⟨#[]⟩) 1 16 Tryz.underlying24 hi hz0 hz1 hz2 rfl (by decide) (.slice a xs.length ka) xs.length (strV xs) rfl (ho5.alloc _) ⟨w5.heap.size, 0, none⟩ 1 1 [.string t] rfl rfl (cell_one_new _ _ _) (by intro u hu; simp at hu; subst hu; rfl) (by unfold maxLen; omega) (by omega) (by have h1 := hb2.size; have h2 := hb3.size; have h3 := hb45.size; simp; omega) ?_
    intro v' w6 hown' hgrow hloc
    have hz6 : Hid (w2.heap.size + 1 ≤ w5.heap.size) := by have h1 := hz3.out; have h2 := hb45.size; show w2.heap.size + 1 ≤ w5.heap.size; omega
    have hk6 : ∀ k, k < w2.heap.size + 1 → (Value.slice a xs.length ka).ownBlock ≠ some k → w6.heap[k]? = w5.heap[k]? := fun k h1 h2 =>
      (hgrow.block k (by have := hz6.out; simp; omega) (fun e => h2 e.symm)).trans (Below.heap_alloc w5 _ k (by have := hz6.out; omega))
    have nM : (Value.slice a xs.length ka).ownBlock ≠ some w2.heap.size := fun e => absurd (hlt1 _ e) (by omega)
    have r0 : w6.cell? ⟨w2.heap.size, 0, none⟩ = some (.slice a xs.length ka) := (World.cell?_of_block (w := w5) (a := ⟨w2.heap.size, 0, none⟩) (hk6 w2.heap.size (by omega) nM)).trans ((hb45.cell (Nat.lt_of_lt_of_le (L3 0) l45)).trans p0)
    have r1 : w6.cell? ⟨w2.heap.size, 1, none⟩ = some (.slice b ks.length kb) := (World.cell?_of_block (w := w5) (a := ⟨w2.heap.size, 1, none⟩) (hk6 w2.heap.size (by omega) nM)).trans ((hb45.cell (Nat.lt_of_lt_of_le (L3 1) l45)).trans p1)
    have r2 : w6.frozen? ⟨w2.heap.size, 0, none⟩ = false := (World.frozen?_of_block (w := w5) (a := ⟨w2.heap.size, 0, none⟩) (hk6 w2.heap.size (by omega) nM)).trans ((hb45.frozen (Nat.lt_of_lt_of_le (L3 0) l45)).trans p2)
    refine hK2 _ _ ?_
    clear hK2 K
    have hp6 := World.ownsRow.kept (hp5.alloc (.cells #[.string t] 9)) hgrow (own_ne' ho hp)
    rw [strV_snoc] at hown'
    have hne : v'.ownBlock ≠ some w2.heap.size := by
      intro e
      rcases hloc with h | h
      · rw [h] at e; exact nM e
      · rw [h] at e
        have := hz6.out
        simp at e
        omega
    have hne2 : (Value.slice b ks.length kb).ownBlock ≠ some w2.heap.size := fun e => absurd (hlt2 _ e) (by omega)
    have hbW : Below w1.heap.size w1 w5 := (hb2.trans (hb3.mono hb2.size)).trans ((hb4.trans (hb45.mono hb4.size)).mono (Nat.le_trans hb2.size hb3.size))
    have hb16 : Below w1.heap.size w1 w6 := below_app hbW (Nat.le_refl _) ho5 hgrow
    have hbX : Below W2.heap.size W2 w6 := hb1.trans (hb16.mono hb1.size)
    obtain ⟨a2, ka2, rfl, _, _⟩ := own_row hown'
    have hl9 : xs.length + 1 = (xs ++ [t]).length := by simp
    rw [hl9] at hown'
    have hS6 := own_setCell hown' ⟨w2.heap.size, 0, none⟩ (.slice a2 (xs ++ [t]).length ka2) hne
    have hT6 := own_setCell hp6 ⟨w2.heap.size, 0, none⟩ (.slice a2 (xs ++ [t]).length ka2) hne2
    have hbY : Below W2.heap.size W2 (w6.setCell ⟨w2.heap.size, 0, none⟩ (.slice a2 (xs ++ [t]).length ka2)) := hbX.setCell (by have h1 := hM.out; have h2 := hz.out; show W2.heap.size ≤ w2.heap.size; omega) _
    have FF := FIN.out _ _ _ (xs ++ [t]) ks hbY (KeepK.base ⟨a2, b, ka2, kb, rfl, hS6, hT6⟩ hb1.size)
    have s2 := (hbX.cell (L1 0)).trans c2
    have s3 := (hbX.cell (L1 1)).trans c3
    have t2 := (hbX.frozen (L1 0)).trans f2
    have t3 := (hbX.frozen (L1 1)).trans f3
    have neq : Hid (w2.heap.size ≠ w.heap.size + 1) := by have h1 := hM.out; show w2.heap.size ≠ w.heap.size + 1; omega
    clear hS6 hT6 hbY hbX hb16 hbW hne hne2 hown' hgrow hloc hp6 hk6 nM ho5 hp5 ho4 hp4 ho hp d2 d3 x2 x3 p0 p1 p2 e0 m0 m1 n0 hb4 hb45 hb5 hb6 hb13 hb14 hb3 hb2
    generalize (xs ++ [t]).length = nn at *
    try simp only [Act.put, List.setIfInBounds_toArray, List.set_cons_zero, List.set_cons_succ]
    refine take_any 6 33 (v := ?_) rfl rfl (by kernel_rfl) (by kernel_rfl) (by kernel_rfl) (fun _ _ _ h => h) (Or.inl ⟨by rfl, ?_⟩) ?_
    rotate_left
    · intro w'; go_simp; try with_reducible rfl
    try simp only [Act.put, List.setIfInBounds_toArray, List.set_cons_zero, List.set_cons_succ]
    refine wpAny_ready (rs := [7]) (by kernel_rfl) (by simp) ?_
    refine AllReady.cons (i := 7) rfl (fun K hK2 => ?_) AllReady.nil
    go_simp
    refine hK2 _ _ ?_
    clear hK2 K
    refine wpAny_done (by kernel_rfl) ?_ _
    have neq' := neq.out
    have k0 : (w6.setCell ⟨w2.heap.size, 0, none⟩ (.slice a2 nn ka2)).cell? ⟨w2.heap.size, 0, none⟩ = some (.slice a2 nn ka2) := World.cell?_setCell_same' _ _ _ (by rw [r0]; rfl)
    have k1 : (w6.setCell ⟨w2.heap.size, 0, none⟩ (.slice a2 nn ka2)).cell? ⟨w2.heap.size, 1, none⟩ = some (.slice b ks.length kb) := by rw [World.cell?_setCell_other _ _ _ _ (by simp)]; exact r1
    have k2 : (w6.setCell ⟨w2.heap.size, 0, none⟩ (.slice a2 nn ka2)).cell? ⟨w.heap.size + 1, 0, none⟩ = some (.slice none 0 0) := by rw [World.cell?_setCell_other _ _ _ _ (by intro e; first | (simp at e; done) | (simp at e; omega))]; exact s2
    have k3 : (w6.setCell ⟨w2.heap.size, 0, none⟩ (.slice a2 nn ka2)).cell? ⟨w.heap.size + 1, 1, none⟩ = some (.slice none 0 0) := by rw [World.cell?_setCell_other _ _ _ _ (by intro e; simp at e)]; exact s3
    have k4 : (w6.setCell ⟨w2.heap.size, 0, none⟩ (.slice a2 nn ka2)).frozen? ⟨w.heap.size + 1, 0, none⟩ = false := by rw [World.frozen?_setCell]; exact t2
    have k5 : (w6.setCell ⟨w2.heap.size, 0, none⟩ (.slice a2 nn ka2)).frozen? ⟨w.heap.size + 1, 1, none⟩ = false := by rw [World.frozen?_setCell]; exact t3
    generalize (w6.setCell ⟨w2.heap.size, 0, none⟩ (.slice a2 nn ka2)) = W7 at *
    clear r0 r1 r2 s2 s3 t2 t3
    go_wp2
    refine bodyPost_ret (res_two rfl _ _ (w.heap.size + 1) _ _ rfl FF.1 FF.2.1) rfl ⟨_, rfl, FF.2.2.1, FF.2.2.2⟩
  refine AllReady.cons (i := 4) rfl (fun K hK2 => ?_) AllReady.nil
  go_simp
  have hb6 : Below w5.heap.size w5 (w5.alloc (.cells #[.string t] 9)) := (Below.refl _ _).alloc (Nat.le_refl _) _
  have q1 : (w5.alloc (.cells #[.string t] 9)).cell? ⟨w2.heap.size, 0, none⟩ = some (.slice a xs.length ka) := (hb6.cell (p := ⟨w2.heap.size, 0, none⟩) (Nat.lt_of_lt_of_le (L3 0) (Nat.le_trans l45 hb45.size))).trans q0
  refine hK2 _ _ ?_
  clear hK2 K
  refine wpAny_ready (rs := [1]) (by kernel_rfl) (by simp) ?_
  refine AllReady.cons (i := 1) rfl (fun K hK2 => ?_) AllReady.nil
  go_simp
  refine hK2 _ _ ?_
  clear hK2 K
  have ho5 := own_later ho4 hb45
  have hp5 := own_later hp4 hb45
  refine wpAny_ready (rs := [5]) (by kernel_rfl) (by simp) ?_
  refine AllReady.cons (i := 5) rfl (fun K hK2 => ?_) AllReady.nil
  refine step_own_at 32 rfl rfl _ _ 24 rfl w1.heap.size 9 i0 (.string ⟨#[]⟩) 1 16 Tryz.underlying24 hi hz0 hz1 hz2 rfl (by decide) (.slice a xs.length ka) xs.length (strV xs) rfl (ho5.alloc _) ⟨w5.heap.size, 0, none⟩ 1 1 [.string t] rfl rfl (cell_one_new _ _ _) (by intro u hu; simp at hu; subst hu; rfl) (by unfold maxLen; omega) (by omega) (by have h1 := hb2.size; have h2 := hb3.size; have h3 := hb45.size; simp; omega) ?_
  intro v' w6 hown' hgrow hloc
  have hz6 : Hid (w2.heap.size + 1 ≤ w5.heap.size) := by have h1 := hz3.out; have h2 := hb45.size; show w2.heap.size + 1 ≤ w5.heap.size; omega
  have hk6 : ∀ k, k < w2.heap.size + 1 → (Value.slice a xs.length ka).ownBlock ≠ some k → w6.heap[k]? = w5.heap[k]? := fun k h1 h2 =>
    (hgrow.block k (by have := hz6.out; simp; omega) (fun e => h2 e.symm)).trans (Below.heap_alloc w5 _ k (by have := hz6.out; omega))
  have nM : (Value.slice a xs.length ka).ownBlock ≠ some w2.heap.size := fun e => absurd (hlt1 _ e) (by omega)
  have r0 : w6.cell? ⟨w2.heap.size, 0, none⟩ = some (.slice a xs.length ka) := (World.cell?_of_block (w := w5) (a := ⟨w2.heap.size, 0, none⟩) (hk6 w2.heap.size (by omega) nM)).trans ((hb45.cell (Nat.lt_of_lt_of_le (L3 0) l45)).trans p0)
  have r1 : w6.cell? ⟨w2.heap.size, 1, none⟩ = some (.slice b ks.length kb) := (World.cell?_of_block (w := w5) (a := ⟨w2.heap.size, 1, none⟩) (hk6 w2.heap.size (by omega) nM)).trans ((hb45.cell (Nat.lt_of_lt_of_le (L3 1) l45)).trans p1)
  have r2 : w6.frozen? ⟨w2.heap.size, 0, none⟩ = false := (World.frozen?_of_block (w := w5) (a := ⟨w2.heap.size, 0, none⟩) (hk6 w2.heap.size (by omega) nM)).trans ((hb45.frozen (Nat.lt_of_lt_of_le (L3 0) l45)).trans p2)
  refine hK2 _ _ ?_
  clear hK2 K
  have hp6 := World.ownsRow.kept (hp5.alloc (.cells #[.string t] 9)) hgrow (own_ne' ho hp)
  rw [strV_snoc] at hown'
  have hne : v'.ownBlock ≠ some w2.heap.size := by
    intro e
    rcases hloc with h | h
    · rw [h] at e; exact nM e
    · rw [h] at e
      have := hz6.out
      simp at e
      omega
  have hne2 : (Value.slice b ks.length kb).ownBlock ≠ some w2.heap.size := fun e => absurd (hlt2 _ e) (by omega)
  have hbW : Below w1.heap.size w1 w5 := (hb2.trans (hb3.mono hb2.size)).trans ((hb4.trans (hb45.mono hb4.size)).mono (Nat.le_trans hb2.size hb3.size))
  have hb16 : Below w1.heap.size w1 w6 := below_app hbW (Nat.le_refl _) ho5 hgrow
  have hbX : Below W2.heap.size W2 w6 := hb1.trans (hb16.mono hb1.size)
  obtain ⟨a2, ka2, rfl, _, _⟩ := own_row hown'
  have hl9 : xs.length + 1 = (xs ++ [t]).length := by simp
  rw [hl9] at hown'
  have hS6 := own_setCell hown' ⟨w2.heap.size, 0, none⟩ (.slice a2 (xs ++ [t]).length ka2) hne
  have hT6 := own_setCell hp6 ⟨w2.heap.size, 0, none⟩ (.slice a2 (xs ++ [t]).length ka2) hne2
  have hbY : Below W2.heap.size W2 (w6.setCell ⟨w2.heap.size, 0, none⟩ (.slice a2 (xs ++ [t]).length ka2)) := hbX.setCell (by have h1 := hM.out; have h2 := hz.out; show W2.heap.size ≤ w2.heap.size; omega) _
  have FF := FIN.out _ _ _ (xs ++ [t]) ks hbY (KeepK.base ⟨a2, b, ka2, kb, rfl, hS6, hT6⟩ hb1.size)
  have s2 := (hbX.cell (L1 0)).trans c2
  have s3 := (hbX.cell (L1 1)).trans c3
  have t2 := (hbX.frozen (L1 0)).trans f2
  have t3 := (hbX.frozen (L1 1)).trans f3
  have neq : Hid (w2.heap.size ≠ w.heap.size + 1) := by have h1 := hM.out; show w2.heap.size ≠ w.heap.size + 1; omega
  clear hS6 hT6 hbY hbX hb16 hbW hne hne2 hown' hgrow hloc hp6 hk6 nM ho5 hp5 ho4 hp4 ho hp d2 d3 x2 x3 p0 p1 p2 e0 m0 m1 n0 hb4 hb45 hb5 hb6 hb13 hb14 hb3 hb2
  generalize (xs ++ [t]).length = nn at *
  try simp only [Act.put, List.setIfInBounds_toArray, List.set_cons_zero, List.set_cons_succ]
  refine take_any 6 33 (v := ?_) rfl rfl (by kernel_rfl) (by kernel_rfl) (by kernel_rfl) (fun _ _ _ h => h) (Or.inl ⟨by rfl, ?_⟩) ?_
  rotate_left
  · intro w'; go_simp; try with_reducible rfl
  try simp only [Act.put, List.setIfInBounds_toArray, List.set_cons_zero, List.set_cons_succ]
  refine wpAny_ready (rs := [7]) (by kernel_rfl) (by simp) ?_
  refine AllReady.cons (i := 7) rfl (fun K hK2 => ?_) AllReady.nil
  go_simp
  refine hK2 _ _ ?_
  clear hK2 K
  refine wpAny_done (by kernel_rfl) ?_ _
  have neq' := neq.out
  have k0 : (w6.setCell ⟨w2.heap.size, 0, none⟩ (.slice a2 nn ka2)).cell? ⟨w2.heap.size, 0, none⟩ = some (.slice a2 nn ka2) := World.cell?_setCell_same' _ _ _ (by rw [r0]; rfl)
  have k1 : (w6.setCell ⟨w2.heap.size, 0, none⟩ (.slice a2 nn ka2)).cell? ⟨w2.heap.size, 1, none⟩ = some (.slice b ks.length kb) := by rw [World.cell?_setCell_other _ _ _ _ (by simp)]; exact r1
  have k2 : (w6.setCell ⟨w2.heap.size, 0, none⟩ (.slice a2 nn ka2)).cell? ⟨w.heap.size + 1, 0, none⟩ = some (.slice none 0 0) := by rw [World.cell?_setCell_other _ _ _ _ (by intro e; first | (simp at e; done) | (simp at e; omega))]; exact s2
  have k3 : (w6.setCell ⟨w2.heap.size, 0, none⟩ (.slice a2 nn ka2)).cell? ⟨w.heap.size + 1, 1, none⟩ = some (.slice none 0 0) := by rw [World.cell?_setCell_other _ _ _ _ (by intro e; simp at e)]; exact s3
  have k4 : (w6.setCell ⟨w2.heap.size, 0, none⟩ (.slice a2 nn ka2)).frozen? ⟨w.heap.size + 1, 0, none⟩ = false := by rw [World.frozen?_setCell]; exact t2
  have k5 : (w6.setCell ⟨w2.heap.size, 0, none⟩ (.slice a2 nn ka2)).frozen? ⟨w.heap.size + 1, 1, none⟩ = false := by rw [World.frozen?_setCell]; exact t3
  generalize (w6.setCell ⟨w2.heap.size, 0, none⟩ (.slice a2 nn ka2)) = W7 at *
  clear r0 r1 r2 s2 s3 t2 t3
  go_wp2
  refine bodyPost_ret (res_two rfl _ _ (w.heap.size + 1) _ _ rfl FF.1 FF.2.1) rfl ⟨_, rfl, FF.2.2.1, FF.2.2.2⟩
end Go.Proofs.YtkekfogepdhjhaaGreat
