/- With one more key: the program. -/
import Derived.Test.YtkekfogepdhjhaaGreatInsert2
set_option linter.unusedVariables false
namespace Go.Proofs.YtkekfogepdhjhaaGreat
open Go.RowKit Own Var Term

theorem kOk_keys {xs : List ByteArray} {ks : List Int} (h : kOk xs ks = true) : kKeys ks = true := by
  unfold kOk at h
  simp at h
  exact h.2

set_option maxRecDepth 100000 in
set_option maxHeartbeats 3200000 in
theorem impl_learnKey_bad (a9 b9 : Option Addr) (ca cb : Nat) (xs : List ByteArray) (ks : List Int) (x : Int) (w : World) (hr : RowAt Value.string w a9 xs) (hq : RowAt (Value.int .i64) w b9 ks) (hl : xs.length ≤ 1048576) (hl2 : ks.length ≤ 1048576) (hcap : xs.length ≤ ca) (hs : ∀ x ∈ xs, x.size ≤ 1048576) (hK : kOk xs ks = false) :
    Calls Tryz.prog 14 #[.agg #[.slice a9 xs.length ca, .slice b9 ks.length cb], .int .i64 x] w fun e w' => ∃ v, e = .returned v ∧ KeepK w.heap.size w' v [] [] ∧ Below w.heap.size w w' := by
  obtain ⟨W2, hW2⟩ : ∃ W2, (w.alloc (.cells #[.slice a9 xs.length ca, .slice b9 ks.length cb] 27)).alloc (.cells #[.slice none 0 0, .slice none 0 0] 27) = W2 := ⟨_, rfl⟩
  have hb0 : Below w.heap.size w W2 := by rw [← hW2]; exact ((Below.refl _ _).alloc (Nat.le_refl _) _).alloc (by simp) _
  have hz : Hid (W2.heap.size = w.heap.size + 2) := by show W2.heap.size = w.heap.size + 2; rw [← hW2]; simp
  have c0 : W2.cell? ⟨w.heap.size, 0, none⟩ = some (.slice a9 xs.length ca) := by rw [← hW2]; simp [go_sem]
  have c1 : W2.cell? ⟨w.heap.size, 1, none⟩ = some (.slice b9 ks.length cb) := by rw [← hW2]; simp [go_sem]
  have c2 : W2.cell? ⟨w.heap.size + 1, 0, none⟩ = some (.slice none 0 0) := by rw [← hW2]; simp [go_sem]
  have c3 : W2.cell? ⟨w.heap.size + 1, 1, none⟩ = some (.slice none 0 0) := by rw [← hW2]; simp [go_sem]
  have f2 : W2.frozen? ⟨w.heap.size + 1, 0, none⟩ = false := by rw [← hW2]; simp [go_sem]
  have f3 : W2.frozen? ⟨w.heap.size + 1, 1, none⟩ = false := by rw [← hW2]; simp [go_sem]
  have L0 : ∀ o, (⟨w.heap.size, o, none⟩ : Addr).block < W2.heap.size := fun o => by have := hz.out; show w.heap.size < _; omega
  have L1 : ∀ o, (⟨w.heap.size + 1, o, none⟩ : Addr).block < W2.heap.size := fun o => by have := hz.out; show w.heap.size + 1 < _; omega
  have FIN : Hid (∀ (W : World) (v0 v1 : Value) (X : List ByteArray) (Y : List Int), Below W2.heap.size W2 W → KeepK W2.heap.size W (.agg #[v0, v1]) X Y → ((W.setCell ⟨w.heap.size + 1, 0, none⟩ v0).setCell ⟨w.heap.size + 1, 1, none⟩ v1).cell? ⟨w.heap.size + 1, 0, none⟩ = some v0 ∧ ((W.setCell ⟨w.heap.size + 1, 0, none⟩ v0).setCell ⟨w.heap.size + 1, 1, none⟩ v1).cell? ⟨w.heap.size + 1, 1, none⟩ = some v1 ∧ KeepK w.heap.size ((W.setCell ⟨w.heap.size + 1, 0, none⟩ v0).setCell ⟨w.heap.size + 1, 1, none⟩ v1) (.agg #[v0, v1]) X Y ∧ Below w.heap.size w ((W.setCell ⟨w.heap.size + 1, 0, none⟩ v0).setCell ⟨w.heap.size + 1, 1, none⟩ v1)) := by
    intro W v0 v1 X Y hB hK
    have d2 := (hB.cell (L1 0)).trans c2
    have d3 := (hB.cell (L1 1)).trans c3
    have hb5 := hb0.trans (hB.mono hb0.size)
    refine ⟨?_, ?_, ((hK.setCell (L1 0) _).setCell (L1 1) _).base hb0.size, (hb5.setCell (by show w.heap.size ≤ w.heap.size + 1; omega) _).setCell (by show w.heap.size ≤ w.heap.size + 1; omega) _⟩
    · rw [World.cell?_setCell_other _ _ _ _ (by simp)]
      exact World.cell?_setCell_same' _ _ _ (by rw [d2]; rfl)
    · exact World.cell?_setCell_same' _ _ _ (by rw [World.cell?_setCell_other _ _ _ _ (by simp), d3]; rfl)
  have hO := impl_knownOk a9 b9 ca cb xs ks W2 (hr.later hb0) (hq.later hb0) hl hl2 hcap hs
  rw [hK] at hO
  go_enter Tryz.func14, Tryz.ntmps14
  go_wp2_with fail
  try rw [hW2]
  refine hO.mono ?_
  clear hW2 hO
  rintro e w1 ⟨rfl, hb1⟩
  have FF := FIN.out w1 (.slice none 0 0) (.slice none 0 0) [] [] hb1 (keep_nil _ _)
  have d2 := (hb1.cell (L1 0)).trans c2
  have d3 := (hb1.cell (L1 1)).trans c3
  have x2 := (hb1.frozen (L1 0)).trans f2
  have x3 := (hb1.frozen (L1 1)).trans f3
  go_wp2
  refine bodyPost_ret (res_two rfl _ _ (w.heap.size + 1) _ _ rfl FF.1 FF.2.1) rfl ⟨_, rfl, FF.2.2.1, FF.2.2.2⟩

set_option maxRecDepth 100000 in
set_option maxHeartbeats 3200000 in
theorem impl_learnKey_no1 (a9 b9 : Option Addr) (ca cb : Nat) (xs : List ByteArray) (ks : List Int) (x : Int) (w : World) (hr : RowAt Value.string w a9 xs) (hq : RowAt (Value.int .i64) w b9 ks) (hl : xs.length ≤ 1048576) (hl2 : ks.length ≤ 1048576) (hcap : xs.length ≤ ca) (hs : ∀ x ∈ xs, x.size ≤ 1048576) (hK : kOk xs ks = true) (hh : Bool) (hH : hasB ks x = hh) (hR : (decide (1 ≤ x) && decide (x ≤ 1000000)) = false) :
    Calls Tryz.prog 14 #[.agg #[.slice a9 xs.length ca, .slice b9 ks.length cb], .int .i64 x] w fun e w' => ∃ v, e = .returned v ∧ KeepK w.heap.size w' v xs ks ∧ Below w.heap.size w w' := by
  have hpw := pair_of (kOk_keys hK)
  obtain ⟨W2, hW2⟩ : ∃ W2, (w.alloc (.cells #[.slice a9 xs.length ca, .slice b9 ks.length cb] 27)).alloc (.cells #[.slice none 0 0, .slice none 0 0] 27) = W2 := ⟨_, rfl⟩
  have hb0 : Below w.heap.size w W2 := by rw [← hW2]; exact ((Below.refl _ _).alloc (Nat.le_refl _) _).alloc (by simp) _
  have hz : Hid (W2.heap.size = w.heap.size + 2) := by show W2.heap.size = w.heap.size + 2; rw [← hW2]; simp
  have c0 : W2.cell? ⟨w.heap.size, 0, none⟩ = some (.slice a9 xs.length ca) := by rw [← hW2]; simp [go_sem]
  have c1 : W2.cell? ⟨w.heap.size, 1, none⟩ = some (.slice b9 ks.length cb) := by rw [← hW2]; simp [go_sem]
  have c2 : W2.cell? ⟨w.heap.size + 1, 0, none⟩ = some (.slice none 0 0) := by rw [← hW2]; simp [go_sem]
  have c3 : W2.cell? ⟨w.heap.size + 1, 1, none⟩ = some (.slice none 0 0) := by rw [← hW2]; simp [go_sem]
  have f2 : W2.frozen? ⟨w.heap.size + 1, 0, none⟩ = false := by rw [← hW2]; simp [go_sem]
  have f3 : W2.frozen? ⟨w.heap.size + 1, 1, none⟩ = false := by rw [← hW2]; simp [go_sem]
  have L0 : ∀ o, (⟨w.heap.size, o, none⟩ : Addr).block < W2.heap.size := fun o => by have := hz.out; show w.heap.size < _; omega
  have L1 : ∀ o, (⟨w.heap.size + 1, o, none⟩ : Addr).block < W2.heap.size := fun o => by have := hz.out; show w.heap.size + 1 < _; omega
  have FIN : Hid (∀ (W : World) (v0 v1 : Value) (X : List ByteArray) (Y : List Int), Below W2.heap.size W2 W → KeepK W2.heap.size W (.agg #[v0, v1]) X Y → ((W.setCell ⟨w.heap.size + 1, 0, none⟩ v0).setCell ⟨w.heap.size + 1, 1, none⟩ v1).cell? ⟨w.heap.size + 1, 0, none⟩ = some v0 ∧ ((W.setCell ⟨w.heap.size + 1, 0, none⟩ v0).setCell ⟨w.heap.size + 1, 1, none⟩ v1).cell? ⟨w.heap.size + 1, 1, none⟩ = some v1 ∧ KeepK w.heap.size ((W.setCell ⟨w.heap.size + 1, 0, none⟩ v0).setCell ⟨w.heap.size + 1, 1, none⟩ v1) (.agg #[v0, v1]) X Y ∧ Below w.heap.size w ((W.setCell ⟨w.heap.size + 1, 0, none⟩ v0).setCell ⟨w.heap.size + 1, 1, none⟩ v1)) := by
    intro W v0 v1 X Y hB hK
    have d2 := (hB.cell (L1 0)).trans c2
    have d3 := (hB.cell (L1 1)).trans c3
    have hb5 := hb0.trans (hB.mono hb0.size)
    refine ⟨?_, ?_, ((hK.setCell (L1 0) _).setCell (L1 1) _).base hb0.size, (hb5.setCell (by show w.heap.size ≤ w.heap.size + 1; omega) _).setCell (by show w.heap.size ≤ w.heap.size + 1; omega) _⟩
    · rw [World.cell?_setCell_other _ _ _ _ (by simp)]
      exact World.cell?_setCell_same' _ _ _ (by rw [d2]; rfl)
    · exact World.cell?_setCell_same' _ _ _ (by rw [World.cell?_setCell_other _ _ _ _ (by simp), d3]; rfl)
  have hO := impl_knownOk a9 b9 ca cb xs ks W2 (hr.later hb0) (hq.later hb0) hl hl2 hcap hs
  rw [hK] at hO
  go_enter Tryz.func14, Tryz.ntmps14
  go_wp2_with fail
  try rw [hW2]
  refine hO.mono ?_
  clear hW2 hO
  rintro e w1 ⟨rfl, hb1⟩
  have e0 := (hb1.cell (L0 0)).trans c0
  have e1 := (hb1.cell (L0 1)).trans c1
  have hb01 := hb0.trans (hb1.mono hb0.size)
  have H2 := copyKnown_is a9 b9 ca cb xs ks w1 (hr.later hb01) (hq.later hb01) hl hl2 hs
  go_wp2_with fail
  refine H2.mono ?_
  clear H2
  rintro e w2 ⟨v, rfl, ⟨a, b, ka, kb, rfl, ho, hp⟩, hb2⟩
  obtain ⟨W3, hW3⟩ : ∃ W3, w2.alloc (.cells #[.slice a xs.length ka, .slice b ks.length kb] 27) = W3 := ⟨_, rfl⟩
  have hb3 : Below w2.heap.size w2 W3 := by rw [← hW3]; exact (Below.refl _ _).alloc (Nat.le_refl _) _
  have hz3 : Hid (W3.heap.size = w2.heap.size + 1) := by show W3.heap.size = w2.heap.size + 1; rw [← hW3]; simp
  have m0 : W3.cell? ⟨w2.heap.size, 0, none⟩ = some (.slice a xs.length ka) := by rw [← hW3]; simp [go_sem]
  have m1 : W3.cell? ⟨w2.heap.size, 1, none⟩ = some (.slice b ks.length kb) := by rw [← hW3]; simp [go_sem]
  have n1 : W3.frozen? ⟨w2.heap.size, 1, none⟩ = false := by rw [← hW3]; simp [go_sem]
  have L3 : ∀ o, (⟨w2.heap.size, o, none⟩ : Addr).block < W3.heap.size := fun o => by have := hz3.out; show w2.heap.size < _; omega
  have hlt1 : ∀ k, (Value.slice a xs.length ka).ownBlock = some k → k < w2.heap.size := fun k hk => (ho.lt k hk).2
  have hlt2 : ∀ k, (Value.slice b ks.length kb).ownBlock = some k → k < w2.heap.size := fun k hk => (hp.lt k hk).2
  have hb13 : Below W2.heap.size W2 W3 := (hb1.trans (hb2.mono hb1.size)).trans (hb3.mono (Nat.le_trans hb1.size hb2.size))
  have hM : Hid (w.heap.size + 2 ≤ w2.heap.size) := by have h1 := hz.out; have h2 := hb1.size; have h3 := hb2.size; show w.heap.size + 2 ≤ w2.heap.size; omega
  clear e0 e1
  have e1 := (hb13.cell (L0 1)).trans c1
  have hb03 := hb0.trans (hb13.mono hb0.size)
  have H4 := bin_is b9 cb ks x W3 (hq.later hb03) hl2 hpw
  rw [hH] at H4
  obtain ⟨nn, hnn⟩ : ∃ nn, ks.countP (· < x) = nn := ⟨_, rfl⟩
  have hNl : nn ≤ ks.length := by rw [← hnn]; exact List.countP_le_length
  have HNN : Hid (ks.countP (· < x) = nn) := hnn
  rw [hnn] at H4
  clear hnn
  go_wp2_with fail
  try rw [hW3]
  refine H4.mono ?_
  clear hW3 H4
  rintro e w4 ⟨rfl, hb4⟩
  have hb14 : Below W2.heap.size W2 w4 := hb13.trans (hb4.mono hb13.size)
  clear e1
  have e1 := (hb14.cell (L0 1)).trans c1
  have p0 := (hb4.cell (L3 0)).trans m0
  have p1 := (hb4.cell (L3 1)).trans m1
  have p2 := (hb4.frozen (L3 1)).trans n1
  have d2 := (hb14.cell (L1 0)).trans c2
  have d3 := (hb14.cell (L1 1)).trans c3
  have x2 := (hb14.frozen (L1 0)).trans f2
  have x3 := (hb14.frozen (L1 1)).trans f3
  have ho4 := own_later (own_later ho hb3) hb4
  have hp4 := own_later (own_later hp hb3) hb4
  have HI := keyOk_is x w4
  rw [hR] at HI
  have FF := FIN.out w4 _ _ xs ks hb14 (KeepK.base ⟨a, b, ka, kb, rfl, ho4, hp4⟩ hb1.size)
  clear ho hp ho4 hp4 hb13 hb14 hb3 hb4 hb2 m0 m1 n1
  go_wp2_with fail
  refine HI.mono ?_
  rintro e w5 ⟨rfl, rfl⟩
  go_wp2
  refine bodyPost_ret (res_two rfl _ _ (w.heap.size + 1) _ _ rfl FF.1 FF.2.1) rfl ⟨_, rfl, FF.2.2.1, FF.2.2.2⟩

set_option maxRecDepth 100000 in
set_option maxHeartbeats 3200000 in
theorem impl_learnKey_no2 (a9 b9 : Option Addr) (ca cb : Nat) (xs : List ByteArray) (ks : List Int) (x : Int) (w : World) (hr : RowAt Value.string w a9 xs) (hq : RowAt (Value.int .i64) w b9 ks) (hl : xs.length ≤ 1048576) (hl2 : ks.length ≤ 1048576) (hcap : xs.length ≤ ca) (hs : ∀ x ∈ xs, x.size ≤ 1048576) (hK : kOk xs ks = true) (hH : hasB ks x = true) (hR : (decide (1 ≤ x) && decide (x ≤ 1000000)) = true) :
    Calls Tryz.prog 14 #[.agg #[.slice a9 xs.length ca, .slice b9 ks.length cb], .int .i64 x] w fun e w' => ∃ v, e = .returned v ∧ KeepK w.heap.size w' v xs ks ∧ Below w.heap.size w w' := by
  have hpw := pair_of (kOk_keys hK)
  obtain ⟨W2, hW2⟩ : ∃ W2, (w.alloc (.cells #[.slice a9 xs.length ca, .slice b9 ks.length cb] 27)).alloc (.cells #[.slice none 0 0, .slice none 0 0] 27) = W2 := ⟨_, rfl⟩
  have hb0 : Below w.heap.size w W2 := by rw [← hW2]; exact ((Below.refl _ _).alloc (Nat.le_refl _) _).alloc (by simp) _
  have hz : Hid (W2.heap.size = w.heap.size + 2) := by show W2.heap.size = w.heap.size + 2; rw [← hW2]; simp
  have c0 : W2.cell? ⟨w.heap.size, 0, none⟩ = some (.slice a9 xs.length ca) := by rw [← hW2]; simp [go_sem]
  have c1 : W2.cell? ⟨w.heap.size, 1, none⟩ = some (.slice b9 ks.length cb) := by rw [← hW2]; simp [go_sem]
  have c2 : W2.cell? ⟨w.heap.size + 1, 0, none⟩ = some (.slice none 0 0) := by rw [← hW2]; simp [go_sem]
  have c3 : W2.cell? ⟨w.heap.size + 1, 1, none⟩ = some (.slice none 0 0) := by rw [← hW2]; simp [go_sem]
  have f2 : W2.frozen? ⟨w.heap.size + 1, 0, none⟩ = false := by rw [← hW2]; simp [go_sem]
  have f3 : W2.frozen? ⟨w.heap.size + 1, 1, none⟩ = false := by rw [← hW2]; simp [go_sem]
  have L0 : ∀ o, (⟨w.heap.size, o, none⟩ : Addr).block < W2.heap.size := fun o => by have := hz.out; show w.heap.size < _; omega
  have L1 : ∀ o, (⟨w.heap.size + 1, o, none⟩ : Addr).block < W2.heap.size := fun o => by have := hz.out; show w.heap.size + 1 < _; omega
  have FIN : Hid (∀ (W : World) (v0 v1 : Value) (X : List ByteArray) (Y : List Int), Below W2.heap.size W2 W → KeepK W2.heap.size W (.agg #[v0, v1]) X Y → ((W.setCell ⟨w.heap.size + 1, 0, none⟩ v0).setCell ⟨w.heap.size + 1, 1, none⟩ v1).cell? ⟨w.heap.size + 1, 0, none⟩ = some v0 ∧ ((W.setCell ⟨w.heap.size + 1, 0, none⟩ v0).setCell ⟨w.heap.size + 1, 1, none⟩ v1).cell? ⟨w.heap.size + 1, 1, none⟩ = some v1 ∧ KeepK w.heap.size ((W.setCell ⟨w.heap.size + 1, 0, none⟩ v0).setCell ⟨w.heap.size + 1, 1, none⟩ v1) (.agg #[v0, v1]) X Y ∧ Below w.heap.size w ((W.setCell ⟨w.heap.size + 1, 0, none⟩ v0).setCell ⟨w.heap.size + 1, 1, none⟩ v1)) := by
    intro W v0 v1 X Y hB hK
    have d2 := (hB.cell (L1 0)).trans c2
    have d3 := (hB.cell (L1 1)).trans c3
    have hb5 := hb0.trans (hB.mono hb0.size)
    refine ⟨?_, ?_, ((hK.setCell (L1 0) _).setCell (L1 1) _).base hb0.size, (hb5.setCell (by show w.heap.size ≤ w.heap.size + 1; omega) _).setCell (by show w.heap.size ≤ w.heap.size + 1; omega) _⟩
    · rw [World.cell?_setCell_other _ _ _ _ (by simp)]
      exact World.cell?_setCell_same' _ _ _ (by rw [d2]; rfl)
    · exact World.cell?_setCell_same' _ _ _ (by rw [World.cell?_setCell_other _ _ _ _ (by simp), d3]; rfl)
  have hO := impl_knownOk a9 b9 ca cb xs ks W2 (hr.later hb0) (hq.later hb0) hl hl2 hcap hs
  rw [hK] at hO
  go_enter Tryz.func14, Tryz.ntmps14
  go_wp2_with fail
  try rw [hW2]
  refine hO.mono ?_
  clear hW2 hO
  rintro e w1 ⟨rfl, hb1⟩
  have e0 := (hb1.cell (L0 0)).trans c0
  have e1 := (hb1.cell (L0 1)).trans c1
  have hb01 := hb0.trans (hb1.mono hb0.size)
  have H2 := copyKnown_is a9 b9 ca cb xs ks w1 (hr.later hb01) (hq.later hb01) hl hl2 hs
  go_wp2_with fail
  refine H2.mono ?_
  clear H2
  rintro e w2 ⟨v, rfl, ⟨a, b, ka, kb, rfl, ho, hp⟩, hb2⟩
  obtain ⟨W3, hW3⟩ : ∃ W3, w2.alloc (.cells #[.slice a xs.length ka, .slice b ks.length kb] 27) = W3 := ⟨_, rfl⟩
  have hb3 : Below w2.heap.size w2 W3 := by rw [← hW3]; exact (Below.refl _ _).alloc (Nat.le_refl _) _
  have hz3 : Hid (W3.heap.size = w2.heap.size + 1) := by show W3.heap.size = w2.heap.size + 1; rw [← hW3]; simp
  have m0 : W3.cell? ⟨w2.heap.size, 0, none⟩ = some (.slice a xs.length ka) := by rw [← hW3]; simp [go_sem]
  have m1 : W3.cell? ⟨w2.heap.size, 1, none⟩ = some (.slice b ks.length kb) := by rw [← hW3]; simp [go_sem]
  have n1 : W3.frozen? ⟨w2.heap.size, 1, none⟩ = false := by rw [← hW3]; simp [go_sem]
  have L3 : ∀ o, (⟨w2.heap.size, o, none⟩ : Addr).block < W3.heap.size := fun o => by have := hz3.out; show w2.heap.size < _; omega
  have hlt1 : ∀ k, (Value.slice a xs.length ka).ownBlock = some k → k < w2.heap.size := fun k hk => (ho.lt k hk).2
  have hlt2 : ∀ k, (Value.slice b ks.length kb).ownBlock = some k → k < w2.heap.size := fun k hk => (hp.lt k hk).2
  have hb13 : Below W2.heap.size W2 W3 := (hb1.trans (hb2.mono hb1.size)).trans (hb3.mono (Nat.le_trans hb1.size hb2.size))
  have hM : Hid (w.heap.size + 2 ≤ w2.heap.size) := by have h1 := hz.out; have h2 := hb1.size; have h3 := hb2.size; show w.heap.size + 2 ≤ w2.heap.size; omega
  clear e0 e1
  have e1 := (hb13.cell (L0 1)).trans c1
  have hb03 := hb0.trans (hb13.mono hb0.size)
  have H4 := bin_is b9 cb ks x W3 (hq.later hb03) hl2 hpw
  rw [hH] at H4
  obtain ⟨nn, hnn⟩ : ∃ nn, ks.countP (· < x) = nn := ⟨_, rfl⟩
  have hNl : nn ≤ ks.length := by rw [← hnn]; exact List.countP_le_length
  have HNN : Hid (ks.countP (· < x) = nn) := hnn
  rw [hnn] at H4
  clear hnn
  go_wp2_with fail
  try rw [hW3]
  refine H4.mono ?_
  clear hW3 H4
  rintro e w4 ⟨rfl, hb4⟩
  have hb14 : Below W2.heap.size W2 w4 := hb13.trans (hb4.mono hb13.size)
  clear e1
  have e1 := (hb14.cell (L0 1)).trans c1
  have p0 := (hb4.cell (L3 0)).trans m0
  have p1 := (hb4.cell (L3 1)).trans m1
  have p2 := (hb4.frozen (L3 1)).trans n1
  have d2 := (hb14.cell (L1 0)).trans c2
  have d3 := (hb14.cell (L1 1)).trans c3
  have x2 := (hb14.frozen (L1 0)).trans f2
  have x3 := (hb14.frozen (L1 1)).trans f3
  have ho4 := own_later (own_later ho hb3) hb4
  have hp4 := own_later (own_later hp hb3) hb4
  have HI := keyOk_is x w4
  rw [hR] at HI
  have FF := FIN.out w4 _ _ xs ks hb14 (KeepK.base ⟨a, b, ka, kb, rfl, ho4, hp4⟩ hb1.size)
  clear ho hp ho4 hp4 hb13 hb14 hb3 hb4 hb2 m0 m1 n1
  go_wp2_with fail
  refine HI.mono ?_
  rintro e w5 ⟨rfl, rfl⟩
  go_wp2
  refine bodyPost_ret (res_two rfl _ _ (w.heap.size + 1) _ _ rfl FF.1 FF.2.1) rfl ⟨_, rfl, FF.2.2.1, FF.2.2.2⟩

set_option maxRecDepth 100000 in
set_option maxHeartbeats 3200000 in
theorem impl_learnKey_no3 (a9 b9 : Option Addr) (ca cb : Nat) (xs : List ByteArray) (ks : List Int) (x : Int) (w : World) (hr : RowAt Value.string w a9 xs) (hq : RowAt (Value.int .i64) w b9 ks) (hl : xs.length ≤ 1048576) (hl2 : ks.length ≤ 1048576) (hcap : xs.length ≤ ca) (hs : ∀ x ∈ xs, x.size ≤ 1048576) (hK : kOk xs ks = true) (hH : hasB ks x = false) (hR : (decide (1 ≤ x) && decide (x ≤ 1000000)) = true) (h40 : ¬ ks.length < 40) :
    Calls Tryz.prog 14 #[.agg #[.slice a9 xs.length ca, .slice b9 ks.length cb], .int .i64 x] w fun e w' => ∃ v, e = .returned v ∧ KeepK w.heap.size w' v xs ks ∧ Below w.heap.size w w' := by
  have hpw := pair_of (kOk_keys hK)
  have h40' : decide ((ks.length : Int) < 40) = false := by simp; omega
  obtain ⟨W2, hW2⟩ : ∃ W2, (w.alloc (.cells #[.slice a9 xs.length ca, .slice b9 ks.length cb] 27)).alloc (.cells #[.slice none 0 0, .slice none 0 0] 27) = W2 := ⟨_, rfl⟩
  have hb0 : Below w.heap.size w W2 := by rw [← hW2]; exact ((Below.refl _ _).alloc (Nat.le_refl _) _).alloc (by simp) _
  have hz : Hid (W2.heap.size = w.heap.size + 2) := by show W2.heap.size = w.heap.size + 2; rw [← hW2]; simp
  have c0 : W2.cell? ⟨w.heap.size, 0, none⟩ = some (.slice a9 xs.length ca) := by rw [← hW2]; simp [go_sem]
  have c1 : W2.cell? ⟨w.heap.size, 1, none⟩ = some (.slice b9 ks.length cb) := by rw [← hW2]; simp [go_sem]
  have c2 : W2.cell? ⟨w.heap.size + 1, 0, none⟩ = some (.slice none 0 0) := by rw [← hW2]; simp [go_sem]
  have c3 : W2.cell? ⟨w.heap.size + 1, 1, none⟩ = some (.slice none 0 0) := by rw [← hW2]; simp [go_sem]
  have f2 : W2.frozen? ⟨w.heap.size + 1, 0, none⟩ = false := by rw [← hW2]; simp [go_sem]
  have f3 : W2.frozen? ⟨w.heap.size + 1, 1, none⟩ = false := by rw [← hW2]; simp [go_sem]
  have L0 : ∀ o, (⟨w.heap.size, o, none⟩ : Addr).block < W2.heap.size := fun o => by have := hz.out; show w.heap.size < _; omega
  have L1 : ∀ o, (⟨w.heap.size + 1, o, none⟩ : Addr).block < W2.heap.size := fun o => by have := hz.out; show w.heap.size + 1 < _; omega
  have FIN : Hid (∀ (W : World) (v0 v1 : Value) (X : List ByteArray) (Y : List Int), Below W2.heap.size W2 W → KeepK W2.heap.size W (.agg #[v0, v1]) X Y → ((W.setCell ⟨w.heap.size + 1, 0, none⟩ v0).setCell ⟨w.heap.size + 1, 1, none⟩ v1).cell? ⟨w.heap.size + 1, 0, none⟩ = some v0 ∧ ((W.setCell ⟨w.heap.size + 1, 0, none⟩ v0).setCell ⟨w.heap.size + 1, 1, none⟩ v1).cell? ⟨w.heap.size + 1, 1, none⟩ = some v1 ∧ KeepK w.heap.size ((W.setCell ⟨w.heap.size + 1, 0, none⟩ v0).setCell ⟨w.heap.size + 1, 1, none⟩ v1) (.agg #[v0, v1]) X Y ∧ Below w.heap.size w ((W.setCell ⟨w.heap.size + 1, 0, none⟩ v0).setCell ⟨w.heap.size + 1, 1, none⟩ v1)) := by
    intro W v0 v1 X Y hB hK
    have d2 := (hB.cell (L1 0)).trans c2
    have d3 := (hB.cell (L1 1)).trans c3
    have hb5 := hb0.trans (hB.mono hb0.size)
    refine ⟨?_, ?_, ((hK.setCell (L1 0) _).setCell (L1 1) _).base hb0.size, (hb5.setCell (by show w.heap.size ≤ w.heap.size + 1; omega) _).setCell (by show w.heap.size ≤ w.heap.size + 1; omega) _⟩
    · rw [World.cell?_setCell_other _ _ _ _ (by simp)]
      exact World.cell?_setCell_same' _ _ _ (by rw [d2]; rfl)
    · exact World.cell?_setCell_same' _ _ _ (by rw [World.cell?_setCell_other _ _ _ _ (by simp), d3]; rfl)
  have hO := impl_knownOk a9 b9 ca cb xs ks W2 (hr.later hb0) (hq.later hb0) hl hl2 hcap hs
  rw [hK] at hO
  go_enter Tryz.func14, Tryz.ntmps14
  go_wp2_with fail
  try rw [hW2]
  refine hO.mono ?_
  clear hW2 hO
  rintro e w1 ⟨rfl, hb1⟩
  have e0 := (hb1.cell (L0 0)).trans c0
  have e1 := (hb1.cell (L0 1)).trans c1
  have hb01 := hb0.trans (hb1.mono hb0.size)
  have H2 := copyKnown_is a9 b9 ca cb xs ks w1 (hr.later hb01) (hq.later hb01) hl hl2 hs
  go_wp2_with fail
  refine H2.mono ?_
  clear H2
  rintro e w2 ⟨v, rfl, ⟨a, b, ka, kb, rfl, ho, hp⟩, hb2⟩
  obtain ⟨W3, hW3⟩ : ∃ W3, w2.alloc (.cells #[.slice a xs.length ka, .slice b ks.length kb] 27) = W3 := ⟨_, rfl⟩
  have hb3 : Below w2.heap.size w2 W3 := by rw [← hW3]; exact (Below.refl _ _).alloc (Nat.le_refl _) _
  have hz3 : Hid (W3.heap.size = w2.heap.size + 1) := by show W3.heap.size = w2.heap.size + 1; rw [← hW3]; simp
  have m0 : W3.cell? ⟨w2.heap.size, 0, none⟩ = some (.slice a xs.length ka) := by rw [← hW3]; simp [go_sem]
  have m1 : W3.cell? ⟨w2.heap.size, 1, none⟩ = some (.slice b ks.length kb) := by rw [← hW3]; simp [go_sem]
  have n1 : W3.frozen? ⟨w2.heap.size, 1, none⟩ = false := by rw [← hW3]; simp [go_sem]
  have L3 : ∀ o, (⟨w2.heap.size, o, none⟩ : Addr).block < W3.heap.size := fun o => by have := hz3.out; show w2.heap.size < _; omega
  have hlt1 : ∀ k, (Value.slice a xs.length ka).ownBlock = some k → k < w2.heap.size := fun k hk => (ho.lt k hk).2
  have hlt2 : ∀ k, (Value.slice b ks.length kb).ownBlock = some k → k < w2.heap.size := fun k hk => (hp.lt k hk).2
  have hb13 : Below W2.heap.size W2 W3 := (hb1.trans (hb2.mono hb1.size)).trans (hb3.mono (Nat.le_trans hb1.size hb2.size))
  have hM : Hid (w.heap.size + 2 ≤ w2.heap.size) := by have h1 := hz.out; have h2 := hb1.size; have h3 := hb2.size; show w.heap.size + 2 ≤ w2.heap.size; omega
  clear e0 e1
  have e1 := (hb13.cell (L0 1)).trans c1
  have hb03 := hb0.trans (hb13.mono hb0.size)
  have H4 := bin_is b9 cb ks x W3 (hq.later hb03) hl2 hpw
  rw [hH] at H4
  obtain ⟨nn, hnn⟩ : ∃ nn, ks.countP (· < x) = nn := ⟨_, rfl⟩
  have hNl : nn ≤ ks.length := by rw [← hnn]; exact List.countP_le_length
  have HNN : Hid (ks.countP (· < x) = nn) := hnn
  rw [hnn] at H4
  clear hnn
  go_wp2_with fail
  try rw [hW3]
  refine H4.mono ?_
  clear hW3 H4
  rintro e w4 ⟨rfl, hb4⟩
  have hb14 : Below W2.heap.size W2 w4 := hb13.trans (hb4.mono hb13.size)
  clear e1
  have e1 := (hb14.cell (L0 1)).trans c1
  have p0 := (hb4.cell (L3 0)).trans m0
  have p1 := (hb4.cell (L3 1)).trans m1
  have p2 := (hb4.frozen (L3 1)).trans n1
  have d2 := (hb14.cell (L1 0)).trans c2
  have d3 := (hb14.cell (L1 1)).trans c3
  have x2 := (hb14.frozen (L1 0)).trans f2
  have x3 := (hb14.frozen (L1 1)).trans f3
  have ho4 := own_later (own_later ho hb3) hb4
  have hp4 := own_later (own_later hp hb3) hb4
  have HI := keyOk_is x w4
  rw [hR] at HI
  have FF := FIN.out w4 _ _ xs ks hb14 (KeepK.base ⟨a, b, ka, kb, rfl, ho4, hp4⟩ hb1.size)
  clear ho hp ho4 hp4 hb13 hb14 hb3 hb4 hb2 m0 m1 n1
  go_wp2_with fail
  refine HI.mono ?_
  rintro e w5 ⟨rfl, rfl⟩
  go_wp2
  refine bodyPost_ret (res_two rfl _ _ (w.heap.size + 1) _ _ rfl FF.1 FF.2.1) rfl ⟨_, rfl, FF.2.2.1, FF.2.2.2⟩

set_option maxRecDepth 100000 in
set_option maxHeartbeats 3200000 in
theorem impl_learnKey_yes (a9 b9 : Option Addr) (ca cb : Nat) (xs : List ByteArray) (ks : List Int) (x : Int) (w : World) (hr : RowAt Value.string w a9 xs) (hq : RowAt (Value.int .i64) w b9 ks) (hl : xs.length ≤ 1048576) (hl2 : ks.length ≤ 1048576) (hcap : xs.length ≤ ca) (hs : ∀ x ∈ xs, x.size ≤ 1048576) (hK : kOk xs ks = true) (hH : hasB ks x = false) (hR : (decide (1 ≤ x) && decide (x ≤ 1000000)) = true) (h40 : ks.length < 40) :
    Calls Tryz.prog 14 #[.agg #[.slice a9 xs.length ca, .slice b9 ks.length cb], .int .i64 x] w fun e w' => ∃ v, e = .returned v ∧ KeepK w.heap.size w' v xs (putL ks x) ∧ Below w.heap.size w w' := by
  have hpw := pair_of (kOk_keys hK)
  have h40' : (ks.length : Int) < 40 := by omega
  have hx : ¬ x ∈ ks := fun c => by rw [(hasB_iff ks x).2 c] at hH; cases hH
  have hput := putL_at hpw hx
  obtain ⟨W2, hW2⟩ : ∃ W2, (w.alloc (.cells #[.slice a9 xs.length ca, .slice b9 ks.length cb] 27)).alloc (.cells #[.slice none 0 0, .slice none 0 0] 27) = W2 := ⟨_, rfl⟩
  have hb0 : Below w.heap.size w W2 := by rw [← hW2]; exact ((Below.refl _ _).alloc (Nat.le_refl _) _).alloc (by simp) _
  have hz : Hid (W2.heap.size = w.heap.size + 2) := by show W2.heap.size = w.heap.size + 2; rw [← hW2]; simp
  have c0 : W2.cell? ⟨w.heap.size, 0, none⟩ = some (.slice a9 xs.length ca) := by rw [← hW2]; simp [go_sem]
  have c1 : W2.cell? ⟨w.heap.size, 1, none⟩ = some (.slice b9 ks.length cb) := by rw [← hW2]; simp [go_sem]
  have c2 : W2.cell? ⟨w.heap.size + 1, 0, none⟩ = some (.slice none 0 0) := by rw [← hW2]; simp [go_sem]
  have c3 : W2.cell? ⟨w.heap.size + 1, 1, none⟩ = some (.slice none 0 0) := by rw [← hW2]; simp [go_sem]
  have f2 : W2.frozen? ⟨w.heap.size + 1, 0, none⟩ = false := by rw [← hW2]; simp [go_sem]
  have f3 : W2.frozen? ⟨w.heap.size + 1, 1, none⟩ = false := by rw [← hW2]; simp [go_sem]
  have L0 : ∀ o, (⟨w.heap.size, o, none⟩ : Addr).block < W2.heap.size := fun o => by have := hz.out; show w.heap.size < _; omega
  have L1 : ∀ o, (⟨w.heap.size + 1, o, none⟩ : Addr).block < W2.heap.size := fun o => by have := hz.out; show w.heap.size + 1 < _; omega
  have FIN : Hid (∀ (W : World) (v0 v1 : Value) (X : List ByteArray) (Y : List Int), Below W2.heap.size W2 W → KeepK W2.heap.size W (.agg #[v0, v1]) X Y → ((W.setCell ⟨w.heap.size + 1, 0, none⟩ v0).setCell ⟨w.heap.size + 1, 1, none⟩ v1).cell? ⟨w.heap.size + 1, 0, none⟩ = some v0 ∧ ((W.setCell ⟨w.heap.size + 1, 0, none⟩ v0).setCell ⟨w.heap.size + 1, 1, none⟩ v1).cell? ⟨w.heap.size + 1, 1, none⟩ = some v1 ∧ KeepK w.heap.size ((W.setCell ⟨w.heap.size + 1, 0, none⟩ v0).setCell ⟨w.heap.size + 1, 1, none⟩ v1) (.agg #[v0, v1]) X Y ∧ Below w.heap.size w ((W.setCell ⟨w.heap.size + 1, 0, none⟩ v0).setCell ⟨w.heap.size + 1, 1, none⟩ v1)) := by
    intro W v0 v1 X Y hB hK
    have d2 := (hB.cell (L1 0)).trans c2
    have d3 := (hB.cell (L1 1)).trans c3
    have hb5 := hb0.trans (hB.mono hb0.size)
    refine ⟨?_, ?_, ((hK.setCell (L1 0) _).setCell (L1 1) _).base hb0.size, (hb5.setCell (by show w.heap.size ≤ w.heap.size + 1; omega) _).setCell (by show w.heap.size ≤ w.heap.size + 1; omega) _⟩
    · rw [World.cell?_setCell_other _ _ _ _ (by simp)]
      exact World.cell?_setCell_same' _ _ _ (by rw [d2]; rfl)
    · exact World.cell?_setCell_same' _ _ _ (by rw [World.cell?_setCell_other _ _ _ _ (by simp), d3]; rfl)
  have hO := impl_knownOk a9 b9 ca cb xs ks W2 (hr.later hb0) (hq.later hb0) hl hl2 hcap hs
  rw [hK] at hO
  go_enter Tryz.func14, Tryz.ntmps14
  go_wp2_with fail
  try rw [hW2]
  refine hO.mono ?_
  clear hW2 hO
  rintro e w1 ⟨rfl, hb1⟩
  have e0 := (hb1.cell (L0 0)).trans c0
  have e1 := (hb1.cell (L0 1)).trans c1
  have hb01 := hb0.trans (hb1.mono hb0.size)
  have H2 := copyKnown_is a9 b9 ca cb xs ks w1 (hr.later hb01) (hq.later hb01) hl hl2 hs
  go_wp2_with fail
  refine H2.mono ?_
  clear H2
  rintro e w2 ⟨v, rfl, ⟨a, b, ka, kb, rfl, ho, hp⟩, hb2⟩
  obtain ⟨W3, hW3⟩ : ∃ W3, w2.alloc (.cells #[.slice a xs.length ka, .slice b ks.length kb] 27) = W3 := ⟨_, rfl⟩
  have hb3 : Below w2.heap.size w2 W3 := by rw [← hW3]; exact (Below.refl _ _).alloc (Nat.le_refl _) _
  have hz3 : Hid (W3.heap.size = w2.heap.size + 1) := by show W3.heap.size = w2.heap.size + 1; rw [← hW3]; simp
  have m0 : W3.cell? ⟨w2.heap.size, 0, none⟩ = some (.slice a xs.length ka) := by rw [← hW3]; simp [go_sem]
  have m1 : W3.cell? ⟨w2.heap.size, 1, none⟩ = some (.slice b ks.length kb) := by rw [← hW3]; simp [go_sem]
  have n1 : W3.frozen? ⟨w2.heap.size, 1, none⟩ = false := by rw [← hW3]; simp [go_sem]
  have L3 : ∀ o, (⟨w2.heap.size, o, none⟩ : Addr).block < W3.heap.size := fun o => by have := hz3.out; show w2.heap.size < _; omega
  have hlt1 : ∀ k, (Value.slice a xs.length ka).ownBlock = some k → k < w2.heap.size := fun k hk => (ho.lt k hk).2
  have hlt2 : ∀ k, (Value.slice b ks.length kb).ownBlock = some k → k < w2.heap.size := fun k hk => (hp.lt k hk).2
  have hb13 : Below W2.heap.size W2 W3 := (hb1.trans (hb2.mono hb1.size)).trans (hb3.mono (Nat.le_trans hb1.size hb2.size))
  have hM : Hid (w.heap.size + 2 ≤ w2.heap.size) := by have h1 := hz.out; have h2 := hb1.size; have h3 := hb2.size; show w.heap.size + 2 ≤ w2.heap.size; omega
  clear e0 e1
  have e1 := (hb13.cell (L0 1)).trans c1
  have hb03 := hb0.trans (hb13.mono hb0.size)
  have H4 := bin_is b9 cb ks x W3 (hq.later hb03) hl2 hpw
  rw [hH] at H4
  obtain ⟨nn, hnn⟩ : ∃ nn, ks.countP (· < x) = nn := ⟨_, rfl⟩
  have hNl : nn ≤ ks.length := by rw [← hnn]; exact List.countP_le_length
  have HNN : Hid (ks.countP (· < x) = nn) := hnn
  rw [hnn] at H4
  clear hnn
  go_wp2_with fail
  try rw [hW3]
  refine H4.mono ?_
  clear hW3 H4
  rintro e w4 ⟨rfl, hb4⟩
  have hb14 : Below W2.heap.size W2 w4 := hb13.trans (hb4.mono hb13.size)
  clear e1
  have e1 := (hb14.cell (L0 1)).trans c1
  have p0 := (hb4.cell (L3 0)).trans m0
  have p1 := (hb4.cell (L3 1)).trans m1
  have p2 := (hb4.frozen (L3 1)).trans n1
  have d2 := (hb14.cell (L1 0)).trans c2
  have d3 := (hb14.cell (L1 1)).trans c3
  have x2 := (hb14.frozen (L1 0)).trans f2
  have x3 := (hb14.frozen (L1 1)).trans f3
  have ho4 := own_later (own_later ho hb3) hb4
  have hp4 := own_later (own_later hp hb3) hb4
  have HI := keyOk_is x w4
  rw [hR] at HI
  rw [HNN.out] at hput
  have HPUT : Hid (putL ks x = ks.take nn ++ x :: ks.drop nn) := hput
  clear hput
  have h14s : w1.heap.size ≤ w4.heap.size := Nat.le_trans hb2.size (Nat.le_trans hb3.size hb4.size)
  have Hins := ins_is w1.heap.size b kb nn ks x w4 hp4 hl2 hNl h14s
  rw [← HPUT.out] at Hins
  go_wp2_with fail
  refine HI.mono ?_
  clear HI
  rintro e w5 ⟨rfl, rfl⟩
  go_wp2_with fail
  refine Hins.mono ?_
  clear Hins
  rintro e w6 ⟨v', rfl, hown', hgrow, hloc⟩
  have hz6 : Hid (w2.heap.size + 1 ≤ w4.heap.size) := by have h1 := hz3.out; have h2 := hb4.size; show w2.heap.size + 1 ≤ w4.heap.size; omega
  have hk6 : ∀ k, k < w2.heap.size + 1 → (Value.slice b ks.length kb).ownBlock ≠ some k → w6.heap[k]? = w4.heap[k]? := fun k h1 h2 =>
    (hgrow.block k (by have := hz6.out; simp; omega) (fun e => h2 e.symm)).trans (Below.heap_alloc w4 _ k (by have := hz6.out; omega))
  have nM : (Value.slice b ks.length kb).ownBlock ≠ some w2.heap.size := fun e => absurd (hlt2 _ e) (by omega)
  have nM1 : (Value.slice a xs.length ka).ownBlock ≠ some w2.heap.size := fun e => absurd (hlt1 _ e) (by omega)
  have r0 : w6.cell? ⟨w2.heap.size, 0, none⟩ = some (.slice a xs.length ka) := (World.cell?_of_block (w := w4) (a := ⟨w2.heap.size, 0, none⟩) (hk6 w2.heap.size (by omega) nM)).trans p0
  have r1 : w6.cell? ⟨w2.heap.size, 1, none⟩ = some (.slice b ks.length kb) := (World.cell?_of_block (w := w4) (a := ⟨w2.heap.size, 1, none⟩) (hk6 w2.heap.size (by omega) nM)).trans p1
  have r2 : w6.frozen? ⟨w2.heap.size, 1, none⟩ = false := (World.frozen?_of_block (w := w4) (a := ⟨w2.heap.size, 1, none⟩) (hk6 w2.heap.size (by omega) nM)).trans p2
  have ho6 := World.ownsRow.kept (ho4.alloc (.cells #[.int .i64 x] 3)) hgrow (own_ne ho hp)
  have hne : v'.ownBlock ≠ some w2.heap.size := by
    intro e
    rcases hloc with h | h
    · rw [h] at e; exact nM e
    · rw [h] at e
      have := hz6.out
      simp at e
      omega
  have hbW : Below w1.heap.size w1 w4 := (hb2.trans (hb3.mono hb2.size)).trans (hb4.mono (Nat.le_trans hb2.size hb3.size))
  have hb16 : Below w1.heap.size w1 w6 := below_app hbW (Nat.le_refl _) hp4 hgrow
  have hbX : Below W2.heap.size W2 w6 := hb1.trans (hb16.mono hb1.size)
  have hln : ks.length + 1 = (putL ks x).length := (putL_len ks x).symm
  rw [hln] at hown'
  obtain ⟨b2, kb2, rfl, _, _⟩ := own_row hown'
  have hS6 := own_setCell ho6 ⟨w2.heap.size, 1, none⟩ (.slice b2 (putL ks x).length kb2) nM1
  have hT6 := own_setCell hown' ⟨w2.heap.size, 1, none⟩ (.slice b2 (putL ks x).length kb2) hne
  have hbY : Below W2.heap.size W2 (w6.setCell ⟨w2.heap.size, 1, none⟩ (.slice b2 (putL ks x).length kb2)) := hbX.setCell (by have h1 := hM.out; have h2 := hz.out; show W2.heap.size ≤ w2.heap.size; omega) _
  have FF := FIN.out _ _ _ xs (putL ks x) hbY (KeepK.base ⟨a, b2, ka, kb2, rfl, hS6, hT6⟩ hb1.size)
  have s2 := (hbX.cell (L1 0)).trans c2
  have s3 := (hbX.cell (L1 1)).trans c3
  have t2 := (hbX.frozen (L1 0)).trans f2
  have t3 := (hbX.frozen (L1 1)).trans f3
  have neq : Hid (w2.heap.size ≠ w.heap.size + 1) := by have h1 := hM.out; show w2.heap.size ≠ w.heap.size + 1; omega
  clear hS6 hT6 hbY hbX hb16 hbW hne hown' hgrow hloc ho6 hk6 nM nM1 ho4 hp4 ho hp d2 d3 x2 x3 p0 p1 p2 e1 m0 m1 n1 hb4 hb13 hb14 hb3 hb2 hln HPUT HNN
  generalize (putL ks x).length = mm at *
  have neq' := neq.out
  have k0 : (w6.setCell ⟨w2.heap.size, 1, none⟩ (.slice b2 mm kb2)).cell? ⟨w2.heap.size, 0, none⟩ = some (.slice a xs.length ka) := by rw [World.cell?_setCell_other _ _ _ _ (by simp)]; exact r0
  have k1 : (w6.setCell ⟨w2.heap.size, 1, none⟩ (.slice b2 mm kb2)).cell? ⟨w2.heap.size, 1, none⟩ = some (.slice b2 mm kb2) := World.cell?_setCell_same' _ _ _ (by rw [r1]; rfl)
  have k2 : (w6.setCell ⟨w2.heap.size, 1, none⟩ (.slice b2 mm kb2)).cell? ⟨w.heap.size + 1, 0, none⟩ = some (.slice none 0 0) := by rw [World.cell?_setCell_other _ _ _ _ (by intro e; simp at e)]; exact s2
  have k3 : (w6.setCell ⟨w2.heap.size, 1, none⟩ (.slice b2 mm kb2)).cell? ⟨w.heap.size + 1, 1, none⟩ = some (.slice none 0 0) := by rw [World.cell?_setCell_other _ _ _ _ (by intro e; first | (simp at e; done) | (simp at e; omega))]; exact s3
  have k4 : (w6.setCell ⟨w2.heap.size, 1, none⟩ (.slice b2 mm kb2)).frozen? ⟨w.heap.size + 1, 0, none⟩ = false := by rw [World.frozen?_setCell]; exact t2
  have k5 : (w6.setCell ⟨w2.heap.size, 1, none⟩ (.slice b2 mm kb2)).frozen? ⟨w.heap.size + 1, 1, none⟩ = false := by rw [World.frozen?_setCell]; exact t3
  obtain ⟨W7, hW7⟩ : ∃ W7, w6.setCell ⟨w2.heap.size, 1, none⟩ (.slice b2 mm kb2) = W7 := ⟨_, rfl⟩
  rw [hW7] at k0 k1 k2 k3 k4 k5 FF
  clear s2 s3 t2 t3
  go_wp2
  try rw [hW7]
  refine bodyPost_ret (res_two rfl _ _ (w.heap.size + 1) _ _ rfl FF.1 FF.2.1) rfl ⟨_, rfl, FF.2.2.1, FF.2.2.2⟩

theorem impl_learnKey (a9 b9 : Option Addr) (ca cb : Nat) (xs : List ByteArray) (ks : List Int) (x : Int) (w : World) (hr : RowAt Value.string w a9 xs) (hq : RowAt (Value.int .i64) w b9 ks) (hl : xs.length ≤ 1048576) (hl2 : ks.length ≤ 1048576) (hcap : xs.length ≤ ca) (hs : ∀ x ∈ xs, x.size ≤ 1048576) :
    Calls Tryz.prog 14 #[.agg #[.slice a9 xs.length ca, .slice b9 ks.length cb], .int .i64 x] w fun e w' => ∃ v, e = .returned v ∧ KeepK w.heap.size w' v (lrkT xs ks) (lrkK xs ks x) ∧ Below w.heap.size w w' := by
  unfold lrkT lrkK
  cases hK : kOk xs ks with
  | false =>
    simp only [Bool.false_eq_true, if_false]
    exact impl_learnKey_bad a9 b9 ca cb xs ks x w hr hq hl hl2 hcap hs hK
  | true =>
    simp only [if_true]
    unfold putK
    cases hR : (decide (1 ≤ x) && decide (x ≤ 1000000)) with
    | false =>
      rw [if_neg (by simp)]
      exact impl_learnKey_no1 a9 b9 ca cb xs ks x w hr hq hl hl2 hcap hs hK _ rfl hR
    | true =>
      cases hH : hasB ks x with
      | true =>
        rw [if_neg (by simp)]
        exact impl_learnKey_no2 a9 b9 ca cb xs ks x w hr hq hl hl2 hcap hs hK hH hR
      | false =>
        by_cases h40 : ks.length < 40
        · rw [if_pos ⟨rfl, rfl, h40⟩]
          exact impl_learnKey_yes a9 b9 ca cb xs ks x w hr hq hl hl2 hcap hs hK hH hR h40
        · rw [if_neg (fun c => h40 c.2.2)]
          exact impl_learnKey_no3 a9 b9 ca cb xs ks x w hr hq hl hl2 hcap hs hK hH hR h40
theorem lrk_len (xs : List ByteArray) (ks : List Int) (x : Int) : (lrkT xs ks).length ≤ 1048576 ∧ (lrkK xs ks x).length ≤ 1048576 := by
  unfold lrkT lrkK
  cases hK : kOk xs ks with
  | false => simp
  | true =>
    have := kOk_len hK
    simp only [if_true]
    unfold putK
    split
    · rw [putL_len]; omega
    · omega
end Go.Proofs.YtkekfogepdhjhaaGreat
