/- With one more key: the model. -/
import Derived.Test.YtkekfogepdhjhaaKeys
set_option linter.unusedVariables false
namespace Go.Proofs.Ytkekfogepdhjhaa
open Go.RowKit Own Var Term

def putK (ks : List Int) (x : Int) : List Int := if (decide (1 ≤ x) && decide (x ≤ 1000000)) = true ∧ hasB ks x = false ∧ ks.length < 40 then putL ks x else ks
/-- What LearnKey answers: its terms, its keys. -/
def lrkT (xs : List ByteArray) (ks : List Int) : List ByteArray := if kOk xs ks = true then xs else []
def lrkK (xs : List ByteArray) (ks : List Int) (x : Int) : List Int := if kOk xs ks = true then putK ks x else []
theorem row_own3' {w : World} {B : Nat} {a : Option Addr} {c : Nat} {xs : List Int} (h : w.ownsRow B 3 1 (.slice a xs.length c) xs.length (intV xs)) : RowAt (Value.int .i64) w a xs := by
  obtain ⟨a', c', e, _, hr⟩ := own_row h
  simp only [Value.slice.injEq] at e
  rw [e.1]; exact hr
theorem fin_two {W : World} {p : Nat} {u0 u1 v0 v1 : Value} (h0 : W.cell? ⟨p, 0, none⟩ = some u0) (h1 : W.cell? ⟨p, 1, none⟩ = some u1) :
    ((W.setCell ⟨p, 0, none⟩ v0).setCell ⟨p, 1, none⟩ v1).cell? ⟨p, 0, none⟩ = some v0 ∧ ((W.setCell ⟨p, 0, none⟩ v0).setCell ⟨p, 1, none⟩ v1).cell? ⟨p, 1, none⟩ = some v1 := by
  refine ⟨?_, ?_⟩
  · rw [World.cell?_setCell_other _ _ _ _ (by simp)]
    exact World.cell?_setCell_same' _ _ _ (by rw [h0]; rfl)
  · exact World.cell?_setCell_same' _ _ _ (by rw [World.cell?_setCell_other _ _ _ _ (by simp), h1]; rfl)

set_option maxRecDepth 100000 in
set_option maxHeartbeats 3200000 in
theorem spec_learnKey_bad (g1 o1 g2 o2 ca cb : Nat) (xs : List ByteArray) (ks : List Int) (x : Int) (w : World) (hr : RowAt Value.string w (some ⟨g1, o1, none⟩) xs) (hq : RowAt (Value.int .i64) w (some ⟨g2, o2, none⟩) ks) (hl : xs.length ≤ 1048576) (hl2 : ks.length ≤ 1048576) (hcap : xs.length ≤ ca) (hs : ∀ x ∈ xs, x.size ≤ 1048576) (hK : kOk xs ks = false) :
    Calls Try.prog 30 #[.agg #[.slice (some ⟨g1, o1, none⟩) xs.length ca, .slice (some ⟨g2, o2, none⟩) ks.length cb], .int .i64 x] w fun e w' => ∃ v, e = .returned v ∧ KeepK w.heap.size w' v [] [] ∧ Below w.heap.size w w' := by
  obtain ⟨W2, hW2⟩ : ∃ W2, (w.alloc (.cells #[.slice (some ⟨g1, o1, none⟩) xs.length ca, .slice (some ⟨g2, o2, none⟩) ks.length cb] 27)).alloc (.cells #[.slice none 0 0, .slice none 0 0] 27) = W2 := ⟨_, rfl⟩
  have hb0 : Below w.heap.size w W2 := by rw [← hW2]; exact ((Below.refl _ _).alloc (Nat.le_refl _) _).alloc (by simp) _
  have hz : Hid (W2.heap.size = w.heap.size + 2) := by show W2.heap.size = w.heap.size + 2; rw [← hW2]; simp
  have c0 : W2.cell? ⟨w.heap.size, 0, none⟩ = some (.slice (some ⟨g1, o1, none⟩) xs.length ca) := by rw [← hW2]; simp [go_sem]
  have c1 : W2.cell? ⟨w.heap.size, 1, none⟩ = some (.slice (some ⟨g2, o2, none⟩) ks.length cb) := by rw [← hW2]; simp [go_sem]
  have c2 : W2.cell? ⟨w.heap.size + 1, 0, none⟩ = some (.slice none 0 0) := by rw [← hW2]; simp [go_sem]
  have c3 : W2.cell? ⟨w.heap.size + 1, 1, none⟩ = some (.slice none 0 0) := by rw [← hW2]; simp [go_sem]
  have f0 : W2.frozen? ⟨w.heap.size, 0, none⟩ = false := by rw [← hW2]; simp [go_sem]
  have f1 : W2.frozen? ⟨w.heap.size, 1, none⟩ = false := by rw [← hW2]; simp [go_sem]
  have f2 : W2.frozen? ⟨w.heap.size + 1, 0, none⟩ = false := by rw [← hW2]; simp [go_sem]
  have f3 : W2.frozen? ⟨w.heap.size + 1, 1, none⟩ = false := by rw [← hW2]; simp [go_sem]
  have L0 : ∀ o, (⟨w.heap.size, o, none⟩ : Addr).block < W2.heap.size := fun o => by have := hz.out; show w.heap.size < _; omega
  have L1 : ∀ o, (⟨w.heap.size + 1, o, none⟩ : Addr).block < W2.heap.size := fun o => by have := hz.out; show w.heap.size + 1 < _; omega
  have hO := spec_knownOk (some ⟨g1, o1, none⟩) (some ⟨g2, o2, none⟩) ca cb xs ks W2 (hr.later hb0) (hq.later hb0) hl hl2 hcap hs
  rw [hK] at hO
  go_enter Try.func30, Try.ntmps30
  go_wp2_with fail
  try rw [hW2]
  refine hO.mono ?_
  clear hW2 hO
  rintro e w1 ⟨rfl, hb1⟩
  have d2 := (hb1.cell (L1 0)).trans c2
  have d3 := (hb1.cell (L1 1)).trans c3
  have x2 := (hb1.frozen (L1 0)).trans f2
  have x3 := (hb1.frozen (L1 1)).trans f3
  have hb01 := hb0.trans (hb1.mono hb0.size)
  have FF := fin_two (v0 := .slice none 0 0) (v1 := .slice none 0 0) d2 d3
  have HBF : Below w.heap.size w ((w1.setCell ⟨w.heap.size + 1, 0, none⟩ (.slice none 0 0)).setCell ⟨w.heap.size + 1, 1, none⟩ (.slice none 0 0)) := (hb01.setCell (by show w.heap.size ≤ w.heap.size + 1; omega) _).setCell (by show w.heap.size ≤ w.heap.size + 1; omega) _
  go_wp2
  refine bodyPost_ret (res_two rfl _ _ (w.heap.size + 1) _ _ rfl FF.1 FF.2) rfl ⟨_, rfl, keep_nil _ _, HBF⟩

set_option maxRecDepth 100000 in
set_option maxHeartbeats 3200000 in
theorem spec_learnKey_no1 (g1 o1 g2 o2 ca cb : Nat) (xs : List ByteArray) (ks : List Int) (x : Int) (w : World) (hr : RowAt Value.string w (some ⟨g1, o1, none⟩) xs) (hq : RowAt (Value.int .i64) w (some ⟨g2, o2, none⟩) ks) (hl : xs.length ≤ 1048576) (hl2 : ks.length ≤ 1048576) (hcap : xs.length ≤ ca) (hs : ∀ x ∈ xs, x.size ≤ 1048576) (hK : kOk xs ks = true) (hR : (decide (1 ≤ x) && decide (x ≤ 1000000)) = false) :
    Calls Try.prog 30 #[.agg #[.slice (some ⟨g1, o1, none⟩) xs.length ca, .slice (some ⟨g2, o2, none⟩) ks.length cb], .int .i64 x] w fun e w' => ∃ v, e = .returned v ∧ KeepK w.heap.size w' v xs ks ∧ Below w.heap.size w w' := by
  obtain ⟨W2, hW2⟩ : ∃ W2, (w.alloc (.cells #[.slice (some ⟨g1, o1, none⟩) xs.length ca, .slice (some ⟨g2, o2, none⟩) ks.length cb] 27)).alloc (.cells #[.slice none 0 0, .slice none 0 0] 27) = W2 := ⟨_, rfl⟩
  have hb0 : Below w.heap.size w W2 := by rw [← hW2]; exact ((Below.refl _ _).alloc (Nat.le_refl _) _).alloc (by simp) _
  have hz : Hid (W2.heap.size = w.heap.size + 2) := by show W2.heap.size = w.heap.size + 2; rw [← hW2]; simp
  have c0 : W2.cell? ⟨w.heap.size, 0, none⟩ = some (.slice (some ⟨g1, o1, none⟩) xs.length ca) := by rw [← hW2]; simp [go_sem]
  have c1 : W2.cell? ⟨w.heap.size, 1, none⟩ = some (.slice (some ⟨g2, o2, none⟩) ks.length cb) := by rw [← hW2]; simp [go_sem]
  have c2 : W2.cell? ⟨w.heap.size + 1, 0, none⟩ = some (.slice none 0 0) := by rw [← hW2]; simp [go_sem]
  have c3 : W2.cell? ⟨w.heap.size + 1, 1, none⟩ = some (.slice none 0 0) := by rw [← hW2]; simp [go_sem]
  have f0 : W2.frozen? ⟨w.heap.size, 0, none⟩ = false := by rw [← hW2]; simp [go_sem]
  have f1 : W2.frozen? ⟨w.heap.size, 1, none⟩ = false := by rw [← hW2]; simp [go_sem]
  have f2 : W2.frozen? ⟨w.heap.size + 1, 0, none⟩ = false := by rw [← hW2]; simp [go_sem]
  have f3 : W2.frozen? ⟨w.heap.size + 1, 1, none⟩ = false := by rw [← hW2]; simp [go_sem]
  have L0 : ∀ o, (⟨w.heap.size, o, none⟩ : Addr).block < W2.heap.size := fun o => by have := hz.out; show w.heap.size < _; omega
  have L1 : ∀ o, (⟨w.heap.size + 1, o, none⟩ : Addr).block < W2.heap.size := fun o => by have := hz.out; show w.heap.size + 1 < _; omega
  have hO := spec_knownOk (some ⟨g1, o1, none⟩) (some ⟨g2, o2, none⟩) ca cb xs ks W2 (hr.later hb0) (hq.later hb0) hl hl2 hcap hs
  rw [hK] at hO
  go_enter Try.func30, Try.ntmps30
  go_wp2_with fail
  try rw [hW2]
  refine hO.mono ?_
  clear hW2 hO
  rintro e w1 ⟨rfl, hb1⟩
  have e0 := (hb1.cell (L0 0)).trans c0
  have e1 := (hb1.cell (L0 1)).trans c1
  have hb01 := hb0.trans (hb1.mono hb0.size)
  have H2 := l3Copy_is g1 o1 g2 o2 ca cb xs ks w1 (hr.later hb01) (hq.later hb01) hl hl2
  go_wp2_with fail
  refine H2.mono ?_
  clear H2 e0 e1
  rintro e w2 ⟨v, rfl, ⟨a, b, ka, kb, rfl, ho, hp⟩, hb2⟩
  have hb12 : Below W2.heap.size W2 w2 := hb1.trans (hb2.mono hb1.size)
  have hb02 := hb0.trans (hb12.mono hb0.size)
  have y0 := (hb12.cell (L0 0)).trans c0
  have y1 := (hb12.cell (L0 1)).trans c1
  have y2 := (hb12.frozen (L0 0)).trans f0
  have y3 := (hb12.frozen (L0 1)).trans f1
  obtain ⟨W3, hW3⟩ : ∃ W3, (w2.setCell ⟨w.heap.size, 0, none⟩ (.slice a xs.length ka)).setCell ⟨w.heap.size, 1, none⟩ (.slice b ks.length kb) = W3 := ⟨_, rfl⟩
  obtain ⟨m0, m1⟩ : W3.cell? ⟨w.heap.size, 0, none⟩ = some (.slice a xs.length ka) ∧ W3.cell? ⟨w.heap.size, 1, none⟩ = some (.slice b ks.length kb) := by rw [← hW3]; exact fin_two y0 y1
  have d2 : W3.cell? ⟨w.heap.size + 1, 0, none⟩ = some (.slice none 0 0) := by rw [← hW3, World.cell?_setCell_other _ _ _ _ (by simp), World.cell?_setCell_other _ _ _ _ (by simp)]; exact (hb12.cell (L1 0)).trans c2
  have d3 : W3.cell? ⟨w.heap.size + 1, 1, none⟩ = some (.slice none 0 0) := by rw [← hW3, World.cell?_setCell_other _ _ _ _ (by simp), World.cell?_setCell_other _ _ _ _ (by simp)]; exact (hb12.cell (L1 1)).trans c3
  have x1 : W3.frozen? ⟨w.heap.size, 1, none⟩ = false := by rw [← hW3, World.frozen?_setCell, World.frozen?_setCell]; exact y3
  have x2 : W3.frozen? ⟨w.heap.size + 1, 0, none⟩ = false := by rw [← hW3, World.frozen?_setCell, World.frozen?_setCell]; exact (hb12.frozen (L1 0)).trans f2
  have x3 : W3.frozen? ⟨w.heap.size + 1, 1, none⟩ = false := by rw [← hW3, World.frozen?_setCell, World.frozen?_setCell]; exact (hb12.frozen (L1 1)).trans f3
  have hb03 : Below w.heap.size w W3 := by rw [← hW3]; exact (hb02.setCell (Nat.le_refl _) _).setCell (Nat.le_refl _) _
  have l01 : ∀ o, (⟨w.heap.size, o, none⟩ : Addr).block < w1.heap.size := fun o => Nat.lt_of_lt_of_le (L0 o) hb1.size
  have l11 : ∀ o, (⟨w.heap.size + 1, o, none⟩ : Addr).block < w1.heap.size := fun o => Nat.lt_of_lt_of_le (L1 o) hb1.size
  have ho3 : W3.ownsRow w1.heap.size 9 1 (.slice a xs.length ka) xs.length (strV xs) := by rw [← hW3]; exact ownsRow_setCell_below (ownsRow_setCell_below ho (l01 0) _) (l01 1) _
  have hp3 : W3.ownsRow w1.heap.size 3 1 (.slice b ks.length kb) ks.length (intV ks) := by rw [← hW3]; exact ownsRow_setCell_below (ownsRow_setCell_below hp (l01 0) _) (l01 1) _
  have hI := in_is x 1 1000000 W3
  have hz3 : Hid (w1.heap.size ≤ W3.heap.size) := by show w1.heap.size ≤ W3.heap.size; rw [← hW3]; simpa using hb2.size
  rw [hR] at hI
  have FF := fin_two (v0 := .slice a xs.length ka) (v1 := .slice b ks.length kb) d2 d3
  have HK : KeepK w.heap.size ((W3.setCell ⟨w.heap.size + 1, 0, none⟩ (.slice a xs.length ka)).setCell ⟨w.heap.size + 1, 1, none⟩ (.slice b ks.length kb)) (.agg #[.slice a xs.length ka, .slice b ks.length kb]) xs ks := KeepK.base (KeepK.setCell (KeepK.setCell ⟨a, b, ka, kb, rfl, ho3, hp3⟩ (l11 0) _) (l11 1) _) hb01.size
  have HBF : Below w.heap.size w ((W3.setCell ⟨w.heap.size + 1, 0, none⟩ (.slice a xs.length ka)).setCell ⟨w.heap.size + 1, 1, none⟩ (.slice b ks.length kb)) := (hb03.setCell (by show w.heap.size ≤ w.heap.size + 1; omega) _).setCell (by show w.heap.size ≤ w.heap.size + 1; omega) _
  clear ho hp ho3 hp3 hb12 hb02 hb2 hb03
  go_wp2_with fail
  try rw [hW3]
  refine hI.mono ?_
  clear hW3 hI y0 y1 y2 y3
  rintro e w4 ⟨rfl, rfl⟩
  go_wp2
  refine bodyPost_ret (res_two rfl _ _ (w.heap.size + 1) _ _ rfl FF.1 FF.2) rfl ⟨_, rfl, HK, HBF⟩

set_option maxRecDepth 100000 in
set_option maxHeartbeats 3200000 in
theorem spec_learnKey_no2 (g1 o1 g2 o2 ca cb : Nat) (xs : List ByteArray) (ks : List Int) (x : Int) (w : World) (hr : RowAt Value.string w (some ⟨g1, o1, none⟩) xs) (hq : RowAt (Value.int .i64) w (some ⟨g2, o2, none⟩) ks) (hl : xs.length ≤ 1048576) (hl2 : ks.length ≤ 1048576) (hcap : xs.length ≤ ca) (hs : ∀ x ∈ xs, x.size ≤ 1048576) (hK : kOk xs ks = true) (hR : (decide (1 ≤ x) && decide (x ≤ 1000000)) = true) (hH : hasB ks x = true) :
    Calls Try.prog 30 #[.agg #[.slice (some ⟨g1, o1, none⟩) xs.length ca, .slice (some ⟨g2, o2, none⟩) ks.length cb], .int .i64 x] w fun e w' => ∃ v, e = .returned v ∧ KeepK w.heap.size w' v xs ks ∧ Below w.heap.size w w' := by
  obtain ⟨W2, hW2⟩ : ∃ W2, (w.alloc (.cells #[.slice (some ⟨g1, o1, none⟩) xs.length ca, .slice (some ⟨g2, o2, none⟩) ks.length cb] 27)).alloc (.cells #[.slice none 0 0, .slice none 0 0] 27) = W2 := ⟨_, rfl⟩
  have hb0 : Below w.heap.size w W2 := by rw [← hW2]; exact ((Below.refl _ _).alloc (Nat.le_refl _) _).alloc (by simp) _
  have hz : Hid (W2.heap.size = w.heap.size + 2) := by show W2.heap.size = w.heap.size + 2; rw [← hW2]; simp
  have c0 : W2.cell? ⟨w.heap.size, 0, none⟩ = some (.slice (some ⟨g1, o1, none⟩) xs.length ca) := by rw [← hW2]; simp [go_sem]
  have c1 : W2.cell? ⟨w.heap.size, 1, none⟩ = some (.slice (some ⟨g2, o2, none⟩) ks.length cb) := by rw [← hW2]; simp [go_sem]
  have c2 : W2.cell? ⟨w.heap.size + 1, 0, none⟩ = some (.slice none 0 0) := by rw [← hW2]; simp [go_sem]
  have c3 : W2.cell? ⟨w.heap.size + 1, 1, none⟩ = some (.slice none 0 0) := by rw [← hW2]; simp [go_sem]
  have f0 : W2.frozen? ⟨w.heap.size, 0, none⟩ = false := by rw [← hW2]; simp [go_sem]
  have f1 : W2.frozen? ⟨w.heap.size, 1, none⟩ = false := by rw [← hW2]; simp [go_sem]
  have f2 : W2.frozen? ⟨w.heap.size + 1, 0, none⟩ = false := by rw [← hW2]; simp [go_sem]
  have f3 : W2.frozen? ⟨w.heap.size + 1, 1, none⟩ = false := by rw [← hW2]; simp [go_sem]
  have L0 : ∀ o, (⟨w.heap.size, o, none⟩ : Addr).block < W2.heap.size := fun o => by have := hz.out; show w.heap.size < _; omega
  have L1 : ∀ o, (⟨w.heap.size + 1, o, none⟩ : Addr).block < W2.heap.size := fun o => by have := hz.out; show w.heap.size + 1 < _; omega
  have hO := spec_knownOk (some ⟨g1, o1, none⟩) (some ⟨g2, o2, none⟩) ca cb xs ks W2 (hr.later hb0) (hq.later hb0) hl hl2 hcap hs
  rw [hK] at hO
  go_enter Try.func30, Try.ntmps30
  go_wp2_with fail
  try rw [hW2]
  refine hO.mono ?_
  clear hW2 hO
  rintro e w1 ⟨rfl, hb1⟩
  have e0 := (hb1.cell (L0 0)).trans c0
  have e1 := (hb1.cell (L0 1)).trans c1
  have hb01 := hb0.trans (hb1.mono hb0.size)
  have H2 := l3Copy_is g1 o1 g2 o2 ca cb xs ks w1 (hr.later hb01) (hq.later hb01) hl hl2
  go_wp2_with fail
  refine H2.mono ?_
  clear H2 e0 e1
  rintro e w2 ⟨v, rfl, ⟨a, b, ka, kb, rfl, ho, hp⟩, hb2⟩
  have hb12 : Below W2.heap.size W2 w2 := hb1.trans (hb2.mono hb1.size)
  have hb02 := hb0.trans (hb12.mono hb0.size)
  have y0 := (hb12.cell (L0 0)).trans c0
  have y1 := (hb12.cell (L0 1)).trans c1
  have y2 := (hb12.frozen (L0 0)).trans f0
  have y3 := (hb12.frozen (L0 1)).trans f1
  obtain ⟨W3, hW3⟩ : ∃ W3, (w2.setCell ⟨w.heap.size, 0, none⟩ (.slice a xs.length ka)).setCell ⟨w.heap.size, 1, none⟩ (.slice b ks.length kb) = W3 := ⟨_, rfl⟩
  obtain ⟨m0, m1⟩ : W3.cell? ⟨w.heap.size, 0, none⟩ = some (.slice a xs.length ka) ∧ W3.cell? ⟨w.heap.size, 1, none⟩ = some (.slice b ks.length kb) := by rw [← hW3]; exact fin_two y0 y1
  have d2 : W3.cell? ⟨w.heap.size + 1, 0, none⟩ = some (.slice none 0 0) := by rw [← hW3, World.cell?_setCell_other _ _ _ _ (by simp), World.cell?_setCell_other _ _ _ _ (by simp)]; exact (hb12.cell (L1 0)).trans c2
  have d3 : W3.cell? ⟨w.heap.size + 1, 1, none⟩ = some (.slice none 0 0) := by rw [← hW3, World.cell?_setCell_other _ _ _ _ (by simp), World.cell?_setCell_other _ _ _ _ (by simp)]; exact (hb12.cell (L1 1)).trans c3
  have x1 : W3.frozen? ⟨w.heap.size, 1, none⟩ = false := by rw [← hW3, World.frozen?_setCell, World.frozen?_setCell]; exact y3
  have x2 : W3.frozen? ⟨w.heap.size + 1, 0, none⟩ = false := by rw [← hW3, World.frozen?_setCell, World.frozen?_setCell]; exact (hb12.frozen (L1 0)).trans f2
  have x3 : W3.frozen? ⟨w.heap.size + 1, 1, none⟩ = false := by rw [← hW3, World.frozen?_setCell, World.frozen?_setCell]; exact (hb12.frozen (L1 1)).trans f3
  have hb03 : Below w.heap.size w W3 := by rw [← hW3]; exact (hb02.setCell (Nat.le_refl _) _).setCell (Nat.le_refl _) _
  have l01 : ∀ o, (⟨w.heap.size, o, none⟩ : Addr).block < w1.heap.size := fun o => Nat.lt_of_lt_of_le (L0 o) hb1.size
  have l11 : ∀ o, (⟨w.heap.size + 1, o, none⟩ : Addr).block < w1.heap.size := fun o => Nat.lt_of_lt_of_le (L1 o) hb1.size
  have ho3 : W3.ownsRow w1.heap.size 9 1 (.slice a xs.length ka) xs.length (strV xs) := by rw [← hW3]; exact ownsRow_setCell_below (ownsRow_setCell_below ho (l01 0) _) (l01 1) _
  have hp3 : W3.ownsRow w1.heap.size 3 1 (.slice b ks.length kb) ks.length (intV ks) := by rw [← hW3]; exact ownsRow_setCell_below (ownsRow_setCell_below hp (l01 0) _) (l01 1) _
  have hI := in_is x 1 1000000 W3
  have hz3 : Hid (w1.heap.size ≤ W3.heap.size) := by show w1.heap.size ≤ W3.heap.size; rw [← hW3]; simpa using hb2.size
  rw [hR] at hI
  have hJ := l3Has_is b kb ks x W3 (row_own3' hp3) hl2
  rw [hH] at hJ
  have FF := fin_two (v0 := .slice a xs.length ka) (v1 := .slice b ks.length kb) d2 d3
  have HK : KeepK w.heap.size ((W3.setCell ⟨w.heap.size + 1, 0, none⟩ (.slice a xs.length ka)).setCell ⟨w.heap.size + 1, 1, none⟩ (.slice b ks.length kb)) (.agg #[.slice a xs.length ka, .slice b ks.length kb]) xs ks := KeepK.base (KeepK.setCell (KeepK.setCell ⟨a, b, ka, kb, rfl, ho3, hp3⟩ (l11 0) _) (l11 1) _) hb01.size
  have HBF : Below w.heap.size w ((W3.setCell ⟨w.heap.size + 1, 0, none⟩ (.slice a xs.length ka)).setCell ⟨w.heap.size + 1, 1, none⟩ (.slice b ks.length kb)) := (hb03.setCell (by show w.heap.size ≤ w.heap.size + 1; omega) _).setCell (by show w.heap.size ≤ w.heap.size + 1; omega) _
  clear ho hp ho3 hp3 hb12 hb02 hb2 hb03
  go_wp2_with fail
  try rw [hW3]
  refine hI.mono ?_
  clear hW3 hI y0 y1 y2 y3
  rintro e w4 ⟨rfl, rfl⟩
  go_wp2_with fail
  refine hJ.mono ?_
  rintro e w5 ⟨rfl, rfl⟩
  go_wp2
  refine bodyPost_ret (res_two rfl _ _ (w.heap.size + 1) _ _ rfl FF.1 FF.2) rfl ⟨_, rfl, HK, HBF⟩

set_option maxRecDepth 100000 in
set_option maxHeartbeats 3200000 in
theorem spec_learnKey_no3 (g1 o1 g2 o2 ca cb : Nat) (xs : List ByteArray) (ks : List Int) (x : Int) (w : World) (hr : RowAt Value.string w (some ⟨g1, o1, none⟩) xs) (hq : RowAt (Value.int .i64) w (some ⟨g2, o2, none⟩) ks) (hl : xs.length ≤ 1048576) (hl2 : ks.length ≤ 1048576) (hcap : xs.length ≤ ca) (hs : ∀ x ∈ xs, x.size ≤ 1048576) (hK : kOk xs ks = true) (hR : (decide (1 ≤ x) && decide (x ≤ 1000000)) = true) (hH : hasB ks x = false) (h40 : ¬ ks.length < 40) :
    Calls Try.prog 30 #[.agg #[.slice (some ⟨g1, o1, none⟩) xs.length ca, .slice (some ⟨g2, o2, none⟩) ks.length cb], .int .i64 x] w fun e w' => ∃ v, e = .returned v ∧ KeepK w.heap.size w' v xs ks ∧ Below w.heap.size w w' := by
  have h40' : decide ((ks.length : Int) < 40) = false := by simp; omega
  obtain ⟨W2, hW2⟩ : ∃ W2, (w.alloc (.cells #[.slice (some ⟨g1, o1, none⟩) xs.length ca, .slice (some ⟨g2, o2, none⟩) ks.length cb] 27)).alloc (.cells #[.slice none 0 0, .slice none 0 0] 27) = W2 := ⟨_, rfl⟩
  have hb0 : Below w.heap.size w W2 := by rw [← hW2]; exact ((Below.refl _ _).alloc (Nat.le_refl _) _).alloc (by simp) _
  have hz : Hid (W2.heap.size = w.heap.size + 2) := by show W2.heap.size = w.heap.size + 2; rw [← hW2]; simp
  have c0 : W2.cell? ⟨w.heap.size, 0, none⟩ = some (.slice (some ⟨g1, o1, none⟩) xs.length ca) := by rw [← hW2]; simp [go_sem]
  have c1 : W2.cell? ⟨w.heap.size, 1, none⟩ = some (.slice (some ⟨g2, o2, none⟩) ks.length cb) := by rw [← hW2]; simp [go_sem]
  have c2 : W2.cell? ⟨w.heap.size + 1, 0, none⟩ = some (.slice none 0 0) := by rw [← hW2]; simp [go_sem]
  have c3 : W2.cell? ⟨w.heap.size + 1, 1, none⟩ = some (.slice none 0 0) := by rw [← hW2]; simp [go_sem]
  have f0 : W2.frozen? ⟨w.heap.size, 0, none⟩ = false := by rw [← hW2]; simp [go_sem]
  have f1 : W2.frozen? ⟨w.heap.size, 1, none⟩ = false := by rw [← hW2]; simp [go_sem]
  have f2 : W2.frozen? ⟨w.heap.size + 1, 0, none⟩ = false := by rw [← hW2]; simp [go_sem]
  have f3 : W2.frozen? ⟨w.heap.size + 1, 1, none⟩ = false := by rw [← hW2]; simp [go_sem]
  have L0 : ∀ o, (⟨w.heap.size, o, none⟩ : Addr).block < W2.heap.size := fun o => by have := hz.out; show w.heap.size < _; omega
  have L1 : ∀ o, (⟨w.heap.size + 1, o, none⟩ : Addr).block < W2.heap.size := fun o => by have := hz.out; show w.heap.size + 1 < _; omega
  have hO := spec_knownOk (some ⟨g1, o1, none⟩) (some ⟨g2, o2, none⟩) ca cb xs ks W2 (hr.later hb0) (hq.later hb0) hl hl2 hcap hs
  rw [hK] at hO
  go_enter Try.func30, Try.ntmps30
  go_wp2_with fail
  try rw [hW2]
  refine hO.mono ?_
  clear hW2 hO
  rintro e w1 ⟨rfl, hb1⟩
  have e0 := (hb1.cell (L0 0)).trans c0
  have e1 := (hb1.cell (L0 1)).trans c1
  have hb01 := hb0.trans (hb1.mono hb0.size)
  have H2 := l3Copy_is g1 o1 g2 o2 ca cb xs ks w1 (hr.later hb01) (hq.later hb01) hl hl2
  go_wp2_with fail
  refine H2.mono ?_
  clear H2 e0 e1
  rintro e w2 ⟨v, rfl, ⟨a, b, ka, kb, rfl, ho, hp⟩, hb2⟩
  have hb12 : Below W2.heap.size W2 w2 := hb1.trans (hb2.mono hb1.size)
  have hb02 := hb0.trans (hb12.mono hb0.size)
  have y0 := (hb12.cell (L0 0)).trans c0
  have y1 := (hb12.cell (L0 1)).trans c1
  have y2 := (hb12.frozen (L0 0)).trans f0
  have y3 := (hb12.frozen (L0 1)).trans f1
  obtain ⟨W3, hW3⟩ : ∃ W3, (w2.setCell ⟨w.heap.size, 0, none⟩ (.slice a xs.length ka)).setCell ⟨w.heap.size, 1, none⟩ (.slice b ks.length kb) = W3 := ⟨_, rfl⟩
  obtain ⟨m0, m1⟩ : W3.cell? ⟨w.heap.size, 0, none⟩ = some (.slice a xs.length ka) ∧ W3.cell? ⟨w.heap.size, 1, none⟩ = some (.slice b ks.length kb) := by rw [← hW3]; exact fin_two y0 y1
  have d2 : W3.cell? ⟨w.heap.size + 1, 0, none⟩ = some (.slice none 0 0) := by rw [← hW3, World.cell?_setCell_other _ _ _ _ (by simp), World.cell?_setCell_other _ _ _ _ (by simp)]; exact (hb12.cell (L1 0)).trans c2
  have d3 : W3.cell? ⟨w.heap.size + 1, 1, none⟩ = some (.slice none 0 0) := by rw [← hW3, World.cell?_setCell_other _ _ _ _ (by simp), World.cell?_setCell_other _ _ _ _ (by simp)]; exact (hb12.cell (L1 1)).trans c3
  have x1 : W3.frozen? ⟨w.heap.size, 1, none⟩ = false := by rw [← hW3, World.frozen?_setCell, World.frozen?_setCell]; exact y3
  have x2 : W3.frozen? ⟨w.heap.size + 1, 0, none⟩ = false := by rw [← hW3, World.frozen?_setCell, World.frozen?_setCell]; exact (hb12.frozen (L1 0)).trans f2
  have x3 : W3.frozen? ⟨w.heap.size + 1, 1, none⟩ = false := by rw [← hW3, World.frozen?_setCell, World.frozen?_setCell]; exact (hb12.frozen (L1 1)).trans f3
  have hb03 : Below w.heap.size w W3 := by rw [← hW3]; exact (hb02.setCell (Nat.le_refl _) _).setCell (Nat.le_refl _) _
  have l01 : ∀ o, (⟨w.heap.size, o, none⟩ : Addr).block < w1.heap.size := fun o => Nat.lt_of_lt_of_le (L0 o) hb1.size
  have l11 : ∀ o, (⟨w.heap.size + 1, o, none⟩ : Addr).block < w1.heap.size := fun o => Nat.lt_of_lt_of_le (L1 o) hb1.size
  have ho3 : W3.ownsRow w1.heap.size 9 1 (.slice a xs.length ka) xs.length (strV xs) := by rw [← hW3]; exact ownsRow_setCell_below (ownsRow_setCell_below ho (l01 0) _) (l01 1) _
  have hp3 : W3.ownsRow w1.heap.size 3 1 (.slice b ks.length kb) ks.length (intV ks) := by rw [← hW3]; exact ownsRow_setCell_below (ownsRow_setCell_below hp (l01 0) _) (l01 1) _
  have hI := in_is x 1 1000000 W3
  have hz3 : Hid (w1.heap.size ≤ W3.heap.size) := by show w1.heap.size ≤ W3.heap.size; rw [← hW3]; simpa using hb2.size
  rw [hR] at hI
  have hJ := l3Has_is b kb ks x W3 (row_own3' hp3) hl2
  rw [hH] at hJ
  have FF := fin_two (v0 := .slice a xs.length ka) (v1 := .slice b ks.length kb) d2 d3
  have HK : KeepK w.heap.size ((W3.setCell ⟨w.heap.size + 1, 0, none⟩ (.slice a xs.length ka)).setCell ⟨w.heap.size + 1, 1, none⟩ (.slice b ks.length kb)) (.agg #[.slice a xs.length ka, .slice b ks.length kb]) xs ks := KeepK.base (KeepK.setCell (KeepK.setCell ⟨a, b, ka, kb, rfl, ho3, hp3⟩ (l11 0) _) (l11 1) _) hb01.size
  have HBF : Below w.heap.size w ((W3.setCell ⟨w.heap.size + 1, 0, none⟩ (.slice a xs.length ka)).setCell ⟨w.heap.size + 1, 1, none⟩ (.slice b ks.length kb)) := (hb03.setCell (by show w.heap.size ≤ w.heap.size + 1; omega) _).setCell (by show w.heap.size ≤ w.heap.size + 1; omega) _
  clear ho hp ho3 hp3 hb12 hb02 hb2 hb03
  go_wp2_with fail
  try rw [hW3]
  refine hI.mono ?_
  clear hW3 hI y0 y1 y2 y3
  rintro e w4 ⟨rfl, rfl⟩
  go_wp2_with fail
  refine hJ.mono ?_
  rintro e w5 ⟨rfl, rfl⟩
  go_wp2
  refine bodyPost_ret (res_two rfl _ _ (w.heap.size + 1) _ _ rfl FF.1 FF.2) rfl ⟨_, rfl, HK, HBF⟩

set_option maxRecDepth 100000 in
set_option maxHeartbeats 3200000 in
theorem spec_learnKey_yes (g1 o1 g2 o2 ca cb : Nat) (xs : List ByteArray) (ks : List Int) (x : Int) (w : World) (hr : RowAt Value.string w (some ⟨g1, o1, none⟩) xs) (hq : RowAt (Value.int .i64) w (some ⟨g2, o2, none⟩) ks) (hl : xs.length ≤ 1048576) (hl2 : ks.length ≤ 1048576) (hcap : xs.length ≤ ca) (hs : ∀ x ∈ xs, x.size ≤ 1048576) (hK : kOk xs ks = true) (hR : (decide (1 ≤ x) && decide (x ≤ 1000000)) = true) (hH : hasB ks x = false) (h40 : ks.length < 40) :
    Calls Try.prog 30 #[.agg #[.slice (some ⟨g1, o1, none⟩) xs.length ca, .slice (some ⟨g2, o2, none⟩) ks.length cb], .int .i64 x] w fun e w' => ∃ v, e = .returned v ∧ KeepK w.heap.size w' v xs (putL ks x) ∧ Below w.heap.size w w' := by
  have h40' : (ks.length : Int) < 40 := by omega
  obtain ⟨W2, hW2⟩ : ∃ W2, (w.alloc (.cells #[.slice (some ⟨g1, o1, none⟩) xs.length ca, .slice (some ⟨g2, o2, none⟩) ks.length cb] 27)).alloc (.cells #[.slice none 0 0, .slice none 0 0] 27) = W2 := ⟨_, rfl⟩
  have hb0 : Below w.heap.size w W2 := by rw [← hW2]; exact ((Below.refl _ _).alloc (Nat.le_refl _) _).alloc (by simp) _
  have hz : Hid (W2.heap.size = w.heap.size + 2) := by show W2.heap.size = w.heap.size + 2; rw [← hW2]; simp
  have c0 : W2.cell? ⟨w.heap.size, 0, none⟩ = some (.slice (some ⟨g1, o1, none⟩) xs.length ca) := by rw [← hW2]; simp [go_sem]
  have c1 : W2.cell? ⟨w.heap.size, 1, none⟩ = some (.slice (some ⟨g2, o2, none⟩) ks.length cb) := by rw [← hW2]; simp [go_sem]
  have c2 : W2.cell? ⟨w.heap.size + 1, 0, none⟩ = some (.slice none 0 0) := by rw [← hW2]; simp [go_sem]
  have c3 : W2.cell? ⟨w.heap.size + 1, 1, none⟩ = some (.slice none 0 0) := by rw [← hW2]; simp [go_sem]
  have f0 : W2.frozen? ⟨w.heap.size, 0, none⟩ = false := by rw [← hW2]; simp [go_sem]
  have f1 : W2.frozen? ⟨w.heap.size, 1, none⟩ = false := by rw [← hW2]; simp [go_sem]
  have f2 : W2.frozen? ⟨w.heap.size + 1, 0, none⟩ = false := by rw [← hW2]; simp [go_sem]
  have f3 : W2.frozen? ⟨w.heap.size + 1, 1, none⟩ = false := by rw [← hW2]; simp [go_sem]
  have L0 : ∀ o, (⟨w.heap.size, o, none⟩ : Addr).block < W2.heap.size := fun o => by have := hz.out; show w.heap.size < _; omega
  have L1 : ∀ o, (⟨w.heap.size + 1, o, none⟩ : Addr).block < W2.heap.size := fun o => by have := hz.out; show w.heap.size + 1 < _; omega
  have hO := spec_knownOk (some ⟨g1, o1, none⟩) (some ⟨g2, o2, none⟩) ca cb xs ks W2 (hr.later hb0) (hq.later hb0) hl hl2 hcap hs
  rw [hK] at hO
  go_enter Try.func30, Try.ntmps30
  go_wp2_with fail
  try rw [hW2]
  refine hO.mono ?_
  clear hW2 hO
  rintro e w1 ⟨rfl, hb1⟩
  have e0 := (hb1.cell (L0 0)).trans c0
  have e1 := (hb1.cell (L0 1)).trans c1
  have hb01 := hb0.trans (hb1.mono hb0.size)
  have H2 := l3Copy_is g1 o1 g2 o2 ca cb xs ks w1 (hr.later hb01) (hq.later hb01) hl hl2
  go_wp2_with fail
  refine H2.mono ?_
  clear H2 e0 e1
  rintro e w2 ⟨v, rfl, ⟨a, b, ka, kb, rfl, ho, hp⟩, hb2⟩
  have hb12 : Below W2.heap.size W2 w2 := hb1.trans (hb2.mono hb1.size)
  have hb02 := hb0.trans (hb12.mono hb0.size)
  have y0 := (hb12.cell (L0 0)).trans c0
  have y1 := (hb12.cell (L0 1)).trans c1
  have y2 := (hb12.frozen (L0 0)).trans f0
  have y3 := (hb12.frozen (L0 1)).trans f1
  obtain ⟨W3, hW3⟩ : ∃ W3, (w2.setCell ⟨w.heap.size, 0, none⟩ (.slice a xs.length ka)).setCell ⟨w.heap.size, 1, none⟩ (.slice b ks.length kb) = W3 := ⟨_, rfl⟩
  obtain ⟨m0, m1⟩ : W3.cell? ⟨w.heap.size, 0, none⟩ = some (.slice a xs.length ka) ∧ W3.cell? ⟨w.heap.size, 1, none⟩ = some (.slice b ks.length kb) := by rw [← hW3]; exact fin_two y0 y1
  have d2 : W3.cell? ⟨w.heap.size + 1, 0, none⟩ = some (.slice none 0 0) := by rw [← hW3, World.cell?_setCell_other _ _ _ _ (by simp), World.cell?_setCell_other _ _ _ _ (by simp)]; exact (hb12.cell (L1 0)).trans c2
  have d3 : W3.cell? ⟨w.heap.size + 1, 1, none⟩ = some (.slice none 0 0) := by rw [← hW3, World.cell?_setCell_other _ _ _ _ (by simp), World.cell?_setCell_other _ _ _ _ (by simp)]; exact (hb12.cell (L1 1)).trans c3
  have x1 : W3.frozen? ⟨w.heap.size, 1, none⟩ = false := by rw [← hW3, World.frozen?_setCell, World.frozen?_setCell]; exact y3
  have x2 : W3.frozen? ⟨w.heap.size + 1, 0, none⟩ = false := by rw [← hW3, World.frozen?_setCell, World.frozen?_setCell]; exact (hb12.frozen (L1 0)).trans f2
  have x3 : W3.frozen? ⟨w.heap.size + 1, 1, none⟩ = false := by rw [← hW3, World.frozen?_setCell, World.frozen?_setCell]; exact (hb12.frozen (L1 1)).trans f3
  have hb03 : Below w.heap.size w W3 := by rw [← hW3]; exact (hb02.setCell (Nat.le_refl _) _).setCell (Nat.le_refl _) _
  have l01 : ∀ o, (⟨w.heap.size, o, none⟩ : Addr).block < w1.heap.size := fun o => Nat.lt_of_lt_of_le (L0 o) hb1.size
  have l11 : ∀ o, (⟨w.heap.size + 1, o, none⟩ : Addr).block < w1.heap.size := fun o => Nat.lt_of_lt_of_le (L1 o) hb1.size
  have ho3 : W3.ownsRow w1.heap.size 9 1 (.slice a xs.length ka) xs.length (strV xs) := by rw [← hW3]; exact ownsRow_setCell_below (ownsRow_setCell_below ho (l01 0) _) (l01 1) _
  have hp3 : W3.ownsRow w1.heap.size 3 1 (.slice b ks.length kb) ks.length (intV ks) := by rw [← hW3]; exact ownsRow_setCell_below (ownsRow_setCell_below hp (l01 0) _) (l01 1) _
  have hI := in_is x 1 1000000 W3
  have hz3 : Hid (w1.heap.size ≤ W3.heap.size) := by show w1.heap.size ≤ W3.heap.size; rw [← hW3]; simpa using hb2.size
  rw [hR] at hI
  have hJ := l3Has_is b kb ks x W3 (row_own3' hp3) hl2
  rw [hH] at hJ
  have hL := l3Put_no b kb ks x W3 (row_own3' hp3) hl2 hH
  clear ho hp hb12 hb02 hb2
  go_wp2_with fail
  try rw [hW3]
  refine hI.mono ?_
  clear hW3 hI y0 y1 y2 y3
  rintro e w4 ⟨rfl, rfl⟩
  go_wp2_with fail
  refine hJ.mono ?_
  clear hJ
  rintro e w5 ⟨rfl, rfl⟩
  go_wp2_with fail
  refine hL.mono ?_
  clear hL
  rintro e w4 ⟨v, rfl, hn, hb4⟩
  obtain ⟨b2, kb2, rfl, _, _⟩ := own_row hn
  have hb04 := hb03.trans (hb4.mono hb03.size)
  have ho4 := own_later ho3 hb4
  have z0 : (⟨w.heap.size, 0, none⟩ : Addr).block < W3.heap.size := Nat.lt_of_lt_of_le (l01 0) hz3.out
  have z1 : (⟨w.heap.size + 1, 0, none⟩ : Addr).block < W3.heap.size := Nat.lt_of_lt_of_le (l11 0) hz3.out
  have p0 := (hb4.cell (p := ⟨w.heap.size, 0, none⟩) z0).trans m0
  have p1 := (hb4.cell (p := ⟨w.heap.size, 1, none⟩) z0).trans m1
  have p2 := (hb4.cell (p := ⟨w.heap.size + 1, 0, none⟩) z1).trans d2
  have p3 := (hb4.cell (p := ⟨w.heap.size + 1, 1, none⟩) z1).trans d3
  have q1 := (hb4.frozen (p := ⟨w.heap.size, 1, none⟩) z0).trans x1
  have q2 := (hb4.frozen (p := ⟨w.heap.size + 1, 0, none⟩) z1).trans x2
  have q3 := (hb4.frozen (p := ⟨w.heap.size + 1, 1, none⟩) z1).trans x3
  obtain ⟨W5, hW5⟩ : ∃ W5, w4.setCell ⟨w.heap.size, 1, none⟩ (.slice b2 (putL ks x).length kb2) = W5 := ⟨_, rfl⟩
  have r0 : W5.cell? ⟨w.heap.size, 0, none⟩ = some (.slice a xs.length ka) := by rw [← hW5, World.cell?_setCell_other _ _ _ _ (by simp)]; exact p0
  have r1 : W5.cell? ⟨w.heap.size, 1, none⟩ = some (.slice b2 (putL ks x).length kb2) := by rw [← hW5]; exact World.cell?_setCell_same' _ _ _ (by rw [p1]; rfl)
  have r2 : W5.cell? ⟨w.heap.size + 1, 0, none⟩ = some (.slice none 0 0) := by rw [← hW5, World.cell?_setCell_other _ _ _ _ (by simp)]; exact p2
  have r3 : W5.cell? ⟨w.heap.size + 1, 1, none⟩ = some (.slice none 0 0) := by rw [← hW5, World.cell?_setCell_other _ _ _ _ (by simp)]; exact p3
  have t2 : W5.frozen? ⟨w.heap.size + 1, 0, none⟩ = false := by rw [← hW5, World.frozen?_setCell]; exact q2
  have t3 : W5.frozen? ⟨w.heap.size + 1, 1, none⟩ = false := by rw [← hW5, World.frozen?_setCell]; exact q3
  have hb05 : Below w.heap.size w W5 := by rw [← hW5]; exact hb04.setCell (Nat.le_refl _) _
  have hK5 : KeepK w1.heap.size W5 (.agg #[.slice a xs.length ka, .slice b2 (putL ks x).length kb2]) xs (putL ks x) := by
    rw [← hW5]
    exact KeepK.setCell ⟨a, b2, ka, kb2, rfl, ho4, own_base hn hz3.out⟩ (l01 1) _
  have FF := fin_two (v0 := .slice a xs.length ka) (v1 := .slice b2 (putL ks x).length kb2) r2 r3
  have HK := KeepK.base (KeepK.setCell (p := ⟨w.heap.size + 1, 1, none⟩) (KeepK.setCell (p := ⟨w.heap.size + 1, 0, none⟩) hK5 (l11 0) (.slice a xs.length ka)) (l11 1) (.slice b2 (putL ks x).length kb2)) hb01.size
  have HBF : Below w.heap.size w ((W5.setCell ⟨w.heap.size + 1, 0, none⟩ (.slice a xs.length ka)).setCell ⟨w.heap.size + 1, 1, none⟩ (.slice b2 (putL ks x).length kb2)) := (hb05.setCell (by show w.heap.size ≤ w.heap.size + 1; omega) _).setCell (by show w.heap.size ≤ w.heap.size + 1; omega) _
  clear hK5 hb05 hb04 ho4 hn hb4 hb03 ho3 hp3 m0 m1 d2 d3 x1 x2 x3
  generalize (putL ks x).length = nn at *
  go_wp2
  try rw [hW5]
  refine bodyPost_ret (res_two rfl _ _ (w.heap.size + 1) _ _ rfl FF.1 FF.2) rfl ⟨_, rfl, HK, HBF⟩

theorem spec_learnKey (g1 o1 g2 o2 ca cb : Nat) (xs : List ByteArray) (ks : List Int) (x : Int) (w : World) (hr : RowAt Value.string w (some ⟨g1, o1, none⟩) xs) (hq : RowAt (Value.int .i64) w (some ⟨g2, o2, none⟩) ks) (hl : xs.length ≤ 1048576) (hl2 : ks.length ≤ 1048576) (hcap : xs.length ≤ ca) (hs : ∀ x ∈ xs, x.size ≤ 1048576) :
    Calls Try.prog 30 #[.agg #[.slice (some ⟨g1, o1, none⟩) xs.length ca, .slice (some ⟨g2, o2, none⟩) ks.length cb], .int .i64 x] w fun e w' => ∃ v, e = .returned v ∧ KeepK w.heap.size w' v (lrkT xs ks) (lrkK xs ks x) ∧ Below w.heap.size w w' := by
  unfold lrkT lrkK
  cases hK : kOk xs ks with
  | false =>
    simp only [Bool.false_eq_true, if_false]
    exact spec_learnKey_bad g1 o1 g2 o2 ca cb xs ks x w hr hq hl hl2 hcap hs hK
  | true =>
    simp only [if_true]
    unfold putK
    cases hR : (decide (1 ≤ x) && decide (x ≤ 1000000)) with
    | false =>
      rw [if_neg (by simp)]
      exact spec_learnKey_no1 g1 o1 g2 o2 ca cb xs ks x w hr hq hl hl2 hcap hs hK hR
    | true =>
      cases hH : hasB ks x with
      | true =>
        rw [if_neg (by simp)]
        exact spec_learnKey_no2 g1 o1 g2 o2 ca cb xs ks x w hr hq hl hl2 hcap hs hK hR hH
      | false =>
        by_cases h40 : ks.length < 40
        · rw [if_pos ⟨rfl, rfl, h40⟩]
          exact spec_learnKey_yes g1 o1 g2 o2 ca cb xs ks x w hr hq hl hl2 hcap hs hK hR hH h40
        · rw [if_neg (fun c => h40 c.2.2)]
          exact spec_learnKey_no3 g1 o1 g2 o2 ca cb xs ks x w hr hq hl hl2 hcap hs hK hR hH h40
end Go.Proofs.Ytkekfogepdhjhaa
