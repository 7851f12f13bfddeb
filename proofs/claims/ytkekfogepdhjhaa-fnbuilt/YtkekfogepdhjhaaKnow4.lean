/- What is known as it comes in: counted, copied, compared. -/
import Derived.Test.YtkekfogepdhjhaaSeek
import Derived.Test.YtkekfogepdhjhaaLists
set_option linter.unusedVariables false
namespace Go.Proofs.Ytkekfogepdhjhaa
open Go.RowKit Own Var Term

set_option maxRecDepth 100000 in
set_option maxHeartbeats 800000 in
theorem szS_is (a : Option Addr) (cap : Nat) (xs : List ByteArray) (w : World) (hr : RowAt Value.string w a xs) (hl : xs.length ≤ maxLen) (hs : ∀ x ∈ xs, x.size ≤ maxLen) :
    Calls Try.prog 56 #[.slice a xs.length cap, .int .i64 1048576] w fun e w' => ∃ r : Int, e = .returned (.int .i64 r) ∧ (0 ≤ r → xs.length ≤ 1048576 ∧ ∀ x ∈ xs, x.size ≤ 1048576) ∧ (-1 ≤ r ∧ r ≤ 1048576) ∧ w = w' := by
  unfold maxLen at hl hs
  by_cases h0 : xs.length ≤ 1048576
  · have h0' : ¬ (1048576 : Int) - (xs.length : Int) < 0 := by omega
    go_enter Try.func56, Try.ntmps56
    go_wp2
    go_loop [1, 5] (fun l i => ∃ (k : Nat) (L : Int), k ≤ xs.length ∧ 0 ≤ L ∧ L ≤ 1048576 ∧ l = .int .i64 L ∧ i = .int .i64 k ∧ Hid (∀ j (h : j < xs.length), j < k → xs[j].size ≤ 1048576)) (fun _ i => xs.length - (intOf i).toNat)
    case atStart => exact ⟨0, 1048576 - xs.length, by omega, by omega, by omega, rfl, rfl, fun j h hj => absurd hj (by omega)⟩
    case round =>
      obtain ⟨k, L, hk, hL0, hL1, rfl, rfl, G⟩ := hrel
      by_cases hlt : k < xs.length
      · obtain ⟨b, off, rfl, hbl, hcell⟩ := hr k hlt
        have hx := hs xs[k] (List.getElem_mem hlt)
        have hG : xs[k].size ≤ 1048576 → ∀ j (h : j < xs.length), j < k + 1 → xs[j].size ≤ 1048576 := by
          intro hz j h hj
          by_cases e : j = k
          · subst e; exact hz
          · exact G.out j h (by omega)
        have HG : Hid (xs[k].size ≤ 1048576 → ∀ j (h : j < xs.length), j < k + 1 → xs[j].size ≤ 1048576) := hG
        clear hG
        generalize xs[k] = x at hcell hx HG
        by_cases hd : L - (x.size : Int) < 0
        · have hd' : decide (L - (x.size : Int) < 0) = true := by simpa using hd
          go_wp2
          go_ret
          exact ⟨-1, rfl, fun h => absurd h (by omega), by omega, rfl⟩
        · have hd1 : x.size ≤ 1048576 := by omega
          go_wp2
          go_round
          case rel => exact ⟨k + 1, L - x.size, by omega, by omega, by omega, rfl, by go_num, HG.out hd1⟩
          case measure => simp [intOf]; omega
      · go_wp2
        go_ret
        have H : ∀ x ∈ xs, x.size ≤ 1048576 := by
          intro x hx
          obtain ⟨j, hj, rfl⟩ := List.getElem_of_mem hx
          exact G.out j hj (by omega)
        exact ⟨L, rfl, fun _ => by first | exact H | exact ⟨h0, H⟩, by omega, rfl⟩
  · have h0' : (1048576 : Int) - (xs.length : Int) < 0 := by omega
    go_enter Try.func56, Try.ntmps56
    go_wp2
    go_ret
    exact ⟨-1, rfl, fun h => absurd h (by omega), by omega, rfl⟩

theorem szI_is (b : Option Addr) (cb : Nat) (ks : List Int) (L : Int) (w : World) (hl : ks.length ≤ maxLen) (h0 : 0 ≤ L) (h1 : L ≤ 1048576) :
    Calls Try.prog 57 #[.slice b ks.length cb, .int .i64 L] w fun e w' => ∃ r : Int, e = .returned (.int .i64 r) ∧ (0 ≤ r → ks.length ≤ 1048576) ∧ w = w' := by
  unfold maxLen at hl
  by_cases hd : L - (ks.length : Int) < 0
  · go_enter Try.func57, Try.ntmps57
    go_wp2
    go_ret
    exact ⟨-1, rfl, fun h => absurd h (by omega), rfl⟩
  · go_enter Try.func57, Try.ntmps57
    go_wp2
    go_ret
    exact ⟨L - ks.length, rfl, fun _ => by omega, rfl⟩

set_option maxRecDepth 100000 in
set_option maxHeartbeats 800000 in
theorem szKnown_is (a b : Option Addr) (ca cb : Nat) (xs : List ByteArray) (ks : List Int) (w : World) (hr : RowAt Value.string w a xs) (hl : xs.length ≤ maxLen) (hl2 : ks.length ≤ maxLen) (hs : ∀ x ∈ xs, x.size ≤ maxLen) :
    Calls Try.prog 22 #[.agg #[.slice a xs.length ca, .slice b ks.length cb], .int .i64 1048576] w fun e w' => ∃ r : Int, e = .returned (.int .i64 r) ∧ (0 ≤ r → (xs.length ≤ 1048576 ∧ ∀ x ∈ xs, x.size ≤ 1048576) ∧ ks.length ≤ 1048576) ∧ Below w.heap.size w w' := by
  have hb0 : Below w.heap.size w (w.alloc (.cells #[.slice a xs.length ca, .slice b ks.length cb] 38)) := (Below.refl _ _).alloc (Nat.le_refl _) _
  have H1 := szS_is a ca xs _ (hr.later hb0) hl hs
  go_enter Try.func22, Try.ntmps22
  go_wp2_with fail
  refine H1.mono ?_
  rintro e w1 ⟨r, rfl, hR, hr2, rfl⟩
  by_cases h0 : 0 ≤ r
  · have h0' : ¬ r < 0 := by omega
    have HR : Hid (xs.length ≤ 1048576 ∧ ∀ x ∈ xs, x.size ≤ 1048576) := hR h0
    clear hR H1
    go_wp2_with fail
    refine (szI_is b cb ks r _ hl2 h0 hr2.2).mono ?_
    rintro e w1 ⟨r2, rfl, hR2, rfl⟩
    by_cases h1 : 0 ≤ r2
    · have h1' : ¬ r2 < 0 := by omega
      have HR2 := hR2 h1
      go_wp2
      go_ret
      exact ⟨r2, rfl, fun _ => ⟨HR.out, HR2⟩, hb0⟩
    · have h1' : r2 < 0 := by omega
      go_wp2
      go_ret
      exact ⟨-1, rfl, fun h => absurd h (by omega), hb0⟩
  · have h0' : r < 0 := by omega
    go_wp2
    go_ret
    exact ⟨-1, rfl, fun h => absurd h (by omega), hb0⟩

/-- A value of two rows that the call itself has made. -/
def OwnK (base : Nat) (w : World) (v : Value) (xs : List ByteArray) (ks : List Int) : Prop :=
  ∃ g1 g2 : Nat, v = .agg #[.slice (some ⟨g1, 0, none⟩) xs.length xs.length, .slice (some ⟨g2, 0, none⟩) ks.length ks.length] ∧
    w.ownsRow base 9 1 (.slice (some ⟨g1, 0, none⟩) xs.length xs.length) xs.length (xs.map Value.string) ∧
    w.ownsRow base 3 1 (.slice (some ⟨g2, 0, none⟩) ks.length ks.length) ks.length (ks.map (Value.int .i64))
theorem own_base {w : World} {base base' : Nat} {e : TypeId} {sz n : Nat} {v : Value} {xs : List Value} (h : w.ownsRow base e sz v n xs) (hb : base' ≤ base) : w.ownsRow base' e sz v n xs := by
  refine ⟨h.1, ?_⟩
  rcases h.2 with h0 | ⟨g, cap, cur, e1, e2, e3⟩
  · exact Or.inl h0
  · exact Or.inr ⟨g, cap, cur, e1, Nat.le_trans hb e2, e3⟩

set_option maxRecDepth 100000 in
set_option maxHeartbeats 1600000 in
theorem toKnown_is (a b : Option Addr) (ca cb : Nat) (xs : List ByteArray) (ks : List Int) (w : World) (hr : RowAt Value.string w a xs) (hq : RowAt (Value.int .i64) w b ks) (hl : xs.length ≤ 1048576) (hl2 : ks.length ≤ 1048576) :
    Calls Try.prog 23 #[.agg #[.slice a xs.length ca, .slice b ks.length cb]] w fun e w' => ∃ v, e = .returned v ∧ OwnK w.heap.size w' v xs ks ∧ Below w.heap.size w w' := by
  obtain ⟨W3, hW3⟩ : ∃ W3, ((w.alloc (.cells #[.slice a xs.length ca, .slice b ks.length cb] 38)).alloc (.cells #[.slice none 0 0, .slice none 0 0] 27)).alloc (.cells #[.slice none 0 0, .slice none 0 0] 27) = W3 := ⟨_, rfl⟩
  have hb0 : Below w.heap.size w W3 := by rw [← hW3]; exact (((Below.refl _ _).alloc (Nat.le_refl _) _).alloc (by simp) _).alloc (by simp; omega) _
  have hz : Hid (W3.heap.size = w.heap.size + 3) := by show W3.heap.size = w.heap.size + 3; rw [← hW3]; simp
  have c0 : W3.cell? ⟨w.heap.size, 0, none⟩ = some (.slice a xs.length ca) := by rw [← hW3]; simp [go_sem]
  have c1 : W3.cell? ⟨w.heap.size, 1, none⟩ = some (.slice b ks.length cb) := by rw [← hW3]; simp [go_sem]
  have c2 : W3.cell? ⟨w.heap.size + 1 + 1, 0, none⟩ = some (.slice none 0 0) := by rw [← hW3]; simp [go_sem]
  have c3 : W3.cell? ⟨w.heap.size + 1 + 1, 1, none⟩ = some (.slice none 0 0) := by rw [← hW3]; simp [go_sem]
  have c4 : W3.cell? ⟨w.heap.size + 1, 0, none⟩ = some (.slice none 0 0) := by rw [← hW3]; simp [go_sem]
  have c5 : W3.cell? ⟨w.heap.size + 1, 1, none⟩ = some (.slice none 0 0) := by rw [← hW3]; simp [go_sem]
  have f2 : W3.frozen? ⟨w.heap.size + 1 + 1, 0, none⟩ = false := by rw [← hW3]; simp [go_sem]
  have f3 : W3.frozen? ⟨w.heap.size + 1 + 1, 1, none⟩ = false := by rw [← hW3]; simp [go_sem]
  have f4 : W3.frozen? ⟨w.heap.size + 1, 0, none⟩ = false := by rw [← hW3]; simp [go_sem]
  have f5 : W3.frozen? ⟨w.heap.size + 1, 1, none⟩ = false := by rw [← hW3]; simp [go_sem]
  have H1 := toS_is a ca xs W3 (hr.later hb0) hl
  go_enter Try.func23, Try.ntmps23
  go_wp2_with fail
  try rw [hW3]
  refine H1.mono ?_
  clear hW3 H1
  rintro e w1 ⟨rfl, ho1, hb1⟩
  have L0 : ∀ o, (⟨w.heap.size, o, none⟩ : Addr).block < W3.heap.size := fun o => by have := hz.out; show w.heap.size < _; omega
  have L1 : ∀ o, (⟨w.heap.size + 1, o, none⟩ : Addr).block < W3.heap.size := fun o => by have := hz.out; show w.heap.size + 1 < _; omega
  have L2 : ∀ o, (⟨w.heap.size + 1 + 1, o, none⟩ : Addr).block < W3.heap.size := fun o => by have := hz.out; show w.heap.size + 1 + 1 < _; omega
  obtain ⟨w2, hw2⟩ : ∃ w2, w1.setCell ⟨w.heap.size + 1 + 1, 0, none⟩ (Value.slice (some ⟨W3.heap.size, 0, none⟩) xs.length xs.length) = w2 := ⟨_, rfl⟩
  have d1 : w2.cell? ⟨w.heap.size, 1, none⟩ = some (.slice b ks.length cb) := by rw [← hw2, World.cell?_setCell_other _ _ _ _ (by simp), hb1.cell (L0 1)]; exact c1
  have d2 : w2.cell? ⟨w.heap.size + 1 + 1, 0, none⟩ = some (Value.slice (some ⟨W3.heap.size, 0, none⟩) xs.length xs.length) := by rw [← hw2]; exact World.cell?_setCell_same' _ _ _ (by rw [hb1.cell (L2 0), c2]; rfl)
  have d3 : w2.cell? ⟨w.heap.size + 1 + 1, 1, none⟩ = some (.slice none 0 0) := by rw [← hw2, World.cell?_setCell_other _ _ _ _ (by simp), hb1.cell (L2 1)]; exact c3
  have d4 : w2.cell? ⟨w.heap.size + 1, 0, none⟩ = some (.slice none 0 0) := by rw [← hw2, World.cell?_setCell_other _ _ _ _ (by simp), hb1.cell (L1 0)]; exact c4
  have d5 : w2.cell? ⟨w.heap.size + 1, 1, none⟩ = some (.slice none 0 0) := by rw [← hw2, World.cell?_setCell_other _ _ _ _ (by simp), hb1.cell (L1 1)]; exact c5
  have e3 : w2.frozen? ⟨w.heap.size + 1 + 1, 1, none⟩ = false := by rw [← hw2, World.frozen?_setCell, hb1.frozen (L2 1)]; exact f3
  have e4 : w2.frozen? ⟨w.heap.size + 1, 0, none⟩ = false := by rw [← hw2, World.frozen?_setCell, hb1.frozen (L1 0)]; exact f4
  have e5 : w2.frozen? ⟨w.heap.size + 1, 1, none⟩ = false := by rw [← hw2, World.frozen?_setCell, hb1.frozen (L1 1)]; exact f5
  have hb2 : Below w.heap.size w w2 := by rw [← hw2]; exact (hb0.trans (hb1.mono hb0.size)).setCell (by show w.heap.size ≤ w.heap.size + 1 + 1; omega) _
  have ho2 : w2.ownsRow W3.heap.size 9 1 (Value.slice (some ⟨W3.heap.size, 0, none⟩) xs.length xs.length) xs.length (xs.map Value.string) := by rw [← hw2]; exact ownsRow_setCell_below ho1 (L2 0) _
  have hz2 : W3.heap.size ≤ w2.heap.size := by rw [← hw2]; simpa using hb1.size
  have x1 : w1.cell? ⟨w.heap.size + 1 + 1, 0, none⟩ = some (.slice none 0 0) := by rw [hb1.cell (L2 0)]; exact c2
  have x2 : w1.frozen? ⟨w.heap.size + 1 + 1, 0, none⟩ = false := by rw [hb1.frozen (L2 0)]; exact f2
  have x3 : w1.cell? ⟨w.heap.size, 1, none⟩ = some (.slice b ks.length cb) := by rw [hb1.cell (L0 1)]; exact c1
  have H2 := toI_is b cb ks w2 (hq.later hb2) hl2
  clear c0 c1 c2 c3 c4 c5 f2 f3 f4 f5 ho1 hb1 hr hq
  go_wp2_with fail
  try rw [hw2]
  refine H2.mono ?_
  clear hw2 H2 x1 x2 x3
  rintro e w3 ⟨rfl, ho3, hb3⟩
  have M1 : ∀ o, (⟨w.heap.size + 1, o, none⟩ : Addr).block < w2.heap.size := fun o => Nat.lt_of_lt_of_le (L1 o) hz2
  have M2 : ∀ o, (⟨w.heap.size + 1 + 1, o, none⟩ : Addr).block < w2.heap.size := fun o => Nat.lt_of_lt_of_le (L2 o) hz2
  rw [← hb3.cell (M2 0)] at d2
  rw [← hb3.cell (M2 1)] at d3
  rw [← hb3.cell (M1 0)] at d4
  rw [← hb3.cell (M1 1)] at d5
  rw [← hb3.frozen (M2 1)] at e3
  rw [← hb3.frozen (M1 0)] at e4
  rw [← hb3.frozen (M1 1)] at e5
  have hb4 := hb2.trans (hb3.mono hb2.size)
  have ho4 := own_later ho2 hb3
  have HP : Hid (∀ (p q r : Addr) (u v x : Value), p.block < W3.heap.size → q.block < W3.heap.size → r.block < W3.heap.size → w.heap.size ≤ p.block → w.heap.size ≤ q.block → w.heap.size ≤ r.block → OwnK w.heap.size (((w3.setCell p u).setCell q v).setCell r x) (.agg #[(Value.slice (some ⟨W3.heap.size, 0, none⟩) xs.length xs.length), (Value.slice (some ⟨w2.heap.size, 0, none⟩) ks.length ks.length)]) xs ks ∧ Below w.heap.size w (((w3.setCell p u).setCell q v).setCell r x)) := by
    intro p q r u v x hp hq hr hp' hq' hr'
    refine ⟨⟨W3.heap.size, w2.heap.size, rfl, ?_, ?_⟩, ((hb4.setCell hp' u).setCell hq' v).setCell hr' x⟩
    · exact own_base (ownsRow_setCell_below (ownsRow_setCell_below (ownsRow_setCell_below ho4 hp u) hq v) hr x) (by have := hz.out; omega)
    · exact own_base (ownsRow_setCell_below (ownsRow_setCell_below (ownsRow_setCell_below ho3 (Nat.lt_of_lt_of_le hp hz2) u) (Nat.lt_of_lt_of_le hq hz2) v) (Nat.lt_of_lt_of_le hr hz2) x) (by have := hz.out; omega)
  clear d1 ho2 ho3 ho4 hb2 hb3 hb4
  go_wp2
  have HF := HP.out ⟨w.heap.size + 1 + 1, 1, none⟩ ⟨w.heap.size + 1, 0, none⟩ ⟨w.heap.size + 1, 1, none⟩ (Value.slice (some ⟨w2.heap.size, 0, none⟩) ks.length ks.length) (Value.slice (some ⟨W3.heap.size, 0, none⟩) xs.length xs.length) (Value.slice (some ⟨w2.heap.size, 0, none⟩) ks.length ks.length) (L2 1) (L1 0) (L1 1) (by show w.heap.size ≤ w.heap.size + 1 + 1; omega) (by show w.heap.size ≤ w.heap.size + 1; omega) (by show w.heap.size ≤ w.heap.size + 1; omega)
  obtain ⟨W4, hW4⟩ : ∃ W4, ((w3.setCell ⟨w.heap.size + 1 + 1, 1, none⟩ (Value.slice (some ⟨w2.heap.size, 0, none⟩) ks.length ks.length)).setCell ⟨w.heap.size + 1, 0, none⟩ (Value.slice (some ⟨W3.heap.size, 0, none⟩) xs.length xs.length)).setCell ⟨w.heap.size + 1, 1, none⟩ (Value.slice (some ⟨w2.heap.size, 0, none⟩) ks.length ks.length) = W4 := ⟨_, rfl⟩
  have y0 : W4.cell? ⟨w.heap.size + 1, 0, none⟩ = some (Value.slice (some ⟨W3.heap.size, 0, none⟩) xs.length xs.length) := by
    rw [← hW4, World.cell?_setCell_other _ _ _ _ (by simp)]
    exact World.cell?_setCell_same' _ _ _ (by rw [World.cell?_setCell_other _ _ _ _ (by simp), d4]; rfl)
  have y1 : W4.cell? ⟨w.heap.size + 1, 1, none⟩ = some (Value.slice (some ⟨w2.heap.size, 0, none⟩) ks.length ks.length) := by
    rw [← hW4]
    exact World.cell?_setCell_same' _ _ _ (by rw [World.cell?_setCell_other _ _ _ _ (by simp), World.cell?_setCell_other _ _ _ _ (by simp), d5]; rfl)
  rw [hW4] at HF ⊢
  refine bodyPost_ret (v := .agg #[(Value.slice (some ⟨W3.heap.size, 0, none⟩) xs.length xs.length), (Value.slice (some ⟨w2.heap.size, 0, none⟩) ks.length ks.length)]) ?_ rfl ⟨_, rfl, HF.1, HF.2⟩
  simp [results, asAddr, go_sem, y0, y1, loadVar, Try.isAgg27, Try.sizeOf27]

set_option maxRecDepth 100000 in
set_option maxHeartbeats 1600000 in
theorem eqKnown_is (a b c d : Option Addr) (ca cb cc cd : Nat) (xs : List ByteArray) (ks : List Int) (w : World) (ha : RowAt Value.string w a xs) (hb : RowAt (Value.int .i64) w b ks) (hc : RowAt Value.string w c xs) (hd : RowAt (Value.int .i64) w d ks) (hl : xs.length ≤ 1048576) (hl2 : ks.length ≤ 1048576) :
    Calls Try.prog 25 #[.agg #[.slice a xs.length ca, .slice b ks.length cb], .agg #[.slice c xs.length cc, .slice d ks.length cd]] w fun e w' => e = .returned (.bool true) ∧ Below w.heap.size w w' := by
  obtain ⟨W2, hW2⟩ : ∃ W2, (w.alloc (.cells #[.slice a xs.length ca, .slice b ks.length cb] 27)).alloc (.cells #[.slice c xs.length cc, .slice d ks.length cd] 27) = W2 := ⟨_, rfl⟩
  have hb0 : Below w.heap.size w W2 := by rw [← hW2]; exact ((Below.refl _ _).alloc (Nat.le_refl _) _).alloc (by simp) _
  have hz : Hid (W2.heap.size = w.heap.size + 2) := by show W2.heap.size = w.heap.size + 2; rw [← hW2]; simp
  have c0 : W2.cell? ⟨w.heap.size, 0, none⟩ = some (.slice a xs.length ca) := by rw [← hW2]; simp [go_sem]
  have c1 : W2.cell? ⟨w.heap.size, 1, none⟩ = some (.slice b ks.length cb) := by rw [← hW2]; simp [go_sem]
  have c2 : W2.cell? ⟨w.heap.size + 1, 0, none⟩ = some (.slice c xs.length cc) := by rw [← hW2]; simp [go_sem]
  have c3 : W2.cell? ⟨w.heap.size + 1, 1, none⟩ = some (.slice d ks.length cd) := by rw [← hW2]; simp [go_sem]
  have H1 := eqS_is a c ca cc xs W2 (ha.later hb0) (hc.later hb0) hl
  go_enter Try.func25, Try.ntmps25
  go_wp2_with fail
  try rw [hW2]
  refine H1.mono ?_
  clear hW2 H1
  rintro e w1 ⟨rfl, hb1⟩
  have hb2 := hb0.trans (hb1.mono hb0.size)
  rw [← hb1.cell (p := ⟨w.heap.size, 1, none⟩) (by have := hz.out; show w.heap.size < _; omega)] at c1
  rw [← hb1.cell (p := ⟨w.heap.size + 1, 1, none⟩) (by have := hz.out; show w.heap.size + 1 < _; omega)] at c3
  have H2 := eqI_is b d cb cd ks w1 (hb.later hb2) (hd.later hb2) hl2
  clear c0 c2
  go_wp2_with fail
  refine H2.mono ?_
  rintro e w2 ⟨rfl, hb3⟩
  go_wp2
  go_ret
  exact ⟨rfl, hb2.trans (hb3.mono hb2.size)⟩
end Go.Proofs.Ytkekfogepdhjhaa
