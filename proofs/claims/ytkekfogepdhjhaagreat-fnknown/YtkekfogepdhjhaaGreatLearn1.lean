/- What is learned: the model, on rows that are the call's own. -/
import Derived.Test.YtkekfogepdhjhaaGreatKnow4
import Derived.Maps.AppendAt
set_option linter.unusedVariables false
namespace Go.Proofs.YtkekfogepdhjhaaGreat
open Go.RowKit Own Var Term

/-- With one more term at the end, where it is one, is not there, and there is room. -/
def putT (xs : List ByteArray) (t : ByteArray) : List ByteArray := if isT t = true ∧ inB xs t = false ∧ xs.length < 60 then xs ++ [t] else xs
theorem own_setCell {w : World} {base : Nat} {e : TypeId} {sz n : Nat} {v : Value} {xs : List Value} (h : w.ownsRow base e sz v n xs) (p : Addr) (u : Value) (hne : v.ownBlock ≠ some p.block) : (w.setCell p u).ownsRow base e sz v n xs := by
  refine ⟨h.1, ?_⟩
  rcases h.2 with h0 | ⟨g, cap, cur, e1, e2, e3, e4⟩
  · exact Or.inl h0
  · subst e1
    exact Or.inr ⟨g, cap, cur, rfl, e2, (Below.heap_setCell w p u g (fun e => hne (by rw [← e]; rfl))).trans e3, e4⟩
theorem strV_snoc (xs : List ByteArray) (t : ByteArray) : strV xs ++ [.string t] = strV (xs ++ [t]) := by unfold strV; rw [List.map_append]; rfl

set_option maxRecDepth 100000 in
set_option maxHeartbeats 3200000 in
theorem l3Learn_no (a b : Option Addr) (ca cb : Nat) (xs : List ByteArray) (ks : List Int) (t : ByteArray) (w : World) (hr : RowAt Value.string w a xs) (hl : xs.length ≤ 1048576) (ht : t.size ≤ 1048576)
    (hno : ¬ (isT t = true ∧ inB xs t = false ∧ xs.length < 60)) :
    Calls Tryz.prog 47 #[.agg #[.slice a xs.length ca, .slice b ks.length cb], .string t] w fun e w' => e = .returned (.agg #[.slice a xs.length ca, .slice b ks.length cb]) ∧ Below w.heap.size w w' := by
  obtain ⟨W2, hW2⟩ : ∃ W2, (w.alloc (.cells #[.slice a xs.length ca, .slice b ks.length cb] 27)).alloc (.cells #[.slice none 0 0, .slice none 0 0] 27) = W2 := ⟨_, rfl⟩
  have hb0 : Below w.heap.size w W2 := by rw [← hW2]; exact ((Below.refl _ _).alloc (Nat.le_refl _) _).alloc (by simp) _
  have hz : Hid (W2.heap.size = w.heap.size + 2) := by show W2.heap.size = w.heap.size + 2; rw [← hW2]; simp
  have c0 : W2.cell? ⟨w.heap.size, 0, none⟩ = some (.slice a xs.length ca) := by rw [← hW2]; simp [go_sem]
  have c1 : W2.cell? ⟨w.heap.size, 1, none⟩ = some (.slice b ks.length cb) := by rw [← hW2]; simp [go_sem]
  have c2 : W2.cell? ⟨w.heap.size + 1, 0, none⟩ = some (.slice none 0 0) := by rw [← hW2]; simp [go_sem]
  have c3 : W2.cell? ⟨w.heap.size + 1, 1, none⟩ = some (.slice none 0 0) := by rw [← hW2]; simp [go_sem]
  have f2 : W2.frozen? ⟨w.heap.size + 1, 0, none⟩ = false := by rw [← hW2]; simp [go_sem]
  have f3 : W2.frozen? ⟨w.heap.size + 1, 1, none⟩ = false := by rw [← hW2]; simp [go_sem]
  have L0 : ∀ o, (⟨w.heap.size, o, none⟩ : Addr).block < W2.heap.size := fun o => by have := hz.out; show w.heap.size < _; omega
  have L1 : ∀ o, (⟨w.heap.size + 1, o, none⟩ : Addr).block < W2.heap.size := fun o => by have := hz.out; show w.heap.size + 1 < _; omega
  have hO := spec_ok t W2 ht
  have FIN : Hid (∀ (W : World) (v0 v1 : Value), Below W2.heap.size W2 W → ((W.setCell ⟨w.heap.size + 1, 0, none⟩ v0).setCell ⟨w.heap.size + 1, 1, none⟩ v1).cell? ⟨w.heap.size + 1, 0, none⟩ = some v0 ∧ ((W.setCell ⟨w.heap.size + 1, 0, none⟩ v0).setCell ⟨w.heap.size + 1, 1, none⟩ v1).cell? ⟨w.heap.size + 1, 1, none⟩ = some v1 ∧ Below w.heap.size w ((W.setCell ⟨w.heap.size + 1, 0, none⟩ v0).setCell ⟨w.heap.size + 1, 1, none⟩ v1)) := by
    intro W v0 v1 hB
    have d2 := (hB.cell (L1 0)).trans c2
    have d3 := (hB.cell (L1 1)).trans c3
    have hb5 := hb0.trans (hB.mono hb0.size)
    refine ⟨?_, ?_, (hb5.setCell (by show w.heap.size ≤ w.heap.size + 1; omega) _).setCell (by show w.heap.size ≤ w.heap.size + 1; omega) _⟩
    · rw [World.cell?_setCell_other _ _ _ _ (by simp)]
      exact World.cell?_setCell_same' _ _ _ (by rw [d2]; rfl)
    · exact World.cell?_setCell_same' _ _ _ (by rw [World.cell?_setCell_other _ _ _ _ (by simp), d3]; rfl)
  cases hT : isT t with
  | false =>
    rw [hT] at hO
    clear hno
    go_enter Tryz.func47, Tryz.ntmps47
    go_wp2_with fail
    try rw [hW2]
    refine hO.mono ?_
    clear hW2 hO
    rintro e w1 ⟨rfl, hb1⟩
    have FF := FIN.out w1 (.slice a xs.length ca) (.slice b ks.length cb) hb1
    have e0 := (hb1.cell (L0 0)).trans c0
    have e1 := (hb1.cell (L0 1)).trans c1
    have d2 := (hb1.cell (L1 0)).trans c2
    have d3 := (hb1.cell (L1 1)).trans c3
    have x2 := (hb1.frozen (L1 0)).trans f2
    have x3 := (hb1.frozen (L1 1)).trans f3
    go_wp2
    refine bodyPost_ret (res_two rfl _ _ (w.heap.size + 1) _ _ rfl FF.1 FF.2.1) rfl ⟨rfl, FF.2.2⟩
  | true =>
    rw [hT] at hO hno
    have hI := fun w' (hb : Below W2.heap.size W2 w') => l3In_is a ca xs t w' ((hr.later hb0).later hb) hl
    cases hIn : inB xs t with
    | true =>
      simp only [hIn] at hI
      clear hno
      go_enter Tryz.func47, Tryz.ntmps47
      go_wp2_with fail
      try rw [hW2]
      refine hO.mono ?_
      clear hW2 hO
      rintro e w1 ⟨rfl, hb1⟩
      have FF := FIN.out w1 (.slice a xs.length ca) (.slice b ks.length cb) hb1
      have e0 := (hb1.cell (L0 0)).trans c0
      have e1 := (hb1.cell (L0 1)).trans c1
      have d2 := (hb1.cell (L1 0)).trans c2
      have d3 := (hb1.cell (L1 1)).trans c3
      have x2 := (hb1.frozen (L1 0)).trans f2
      have x3 := (hb1.frozen (L1 1)).trans f3
      go_wp2_with fail
      refine (hI w1 hb1).mono ?_
      rintro e w2 ⟨rfl, rfl⟩
      go_wp2
      refine bodyPost_ret (res_two rfl _ _ (w.heap.size + 1) _ _ rfl FF.1 FF.2.1) rfl ⟨rfl, FF.2.2⟩
    | false =>
      simp only [hIn] at hI
      have h60 : decide ((xs.length : Int) < 60) = false := by
        have : ¬ xs.length < 60 := fun h => hno ⟨rfl, hIn, h⟩
        simp; omega
      clear hno
      go_enter Tryz.func47, Tryz.ntmps47
      go_wp2_with fail
      try rw [hW2]
      refine hO.mono ?_
      clear hW2 hO
      rintro e w1 ⟨rfl, hb1⟩
      have FF := FIN.out w1 (.slice a xs.length ca) (.slice b ks.length cb) hb1
      have e0 := (hb1.cell (L0 0)).trans c0
      have e1 := (hb1.cell (L0 1)).trans c1
      have d2 := (hb1.cell (L1 0)).trans c2
      have d3 := (hb1.cell (L1 1)).trans c3
      have x2 := (hb1.frozen (L1 0)).trans f2
      have x3 := (hb1.frozen (L1 1)).trans f3
      go_wp2_with fail
      refine (hI w1 hb1).mono ?_
      rintro e w2 ⟨rfl, rfl⟩
      go_wp2
      refine bodyPost_ret (res_two rfl _ _ (w.heap.size + 1) _ _ rfl FF.1 FF.2.1) rfl ⟨rfl, FF.2.2⟩

set_option maxRecDepth 100000 in
set_option maxHeartbeats 3200000 in
theorem l3Learn_yes (B : Nat) (a b : Option Addr) (ca cb : Nat) (xs : List ByteArray) (ks : List Int) (t : ByteArray) (w : World) (ho : w.ownsRow B 9 1 (.slice a xs.length ca) xs.length (strV xs)) (hp : w.ownsRow B 3 1 (.slice b ks.length cb) ks.length (intV ks)) (hB : B ≤ w.heap.size) (ht : t.size ≤ 1048576)
    (hT : isT t = true) (hIn : inB xs t = false) (h60 : xs.length < 60) :
    Calls Tryz.prog 47 #[.agg #[.slice a xs.length ca, .slice b ks.length cb], .string t] w fun e w' => ∃ v, e = .returned v ∧ KeepK B w' v (xs ++ [t]) ks ∧ Below B w w' := by
  obtain ⟨i0, hi, hz0, hz1, hz2⟩ := info_parts infoStr
  obtain ⟨W2, hW2⟩ : ∃ W2, (w.alloc (.cells #[.slice a xs.length ca, .slice b ks.length cb] 27)).alloc (.cells #[.slice none 0 0, .slice none 0 0] 27) = W2 := ⟨_, rfl⟩
  have hb0 : Below w.heap.size w W2 := by rw [← hW2]; exact ((Below.refl _ _).alloc (Nat.le_refl _) _).alloc (by simp) _
  have hz : Hid (W2.heap.size = w.heap.size + 2) := by show W2.heap.size = w.heap.size + 2; rw [← hW2]; simp
  have c0 : W2.cell? ⟨w.heap.size, 0, none⟩ = some (.slice a xs.length ca) := by rw [← hW2]; simp [go_sem]
  have c1 : W2.cell? ⟨w.heap.size, 1, none⟩ = some (.slice b ks.length cb) := by rw [← hW2]; simp [go_sem]
  have c2 : W2.cell? ⟨w.heap.size + 1, 0, none⟩ = some (.slice none 0 0) := by rw [← hW2]; simp [go_sem]
  have c3 : W2.cell? ⟨w.heap.size + 1, 1, none⟩ = some (.slice none 0 0) := by rw [← hW2]; simp [go_sem]
  have f0 : W2.frozen? ⟨w.heap.size, 0, none⟩ = false := by rw [← hW2]; simp [go_sem]
  have f2 : W2.frozen? ⟨w.heap.size + 1, 0, none⟩ = false := by rw [← hW2]; simp [go_sem]
  have f3 : W2.frozen? ⟨w.heap.size + 1, 1, none⟩ = false := by rw [← hW2]; simp [go_sem]
  have L0 : ∀ o, (⟨w.heap.size, o, none⟩ : Addr).block < W2.heap.size := fun o => by have := hz.out; show w.heap.size < _; omega
  have L1 : ∀ o, (⟨w.heap.size + 1, o, none⟩ : Addr).block < W2.heap.size := fun o => by have := hz.out; show w.heap.size + 1 < _; omega
  obtain ⟨a', ca', ea, _, hr⟩ := own_row ho
  simp only [Value.slice.injEq] at ea
  obtain ⟨rfl, _, rfl⟩ := ea
  have hO := spec_ok t W2 ht
  rw [hT] at hO
  have hI := fun w' (hb : Below W2.heap.size W2 w') => l3In_is a ca xs t w' ((hr.later hb0).later hb) (by omega)
  simp only [hIn] at hI
  have h60' : (xs.length : Int) < 60 := by omega
  have hlt1 : ∀ k, (Value.slice a xs.length ca).ownBlock = some k → k < w.heap.size := fun k hk => (ho.lt k hk).2
  have hlt2 : ∀ k, (Value.slice b ks.length cb).ownBlock = some k → k < w.heap.size := fun k hk => (hp.lt k hk).2
  go_enter Tryz.func47, Tryz.ntmps47
  go_wp2_with fail
  try rw [hW2]
  refine hO.mono ?_
  clear hW2 hO
  rintro e w1 ⟨rfl, hb1⟩
  have e0 := (hb1.cell (L0 0)).trans c0
  have e1 := (hb1.cell (L0 1)).trans c1
  have d2 := (hb1.cell (L1 0)).trans c2
  have d3 := (hb1.cell (L1 1)).trans c3
  have x0 := (hb1.frozen (L0 0)).trans f0
  have x2 := (hb1.frozen (L1 0)).trans f2
  have x3 := (hb1.frozen (L1 1)).trans f3
  have ho1 := own_later (own_later ho hb0) hb1
  have hp1 := own_later (own_later hp hb0) hb1
  have hb01 := hb0.trans (hb1.mono hb0.size)
  have hz1' : Hid (w.heap.size + 2 ≤ w1.heap.size) := by have h1 := hz.out; have h2 := hb1.size; show w.heap.size + 2 ≤ w1.heap.size; omega
  go_wp2_with fail
  refine (hI w1 hb1).mono ?_
  rintro e w2 ⟨rfl, rfl⟩
  clear hI hb1
  go_wp2_with (first | (at_builtin; refine wpList_append_own_at _ rfl _ _ 24 rfl B 9 i0 (.string ⟨#[]⟩) 1 16 Tryz.underlying24 hi hz0 hz1 hz2 rfl (by decide) _ _ _ rfl (ho1.alloc _) ⟨w1.heap.size, 0, none⟩ 1 1 [.string t] rfl rfl (cell_one_new _ _ _) ?c2 ?c3 ?c4 ?c5 ?_) | go_in)
  case c2 => intro u hu; simp at hu; subst hu; rfl
  case c3 => unfold maxLen; omega
  case c4 => omega
  case c5 => have := hb01.size; simp; omega
  intro v' w4 hown' hgrow _ hloc
  have hb4 : Below B w w4 := below_app (hb01.mono hB) hB ho1 hgrow
  have hp4 := World.ownsRow.kept (hp1.alloc (.cells #[.string t] 9)) hgrow (own_ne' ho hp)
  have hk4 : ∀ k, w.heap.size ≤ k → k < w.heap.size + 2 → w4.heap[k]? = w1.heap[k]? := fun k h1 h2 =>
    (hgrow.block k (by have := hz1'.out; simp; omega) (fun e => absurd (hlt1 k e.symm) (by omega))).trans (Below.heap_alloc w1 _ k (by have := hz1'.out; omega))
  rw [strV_snoc] at hown'
  have hne : ∀ k, w.heap.size ≤ k → k < w.heap.size + 2 → v'.ownBlock ≠ some k := by
    intro k h1 h2 e
    rcases hloc with h | h
    · rw [h] at e; exact absurd (hlt1 k e) (by omega)
    · rw [h] at e
      have := hz1'.out
      simp at e
      omega
  have hne2 : ∀ k, w.heap.size ≤ k → (Value.slice b ks.length cb).ownBlock ≠ some k := fun k h1 e => absurd (hlt2 k e) (by omega)
  have y1 : w4.cell? ⟨w.heap.size, 1, none⟩ = some (.slice b ks.length cb) := (World.cell?_of_block (w := w1) (a := ⟨w.heap.size, 1, none⟩) (hk4 w.heap.size (by omega) (by omega))).trans e1
  have y0 : w4.cell? ⟨w.heap.size, 0, none⟩ = some (.slice a xs.length ca) := (World.cell?_of_block (w := w1) (a := ⟨w.heap.size, 0, none⟩) (hk4 w.heap.size (by omega) (by omega))).trans e0
  have y2 : w4.cell? ⟨w.heap.size + 1, 0, none⟩ = some (.slice none 0 0) := (World.cell?_of_block (w := w1) (a := ⟨w.heap.size + 1, 0, none⟩) (hk4 (w.heap.size + 1) (by omega) (by omega))).trans d2
  have y3 : w4.cell? ⟨w.heap.size + 1, 1, none⟩ = some (.slice none 0 0) := (World.cell?_of_block (w := w1) (a := ⟨w.heap.size + 1, 1, none⟩) (hk4 (w.heap.size + 1) (by omega) (by omega))).trans d3
  have z0 : w4.frozen? ⟨w.heap.size, 0, none⟩ = false := (World.frozen?_of_block (w := w1) (a := ⟨w.heap.size, 0, none⟩) (hk4 w.heap.size (by omega) (by omega))).trans x0
  have z2 : w4.frozen? ⟨w.heap.size + 1, 0, none⟩ = false := (World.frozen?_of_block (w := w1) (a := ⟨w.heap.size + 1, 0, none⟩) (hk4 (w.heap.size + 1) (by omega) (by omega))).trans x2
  have z3 : w4.frozen? ⟨w.heap.size + 1, 1, none⟩ = false := (World.frozen?_of_block (w := w1) (a := ⟨w.heap.size + 1, 1, none⟩) (hk4 (w.heap.size + 1) (by omega) (by omega))).trans x3
  obtain ⟨a2, ca2, rfl, _, _⟩ := own_row hown'
  obtain ⟨W5, hW5⟩ : ∃ W5, ((w4.setCell ⟨w.heap.size, 0, none⟩ (.slice a2 (xs ++ [t]).length ca2)).setCell ⟨w.heap.size + 1, 0, none⟩ (.slice a2 (xs ++ [t]).length ca2)).setCell ⟨w.heap.size + 1, 1, none⟩ (.slice b ks.length cb) = W5 := ⟨_, rfl⟩
  have q0 : W5.cell? ⟨w.heap.size + 1, 0, none⟩ = some (.slice a2 (xs ++ [t]).length ca2) := by
    rw [← hW5, World.cell?_setCell_other _ _ _ _ (by simp)]
    exact World.cell?_setCell_same' _ _ _ (by rw [World.cell?_setCell_other _ _ _ _ (by simp), y2]; rfl)
  have q1 : W5.cell? ⟨w.heap.size + 1, 1, none⟩ = some (.slice b ks.length cb) := by
    rw [← hW5]
    exact World.cell?_setCell_same' _ _ _ (by rw [World.cell?_setCell_other _ _ _ _ (by simp), World.cell?_setCell_other _ _ _ _ (by simp), y3]; rfl)
  have HF : KeepK B W5 (.agg #[.slice a2 (xs ++ [t]).length ca2, .slice b ks.length cb]) (xs ++ [t]) ks ∧ Below B w W5 := by
    rw [← hW5]
    refine ⟨⟨a2, b, ca2, cb, rfl, ?_, ?_⟩, ((hb4.setCell hB _).setCell (by show B ≤ w.heap.size + 1; omega) _).setCell (by show B ≤ w.heap.size + 1; omega) _⟩
    · have hl : xs.length + 1 = (xs ++ [t]).length := by simp
      rw [hl] at hown'
      exact own_setCell (own_setCell (own_setCell hown' _ _ (hne _ (Nat.le_refl _) (by show w.heap.size < _; omega))) _ _ (hne _ (by show w.heap.size ≤ w.heap.size + 1; omega) (by show w.heap.size + 1 < _; omega))) _ _ (hne _ (by show w.heap.size ≤ w.heap.size + 1; omega) (by show w.heap.size + 1 < _; omega))
    · exact own_setCell (own_setCell (own_setCell hp4 _ _ (hne2 _ (Nat.le_refl _))) _ _ (hne2 _ (by show w.heap.size ≤ w.heap.size + 1; omega))) _ _ (hne2 _ (by show w.heap.size ≤ w.heap.size + 1; omega))
  clear hown' hgrow hloc hne hne2 hk4 hp4 hb4 ho1 hp1 e0 e1 d2 d3 x0 x2 x3 hb01
  generalize (xs ++ [t]).length = nn at *
  go_wp2
  try rw [hW5]
  refine bodyPost_ret (res_two rfl _ W5 (w.heap.size + 1) _ _ rfl q0 q1) rfl ⟨_, rfl, HF.1, HF.2⟩
end Go.Proofs.YtkekfogepdhjhaaGreat

set_option linter.unusedVariables false
namespace Go.Proofs.YtkekfogepdhjhaaGreat
open Go.RowKit Own Var Term

/-- What Learn answers: its terms, its keys. -/
def lrnT (xs : List ByteArray) (ks : List Int) (t : ByteArray) : List ByteArray := if kOk xs ks = true then putT xs t else []
def lrnK (xs : List ByteArray) (ks : List Int) : List Int := if kOk xs ks = true then ks else []
theorem keep_nil (B : Nat) (w : World) : KeepK B w (.agg #[.slice none 0 0, .slice none 0 0]) [] [] :=
  ⟨none, none, 0, 0, rfl, World.ownsRow_nil _ _ _ _, World.ownsRow_nil _ _ _ _⟩
theorem kOk_len {xs : List ByteArray} {ks : List Int} (h : kOk xs ks = true) : xs.length ≤ 60 ∧ ks.length ≤ 40 := by
  unfold kOk at h
  simp at h
  exact ⟨h.1.1.1, h.1.2⟩
theorem KeepK.later {B : Nat} {w w' : World} {v : Value} {xs : List ByteArray} {ks : List Int} (h : KeepK B w v xs ks) (hb : Below w.heap.size w w') : KeepK B w' v xs ks := by
  obtain ⟨a, b, ca, cb, rfl, h1, h2⟩ := h
  exact ⟨a, b, ca, cb, rfl, own_later h1 hb, own_later h2 hb⟩
theorem KeepK.base {B B' : Nat} {w : World} {v : Value} {xs : List ByteArray} {ks : List Int} (h : KeepK B w v xs ks) (hb : B' ≤ B) : KeepK B' w v xs ks := by
  obtain ⟨a, b, ca, cb, rfl, h1, h2⟩ := h
  exact ⟨a, b, ca, cb, rfl, own_base h1 hb, own_base h2 hb⟩
/-- Behind a store below the base. -/
theorem KeepK.setCell {B : Nat} {w : World} {v : Value} {xs : List ByteArray} {ks : List Int} (h : KeepK B w v xs ks) {p : Addr} (hp : p.block < B) (u : Value) : KeepK B (w.setCell p u) v xs ks := by
  obtain ⟨a, b, ca, cb, rfl, h1, h2⟩ := h
  exact ⟨a, b, ca, cb, rfl, ownsRow_setCell_below h1 hp u, ownsRow_setCell_below h2 hp u⟩

theorem l3Learn_is (B : Nat) (a b : Option Addr) (ca cb : Nat) (xs : List ByteArray) (ks : List Int) (t : ByteArray) (w : World) (ho : w.ownsRow B 9 1 (.slice a xs.length ca) xs.length (strV xs)) (hp : w.ownsRow B 3 1 (.slice b ks.length cb) ks.length (intV ks)) (hB : B ≤ w.heap.size) (hl : xs.length ≤ 1048576) (ht : t.size ≤ 1048576) :
    Calls Tryz.prog 47 #[.agg #[.slice a xs.length ca, .slice b ks.length cb], .string t] w fun e w' => ∃ v, e = .returned v ∧ KeepK B w' v (putT xs t) ks ∧ Below B w w' := by
  by_cases h : isT t = true ∧ inB xs t = false ∧ xs.length < 60
  · unfold putT
    rw [if_pos h]
    exact l3Learn_yes B a b ca cb xs ks t w ho hp hB ht h.1 h.2.1 h.2.2
  · unfold putT
    rw [if_neg h]
    obtain ⟨a', ca', ea, _, hr⟩ := own_row ho
    simp only [Value.slice.injEq] at ea
    obtain ⟨rfl, _, rfl⟩ := ea
    refine (l3Learn_no a b ca cb xs ks t w hr hl ht h).mono ?_
    rintro e w' ⟨rfl, hb⟩
    exact ⟨_, rfl, KeepK.later ⟨a, b, ca, cb, rfl, ho, hp⟩ hb, hb.mono hB⟩
end Go.Proofs.YtkekfogepdhjhaaGreat
