/- Rests as texts: ReadRest, of the program and of the model, and its law. -/
import Derived.Test.YtbbaddcldoflfaaWalks
import Derived.Test.YtbbaddcldoflfaaB3
import Derived.Test.YtbbaddcldoflfaaReadNums
set_option linter.unusedVariables false
namespace Go.Proofs.Ytbbaddcldoflfaa
open Go.RowKit Own Var Term

/-- What a text is read as. -/
def rdA (L : List Int) : Int := if L.length = 3 ∧ rOk (L.getD 0 0) (L.getD 1 0) (L.getD 2 0) = true then L.getD 0 0 else 0
def rdB (L : List Int) : Int := if L.length = 3 ∧ rOk (L.getD 0 0) (L.getD 1 0) (L.getD 2 0) = true then L.getD 1 0 else 0
def rdC (L : List Int) : Int := if L.length = 3 ∧ rOk (L.getD 0 0) (L.getD 1 0) (L.getD 2 0) = true then L.getD 2 0 else 0
def rdK (L : List Int) : Bool := decide (L.length = 3) && rOk (L.getD 0 0) (L.getD 1 0) (L.getD 2 0)
theorem rd_no {L : List Int} (h : rdK L = false) : rdA L = 0 ∧ rdB L = 0 ∧ rdC L = 0 := by
  have : ¬ (L.length = 3 ∧ rOk (L.getD 0 0) (L.getD 1 0) (L.getD 2 0) = true) := by
    intro k
    unfold rdK at h
    rw [k.2] at h
    simp [k.1] at h
  unfold rdA rdB rdC
  rw [if_neg this, if_neg this, if_neg this]
  exact ⟨rfl, rfl, rfl⟩
theorem nums_len (s : ByteArray) (h : (numsR s).2 = false) : (numsR s).1 = [] := by
  unfold numsR numsP at h ⊢
  split at h
  · cases h
  · rename_i k; rw [if_neg k]
theorem res_3b {fn : Func} {p x : Tmp} (hres : fn.results = #[.cell p 28, .tmp x]) (tmps : Array Value) (w : World) (g : Nat) (v0 v1 v2 u0 : Value) (hp : tmps.getD p undef = .pointer (some ⟨g, 0, none⟩)) (hx : tmps.getD x undef = u0) (h0 : w.cell? ⟨g, 0, none⟩ = some v0) (h1 : w.cell? ⟨g, 1, none⟩ = some v1) (h2 : w.cell? ⟨g, 2, none⟩ = some v2) :
    (results fn tmps).run Try.prog w = .ok (.tuple #[.agg #[v0, v1, v2], u0]) w := by
  have hp' : tmps[p]?.getD undef = .pointer (some ⟨g, 0, none⟩) := by simpa using hp
  have hx' : tmps[x]?.getD undef = u0 := by simpa using hx
  simp [results, hres, hp', hx', asAddr, go_sem, h0, h1, h2, loadVar, Try.isAgg28, Try.sizeOf28]

set_option maxRecDepth 100000 in
set_option maxHeartbeats 3200000 in
theorem specRead_is (s : ByteArray) (w : World) (hs : s.size ≤ 1048576) : Calls Try.prog 46 #[.string s] w fun e w' => e = .returned (.tuple #[rv (rdA (numsR s).1) (rdB (numsR s).1) (rdC (numsR s).1), .bool (rdK (numsR s).1)]) ∧ Below w.heap.size w w' := by
  obtain ⟨W1, hW1⟩ : ∃ W1, w.alloc (.cells #[.int .i64 0, .int .i64 0, .int .i64 0] 28) = W1 := ⟨_, rfl⟩
  have hb0 : Below w.heap.size w W1 := by rw [← hW1]; exact (Below.refl _ _).alloc (Nat.le_refl _) _
  have Z : w.heap.size < W1.heap.size := by rw [← hW1]; simp
  have a1 : Draw.B3 w.heap.size 0 0 0 W1 := by rw [← hW1]; exact Draw.B3.new _ _ _ _ _
  have HN := nums_len s
  have RN := spec_readNums s W1 hs
  generalize (numsR s).1 = L at RN HN ⊢
  generalize (numsR s).2 = t at RN HN
  have FH : Hid (∀ {wl : World} (x y z : Int), Below w.heap.size w wl → Draw.B3 w.heap.size 0 0 0 wl → Below w.heap.size w (set3 wl w.heap.size (.int .i64 x) (.int .i64 y) (.int .i64 z)) ∧ Draw.B3 w.heap.size x y z (set3 wl w.heap.size (.int .i64 x) (.int .i64 y) (.int .i64 z))) :=
    fun x y z hb hB => ⟨set3_below hb (Nat.le_refl _) _ _ _, hB.put3 x y z⟩
  go_enter Try.func46, Try.ntmps46
  go_wp2_with fail
  try rw [hW1]
  refine RN.mono ?_
  clear hW1 RN
  rintro e w2 ⟨v, rfl, ho, hb2⟩
  obtain ⟨a5, cap5, rfl, hcap, hrow⟩ := own_row ho
  clear ho
  have a2 := a1.below hb2 Z
  have B2 := hb0.trans (hb2.mono hb0.size)
  have Z2 : w.heap.size < w2.heap.size := Nat.lt_of_lt_of_le Z hb2.size
  clear a1 hb0 hb2 Z
  by_cases h3 : L.length = 3
  · have ht : t = true := by
      cases t with
      | true => rfl
      | false => rw [HN rfl] at h3; cases h3
    subst ht
    obtain ⟨x, y, z, rfl⟩ : ∃ x y z, L = [x, y, z] := by
      match L, h3 with
      | [x, y, z], _ => exact ⟨x, y, z, rfl⟩
    clear HN
    obtain ⟨b5, o5, rfl, l5, q0⟩ := hrow 0 (by simp)
    have Q : ∀ j (h : j < [x, y, z].length), w2.cell? ⟨b5, o5 + j, none⟩ = some (.int .i64 [x, y, z][j]) := by
      intro j h
      obtain ⟨b, o, e, _, q⟩ := hrow j h
      simp only [Option.some.injEq, Addr.mk.injEq] at e
      obtain ⟨rfl, rfl, _⟩ := e
      exact q
    have q0 := Q 0 (by simp)
    have q1 := Q 1 (by simp)
    have q2 := Q 2 (by simp)
    simp only [Nat.add_zero, List.getElem_cons_zero, List.getElem_cons_succ] at q0 q1 q2
    clear Q hrow
    have c3 : (3 : Int) ≤ cap5 := by have : ([x, y, z] : List Int).length = 3 := rfl; omega
    obtain ⟨W3, hW3⟩ : ∃ W3, (w2.alloc (.cells #[.int .i64 x, .int .i64 y, .int .i64 z] 28)).drew = W3 := ⟨_, rfl⟩
    have B3 : Below w.heap.size w W3 := by rw [← hW3]; exact (B2.alloc (Nat.le_of_lt Z2) _).drew
    have a3 : Draw.B3 w.heap.size 0 0 0 W3 := by rw [← hW3]; exact (a2.alloc Z2 _).drew
    have d3 : Draw.B3 w2.heap.size x y z W3 := by rw [← hW3]; exact (Draw.B3.new w2 _ _ _ _).drew
    have Z3 : w2.heap.size < W3.heap.size := by rw [← hW3]; simp
    have X3 : ∀ o, w2.drew.cell? ⟨b5, o, none⟩ = w2.cell? ⟨b5, o, none⟩ := fun o => rfl
    have K : ∀ (o : Obj) (i : Nat) (u : Value), w2.cell? ⟨b5, i, none⟩ = some u → (w2.drew.alloc o).cell? ⟨b5, i, none⟩ = some u := fun o i u h => (((Below.refl w2.heap.size w2).drew.alloc (Nat.le_refl _) o).cell (p := ⟨b5, i, none⟩) l5).trans h
    have K0 := fun o => K o _ _ q0
    have K1 := fun o => K o _ _ q1
    have K2 := fun o => K o _ _ q2
    have J0 : W3.cell? ⟨b5, o5, none⟩ = some (.int .i64 x) := by rw [← hW3]; exact K0 _
    have J1 : W3.cell? ⟨b5, o5 + 1, none⟩ = some (.int .i64 y) := by rw [← hW3]; exact K1 _
    have J2 : W3.cell? ⟨b5, o5 + 2, none⟩ = some (.int .i64 z) := by rw [← hW3]; exact K2 _
    go_wp2_with fail
    refine wp_region_held_drew (S := (fun V => V.cell? ⟨b5, o5, none⟩ = some (.int .i64 x) ∧ V.cell? ⟨b5, o5 + 1, none⟩ = some (.int .i64 y) ∧ V.cell? ⟨b5, o5 + 2, none⟩ = some (.int .i64 z))) (by kernel_rfl) ⟨by simpa using q0, by simpa using q1, by simpa using q2⟩ (fun hHeld => ?_)
    refine take_one 0 20 (v := ?_) rfl rfl (by kernel_rfl) (by kernel_rfl) (by kernel_rfl) (fun _ _ _ h => h) (Or.inl ⟨by rfl, ?_⟩) hHeld ?_
    rotate_left
    · intro w' hSw; (try dsimp only at hSw); go_simp; try with_reducible rfl
    try simp only [Act.put, List.setIfInBounds_toArray, List.set_cons_zero, List.set_cons_succ]
    refine take_one 1 21 (v := ?_) rfl rfl (by kernel_rfl) (by kernel_rfl) (by kernel_rfl) (fun _ _ _ h => h) (Or.inl ⟨by rfl, ?_⟩) hHeld ?_
    rotate_left
    · intro w' hSw; (try dsimp only at hSw); go_simp; try with_reducible rfl
    try simp only [Act.put, List.setIfInBounds_toArray, List.set_cons_zero, List.set_cons_succ]
    refine take_one 2 22 (v := ?_) rfl rfl (by kernel_rfl) (by kernel_rfl) (by kernel_rfl) (fun _ _ _ h => h) (Or.inl ⟨by rfl, ?_⟩) hHeld ?_
    rotate_left
    · intro w' hSw; (try dsimp only at hSw); go_simp; try with_reducible rfl
    try simp only [Act.put, List.setIfInBounds_toArray, List.set_cons_zero, List.set_cons_succ]
    refine take_one 3 23 (v := ?_) rfl rfl (by kernel_rfl) (by kernel_rfl) (by kernel_rfl) (fun _ _ _ h => h) (Or.inl ⟨by rfl, ?_⟩) hHeld ?_
    rotate_left
    · intro w' hSw; (try dsimp only at hSw); go_simp; try with_reducible rfl
    try simp only [Act.put, List.setIfInBounds_toArray, List.set_cons_zero, List.set_cons_succ]
    refine take_one 4 24 (v := ?_) rfl rfl (by kernel_rfl) (by kernel_rfl) (by kernel_rfl) (fun _ _ _ h => h) (Or.inl ⟨by rfl, ?_⟩) hHeld ?_
    rotate_left
    · intro w' hSw; (try dsimp only at hSw); go_simp; try with_reducible rfl
    try simp only [Act.put, List.setIfInBounds_toArray, List.set_cons_zero, List.set_cons_succ]
    refine take_one 5 25 (v := ?_) rfl rfl (by kernel_rfl) (by kernel_rfl) (by kernel_rfl) (fun _ _ _ h => h) (Or.inl ⟨by rfl, ?_⟩) hHeld ?_
    rotate_left
    · intro w' hSw; (try dsimp only at hSw); go_simp; try with_reducible rfl
    try simp only [Act.put, List.setIfInBounds_toArray, List.set_cons_zero, List.set_cons_succ]
    refine take_one 6 26 (v := ?_) rfl rfl (by kernel_rfl) (by kernel_rfl) (by kernel_rfl) (fun _ _ _ h => h) (Or.inl ⟨by rfl, ?_⟩) hHeld ?_
    rotate_left
    · intro w' hSw; (try dsimp only at hSw); go_simp; try with_reducible rfl
    try simp only [Act.put, List.setIfInBounds_toArray, List.set_cons_zero, List.set_cons_succ]
    refine take_one 7 27 (v := ?_) rfl rfl (by kernel_rfl) (by kernel_rfl) (by kernel_rfl) (fun _ _ _ h => h) (Or.inl ⟨by rfl, ?_⟩) hHeld ?_
    rotate_left
    · intro w' hSw; (try dsimp only at hSw); go_simp; try with_reducible rfl
    try simp only [Act.put, List.setIfInBounds_toArray, List.set_cons_zero, List.set_cons_succ]
    refine take_one 8 28 (v := ?_) rfl rfl (by kernel_rfl) (by kernel_rfl) (by kernel_rfl) (fun _ _ _ h => h) (Or.inl ⟨by rfl, ?_⟩) hHeld ?_
    rotate_left
    · intro w' hSw; (try dsimp only at hSw); go_simp; try with_reducible rfl
    try simp only [Act.put, List.setIfInBounds_toArray, List.set_cons_zero, List.set_cons_succ]
    refine take_one 9 29 (v := ?_) rfl rfl (by kernel_rfl) (by kernel_rfl) (by kernel_rfl) (fun _ _ _ h => h) (Or.inl ⟨by rfl, ?_⟩) hHeld ?_
    rotate_left
    · intro w' hSw; (try dsimp only at hSw); go_simp; try with_reducible rfl
    try simp only [Act.put, List.setIfInBounds_toArray, List.set_cons_zero, List.set_cons_succ]
    refine wpAnyH_ready (rs := [10]) (by kernel_rfl) (by simp) ?_
    refine AllReadyH.cons (i := 10) rfl (fun K hK => ?_) AllReadyH.nil
    go_simp
    refine hK.out _ _ ⟨K0 _, K1 _, K2 _⟩ (fun hHeld2 => ?_)
    clear hK K hHeld
    have hHeld := hHeld2
    clear hHeld2
    try simp only [Act.put, List.setIfInBounds_toArray, List.set_cons_zero, List.set_cons_succ]
    refine wpAnyH_ready (rs := [11]) (by kernel_rfl) (by simp) ?_
    refine AllReadyH.cons (i := 11) rfl (fun K hK => ?_) AllReadyH.nil
    go_simp
    refine hK.out _ _ ⟨J0, J1, J2⟩ (fun hHeld2 => ?_)
    clear hK K hHeld
    have hHeld := hHeld2
    clear hHeld2
    try simp only [Act.put, List.setIfInBounds_toArray, List.set_cons_zero, List.set_cons_succ]
    refine wpAnyH_done (by kernel_rfl) ?_ _
    try rw [hW3]
    clear hHeld q0 q1 q2 K K0 K1 K2 X3 hW3 J0 J1 J2
    obtain ⟨e0, e1, e2, e3, e4, e5⟩ := d3
    go_wp2_with fail
    refine (specOk_is x y z _).mono ?_
    rintro e w4 ⟨rfl, hb4⟩
    have B4 := B3.trans (hb4.mono B3.size)
    have a4 := a3.below hb4 (Nat.lt_trans Z2 Z3)
    have d4 := Draw.B3.below ⟨e0, e1, e2, e3, e4, e5⟩ hb4 Z3
    clear e0 e1 e2 e3 e4 e5 a3 a2 B3 hb4 B2
    obtain ⟨k0, k1, k2, k3, k4, k5⟩ := a4
    obtain ⟨e0, e1, e2, e3, e4, e5⟩ := d4
    by_cases h0 : rOk x y z = true
    · rw [h0]
      have FG := show Hid _ from FH.out x y z B4 ⟨k0, k1, k2, k3, k4, k5⟩
      have e6 : rdA [x, y, z] = x ∧ rdB [x, y, z] = y ∧ rdC [x, y, z] = z ∧ rdK [x, y, z] = true := by
        have : ([x, y, z] : List Int).length = 3 ∧ rOk (([x, y, z] : List Int).getD 0 0) (([x, y, z] : List Int).getD 1 0) (([x, y, z] : List Int).getD 2 0) = true := ⟨rfl, h0⟩
        exact ⟨if_pos this, if_pos this, if_pos this, h0⟩
      clear FH
      go_wp2
      have G := FG.out
      exact bodyPost_ret (res_3b rfl _ _ w.heap.size _ _ _ (.bool true) rfl rfl G.2.c0 G.2.c1 G.2.c2) rfl ⟨by rw [e6.1, e6.2.1, e6.2.2.1, e6.2.2.2], G.1⟩
    · rw [Bool.not_eq_true] at h0
      rw [h0]
      have FG := show Hid _ from FH.out 0 0 0 B4 ⟨k0, k1, k2, k3, k4, k5⟩
      have e6 : rdK [x, y, z] = false := h0
      have e7 := rd_no e6
      clear FH
      go_wp2
      have G := FG.out
      exact bodyPost_ret (res_3b rfl _ _ w.heap.size _ _ _ (.bool false) rfl rfl G.2.c0 G.2.c1 G.2.c2) rfl ⟨by rw [e7.1, e7.2.1, e7.2.2, e6], G.1⟩
  · have hn : ¬ (L.length : Int) = 3 := by omega
    have e6 : rdK L = false := by unfold rdK; rw [show decide (L.length = 3) = false by simpa using h3]; rfl
    have e7 := rd_no e6
    have FG := show Hid _ from FH.out 0 0 0 B2 a2
    have hn' : ((L.length : Int) == 3) = false := by simpa using hn
    clear FH HN hrow
    obtain ⟨k0, k1, k2, k3, k4, k5⟩ := a2
    cases t with
    | false =>
      go_wp2
      have G := FG.out
      exact bodyPost_ret (res_3b rfl _ _ w.heap.size _ _ _ (.bool false) rfl rfl G.2.c0 G.2.c1 G.2.c2) rfl ⟨by rw [e7.1, e7.2.1, e7.2.2, e6], G.1⟩
    | true =>
      go_wp2
      have G := FG.out
      exact bodyPost_ret (res_3b rfl _ _ w.heap.size _ _ _ (.bool false) rfl rfl G.2.c0 G.2.c1 G.2.c2) rfl ⟨by rw [e7.1, e7.2.1, e7.2.2, e6], G.1⟩

set_option maxRecDepth 100000 in
set_option maxHeartbeats 3200000 in
theorem implRead_is (s : ByteArray) (w : World) (hs : s.size ≤ 1048576) : Calls Try.prog 78 #[.string s] w fun e w' => e = .returned (.tuple #[rv (rdA (numsR s).1) (rdB (numsR s).1) (rdC (numsR s).1), .bool (rdK (numsR s).1)]) ∧ Below w.heap.size w w' := by
  obtain ⟨W1, hW1⟩ : ∃ W1, w.alloc (.cells #[.int .i64 0, .int .i64 0, .int .i64 0] 28) = W1 := ⟨_, rfl⟩
  have hb0 : Below w.heap.size w W1 := by rw [← hW1]; exact (Below.refl _ _).alloc (Nat.le_refl _) _
  have Z : w.heap.size < W1.heap.size := by rw [← hW1]; simp
  have a1 : Draw.B3 w.heap.size 0 0 0 W1 := by rw [← hW1]; exact Draw.B3.new _ _ _ _ _
  have HN := nums_len s
  have RN := impl_readNums s W1 hs
  generalize (numsR s).1 = L at RN HN ⊢
  generalize (numsR s).2 = t at RN HN
  have FH : Hid (∀ {wl : World} (x y z : Int), Below w.heap.size w wl → Draw.B3 w.heap.size 0 0 0 wl → Below w.heap.size w (set3 wl w.heap.size (.int .i64 x) (.int .i64 y) (.int .i64 z)) ∧ Draw.B3 w.heap.size x y z (set3 wl w.heap.size (.int .i64 x) (.int .i64 y) (.int .i64 z))) :=
    fun x y z hb hB => ⟨set3_below hb (Nat.le_refl _) _ _ _, hB.put3 x y z⟩
  go_enter Try.func78, Try.ntmps78
  go_wp2_with fail
  try rw [hW1]
  refine RN.mono ?_
  clear hW1 RN
  rintro e w2 ⟨v, rfl, ho, hb2⟩
  obtain ⟨a5, cap5, rfl, hcap, hrow⟩ := own_row ho
  clear ho
  have a2 := a1.below hb2 Z
  have B2 := hb0.trans (hb2.mono hb0.size)
  have Z2 : w.heap.size < w2.heap.size := Nat.lt_of_lt_of_le Z hb2.size
  clear a1 hb0 hb2 Z
  by_cases h3 : L.length = 3
  · have ht : t = true := by
      cases t with
      | true => rfl
      | false => rw [HN rfl] at h3; cases h3
    subst ht
    obtain ⟨x, y, z, rfl⟩ : ∃ x y z, L = [x, y, z] := by
      match L, h3 with
      | [x, y, z], _ => exact ⟨x, y, z, rfl⟩
    clear HN
    obtain ⟨b5, o5, rfl, l5, q0⟩ := hrow 0 (by simp)
    have Q : ∀ j (h : j < [x, y, z].length), w2.cell? ⟨b5, o5 + j, none⟩ = some (.int .i64 [x, y, z][j]) := by
      intro j h
      obtain ⟨b, o, e, _, q⟩ := hrow j h
      simp only [Option.some.injEq, Addr.mk.injEq] at e
      obtain ⟨rfl, rfl, _⟩ := e
      exact q
    have q0 := Q 0 (by simp)
    have q1 := Q 1 (by simp)
    have q2 := Q 2 (by simp)
    simp only [Nat.add_zero, List.getElem_cons_zero, List.getElem_cons_succ] at q0 q1 q2
    clear Q hrow
    have c3 : (3 : Int) ≤ cap5 := by have : ([x, y, z] : List Int).length = 3 := rfl; omega
    obtain ⟨W3, hW3⟩ : ∃ W3, (w2.alloc (.cells #[.int .i64 x, .int .i64 y, .int .i64 z] 28)).drew = W3 := ⟨_, rfl⟩
    have B3 : Below w.heap.size w W3 := by rw [← hW3]; exact (B2.alloc (Nat.le_of_lt Z2) _).drew
    have a3 : Draw.B3 w.heap.size 0 0 0 W3 := by rw [← hW3]; exact (a2.alloc Z2 _).drew
    have d3 : Draw.B3 w2.heap.size x y z W3 := by rw [← hW3]; exact (Draw.B3.new w2 _ _ _ _).drew
    have Z3 : w2.heap.size < W3.heap.size := by rw [← hW3]; simp
    have X3 : ∀ o, w2.drew.cell? ⟨b5, o, none⟩ = w2.cell? ⟨b5, o, none⟩ := fun o => rfl
    have K : ∀ (o : Obj) (i : Nat) (u : Value), w2.cell? ⟨b5, i, none⟩ = some u → (w2.drew.alloc o).cell? ⟨b5, i, none⟩ = some u := fun o i u h => (((Below.refl w2.heap.size w2).drew.alloc (Nat.le_refl _) o).cell (p := ⟨b5, i, none⟩) l5).trans h
    have K0 := fun o => K o _ _ q0
    have K1 := fun o => K o _ _ q1
    have K2 := fun o => K o _ _ q2
    have J0 : W3.cell? ⟨b5, o5, none⟩ = some (.int .i64 x) := by rw [← hW3]; exact K0 _
    have J1 : W3.cell? ⟨b5, o5 + 1, none⟩ = some (.int .i64 y) := by rw [← hW3]; exact K1 _
    have J2 : W3.cell? ⟨b5, o5 + 2, none⟩ = some (.int .i64 z) := by rw [← hW3]; exact K2 _
    go_wp2_with fail
    refine wp_region_held_drew (S := (fun V => V.cell? ⟨b5, o5, none⟩ = some (.int .i64 x) ∧ V.cell? ⟨b5, o5 + 1, none⟩ = some (.int .i64 y) ∧ V.cell? ⟨b5, o5 + 2, none⟩ = some (.int .i64 z))) (by kernel_rfl) ⟨by simpa using q0, by simpa using q1, by simpa using q2⟩ (fun hHeld => ?_)
    refine take_one 0 16 (v := ?_) rfl rfl (by kernel_rfl) (by kernel_rfl) (by kernel_rfl) (fun _ _ _ h => h) (Or.inl ⟨by rfl, ?_⟩) hHeld ?_
    rotate_left
    · intro w' hSw; (try dsimp only at hSw); go_simp; try with_reducible rfl
    try simp only [Act.put, List.setIfInBounds_toArray, List.set_cons_zero, List.set_cons_succ]
    refine take_one 1 17 (v := ?_) rfl rfl (by kernel_rfl) (by kernel_rfl) (by kernel_rfl) (fun _ _ _ h => h) (Or.inl ⟨by rfl, ?_⟩) hHeld ?_
    rotate_left
    · intro w' hSw; (try dsimp only at hSw); go_simp; try with_reducible rfl
    try simp only [Act.put, List.setIfInBounds_toArray, List.set_cons_zero, List.set_cons_succ]
    refine take_one 2 18 (v := ?_) rfl rfl (by kernel_rfl) (by kernel_rfl) (by kernel_rfl) (fun _ _ _ h => h) (Or.inl ⟨by rfl, ?_⟩) hHeld ?_
    rotate_left
    · intro w' hSw; (try dsimp only at hSw); go_simp; try with_reducible rfl
    try simp only [Act.put, List.setIfInBounds_toArray, List.set_cons_zero, List.set_cons_succ]
    refine take_one 3 19 (v := ?_) rfl rfl (by kernel_rfl) (by kernel_rfl) (by kernel_rfl) (fun _ _ _ h => h) (Or.inl ⟨by rfl, ?_⟩) hHeld ?_
    rotate_left
    · intro w' hSw; (try dsimp only at hSw); go_simp; try with_reducible rfl
    try simp only [Act.put, List.setIfInBounds_toArray, List.set_cons_zero, List.set_cons_succ]
    refine take_one 4 20 (v := ?_) rfl rfl (by kernel_rfl) (by kernel_rfl) (by kernel_rfl) (fun _ _ _ h => h) (Or.inl ⟨by rfl, ?_⟩) hHeld ?_
    rotate_left
    · intro w' hSw; (try dsimp only at hSw); go_simp; try with_reducible rfl
    try simp only [Act.put, List.setIfInBounds_toArray, List.set_cons_zero, List.set_cons_succ]
    refine take_one 5 21 (v := ?_) rfl rfl (by kernel_rfl) (by kernel_rfl) (by kernel_rfl) (fun _ _ _ h => h) (Or.inl ⟨by rfl, ?_⟩) hHeld ?_
    rotate_left
    · intro w' hSw; (try dsimp only at hSw); go_simp; try with_reducible rfl
    try simp only [Act.put, List.setIfInBounds_toArray, List.set_cons_zero, List.set_cons_succ]
    refine take_one 6 22 (v := ?_) rfl rfl (by kernel_rfl) (by kernel_rfl) (by kernel_rfl) (fun _ _ _ h => h) (Or.inl ⟨by rfl, ?_⟩) hHeld ?_
    rotate_left
    · intro w' hSw; (try dsimp only at hSw); go_simp; try with_reducible rfl
    try simp only [Act.put, List.setIfInBounds_toArray, List.set_cons_zero, List.set_cons_succ]
    refine take_one 7 23 (v := ?_) rfl rfl (by kernel_rfl) (by kernel_rfl) (by kernel_rfl) (fun _ _ _ h => h) (Or.inl ⟨by rfl, ?_⟩) hHeld ?_
    rotate_left
    · intro w' hSw; (try dsimp only at hSw); go_simp; try with_reducible rfl
    try simp only [Act.put, List.setIfInBounds_toArray, List.set_cons_zero, List.set_cons_succ]
    refine take_one 8 24 (v := ?_) rfl rfl (by kernel_rfl) (by kernel_rfl) (by kernel_rfl) (fun _ _ _ h => h) (Or.inl ⟨by rfl, ?_⟩) hHeld ?_
    rotate_left
    · intro w' hSw; (try dsimp only at hSw); go_simp; try with_reducible rfl
    try simp only [Act.put, List.setIfInBounds_toArray, List.set_cons_zero, List.set_cons_succ]
    refine take_one 9 25 (v := ?_) rfl rfl (by kernel_rfl) (by kernel_rfl) (by kernel_rfl) (fun _ _ _ h => h) (Or.inl ⟨by rfl, ?_⟩) hHeld ?_
    rotate_left
    · intro w' hSw; (try dsimp only at hSw); go_simp; try with_reducible rfl
    try simp only [Act.put, List.setIfInBounds_toArray, List.set_cons_zero, List.set_cons_succ]
    refine wpAnyH_ready (rs := [10]) (by kernel_rfl) (by simp) ?_
    refine AllReadyH.cons (i := 10) rfl (fun K hK => ?_) AllReadyH.nil
    go_simp
    refine hK.out _ _ ⟨K0 _, K1 _, K2 _⟩ (fun hHeld2 => ?_)
    clear hK K hHeld
    have hHeld := hHeld2
    clear hHeld2
    try simp only [Act.put, List.setIfInBounds_toArray, List.set_cons_zero, List.set_cons_succ]
    refine wpAnyH_ready (rs := [11]) (by kernel_rfl) (by simp) ?_
    refine AllReadyH.cons (i := 11) rfl (fun K hK => ?_) AllReadyH.nil
    go_simp
    refine hK.out _ _ ⟨J0, J1, J2⟩ (fun hHeld2 => ?_)
    clear hK K hHeld
    have hHeld := hHeld2
    clear hHeld2
    try simp only [Act.put, List.setIfInBounds_toArray, List.set_cons_zero, List.set_cons_succ]
    refine wpAnyH_done (by kernel_rfl) ?_ _
    try rw [hW3]
    clear hHeld q0 q1 q2 K K0 K1 K2 X3 hW3 J0 J1 J2
    obtain ⟨e0, e1, e2, e3, e4, e5⟩ := d3
    go_wp2_with fail
    refine (right_is x y z _).mono ?_
    rintro e w4 ⟨rfl, hb4⟩
    have B4 := B3.trans (hb4.mono B3.size)
    have a4 := a3.below hb4 (Nat.lt_trans Z2 Z3)
    have d4 := Draw.B3.below ⟨e0, e1, e2, e3, e4, e5⟩ hb4 Z3
    clear e0 e1 e2 e3 e4 e5 a3 a2 B3 hb4 B2
    obtain ⟨k0, k1, k2, k3, k4, k5⟩ := a4
    obtain ⟨e0, e1, e2, e3, e4, e5⟩ := d4
    by_cases h0 : rOk x y z = true
    · rw [h0]
      have FG := show Hid _ from FH.out x y z B4 ⟨k0, k1, k2, k3, k4, k5⟩
      have e6 : rdA [x, y, z] = x ∧ rdB [x, y, z] = y ∧ rdC [x, y, z] = z ∧ rdK [x, y, z] = true := by
        have : ([x, y, z] : List Int).length = 3 ∧ rOk (([x, y, z] : List Int).getD 0 0) (([x, y, z] : List Int).getD 1 0) (([x, y, z] : List Int).getD 2 0) = true := ⟨rfl, h0⟩
        exact ⟨if_pos this, if_pos this, if_pos this, h0⟩
      clear FH
      go_wp2
      have G := FG.out
      exact bodyPost_ret (res_3b rfl _ _ w.heap.size _ _ _ (.bool true) rfl rfl G.2.c0 G.2.c1 G.2.c2) rfl ⟨by rw [e6.1, e6.2.1, e6.2.2.1, e6.2.2.2], G.1⟩
    · rw [Bool.not_eq_true] at h0
      rw [h0]
      have FG := show Hid _ from FH.out 0 0 0 B4 ⟨k0, k1, k2, k3, k4, k5⟩
      have e6 : rdK [x, y, z] = false := h0
      have e7 := rd_no e6
      clear FH
      go_wp2
      have G := FG.out
      exact bodyPost_ret (res_3b rfl _ _ w.heap.size _ _ _ (.bool false) rfl rfl G.2.c0 G.2.c1 G.2.c2) rfl ⟨by rw [e7.1, e7.2.1, e7.2.2, e6], G.1⟩
  · have hn : ¬ (L.length : Int) = 3 := by omega
    have e6 : rdK L = false := by unfold rdK; rw [show decide (L.length = 3) = false by simpa using h3]; rfl
    have e7 := rd_no e6
    have FG := show Hid _ from FH.out 0 0 0 B2 a2
    have hn' : ((L.length : Int) == 3) = false := by simpa using hn
    clear FH HN hrow
    obtain ⟨k0, k1, k2, k3, k4, k5⟩ := a2
    skip
    go_wp2
    have G := FG.out
    exact bodyPost_ret (res_3b rfl _ _ w.heap.size _ _ _ (.bool false) rfl rfl G.2.c0 G.2.c1 G.2.c2) rfl ⟨by rw [e7.1, e7.2.1, e7.2.2, e6], G.1⟩
end Go.Proofs.Ytbbaddcldoflfaa
