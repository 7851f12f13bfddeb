/- The law of Meet, step by step. -/
import Derived.Test.YthhodbpliaiglaaRest2
import Derived.Test.YthhodbpliaiglaaRest3
set_option linter.unusedVariables false
namespace Go.Proofs.Ythhodbpliaiglaa
open Go Go.RowKit

/-- A rest lies in block g, made since W; nothing that W has was written into. -/
def Got (W : World) (g : Nat) (p q r : Int) (w' : World) : Prop :=
  W.heap.size ≤ g ∧ g < w'.heap.size ∧ Below W.heap.size W w' ∧ w'.cell? ⟨g, 0, none⟩ = some (.int .i64 p) ∧ w'.cell? ⟨g, 1, none⟩ = some (.int .i64 q) ∧ w'.cell? ⟨g, 2, none⟩ = some (.int .i64 r)
theorem got_of {W wl : World} {g : Nat} {p q r : Int} (hb : Below W.heap.size W wl) (hg : W.heap.size ≤ g) (hl : g < wl.heap.size) (h : Out3 g wl) : Got W g p q r (set3 wl g (.int .i64 p) (.int .i64 q) (.int .i64 r)) := by
  obtain ⟨⟨v0, h0⟩, ⟨v1, h1⟩, ⟨v2, h2⟩, _, _, _⟩ := h
  exact ⟨hg, by simpa [set3] using hl, set3_below hb hg _ _ _, set3_0 _ _ _ h0, set3_1 _ _ _ h1, set3_2 _ _ _ h2⟩

set_option maxRecDepth 100000 in
set_option maxHeartbeats 12800000 in
theorem meet_walk (a b c x y z : Int) (w : World) : Calls Try.prog 5 #[rv a b c, rv x y z] w fun e w' => e = .returned (.bool true) ∧ Below w.heap.size w w' := by
  have R1 := toRest_is a b c
  have R2 := toRest_is x y z
  have R3 := specMeet_is a b c x y z
  have R4 := implMeet_is a b c x y z
  generalize mA a b c x y z = p at R3 R4
  generalize mB a b c x y z = q at R3 R4
  generalize mC a b c x y z = r at R3 R4
  have R5 := eqRest_is p q r
  obtain ⟨s, hs⟩ : ∃ s, w.heap.size = s := ⟨_, rfl⟩
  obtain ⟨W2, hW2⟩ : ∃ W2, (w.alloc (.cells #[.int .i64 a, .int .i64 b, .int .i64 c] 34)).alloc (.cells #[.int .i64 x, .int .i64 y, .int .i64 z] 34) = W2 := ⟨_, rfl⟩
  have hb0 : Below s w W2 := by rw [← hW2, ← hs]; exact ((Below.refl _ _).alloc (Nat.le_refl _) _).alloc (by simp) _
  have Z : s + 2 ≤ W2.heap.size := by rw [← hW2, ← hs]; simp
  have T0 : Two s a b c x y z W2 := by rw [← hW2, ← hs]; constructor <;> simp [go_sem]
  go_enter Try.func5, Try.ntmps5
  go_wp2_with fail
  try rw [hW2]
  try rw [hs]
  clear hW2
  refine Code.wp_mono (Q := (fun ex a' w' => ∃ g, ex = .normal ∧ a' = { tmps := #[Value.agg #[.int .i64 a, .int .i64 b, .int .i64 c], Value.agg #[.int .i64 x, .int .i64 y, .int .i64 z], .pointer (some ⟨s, 0, none⟩), .pointer (some ⟨s + 1, 0, none⟩), .bool false, .pointer (some ⟨g, 0, none⟩), undef, Value.agg #[.int .i64 a, .int .i64 b, .int .i64 c], Value.agg #[.int .i64 a, .int .i64 b, .int .i64 c], Value.agg #[.int .i64 x, .int .i64 y, .int .i64 z], Value.agg #[.int .i64 x, .int .i64 y, .int .i64 z], Value.agg #[.int .i64 p, .int .i64 q, .int .i64 r], undef, undef, undef, undef, undef, undef, undef, undef, undef], defers := [] } ∧ Got W2 g p q r w')) ?imp ?reg
  case reg =>
    have BC : Below W2.heap.size W2 W2.drew := (Below.refl _ _).drew
    have SC := T0.drew.six
    refine wp_region_held_drew (S := (fun W => W.cell? ⟨s, 0, none⟩ = some (.int .i64 a) ∧ W.cell? ⟨s, 1, none⟩ = some (.int .i64 b) ∧ W.cell? ⟨s, 2, none⟩ = some (.int .i64 c) ∧ W.cell? ⟨s + 1, 0, none⟩ = some (.int .i64 x) ∧ W.cell? ⟨s + 1, 1, none⟩ = some (.int .i64 y) ∧ W.cell? ⟨s + 1, 2, none⟩ = some (.int .i64 z))) (by kernel_rfl) SC (fun hHeld => ?_)
    refine take_one 0 7 (v := ?_) rfl rfl (by kernel_rfl) (by kernel_rfl) (by kernel_rfl) (fun _ _ _ h => by obtain ⟨_, h, _⟩ := h; cases h) (Or.inl ⟨by rfl, ?_⟩) hHeld ?_
    rotate_left
    · intro w' hSw; (try dsimp only at hSw); go_simp; try with_reducible rfl
    try simp only [Act.put, List.setIfInBounds_toArray, List.set_cons_zero, List.set_cons_succ]
    refine take_one 2 9 (v := ?_) rfl rfl (by kernel_rfl) (by kernel_rfl) (by kernel_rfl) (fun _ _ _ h => by obtain ⟨_, h, _⟩ := h; cases h) (Or.inl ⟨by rfl, ?_⟩) hHeld ?_
    rotate_left
    · intro w' hSw; (try dsimp only at hSw); go_simp; try with_reducible rfl
    try simp only [Act.put, List.setIfInBounds_toArray, List.set_cons_zero, List.set_cons_succ]
    refine wpAnyH_ready (rs := [1, 5]) (by kernel_rfl) (by simp) ?_
    refine AllReadyH.cons (i := 1) rfl (fun K hK => ?_) (AllReadyH.cons (i := 5) rfl (fun K hK => ?_) AllReadyH.nil)
    ·
      go_simp
      refine (R1 _).mono ?_
      rintro e w1 ⟨rfl, hb1⟩
      have BN := BC.trans (hb1.mono BC.size)
      clear BC hb1
      have BC := BN
      clear BN
      have SC := (T0.later BC Z).six
      go_wp2_with fail
      refine hK.out _ _ SC (fun hHeld2 => ?_)
      clear hK K hHeld
      have hHeld := hHeld2
      clear hHeld2
      try simp only [Act.put, List.setIfInBounds_toArray, List.set_cons_zero, List.set_cons_succ]
      refine wpAnyH_ready (rs := [3, 5]) (by kernel_rfl) (by simp) ?_
      refine AllReadyH.cons (i := 3) rfl (fun K hK => ?_) (AllReadyH.cons (i := 5) rfl (fun K hK => ?_) AllReadyH.nil)
      ·
        go_simp
        refine (R2 _).mono ?_
        rintro e w2 ⟨rfl, hb2⟩
        have BN := BC.trans (hb2.mono BC.size)
        clear BC hb2
        have BC := BN
        clear BN
        have SC := (T0.later BC Z).six
        go_wp2_with fail
        refine hK.out _ _ SC (fun hHeld2 => ?_)
        clear hK K hHeld
        have hHeld := hHeld2
        clear hHeld2
        try simp only [Act.put, List.setIfInBounds_toArray, List.set_cons_zero, List.set_cons_succ]
        refine wpAnyH_ready (rs := [4, 5]) (by kernel_rfl) (by simp) ?_
        refine AllReadyH.cons (i := 4) rfl (fun K hK => ?_) (AllReadyH.cons (i := 5) rfl (fun K hK => ?_) AllReadyH.nil)
        ·
          go_simp
          refine (R3 _).mono ?_
          rintro e w3 ⟨rfl, hb3⟩
          have BN := BC.trans (hb3.mono BC.size)
          clear BC hb3
          have BC := BN
          clear BN
          have SC := (T0.later BC Z).six
          go_wp2_with fail
          refine hK.out _ _ SC (fun hHeld2 => ?_)
          clear hK K hHeld
          have hHeld := hHeld2
          clear hHeld2
          try simp only [Act.put, List.setIfInBounds_toArray, List.set_cons_zero, List.set_cons_succ]
          refine wpAnyH_ready (rs := [5]) (by kernel_rfl) (by simp) ?_
          refine AllReadyH.cons (i := 5) rfl (fun K hK => ?_) AllReadyH.nil
          obtain ⟨VA, hVA⟩ : ∃ VA, w3.alloc (.cells #[.int .i64 0, .int .i64 0, .int .i64 0] 25) = VA := ⟨_, rfl⟩
          have OC : Out3 w3.heap.size VA := by rw [← hVA]; constructor <;> simp [go_sem]
          have GL : w3.heap.size < VA.heap.size := by rw [← hVA]; simp
          have LE : W2.heap.size ≤ w3.heap.size := BC.size
          have BN : Below W2.heap.size W2 VA := by rw [← hVA]; exact BC.alloc BC.size _
          clear BC
          have BC := BN
          clear BN
          have SC := (T0.later BC Z).six
          go_simp
          try rw [hVA]
          try clear hVA
          refine hK.out _ _ SC (fun hHeld2 => ?_)
          clear hK K hHeld
          have hHeld := hHeld2
          clear hHeld2
          try simp only [Act.put, List.setIfInBounds_toArray, List.set_cons_zero, List.set_cons_succ]
          have FG := got_of (p := p) (q := q) (r := r) BC LE GL OC
          obtain ⟨⟨v0, o0⟩, ⟨v1, o1⟩, ⟨v2, o2⟩, f0, f1, f2⟩ := OC
          refine wpAnyH_ready (rs := [6]) (by kernel_rfl) (by simp) ?_
          refine AllReadyH.cons (i := 6) rfl (fun K hK => ?_) AllReadyH.nil
          go_simp
          refine hK.out _ _ ?_ (fun hHeld2 => ?_)
          · exact ((T0.later FG.2.2.1 Z).six)
          refine wpAnyH_done (by kernel_rfl) ?_ _
          exact ⟨_, rfl, rfl, FG⟩
        ·
          obtain ⟨VA, hVA⟩ : ∃ VA, w2.alloc (.cells #[.int .i64 0, .int .i64 0, .int .i64 0] 25) = VA := ⟨_, rfl⟩
          have OC : Out3 w2.heap.size VA := by rw [← hVA]; constructor <;> simp [go_sem]
          have GL : w2.heap.size < VA.heap.size := by rw [← hVA]; simp
          have LE : W2.heap.size ≤ w2.heap.size := BC.size
          have BN : Below W2.heap.size W2 VA := by rw [← hVA]; exact BC.alloc BC.size _
          clear BC
          have BC := BN
          clear BN
          have SC := (T0.later BC Z).six
          go_simp
          try rw [hVA]
          try clear hVA
          refine hK.out _ _ SC (fun hHeld2 => ?_)
          clear hK K hHeld
          have hHeld := hHeld2
          clear hHeld2
          try simp only [Act.put, List.setIfInBounds_toArray, List.set_cons_zero, List.set_cons_succ]
          refine wpAnyH_ready (rs := [4]) (by kernel_rfl) (by simp) ?_
          refine AllReadyH.cons (i := 4) rfl (fun K hK => ?_) AllReadyH.nil
          go_simp
          refine (R3 _).mono ?_
          rintro e w3 ⟨rfl, hb3⟩
          have BN := BC.trans (hb3.mono BC.size)
          have ON := OC.later hb3 GL
          have GN := Nat.lt_of_lt_of_le GL hb3.size
          clear OC GL
          have OC := ON
          have GL := GN
          clear ON GN
          clear BC hb3
          have BC := BN
          clear BN
          have SC := (T0.later BC Z).six
          go_wp2_with fail
          refine hK.out _ _ SC (fun hHeld2 => ?_)
          clear hK K hHeld
          have hHeld := hHeld2
          clear hHeld2
          try simp only [Act.put, List.setIfInBounds_toArray, List.set_cons_zero, List.set_cons_succ]
          have FG := got_of (p := p) (q := q) (r := r) BC LE GL OC
          obtain ⟨⟨v0, o0⟩, ⟨v1, o1⟩, ⟨v2, o2⟩, f0, f1, f2⟩ := OC
          refine wpAnyH_ready (rs := [6]) (by kernel_rfl) (by simp) ?_
          refine AllReadyH.cons (i := 6) rfl (fun K hK => ?_) AllReadyH.nil
          go_simp
          refine hK.out _ _ ?_ (fun hHeld2 => ?_)
          · exact ((T0.later FG.2.2.1 Z).six)
          refine wpAnyH_done (by kernel_rfl) ?_ _
          exact ⟨_, rfl, rfl, FG⟩
      ·
        obtain ⟨VA, hVA⟩ : ∃ VA, w1.alloc (.cells #[.int .i64 0, .int .i64 0, .int .i64 0] 25) = VA := ⟨_, rfl⟩
        have OC : Out3 w1.heap.size VA := by rw [← hVA]; constructor <;> simp [go_sem]
        have GL : w1.heap.size < VA.heap.size := by rw [← hVA]; simp
        have LE : W2.heap.size ≤ w1.heap.size := BC.size
        have BN : Below W2.heap.size W2 VA := by rw [← hVA]; exact BC.alloc BC.size _
        clear BC
        have BC := BN
        clear BN
        have SC := (T0.later BC Z).six
        go_simp
        try rw [hVA]
        try clear hVA
        refine hK.out _ _ SC (fun hHeld2 => ?_)
        clear hK K hHeld
        have hHeld := hHeld2
        clear hHeld2
        try simp only [Act.put, List.setIfInBounds_toArray, List.set_cons_zero, List.set_cons_succ]
        refine wpAnyH_ready (rs := [3]) (by kernel_rfl) (by simp) ?_
        refine AllReadyH.cons (i := 3) rfl (fun K hK => ?_) AllReadyH.nil
        go_simp
        refine (R2 _).mono ?_
        rintro e w2 ⟨rfl, hb2⟩
        have BN := BC.trans (hb2.mono BC.size)
        have ON := OC.later hb2 GL
        have GN := Nat.lt_of_lt_of_le GL hb2.size
        clear OC GL
        have OC := ON
        have GL := GN
        clear ON GN
        clear BC hb2
        have BC := BN
        clear BN
        have SC := (T0.later BC Z).six
        go_wp2_with fail
        refine hK.out _ _ SC (fun hHeld2 => ?_)
        clear hK K hHeld
        have hHeld := hHeld2
        clear hHeld2
        try simp only [Act.put, List.setIfInBounds_toArray, List.set_cons_zero, List.set_cons_succ]
        refine wpAnyH_ready (rs := [4]) (by kernel_rfl) (by simp) ?_
        refine AllReadyH.cons (i := 4) rfl (fun K hK => ?_) AllReadyH.nil
        go_simp
        refine (R3 _).mono ?_
        rintro e w3 ⟨rfl, hb3⟩
        have BN := BC.trans (hb3.mono BC.size)
        have ON := OC.later hb3 GL
        have GN := Nat.lt_of_lt_of_le GL hb3.size
        clear OC GL
        have OC := ON
        have GL := GN
        clear ON GN
        clear BC hb3
        have BC := BN
        clear BN
        have SC := (T0.later BC Z).six
        go_wp2_with fail
        refine hK.out _ _ SC (fun hHeld2 => ?_)
        clear hK K hHeld
        have hHeld := hHeld2
        clear hHeld2
        try simp only [Act.put, List.setIfInBounds_toArray, List.set_cons_zero, List.set_cons_succ]
        have FG := got_of (p := p) (q := q) (r := r) BC LE GL OC
        obtain ⟨⟨v0, o0⟩, ⟨v1, o1⟩, ⟨v2, o2⟩, f0, f1, f2⟩ := OC
        refine wpAnyH_ready (rs := [6]) (by kernel_rfl) (by simp) ?_
        refine AllReadyH.cons (i := 6) rfl (fun K hK => ?_) AllReadyH.nil
        go_simp
        refine hK.out _ _ ?_ (fun hHeld2 => ?_)
        · exact ((T0.later FG.2.2.1 Z).six)
        refine wpAnyH_done (by kernel_rfl) ?_ _
        exact ⟨_, rfl, rfl, FG⟩
    ·
      obtain ⟨VA, hVA⟩ : ∃ VA, W2.drew.alloc (.cells #[.int .i64 0, .int .i64 0, .int .i64 0] 25) = VA := ⟨_, rfl⟩
      have OC : Out3 W2.heap.size VA := by rw [← hVA]; constructor <;> simp [go_sem]
      have GL : W2.heap.size < VA.heap.size := by rw [← hVA]; simp
      have LE : W2.heap.size ≤ W2.heap.size := BC.size
      have BN : Below W2.heap.size W2 VA := by rw [← hVA]; exact BC.alloc BC.size _
      clear BC
      have BC := BN
      clear BN
      have SC := (T0.later BC Z).six
      go_simp
      try rw [hVA]
      try clear hVA
      refine hK.out _ _ SC (fun hHeld2 => ?_)
      clear hK K hHeld
      have hHeld := hHeld2
      clear hHeld2
      try simp only [Act.put, List.setIfInBounds_toArray, List.set_cons_zero, List.set_cons_succ]
      refine wpAnyH_ready (rs := [1]) (by kernel_rfl) (by simp) ?_
      refine AllReadyH.cons (i := 1) rfl (fun K hK => ?_) AllReadyH.nil
      go_simp
      refine (R1 _).mono ?_
      rintro e w1 ⟨rfl, hb1⟩
      have BN := BC.trans (hb1.mono BC.size)
      have ON := OC.later hb1 GL
      have GN := Nat.lt_of_lt_of_le GL hb1.size
      clear OC GL
      have OC := ON
      have GL := GN
      clear ON GN
      clear BC hb1
      have BC := BN
      clear BN
      have SC := (T0.later BC Z).six
      go_wp2_with fail
      refine hK.out _ _ SC (fun hHeld2 => ?_)
      clear hK K hHeld
      have hHeld := hHeld2
      clear hHeld2
      try simp only [Act.put, List.setIfInBounds_toArray, List.set_cons_zero, List.set_cons_succ]
      refine wpAnyH_ready (rs := [3]) (by kernel_rfl) (by simp) ?_
      refine AllReadyH.cons (i := 3) rfl (fun K hK => ?_) AllReadyH.nil
      go_simp
      refine (R2 _).mono ?_
      rintro e w2 ⟨rfl, hb2⟩
      have BN := BC.trans (hb2.mono BC.size)
      have ON := OC.later hb2 GL
      have GN := Nat.lt_of_lt_of_le GL hb2.size
      clear OC GL
      have OC := ON
      have GL := GN
      clear ON GN
      clear BC hb2
      have BC := BN
      clear BN
      have SC := (T0.later BC Z).six
      go_wp2_with fail
      refine hK.out _ _ SC (fun hHeld2 => ?_)
      clear hK K hHeld
      have hHeld := hHeld2
      clear hHeld2
      try simp only [Act.put, List.setIfInBounds_toArray, List.set_cons_zero, List.set_cons_succ]
      refine wpAnyH_ready (rs := [4]) (by kernel_rfl) (by simp) ?_
      refine AllReadyH.cons (i := 4) rfl (fun K hK => ?_) AllReadyH.nil
      go_simp
      refine (R3 _).mono ?_
      rintro e w3 ⟨rfl, hb3⟩
      have BN := BC.trans (hb3.mono BC.size)
      have ON := OC.later hb3 GL
      have GN := Nat.lt_of_lt_of_le GL hb3.size
      clear OC GL
      have OC := ON
      have GL := GN
      clear ON GN
      clear BC hb3
      have BC := BN
      clear BN
      have SC := (T0.later BC Z).six
      go_wp2_with fail
      refine hK.out _ _ SC (fun hHeld2 => ?_)
      clear hK K hHeld
      have hHeld := hHeld2
      clear hHeld2
      try simp only [Act.put, List.setIfInBounds_toArray, List.set_cons_zero, List.set_cons_succ]
      have FG := got_of (p := p) (q := q) (r := r) BC LE GL OC
      obtain ⟨⟨v0, o0⟩, ⟨v1, o1⟩, ⟨v2, o2⟩, f0, f1, f2⟩ := OC
      refine wpAnyH_ready (rs := [6]) (by kernel_rfl) (by simp) ?_
      refine AllReadyH.cons (i := 6) rfl (fun K hK => ?_) AllReadyH.nil
      go_simp
      refine hK.out _ _ ?_ (fun hHeld2 => ?_)
      · exact ((T0.later FG.2.2.1 Z).six)
      refine wpAnyH_done (by kernel_rfl) ?_ _
      exact ⟨_, rfl, rfl, FG⟩
  rintro ex a' V3 ⟨g1, rfl, rfl, hg1, hl1, hb1, c0, c1, c2⟩
  have T3 := T0.later hb1 Z
  have Z3 : s + 2 ≤ V3.heap.size := Nat.le_trans Z hb1.size
  have hb03 := hb0.trans (hb1.mono (Nat.le_trans (by omega) Z))
  clear R3 T0 Z hb1 hb0
  have T0 := T3
  have Z := Z3
  clear T3 Z3
  go_wp2_with fail
  refine Code.wp_mono (Q := (fun ex a' w' => ∃ g, ex = .normal ∧ a' = { tmps := #[Value.agg #[.int .i64 a, .int .i64 b, .int .i64 c], Value.agg #[.int .i64 x, .int .i64 y, .int .i64 z], .pointer (some ⟨s, 0, none⟩), .pointer (some ⟨s + 1, 0, none⟩), .bool false, .pointer (some ⟨g1, 0, none⟩), .pointer (some ⟨g, 0, none⟩), Value.agg #[.int .i64 a, .int .i64 b, .int .i64 c], Value.agg #[.int .i64 a, .int .i64 b, .int .i64 c], Value.agg #[.int .i64 x, .int .i64 y, .int .i64 z], Value.agg #[.int .i64 x, .int .i64 y, .int .i64 z], Value.agg #[.int .i64 p, .int .i64 q, .int .i64 r], Value.agg #[.int .i64 a, .int .i64 b, .int .i64 c], Value.agg #[.int .i64 a, .int .i64 b, .int .i64 c], Value.agg #[.int .i64 x, .int .i64 y, .int .i64 z], Value.agg #[.int .i64 x, .int .i64 y, .int .i64 z], Value.agg #[.int .i64 p, .int .i64 q, .int .i64 r], undef, undef, undef, undef], defers := [] } ∧ Got V3 g p q r w')) ?imp2 ?reg2
  case reg2 =>
    have BC : Below V3.heap.size V3 V3.drew := (Below.refl _ _).drew
    have SC := T0.drew.six
    refine wp_region_held_drew (S := (fun W => W.cell? ⟨s, 0, none⟩ = some (.int .i64 a) ∧ W.cell? ⟨s, 1, none⟩ = some (.int .i64 b) ∧ W.cell? ⟨s, 2, none⟩ = some (.int .i64 c) ∧ W.cell? ⟨s + 1, 0, none⟩ = some (.int .i64 x) ∧ W.cell? ⟨s + 1, 1, none⟩ = some (.int .i64 y) ∧ W.cell? ⟨s + 1, 2, none⟩ = some (.int .i64 z))) (by kernel_rfl) SC (fun hHeld => ?_)
    refine take_one 0 12 (v := ?_) rfl rfl (by kernel_rfl) (by kernel_rfl) (by kernel_rfl) (fun _ _ _ h => by obtain ⟨_, h, _⟩ := h; cases h) (Or.inl ⟨by rfl, ?_⟩) hHeld ?_
    rotate_left
    · intro w' hSw; (try dsimp only at hSw); go_simp; try with_reducible rfl
    try simp only [Act.put, List.setIfInBounds_toArray, List.set_cons_zero, List.set_cons_succ]
    refine take_one 2 14 (v := ?_) rfl rfl (by kernel_rfl) (by kernel_rfl) (by kernel_rfl) (fun _ _ _ h => by obtain ⟨_, h, _⟩ := h; cases h) (Or.inl ⟨by rfl, ?_⟩) hHeld ?_
    rotate_left
    · intro w' hSw; (try dsimp only at hSw); go_simp; try with_reducible rfl
    try simp only [Act.put, List.setIfInBounds_toArray, List.set_cons_zero, List.set_cons_succ]
    refine wpAnyH_ready (rs := [1, 5]) (by kernel_rfl) (by simp) ?_
    refine AllReadyH.cons (i := 1) rfl (fun K hK => ?_) (AllReadyH.cons (i := 5) rfl (fun K hK => ?_) AllReadyH.nil)
    ·
      go_simp
      refine (R1 _).mono ?_
      rintro e w1 ⟨rfl, hb1⟩
      have BN := BC.trans (hb1.mono BC.size)
      clear BC hb1
      have BC := BN
      clear BN
      have SC := (T0.later BC Z).six
      go_wp2_with fail
      refine hK.out _ _ SC (fun hHeld2 => ?_)
      clear hK K hHeld
      have hHeld := hHeld2
      clear hHeld2
      try simp only [Act.put, List.setIfInBounds_toArray, List.set_cons_zero, List.set_cons_succ]
      refine wpAnyH_ready (rs := [3, 5]) (by kernel_rfl) (by simp) ?_
      refine AllReadyH.cons (i := 3) rfl (fun K hK => ?_) (AllReadyH.cons (i := 5) rfl (fun K hK => ?_) AllReadyH.nil)
      ·
        go_simp
        refine (R2 _).mono ?_
        rintro e w2 ⟨rfl, hb2⟩
        have BN := BC.trans (hb2.mono BC.size)
        clear BC hb2
        have BC := BN
        clear BN
        have SC := (T0.later BC Z).six
        go_wp2_with fail
        refine hK.out _ _ SC (fun hHeld2 => ?_)
        clear hK K hHeld
        have hHeld := hHeld2
        clear hHeld2
        try simp only [Act.put, List.setIfInBounds_toArray, List.set_cons_zero, List.set_cons_succ]
        refine wpAnyH_ready (rs := [4, 5]) (by kernel_rfl) (by simp) ?_
        refine AllReadyH.cons (i := 4) rfl (fun K hK => ?_) (AllReadyH.cons (i := 5) rfl (fun K hK => ?_) AllReadyH.nil)
        ·
          go_simp
          refine (R4 _).mono ?_
          rintro e w3 ⟨rfl, hb3⟩
          have BN := BC.trans (hb3.mono BC.size)
          clear BC hb3
          have BC := BN
          clear BN
          have SC := (T0.later BC Z).six
          go_wp2_with fail
          refine hK.out _ _ SC (fun hHeld2 => ?_)
          clear hK K hHeld
          have hHeld := hHeld2
          clear hHeld2
          try simp only [Act.put, List.setIfInBounds_toArray, List.set_cons_zero, List.set_cons_succ]
          refine wpAnyH_ready (rs := [5]) (by kernel_rfl) (by simp) ?_
          refine AllReadyH.cons (i := 5) rfl (fun K hK => ?_) AllReadyH.nil
          obtain ⟨VA, hVA⟩ : ∃ VA, w3.alloc (.cells #[.int .i64 0, .int .i64 0, .int .i64 0] 25) = VA := ⟨_, rfl⟩
          have OC : Out3 w3.heap.size VA := by rw [← hVA]; constructor <;> simp [go_sem]
          have GL : w3.heap.size < VA.heap.size := by rw [← hVA]; simp
          have LE : V3.heap.size ≤ w3.heap.size := BC.size
          have BN : Below V3.heap.size V3 VA := by rw [← hVA]; exact BC.alloc BC.size _
          clear BC
          have BC := BN
          clear BN
          have SC := (T0.later BC Z).six
          go_simp
          try rw [hVA]
          try clear hVA
          refine hK.out _ _ SC (fun hHeld2 => ?_)
          clear hK K hHeld
          have hHeld := hHeld2
          clear hHeld2
          try simp only [Act.put, List.setIfInBounds_toArray, List.set_cons_zero, List.set_cons_succ]
          have FG := got_of (p := p) (q := q) (r := r) BC LE GL OC
          obtain ⟨⟨v0, o0⟩, ⟨v1, o1⟩, ⟨v2, o2⟩, f0, f1, f2⟩ := OC
          refine wpAnyH_ready (rs := [6]) (by kernel_rfl) (by simp) ?_
          refine AllReadyH.cons (i := 6) rfl (fun K hK => ?_) AllReadyH.nil
          go_simp
          refine hK.out _ _ ?_ (fun hHeld2 => ?_)
          · exact ((T0.later FG.2.2.1 Z).six)
          refine wpAnyH_done (by kernel_rfl) ?_ _
          exact ⟨_, rfl, rfl, FG⟩
        ·
          obtain ⟨VA, hVA⟩ : ∃ VA, w2.alloc (.cells #[.int .i64 0, .int .i64 0, .int .i64 0] 25) = VA := ⟨_, rfl⟩
          have OC : Out3 w2.heap.size VA := by rw [← hVA]; constructor <;> simp [go_sem]
          have GL : w2.heap.size < VA.heap.size := by rw [← hVA]; simp
          have LE : V3.heap.size ≤ w2.heap.size := BC.size
          have BN : Below V3.heap.size V3 VA := by rw [← hVA]; exact BC.alloc BC.size _
          clear BC
          have BC := BN
          clear BN
          have SC := (T0.later BC Z).six
          go_simp
          try rw [hVA]
          try clear hVA
          refine hK.out _ _ SC (fun hHeld2 => ?_)
          clear hK K hHeld
          have hHeld := hHeld2
          clear hHeld2
          try simp only [Act.put, List.setIfInBounds_toArray, List.set_cons_zero, List.set_cons_succ]
          refine wpAnyH_ready (rs := [4]) (by kernel_rfl) (by simp) ?_
          refine AllReadyH.cons (i := 4) rfl (fun K hK => ?_) AllReadyH.nil
          go_simp
          refine (R4 _).mono ?_
          rintro e w3 ⟨rfl, hb3⟩
          have BN := BC.trans (hb3.mono BC.size)
          have ON := OC.later hb3 GL
          have GN := Nat.lt_of_lt_of_le GL hb3.size
          clear OC GL
          have OC := ON
          have GL := GN
          clear ON GN
          clear BC hb3
          have BC := BN
          clear BN
          have SC := (T0.later BC Z).six
          go_wp2_with fail
          refine hK.out _ _ SC (fun hHeld2 => ?_)
          clear hK K hHeld
          have hHeld := hHeld2
          clear hHeld2
          try simp only [Act.put, List.setIfInBounds_toArray, List.set_cons_zero, List.set_cons_succ]
          have FG := got_of (p := p) (q := q) (r := r) BC LE GL OC
          obtain ⟨⟨v0, o0⟩, ⟨v1, o1⟩, ⟨v2, o2⟩, f0, f1, f2⟩ := OC
          refine wpAnyH_ready (rs := [6]) (by kernel_rfl) (by simp) ?_
          refine AllReadyH.cons (i := 6) rfl (fun K hK => ?_) AllReadyH.nil
          go_simp
          refine hK.out _ _ ?_ (fun hHeld2 => ?_)
          · exact ((T0.later FG.2.2.1 Z).six)
          refine wpAnyH_done (by kernel_rfl) ?_ _
          exact ⟨_, rfl, rfl, FG⟩
      ·
        obtain ⟨VA, hVA⟩ : ∃ VA, w1.alloc (.cells #[.int .i64 0, .int .i64 0, .int .i64 0] 25) = VA := ⟨_, rfl⟩
        have OC : Out3 w1.heap.size VA := by rw [← hVA]; constructor <;> simp [go_sem]
        have GL : w1.heap.size < VA.heap.size := by rw [← hVA]; simp
        have LE : V3.heap.size ≤ w1.heap.size := BC.size
        have BN : Below V3.heap.size V3 VA := by rw [← hVA]; exact BC.alloc BC.size _
        clear BC
        have BC := BN
        clear BN
        have SC := (T0.later BC Z).six
        go_simp
        try rw [hVA]
        try clear hVA
        refine hK.out _ _ SC (fun hHeld2 => ?_)
        clear hK K hHeld
        have hHeld := hHeld2
        clear hHeld2
        try simp only [Act.put, List.setIfInBounds_toArray, List.set_cons_zero, List.set_cons_succ]
        refine wpAnyH_ready (rs := [3]) (by kernel_rfl) (by simp) ?_
        refine AllReadyH.cons (i := 3) rfl (fun K hK => ?_) AllReadyH.nil
        go_simp
        refine (R2 _).mono ?_
        rintro e w2 ⟨rfl, hb2⟩
        have BN := BC.trans (hb2.mono BC.size)
        have ON := OC.later hb2 GL
        have GN := Nat.lt_of_lt_of_le GL hb2.size
        clear OC GL
        have OC := ON
        have GL := GN
        clear ON GN
        clear BC hb2
        have BC := BN
        clear BN
        have SC := (T0.later BC Z).six
        go_wp2_with fail
        refine hK.out _ _ SC (fun hHeld2 => ?_)
        clear hK K hHeld
        have hHeld := hHeld2
        clear hHeld2
        try simp only [Act.put, List.setIfInBounds_toArray, List.set_cons_zero, List.set_cons_succ]
        refine wpAnyH_ready (rs := [4]) (by kernel_rfl) (by simp) ?_
        refine AllReadyH.cons (i := 4) rfl (fun K hK => ?_) AllReadyH.nil
        go_simp
        refine (R4 _).mono ?_
        rintro e w3 ⟨rfl, hb3⟩
        have BN := BC.trans (hb3.mono BC.size)
        have ON := OC.later hb3 GL
        have GN := Nat.lt_of_lt_of_le GL hb3.size
        clear OC GL
        have OC := ON
        have GL := GN
        clear ON GN
        clear BC hb3
        have BC := BN
        clear BN
        have SC := (T0.later BC Z).six
        go_wp2_with fail
        refine hK.out _ _ SC (fun hHeld2 => ?_)
        clear hK K hHeld
        have hHeld := hHeld2
        clear hHeld2
        try simp only [Act.put, List.setIfInBounds_toArray, List.set_cons_zero, List.set_cons_succ]
        have FG := got_of (p := p) (q := q) (r := r) BC LE GL OC
        obtain ⟨⟨v0, o0⟩, ⟨v1, o1⟩, ⟨v2, o2⟩, f0, f1, f2⟩ := OC
        refine wpAnyH_ready (rs := [6]) (by kernel_rfl) (by simp) ?_
        refine AllReadyH.cons (i := 6) rfl (fun K hK => ?_) AllReadyH.nil
        go_simp
        refine hK.out _ _ ?_ (fun hHeld2 => ?_)
        · exact ((T0.later FG.2.2.1 Z).six)
        refine wpAnyH_done (by kernel_rfl) ?_ _
        exact ⟨_, rfl, rfl, FG⟩
    ·
      obtain ⟨VA, hVA⟩ : ∃ VA, V3.drew.alloc (.cells #[.int .i64 0, .int .i64 0, .int .i64 0] 25) = VA := ⟨_, rfl⟩
      have OC : Out3 V3.heap.size VA := by rw [← hVA]; constructor <;> simp [go_sem]
      have GL : V3.heap.size < VA.heap.size := by rw [← hVA]; simp
      have LE : V3.heap.size ≤ V3.heap.size := BC.size
      have BN : Below V3.heap.size V3 VA := by rw [← hVA]; exact BC.alloc BC.size _
      clear BC
      have BC := BN
      clear BN
      have SC := (T0.later BC Z).six
      go_simp
      try rw [hVA]
      try clear hVA
      refine hK.out _ _ SC (fun hHeld2 => ?_)
      clear hK K hHeld
      have hHeld := hHeld2
      clear hHeld2
      try simp only [Act.put, List.setIfInBounds_toArray, List.set_cons_zero, List.set_cons_succ]
      refine wpAnyH_ready (rs := [1]) (by kernel_rfl) (by simp) ?_
      refine AllReadyH.cons (i := 1) rfl (fun K hK => ?_) AllReadyH.nil
      go_simp
      refine (R1 _).mono ?_
      rintro e w1 ⟨rfl, hb1⟩
      have BN := BC.trans (hb1.mono BC.size)
      have ON := OC.later hb1 GL
      have GN := Nat.lt_of_lt_of_le GL hb1.size
      clear OC GL
      have OC := ON
      have GL := GN
      clear ON GN
      clear BC hb1
      have BC := BN
      clear BN
      have SC := (T0.later BC Z).six
      go_wp2_with fail
      refine hK.out _ _ SC (fun hHeld2 => ?_)
      clear hK K hHeld
      have hHeld := hHeld2
      clear hHeld2
      try simp only [Act.put, List.setIfInBounds_toArray, List.set_cons_zero, List.set_cons_succ]
      refine wpAnyH_ready (rs := [3]) (by kernel_rfl) (by simp) ?_
      refine AllReadyH.cons (i := 3) rfl (fun K hK => ?_) AllReadyH.nil
      go_simp
      refine (R2 _).mono ?_
      rintro e w2 ⟨rfl, hb2⟩
      have BN := BC.trans (hb2.mono BC.size)
      have ON := OC.later hb2 GL
      have GN := Nat.lt_of_lt_of_le GL hb2.size
      clear OC GL
      have OC := ON
      have GL := GN
      clear ON GN
      clear BC hb2
      have BC := BN
      clear BN
      have SC := (T0.later BC Z).six
      go_wp2_with fail
      refine hK.out _ _ SC (fun hHeld2 => ?_)
      clear hK K hHeld
      have hHeld := hHeld2
      clear hHeld2
      try simp only [Act.put, List.setIfInBounds_toArray, List.set_cons_zero, List.set_cons_succ]
      refine wpAnyH_ready (rs := [4]) (by kernel_rfl) (by simp) ?_
      refine AllReadyH.cons (i := 4) rfl (fun K hK => ?_) AllReadyH.nil
      go_simp
      refine (R4 _).mono ?_
      rintro e w3 ⟨rfl, hb3⟩
      have BN := BC.trans (hb3.mono BC.size)
      have ON := OC.later hb3 GL
      have GN := Nat.lt_of_lt_of_le GL hb3.size
      clear OC GL
      have OC := ON
      have GL := GN
      clear ON GN
      clear BC hb3
      have BC := BN
      clear BN
      have SC := (T0.later BC Z).six
      go_wp2_with fail
      refine hK.out _ _ SC (fun hHeld2 => ?_)
      clear hK K hHeld
      have hHeld := hHeld2
      clear hHeld2
      try simp only [Act.put, List.setIfInBounds_toArray, List.set_cons_zero, List.set_cons_succ]
      have FG := got_of (p := p) (q := q) (r := r) BC LE GL OC
      obtain ⟨⟨v0, o0⟩, ⟨v1, o1⟩, ⟨v2, o2⟩, f0, f1, f2⟩ := OC
      refine wpAnyH_ready (rs := [6]) (by kernel_rfl) (by simp) ?_
      refine AllReadyH.cons (i := 6) rfl (fun K hK => ?_) AllReadyH.nil
      go_simp
      refine hK.out _ _ ?_ (fun hHeld2 => ?_)
      · exact ((T0.later FG.2.2.1 Z).six)
      refine wpAnyH_done (by kernel_rfl) ?_ _
      exact ⟨_, rfl, rfl, FG⟩
  rintro ex a' w5 ⟨g2, rfl, rfl, hg2, hl2, hb2, d0, d1, d2⟩
  have e0 := (hb2.cell (p := ⟨g1, 0, none⟩) hl1).trans c0
  have e1 := (hb2.cell (p := ⟨g1, 1, none⟩) hl1).trans c1
  have e2 := (hb2.cell (p := ⟨g1, 2, none⟩) hl1).trans c2
  have hb05 := hb03.trans (hb2.mono (Nat.le_trans (by omega) Z))
  clear R1 R2 R4 c0 c1 c2 T0
  go_wp2_with fail
  refine (R5 _).mono ?_
  rintro e w6 ⟨rfl, hb6⟩
  have hb06 := hb05.trans (hb6.mono (Nat.le_trans (by omega) (Nat.le_trans Z hb2.size)))
  go_wp2
  go_ret
  exact ⟨rfl, by rw [hs]; exact hb06⟩
end Go.Proofs.Ythhodbpliaiglaa
