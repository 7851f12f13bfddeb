/- Whatever is handed to Build as what is known, and whatever text, the program answers as the model of the document does, and writes into none of it: no condition. -/
import Derived.Test.YtkekfogepdhjhaaRows
import Derived.Test.YtkekfogepdhjhaaSpecBuild
import Derived.Test.YtkekfogepdhjhaaKnow4
import Derived.WalkKit
import Derived.ProofKit
import Derived.SliceStrings
import Derived.OpenShut
import Derived.ShutString
import Derived.ChangeOld
import Derived.Below
import Derived.Lib.SmallJoins
namespace Go.Proofs.Ytkekfogepdhjhaa.fnExactBuild
open Go.ChangeShapes Go.WideShapes Go.ChangeAt Go.RowKit Go.Joins
open Go.ChangeMaps (open_string shut_string)
set_option linter.unusedVariables false

theorem own : ownKnob Try.prog.godebug = none := by kernel_rfl
theorem laidOut : laidOutB Try.prog = true := by kernel_rfl
theorem cells38 : Try.prog.cellsOf 38 = 2 := by kernel_rfl

/-- What the walk is told of the texts that came in. -/
def IsRow (w : World) (a : Option Addr) (len cap : Nat) (xs : List ByteArray) : Prop :=
  xs.length = len ∧ len ≤ cap ∧ len ≤ maxLen ∧ RowAt Value.string w a xs ∧ ∀ x ∈ xs, x.size ≤ maxLen
/-- And of the numbers. -/
def IsNums (w : World) (a : Option Addr) (len cap : Nat) (zs : List Int) : Prop :=
  zs.length = len ∧ len ≤ cap ∧ len ≤ maxLen ∧ RowAt (Value.int .i64) w a zs

theorem row_of {w : World} {x : Addr} {len cap : Nat} {ss : List ByteArray} (hl : len ≤ cap) (hm : cap ≤ maxLen) (hz : len ≤ ss.length)
    (hcell : ∀ i, i < ss.length → w.cell? (x.add i) = some (.string (ss.getD i ByteArray.empty))) (hs : ∀ s ∈ ss, s.size ≤ maxLen) : IsRow w (some x) len cap (ss.take len) := by
  refine ⟨by rw [List.length_take]; omega, hl, Nat.le_trans hl hm, fun j hj => ?_, fun y hy => hs y (List.mem_of_mem_take hy)⟩
  rw [List.length_take] at hj
  obtain ⟨b, off, spot⟩ := x
  have hjz : j < ss.length := by omega
  have hc := hcell j hjz
  have hc0 := hcell 0 (by omega)
  have hsp : spot = none := by simpa [Addr.add] using World.cell?_spot hc0
  subst hsp
  have e : (⟨b, off, none⟩ : Addr).add j = ⟨b, off + j, none⟩ := by simp only [Addr.add]; split <;> simp_all
  rw [e] at hc
  refine ⟨b, off, rfl, World.block_lt_of_cell? w _ hc, ?_⟩
  rw [hc, List.getElem_take]
  simp [List.getD, hjz]
theorem nums_of {w : World} {x : Addr} {len cap : Nat} {zs : List Int} (hl : len ≤ cap) (hm : cap ≤ maxLen) (hz : len ≤ zs.length)
    (hcell : ∀ i, i < zs.length → w.cell? (x.add i) = some (.int .i64 (zs.getD i 0))) : IsNums w (some x) len cap (zs.take len) := by
  refine ⟨by rw [List.length_take]; omega, hl, Nat.le_trans hl hm, fun j hj => ?_⟩
  rw [List.length_take] at hj
  obtain ⟨b, off, spot⟩ := x
  have hjz : j < zs.length := by omega
  have hc := hcell j hjz
  have hc0 := hcell 0 (by omega)
  have hsp : spot = none := by simpa [Addr.add] using World.cell?_spot hc0
  subst hsp
  have e : (⟨b, off, none⟩ : Addr).add j = ⟨b, off + j, none⟩ := by simp only [Addr.add]; split <;> simp_all
  rw [e] at hc
  refine ⟨b, off, rfl, World.block_lt_of_cell? w _ hc, ?_⟩
  rw [hc, List.getElem_take]
  simp [List.getD, hjz]

set_option maxRecDepth 100000 in
set_option maxHeartbeats 3200000 in
theorem walk (a0 b0 : Option Addr) (l0 c0 l1 c1 : Nat) (xs : List ByteArray) (ks : List Int) (t : ByteArray) (w : World) (w0 : IsRow w a0 l0 c0 xs) (w1 : IsNums w b0 l1 c1 ks) (wt : t.size ≤ maxLen) :
    Calls Try.prog 9 #[.agg #[.slice a0 l0 c0, .slice b0 l1 c1], .string t] w fun e w' => e = .returned (.bool true) ∧ Below w.heap.size w w' := by
  obtain ⟨rfl, hcap, hm, hr, hs⟩ := w0
  obtain ⟨rfl, hcap2, hm2, hq⟩ := w1
  obtain ⟨W1, hW1⟩ : ∃ W1, w.alloc (.cells #[.slice a0 xs.length c0, .slice b0 ks.length c1] 38) = W1 := ⟨_, rfl⟩
  have hb0 : Below w.heap.size w W1 := by rw [← hW1]; exact (Below.refl _ _).alloc (Nat.le_refl _) _
  have hz : Hid (W1.heap.size = w.heap.size + 1) := by show W1.heap.size = w.heap.size + 1; rw [← hW1]; simp
  have d0 : W1.cell? ⟨w.heap.size, 0, none⟩ = some (.slice a0 xs.length c0) := by rw [← hW1]; simp [go_sem]
  have d1 : W1.cell? ⟨w.heap.size, 1, none⟩ = some (.slice b0 ks.length c1) := by rw [← hW1]; simp [go_sem]
  have L0 : ∀ o, (⟨w.heap.size, o, none⟩ : Addr).block < W1.heap.size := fun o => by have := hz.out; show w.heap.size < _; omega
  unfold maxLen at wt
  by_cases htt : (t.size : Int) > 1048576
  · go_enter Try.func9, Try.ntmps9
    go_wp2
    try rw [hW1]
    go_ret
    exact ⟨rfl, hb0⟩
  have ht : t.size ≤ 1048576 := by omega
  have htd : decide ((t.size : Int) > 1048576) = false := by simpa using htt
  go_enter Try.func9, Try.ntmps9
  go_wp2_with fail
  try rw [hW1]
  refine (szKnown_is a0 b0 c0 c1 xs ks W1 (hr.later hb0) hm hm2 hs).mono ?_
  rintro e w1 ⟨r, rfl, hR, hb1⟩
  clear hW1 htt htd
  have hb01 := hb0.trans (hb1.mono hb0.size)
  by_cases h0 : 0 ≤ r
  · obtain ⟨⟨hl, hs2⟩, hl2⟩ := hR h0
    clear hm hs hR hm2 wt
    have h0' : ¬ r < 0 := by omega
    have e0 := (hb1.cell (L0 0)).trans d0
    have e1 := (hb1.cell (L0 1)).trans d1
    go_wp2_with fail
    refine (toKnown_is a0 b0 c0 c1 xs ks w1 (hr.later hb01) (hq.later hb01) hl hl2).mono ?_
    rintro e w2 ⟨v, rfl, ⟨g1, g2, rfl, ho1, ho2⟩, hb2⟩
    have hb02 := hb01.trans (hb2.mono hb01.size)
    have B2 := hb1.trans (hb2.mono hb1.size)
    clear e0 e1
    have e0 := (B2.cell (L0 0)).trans d0
    have e1 := (B2.cell (L0 1)).trans d1
    have H3 := spec_build g1 0 g2 0 xs.length ks.length xs ks t w2 (RowAt.own ho1) (RowAt.own ho2) hl hl2 (Nat.le_refl _) hs2 ht
    go_wp2_with fail
    refine H3.mono ?_
    clear H3
    rintro e w3 ⟨T, rfl, hT, hb3⟩
    have HT : Hid (T = true ↔ kOk xs ks = true ∧ Term.isT t = true ∧ CanB xs ks t) := hT
    clear hT
    have hb03 := hb02.trans (hb3.mono hb02.size)
    have B3 := B2.trans (hb3.mono B2.size)
    clear e0 e1 ho1 ho2
    have e0 := (B3.cell (L0 0)).trans d0
    have e1 := (B3.cell (L0 1)).trans d1
    go_wp2_with fail
    refine (toKnown_is a0 b0 c0 c1 xs ks w3 (hr.later hb03) (hq.later hb03) hl hl2).mono ?_
    rintro e w4 ⟨v, rfl, ⟨g3, g4, rfl, ho3, ho4⟩, hb4⟩
    have hb04 := hb03.trans (hb4.mono hb03.size)
    have B4 := B3.trans (hb4.mono B3.size)
    clear e0 e1
    have e0 := (B4.cell (L0 0)).trans d0
    have e1 := (B4.cell (L0 1)).trans d1
    obtain ⟨W5, hW5⟩ : ∃ W5, w4.alloc (.cells #[.slice (some ⟨g3, 0, none⟩) xs.length xs.length, .slice (some ⟨g4, 0, none⟩) ks.length ks.length] 27) = W5 := ⟨_, rfl⟩
    have hb5 : Below w4.heap.size w4 W5 := by rw [← hW5]; exact (Below.refl _ _).alloc (Nat.le_refl _) _
    have hz5 : Hid (W5.heap.size = w4.heap.size + 1) := by show W5.heap.size = w4.heap.size + 1; rw [← hW5]; simp
    have x0 : W5.cell? ⟨w4.heap.size, 0, none⟩ = some (.slice (some ⟨g3, 0, none⟩) xs.length xs.length) := by rw [← hW5]; simp [go_sem]
    have x1 : W5.cell? ⟨w4.heap.size, 1, none⟩ = some (.slice (some ⟨g4, 0, none⟩) ks.length ks.length) := by rw [← hW5]; simp [go_sem]
    have L5 : ∀ o, (⟨w4.heap.size, o, none⟩ : Addr).block < W5.heap.size := fun o => by have := hz5.out; show w4.heap.size < _; omega
    have hb05 := hb04.trans (hb5.mono hb04.size)
    have B5 := B4.trans (hb5.mono B4.size)
    have r3 := (RowAt.own ho3).later hb5
    have r4 := (RowAt.own ho4).later hb5
    have H6 := impl_build (some ⟨g3, 0, none⟩) (some ⟨g4, 0, none⟩) xs.length ks.length xs ks t W5 r3 r4 hl hl2 (Nat.le_refl _) hs2 ht
    go_wp2_with fail
    try rw [hW5]
    refine H6.mono ?_
    clear hW5 H6 e0 e1 ho3 ho4
    rintro e w6 ⟨T2, rfl, hT2, hb6⟩
    have hTT2 : T2 = T := by rw [Bool.eq_iff_iff, hT2, HT.out]
    subst hTT2
    clear hT2 HT
    have hb06 := hb05.trans (hb6.mono hb05.size)
    have B6 := B5.trans (hb6.mono B5.size)
    have r3' := r3.later hb6
    have r4' := r4.later hb6
    have e0 := (B6.cell (L0 0)).trans d0
    have e1 := (B6.cell (L0 1)).trans d1
    have y0 := (hb6.cell (L5 0)).trans x0
    have y1 := (hb6.cell (L5 1)).trans x1
    have z6 : W1.heap.size ≤ w6.heap.size := B6.size
    have z6' : W5.heap.size ≤ w6.heap.size := hb6.size
    clear B5 B4 B3 B2 hb05 hb04 hb03 hb02 hb01 hb6 hb5 hb4 hb3 hb2 hb1 x0 x1 r3 r4
    have hTT : (T2 != T2) = false := by cases T2 <;> rfl
    go_wp2_with fail
    go_region_held3 (fun W => W.cell? ⟨w.heap.size, 0, none⟩ = some (.slice a0 xs.length c0) ∧ W.cell? ⟨w.heap.size, 1, none⟩ = some (.slice b0 ks.length c1) ∧ W.cell? ⟨w4.heap.size, 0, none⟩ = some (.slice (some ⟨g3, 0, none⟩) xs.length xs.length) ∧ W.cell? ⟨w4.heap.size, 1, none⟩ = some (.slice (some ⟨g4, 0, none⟩) ks.length ks.length))
      (first | exact ⟨by simpa using e0, by simpa using e1, by simpa using y0, by simpa using y1⟩ | exact hS8 | exact hS7)
      ((first
        | (go_at_call 23; refine (toKnown_is a0 b0 c0 c1 xs ks _ (hr.later hb06.drew) (hq.later hb06.drew) hl hl2).mono ?_; rintro e w7 ⟨v, rfl, ⟨g5, g6, rfl, ho5, ho6⟩, hb7⟩; have hS7 : w7.cell? ⟨w.heap.size, 0, none⟩ = some (.slice a0 xs.length c0) ∧ w7.cell? ⟨w.heap.size, 1, none⟩ = some (.slice b0 ks.length c1) ∧ w7.cell? ⟨w4.heap.size, 0, none⟩ = some (.slice (some ⟨g3, 0, none⟩) xs.length xs.length) ∧ w7.cell? ⟨w4.heap.size, 1, none⟩ = some (.slice (some ⟨g4, 0, none⟩) ks.length ks.length) := ⟨(hb7.cell (Nat.lt_of_lt_of_le (L0 0) z6)).trans (by simpa using e0), (hb7.cell (Nat.lt_of_lt_of_le (L0 1) z6)).trans (by simpa using e1), (hb7.cell (Nat.lt_of_lt_of_le (L5 0) z6')).trans (by simpa using y0), (hb7.cell (Nat.lt_of_lt_of_le (L5 1) z6')).trans (by simpa using y1)⟩)
        | (go_at_call 25; refine (eqKnown_is (some ⟨g3, 0, none⟩) (some ⟨g4, 0, none⟩) (some ⟨g5, 0, none⟩) (some ⟨g6, 0, none⟩) _ _ _ _ xs ks w7 ((r3'.later (Below.drew (Below.refl _ _))).later hb7) ((r4'.later (Below.drew (Below.refl _ _))).later hb7) (RowAt.own ho5) (RowAt.own ho6) hl hl2).mono ?_; rintro e w8 ⟨rfl, hb8⟩; have z7 := hb7.size; have hS8 : w8.cell? ⟨w.heap.size, 0, none⟩ = some (.slice a0 xs.length c0) ∧ w8.cell? ⟨w.heap.size, 1, none⟩ = some (.slice b0 ks.length c1) ∧ w8.cell? ⟨w4.heap.size, 0, none⟩ = some (.slice (some ⟨g3, 0, none⟩) xs.length xs.length) ∧ w8.cell? ⟨w4.heap.size, 1, none⟩ = some (.slice (some ⟨g4, 0, none⟩) ks.length ks.length) := ⟨(hb8.cell (Nat.lt_of_lt_of_le (Nat.lt_of_lt_of_le (L0 0) z6) z7)).trans hS7.1, (hb8.cell (Nat.lt_of_lt_of_le (Nat.lt_of_lt_of_le (L0 1) z6) z7)).trans hS7.2.1, (hb8.cell (Nat.lt_of_lt_of_le (Nat.lt_of_lt_of_le (L5 0) z6') z7)).trans hS7.2.2.1, (hb8.cell (Nat.lt_of_lt_of_le (Nat.lt_of_lt_of_le (L5 1) z6') z7)).trans hS7.2.2.2⟩)))
    all_goals
      have hb07 := hb06.drew.trans (hb7.mono hb06.size)
      have hb08 := hb07.trans (hb8.mono hb07.size)
      go_wp2
      go_ret
      exact ⟨rfl, hb08⟩
  · have h0' : r < 0 := by omega
    go_wp2
    go_ret
    exact ⟨rfl, hb01⟩

set_option maxRecDepth 100000 in
theorem lifted (os : Os) (started : os.Started) (H : Type) (enc : TypeId × Value → H) :
    ReturnsInHanded {} Try.checked os 9 .any (Rows.fnExactBuildSpec.pre6 enc Try.prog Try.f9 Rows.fnExactBuildRow.domain false) (Rows.fnExactBuildSpec.post enc Try.prog Try.f9 false true false false) := by
  refine returnsInHanded_of_change (C := Try.checked) own started (by kernel_rfl) Try.func9
    (ChangeSpec.witness6 (enc := enc) (C := Try.checked) false ⟨#[], #[.agg #[.slice none 0 0, .slice none 0 0], .string ByteArray.empty], []⟩ 8 (by kernel_rfl) (by kernel_rfl) (by kernel_rfl) (by kernel_rfl)) ?_
  intro W base args ds gs before hval0 hW hcnd _
  have hval : ∀ (j : Nat) t v, Try.f9.params[j]? = some t → args[j]? = some v → Value.okWide Try.prog W .any base t v := hval0
  have hW' := hW
  obtain ⟨p, q, hA0, hV, rfl, hfz, hnd⟩ := hW
  have hA : DataW.TrodAll enc Try.prog W 0 (fun _ => true) true Try.f9.params.toList args.toList ds p := hA0
  rw [Try.params9] at hA hval
  obtain ⟨v0, vs0, d0, ds0, p0, q0, hargs, rfl, rfl, h0, r0⟩ := trodAll_cons hA
  obtain ⟨v1, vs1, d1, ds1, p1, q1, hargs1, rfl, rfl, h1, r1⟩ := trodAll_cons r0
  obtain ⟨rfl, rfl, rfl⟩ := trodAll_nil r1
  obtain rfl : args = #[v0, v1] := by cases args; simp_all
  obtain ⟨rfl, rfl⟩ := trodVars_none hV
  have k0 := h0
  have lt0 : ∀ x ∈ p0, x.block < W.heap.size := by obtain ⟨m, hm⟩ := k0; exact DataW.trod_lt m _ _ _ hm
  have k1 := h1
  have lt1 : ∀ x ∈ p1, x.block < W.heap.size := by obtain ⟨m, hm⟩ := k1; exact DataW.trod_lt m _ _ _ hm
  obtain ⟨t, et, _, _, wt⟩ := open_string Try.underlying9 (hval 1 9 v1 rfl rfl) h1
  subst et
  obtain ⟨a0, l0, c0, b0, l1, c1, xs, ks, rfl, w0, w1⟩ : ∃ a0 l0 c0 b0 l1 c1 xs ks, v0 = .agg #[.slice a0 l0 c0, .slice b0 l1 c1] ∧ IsRow W a0 l0 c0 xs ∧ IsNums W b0 l1 c1 ks := by
    obtain ⟨x0, x1, y0, y1, m, rfl, _, _, hy0, hy1⟩ := open_agg2 Try.underlying38 (by kernel_rfl) cells38 (hval 0 38 v0 rfl rfl) h0
    have A0 : ∃ a l c xs, x0 = .slice a l c ∧ IsRow W a l c xs := by
      rcases open_strings Try.underlying24 Try.underlying9 (by kernel_rfl) hy0 with ⟨hcs, _⟩ | ⟨x, l, c, ss, hcs, _, hl, hm, hz, _, hcell, hsz⟩
      · simp at hcs
        subst hcs
        exact ⟨none, 0, 0, [], rfl, rfl, Nat.le_refl _, by unfold maxLen; omega, RowAt.nil _ _, fun x hx => by simp at hx⟩
      · simp at hcs
        subst hcs
        exact ⟨_, _, _, _, rfl, row_of hl hm (by rw [hz]; split <;> omega) hcell hsz⟩
    have A1 : ∃ a l c xs, x1 = .slice a l c ∧ IsNums W a l c xs := by
      rcases open_ints Try.underlying25 Try.underlying3 (by kernel_rfl) hy1 with ⟨hcs, _⟩ | ⟨x, l, c, zs, hcs, _, hl, hm, hz, _, hcell, hwz⟩
      · simp at hcs
        subst hcs
        exact ⟨none, 0, 0, [], rfl, rfl, Nat.le_refl _, by unfold maxLen; omega, RowAt.nil _ _⟩
      · simp at hcs
        subst hcs
        exact ⟨_, _, _, _, rfl, nums_of hl hm (by rw [hz]; split <;> omega) hcell⟩
    obtain ⟨a, l, c, xs, rfl, h1⟩ := A0
    obtain ⟨b, m, d, ks, rfl, h2⟩ := A1
    exact ⟨a, l, c, b, m, d, xs, ks, rfl, h1, h2⟩
  clear hA0 hval0
  refine (walk a0 b0 l0 c0 l1 c1 xs ks t W w0 w1 wt).mono fun e W' ⟨he, bel⟩ => ?_
  subst he
  exact ⟨_, rfl, _, _, _, [], _, [], hW', trodAll_mk1 (shut_bool Try.underlying4 _), (trodAll_cons_mk (Below.trod laidOut (by kernel_rfl) (of_decide_eq_true (by kernel_rfl)) k0 bel lt0) (trodAll_cons_mk (Below.trod laidOut (by kernel_rfl) (of_decide_eq_true (by kernel_rfl)) k1 bel lt1) trodAll_mk0)), rfl, bel.frame _, fun h => by cases h⟩

theorem over : Rows.fnExactBuildRow.holds Try.pinned (OpenSpec.ofChange Rows.fnExactBuildSpec) :=
  OpenClaim.holds_of_wide 9 Try.f9 rfl rfl rfl rfl rfl rfl rfl ⟨rfl, rfl, rfl, rfl, rfl⟩ rfl rfl rfl rfl rfl (by kernel_rfl) Try.func9 (by kernel_rfl)
    (of_decide_eq_true (by kernel_rfl)) (by unfold Func.isWrapper; first | (rw [if_pos (by decide +kernel)]; kernel_rfl) | (rw [if_neg (by decide +kernel)]; exact ⟨rfl, rfl⟩))
    (fun os started H enc _ => lifted os started H enc)

theorem proved : Rows.FnExactBuildSaid := over
#print axioms proved
end Go.Proofs.Ytkekfogepdhjhaa.fnExactBuild
