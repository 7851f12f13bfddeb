/- The model's Sees, Reach and Build, over rows that may be nil. -/
import Derived.Test.YtkekfogepdhjhaaGreatClose4
import Derived.Test.YtkekfogepdhjhaaGreatSpecAsk
set_option linter.unusedVariables false
namespace Go.Proofs.YtkekfogepdhjhaaGreat
open Go.RowKit Go.Proofs.YtkekfogepdhjhaaGreat.Own Var Term

set_option maxRecDepth 100000 in
set_option maxHeartbeats 1600000 in
/-- Can t be put together? -/
theorem spec_buildN (a0 b0 : Option Addr) (ca cb : Nat) (xs : List ByteArray) (ks : List Int) (t : ByteArray) (w : World) (hr : RowAt Value.string w a0 xs) (hq : RowAt (Value.int .i64) w b0 ks) (hl : xs.length ≤ 1048576) (hl2 : ks.length ≤ 1048576) (hcap : xs.length ≤ ca) (hs : ∀ x ∈ xs, x.size ≤ 1048576) (ht : t.size ≤ 1048576) :
    Calls Tryz.prog 11 #[.agg #[.slice a0 xs.length ca, .slice b0 ks.length cb], .string t] w fun e w' => ∃ b, e = .returned (.bool b) ∧ Hid (b = true ↔ kOk xs ks = true ∧ isT t = true ∧ ∃ (S : List ByteArray) (K : List Int), (∀ u, u ∈ S ↔ SeenT xs ks u) ∧ (∀ k, k ∈ K ↔ ReachT xs ks k) ∧ bld S K 8 t = true) ∧ Below w.heap.size w w' := by
  obtain ⟨W1, hW1⟩ : ∃ W1, w.alloc (.cells #[.slice a0 xs.length ca, .slice b0 ks.length cb] 27) = W1 := ⟨_, rfl⟩
  have hb0 : Below w.heap.size w W1 := by rw [← hW1]; exact (Below.refl _ _).alloc (Nat.le_refl _) _
  have A1 : Bx W1 w.heap.size (.slice a0 xs.length ca) (.slice b0 ks.length cb) := by rw [← hW1]; exact Bx.new _ _ _ _
  have hO := spec_knownOk a0 b0 ca cb xs ks W1 (hr.later hb0) (hq.later hb0) hl hl2 hcap hs
  have hT := fun w' => spec_ok t w' ht
  obtain ⟨e9, e0, e1⟩ := A1
  cases hK : kOk xs ks with
  | false =>
    rw [hK] at hO
    go_enter Tryz.func11, Tryz.ntmps11
    go_wp2_with fail
    try rw [hW1]
    refine hO.mono ?_
    clear hW1 hO
    rintro e w1 ⟨rfl, hb1⟩
    go_wp2
    go_ret
    exact ⟨false, rfl, by simp [Hid], hb0.trans (hb1.mono hb0.size)⟩
  | true =>
    rw [hK] at hO
    cases hTt : isT t with
    | false =>
      simp only [hTt] at hT
      go_enter Tryz.func11, Tryz.ntmps11
      go_wp2_with fail
      try rw [hW1]
      refine hO.mono ?_
      clear hW1 hO
      rintro e w1 ⟨rfl, hb1⟩
      go_wp2_with fail
      refine (hT _).mono ?_
      rintro e w2 ⟨rfl, hb2⟩
      have hb01 := hb0.trans (hb1.mono hb0.size)
      go_wp2
      go_ret
      exact ⟨false, rfl, by simp [Hid], hb01.trans (hb2.mono hb01.size)⟩
    | true =>
      simp only [hTt] at hT
      obtain ⟨hz9, rr, hbh, hrr⟩ := (isT_iff t).1 hTt
      go_enter Tryz.func11, Tryz.ntmps11
      go_wp2_with fail
      try rw [hW1]
      refine hO.mono ?_
      clear hW1 hO
      rintro e w1 ⟨rfl, hb1⟩
      go_wp2_with fail
      refine (hT _).mono ?_
      rintro e w2 ⟨rfl, hb2⟩
      have hb12 := hb1.trans (hb2.mono hb1.size)
      obtain ⟨f9, f0, f1⟩ := Bx.later ⟨e9, e0, e1⟩ hb12
      have hb02 := hb0.trans (hb12.mono hb0.size)
      have hC := l3CloseN_is a0 b0 ca cb xs ks w2 (hr.later hb02) (hq.later hb02) hK
      go_wp2_with fail
      refine hC.mono ?_
      clear hC
      rintro e w3 ⟨a, b, ka, kb, S, K, rfl, ho, hp, HF, hb3⟩
      have hb03 := hb02.trans (hb3.mono hb02.size)
      have hBd := l3Build_is a b ka kb S K HF.out.2.2.2.1 (by have := HF.out.2.2.2.2; omega) 8 (Nat.le_refl _) t rr w3 (row_own9 ho) (row_own3 hp) hz9 hbh hrr
      have HX : Hid (bld S K 8 t = true ↔ true = true ∧ true = true ∧ ∃ (S : List ByteArray) (K : List Int), (∀ u, u ∈ S ↔ SeenT xs ks u) ∧ (∀ k, k ∈ K ↔ ReachT xs ks k) ∧ bld S K 8 t = true) := by
        refine ⟨fun h => ⟨rfl, rfl, S, K, HF.out.1, HF.out.2.1, h⟩, ?_⟩
        rintro ⟨_, _, S', K', h1, h2, h3⟩
        rw [bld_same (S := S) (S' := S') (K := K) (K' := K') (fun u => (HF.out.1 u).trans (h1 u).symm) (fun k => (HF.out.2.1 k).trans (h2 k).symm) 8 t]
        exact h3
      generalize bld S K 8 t = bb at *
      go_wp2_with fail
      refine hBd.mono ?_
      rintro e w4 ⟨rfl, hb4⟩
      go_wp2
      go_ret
      exact ⟨bb, rfl, HX, hb03.trans (hb4.mono hb03.size)⟩
end Go.Proofs.YtkekfogepdhjhaaGreat
