/- What is asked of what is known: the model's answers. -/
import Derived.Test.YtkekfogepdhjhaaClose3
set_option linter.unusedVariables false
namespace Go.Proofs.Ytkekfogepdhjhaa
open Go.RowKit Own Var Term

set_option maxRecDepth 100000 in
set_option maxHeartbeats 1600000 in
/-- Is t seen? -/
theorem spec_sees (g1 o1 g2 o2 ca cb : Nat) (xs : List ByteArray) (ks : List Int) (t : ByteArray) (w : World) (hr : RowAt Value.string w (some ⟨g1, o1, none⟩) xs) (hq : RowAt (Value.int .i64) w (some ⟨g2, o2, none⟩) ks) (hl : xs.length ≤ 1048576) (hl2 : ks.length ≤ 1048576) (hcap : xs.length ≤ ca) (hs : ∀ x ∈ xs, x.size ≤ 1048576) :
    Calls Try.prog 17 #[.agg #[.slice (some ⟨g1, o1, none⟩) xs.length ca, .slice (some ⟨g2, o2, none⟩) ks.length cb], .string t] w fun e w' => ∃ b, e = .returned (.bool b) ∧ (b = true ↔ kOk xs ks = true ∧ SeenT xs ks t) ∧ Below w.heap.size w w' := by
  obtain ⟨W1, hW1⟩ : ∃ W1, w.alloc (.cells #[.slice (some ⟨g1, o1, none⟩) xs.length ca, .slice (some ⟨g2, o2, none⟩) ks.length cb] 27) = W1 := ⟨_, rfl⟩
  have hb0 : Below w.heap.size w W1 := by rw [← hW1]; exact (Below.refl _ _).alloc (Nat.le_refl _) _
  have A1 : Bx W1 w.heap.size (.slice (some ⟨g1, o1, none⟩) xs.length ca) (.slice (some ⟨g2, o2, none⟩) ks.length cb) := by rw [← hW1]; exact Bx.new _ _ _ _
  have hO := spec_knownOk (some ⟨g1, o1, none⟩) (some ⟨g2, o2, none⟩) ca cb xs ks W1 (hr.later hb0) (hq.later hb0) hl hl2 hcap hs
  obtain ⟨e9, e0, e1⟩ := A1
  cases hK : kOk xs ks with
  | false =>
    rw [hK] at hO
    go_enter Try.func17, Try.ntmps17
    go_wp2_with fail
    try rw [hW1]
    refine hO.mono ?_
    clear hW1 hO
    rintro e w1 ⟨rfl, hb1⟩
    go_wp2
    go_ret
    exact ⟨false, rfl, by simp, hb0.trans (hb1.mono hb0.size)⟩
  | true =>
    rw [hK] at hO
    go_enter Try.func17, Try.ntmps17
    go_wp2_with fail
    try rw [hW1]
    refine hO.mono ?_
    clear hW1 hO
    rintro e w1 ⟨rfl, hb1⟩
    obtain ⟨f9, f0, f1⟩ := Bx.later ⟨e9, e0, e1⟩ hb1
    have hb01 := hb0.trans (hb1.mono hb0.size)
    have hC := l3Close_is g1 o1 g2 o2 ca cb xs ks w1 (hr.later hb01) (hq.later hb01) hK
    go_wp2_with fail
    refine hC.mono ?_
    clear hC
    rintro e w2 ⟨a, b, ka, kb, S, K, rfl, ho, hp, HF, hb2⟩
    have hb02 := hb01.trans (hb2.mono hb01.size)
    have hI := l3InW a ka S t w2 (row_own9 ho) (by have := HF.out.2.2.2.1; omega)
    go_wp2_with fail
    refine hI.mono ?_
    rintro e w3 ⟨rfl, rfl⟩
    go_wp2
    go_ret
    refine ⟨_, rfl, ?_, hb02⟩
    rw [inB_iff, HF.out.1]
    simp

set_option maxRecDepth 100000 in
set_option maxHeartbeats 1600000 in
/-- The numbers that are reached, rising. -/
theorem spec_reach (g1 o1 g2 o2 ca cb : Nat) (xs : List ByteArray) (ks : List Int) (w : World) (hr : RowAt Value.string w (some ⟨g1, o1, none⟩) xs) (hq : RowAt (Value.int .i64) w (some ⟨g2, o2, none⟩) ks) (hl : xs.length ≤ 1048576) (hl2 : ks.length ≤ 1048576) (hcap : xs.length ≤ ca) (hs : ∀ x ∈ xs, x.size ≤ 1048576) :
    Calls Try.prog 15 #[.agg #[.slice (some ⟨g1, o1, none⟩) xs.length ca, .slice (some ⟨g2, o2, none⟩) ks.length cb]] w fun e w' => ∃ (b : Option Addr) (kb : Nat) (K : List Int), e = .returned (.slice b K.length kb) ∧ w'.ownsRow w.heap.size 3 1 (.slice b K.length kb) K.length (intV K) ∧ Hid ((∀ k, k ∈ K ↔ kOk xs ks = true ∧ ReachT xs ks k) ∧ K.Pairwise (· < ·) ∧ K.length ≤ 1000000) ∧ Below w.heap.size w w' := by
  obtain ⟨W1, hW1⟩ : ∃ W1, w.alloc (.cells #[.slice (some ⟨g1, o1, none⟩) xs.length ca, .slice (some ⟨g2, o2, none⟩) ks.length cb] 27) = W1 := ⟨_, rfl⟩
  have hb0 : Below w.heap.size w W1 := by rw [← hW1]; exact (Below.refl _ _).alloc (Nat.le_refl _) _
  have A1 : Bx W1 w.heap.size (.slice (some ⟨g1, o1, none⟩) xs.length ca) (.slice (some ⟨g2, o2, none⟩) ks.length cb) := by rw [← hW1]; exact Bx.new _ _ _ _
  have hO := spec_knownOk (some ⟨g1, o1, none⟩) (some ⟨g2, o2, none⟩) ca cb xs ks W1 (hr.later hb0) (hq.later hb0) hl hl2 hcap hs
  obtain ⟨e9, e0, e1⟩ := A1
  cases hK : kOk xs ks with
  | false =>
    rw [hK] at hO
    go_enter Try.func15, Try.ntmps15
    go_wp2_with fail
    try rw [hW1]
    refine hO.mono ?_
    clear hW1 hO
    rintro e w1 ⟨rfl, hb1⟩
    have hb01 := hb0.trans (hb1.mono hb0.size)
    have hlit : (w1.alloc (.cells #[] 3)).ownsRow w.heap.size 3 1 (.slice (some ⟨w1.heap.size, 0, none⟩) 0 0) 0 [] := World.ownsRow_lit _ _ _ hb01.size (by unfold maxLen; omega) rfl
    go_wp2
    go_ret
    exact ⟨_, _, [], rfl, hlit, ⟨by simp, List.Pairwise.nil, by simp⟩, hb01.alloc hb01.size _⟩
  | true =>
    rw [hK] at hO
    go_enter Try.func15, Try.ntmps15
    go_wp2_with fail
    try rw [hW1]
    refine hO.mono ?_
    clear hW1 hO
    rintro e w1 ⟨rfl, hb1⟩
    obtain ⟨f9, f0, f1⟩ := Bx.later ⟨e9, e0, e1⟩ hb1
    have hb01 := hb0.trans (hb1.mono hb0.size)
    have hC := l3Close_is g1 o1 g2 o2 ca cb xs ks w1 (hr.later hb01) (hq.later hb01) hK
    go_wp2_with fail
    refine hC.mono ?_
    clear hC
    rintro e w2 ⟨a, b, ka, kb, S, K, rfl, ho, hp, HF, hb2⟩
    have hb02 := hb01.trans (hb2.mono hb01.size)
    have hp2 := own_base hp hb01.size
    have HF2 : Hid ((∀ k, k ∈ K ↔ true = true ∧ ReachT xs ks k) ∧ K.Pairwise (· < ·) ∧ K.length ≤ 1000000) := ⟨fun k => by rw [HF.out.2.1 k]; simp, HF.out.2.2.1, HF.out.2.2.2.2⟩
    go_wp2
    go_ret
    exact ⟨b, kb, K, rfl, hp2, HF2, hb02⟩

/-- Can t be put together, out of what is seen and reached? (f: its depth at most.) -/
def bld (S : List ByteArray) (K : List Int) : Nat → ByteArray → Bool
  | 0, _ => false
  | f + 1, t => inB S t || (match cut t with
    | none => false
    | some (n, r) =>
      if at_ t 0 = 97 then true
      else if at_ t 0 = 107 then hasB K n
      else if at_ t 0 = 108 then (psL n r).all (bld S K f)
      else hasB K n && bld S K f r)
theorem bld_seen {S : List ByteArray} {K : List Int} {f : Nat} {t : ByteArray} (h : inB S t = true) : bld S K (f + 1) t = true := by rw [bld, h]; rfl
theorem bld_not {S : List ByteArray} {K : List Int} {f n : Nat} {t r : ByteArray} (h : inB S t = false) (hc : cut t = some (n, r)) : bld S K (f + 1) t = (if at_ t 0 = 97 then true else if at_ t 0 = 107 then hasB K n else if at_ t 0 = 108 then (psL n r).all (bld S K f) else hasB K n && bld S K f r) := by
  rw [bld, h, hc]; rfl
end Go.Proofs.Ytkekfogepdhjhaa
