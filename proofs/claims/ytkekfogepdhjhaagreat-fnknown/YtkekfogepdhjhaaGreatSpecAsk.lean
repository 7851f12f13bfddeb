/- What is asked of what is known: the model's answers. -/
import Derived.Test.YtkekfogepdhjhaaGreatClose3
set_option linter.unusedVariables false
namespace Go.Proofs.YtkekfogepdhjhaaGreat
open Go.RowKit Own Var Term

/-- Can t be put together, out of what is seen and reached? (f: its depth at most.) -/
def bld (S : List ByteArray) (K : List Int) : Nat → ByteArray → Bool
  | 0, _ => false
  | f + 1, t => inB S t || (match cut t with
    | none => false
    | some (n, r) =>
      if at_ t 0 = 97 then true
      else if at_ t 0 = 107 then hasB K n
      else if at_ t 0 = 108 then (psL n r).all (bld S K f)
      else hasB K n && bld S K f r)
theorem bld_seen {S : List ByteArray} {K : List Int} {f : Nat} {t : ByteArray} (h : inB S t = true) : bld S K (f + 1) t = true := by rw [bld, h]; rfl
theorem bld_not {S : List ByteArray} {K : List Int} {f n : Nat} {t r : ByteArray} (h : inB S t = false) (hc : cut t = some (n, r)) : bld S K (f + 1) t = (if at_ t 0 = 97 then true else if at_ t 0 = 107 then hasB K n else if at_ t 0 = 108 then (psL n r).all (bld S K f) else hasB K n && bld S K f r) := by
  rw [bld, h, hc]; rfl
end Go.Proofs.YtkekfogepdhjhaaGreat

set_option linter.unusedVariables false
namespace Go.Proofs.YtkekfogepdhjhaaGreat
open Go.RowKit Go.Proofs.YtkekfogepdhjhaaGreat.Own Var Term

theorem bh_le {f : Nat} : ∀ (g : Nat), f ≤ g → ∀ x r, bh f x = some r → bh g x = some r := by
  intro g
  induction g with
  | zero => intro h x r e; obtain rfl : f = 0 := by omega
            exact e
  | succ g ih =>
    intro h x r e
    by_cases hc : f = g + 1
    · subst hc; exact e
    · exact bh_mono g x r (ih (by omega) x r e)
theorem psL_deep {f : Nat} (hf : f ≤ 8) (n : Nat) : ∀ r E, rep (bh f) n r = some E → ∀ x ∈ psL n r, bh f x = some ⟨#[]⟩ := by
  induction n with
  | zero => intro r E h x hx; simp [psL] at hx
  | succ n ih =>
    intro r E h
    obtain ⟨r', h1, h2⟩ := rep_succ h
    have h8 := bh_le 8 hf r r' h1
    obtain ⟨p, e, q⟩ := bh_pre f r r' h1
    have hp : r.extract 0 (r.size - r'.size) = p := by
      rw [e, ByteArray.size_append, (by omega : p.size + r'.size - r'.size = p.size), ext_app]
    rw [psL_succ h8, hp]
    intro x hx
    rcases List.mem_cons.1 hx with rfl | hx
    · have := q ⟨#[]⟩
      rwa [app_nil] at this
    · exact ih r' E h2 x hx
theorem isT_of {f : Nat} (hf : f ≤ 8) {t r : ByteArray} (hz : t.size ≤ 900) (hb : bh f t = some r) (hr : r.size = 0) : isT t = true := by
  rw [isT_iff]; exact ⟨hz, r, bh_le 8 hf t r hb, hr⟩

theorem inB_same {S S' : List ByteArray} (h : ∀ u, u ∈ S ↔ u ∈ S') (t : ByteArray) : inB S t = inB S' t := by rw [Bool.eq_iff_iff, inB_iff, inB_iff, h t]
theorem hasB_same {K K' : List Int} (h : ∀ u, u ∈ K ↔ u ∈ K') (k : Int) : hasB K k = hasB K' k := by rw [Bool.eq_iff_iff, hasB_iff, hasB_iff, h k]
theorem bld_same {S S' : List ByteArray} {K K' : List Int} (hs : ∀ u, u ∈ S ↔ u ∈ S') (hk : ∀ k, k ∈ K ↔ k ∈ K') : ∀ (f : Nat) (t : ByteArray), bld S K f t = bld S' K' f t := by
  intro f
  induction f with
  | zero => intro t; rfl
  | succ f ih =>
    intro t
    have hf : bld S K f = bld S' K' f := funext ih
    rw [bld, bld, inB_same hs t]
    cases cut t with
    | none => rfl
    | some q => simp only [hasB_same hk, hf]

set_option maxRecDepth 100000 in
set_option maxHeartbeats 6400000 in
theorem l3Build_is (a b : Option Addr) (ka kb : Nat) (S : List ByteArray) (K : List Int) (hS : S.length ≤ 1000000000) (hKl : K.length ≤ 1000000000) : ∀ (f : Nat), f ≤ 8 → ∀ (t r0 : ByteArray) (w : World), RowAt Value.string w a S → RowAt (Value.int .i64) w b K → t.size ≤ 900 → bh f t = some r0 → r0.size = 0 →
    Calls Tryz.prog 40 #[.slice a S.length ka, .slice b K.length kb, .string t] w fun e w' => e = .returned (.bool (bld S K f t)) ∧ Below w.heap.size w w' := by
  intro f
  induction f with
  | zero => intro _ t r0 w _ _ _ hb _; simp [bh] at hb
  | succ f ih =>
    intro hf t r0 w hr hq hz hb hr0
    have hT := isT_of hf hz hb hr0
    have h2 := not_empty ((isT_iff t).1 hT)
    obtain ⟨n, r, hc⟩ := ((isT_iff t).1 hT).cut
    have hI := l3InW a ka S t w hr hS
    have hat := at_eq t 0 (by omega)
    cases hin : inB S t with
    | true =>
      have hB : bld S K (f + 1) t = true := bld_seen hin
      rw [hin] at hI
      rw [hB]
      clear hB hin hb
      go_enter Tryz.func40, Tryz.ntmps40
      go_wp2_with fail
      refine hI.mono ?_
      rintro e w1 ⟨rfl, rfl⟩
      go_wp2
      go_ret
      exact ⟨rfl, Below.refl _ _⟩
    | false =>
      rw [hin] at hI
      have hB := bld_not (K := K) (f := f) hin hc
      rw [bh_some hc] at hb
      have hRK := fun w' => spec_readKey t w' (by omega)
      have hPT := fun w' => spec_parts t w' (by omega)
      by_cases h97 : at_ t 0 = 97
      · rw [if_pos h97] at hB
        have hd : ((t[0].toNat : Int) == 97) = true := by simp; omega
        rw [hB]
        clear hB hin hb hRK hPT
        go_enter Tryz.func40, Tryz.ntmps40
        go_wp2_with fail
        refine hI.mono ?_
        rintro e w1 ⟨rfl, rfl⟩
        go_wp2
        go_ret
        exact ⟨rfl, Below.refl _ _⟩
      · have hd : ((t[0].toNat : Int) == 97) = false := by simp; omega
        rw [if_neg h97] at hB hb
        by_cases h107 : at_ t 0 = 107
        · rw [if_pos h107] at hB
          have hke : keyR t = ((n : Int), true) := by unfold keyR; rw [rk_yes ((isT_iff t).1 hT) h107, hc]
          rw [hke] at hRK
          have hH := fun w' (h : Below w.heap.size w w') => l3HasW b kb K n w' (hq.later h) hKl
          rw [hB]
          generalize hasB K n = hb2 at *
          clear hB hin hb hPT hke hc
          go_enter Tryz.func40, Tryz.ntmps40
          go_wp2_with fail
          refine hI.mono ?_
          rintro e w1 ⟨rfl, rfl⟩
          go_wp2_with fail
          refine (hRK _).mono ?_
          rintro e w2 ⟨rfl, hb1⟩
          go_wp2_with fail
          refine (hH _ hb1).mono ?_
          rintro e w3 ⟨rfl, rfl⟩
          go_wp2
          go_ret
          exact ⟨rfl, hb1⟩
        · rw [if_neg h107] at hB
          have hke : keyR t = (0, false) := by unfold keyR; rw [rk_no (fun c => h107 c.2)]
          rw [hke] at hRK
          by_cases h108 : at_ t 0 = 108
          · rw [if_pos h108] at hB hb
            have hpe : partsR t = (psL n r, true) := by unfold partsR; rw [rk_yes ((isT_iff t).1 hT) h108, hc]
            have hdeep := psL_deep (by omega) n r r0 hb
            have hpl := parts_len t
            have hsb : ∀ p, p ∈ psL n r → p.size ≤ 900 := fun p hp => by
              have := sub_size (sub_parts (l := t) (p := p) (by rw [hpe]; exact hp)); omega
            rw [hpe] at hPT hpl
            simp only at hPT hpl
            generalize psL n r = P at *
            have HIH : Hid (∀ p, p ∈ P → ∀ w', Below w.heap.size w w' → Calls Tryz.prog 40 #[.slice a S.length ka, .slice b K.length kb, .string p] w' fun e w'' => e = .returned (.bool (bld S K f p)) ∧ Below w'.heap.size w' w'') :=
              fun p hp w' hbw => ih (by omega) p ⟨#[]⟩ w' (hr.later hbw) (hq.later hbw) (hsb p hp) (hdeep p hp) rfl
            obtain ⟨F, HF⟩ : ∃ F : ByteArray → Bool, Hid (F = bld S K f) := ⟨_, (rfl : bld S K f = bld S K f)⟩
            rw [← HF.out] at HIH hB
            rw [hB]
            clear hB hin hb hke hpe hc hdeep hsb ih HF
            go_enter Tryz.func40, Tryz.ntmps40
            go_wp2_with fail
            refine hI.mono ?_
            rintro e w1 ⟨rfl, rfl⟩
            go_wp2_with fail
            refine (hRK _).mono ?_
            rintro e w2 ⟨rfl, hb1⟩
            go_wp2_with fail
            refine (hPT _).mono ?_
            rintro e w3 ⟨vp, rfl, hop, hb3⟩
            have hb13 := hb1.trans (hb3.mono hb1.size)
            obtain ⟨pa, pk, rfl, _, hrp⟩ := own_row hop
            clear hop hRK hPT hI hb1 hb3
            go_wp2
            go_loopw [11] (fun jj wr => ∃ j : Nat, j ≤ P.length ∧ jj = .int .i64 j ∧ Hid (∀ q (h : q < P.length), q < j → F P[q] = true) ∧ RowAt Value.string wr pa P ∧ Below w.heap.size w wr) (fun jj _ => P.length - (intOf jj).toNat)
            case atStart => exact ⟨0, by omega, rfl, fun q h hq => absurd hq (by omega), hrp, hb13⟩
            case round =>
              clear hrp hb13
              obtain ⟨j, hj, rfl, HG, hrp, bel⟩ := hrel
              by_cases hjl : j < P.length
              · obtain ⟨pb, po, epa, hpb, hcp⟩ := hrp j hjl
                subst epa
                have hC := HIH.out _ (List.getElem_mem hjl) wr bel
                have HG2 : Hid (F P[j] = true → ∀ q (h : q < P.length), q < j + 1 → F P[q] = true) := by
                  intro hh q h hq2
                  by_cases e : q = j
                  · subst e; exact hh
                  · exact HG.out q h (by omega)
                have HG3 : Hid (F P[j] = false → P.all F = false) := by
                  intro hh
                  rw [Bool.eq_false_iff]
                  intro c
                  rw [List.all_eq_true] at c
                  rw [c _ (List.getElem_mem hjl)] at hh
                  cases hh
                generalize P[j] = p at hcp hC HG2 HG3
                cases hFp : F p with
                | true =>
                  rw [hFp] at hC
                  have HG4 := HG2.out hFp
                  have HG5 : Hid (∀ q (h : q < P.length), q < j + 1 → F P[q] = true) := HG4
                  clear HG4 HG2 HG3 hFp
                  go_wp2_with fail
                  refine hC.mono ?_
                  rintro e w5 ⟨rfl, hb5⟩
                  have hrp' := hrp.later hb5
                  have bel' := bel.trans (hb5.mono bel.size)
                  go_wp2
                  go_roundw
                  case rel => exact ⟨j + 1, by omega, by go_num, HG5, hrp', bel'⟩
                  case measure => simp [intOf]; omega
                | false =>
                  rw [hFp] at hC
                  have hall := HG3.out hFp
                  clear HG2 HG3 hFp
                  go_wp2_with fail
                  refine hC.mono ?_
                  rintro e w5 ⟨rfl, hb5⟩
                  go_wp2
                  go_ret
                  exact ⟨by rw [hall]; rfl, bel.trans (hb5.mono bel.size)⟩
              · have hall : P.all F = true := by
                  rw [List.all_eq_true]
                  intro p hp
                  obtain ⟨q, hq2, rfl⟩ := List.getElem_of_mem hp
                  exact HG.out q hq2 (by omega)
                go_wp2
                go_ret
                exact ⟨by rw [hall]; rfl, bel⟩
          · rw [if_neg h108] at hB hb
            have h115 : at_ t 0 = 115 := by
              unfold cut at hc
              split at hc
              · rename_i c
                have := c.2.2
                unfold hdOk at this
                rw [if_neg h97, if_neg h108] at this
                split at this
                · rename_i d; rcases d with d | d
                  · exact absurd d h107
                  · exact d
                · cases this
              · simp at hc
            rw [if_pos h115] at hb
            have hpe : partsR t = ([], false) := by unfold partsR; rw [rk_no (fun c => h108 c.2)]
            rw [hpe] at hPT
            obtain ⟨hn, hrr, hKz⟩ := cut_eq hc
            have hrs := (cut_size hc).1
            obtain ⟨K0, hKe⟩ : ∃ K0, rvK (suf t 1) = K0 := ⟨_, rfl⟩
            rw [hKe] at hrr hKz
            have hRV := fun w' => spec_rvf (suf t 1) w' (by rw [suf_size]; omega) n K0 hn hKe
            have hH := fun w' (h : Below w.heap.size w w') => l3HasW b kb K n w' (hq.later h) hKl
            have hC := fun w' (h : Below w.heap.size w w') => ih (by omega) r r0 w' (hr.later h) (hq.later h) (by omega) hb hr0
            have hn0 : n ≤ 1000000 := (cut_size hc).2.1
            subst hrr
            clear hin hb hke hpe hn hKe hc ih
            cases hHn : hasB K n with
            | false =>
              simp only [hHn] at hH
              have hB2 : bld S K (f + 1) t = false := by rw [hB, hHn]; rfl
              rw [hB2]
              clear hB hB2 hC hHn
              go_enter Tryz.func40, Tryz.ntmps40
              go_wp2_with fail
              refine hI.mono ?_
              rintro e w1 ⟨rfl, rfl⟩
              go_wp2_with fail
              refine (hRK _).mono ?_
              rintro e w2 ⟨rfl, hb1⟩
              go_wp2_with fail
              refine (hPT _).mono ?_
              rintro e w3 ⟨vp, rfl, hop, hb3⟩
              have hb13 := hb1.trans (hb3.mono hb1.size)
              clear hop
              go_wp2_with fail
              refine (hRV _).mono ?_
              rintro e w4 ⟨rfl, hb4⟩
              have hb14 := hb13.trans (hb4.mono hb13.size)
              go_wp2_with fail
              refine (hH _ hb14).mono ?_
              rintro e w5 ⟨rfl, rfl⟩
              go_wp2
              go_ret
              exact ⟨rfl, hb14⟩
            | true =>
              simp only [hHn] at hH
              have hB2 : bld S K (f + 1) t = bld S K f (suf t (1 + K0)) := by rw [hB, hHn]; rfl
              rw [hB2]
              generalize bld S K f (suf t (1 + K0)) = bb at *
              clear hB hB2 hHn
              go_enter Tryz.func40, Tryz.ntmps40
              go_wp2_with fail
              refine hI.mono ?_
              rintro e w1 ⟨rfl, rfl⟩
              go_wp2_with fail
              refine (hRK _).mono ?_
              rintro e w2 ⟨rfl, hb1⟩
              go_wp2_with fail
              refine (hPT _).mono ?_
              rintro e w3 ⟨vp, rfl, hop, hb3⟩
              have hb13 := hb1.trans (hb3.mono hb1.size)
              clear hop
              go_wp2_with fail
              refine (hRV _).mono ?_
              rintro e w4 ⟨rfl, hb4⟩
              have hb14 := hb13.trans (hb4.mono hb13.size)
              go_wp2_with fail
              refine (hH _ hb14).mono ?_
              rintro e w5 ⟨rfl, rfl⟩
              go_wp2_with fail
              refine (hC _ hb14).mono ?_
              rintro e w6 ⟨rfl, hb6⟩
              go_wp2
              go_ret
              exact ⟨rfl, hb14.trans (hb6.mono hb14.size)⟩

set_option maxRecDepth 100000 in
set_option maxHeartbeats 1600000 in
/-- Can t be put together? -/
theorem spec_build (g1 o1 g2 o2 ca cb : Nat) (xs : List ByteArray) (ks : List Int) (t : ByteArray) (w : World) (hr : RowAt Value.string w (some ⟨g1, o1, none⟩) xs) (hq : RowAt (Value.int .i64) w (some ⟨g2, o2, none⟩) ks) (hl : xs.length ≤ 1048576) (hl2 : ks.length ≤ 1048576) (hcap : xs.length ≤ ca) (hs : ∀ x ∈ xs, x.size ≤ 1048576) (ht : t.size ≤ 1048576) :
    Calls Tryz.prog 11 #[.agg #[.slice (some ⟨g1, o1, none⟩) xs.length ca, .slice (some ⟨g2, o2, none⟩) ks.length cb], .string t] w fun e w' => ∃ b, e = .returned (.bool b) ∧ Hid (b = true ↔ kOk xs ks = true ∧ isT t = true ∧ ∃ (S : List ByteArray) (K : List Int), (∀ u, u ∈ S ↔ SeenT xs ks u) ∧ (∀ k, k ∈ K ↔ ReachT xs ks k) ∧ bld S K 8 t = true) ∧ Below w.heap.size w w' := by
  obtain ⟨W1, hW1⟩ : ∃ W1, w.alloc (.cells #[.slice (some ⟨g1, o1, none⟩) xs.length ca, .slice (some ⟨g2, o2, none⟩) ks.length cb] 27) = W1 := ⟨_, rfl⟩
  have hb0 : Below w.heap.size w W1 := by rw [← hW1]; exact (Below.refl _ _).alloc (Nat.le_refl _) _
  have A1 : Bx W1 w.heap.size (.slice (some ⟨g1, o1, none⟩) xs.length ca) (.slice (some ⟨g2, o2, none⟩) ks.length cb) := by rw [← hW1]; exact Bx.new _ _ _ _
  have hO := spec_knownOk (some ⟨g1, o1, none⟩) (some ⟨g2, o2, none⟩) ca cb xs ks W1 (hr.later hb0) (hq.later hb0) hl hl2 hcap hs
  have hT := fun w' => spec_ok t w' ht
  obtain ⟨e9, e0, e1⟩ := A1
  cases hK : kOk xs ks with
  | false =>
    rw [hK] at hO
    go_enter Tryz.func11, Tryz.ntmps11
    go_wp2_with fail
    try rw [hW1]
    refine hO.mono ?_
    clear hW1 hO
    rintro e w1 ⟨rfl, hb1⟩
    go_wp2
    go_ret
    exact ⟨false, rfl, by simp [Hid], hb0.trans (hb1.mono hb0.size)⟩
  | true =>
    rw [hK] at hO
    cases hTt : isT t with
    | false =>
      simp only [hTt] at hT
      go_enter Tryz.func11, Tryz.ntmps11
      go_wp2_with fail
      try rw [hW1]
      refine hO.mono ?_
      clear hW1 hO
      rintro e w1 ⟨rfl, hb1⟩
      go_wp2_with fail
      refine (hT _).mono ?_
      rintro e w2 ⟨rfl, hb2⟩
      have hb01 := hb0.trans (hb1.mono hb0.size)
      go_wp2
      go_ret
      exact ⟨false, rfl, by simp [Hid], hb01.trans (hb2.mono hb01.size)⟩
    | true =>
      simp only [hTt] at hT
      obtain ⟨hz9, rr, hbh, hrr⟩ := (isT_iff t).1 hTt
      go_enter Tryz.func11, Tryz.ntmps11
      go_wp2_with fail
      try rw [hW1]
      refine hO.mono ?_
      clear hW1 hO
      rintro e w1 ⟨rfl, hb1⟩
      go_wp2_with fail
      refine (hT _).mono ?_
      rintro e w2 ⟨rfl, hb2⟩
      have hb12 := hb1.trans (hb2.mono hb1.size)
      obtain ⟨f9, f0, f1⟩ := Bx.later ⟨e9, e0, e1⟩ hb12
      have hb02 := hb0.trans (hb12.mono hb0.size)
      have hC := l3Close_is g1 o1 g2 o2 ca cb xs ks w2 (hr.later hb02) (hq.later hb02) hK
      go_wp2_with fail
      refine hC.mono ?_
      clear hC
      rintro e w3 ⟨a, b, ka, kb, S, K, rfl, ho, hp, HF, hb3⟩
      have hb03 := hb02.trans (hb3.mono hb02.size)
      have hBd := l3Build_is a b ka kb S K HF.out.2.2.2.1 (by have := HF.out.2.2.2.2; omega) 8 (Nat.le_refl _) t rr w3 (row_own9 ho) (row_own3 hp) hz9 hbh hrr
      have HX : Hid (bld S K 8 t = true ↔ true = true ∧ true = true ∧ ∃ (S : List ByteArray) (K : List Int), (∀ u, u ∈ S ↔ SeenT xs ks u) ∧ (∀ k, k ∈ K ↔ ReachT xs ks k) ∧ bld S K 8 t = true) := by
        refine ⟨fun h => ⟨rfl, rfl, S, K, HF.out.1, HF.out.2.1, h⟩, ?_⟩
        rintro ⟨_, _, S', K', h1, h2, h3⟩
        rw [bld_same (S := S) (S' := S') (K := K) (K' := K') (fun u => (HF.out.1 u).trans (h1 u).symm) (fun k => (HF.out.2.1 k).trans (h2 k).symm) 8 t]
        exact h3
      generalize bld S K 8 t = bb at *
      go_wp2_with fail
      refine hBd.mono ?_
      rintro e w4 ⟨rfl, hb4⟩
      go_wp2
      go_ret
      exact ⟨bb, rfl, HX, hb03.trans (hb4.mono hb03.size)⟩
end Go.Proofs.YtkekfogepdhjhaaGreat
