/- Vars read by the model. -/
import Derived.Test.YtkfjpgkpmdbnoaaTx0
import Derived.Test.YtkfjpgkpmdbnoaaReadVarMath
import Derived.Test.YtkfjpgkpmdbnoaaAppRow
set_option linter.unusedVariables false
set_option maxRecDepth 100000
namespace Go.Proofs.Ytkfjpgkpmdbnoaa
open Go Go.RowKit Go.Joins Own Draw Go.Proofs.Ytkfjpgkpmdbnoaa Go.Proofs.Ytkfjpgkpmdbnoaa.Var

theorem news_one (w : World) (v : Value) (t : TypeId) : ∀ j u, [v][j]? = some u → (w.alloc (.cells #[v] t)).cell? ((⟨w.heap.size, 0, none⟩ : Addr).add j) = some u := by
  intro j u e
  have := (Blk.new w #[v] t).at j e
  rw [Addr.add_lit, Nat.zero_add]
  exact this
theorem itV_none {s : ByteArray} {a : Nat} : ∀ {i n : Nat}, i ≤ n → itV s a i = none → itV s a n = none
  | i, 0, h, e => by obtain rfl : i = 0 := by omega
                     exact e
  | i, n + 1, h, e => by
    by_cases hin : i = n + 1
    · subst hin; exact e
    · have := itV_none (i := i) (n := n) (by omega) e
      unfold itV
      rw [this]
/-- Numbers in memory of the call's own, and where they end. -/
def VsP (f : Option (List Int × Nat)) (B : Nat) (e : Ending) (w : World) : Prop := ∃ (a : Option Addr) (c : Nat) (l : List Int) (pe : Int), e = .returned (.tuple #[.slice a l.length c, .int .i64 pe]) ∧ w.ownsRow B 3 1 (.slice a l.length c) l.length (l.map (Value.int .i64)) ∧ (∀ l' p, f = some (l', p) → l = l' ∧ pe = (p : Int)) ∧ (f = none → pe = -1)
set_option maxHeartbeats 6400000 in
theorem vars_is (s : ByteArray) (a n : Nat) (w : World) (hs : s.size ≤ 1048576) (ha : a ≤ s.size) (hn : n ≤ 31) :
    Calls Try.prog 51 #[.string s, .int .i64 (a : Int), .int .i64 (n : Int)] w fun e w' => VsP (itV s a n) w.heap.size e w' ∧ Below w.heap.size w w' := by
  obtain ⟨i0, hi0, hz0, hz1, hz2⟩ := info_parts infoInt
  obtain ⟨fin, hfin⟩ : ∃ f, itV s a n = f := ⟨_, rfl⟩
  have HF : Hid (itV s a n = fin) := hfin
  rw [hfin]
  clear hfin
  obtain ⟨V0, hV0⟩ : ∃ V, w.alloc (.cells #[] 3) = V := ⟨_, rfl⟩
  have BC : Below w.heap.size w V0 := by rw [← hV0]; exact (Below.refl _ _).alloc (Nat.le_refl _) _
  have ro : V0.ownsRow w.heap.size 3 1 (.slice (some ⟨w.heap.size, 0, none⟩) 0 0) 0 [] := by rw [← hV0]; exact World.ownsRow_lit _ _ _ (Nat.le_refl _) (by unfold maxLen; omega) rfl
  have hbz : ∀ (W : World), (Instr.buildSlice 54 0 #[]).run Try.prog W = .ok (.slice (some ⟨W.heap.size, 0, none⟩) 0 0) (W.alloc (.cells #[] 3)) := fun W => by
    simp [Instr.buildSlice, run_underlying Try.underlying54, sizeOf, typeInfo, hi0, newRow, Instr.fill]
    exact congrArg (fun x => W.alloc (.cells x 3)) (Array.eq_empty_of_size_eq_zero (by simp))
  go_enter Try.func51, Try.ntmps51
  go_wp2
  try rw [hV0]
  go_loopw [1, 8, 9] (fun av lv iv wr => ∃ (i p : Nat) (l : List Int) (va : Option Addr) (vc : Nat), i ≤ n ∧ iv = .int .i64 (i : Int) ∧ av = .int .i64 (p : Int) ∧ lv = .slice va l.length vc ∧ Hid (itV s a i = some (l, p)) ∧ wr.ownsRow w.heap.size 3 1 (.slice va l.length vc) l.length (l.map (Value.int .i64)) ∧ Below w.heap.size w wr) (fun _ _ iv _ => n - (intOf iv).toNat)
  case atStart => exact ⟨0, a, [], _, _, Nat.zero_le _, rfl, rfl, rfl, rfl, ro, BC⟩
  case round =>
    clear ro BC hV0
    obtain ⟨i, p, l, va, vc, hi, rfl, rfl, rfl, HI, ro, BC⟩ := hrel
    by_cases hlt : i < n
    · have hlt2 : (i : Int) < (n : Int) := by omega
      have hle := itV_le ha HI.out
      have hp1 : ¬ ((p : Int) < 0) := by omega
      have hp2 : ¬ ((p : Int) > (s.size : Int)) := by omega
      have hp3 : (p : Int) ≤ (s.size : Int) := by omega
      have hp4 : (0 : Int) ≤ (p : Int) := by omega
      have hl31 : l.length ≤ 31 := by rw [hle.2.1]; omega
      have HS : Hid (itV s a (i + 1) = if rvK (suf s p) = 0 then none else some (l ++ [(rvN (suf s p) : Int)], p + rvK (suf s p))) := by
        show _ = _
        show (match itV s a i with | none => none | some (l, p) => if rvK (suf s p) = 0 then none else some (l ++ [(rvN (suf s p) : Int)], p + rvK (suf s p))) = _
        rw [HI.out]
      have K := spec_rv (suf s p) wr (by rw [suf_size]; omega)
      have hkl := rvK_le (suf s p)
      have hnl := rvN_le (suf s p)
      have hsz := suf_size s p
      have hps := hle.1
      clear hle HI
      go_wp2_with fail
      refine K.mono ?_
      clear K
      rintro en W1 ⟨x, k, rfl, hA, hb⟩
      obtain ⟨rfl, rfl⟩ := rv_one hA
      clear hA
      replace ro := own_later ro hb
      replace BC := BC.trans (hb.mono BC.size)
      clear hb
      by_cases hk : rvK (suf s p) = 0
      · have e0 : (((rvK (suf s p) : Nat) : Int) == 0) = true := by rw [hk]; rfl
        have HN : Hid (fin = none) := by show _ = _; rw [← HF.out]; exact itV_none (i := i + 1) (by omega) (by rw [HS.out, if_pos hk])
        clear HS hk
        go_wp2
        refine bodyPost_ret (results_tmp2 rfl _ _ _) rfl ?_
        exact ⟨⟨va, vc, l, -1, rfl, ro, (fun l' p' h => by rw [HN.out] at h; cases h), fun _ => rfl⟩, BC⟩
      · have e0 : (((rvK (suf s p) : Nat) : Int) == 0) = false := beq_eq_false_iff_ne.2 (by omega)
        have HN : Hid (itV s a (i + 1) = some (l ++ [(rvN (suf s p) : Int)], p + rvK (suf s p))) := by show _ = _; rw [HS.out, if_neg hk]
        clear HS hk
        generalize rvN (suf s p) = x at HN hnl
        generalize rvK (suf s p) = k at HN hkl e0
        obtain ⟨U, hU⟩ : ∃ Z, W1.alloc (.cells #[.int .i64 (x : Int)] 3) = Z := ⟨_, rfl⟩
        have XA : Below W1.heap.size W1 U := by rw [← hU]; exact (Below.refl _ _).alloc (Nat.le_refl _) _
        have nw : ∀ j u, [Value.int .i64 (x : Int)][j]? = some u → U.cell? ((⟨W1.heap.size, 0, none⟩ : Addr).add j) = some u := by rw [← hU]; exact news_one _ _ _
        replace ro := own_later ro XA
        replace BC := BC.trans (XA.mono BC.size)
        have hBU := BC.size
        clear XA
        go_wp2_with (first | (at_builtin; first | refine wpList_append_row _ rfl _ _ 54 rfl w.heap.size 3 i0 (.int .i64 0) 1 8 Try.underlying54 hi0 hz0 hz1 hz2 rfl (by decide) _ _ _ rfl ro (some ⟨W1.heap.size, 0, none⟩) 1 1 [.int .i64 (x : Int)] rfl rfl (fun ad e => by injection e with e; subst e; exact nw) (fun u hu => by simp at hu; subst hu; rfl) (by unfold maxLen; omega) (by omega) hBU (fun c => by cases c) ?_ | (rw [hU]; refine wpList_append_row _ rfl _ _ 54 rfl w.heap.size 3 i0 (.int .i64 0) 1 8 Try.underlying54 hi0 hz0 hz1 hz2 rfl (by decide) _ _ _ rfl ro (some ⟨W1.heap.size, 0, none⟩) 1 1 [.int .i64 (x : Int)] rfl rfl (fun ad e => by injection e with e; subst e; exact nw) (fun u hu => by simp at hu; subst hu; rfl) (by unfold maxLen; omega) (by omega) hBU (fun c => by cases c) ?_)) | fail)
        intro v3 w3 ho3 hg3
        obtain ⟨na, nc, rfl, _⟩ := own_shape ho3
        have hB3 : Below w.heap.size w w3 := BC.grown hg3 hBU (fun k e => (World.ownsRow.lt ro k e).1)
        have hle2 : (l ++ [(x : Int)]).length = l.length + 1 := by simp
        have HR : ∃ (i' p' : Nat) (l' : List Int) (va' : Option Addr) (vc' : Nat), i' ≤ n ∧ Value.int .i64 ((i : Int) + 1) = .int .i64 (i' : Int) ∧ Value.int .i64 ((p : Int) + (k : Int)) = .int .i64 (p' : Int) ∧ Value.slice na (l.length + 1) nc = .slice va' l'.length vc' ∧ Hid (itV s a i' = some (l', p')) ∧ w3.ownsRow w.heap.size 3 1 (.slice va' l'.length vc') l'.length (l'.map (Value.int .i64)) ∧ Below w.heap.size w w3 :=
          ⟨i + 1, p + k, l ++ [(x : Int)], na, nc, by omega, by go_num, by rw [Int.natCast_add], by rw [hle2], HN, by rw [hle2, List.map_append]; exact ho3, hB3⟩
        clear HN ro ho3 hg3 hB3 BC nw hle2 hU
        go_wp2
        go_roundw
        case rel => exact HR
        case measure => simp [intOf]; omega
    · obtain rfl : i = n := by omega
      have hlt2 : ¬ ((i : Int) < (i : Int)) := by omega
      have HN : Hid (fin = some (l, p)) := by show _ = _; rw [← HF.out]; exact HI.out
      clear HI HF
      go_wp2
      refine bodyPost_ret (results_tmp2 rfl _ _ _) rfl ?_
      exact ⟨⟨va, vc, l, (p : Int), rfl, ro, fun l' p' h => by rw [HN.out] at h; injection h with h; injection h with h1 h2; exact ⟨h1, by rw [h2]⟩, fun h => by rw [HN.out] at h; cases h⟩, BC⟩
end Go.Proofs.Ytkfjpgkpmdbnoaa
