/- A table read from a text: the program as plain data. -/
import Derived.Test.YtkfjpgkpmdbnoaaTr2
import Derived.Test.YtkfjpgkpmdbnoaaReadVarMath
import Derived.Test.YtkfjpgkpmdbnoaaBig
import Derived.Test.YtkfjpgkpmdbnoaaRg1
import Derived.Test.YtkfjpgkpmdbnoaaRf0
import Derived.Test.YtkfjpgkpmdbnoaaSe1
import Derived.Test.YtkfjpgkpmdbnoaaOk0
import Derived.Test.YtkfjpgkpmdbnoaaTr1
import Derived.Test.YtkfjpgkpmdbnoaaAppRow
set_option linter.unusedVariables false
set_option maxRecDepth 100000
namespace Go.Proofs.Ytkfjpgkpmdbnoaa
open Go Go.RowKit Go.Joins Own Draw Go.Proofs.Ytkfjpgkpmdbnoaa.Var

/-- The next number, at most g; of a text that broke there is none. -/
def upF (g : Int) : Option ByteArray → Int × Option ByteArray
  | none => (0, none)
  | some t => if rvK t = 0 ∨ g < (rvN t : Int) then (0, none) else ((rvN t : Int), some (suf t (rvK t)))
theorem upF_eq (g : Int) (t : ByteArray) : upF g (some t) = if rvK t = 0 ∨ g < (rvN t : Int) then (0, none) else ((rvN t : Int), some (suf t (rvK t))) := rfl
def rdS (st : Option ByteArray) : TS × Option ByteArray :=
  (((upF 99 st).1, (upF 1000 (upF 99 st).2).1, (upF 1000000 (upF 1000 (upF 99 st).2).2).1), (upF 1000000 (upF 1000 (upF 99 st).2).2).2)
def itJ : Nat → Option ByteArray → List TS × Option ByteArray
  | 0, st => ([], st)
  | i + 1, st => ((itJ i st).1 ++ [(rdS (itJ i st).2).1], (rdS (itJ i st).2).2)
def endJ (x : List TS × Option ByteArray) : List TS × Bool := if x.2 = some ⟨#[]⟩ ∧ tabB x.1 = true then (x.1, true) else ([], false)
def rdJ (s : ByteArray) : List TS × Bool := endJ (itJ (upF 20 (some s)).1.toNat (upF 20 (some s)).2)
theorem upF_bound (g : Int) (hg : 0 ≤ g) (st : Option ByteArray) : 0 ≤ (upF g st).1 ∧ (upF g st).1 ≤ g := by
  cases st with
  | none => exact ⟨Int.le_refl _, hg⟩
  | some t =>
    rw [upF_eq]
    split
    · exact ⟨Int.le_refl _, hg⟩
    · rename_i h
      have := not_or.1 h
      exact ⟨by show 0 ≤ (rvN t : Int); omega, by show (rvN t : Int) ≤ g; omega⟩
theorem upF_some {g : Int} {st : Option ByteArray} {t' : ByteArray} (h : (upF g st).2 = some t') : ∃ t, st = some t ∧ t = varOf (upF g st).1 ++ t' := by
  cases st with
  | none => cases h
  | some t =>
    refine ⟨t, rfl, ?_⟩
    rw [upF_eq] at h ⊢
    by_cases c : rvK t = 0 ∨ g < (rvN t : Int)
    · rw [if_pos c] at h; cases h
    · rw [if_neg c] at h ⊢
      have h2 : suf t (rvK t) = t' := by injection h
      rw [← h2]
      exact rv_taken (fun e => c (Or.inl e))
theorem rdS_some {st : Option ByteArray} {t' : ByteArray} (h : (rdS st).2 = some t') : ∃ t, st = some t ∧ t = shH (rdS st).1 ++ t' := by
  obtain ⟨t2, h2, e2⟩ := upF_some (show (upF 1000000 (upF 1000 (upF 99 st).2).2).2 = some t' from h)
  obtain ⟨t1, h1, e1⟩ := upF_some h2
  obtain ⟨t0, h0, e0⟩ := upF_some h1
  refine ⟨t0, h0, ?_⟩
  rw [e0, e1, e2]
  show _ = varOf (upF 99 st).1 ++ varOf (upF 1000 (upF 99 st).2).1 ++ varOf (upF 1000000 (upF 1000 (upF 99 st).2).2).1 ++ t'
  simp only [app_assoc]
theorem itJ_len (st : Option ByteArray) : ∀ i, (itJ i st).1.length = i
  | 0 => rfl
  | i + 1 => by show ((itJ i st).1 ++ [_]).length = _; rw [List.length_append, itJ_len st i]; rfl
theorem itJ_some {st : Option ByteArray} : ∀ {i : Nat} {t' : ByteArray}, (itJ i st).2 = some t' → ∃ t, st = some t ∧ t = shS ⟨#[]⟩ (itJ i st).1 ++ t'
  | 0, t', h => ⟨t', h, (nil_app t').symm⟩
  | i + 1, t', h => by
    obtain ⟨t1, h1, h2⟩ := rdS_some (show (rdS (itJ i st).2).2 = some t' from h)
    obtain ⟨t, h3, h4⟩ := itJ_some h1
    refine ⟨t, h3, ?_⟩
    show t = shS ⟨#[]⟩ ((itJ i st).1 ++ [(rdS (itJ i st).2).1]) ++ t'
    rw [shS_snoc, h4, h2, app_assoc]
/-- What the program takes is shown as the text again. -/
theorem rdJ_sound {s : ByteArray} (h : (rdJ s).2 = true) : tabB (rdJ s).1 = true ∧ shT (rdJ s).1 = s := by
  unfold rdJ endJ at h ⊢
  by_cases c : (itJ (upF 20 (some s)).1.toNat (upF 20 (some s)).2).2 = some ⟨#[]⟩ ∧ tabB (itJ (upF 20 (some s)).1.toNat (upF 20 (some s)).2).1 = true
  · rw [if_pos c]
    refine ⟨c.2, ?_⟩
    obtain ⟨t1, h1, e1⟩ := itJ_some c.1
    obtain ⟨t0, h0, e0⟩ := upF_some h1
    injection h0 with h0
    have hb := (upF_bound 20 (by omega) (some s)).1
    unfold shT
    rw [if_pos c.2, itJ_len, shS_cut]
    rw [app_nil] at e1
    rw [e1] at e0
    refine Eq.trans ?_ (h0.trans e0).symm
    congr 2
    omega
  · rw [if_neg c] at h; cases h
theorem rdJ_no {s : ByteArray} (h : (rdJ s).2 = false) : rdJ s = ([], false) := by
  unfold rdJ endJ at h ⊢
  by_cases c : (itJ (upF 20 (some s)).1.toNat (upF 20 (some s)).2).2 = some ⟨#[]⟩ ∧ tabB (itJ (upF 20 (some s)).1.toNat (upF 20 (some s)).2).1 = true
  · rw [if_pos c] at h; cases h
  · rw [if_neg c]
theorem upF_made {g n : Int} (h0 : 0 ≤ n) (h1 : n ≤ g) (h2 : g ≤ 562949953421311) (t : ByteArray) : upF g (some (varOf n ++ t)) = (n, some t) := by
  obtain ⟨m, rfl⟩ := Int.eq_ofNat_of_zero_le h0
  obtain ⟨e1, e2, e3⟩ := rv_made m (by omega) t
  rw [upF_eq, if_neg (by rw [e1]; omega), e1, e2, suf_app]
theorem rdS_made {p : TS} (h : slA p = true) (t : ByteArray) : rdS (some (shH p ++ t)) = (p, some t) := by
  obtain ⟨h1, h2, h3⟩ := slot_bounds h
  have e : shH p ++ t = varOf p.1 ++ (varOf p.2.1 ++ (varOf p.2.2 ++ t)) := by unfold shH; simp only [app_assoc]
  rw [e]
  unfold rdS
  rw [upF_made h1.1 h1.2 (by omega), upF_made (by omega) h2.2 (by omega), upF_made (by omega) h3.2 (by omega)]
theorem itJ_made : ∀ (i : Nat) (l : List TS), l.length = i → (∀ p ∈ l, slA p = true) → ∀ t, itJ i (some (shS ⟨#[]⟩ l ++ t)) = (l, some t)
  | 0, l, hl, _, t => by
    rw [List.eq_nil_of_length_eq_zero hl]
    show ([], some (⟨#[]⟩ ++ t)) = _
    rw [nil_app]
  | i + 1, l, hl, h, t => by
    obtain ⟨ys, x, rfl⟩ : ∃ ys x, l = ys ++ [x] := ⟨l.dropLast, l.getLast (by intro e; rw [e] at hl; cases hl), (List.dropLast_concat_getLast _).symm⟩
    have hx := h x (by simp)
    have ih := itJ_made i ys (by simpa using hl) (fun y hy => h y (by simp [hy])) (shH x ++ t)
    rw [shS_snoc, app_assoc]
    unfold itJ
    rw [ih, rdS_made hx]
/-- What is shown of a right table the program takes, as it was. -/
theorem rdJ_made {l : List TS} (h : tabB l = true) : rdJ (shT l) = (l, true) := by
  have h20 := tab_len h
  unfold rdJ shT
  rw [if_pos h, shS_cut, upF_made (by omega) (by omega) (by omega)]
  show endJ (itJ (l.length : Int).toNat (some (shS ⟨#[]⟩ l))) = _
  have e := itJ_made l.length l rfl (fun x hx => by obtain ⟨k, hk, rfl⟩ := List.mem_iff_getElem.1 hx; exact tab_slot h k hk) ⟨#[]⟩
  rw [app_nil] at e
  rw [Int.toNat_natCast, e]
  unfold endJ
  rw [if_pos ⟨rfl, h⟩]
/-- Both read the same. -/
theorem rd_same (s : ByteArray) : rdJ s = rdT s := by
  cases e : (rdJ s).2 with
  | true =>
    obtain ⟨h1, h2⟩ := rdJ_sound e
    have h3 := read_shown h1
    rw [h2] at h3
    rw [h3, ← e]
  | false =>
    rw [rdJ_no e]
    refine (read_none fun l hl c => ?_).symm
    have := rdJ_made hl
    rw [c] at this
    rw [this] at e
    cases e
end Go.Proofs.Ytkfjpgkpmdbnoaa

set_option linter.unusedVariables false
set_option maxRecDepth 100000
namespace Go.Proofs.Ytkfjpgkpmdbnoaa
open Go Go.RowKit Go.Joins Own Draw Go.Proofs.Ytkfjpgkpmdbnoaa.Var

theorem gr_trans {w w1 w2 : World} {r r1 : Option Nat} (h : w.grownBy w1 r) (k : w1.grownBy w2 r1) (hr : r1 = r ∨ ∀ j, r1 = some j → w.heap.size ≤ j) : w.grownBy w2 r :=
  ⟨k.os.trans h.os, k.tape.trans h.tape, k.output.trans h.output, Nat.le_trans h.size k.size, fun j hj hne => (k.block j (Nat.lt_of_lt_of_le hj h.size) (by
    rcases hr with rfl | hr
    · exact hne
    · intro e; have := hr j e.symm; omega)).trans (h.block j hj hne)⟩
theorem blk_kept {g : Nat} {vs : List Value} {w w' : World} {r : Option Nat} (h : Blk g vs w) (hg : w.grownBy w' r) (hn : some g ≠ r) (hl : g < w.heap.size) : Blk g vs w' :=
  ⟨fun i v e => ⟨(World.cell?_of_block (a := ⟨g, i, none⟩) (hg.block g hl hn)).trans (h.out i v e).1, (World.frozen?_of_block (a := ⟨g, i, none⟩) (hg.block g hl hn)).trans (h.out i v e).2⟩⟩
/-- What the reader has left, in block vb. -/
def StV (vb : Nat) (st : Option ByteArray) (W : World) : Prop := match st with
  | some t => t.size ≤ 1048576 ∧ Blk vb [.string t, .bool false] W
  | none => Blk vb [.string ⟨#[]⟩, .bool true] W
/-- Only block vb changed, nothing was made. -/
structure OnlyV (vb : Nat) (w w' : World) : Prop where
  gr : w.grownBy w' (some vb)
  sz : w'.heap.size = w.heap.size
theorem OnlyV.trans {vb : Nat} {a b c : World} (h : OnlyV vb a b) (k : OnlyV vb b c) : OnlyV vb a c := ⟨gr_trans h.gr k.gr (Or.inl rfl), k.sz.trans h.sz⟩
theorem OnlyV.set (vb i : Nat) (v : Value) (w : World) : OnlyV vb w (w.setCell ⟨vb, i, none⟩ v) := ⟨set_grown w vb i v, by simp⟩
theorem rv_nil : rvK (⟨#[]⟩ : ByteArray) = 0 := by
  have := (rvK_le (⟨#[]⟩ : ByteArray)).2
  have h2 : (⟨#[]⟩ : ByteArray).size = 0 := rfl
  omega
set_option maxHeartbeats 3200000 in
theorem upTo_is (vb : Nat) (st : Option ByteArray) (g : Int) (w : World) (h : StV vb st w) :
    Calls Try.prog 46 #[.pointer (some ⟨vb, 0, none⟩), .int .i64 g] w fun e w' => e = .returned (.int .i64 (upF g st).1) ∧ StV vb (upF g st).2 w' ∧ OnlyV vb w w' := by
  obtain ⟨t, bb, hts, hT, hF⟩ : ∃ (t : ByteArray) (bb : Bool), t.size ≤ 1048576 ∧ Blk vb [.string t, .bool bb] w ∧ (if rvK t = 0 ∨ g < (rvN t : Int) then upF g st = (0, none) else bb = false ∧ upF g st = ((rvN t : Int), some (suf t (rvK t)))) := by
    cases st with
    | none => exact ⟨⟨#[]⟩, true, (by show 0 ≤ 1048576; omega), h, by rw [if_pos (Or.inl rv_nil)]; rfl⟩
    | some t =>
      refine ⟨t, false, h.1, h.2, ?_⟩
      by_cases c : rvK t = 0 ∨ g < (rvN t : Int)
      · rw [if_pos c, upF_eq, if_pos c]
      · rw [if_neg c, upF_eq, if_neg c]; exact ⟨rfl, rfl⟩
  clear h
  generalize upF g st = ans at hF ⊢
  have K := impl_rv t w hts
  have t0 := hT.at 0 rfl
  have t1 := hT.at 1 rfl
  have f0 := hT.fz 0 rfl
  have f1 := hT.fz 1 rfl
  have hkl := rvK_le t
  go_enter Try.func46, Try.ntmps46
  go_wp2_with fail
  refine K.mono ?_
  clear K
  rintro en w1 ⟨n, k, rfl, hA, rfl⟩
  obtain ⟨rfl, rfl⟩ := rv_one hA
  clear hA
  by_cases c0 : rvK t = 0
  · rw [if_pos (Or.inl c0)] at hF
    subst hF
    have e0 : (((rvK t : Nat) : Int) == 0) = true := by rw [c0]; rfl
    clear c0
    go_wp2
    go_ret
    exact ⟨rfl, (hT.set 0 _).set 1 _, (OnlyV.set vb 0 _ _).trans (OnlyV.set vb 1 _ _)⟩
  · have e0 : (((rvK t : Nat) : Int) == 0) = false := beq_eq_false_iff_ne.2 (by omega)
    by_cases c1 : g < (rvN t : Int)
    · rw [if_pos (Or.inr c1)] at hF
      subst hF
      have e1 : ((rvN t : Nat) : Int) > g := c1
      clear c0
      go_wp2
      go_ret
      exact ⟨rfl, (hT.set 0 _).set 1 _, (OnlyV.set vb 0 _ _).trans (OnlyV.set vb 1 _ _)⟩
    · rw [if_neg (fun c => c.elim c0 c1)] at hF
      obtain ⟨rfl, rfl⟩ := hF
      have e1 : ¬ (((rvN t : Nat) : Int) > g) := c1
      have k1 : (0 : Int) ≤ ((rvK t : Nat) : Int) := by omega
      have k2 : ((rvK t : Nat) : Int) ≤ (t.size : Int) := by omega
      clear c0 c1
      go_wp2
      go_ret
      exact ⟨rfl, ⟨by rw [suf_size]; omega, hT.set 0 _⟩, OnlyV.set vb 0 _ _⟩
theorem StV.lt {vb : Nat} {st : Option ByteArray} {W : World} (h : StV vb st W) : vb < W.heap.size := by
  cases st with
  | none => exact Blk.lt h
  | some t => exact Blk.lt h.2
theorem StV.blk {vb : Nat} {st : Option ByteArray} {W : World} (h : StV vb st W) : ∃ (t : ByteArray) (bb : Bool), Blk vb [.string t, .bool bb] W := by
  cases st with
  | none => exact ⟨_, _, h⟩
  | some t => exact ⟨_, _, h.2⟩
theorem StV.kept {vb : Nat} {st : Option ByteArray} {w w' : World} {r : Option Nat} (h : StV vb st w) (hg : w.grownBy w' r) (hn : some vb ≠ r) : StV vb st w' := by
  have hl := h.lt
  cases st with
  | none => exact blk_kept h hg hn hl
  | some t => exact ⟨h.1, blk_kept h.2 hg hn hl⟩
theorem StV.later {vb : Nat} {st : Option ByteArray} {w w' : World} (h : StV vb st w) (hb : Below w.heap.size w w') : StV vb st w' := h.kept (grown_of_below hb) (by simp)
theorem StV.drew {vb : Nat} {st : Option ByteArray} {w : World} (h : StV vb st w) : StV vb st w.drew := by
  cases st with
  | none => exact Blk.drew h
  | some t => exact ⟨h.1, Blk.drew h.2⟩
theorem StV.set {vb g i : Nat} {st : Option ByteArray} {v : Value} {w : World} (h : StV vb st w) (hn : g ≠ vb) : StV vb st (w.setCell ⟨g, i, none⟩ v) := h.kept (set_grown w g i v) (fun e => hn (by injection e with e; exact e.symm))
theorem StV.sets {vb g i : Nat} {st : Option ByteArray} {vs : List Value} {w : World} (h : StV vb st w) (hn : g ≠ vb) : StV vb st (w.setCells g i vs) := h.kept (sets_grown g vs i w) (fun e => hn (by injection e with e; exact e.symm))
end Go.Proofs.Ytkfjpgkpmdbnoaa

set_option linter.unusedVariables false
set_option maxRecDepth 100000
namespace Go.Proofs.Ytkfjpgkpmdbnoaa
open Go Go.RowKit Go.Joins Own Draw Go.Proofs.Ytkfjpgkpmdbnoaa.Var

theorem gr_none {w w' : World} (h : w.grownBy w' none) (vb : Nat) : w.grownBy w' (some vb) := ⟨h.os, h.tape, h.output, h.size, fun k hk _ => h.block k hk (by simp)⟩
/-- A slot read by the reader: nothing else that was there changed. -/
def SlotP (f : TS × Option ByteArray) (vb : Nat) (w : World) (e : Ending) (w' : World) : Prop := e = .returned (vS f.1) ∧ StV vb f.2 w' ∧ w.grownBy w' (some vb)
set_option maxRecDepth 100000 in
set_option maxHeartbeats 6400000 in
theorem slot_is (vb : Nat) (st : Option ByteArray) (w : World) (h : StV vb st w) :
    Calls Try.prog 47 #[.pointer (some ⟨vb, 0, none⟩)] w fun e w' => SlotP (rdS st) vb w e w' := by
  obtain ⟨ie, hie, _, his, _⟩ := info_parts infoS
  have hvb := h.lt
  obtain ⟨V0, hV0⟩ : ∃ V, w.alloc (.cells #[.int .i64 0, .int .i64 0, .int .i64 0] 31) = V := ⟨_, rfl⟩
  have XA : Below w.heap.size w V0 := by rw [← hV0]; exact (Below.refl _ _).alloc (Nat.le_refl _) _
  have TZ : Blk w.heap.size [.int .i64 0, .int .i64 0, .int .i64 0] V0 := by rw [← hV0]; exact Blk.new _ _ _
  have SV := h.later XA
  have GR : w.grownBy V0 (some vb) := gr_none (grown_of_below XA) vb
  have hs0 : V0.heap.size = w.heap.size + 1 := by rw [← hV0]; simp
  clear XA h
  have HE : Hid (rdS st = (((upF 99 st).1, (upF 1000 (upF 99 st).2).1, (upF 1000000 (upF 1000 (upF 99 st).2).2).1), (upF 1000000 (upF 1000 (upF 99 st).2).2).2)) := (rfl : rdS st = _)
  generalize rdS st = fin at HE ⊢
  have K := upTo_is vb st 99 V0 SV
  clear SV
  generalize upF 99 st = a1 at K HE
  obtain ⟨n0, st1⟩ := a1
  dsimp only at K HE
  go_enter Try.func47, Try.ntmps47
  go_wp2_with fail
  try rw [hV0]
  refine K.mono ?_
  clear K hV0
  rintro en W1 ⟨rfl, SV, hov⟩
  have hs1 : W1.heap.size = w.heap.size + 1 := by rw [hov.sz, hs0]
  replace TZ := blk_kept TZ hov.gr (fun e => by injection e with e; omega) (by omega)
  replace GR := gr_trans GR hov.gr (Or.inl rfl)
  clear hov hs0
  obtain ⟨V1, hV1⟩ : ∃ V, W1.alloc (.cells #[.int .i64 n0, .int .i64 0, .int .i64 0] 31) = V := ⟨_, rfl⟩
  have XA : Below W1.heap.size W1 V1 := by rw [← hV1]; exact (Below.refl _ _).alloc (Nat.le_refl _) _
  have TR : Blk (w.heap.size + 1) [.int .i64 n0, .int .i64 0, .int .i64 0] V1 := by rw [← hV1, ← hs1]; exact Blk.new _ _ _
  replace TZ := TZ.later XA (by omega)
  replace SV := SV.later XA
  replace GR := gr_trans GR (grown_of_below XA) (Or.inr (fun j e => by cases e))
  have HV1 : Hid (W1.alloc (.cells #[.int .i64 n0, .int .i64 0, .int .i64 0] 31) = V1) := hV1
  have HS1 : Hid (W1.heap.size = w.heap.size + 1) := hs1
  clear XA hV1 hs1
  have K := upTo_is vb st1 1000 V1 SV
  clear SV
  generalize upF 1000 st1 = a2 at K HE
  obtain ⟨n1, st2⟩ := a2
  dsimp only at K HE
  go_wp2_with fail
  try rw [HV1.out]
  try rw [HS1.out]
  refine K.mono ?_
  clear K HV1 HS1
  rintro en W2 ⟨rfl, SV, hov⟩
  replace TZ := blk_kept TZ hov.gr (fun e => by injection e with e; omega) TZ.lt
  replace TR := blk_kept TR hov.gr (fun e => by injection e with e; omega) TR.lt
  replace GR := gr_trans GR hov.gr (Or.inl rfl)
  clear hov
  obtain ⟨V3, hV3⟩ : ∃ V, W2.setCell ⟨w.heap.size + 1, 1, none⟩ (.int .i64 n1) = V := ⟨_, rfl⟩
  have t1 := TR.at 1 rfl
  have f1 := TR.fz 1 rfl
  replace TR : Blk (w.heap.size + 1) [.int .i64 n0, .int .i64 n1, .int .i64 0] V3 := by rw [← hV3]; exact TR.set 1 _
  replace TZ : Blk w.heap.size [.int .i64 0, .int .i64 0, .int .i64 0] V3 := by rw [← hV3]; exact TZ.far (by omega) 1 _
  replace SV : StV vb st2 V3 := by rw [← hV3]; exact SV.set (by omega)
  replace GR : w.grownBy V3 (some vb) := by rw [← hV3]; exact gr_trans GR (set_grown W2 (w.heap.size + 1) 1 _) (Or.inr (fun j e => by injection e with e; omega))
  have K := upTo_is vb st2 1000000 V3 SV
  clear SV
  generalize upF 1000000 st2 = a3 at K HE
  obtain ⟨n2, st3⟩ := a3
  dsimp only at K HE
  go_wp2_with fail
  try rw [hV3]
  refine K.mono ?_
  clear K hV3 t1 f1
  rintro en W4 ⟨rfl, SV, hov⟩
  replace TZ := blk_kept TZ hov.gr (fun e => by injection e with e; omega) TZ.lt
  replace TR := blk_kept TR hov.gr (fun e => by injection e with e; omega) TR.lt
  replace GR := gr_trans GR hov.gr (Or.inl rfl)
  clear hov
  obtain ⟨V5, hV5⟩ : ∃ V, W4.setCell ⟨w.heap.size + 1, 2, none⟩ (.int .i64 n2) = V := ⟨_, rfl⟩
  have t2 := TR.at 2 rfl
  have f2 := TR.fz 2 rfl
  replace TR : Blk (w.heap.size + 1) [.int .i64 n0, .int .i64 n1, .int .i64 n2] V5 := by rw [← hV5]; exact TR.set 2 _
  replace TZ : Blk w.heap.size [.int .i64 0, .int .i64 0, .int .i64 0] V5 := by rw [← hV5]; exact TZ.far (by omega) 2 _
  replace SV : StV vb st3 V5 := by rw [← hV5]; exact SV.set (by omega)
  replace GR : w.grownBy V5 (some vb) := by rw [← hV5]; exact gr_trans GR (set_grown W4 (w.heap.size + 1) 2 _) (Or.inr (fun j e => by injection e with e; omega))
  obtain ⟨V9, hV9⟩ : ∃ Z, World.setCells V5 w.heap.size 0 [.int .i64 n0, .int .i64 n1, .int .i64 n2] = Z := ⟨_, rfl⟩
  have TF : Blk w.heap.size [.int .i64 n0, .int .i64 n1, .int .i64 n2] V9 := by rw [← hV9]; exact TZ.sets [.int .i64 n0, .int .i64 n1, .int .i64 n2] rfl
  have SF : StV vb st3 V9 := by rw [← hV9]; exact SV.sets (by omega)
  have GF : w.grownBy V9 (some vb) := by rw [← hV9]; exact gr_trans GR (sets_grown w.heap.size _ 0 V5) (Or.inr (fun j e => by injection e with e; omega))
  have HF : Hid (fin = ((n0, n1, n2), st3)) := HE
  have HV5 : Hid (W4.setCell ⟨w.heap.size + 1, 2, none⟩ (.int .i64 n2) = V5) := hV5
  clear HE hV5
  go_wp2_with (first | (rw [HV5.out]; refine wpList_ldB 31 _ (w.heap.size + 1) 0 [.int .i64 n0, .int .i64 n1, .int .i64 n2] [.int .i64 n0, .int .i64 n1, .int .i64 n2] ie hie (Try.isAgg31) TR (by rw [his]; rfl) rfl rfl rfl rfl ?_; try simp only [Act.put]) | (refine wpList_stB 31 _ _ w.heap.size 0 [.int .i64 0, .int .i64 0, .int .i64 0] [.int .i64 n0, .int .i64 n1, .int .i64 n2] ie hie TZ (by rw [his]; rfl) (by simp) rfl rfl rfl rfl rfl ?_; try simp only [Act.put]; rw [hV9]) | fail)
  refine bodyPost_ret (res_B1 rfl _ _ w.heap.size [.int .i64 n0, .int .i64 n1, .int .i64 n2] ie hie (Try.isAgg31) TF his.symm rfl) rfl ?_
  exact ⟨by rw [HF.out], by rw [HF.out]; exact SF, GF⟩
end Go.Proofs.Ytkfjpgkpmdbnoaa

set_option linter.unusedVariables false
set_option maxRecDepth 100000
namespace Go.Proofs.Ytkfjpgkpmdbnoaa
open Go Go.RowKit Go.Joins Own Draw Go.Proofs.Ytkfjpgkpmdbnoaa.Var

theorem mt_of_list {t : ByteArray} (h : t.toList = []) : t = ⟨#[]⟩ := by
  apply ext_list
  rw [ByteArray.toList_eq] at h
  rw [h]
theorem not_nil_list {t : ByteArray} (h : ¬ t = ⟨#[]⟩) : (t.toList == []) = false := by
  cases e : t.toList with
  | nil => exact absurd (mt_of_list e) h
  | cons a b => rfl
theorem not_empty_list {t : ByteArray} (h : ¬ t = ⟨#[]⟩) : t.toList.isEmpty = false := by
  cases e : t.toList with
  | nil => exact absurd (mt_of_list e) h
  | cons a b => rfl
theorem mt_list : (⟨#[]⟩ : ByteArray).toList = [] := by rw [ByteArray.toList_eq]
theorem not_mt_list {t : ByteArray} (h : ¬ t = ⟨#[]⟩) : (t.toList == (⟨#[]⟩ : ByteArray).toList) = false := by rw [mt_list]; exact not_nil_list h
set_option maxRecDepth 100000 in
set_option maxHeartbeats 6400000 in
theorem implRead_is (s : ByteArray) (w : World) (hs : s.size ≤ 1048576) :
    Calls Try.prog 22 #[.string s] w fun e w' => RdQ (rdT s) w.heap.size e w' ∧ Below w.heap.size w w' := by
  rw [← rd_same]
  have HE : Hid (rdJ s = endJ (itJ (upF 20 (some s)).1.toNat (upF 20 (some s)).2)) := (rfl : rdJ s = _)
  generalize rdJ s = fin at HE ⊢
  obtain ⟨i0, hi, hz0, hz1, hz2⟩ := info_parts infoS
  obtain ⟨V0, hV0⟩ : ∃ V, w.alloc (.cells #[.string s, .bool false] 67) = V := ⟨_, rfl⟩
  have BC : Below w.heap.size w V0 := by rw [← hV0]; exact (Below.refl _ _).alloc (Nat.le_refl _) _
  have SV : StV w.heap.size (some s) V0 := by rw [← hV0]; exact ⟨hs, Blk.new _ _ _⟩
  have K := upTo_is w.heap.size (some s) 20 V0 SV
  have hb20 := upF_bound 20 (by omega) (some s)
  clear SV
  generalize upF 20 (some s) = a1 at K HE hb20
  obtain ⟨c, st⟩ := a1
  obtain ⟨m, rfl⟩ := Int.eq_ofNat_of_zero_le hb20.1
  dsimp only at K HE hb20
  have hm : m ≤ 20 := by have := hb20.2; omega
  rw [Int.toNat_natCast] at HE
  clear hb20
  go_enter Try.func22, Try.ntmps22
  go_wp2_with fail
  try rw [hV0]
  refine K.mono ?_
  clear K hV0
  rintro en W1 ⟨rfl, SV, hov⟩
  replace BC := BC.grown hov.gr BC.size (fun k e => by injection e with e; omega)
  clear hov
  go_wp2
  go_loopw [5, 11] (fun lv iv wr => ∃ (j : Nat) (oa : Option Addr) (oc : Nat) (ys : List TS), j ≤ m ∧ iv = .int .i64 (j : Int) ∧ lv = .slice oa ys.length oc ∧ Hid (ys.length = j ∧ ys = (itJ j st).1) ∧ StV w.heap.size (itJ j st).2 wr ∧ FOwn 31 3 cS (w.heap.size + 1) oa oc ys wr ∧ Below w.heap.size w wr) (fun _ iv _ => m - (intOf iv).toNat)
  case atStart => exact ⟨0, none, 0, [], Nat.zero_le _, rfl, rfl, ⟨rfl, rfl⟩, SV, World.ownsRow_nil _ _ _ _, BC⟩
  case round =>
    clear SV BC
    obtain ⟨j, oa, oc, ys, hj, rfl, rfl, HQ, SV, ro, BC⟩ := hrel
    have hq20 : ys.length ≤ 20 := by have := HQ.out.1; omega
    by_cases hlt : j < m
    · have hlt2 : (j : Int) < (m : Int) := by omega
      have K := slot_is w.heap.size (itJ j st).2 wr SV
      have HS : Hid ((itJ (j + 1) st).1 = (itJ j st).1 ++ [(rdS (itJ j st).2).1] ∧ (itJ (j + 1) st).2 = (rdS (itJ j st).2).2) := ⟨rfl, rfl⟩
      have hvs := SV.lt
      clear SV
      generalize rdS (itJ j st).2 = f at K HS
      obtain ⟨x, st2⟩ := f
      dsimp only at HS
      go_wp2_with fail
      refine K.mono ?_
      clear K
      rintro en W2 ⟨rfl, SV, hkb⟩
      dsimp only at SV
      replace ro : FOwn 31 3 cS (w.heap.size + 1) oa oc ys W2 := World.ownsRow.kept ro hkb (by
        cases e : (Value.slice oa ys.length oc).ownBlock with
        | none => exact Or.inl rfl
        | some q => exact Or.inr (fun c => by have := (World.ownsRow.lt ro q e).1; injection c with c; omega))
      replace BC := BC.grown hkb BC.size (fun k e => by injection e with e; omega)
      clear hkb hvs
      have HQ2 : Hid (ys ++ [x] = (itJ (j + 1) st).1 ∧ (itJ (j + 1) st).2 = st2 ∧ ys.length + 1 = j + 1) := ⟨by rw [HS.out.1, ← HQ.out.2], HS.out.2, by rw [HQ.out.1]⟩
      clear HS HQ
      have nw := news3 W2 (.int .i64 x.1) (.int .i64 x.2.1) (.int .i64 x.2.2) 31
      obtain ⟨U, hU⟩ : ∃ U, W2.alloc (.cells #[.int .i64 x.1, .int .i64 x.2.1, .int .i64 x.2.2] 31) = U := ⟨_, rfl⟩
      have XA : Below W2.heap.size W2 U := by rw [← hU]; exact (Below.refl _ _).alloc (Nat.le_refl _) _
      rw [hU] at nw
      replace ro := own_later ro XA
      replace SV := SV.later XA
      replace BC := BC.trans (XA.mono BC.size)
      have hBU : w.heap.size + 1 ≤ U.heap.size := SV.lt
      clear XA
      go_wp2_with (first | (at_builtin; first | refine wpList_append_row _ rfl _ _ 24 rfl (w.heap.size + 1) 31 i0 (.agg #[.int .i64 0, .int .i64 0, .int .i64 0]) 3 24 Try.underlying24 hi hz0 hz1 hz2 rfl (by decide) _ _ _ rfl ro (some ⟨W2.heap.size, 0, none⟩) 1 1 [.int .i64 x.1, .int .i64 x.2.1, .int .i64 x.2.2] rfl rfl (fun ad e => by injection e with e; subst e; exact nw) (fun u hu => by simp at hu; rcases hu with rfl | rfl | rfl <;> rfl) (by unfold maxLen; omega) (by omega) hBU (fun c => by cases c) ?_ | (rw [hU]; refine wpList_append_row _ rfl _ _ 24 rfl (w.heap.size + 1) 31 i0 (.agg #[.int .i64 0, .int .i64 0, .int .i64 0]) 3 24 Try.underlying24 hi hz0 hz1 hz2 rfl (by decide) _ _ _ rfl ro (some ⟨W2.heap.size, 0, none⟩) 1 1 [.int .i64 x.1, .int .i64 x.2.1, .int .i64 x.2.2] rfl rfl (fun ad e => by injection e with e; subst e; exact nw) (fun u hu => by simp at hu; rcases hu with rfl | rfl | rfl <;> rfl) (by unfold maxLen; omega) (by omega) hBU (fun c => by cases c) ?_)) | fail)
      intro v3 w3 ho3 hg3
      obtain ⟨na, nc, rfl, _⟩ := own_shape ho3
      have B3 : Below w.heap.size w w3 := BC.grown hg3 BC.size (fun k e => by have := (World.ownsRow.lt ro k e).1; omega)
      have S3 : StV w.heap.size st2 w3 := SV.kept hg3 (fun e => by have := (World.ownsRow.lt ro _ e.symm).1; omega)
      have hle2 : (ys ++ [x]).length = ys.length + 1 := by simp
      have R3 : FOwn 31 3 cS (w.heap.size + 1) na nc (ys ++ [x]) w3 := by unfold FOwn; rw [hle2, fl_snoc]; exact ho3
      have HR : ∃ (j' : Nat) (oa' : Option Addr) (oc' : Nat) (ys' : List TS), j' ≤ m ∧ Value.int .i64 ((j : Int) + 1) = .int .i64 (j' : Int) ∧ Value.slice na (ys.length + 1) nc = .slice oa' ys'.length oc' ∧ Hid (ys'.length = j' ∧ ys' = (itJ j' st).1) ∧ StV w.heap.size (itJ j' st).2 w3 ∧ FOwn 31 3 cS (w.heap.size + 1) oa' oc' ys' w3 ∧ Below w.heap.size w w3 :=
        ⟨j + 1, na, nc, ys ++ [x], by omega, by go_num, by rw [hle2], ⟨hle2.trans HQ2.out.2.2, HQ2.out.1⟩, by rw [HQ2.out.2.1]; exact S3, R3, B3⟩
      clear ho3 hg3 ro BC nw hU SV HQ2 R3 B3 S3 hle2
      go_wp2
      go_roundw
      case rel => exact HR
      case measure => simp [intOf]; omega
    · obtain rfl : j = m := by omega
      have hlt2 : ¬ (j : Int) < (j : Int) := by omega
      have HF : Hid (fin = if (itJ j st).2 = some ⟨#[]⟩ ∧ tabB (itJ j st).1 = true then ((itJ j st).1, true) else ([], false)) := HE
      have HY : Hid ((itJ j st).1 = ys) := HQ.out.2.symm
      clear HE HQ
      rw [HY.out] at HF
      clear HY
      generalize (itJ j st).2 = s4 at SV HF
      have hnl : RdQ ([], false) w.heap.size (.returned (.tuple #[.slice none 0 0, .bool false])) wr := ⟨none, 0, rfl, World.ownsRow_nil _ _ _ _⟩
      cases s4 with
      | none =>
        have HF2 : Hid (fin = ([], false)) := by show _ = _; rw [HF.out, if_neg (fun c => by cases c.1)]
        have SB : Blk w.heap.size [.string ⟨#[]⟩, .bool true] wr := SV
        have k0 := SB.at 0 rfl
        have k1 := SB.at 1 rfl
        clear HF
        go_wp2
        refine bodyPost_ret (results_tmp2 rfl _ _ _) rfl ?_
        exact ⟨by rw [HF2.out]; exact hnl, BC⟩
      | some t =>
        have k0 := SV.2.at 0 rfl
        have k1 := SV.2.at 1 rfl
        by_cases ht : t = ⟨#[]⟩
        · subst ht
          have K := implTab_is oa oc ys wr (FOwn.row lS ro) (by omega)
          cases hok : tabB ys with
          | true =>
            rw [hok] at K
            have HF2 : Hid (fin = (ys, true)) := by show _ = _; rw [HF.out, if_pos ⟨rfl, hok⟩]
            clear HF hok hnl
            go_wp2_with fail
            refine K.mono ?_
            clear K k0 k1 SV
            rintro en W3 ⟨rfl, hb⟩
            go_wp2
            refine bodyPost_ret (results_tmp2 rfl _ _ _) rfl ?_
            exact ⟨⟨oa, oc, by rw [HF2.out]; rfl, by rw [HF2.out]; exact ownsRow_le (own_later ro hb) (by omega)⟩, BC.trans (hb.mono BC.size)⟩
          | false =>
            rw [hok] at K
            have HF2 : Hid (fin = ([], false)) := by show _ = _; rw [HF.out, if_neg (fun c => by rw [hok] at c; cases c.2)]
            clear HF hok
            go_wp2_with fail
            refine K.mono ?_
            clear K k0 k1 SV
            rintro en W3 ⟨rfl, hb⟩
            go_wp2
            refine bodyPost_ret (results_tmp2 rfl _ _ _) rfl ?_
            exact ⟨⟨none, 0, by rw [HF2.out]; rfl, by rw [HF2.out]; exact World.ownsRow_nil _ _ _ _⟩, BC.trans (hb.mono BC.size)⟩
        · have HF2 : Hid (fin = ([], false)) := by show _ = _; rw [HF.out, if_neg (fun c => ht (by injection c.1))]
          have hne : t.toList.isEmpty = false := not_empty_list ht
          have hne2 : (t.toList == []) = false := not_nil_list ht
          have hne3 : (t.toList == (⟨#[]⟩ : ByteArray).toList) = false := not_mt_list ht
          clear HF ht
          go_wp2
          refine bodyPost_ret (results_tmp2 rfl _ _ _) rfl ?_
          exact ⟨by rw [HF2.out]; exact hnl, BC⟩
end Go.Proofs.Ytkfjpgkpmdbnoaa
