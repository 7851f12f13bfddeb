/- The last slot of one, a key by its version: plain data, the program. -/
import Derived.Test.YtkfjpgkpmdbnoaaIt0
import Derived.Test.YtkfjpgkpmdbnoaaOk0
import Derived.Test.YtkfjpgkpmdbnoaaTf0
import Derived.Test.YtkfjpgkpmdbnoaaTf2
set_option linter.unusedVariables false
set_option maxRecDepth 100000
namespace Go.Proofs.Ytkfjpgkpmdbnoaa
open Go Go.RowKit Go.Joins Go.Shelf Own Draw
attribute [local go_sem] Oper.semAt_some

theorem no_fold (who : Int) : ∀ (xs : List TS) (s : TS × Bool), xs.foldl (noS who) s = match (xs.reverse.filter (fun p => p.1 == who)) with | [] => s | p :: _ => (p, true)
  | [], s => rfl
  | x :: xs, s => by
    rw [List.foldl_cons, no_fold who xs, List.reverse_cons, List.filter_append]
    cases h : xs.reverse.filter (fun p => p.1 == who) with
    | cons p r => rfl
    | nil =>
      unfold noS
      by_cases c : x.1 = who
      · rw [if_pos c]; simp [c]
      · rw [if_neg c]; simp [c]
/-- The last one is the first of its versions. -/
theorem no_vs (xs : List TS) (who : Int) : noG xs who = match vsL xs who with | [] => ((0, 0, 0), false) | p :: _ => (p, true) := no_fold who xs _
theorem vs_mem {xs : List TS} {who : Int} {p : TS} : p ∈ vsL xs who ↔ p ∈ xs ∧ p.1 = who := by unfold vsL; simp
theorem vs_len (xs : List TS) (who : Int) : (vsL xs who).length ≤ xs.length := by
  have := List.length_filter_le (fun p : TS => p.1 == who) xs.reverse
  rwa [List.length_reverse] at this
/-- A key is found among the versions as in the whole. -/
theorem fi_at {xs : List TS} {who ver : Int} (h : xs.Pairwise ltS) {p : TS} (hp : p ∈ vsL xs who) (hv : p.2.1 = ver) : fiG xs who ver = (p.2.2, true) := by
  obtain ⟨hp1, hp2⟩ := vs_mem.1 hp
  unfold fiG
  cases hf : xs.find? (fun p => decide (p.1 = who ∧ p.2.1 = ver)) with
  | none =>
    rw [List.find?_eq_none] at hf
    exact absurd (by simpa using ⟨hp2, hv⟩) (hf p hp1)
  | some q =>
    have h1 := List.find?_some hf
    have h2 := List.mem_of_find?_eq_some hf
    simp only [decide_eq_true_eq] at h1
    rw [rise_one h h2 hp1 (h1.1.trans hp2.symm) (h1.2.trans hv.symm)]
theorem fi_no {xs : List TS} {who ver : Int} (h : ∀ p ∈ vsL xs who, p.2.1 ≠ ver) : fiG xs who ver = (0, false) := by
  unfold fiG
  have : xs.find? (fun p => decide (p.1 = who ∧ p.2.1 = ver)) = none := by
    rw [List.find?_eq_none]
    intro p hp c
    simp only [decide_eq_true_eq] at c
    exact h p (vs_mem.2 ⟨hp, c.1⟩) c.2
  rw [this]
theorem apart_row {xs : List TS} {w0 : World} {a : Option Addr} (hr : FRow 3 cS w0 a xs) : ∀ p : Addr, a = some p → 0 < xs.length → p.block < w0.heap.size := fun p hp h0 => by
  obtain ⟨q, o, e, hb, _⟩ := hr 0 h0
  rw [hp] at e
  injection e with e
  subst e
  exact hb
theorem ks4 (g : Nat) (X : World) (u0 u1 u2 b : Value) : KS (fun k => k = g ∨ k = g + 1) X ((((X.setCell ⟨g, 0, none⟩ u0).setCell ⟨g, 1, none⟩ u1).setCell ⟨g, 2, none⟩ u2).setCell ⟨g + 1, 0, none⟩ b) :=
  (((KS.set X g 0 u0 (Or.inl rfl)).trans (KS.set _ g 1 u1 (Or.inl rfl))).trans (KS.set _ g 2 u2 (Or.inl rfl))).trans (KS.set _ (g + 1) 0 b (Or.inr rfl))
theorem ks2 (g : Nat) (X : World) (u b : Value) : KS (fun k => k = g ∨ k = g + 1) X ((X.setCell ⟨g, 0, none⟩ u).setCell ⟨g + 1, 0, none⟩ b) :=
  (KS.set X g 0 u (Or.inl rfl)).trans (KS.set _ (g + 1) 0 b (Or.inr rfl))
theorem res_now {fn : Func} {p q : Tmp} (hres : fn.results = #[.cell p 31, .cell q 4]) (tmps : Array Value) (w : World) (g k : Nat) (v0 v1 v2 b : Value) (hp : tmps.getD p undef = .pointer (some ⟨g, 0, none⟩)) (hq : tmps.getD q undef = .pointer (some ⟨k, 0, none⟩)) (h0 : w.cell? ⟨g, 0, none⟩ = some v0) (h1 : w.cell? ⟨g, 1, none⟩ = some v1) (h2 : w.cell? ⟨g, 2, none⟩ = some v2) (h3 : w.cell? ⟨k, 0, none⟩ = some b) :
    (results fn tmps).run Try.prog w = .ok (.tuple #[.agg #[v0, v1, v2], b]) w := by
  have hp' : tmps[p]?.getD undef = .pointer (some ⟨g, 0, none⟩) := by simpa using hp
  have hq' : tmps[q]?.getD undef = .pointer (some ⟨k, 0, none⟩) := by simpa using hq
  unfold results
  rw [hres]
  go_simp
theorem res_find {fn : Func} {p q : Tmp} (hres : fn.results = #[.cell p 3, .cell q 4]) (tmps : Array Value) (w : World) (g k : Nat) (v b : Value) (hp : tmps.getD p undef = .pointer (some ⟨g, 0, none⟩)) (hq : tmps.getD q undef = .pointer (some ⟨k, 0, none⟩)) (h0 : w.cell? ⟨g, 0, none⟩ = some v) (h3 : w.cell? ⟨k, 0, none⟩ = some b) :
    (results fn tmps).run Try.prog w = .ok (.tuple #[v, b]) w := by
  have hp' : tmps[p]?.getD undef = .pointer (some ⟨g, 0, none⟩) := by simpa using hp
  have hq' : tmps[q]?.getD undef = .pointer (some ⟨k, 0, none⟩) := by simpa using hq
  unfold results
  rw [hres]
  go_simp
set_option maxHeartbeats 6400000 in
theorem implNow_is (a : Option Addr) (cap : Nat) (xs : List TS) (n : Int) (w : World) (hr : FRow 3 cS w a xs) (hl : xs.length ≤ 1048576) :
    Calls Try.prog 18 #[.slice a xs.length cap, .int .i64 n] w fun e w' => e = .returned (.tuple #[vS (noT xs n).1, .bool (noT xs n).2]) ∧ Below w.heap.size w w' := by
  obtain ⟨ie, hie, hsz⟩ := info_S
  have HNO : Hid (noT xs n = if tabB xs then noG xs n else ((0, 0, 0), false)) := (rfl : noT xs n = _)
  have HVS : Hid (noG xs n = match vsL xs n with | [] => ((0, 0, 0), false) | p :: _ => (p, true)) := no_vs xs n
  generalize noT xs n = ans at HNO ⊢
  obtain ⟨V, hV⟩ : ∃ V, w.alloc (.cells #[.int .i64 0, .int .i64 0, .int .i64 0] 31) = V := ⟨_, rfl⟩
  have TV : Blk w.heap.size [.int .i64 0, .int .i64 0, .int .i64 0] V := by rw [← hV]; exact Blk.new _ _ _
  have BV : Below w.heap.size w V := by rw [← hV]; exact (Below.refl _ _).alloc (Nat.le_refl _) _
  have zV : V.heap.size = w.heap.size + 1 := by rw [← hV]; simp
  obtain ⟨U, hU⟩ : ∃ U, V.alloc (.cells #[.bool false] 4) = U := ⟨_, rfl⟩
  have BU : Below w.heap.size w U := by rw [← hU]; exact BV.alloc BV.size _
  have T0 : Blk w.heap.size [.int .i64 0, .int .i64 0, .int .i64 0] U := by rw [← hU]; exact TV.alloc (by omega) _
  have T1 : Blk (w.heap.size + 1) [.bool false] U := by rw [← hU, ← zV]; exact Blk.new _ _ _
  have zU : U.heap.size = w.heap.size + 2 := by rw [← hU]; simp [zV]
  clear TV BV
  have K := implTab_is a cap xs U (hr.later BU) hl
  refine (callsIn_wide (n := 8)).1 ?_
  refine callsIn_of_wp_marks Try.func18 rfl trivial ?_ rfl
  simp only [Try.ntmps18, List.size_toArray, List.length_cons, List.length_nil, Nat.reduceAdd, Nat.reduceSub, Array.replicate_succ, Array.replicate_zero, List.push_toArray, List.append_toArray, List.nil_append, List.cons_append]
  gi_wp2
  try rw [hV]
  try rw [hU]
  refine ⟨trivial, (callsIn_wide.2 K).mono ?_⟩
  clear K hU hV
  rintro en W1 ⟨rfl, B1⟩
  replace T0 := T0.later B1 (by omega)
  replace T1 := T1.later B1 (by omega)
  have hz1 := B1.size
  replace BU := BU.trans (B1.mono BU.size)
  clear B1
  cases ht : tabB xs with
  | false =>
    have HA : Hid (ans = ((0, 0, 0), false)) := by show _ = _; rw [HNO.out, ht]; rfl
    clear HNO HVS hr ht
    have d0 := T0.at 0 rfl
    have d1 := T0.at 1 rfl
    have d2 := T0.at 2 rfl
    have f0 := T0.fz 0 rfl
    have f1 := T0.fz 1 rfl
    have f2 := T0.fz 2 rfl
    have d3 := T1.at 0 rfl
    have f3 := T1.fz 0 rfl
    have TA := ((((T0.set 0 (.int .i64 0)).set 1 (.int .i64 0)).set 2 (.int .i64 0)).far (g' := w.heap.size + 1) (by omega) 0 (.bool false))
    have TB := ((((T1.far (g' := w.heap.size) (by omega) 0 (.int .i64 0)).far (g' := w.heap.size) (by omega) 1 (.int .i64 0)).far (g' := w.heap.size) (by omega) 2 (.int .i64 0)).set 0 (.bool false))
    have BD := (((BU.setCell (p := ⟨w.heap.size, 0, none⟩) (Nat.le_refl _) (.int .i64 0)).setCell (p := ⟨w.heap.size, 1, none⟩) (Nat.le_refl _) (.int .i64 0)).setCell (p := ⟨w.heap.size, 2, none⟩) (Nat.le_refl _) (.int .i64 0)).setCell (p := ⟨w.heap.size + 1, 0, none⟩) (Nat.le_succ _) (.bool false)
    clear T0 T1
    gi_wp2
    exact ⟨_, res_now rfl _ _ w.heap.size (w.heap.size + 1) _ _ _ _ rfl rfl (TA.at 0 rfl) (TA.at 1 rfl) (TA.at 2 rfl) (TB.at 0 rfl), by first | (rw [HA.out]; rfl) | rw [HA.out], BD⟩
  | true =>
    have HA : Hid (ans = noG xs n) := by show _ = _; rw [HNO.out, ht]; rfl
    clear HNO ht
    gi_wp2
    refine ⟨trivial, (callsIn_wide.2 (vers_is a xs.length cap n W1)).mono ?_⟩
    rintro en W2 ⟨rfl, eW⟩
    have B2 : Below W1.heap.size W1 W2 := by rw [eW]; exact ((Below.refl _ _).alloc (Nat.le_refl _) _).alloc (by simp) _
    have z2 : W2.heap.size = W1.heap.size + 2 := by rw [eW]; simp
    have cT : W2.cell? ⟨W1.heap.size, 0, none⟩ = some (.slice a xs.length cap) := by rw [eW]; exact ((Blk.new W1 #[.slice a xs.length cap] 24).alloc (by simp) _).at 0 rfl
    have cN : W2.cell? ⟨W1.heap.size + 1, 0, none⟩ = some (.int .i64 n) := by
      rw [eW]
      have h_ := (Blk.new (W1.alloc (.cells #[.slice a xs.length cap] 24)) #[.int .i64 n] 3).at 0 rfl
      rw [World.size_alloc] at h_
      exact h_
    have hr2 := hr.later (BU.trans (B2.mono BU.size))
    have ap := apart_row hr
    clear eW
    replace T0 := T0.later B2 (by omega)
    replace T1 := T1.later B2 (by omega)
    replace BU := BU.trans (B2.mono BU.size)
    clear B2
    gi_wp2
    refine rangeO (α := TS) (s := fun k => k = w.heap.size ∨ k = w.heap.size + 1) (gf := 63) (lb := #[.pointer (some ⟨W1.heap.size, 0, none⟩), .pointer (some ⟨W1.heap.size + 1, 0, none⟩)]) rfl (enters_of Try.func63 (by kernel_rfl) rfl)
      (vers_seq 7 (by omega) W1.heap.size (W1.heap.size + 1) a cap xs n hl (fun k => (k = w.heap.size ∨ k = w.heap.size + 1) ∨ k = W2.heap.size ∨ k = W2.heap.size + 1) W2 hr2 cT cN (fun c => by omega) (fun c => by omega) (fun p hp h0 c => by have := ap p hp h0; omega))
      (Below.refl _ _) (fun k hk => by omega) (fun _ => rfl)
      (fun pre X => pre = [] ∧ KS (fun _ => False) W2 X)
      (fun c pre X => c = .ret ∧ ∃ x, pre = [x] ∧ Blk w.heap.size [.int .i64 x.1, .int .i64 x.2.1, .int .i64 x.2.2] X ∧ Blk (w.heap.size + 1) [.bool true] X ∧ Below w.heap.size w X)
      (fun pre X Y row h hg hq => ⟨h.1, h.2.grown hg (fun k e => Or.inl (hq k e).1)⟩)
      (fun c pre X Y row h hg hq => by
        obtain ⟨h1, x, h2, h3, h4, h5⟩ := h
        exact ⟨h1, x, h2, h3.keptO hg (fun r e => (hq r e).2), h4.keptO hg (fun r e => (hq r e).2), h5.grown hg h5.size (fun k e => by have := (hq k e).1; omega)⟩)
      ⟨rfl, KS.refl _ _⟩
      (fun x a' X => ∃ v, W2.heap.size ≤ v ∧ a' = { tmps := #[.slice a xs.length cap, .int .i64 n, undef, undef, .pointer (some ⟨w.heap.size, 0, none⟩), .pointer (some ⟨w.heap.size + 1, 0, none⟩), .pointer (some ⟨v, 0, none⟩), .slice a xs.length cap, .bool true, .slice a xs.length cap, .int .i64 n, .func (.func 63) #[] #[.pointer (some ⟨W1.heap.size, 0, none⟩), .pointer (some ⟨W1.heap.size + 1, 0, none⟩)], vS x, undef, undef], defers := [] } ∧ Blk v [.int .i64 x.1, .int .i64 x.2.1, .int .i64 x.2.2] X)
      (fun x a' _ X Y row h hg hq => by
        obtain ⟨v, h1, h2, h3⟩ := h
        exact ⟨v, h1, h2, h3.keptO hg (fun r e => (hq r e).2)⟩)
      ?assign ?body ?done ?stop
    case assign =>
      rintro l2 pre x X K ⟨rfl, hK⟩ hsz hKK
      obtain ⟨Y, hY0⟩ : ∃ Y, X.alloc (.cells #[.int .i64 x.1, .int .i64 x.2.1, .int .i64 x.2.2] 31) = Y := ⟨_, rfl⟩
      have BY : Below X.heap.size X Y := by rw [← hY0]; exact (Below.refl _ _).alloc (Nat.le_refl _) _
      have TY : Blk X.heap.size [.int .i64 x.1, .int .i64 x.2.1, .int .i64 x.2.2] Y := by rw [← hY0]; exact Blk.new _ _ _
      have HF : Hid (K { tmps := #[.slice a xs.length cap, .int .i64 n, undef, undef, .pointer (some ⟨w.heap.size, 0, none⟩), .pointer (some ⟨w.heap.size + 1, 0, none⟩), .pointer (some ⟨X.heap.size, 0, none⟩), .slice a xs.length cap, .bool true, .slice a xs.length cap, .int .i64 n, .func (.func 63) #[] #[.pointer (some ⟨W1.heap.size, 0, none⟩), .pointer (some ⟨W1.heap.size + 1, 0, none⟩)], vS x, undef, undef], defers := [] } Y) := hKK _ Y (KS.of BY) ⟨rfl, hK.trans (KS.of BY)⟩ ⟨X.heap.size, hsz, rfl, TY⟩
      clear hKK TY BY
      dsimp only [vS] at HF ⊢
      gi_wp2
      try rw [hY0]
      exact HF.out
    case body =>
      rintro l2 pre x a' X ⟨rfl, hK⟩ hsz ⟨v, hv, rfl, TX⟩ hlen
      replace T0 := T0.ks hK (fun c => c)
      replace T1 := T1.ks hK (fun c => c)
      replace BU := BU.trans (hK.below (m := w.heap.size) (by omega) (fun _ _ c => c))
      have g0 := TX.at 0 rfl
      have g1 := TX.at 1 rfl
      have g2 := TX.at 2 rfl
      have d0 := T0.at 0 rfl
      have d1 := T0.at 1 rfl
      have d2 := T0.at 2 rfl
      have f0 := T0.fz 0 rfl
      have f1 := T0.fz 1 rfl
      have f2 := T0.fz 2 rfl
      have d3 := T1.at 0 rfl
      have f3 := T1.fz 0 rfl
      have TA := ((((T0.set 0 (.int .i64 x.1)).set 1 (.int .i64 x.2.1)).set 2 (.int .i64 x.2.2)).far (g' := w.heap.size + 1) (by omega) 0 (.bool true))
      have TB := ((((T1.far (g' := w.heap.size) (by omega) 0 (.int .i64 x.1)).far (g' := w.heap.size) (by omega) 1 (.int .i64 x.2.1)).far (g' := w.heap.size) (by omega) 2 (.int .i64 x.2.2)).set 0 (.bool true))
      have BD := (((BU.setCell (p := ⟨w.heap.size, 0, none⟩) (Nat.le_refl _) (.int .i64 x.1)).setCell (p := ⟨w.heap.size, 1, none⟩) (Nat.le_refl _) (.int .i64 x.2.1)).setCell (p := ⟨w.heap.size, 2, none⟩) (Nat.le_refl _) (.int .i64 x.2.2)).setCell (p := ⟨w.heap.size + 1, 0, none⟩) (Nat.le_succ _) (.bool true)
      have KX := ks4 w.heap.size X (.int .i64 x.1) (.int .i64 x.2.1) (.int .i64 x.2.2) (.bool true)
      clear T0 T1
      dsimp only [vS]
      gi_wp2
      exact ⟨KX, rfl, x, rfl, TA, TB, BD⟩
    case done =>
      rintro D ys X hD hys ⟨hnil, hK⟩ hd
      have HZ : Hid (ans = ((0, 0, 0), false)) := by show _ = _; rw [HA.out, HVS.out, ← hys, hnil]
      replace T0 := T0.ks hK (fun c => c)
      replace T1 := T1.ks hK (fun c => c)
      replace BU := BU.trans (hK.below (m := w.heap.size) (by omega) (fun _ _ c => c))
      have d0 := T0.at 0 rfl
      have d1 := T0.at 1 rfl
      have d2 := T0.at 2 rfl
      have f0 := T0.fz 0 rfl
      have f1 := T0.fz 1 rfl
      have f2 := T0.fz 2 rfl
      have d3 := T1.at 0 rfl
      have f3 := T1.fz 0 rfl
      have TA := ((((T0.set 0 (.int .i64 0)).set 1 (.int .i64 0)).set 2 (.int .i64 0)).far (g' := w.heap.size + 1) (by omega) 0 (.bool false))
      have TB := ((((T1.far (g' := w.heap.size) (by omega) 0 (.int .i64 0)).far (g' := w.heap.size) (by omega) 1 (.int .i64 0)).far (g' := w.heap.size) (by omega) 2 (.int .i64 0)).set 0 (.bool false))
      have BD := (((BU.setCell (p := ⟨w.heap.size, 0, none⟩) (Nat.le_refl _) (.int .i64 0)).setCell (p := ⟨w.heap.size, 1, none⟩) (Nat.le_refl _) (.int .i64 0)).setCell (p := ⟨w.heap.size, 2, none⟩) (Nat.le_refl _) (.int .i64 0)).setCell (p := ⟨w.heap.size + 1, 0, none⟩) (Nat.le_succ _) (.bool false)
      have hd2 := (ks4 w.heap.size X (.int .i64 0) (.int .i64 0) (.int .i64 0) (.bool false)).obj hd (by omega)
      clear T0 T1 hys hnil HVS HA
      gi_wp2
      refine ⟨by simp, .inl ⟨_, _, rfl, run_takeDeferred hd2, ?_⟩⟩
      have TA2 := TA.keptO (grownBy_putObj' _ D (.deferred none)) (fun r e => by cases e; exact ⟨_, hd2, rfl⟩)
      have TB2 := TB.keptO (grownBy_putObj' _ D (.deferred none)) (fun r e => by cases e; exact ⟨_, hd2, rfl⟩)
      exact ⟨_, res_now rfl _ _ w.heap.size (w.heap.size + 1) _ _ _ _ rfl rfl (TA2.at 0 rfl) (TA2.at 1 rfl) (TA2.at 2 rfl) (TB2.at 0 rfl), by first | (rw [HZ.out]; rfl) | rw [HZ.out], BD.grown (grownBy_putObj' _ D _) BD.size (fun k e => by cases e; omega)⟩
    case stop =>
      rintro D c pre X hD hv ⟨rfl, x, rfl, TA, TB, BD⟩ hd
      have HZ : Hid (ans = (x, true)) := by
        show _ = _
        rw [HA.out, HVS.out]
        obtain ⟨t, ht⟩ := hv
        rw [← ht]
        rfl
      clear hv HVS HA T0 T1 BU
      gi_wp2
      refine ⟨by simp, .inl ⟨_, _, rfl, run_takeDeferred hd, ?_⟩⟩
      have TA2 := TA.keptO (grownBy_putObj' _ D (.deferred none)) (fun r e => by cases e; exact ⟨_, hd, rfl⟩)
      have TB2 := TB.keptO (grownBy_putObj' _ D (.deferred none)) (fun r e => by cases e; exact ⟨_, hd, rfl⟩)
      exact ⟨_, res_now rfl _ _ w.heap.size (w.heap.size + 1) _ _ _ _ rfl rfl (TA2.at 0 rfl) (TA2.at 1 rfl) (TA2.at 2 rfl) (TB2.at 0 rfl), by rw [HZ.out], BD.grown (grownBy_putObj' _ D _) BD.size (fun k e => by cases e; omega)⟩
set_option maxHeartbeats 6400000 in
theorem implFind_is (a : Option Addr) (cap : Nat) (xs : List TS) (n ver : Int) (w : World) (hr : FRow 3 cS w a xs) (hl : xs.length ≤ 1048576) :
    Calls Try.prog 19 #[.slice a xs.length cap, .int .i64 n, .int .i64 ver] w fun e w' => e = .returned (.tuple #[.int .i64 (fiT xs n ver).1, .bool (fiT xs n ver).2]) ∧ Below w.heap.size w w' := by
  have HNO : Hid (fiT xs n ver = if tabB xs then fiG xs n ver else (0, false)) := (rfl : fiT xs n ver = _)
  have HFA : Hid (xs.Pairwise ltS → ∀ p ∈ vsL xs n, p.2.1 = ver → fiG xs n ver = (p.2.2, true)) := fun h p hp hv => fi_at h hp hv
  have HFN : Hid ((∀ p ∈ vsL xs n, p.2.1 ≠ ver) → fiG xs n ver = (0, false)) := fun h => fi_no h
  generalize fiT xs n ver = ans at HNO ⊢
  obtain ⟨V0, hV0⟩ : ∃ V, w.alloc (.cells #[.int .i64 ver] 3) = V := ⟨_, rfl⟩
  have TQ : Blk w.heap.size [.int .i64 ver] V0 := by rw [← hV0]; exact Blk.new _ _ _
  have B0 : Below w.heap.size w V0 := by rw [← hV0]; exact (Below.refl _ _).alloc (Nat.le_refl _) _
  have z0 : V0.heap.size = w.heap.size + 1 := by rw [← hV0]; simp
  obtain ⟨V, hV⟩ : ∃ V, V0.alloc (.cells #[.int .i64 0] 3) = V := ⟨_, rfl⟩
  have TV : Blk (w.heap.size + 1) [.int .i64 0] V := by rw [← hV, ← z0]; exact Blk.new _ _ _
  have TQ2 : Blk w.heap.size [.int .i64 ver] V := by rw [← hV]; exact TQ.alloc (by omega) _
  have BV : Below w.heap.size w V := by rw [← hV]; exact B0.alloc B0.size _
  have zV : V.heap.size = w.heap.size + 2 := by rw [← hV]; simp [z0]
  obtain ⟨U, hU⟩ : ∃ U, V.alloc (.cells #[.bool false] 4) = U := ⟨_, rfl⟩
  have BU : Below w.heap.size w U := by rw [← hU]; exact BV.alloc BV.size _
  have T0 : Blk (w.heap.size + 1) [.int .i64 0] U := by rw [← hU]; exact TV.alloc (by omega) _
  have TQ3 : Blk w.heap.size [.int .i64 ver] U := by rw [← hU]; exact TQ2.alloc (by omega) _
  have T1 : Blk (w.heap.size + 2) [.bool false] U := by rw [← hU, ← zV]; exact Blk.new _ _ _
  have zU : U.heap.size = w.heap.size + 3 := by rw [← hU]; simp [zV]
  clear TV BV TQ TQ2 B0
  have K := implTab_is a cap xs U (hr.later BU) hl
  refine (callsIn_wide (n := 8)).1 ?_
  refine callsIn_of_wp_marks Try.func19 rfl trivial ?_ rfl
  simp only [Try.ntmps19, List.size_toArray, List.length_cons, List.length_nil, Nat.reduceAdd, Nat.reduceSub, Array.replicate_succ, Array.replicate_zero, List.push_toArray, List.append_toArray, List.nil_append, List.cons_append]
  gi_wp2
  try rw [hV0]
  try rw [hV]
  try rw [hU]
  refine ⟨trivial, (callsIn_wide.2 K).mono ?_⟩
  clear K hU hV hV0
  rintro en W1 ⟨rfl, B1⟩
  replace T0 := T0.later B1 (by omega)
  replace T1 := T1.later B1 (by omega)
  replace TQ3 := TQ3.later B1 (by omega)
  have hz1 := B1.size
  replace BU := BU.trans (B1.mono BU.size)
  clear B1
  cases ht : tabB xs with
  | false =>
    have HA : Hid (ans = (0, false)) := by show _ = _; rw [HNO.out, ht]; rfl
    clear HNO HFA HFN hr ht TQ3
    have d0 := T0.at 0 rfl
    have f0 := T0.fz 0 rfl
    have d3 := T1.at 0 rfl
    have f3 := T1.fz 0 rfl
    have TA := ((T0.set 0 (.int .i64 0)).far (g' := w.heap.size + 2) (by omega) 0 (.bool false))
    have TB := ((T1.far (g' := w.heap.size + 1) (by omega) 0 (.int .i64 0)).set 0 (.bool false))
    have BD := ((BU.setCell (p := ⟨w.heap.size + 1, 0, none⟩) (Nat.le_succ _) (.int .i64 0)).setCell (p := ⟨w.heap.size + 2, 0, none⟩) (Nat.le_add_right _ _) (.bool false))
    clear T0 T1
    gi_wp2
    exact ⟨_, res_find rfl _ _ (w.heap.size + 1) (w.heap.size + 2) _ _ rfl rfl (TA.at 0 rfl) (TB.at 0 rfl), by first | (rw [HA.out]; rfl) | rw [HA.out], BD⟩
  | true =>
    have HA : Hid (ans = fiG xs n ver) := by show _ = _; rw [HNO.out, ht]; rfl
    have HR : Hid (xs.Pairwise ltS) := tab_rise ht
    clear HNO ht
    gi_wp2
    refine ⟨trivial, (callsIn_wide.2 (vers_is a xs.length cap n W1)).mono ?_⟩
    rintro en W2 ⟨rfl, eW⟩
    have B2 : Below W1.heap.size W1 W2 := by rw [eW]; exact ((Below.refl _ _).alloc (Nat.le_refl _) _).alloc (by simp) _
    have z2 : W2.heap.size = W1.heap.size + 2 := by rw [eW]; simp
    have cT : W2.cell? ⟨W1.heap.size, 0, none⟩ = some (.slice a xs.length cap) := by rw [eW]; exact ((Blk.new W1 #[.slice a xs.length cap] 24).alloc (by simp) _).at 0 rfl
    have cN : W2.cell? ⟨W1.heap.size + 1, 0, none⟩ = some (.int .i64 n) := by
      rw [eW]
      have h_ := (Blk.new (W1.alloc (.cells #[.slice a xs.length cap] 24)) #[.int .i64 n] 3).at 0 rfl
      rw [World.size_alloc] at h_
      exact h_
    have hr2 := hr.later (BU.trans (B2.mono BU.size))
    have ap := apart_row hr
    clear eW
    replace T0 := T0.later B2 (by omega)
    replace T1 := T1.later B2 (by omega)
    replace TQ3 := TQ3.later B2 (by omega)
    replace BU := BU.trans (B2.mono BU.size)
    clear B2
    gi_wp2
    refine rangeO (α := TS) (s := fun k => k = w.heap.size + 1 ∨ k = w.heap.size + 1 + 1) (gf := 63) (lb := #[.pointer (some ⟨W1.heap.size, 0, none⟩), .pointer (some ⟨W1.heap.size + 1, 0, none⟩)]) rfl (enters_of Try.func63 (by kernel_rfl) rfl)
      (vers_seq 7 (by omega) W1.heap.size (W1.heap.size + 1) a cap xs n hl (fun k => (k = w.heap.size + 1 ∨ k = w.heap.size + 1 + 1) ∨ k = W2.heap.size ∨ k = W2.heap.size + 1) W2 hr2 cT cN (fun c => by omega) (fun c => by omega) (fun p hp h0 c => by have := ap p hp h0; omega))
      (Below.refl _ _) (fun k hk => by omega) (fun _ => rfl)
      (fun pre X => (∀ p ∈ pre, p.2.1 ≠ ver) ∧ KS (fun _ => False) W2 X)
      (fun c pre X => c = .ret ∧ ∃ x, x ∈ pre ∧ x.2.1 = ver ∧ Blk (w.heap.size + 1) [.int .i64 x.2.2] X ∧ Blk (w.heap.size + 2) [.bool true] X ∧ Below w.heap.size w X)
      (fun pre X Y row h hg hq => ⟨h.1, h.2.grown hg (fun k e => Or.inl (hq k e).1)⟩)
      (fun c pre X Y row h hg hq => by
        obtain ⟨h1, x, h2, h2b, h3, h4, h5⟩ := h
        exact ⟨h1, x, h2, h2b, h3.keptO hg (fun r e => (hq r e).2), h4.keptO hg (fun r e => (hq r e).2), h5.grown hg h5.size (fun k e => by have := (hq k e).1; omega)⟩)
      ⟨fun p hp => (by cases hp), KS.refl _ _⟩
      (fun x a' X => ∃ v, W2.heap.size ≤ v ∧ a' = { tmps := #[.slice a xs.length cap, .int .i64 n, .int .i64 ver, undef, undef, .pointer (some ⟨w.heap.size, 0, none⟩), .pointer (some ⟨w.heap.size + 1, 0, none⟩), .pointer (some ⟨w.heap.size + 2, 0, none⟩), .pointer (some ⟨v, 0, none⟩), .slice a xs.length cap, .bool true, .slice a xs.length cap, .int .i64 n, .func (.func 63) #[] #[.pointer (some ⟨W1.heap.size, 0, none⟩), .pointer (some ⟨W1.heap.size + 1, 0, none⟩)], vS x, undef, undef, undef, undef, undef, undef], defers := [] } ∧ Blk v [.int .i64 x.1, .int .i64 x.2.1, .int .i64 x.2.2] X)
      (fun x a' _ X Y row h hg hq => by
        obtain ⟨v, h1, h2, h3⟩ := h
        exact ⟨v, h1, h2, h3.keptO hg (fun r e => (hq r e).2)⟩)
      ?assign ?body ?done ?stop
    case assign =>
      rintro l2 pre x X K ⟨hpre, hK⟩ hsz hKK
      obtain ⟨Y, hY0⟩ : ∃ Y, X.alloc (.cells #[.int .i64 x.1, .int .i64 x.2.1, .int .i64 x.2.2] 31) = Y := ⟨_, rfl⟩
      have BY : Below X.heap.size X Y := by rw [← hY0]; exact (Below.refl _ _).alloc (Nat.le_refl _) _
      have TY : Blk X.heap.size [.int .i64 x.1, .int .i64 x.2.1, .int .i64 x.2.2] Y := by rw [← hY0]; exact Blk.new _ _ _
      have HF : Hid (K { tmps := #[.slice a xs.length cap, .int .i64 n, .int .i64 ver, undef, undef, .pointer (some ⟨w.heap.size, 0, none⟩), .pointer (some ⟨w.heap.size + 1, 0, none⟩), .pointer (some ⟨w.heap.size + 2, 0, none⟩), .pointer (some ⟨X.heap.size, 0, none⟩), .slice a xs.length cap, .bool true, .slice a xs.length cap, .int .i64 n, .func (.func 63) #[] #[.pointer (some ⟨W1.heap.size, 0, none⟩), .pointer (some ⟨W1.heap.size + 1, 0, none⟩)], vS x, undef, undef, undef, undef, undef, undef], defers := [] } Y) := hKK _ Y (KS.of BY) ⟨hpre, hK.trans (KS.of BY)⟩ ⟨X.heap.size, hsz, rfl, TY⟩
      clear hKK TY BY hpre
      dsimp only [vS] at HF ⊢
      gi_wp2
      try rw [hY0]
      exact HF.out
    case body =>
      rintro l2 pre x a' X ⟨hpre, hK⟩ hsz ⟨v, hv, rfl, TX⟩ hlen
      replace T0 := T0.ks hK (fun c => c)
      replace T1 := T1.ks hK (fun c => c)
      replace TQ3 := TQ3.ks hK (fun c => c)
      replace BU := BU.trans (hK.below (m := w.heap.size) (by omega) (fun _ _ c => c))
      have g0 := TX.at 0 rfl
      have g1 := TX.at 1 rfl
      have g2 := TX.at 2 rfl
      have q0 := TQ3.at 0 rfl
      have d0 := T0.at 0 rfl
      have f0 := T0.fz 0 rfl
      have d3 := T1.at 0 rfl
      have f3 := T1.fz 0 rfl
      by_cases hx : x.2.1 = ver
      · have hxx : (x.2.1 == ver) = true := by rw [hx]; exact beq_self_eq_true _
        have KX := ks2 (w.heap.size + 1) X (.int .i64 x.2.2) (.bool true)
        have HM : Hid (x ∈ pre ++ [x] ∧ x.2.1 = ver) := ⟨by simp, hx⟩
        have TA := ((T0.set 0 (.int .i64 x.2.2)).far (g' := w.heap.size + 2) (by omega) 0 (.bool true))
        have TB := ((T1.far (g' := w.heap.size + 1) (by omega) 0 (.int .i64 x.2.2)).set 0 (.bool true))
        have BD := ((BU.setCell (p := ⟨w.heap.size + 1, 0, none⟩) (Nat.le_succ _) (.int .i64 x.2.2)).setCell (p := ⟨w.heap.size + 2, 0, none⟩) (Nat.le_add_right _ _) (.bool true))
        clear T0 T1 TQ3 hpre hx
        dsimp only [vS]
        gi_wp2
        exact ⟨KX, rfl, x, HM.out.1, HM.out.2, TA, TB, BD⟩
      · have hxx : (x.2.1 == ver) = false := beq_eq_false_iff_ne.2 hx
        have HP : Hid (∀ p ∈ pre ++ [x], p.2.1 ≠ ver) := fun p hp => by
          rcases List.mem_append.1 hp with h | h
          · exact hpre p h
          · rw [List.mem_singleton] at h; subst h; exact hx
        clear T0 T1 TQ3 hpre hx
        dsimp only [vS]
        gi_wp2
        exact ⟨KS.refl _ _, HP.out, hK⟩
    case done =>
      rintro D ys X hD rfl ⟨hno, hK⟩ hd
      have HZ : Hid (ans = (0, false)) := by show _ = _; rw [HA.out]; exact HFN.out hno
      replace T0 := T0.ks hK (fun c => c)
      replace T1 := T1.ks hK (fun c => c)
      replace BU := BU.trans (hK.below (m := w.heap.size) (by omega) (fun _ _ c => c))
      have d0 := T0.at 0 rfl
      have f0 := T0.fz 0 rfl
      have d3 := T1.at 0 rfl
      have f3 := T1.fz 0 rfl
      have TA := ((T0.set 0 (.int .i64 0)).far (g' := w.heap.size + 2) (by omega) 0 (.bool false))
      have TB := ((T1.far (g' := w.heap.size + 1) (by omega) 0 (.int .i64 0)).set 0 (.bool false))
      have BD := ((BU.setCell (p := ⟨w.heap.size + 1, 0, none⟩) (Nat.le_succ _) (.int .i64 0)).setCell (p := ⟨w.heap.size + 2, 0, none⟩) (Nat.le_add_right _ _) (.bool false))
      have hd2 := (ks2 (w.heap.size + 1) X (.int .i64 0) (.bool false)).obj hd (by omega)
      clear T0 T1 hno HFA HFN HA TQ3
      gi_wp2
      refine ⟨by simp, .inl ⟨_, _, rfl, run_takeDeferred hd2, ?_⟩⟩
      have TA2 := TA.keptO (grownBy_putObj' _ D (.deferred none)) (fun r e => by cases e; exact ⟨_, hd2, rfl⟩)
      have TB2 := TB.keptO (grownBy_putObj' _ D (.deferred none)) (fun r e => by cases e; exact ⟨_, hd2, rfl⟩)
      exact ⟨_, res_find rfl _ _ (w.heap.size + 1) (w.heap.size + 2) _ _ rfl rfl (TA2.at 0 rfl) (TB2.at 0 rfl), by first | (rw [HZ.out]; rfl) | rw [HZ.out], BD.grown (grownBy_putObj' _ D _) BD.size (fun k e => by cases e; omega)⟩
    case stop =>
      rintro D c pre X hD hv ⟨rfl, x, hx, hx2, TA, TB, BD⟩ hd
      have HZ : Hid (ans = (x.2.2, true)) := by
        show _ = _
        rw [HA.out]
        exact HFA.out HR.out x (hv.subset hx) hx2
      clear hv HFA HFN HA T0 T1 TQ3 BU hx hx2
      gi_wp2
      refine ⟨by simp, .inl ⟨_, _, rfl, run_takeDeferred hd, ?_⟩⟩
      have TA2 := TA.keptO (grownBy_putObj' _ D (.deferred none)) (fun r e => by cases e; exact ⟨_, hd, rfl⟩)
      have TB2 := TB.keptO (grownBy_putObj' _ D (.deferred none)) (fun r e => by cases e; exact ⟨_, hd, rfl⟩)
      exact ⟨_, res_find rfl _ _ (w.heap.size + 1) (w.heap.size + 2) _ _ rfl rfl (TA2.at 0 rfl) (TB2.at 0 rfl), by first | (rw [HZ.out]; rfl) | rw [HZ.out], BD.grown (grownBy_putObj' _ D _) BD.size (fun k e => by cases e; omega)⟩
end Go.Proofs.Ytkfjpgkpmdbnoaa
