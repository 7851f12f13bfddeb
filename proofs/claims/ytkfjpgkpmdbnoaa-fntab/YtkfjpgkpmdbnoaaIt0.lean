/- The iterators: a row from its end on, the versions of one. -/
import Derived.Test.YtkfjpgkpmdbnoaaRf0
import Derived.Test.YtkfjpgkpmdbnoaaPa0
set_option linter.unusedVariables false
set_option maxRecDepth 100000
namespace Go.Proofs.Ytkfjpgkpmdbnoaa
open Go Go.RowKit Go.Joins Go.Shelf Own
attribute [local go_sem] Oper.semAt_some

theorem back_is (a : Option Addr) (len cap : Nat) (w : World) : Calls Try.prog 64 #[.slice a len cap] w fun e w' => e = .returned (.func (.func 77) #[] #[.pointer (some ⟨w.heap.size, 0, none⟩)]) ∧ w' = w.alloc (.cells #[.slice a len cap] 24) := by
  go_enter Try.func64, Try.ntmps64
  go_wp2
  go_ret
  exact ⟨rfl, rfl⟩
theorem vers_is (a : Option Addr) (len cap : Nat) (who : Int) (w : World) : Calls Try.prog 45 #[.slice a len cap, .int .i64 who] w fun e w' => e = .returned (.func (.func 63) #[] #[.pointer (some ⟨w.heap.size, 0, none⟩), .pointer (some ⟨w.heap.size + 1, 0, none⟩)]) ∧ w' = (w.alloc (.cells #[.slice a len cap] 24)).alloc (.cells #[.int .i64 who] 3) := by
  go_enter Try.func45, Try.ntmps45
  go_wp2
  go_ret
  exact ⟨by simp, rfl⟩
theorem rev_take {xs : List TS} {k : Nat} (h : k < xs.length) : (xs.drop k).reverse = (xs.drop (k + 1)).reverse ++ [xs[k]] := by
  rw [List.drop_eq_getElem_cons h, List.reverse_cons]
set_option maxHeartbeats 3200000 in
theorem back_seq (n : Nat) (hn : 1 ≤ n) (Bs : Nat) (a : Option Addr) (cap : Nat) (xs : List TS) (hl : xs.length ≤ 1048576) (s : Nat → Prop) (w0 : World) (hr : FRow 3 cS w0 a xs) (hc : w0.cell? ⟨Bs, 0, none⟩ = some (.slice a xs.length cap)) (nB : ¬ s Bs) (nR : ∀ p : Addr, a = some p → 0 < xs.length → ¬ s p.block) :
    SeqO n Try.prog 77 #[.pointer (some ⟨Bs, 0, none⟩)] (fun x : Int × TS => #[.int .i64 x.1, vS x.2]) s (fun ys => ys.map (·.2) = xs.reverse) (fun ys => ∃ r, ys.map (·.2) = (xs.drop r).reverse) xs.length w0 := by
  intro l J Jx W hW hsW oJ oX hY h0
  refine callsIn_of_wp Try.func77 rfl trivial ?_ rfl
  simp only [Try.ntmps77, List.size_toArray, List.length_cons, List.length_nil, Nat.reduceAdd, Nat.reduceSub, Array.replicate_succ, Array.replicate_zero, List.push_toArray, List.append_toArray, List.nil_append, List.cons_append]
  have hBl := World.block_lt_of_cell? _ _ hc
  have hws := hW.size
  have c1 : ∀ X : World, KS s W X → X.cell? ⟨Bs, 0, none⟩ = some (.slice a xs.length cap) := fun X k => (k.cell (p := ⟨Bs, 0, none⟩) (Nat.lt_of_lt_of_le hBl hws) nB).trans ((hW.cell (p := ⟨Bs, 0, none⟩) hBl).trans hc)
  have e1 := c1 W (KS.refl s W)
  gi_wp2
  gi_loopw [3] (fun q wr => ∃ (r : Nat) (pre : List (Int × TS)), r ≤ xs.length ∧ q = .int .i64 ((r : Int) - 1) ∧ Hid (pre.map (·.2) = (xs.drop r).reverse) ∧ J pre wr ∧ KS s W wr) (fun q _ => (intOf q + 1).toNat)
  case atStart => exact ⟨xs.length, [], Nat.le_refl _, rfl, by show _ = _; simp, h0, KS.refl s W⟩
  case round =>
    clear e1
    obtain ⟨r, pre, hr2, rfl, hp, hJ, hk⟩ := hrel
    have e1 := c1 wr hk
    by_cases hz : r = 0
    · subst hz
      have hq : ¬ ((((0 : Nat) : Int) - 1) ≥ 0) := by decide
      have HP : Hid (pre.map (·.2) = xs.reverse) := by show _ = _; rw [hp.out, List.drop_zero]
      gi_wp2
      go_end0
      exact ⟨⟨_, rfl⟩, .inl ⟨pre, HP.out, hJ⟩⟩
    · obtain ⟨k, rfl⟩ : ∃ k, r = k + 1 := ⟨r - 1, by omega⟩
      have hkl : k < xs.length := by omega
      obtain ⟨b1, o1, rfl, l1, hc1⟩ := hr k hkl
      have nb := nR _ rfl (by omega)
      have q0 : wr.cell? ⟨b1, o1 + k * 3, none⟩ = some (.int .i64 xs[k].1) := (hk.cell (p := ⟨b1, o1 + k * 3, none⟩) (Nat.lt_of_lt_of_le l1 hws) nb).trans ((hW.cell (p := ⟨b1, o1 + k * 3, none⟩) l1).trans (hc1 0 _ rfl))
      have q1 : wr.cell? ⟨b1, o1 + k * 3 + 1, none⟩ = some (.int .i64 xs[k].2.1) := (hk.cell (p := ⟨b1, o1 + k * 3 + 1, none⟩) (Nat.lt_of_lt_of_le l1 hws) nb).trans ((hW.cell (p := ⟨b1, o1 + k * 3 + 1, none⟩) l1).trans (hc1 1 _ rfl))
      have q2 : wr.cell? ⟨b1, o1 + k * 3 + 2, none⟩ = some (.int .i64 xs[k].2.2) := (hk.cell (p := ⟨b1, o1 + k * 3 + 2, none⟩) (Nat.lt_of_lt_of_le l1 hws) nb).trans ((hW.cell (p := ⟨b1, o1 + k * 3 + 2, none⟩) l1).trans (hc1 2 _ rfl))
      have hlen : pre.length < xs.length := by
        have h1 := congrArg List.length hp.out
        rw [List.length_map, List.length_reverse, List.length_drop] at h1
        omega
      have HP : Hid ((pre ++ [((k : Int), xs[k])]).map (·.2) = (xs.drop k).reverse) := by show _ = _; rw [rev_take hkl, List.map_append, hp.out]; rfl
      have qk : (((k + 1 : Nat) : Int) - 1) = (k : Int) := by omega
      have hk0 : ((k : Int) ≥ 0) := by omega
      have hk1 : (k : Int) < (xs.length : Int) := by omega
      obtain ⟨fn, tmps, assign, body, hyv, hR⟩ := hY pre ((k : Int), xs[k]) wr hJ hk.size hlen
      rw [qk]
      replace qk : Hid ((((k + 1 : Nat) : Int) - 1) = (k : Int)) := qk
      dsimp only [vS] at hyv
      clear hp hc1 hlen
      generalize hx0 : xs[k].1 = x0 at q0 hyv
      generalize hx1 : xs[k].2.1 = x1 at q1 hyv
      generalize hx2 : xs[k].2.2 = x2 at q2 hyv
      clear hx0 hx1 hx2
      gi_wp2
      refine hR.mono ?_
      clear hR hyv
      rintro e W3 (⟨rfl, hJ3, hk3⟩ | ⟨rfl, hJx3, hk3⟩)
      · have KN := hk.trans hk3
        clear q0 q1 q2 e1
        gi_wp2
        go_roundw
        case rel => exact ⟨k, _, by omega, rfl, HP, hJ3, KN⟩
        case measure => have := qk.out; first | (simp [intOf]; done) | (simp [intOf]; omega)
      · clear q0 q1 q2 e1
        gi_wp2
        refine bodyPost_ret (results_none rfl _ _ _) rfl ?_
        exact ⟨⟨_, rfl⟩, .inr ⟨_, ⟨k, HP.out⟩, hJx3⟩⟩
/-- What was handed on of what came. -/
def fiW (who : Int) (pre : List (Int × TS)) : List TS := (pre.map (·.2)).filter (fun p => p.1 == who)
set_option maxHeartbeats 3200000 in
theorem vers_seq (n : Nat) (hn : 4 ≤ n) (Bt Bw : Nat) (a : Option Addr) (cap : Nat) (xs : List TS) (who : Int) (hl : xs.length ≤ 1048576) (s : Nat → Prop) (w0 : World) (hr : FRow 3 cS w0 a xs) (hc : w0.cell? ⟨Bt, 0, none⟩ = some (.slice a xs.length cap)) (hw : w0.cell? ⟨Bw, 0, none⟩ = some (.int .i64 who)) (nB : ¬ s Bt) (nW : ¬ s Bw) (nR : ∀ p : Addr, a = some p → 0 < xs.length → ¬ s p.block) :
    SeqO n Try.prog 63 #[.pointer (some ⟨Bt, 0, none⟩), .pointer (some ⟨Bw, 0, none⟩)] (fun x : TS => #[vS x]) s (fun ys => ys = vsL xs who) (fun ys => ys <+: vsL xs who) xs.length w0 := by
  intro l J Jx W hW hsW oJ oX hY h0
  refine callsIn_of_wp_marks Try.func63 rfl trivial ?_ rfl
  simp only [Try.ntmps63, List.size_toArray, List.length_cons, List.length_nil, Nat.reduceAdd, Nat.reduceSub, Array.replicate_succ, Array.replicate_zero, List.push_toArray, List.append_toArray, List.nil_append, List.cons_append]
  have hBl : Bt < w0.heap.size := World.block_lt_of_cell? _ _ hc
  have hWl : Bw < w0.heap.size := World.block_lt_of_cell? _ _ hw
  have hws := hW.size
  have hn0 : ∀ k, W.heap.size ≤ k → ¬ s k := fun k hk c => by have := hsW k c; omega
  obtain ⟨V, hV⟩ : ∃ V, W.alloc (.cells #[.func (.yield l) #[] #[]] 78) = V := ⟨_, rfl⟩
  have BV : Below W.heap.size W V := by rw [← hV]; exact (Below.refl _ _).alloc (Nat.le_refl _) _
  have TV : Blk W.heap.size [.func (.yield l) #[] #[]] V := by rw [← hV]; exact Blk.new _ _ _
  have zV : V.heap.size = W.heap.size + 1 := by rw [← hV]; simp
  have cT : V.cell? ⟨Bt, 0, none⟩ = some (.slice a xs.length cap) := (BV.cell (p := ⟨Bt, 0, none⟩) (Nat.lt_of_lt_of_le hBl hws)).trans ((hW.cell (p := ⟨Bt, 0, none⟩) hBl).trans hc)
  have cW : V.cell? ⟨Bw, 0, none⟩ = some (.int .i64 who) := (BV.cell (p := ⟨Bw, 0, none⟩) (Nat.lt_of_lt_of_le hWl hws)).trans ((hW.cell (p := ⟨Bw, 0, none⟩) hWl).trans hw)
  have jV : J [] V := by rw [← hV]; exact oJ.alloc _ h0
  gi_wp2
  try rw [hV]
  refine ⟨trivial, fun c => (by cases c), (callsIn_wide.2 (back_is a xs.length cap V)).mono ?_⟩
  rintro en U ⟨rfl, eU⟩
  have BU : Below V.heap.size V U := by rw [eU]; exact (Below.refl _ _).alloc (Nat.le_refl _) _
  have zU : U.heap.size = W.heap.size + 2 := by rw [eU]; simp [zV]
  have TU := TV.later BU TV.lt
  have cU : U.cell? ⟨V.heap.size, 0, none⟩ = some (.slice a xs.length cap) := by rw [eU]; exact (Blk.new V #[.slice a xs.length cap] 24).at 0 rfl
  have cW2 : U.cell? ⟨Bw, 0, none⟩ = some (.int .i64 who) := (BU.cell (p := ⟨Bw, 0, none⟩) (by show Bw < V.heap.size; omega)).trans cW
  have jU : J [] U := by rw [eU]; exact oJ.alloc _ jV
  have BW : Below W.heap.size W U := BV.trans (BU.mono BV.size)
  clear eU cT cW jV BV BU TV hV
  rw [zV] at cU
  rw [zV]
  gi_wp2
  have hrU : FRow 3 cS U a xs := (hr.later (hW)).later BW
  have fil1 : ∀ (pre : List (Int × TS)) (x : Int × TS), x.2.1 = who → fiW who (pre ++ [x]) = fiW who pre ++ [x.2] := fun pre x h => by
    unfold fiW
    rw [List.map_append, List.filter_append]
    simp [h]
  have fil0 : ∀ (pre : List (Int × TS)) (x : Int × TS), ¬ x.2.1 = who → fiW who (pre ++ [x]) = fiW who pre := fun pre x h => by
    unfold fiW
    rw [List.map_append, List.filter_append]
    simp [h]
  have fill : ∀ pre : List (Int × TS), (fiW who pre).length ≤ pre.length := fun pre => by
    unfold fiW
    have := List.length_filter_le (fun p : TS => p.1 == who) (pre.map (·.2))
    rwa [List.length_map] at this
  refine rangeO (α := Int × TS) (gf := 77) (lb := #[.pointer (some ⟨W.heap.size + 1, 0, none⟩)]) rfl (enters_of Try.func77 (by kernel_rfl) rfl)
    (back_seq (n - 1) (by omega) (W.heap.size + 1) a cap xs hl (fun k => s k ∨ k = U.heap.size ∨ k = U.heap.size + 1) U hrU cU (fun c => by rcases c with c | c | c; exact hn0 _ (by omega) c; omega; omega) (fun p hp h0 c => by
      have hlp : ∀ k, k < U.heap.size → ¬ s k → ¬ (s k ∨ k = U.heap.size ∨ k = U.heap.size + 1) := fun k h1 h2 c => by rcases c with c | c | c; exact h2 c; omega; omega
      obtain ⟨b, o, e, hb, _⟩ := hrU 0 h0
      rw [hp] at e
      injection e with e
      subst e
      exact hlp _ hb (nR _ hp h0) c))
    (Below.refl _ _) (fun k hk => by have := hsW k hk; omega) (fun _ => rfl)
    (fun pre X => J (fiW who pre) X ∧ KS s U X)
    (fun c pre X => c = .ret ∧ Jx (fiW who pre) X)
    (OwnFrom.and (OwnFrom.map (OwnFrom.up (B' := U.heap.size) oJ (by omega)) (fiW who)) (ownFrom_ks (Nat.le_refl _)))
    (fun c pre X Y row h hg hq => ⟨h.1, OwnFrom.up (B' := U.heap.size) oX (by omega) _ X Y row h.2 hg hq⟩)
    ⟨jU, KS.refl _ _⟩
    (fun x a' X => ∃ v, U.heap.size ≤ v ∧ a' = { tmps := #[.func (.yield l) #[] #[], .pointer (some ⟨Bt, 0, none⟩), .pointer (some ⟨Bw, 0, none⟩), .pointer (some ⟨W.heap.size, 0, none⟩), undef, .pointer (some ⟨v, 0, none⟩), .slice a xs.length cap, .func (.func 77) #[] #[.pointer (some ⟨W.heap.size + 1, 0, none⟩)], .int .i64 x.1, vS x.2, undef, undef, undef, undef, undef, undef, undef, undef, undef, undef], defers := [] } ∧ Blk v [.int .i64 x.2.1, .int .i64 x.2.2.1, .int .i64 x.2.2.2] X)
    (fun x a' _ X Y row h hg hq => by
      obtain ⟨v, h1, h2, h3⟩ := h
      exact ⟨v, h1, h2, h3.keptO hg (fun r e => (hq r e).2)⟩)
    ?assign ?body ?done ?stop
  case assign =>
    rintro l2 pre x X K ⟨hJ, hK⟩ hsz hKK
    obtain ⟨Y, hY0⟩ : ∃ Y, X.alloc (.cells #[.int .i64 x.2.1, .int .i64 x.2.2.1, .int .i64 x.2.2.2] 31) = Y := ⟨_, rfl⟩
    have BY : Below X.heap.size X Y := by rw [← hY0]; exact (Below.refl _ _).alloc (Nat.le_refl _) _
    have TY : Blk X.heap.size [.int .i64 x.2.1, .int .i64 x.2.2.1, .int .i64 x.2.2.2] Y := by rw [← hY0]; exact Blk.new _ _ _
    have jY : J (fiW who pre) Y := by rw [← hY0]; exact oJ.alloc _ hJ
    have HF : Hid (K { tmps := #[.func (.yield l) #[] #[], .pointer (some ⟨Bt, 0, none⟩), .pointer (some ⟨Bw, 0, none⟩), .pointer (some ⟨W.heap.size, 0, none⟩), undef, .pointer (some ⟨X.heap.size, 0, none⟩), .slice a xs.length cap, .func (.func 77) #[] #[.pointer (some ⟨W.heap.size + 1, 0, none⟩)], .int .i64 x.1, vS x.2, undef, undef, undef, undef, undef, undef, undef, undef, undef, undef], defers := [] } Y) := hKK _ Y (KS.of BY) ⟨jY, hK.trans (KS.of BY)⟩ ⟨X.heap.size, hsz, rfl, TY⟩
    clear hKK hJ jY TY BY
    unfold vS at HF ⊢
    gi_wp2
    try rw [hY0]
    exact HF.out
  case body =>
    rintro l2 pre x a' X ⟨hJ, hK⟩ hsz ⟨v, hv, rfl, TX⟩ hlen
    have d0 := TX.at 0 rfl
    have d1 := TX.at 1 rfl
    have d2 := TX.at 2 rfl
    have cw : X.cell? ⟨Bw, 0, none⟩ = some (.int .i64 who) := (hK.cell (p := ⟨Bw, 0, none⟩) (by show Bw < U.heap.size; omega) nW).trans cW2
    have cy : X.cell? ⟨W.heap.size, 0, none⟩ = some (.func (.yield l) #[] #[]) := (TU.ks hK (hn0 _ (Nat.le_refl _))).at 0 rfl
    have hn1 : 1 ≤ n - 1 - 1 := by omega
    by_cases hx : x.2.1 = who
    · have HP := fil1 pre x hx
      have hl2 := fill pre
      obtain ⟨fn, tmps, assign, body, hyv, hR⟩ := hY _ x.2 X hJ (by omega) (by omega)
      rw [← HP] at hR
      clear HP fil1 fil0 fill
      have hxx : (x.2.1 == who) = true := by rw [hx]; exact beq_self_eq_true _
      replace hx : Hid (x.2.1 = who) := hx
      dsimp only [vS] at hyv
      generalize x.2.1 = x0 at d0 hxx hyv hx
      generalize x.2.2.1 = x1 at d1 hyv
      generalize x.2.2.2 = x2 at d2 hyv
      gi_wp2
      refine (round_any hR _).mono ?_
      clear hR hyv
      rintro e Y (⟨rfl, hJ3, hk3⟩ | ⟨rfl, hJx3, hk3⟩)
      · clear d0 d1 d2 cw cy
        gi_wp2
        exact ⟨hk3, hJ3, hK.trans hk3⟩
      · clear d0 d1 d2 cw cy
        gi_wp2
        exact ⟨hk3, rfl, hJx3⟩
    · have HP := fil0 pre x hx
      clear fil1 fil0 fill
      have hxx : (x.2.1 == who) = false := beq_eq_false_iff_ne.2 hx
      rw [← HP] at hJ
      clear HP hx
      generalize x.2.1 = x0 at d0 hxx
      gi_wp2
      refine ⟨fun f c => (by cases c), ?_⟩
      gi_wp2
      exact ⟨KS.refl _ _, hJ, hK⟩
  case done =>
    rintro D ys X hD hys ⟨hJ, hK⟩ hd
    have hJ2 : J (vsL xs who) X := by unfold vsL; rw [← hys]; exact hJ
    clear hJ hys
    gi_wp2
    refine ⟨by simp, .inl ⟨_, _, rfl, run_takeDeferred hd, ?_⟩⟩
    exact ⟨_, results_none rfl _ _ _, ⟨_, rfl⟩, .inl ⟨_, rfl, OwnFrom.putObj (OwnFrom.up (B' := U.heap.size) oJ (by omega)) _ hJ2 hD hd rfl⟩⟩
  case stop =>
    rintro D c pre X hD ⟨r, hp⟩ ⟨rfl, hJ⟩ hd
    have HPre : Hid (fiW who pre <+: vsL xs who) := by
      show _ <+: _
      unfold fiW vsL
      rw [hp]
      conv => rhs; rw [← List.take_append_drop r xs, List.reverse_append, List.filter_append]
      exact List.prefix_append _ _
    clear hp
    gi_wp2
    refine ⟨by simp, .inl ⟨_, _, rfl, run_takeDeferred hd, ?_⟩⟩
    exact ⟨_, results_none rfl _ _ _, ⟨_, rfl⟩, .inr ⟨_, HPre.out, OwnFrom.putObj (OwnFrom.up (B' := U.heap.size) oX (by omega)) _ hJ hD hd rfl⟩⟩
end Go.Proofs.Ytkfjpgkpmdbnoaa
