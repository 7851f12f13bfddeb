/- slices.Grow of no row, slices.Concat of two rows of rules, Joined of the program. -/
import Derived.Test.YtjbbhegijlnndaaRn2
import Derived.Test.YtjbbhegijlnndaaSm0
import Derived.Lib.AppendZerosOnto
import Derived.Test.YtjbbhegijlnndaaRk2
import Derived.Test.YtjbbhegijlnndaaRu4
set_option linter.unusedVariables false
set_option maxRecDepth 100000
namespace Go.Proofs.Ytjbbhegijlnndaa.Nd
open Go Go.RowKit Go.Joins Own Draw Go.Lib Go.Proofs.Ytjbbhegijlnndaa

theorem zc_size (cs : Array Value) (n : Nat) : (Builtin.zeroCells cs n).size = n * cs.size := by
  first
  | simp [Builtin.zeroCells]
  | (unfold Builtin.zeroCells; induction n with
     | zero => simp
     | succ n ih => simp_all [Nat.add_mul])
set_option maxHeartbeats 3200000 in
theorem grow_none (n : Nat) (hn : n ≤ 2097152) (w : World) :
    Calls Try.prog 79 #[.slice none 0 0, .int .i64 (n : Int)] w fun e w' => ∃ v, e = .returned v ∧ w'.ownsRow w.heap.size 59 3 v 0 [] ∧ Below w.heap.size w w' := by
  have hp : ¬ ((n : Int) < 0) := by omega
  by_cases h0 : n = 0
  · subst h0
    go_enter Try.func79, Try.ntmps79
    go_wp2
    go_ret
    exact ⟨_, rfl, World.ownsRow_nil _ _ _ _, Below.refl _ _⟩
  · have h4 : (n : Int) > 0 := by omega
    obtain ⟨i0, hi0, hz0, hs0, hb0⟩ := parts_of info59
    have hold : (Builtin.firstCells i0.size 0 (.slice none 0 0)).run Try.prog w.drew = .ok ([] : List Value).toArray w.drew := run_firstCells_none w.drew i0.size 0 0 0
    have hrz : ∀ ty, (Builtin.append_ #[24, 3] ty #[.slice none 0 0, .int .i64 (n : Int)]).run Try.prog w = .ok (.slice (some ⟨w.heap.size, 0, none⟩) (0 + n) (grownCap w (0 + n) 0 59))
        (w.drew.alloc (.cells (([] : List Value).toArray ++ Builtin.zeroCells (Value.agg #[.int .i64 0, .slice none 0 0, .int .i64 0]).cells n ++ Builtin.zeroCells (Value.agg #[.int .i64 0, .slice none 0 0, .int .i64 0]).cells (grownCap w (0 + n) 0 59 - (0 + n))) 59)) := fun ty =>
      run_append_grow_zeros w 24 3 ty 59 i0 _ .i64 .i64 Try.underlying24 Try.underlying3 hi0 hz0 none 0 0 [] hold n (by omega) (by omega) (by omega) (by omega) (by rw [hb0]; omega) (growslice_fits (by omega) (by rw [hb0]; omega))
    have hge := grownCap_ge w (0 + n) 0 59
    have hle := grownCap_le_maxLen w (0 + n) 0 59 (by unfold maxLen; omega)
    rw [Nat.zero_add] at hrz hge hle
    generalize grownCap w n 0 59 = G at hrz hge hle
    have hown : ∀ X : Array Value, X.size = G * 3 → (w.drew.alloc (.cells X 59)).ownsRow w.heap.size 59 3 (.slice (some ⟨w.heap.size, 0, none⟩) 0 G) 0 [] := fun X hX =>
      ⟨rfl, Or.inr ⟨w.heap.size, G, X, rfl, Nat.le_refl _, (by show (w.heap.push (Obj.cells X 59))[w.heap.size]? = _; exact Array.getElem?_push_size), Nat.zero_le _, hle, hX, by simp⟩⟩
    have hsz : (([] : List Value).toArray ++ Builtin.zeroCells (Value.agg #[.int .i64 0, .slice none 0 0, .int .i64 0]).cells n ++ Builtin.zeroCells (Value.agg #[.int .i64 0, .slice none 0 0, .int .i64 0]).cells (G - n)).size = G * 3 := by
      have hc : (Value.agg #[.int .i64 0, .slice none 0 0, .int .i64 0]).cells.size = 3 := rfl
      rw [Array.size_append, Array.size_append, zc_size, zc_size, hc]
      simp
      omega
    have ho := hown _ hsz
    generalize (([] : List Value).toArray ++ Builtin.zeroCells (Value.agg #[.int .i64 0, .slice none 0 0, .int .i64 0]).cells n ++ Builtin.zeroCells (Value.agg #[.int .i64 0, .slice none 0 0, .int .i64 0]).cells (G - n)) = X at hrz ho
    have hb : Below w.heap.size w (w.drew.alloc (.cells X 59)) := (Below.refl _ _).drew.alloc (by simp) _
    have hGm : G ≤ 9223372036854775807 := by unfold maxLen at hle; omega
    clear hown hsz hold hi0 hz0
    go_enter Try.func79, Try.ntmps79
    go_wp2_with (at_builtin; refine wpList_append_run _ rfl _ _ _ _ rfl _ _ rfl rfl _ _ (hrz _) ?_)
    go_ret
    exact ⟨_, rfl, ho, hb⟩
theorem news_fl {w : World} {a : Option Addr} {xs : List TT} (h : FRow 3 cT w a xs) : ∀ ad, a = some ad → ∀ j u, (fl cT xs)[j]? = some u → w.cell? (ad.add j) = some u := by
  intro ad ha j u hu
  have hj : j < xs.length * 3 := by rw [← fl_len lT]; exact (List.getElem?_eq_some_iff.1 hu).1
  have hk : j / 3 < xs.length := by omega
  obtain ⟨b, off, e, _, hc⟩ := h (j / 3) hk
  rw [ha] at e
  cases e
  have h2 := fl_get (f := cT) lT xs (j / 3) hk (j % 3) (by omega)
  rw [show j / 3 * 3 + j % 3 = j by omega, hu] at h2
  have h3 := hc (j % 3) u h2.symm
  have e2 : (⟨b, off, none⟩ : Addr).add j = ⟨b, off + j, none⟩ := by simp only [Addr.add]; split <;> simp_all
  rw [e2]
  rw [show off + j / 3 * 3 + j % 3 = off + j by omega] at h3
  exact h3
theorem fl_none {w : World} {a : Option Addr} {xs : List TT} (h : FRow 3 cT w a xs) (ha : a = none) : xs.length = 0 := by
  cases xs with
  | nil => rfl
  | cons x xs =>
    obtain ⟨b, off, e, _⟩ := h 0 (by simp)
    rw [ha] at e; cases e
theorem one_fl (xs : List TT) : ∀ u ∈ fl cT xs, u.oneCell' = true := by
  intro u hu
  obtain ⟨x, _, hx⟩ := List.mem_flatMap.1 hu
  simp only [cT, List.mem_cons, List.not_mem_nil, or_false] at hx
  rcases hx with rfl | rfl | rfl <;> rfl
set_option maxHeartbeats 6400000 in
theorem concat_is (g : Nat) (p q : Rw TT) (w : World) (hp : FRow 3 cT w p.1 p.2.2) (hq : FRow 3 cT w q.1 q.2.2) (lp : p.2.2.length ≤ 1048576) (lq : q.2.2.length ≤ 1048576) (hb : Blk g [.slice p.1 p.2.2.length p.2.1, .slice q.1 q.2.2.length q.2.1] w) :
    Calls Try.prog 44 #[.slice (some ⟨g, 0, none⟩) 2 2] w fun e w' => ∃ (a : Option Addr) (c : Nat), e = .returned (.slice a (p.2.2 ++ q.2.2).length c) ∧ FOwn 59 3 cT w.heap.size a c (p.2.2 ++ q.2.2) w' ∧ Below w.heap.size w w' := by
  obtain ⟨pa, pc, ps⟩ := p
  obtain ⟨qa, qc, qs⟩ := q
  dsimp only at hp hq lp lq hb ⊢
  obtain ⟨i0, hi0, hz0, hs0, hb0⟩ := parts_of info59
  have K0 := grow_none (ps.length + qs.length) (by omega) w
  have b0 := hb.at 0 rfl
  have b1 := hb.at 1 rfl
  have c0 := b0
  have c1 := b1
  have hp0 := hp
  have hq0 := hq
  have hgl := hb.lt
  rw [Int.natCast_add] at K0
  go_enter Try.func44, Try.ntmps44
  go_wp2
  go_loopw [3, 11] (fun sz iv wr => wr = w ∧ ((iv = .int .i64 0 ∧ sz = .int .i64 0) ∨ (iv = .int .i64 1 ∧ sz = .int .i64 (ps.length : Int)) ∨ (iv = .int .i64 2 ∧ sz = .int .i64 ((ps.length : Int) + (qs.length : Int))))) (fun _ iv _ => 3 - (intOf iv).toNat)
  case atStart => exact ⟨rfl, Or.inl ⟨rfl, rfl⟩⟩
  case round =>
    obtain ⟨rfl, hrel⟩ := hrel
    rcases hrel with ⟨rfl, rfl⟩ | ⟨rfl, rfl⟩ | ⟨rfl, rfl⟩
    · clear K0
      have hpos : ¬ ((ps.length : Int) < 0) := by omega
      go_wp2
      go_roundw
      case rel => exact ⟨trivial, Or.inr (Or.inl ⟨rfl, rfl⟩)⟩
      case measure => simp [intOf]
    · clear K0
      have hpos : ¬ ((ps.length : Int) + (qs.length : Int) < 0) := by omega
      go_wp2
      go_roundw
      case rel => exact ⟨trivial, Or.inr (Or.inr ⟨rfl, rfl⟩)⟩
      case measure => simp [intOf]
    · obtain ⟨wo, hwo⟩ : ∃ wo, wo = wr := ⟨_, rfl⟩
      subst hwo
      go_wp2_with fail
      refine K0.mono ?_
      clear K0
      rintro en w1 ⟨v, rfl, ho, hB⟩
      obtain ⟨ga, gc, rfl, _⟩ := own_shape ho
      replace b0 := (hB.cell (p := ⟨g, 0, none⟩) hgl).trans b0
      replace b1 := (hB.cell (p := ⟨g, 1, none⟩) hgl).trans b1
      replace hp := hp.later hB
      replace hq := hq.later hB
      go_wp2
      go_loopw [6, 27] (fun sv iv ww => Below wo.heap.size wo ww ∧ ∃ (a : Option Addr) (c : Nat), (iv = .int .i64 0 ∧ sv = .slice a 0 c ∧ ww.ownsRow wo.heap.size 59 3 sv 0 []) ∨ (iv = .int .i64 1 ∧ sv = .slice a ps.length c ∧ ww.ownsRow wo.heap.size 59 3 sv ps.length (fl cT ps)) ∨ (iv = .int .i64 2 ∧ sv = .slice a (ps.length + qs.length) c ∧ ww.ownsRow wo.heap.size 59 3 sv (ps.length + qs.length) (fl cT ps ++ fl cT qs))) (fun _ iv _ => 3 - (intOf iv).toNat)
      case atStart => exact ⟨hB, ga, gc, Or.inl ⟨rfl, rfl, ho⟩⟩
      case round =>
        obtain ⟨hBB, a, c, hcase⟩ := hrel
        have d0 := (hBB.cell (p := ⟨g, 0, none⟩) hgl).trans c0
        have d1 := (hBB.cell (p := ⟨g, 1, none⟩) hgl).trans c1
        rcases hcase with ⟨rfl, rfl, ho2⟩ | ⟨rfl, rfl, ho2⟩ | ⟨rfl, rfl, ho2⟩
        · have hx := hp0.later hBB
          clear d1 hp0 hq0 hp hq b0 b1 c0 c1
          go_wp2_with (first | (at_builtin; refine wpList_append_row _ rfl _ _ 24 rfl wo.heap.size 59 i0 _ 3 40 Try.underlying24 hi0 hz0 hs0 hb0 rfl (by decide) _ _ _ rfl ho2 pa ps.length pc (fl cT ps) rfl (fl_len lT _) (news_fl hx) (one_fl _) (by unfold maxLen; omega) (by omega) hBB.size (fl_none hx) ?_) | fail)
          intro v3 w3 ho3 hg3
          obtain ⟨na, nc, rfl, _⟩ := own_shape ho3
          have hB3 : Below wo.heap.size wo w3 := hBB.grown hg3 hBB.size (fun k e => (World.ownsRow.lt ho2 k e).1)
          go_wp2
          go_roundw
          case rel => exact ⟨hB3, na, nc, Or.inr (Or.inl ⟨rfl, rfl, ho3⟩)⟩
          case measure => simp [intOf]
        · have hx := hq0.later hBB
          clear d0 hp0 hq0 hp hq b0 b1 c0 c1
          go_wp2_with (first | (at_builtin; refine wpList_append_row _ rfl _ _ 24 rfl wo.heap.size 59 i0 _ 3 40 Try.underlying24 hi0 hz0 hs0 hb0 rfl (by decide) _ _ _ rfl ho2 qa qs.length qc (fl cT qs) rfl (fl_len lT _) (news_fl hx) (one_fl _) (by unfold maxLen; omega) (by omega) hBB.size (fl_none hx) ?_) | fail)
          intro v3 w3 ho3 hg3
          obtain ⟨na, nc, rfl, _⟩ := own_shape ho3
          have hB3 : Below wo.heap.size wo w3 := hBB.grown hg3 hBB.size (fun k e => (World.ownsRow.lt ho2 k e).1)
          go_wp2
          go_roundw
          case rel => exact ⟨hB3, na, nc, Or.inr (Or.inr ⟨rfl, rfl, ho3⟩)⟩
          case measure => simp [intOf]
        · clear d0 d1 hp0 hq0 hp hq b0 b1 c0 c1
          go_wp2
          go_ret
          refine ⟨a, c, by rw [List.length_append]; rfl, ?_, hBB⟩
          unfold FOwn
          rw [List.length_append, ← fl_app]
          exact ho2
/-- What both rows ask together, in its short form. -/
def joP (a b : List PT) : List PT := if okL a = true ∧ okL b = true ∧ a.length + b.length ≤ 20 then nrmP (a ++ b) else []
theorem joP_nrm (a b : List PT) : nrmP (a ++ b) = joP a b := by
  unfold joP
  by_cases h : okL a = true ∧ okL b = true ∧ a.length + b.length ≤ 20
  · rw [if_pos h]
  · rw [if_neg h]
    unfold nrmP
    rw [if_neg]
    intro c
    apply h
    unfold okL at c ⊢
    simp only [Bool.and_eq_true, decide_eq_true_eq, List.length_append, List.all_append] at c ⊢
    exact ⟨⟨by omega, c.2.1⟩, ⟨by omega, c.2.2⟩, c.1⟩
theorem rp_app {w w' : World} {p q : Rw TT} {a : Option Addr} {B c : Nat} (hp : RpT w p) (hq : RpT w q) (hb : Below w.heap.size w w') (h : FOwn 59 3 cT B a c (p.2.2 ++ q.2.2) w') : RpT w' (a, c, p.2.2 ++ q.2.2) :=
  ⟨FOwn.row lT h, fun x hx => (List.mem_append.1 hx).elim (fun hx => (hp.2 x hx).later hb) (fun hx => (hq.2 x hx).later hb)⟩
theorem rs_app (p q : Rw TT) (a : Option Addr) (c : Nat) : rsT (a, c, p.2.2 ++ q.2.2) = rsT p ++ rsT q := by unfold rsT; exact List.map_append
set_option maxHeartbeats 3200000 in
theorem implJoined_is (p q : Rw TT) (w : World) (hp : RpT w p) (hq : RpT w q) (l : rtT p + rtT q ≤ 1048576) :
    Calls Try.prog 15 #[.slice p.1 p.2.2.length p.2.1, .slice q.1 q.2.2.length q.2.1] w fun e w' => NrmP (joP (rsT p) (rsT q)) w.heap.size e w' ∧ Below w.heap.size w w' := by
  obtain ⟨V, hV⟩ : ∃ V, w.alloc (.cells #[.slice p.1 p.2.2.length p.2.1, .slice q.1 q.2.2.length q.2.1] 24) = V := ⟨_, rfl⟩
  have BC : Below w.heap.size w V := by rw [← hV]; exact (Below.refl _ _).alloc (Nat.le_refl _) _
  have TV : Blk w.heap.size [.slice p.1 p.2.2.length p.2.1, .slice q.1 q.2.2.length q.2.1] V := by rw [← hV]; exact Blk.new _ _ _
  have p1 := rt_parts (show rtT p ≤ 1048576 by omega)
  have p2 := rt_parts (show rtT q ≤ 1048576 by omega)
  have hll : p.2.2.length + q.2.2.length ≤ 1048576 := by have h1 := rt_parts (Nat.le_refl (rtT p)); have h2 := rt_parts (Nat.le_refl (rtT q)); omega
  have K0 := concat_is w.heap.size p q V (hp.later BC).1 (hq.later BC).1 p1.1 p2.1 TV
  go_enter Try.func15, Try.ntmps15
  go_wp2_with fail
  try rw [hV]
  refine K0.mono ?_
  clear K0 TV hV
  rintro en W ⟨a, c, rfl, ho, hb⟩
  have hR := rp_app (hp.later BC) (hq.later BC) hb ho
  have K1 := implNormal_is (a, c, p.2.2 ++ q.2.2) W hR (fun x hx => (List.mem_append.1 hx).elim (p1.2 x) (p2.2 x)) (by rw [List.length_append]; omega)
  rw [rs_app, joP_nrm] at K1
  try dsimp only at K1
  generalize p.2.2 ++ q.2.2 = L at K1 ⊢
  replace BC := BC.trans (hb.mono BC.size)
  have hsw : Hid (w.heap.size ≤ W.heap.size) := BC.size
  clear ho hb hR p1 p2 hll hp hq l
  go_wp2_with fail
  refine K1.mono ?_
  clear K1
  rintro en W2 ⟨⟨g, rfl, e0, r0, ap⟩, hb⟩
  replace BC := BC.trans (hb.mono BC.size)
  clear hb
  go_wp2
  go_ret
  exact ⟨⟨g, rfl, e0, r0.le hsw.out, ap⟩, BC⟩
end Go.Proofs.Ytjbbhegijlnndaa.Nd

set_option linter.unusedVariables false
set_option maxRecDepth 100000
namespace Go.Proofs.Ytjbbhegijlnndaa.Nd
open Go Go.RowKit Go.Joins Own Draw Go.Proofs.Ytjbbhegijlnndaa

theorem RoT.lit {B : Nat} {w : World} (h : B ≤ w.heap.size) : RoT B (w.alloc (.cells #[] 59)) (some ⟨w.heap.size, 0, none⟩, 0, []) :=
  ⟨(World.ownsRow_lit _ #[] 0 h (by unfold maxLen; omega) rfl : World.ownsRow (w.alloc (.cells #[] 59)) B 59 3 (.slice (some ⟨w.heap.size, 0, none⟩) 0 0) 0 []), fun x hx => by cases hx⟩
set_option maxHeartbeats 3200000 in
theorem specNormal_is (r : Rw TT) (w : World) (hr : RpT w r) (hl : ∀ x ∈ r.2.2, x.2.1.2.2.length ≤ 1048576) (hx : r.2.2.length ≤ 1048576) :
    Calls Try.prog 37 #[.slice r.1 r.2.2.length r.2.1] w fun e w' => NrmP (nrmP (rsT r)) w.heap.size e w' ∧ Below w.heap.size w w' := by
  have HN : Hid (nrmP (rsT r) = if okL (rsT r) = true then nrmK (rsT r) 5 else []) := (rfl : nrmP (rsT r) = _)
  generalize nrmP (rsT r) = nv at HN ⊢
  obtain ⟨Vs, hVs⟩ : ∃ V, w.alloc (.cells #[] 59) = V := ⟨_, rfl⟩
  have BC : Below w.heap.size w Vs := by rw [← hVs]; exact (Below.refl _ _).alloc (Nat.le_refl _) _
  have ro : RoT w.heap.size Vs (some ⟨w.heap.size, 0, none⟩, 0, []) := by rw [← hVs]; exact RoT.lit (Nat.le_refl _)
  obtain ⟨ie0, hie0, hz00, _⟩ := parts_of info59
  have hbz : ∀ (W : World), (Instr.buildSlice 24 0 #[]).run Try.prog W = .ok (.slice (some ⟨W.heap.size, 0, none⟩) 0 0) (W.alloc (.cells #[] 59)) := fun W => by
    simp [Instr.buildSlice, run_underlying Try.underlying24, sizeOf, typeInfo, hie0, newRow, Instr.fill]
    exact congrArg (fun x => W.alloc (.cells x 59)) (Array.eq_empty_of_size_eq_zero (by simp))
  by_cases hok : okL (rsT r) = true
  · have HOK : Hid (okL (rsT r) = true) := hok
    have HN2 : Hid (nv = nrmK (rsT r) 5) := by show _ = _; rw [HN.out, if_pos hok]
    clear HN
    go_enter Try.func37, Try.ntmps37
    go_wp2
    try rw [hVs]
    go_loopw [3, 4] (fun sv kv wr => ∃ (i : Nat) (q : Rw TT), i ≤ 5 ∧ kv = .int .i64 ((i : Int) + 1) ∧ sv = .slice q.1 q.2.2.length q.2.1 ∧ Hid (rsT q = nrmK (rsT r) i) ∧ RoT w.heap.size wr q ∧ Hid (ApT q) ∧ q.2.2.length ≤ i ∧ Below w.heap.size w wr) (fun _ kv _ => 6 - (intOf kv).toNat)
    case atStart => exact ⟨0, (some ⟨w.heap.size, 0, none⟩, 0, []), by omega, rfl, rfl, rfl, ro, ApT.nil _ _, Nat.le_refl _, BC⟩
    case round =>
      clear BC ro hVs
      obtain ⟨i, q, hi, rfl, rfl, HQ, ro, HA, hql, BC⟩ := hrel
      by_cases hlt : i < 5
      · have hlt2 : (i : Int) + 1 ≤ 5 := by omega
        have K0 := specRulesOk_is r wr (hr.later BC) hl hx
        rw [HOK.out] at K0
        go_wp2_with fail
        refine K0.mono ?_
        clear K0
        rintro en W0 ⟨rfl, hb0⟩
        replace ro := ro.later hb0
        replace BC := BC.trans (hb0.mono BC.size)
        clear hb0
        have K := kind_is r ((i : Int) + 1) W0 (hr.later BC) HOK.out
        have HS : Hid (nrmK (rsT r) (i + 1) = nrmK (rsT r) i ++ if (ofK ((i : Int) + 1) (rsT r)).2 = true then [(ofK ((i : Int) + 1) (rsT r)).1] else []) := (rfl : nrmK (rsT r) (i + 1) = _)
        generalize ofK ((i : Int) + 1) (rsT r) = f at K HS
        obtain ⟨p, b⟩ := f
        go_wp2_with fail
        refine K.mono ?_
        clear K
        rintro en W1 ⟨⟨y, rfl, hy, oy⟩, hb⟩
        dsimp only at hy ⊢
        have HNEW : Hid (∀ k, kbT y = some k → ∀ z ∈ q.2.2, kbT z ≠ some k) := ap_new ro oy (Nat.le_refl _)
        have hwW : w.heap.size ≤ W0.heap.size := BC.size
        replace ro := ro.later hb
        replace oy := oy.le hwW
        replace BC := BC.trans (hb.mono BC.size)
        clear hb
        obtain ⟨V, hV⟩ : ∃ V, W1.alloc (.cells #[.int .i64 y.1, .slice y.2.1.1 y.2.1.2.2.length y.2.1.2.1, .int .i64 y.2.2] 59) = V := ⟨_, rfl⟩
        have XA : Below W1.heap.size W1 V := by rw [← hV]; exact (Below.refl _ _).alloc (Nat.le_refl _) _
        have TV : Blk W1.heap.size [.int .i64 y.1, .slice y.2.1.1 y.2.1.2.2.length y.2.1.2.1, .int .i64 y.2.2] V := by rw [← hV]; exact Blk.new _ _ _
        replace ro := ro.later XA
        replace oy := oy.later XA
        replace BC := BC.trans (XA.mono BC.size)
        clear XA
        cases b with
        | false =>
          have HQ2 : Hid (rsT q = nrmK (rsT r) (i + 1)) := by show _ = _; rw [HS.out, HQ.out]; simp
          clear HS HQ TV
          go_wp2
          try rw [hV]
          go_roundw
          case rel => exact ⟨i + 1, q, by omega, by go_num, rfl, HQ2, ro, HA, by omega, BC⟩
          case measure => simp [intOf]; omega
        | true =>
          have HQ2 : Hid (rsT (q.1, q.2.1, q.2.2 ++ [y]) = nrmK (rsT r) (i + 1)) := by
            show _ = _
            rw [HS.out, ← HQ.out]
            unfold rsT
            dsimp only
            rw [List.map_append, List.map_cons, List.map_nil, hy]
            rfl
          clear HS HQ hy
          obtain ⟨VA, hVA⟩ : ∃ Z, V.alloc (.cells #[.int .i64 y.1, .slice y.2.1.1 y.2.1.2.2.length y.2.1.2.1, .int .i64 y.2.2] 59) = Z := ⟨_, rfl⟩
          have XA : Below V.heap.size V VA := by rw [← hVA]; exact (Below.refl _ _).alloc (Nat.le_refl _) _
          have TA : Blk V.heap.size [.int .i64 y.1, .slice y.2.1.1 y.2.1.2.2.length y.2.1.2.1, .int .i64 y.2.2] VA := by rw [← hVA]; exact Blk.new _ _ _
          replace ro := ro.later XA
          replace oy := oy.later XA
          replace BC := BC.trans (XA.mono BC.size)
          clear XA
          obtain ⟨jt, hjt, hjz, hjs, hjb⟩ := parts_of info59
          have hBA := BC.size
          have u0 := TV.at 0 rfl
          have u1 := TV.at 1 rfl
          have u2 := TV.at 2 rfl
          go_wp2_with (first | (at_builtin; first | refine wpList_append_where _ rfl _ _ 24 rfl (w.heap.size) 59 jt _ 3 40 Try.underlying24 hjt hjz hjs hjb rfl (by decide) _ _ _ rfl ro.1 ⟨V.heap.size, 0, none⟩ 1 1 [.int .i64 y.1, .slice y.2.1.1 y.2.1.2.2.length y.2.1.2.1, .int .i64 y.2.2] rfl rfl (news_box TA) (fun u hu => by simp at hu; rcases hu with rfl | rfl | rfl <;> rfl) ?c3 ?c4 hBA (by decide) ?_ | (rw [hVA]; refine wpList_append_where _ rfl _ _ 24 rfl (w.heap.size) 59 jt _ 3 40 Try.underlying24 hjt hjz hjs hjb rfl (by decide) _ _ _ rfl ro.1 ⟨V.heap.size, 0, none⟩ 1 1 [.int .i64 y.1, .slice y.2.1.1 y.2.1.2.2.length y.2.1.2.1, .int .i64 y.2.2] rfl rfl (news_box TA) (fun u hu => by simp at hu; rcases hu with rfl | rfl | rfl <;> rfl) ?c3 ?c4 hBA (by decide) ?_)) | go_in)
          case c3 => unfold maxLen; omega
          case c4 => omega
          intro vA wA ownA hgA hwA
          obtain ⟨na, nc, rfl, _⟩ := own_shape ownA
          obtain ⟨RA, CA, OA⟩ := put_mem (x := y) ro oy ownA hgA hwA
          have APF : Hid (ApT (na, nc, q.2.2 ++ [y])) := ap_put HA.out HNEW.out
          have BF : Below w.heap.size w wA := BC.grown hgA BC.size (fun k e => (World.ownsRow.lt ro.1 k e).1)
          have hqe : (q.2.2 ++ [y]).length = q.2.2.length + 1 := by simp
          have HR : ∃ (i' : Nat) (q' : Rw TT), i' ≤ 5 ∧ Value.int .i64 ((i : Int) + 1 + 1) = .int .i64 ((i' : Int) + 1) ∧ Value.slice na (q.2.2.length + 1) nc = .slice q'.1 q'.2.2.length q'.2.1 ∧ Hid (rsT q' = nrmK (rsT r) i') ∧ RoT w.heap.size wA q' ∧ Hid (ApT q') ∧ q'.2.2.length ≤ i' ∧ Below w.heap.size w wA :=
            ⟨i + 1, (na, nc, q.2.2 ++ [y]), by omega, by go_num, by dsimp only; rw [hqe], HQ2, RA, APF, by dsimp only; rw [hqe]; omega, BF⟩
          clear RA OA CA APF BF HQ2 HNEW HA ro oy BC hgA hwA ownA TV TA hV hVA hqe u0 u1 u2
          go_wp2
          go_roundw
          case rel => exact HR
          case measure => simp [intOf]; omega
      · obtain rfl : i = 5 := by omega
        go_wp2
        go_ret
        exact ⟨⟨q, rfl, by rw [HQ.out, HN2.out], ro, HA.out⟩, BC⟩
  · have HN2 : Hid (nv = []) := by show _ = _; rw [HN.out, if_neg hok]
    rw [Bool.not_eq_true] at hok
    have K0 := specRulesOk_is r Vs (hr.later BC) hl hx
    rw [hok] at K0
    clear HN hok
    go_enter Try.func37, Try.ntmps37
    go_wp2
    try rw [hVs]
    go_loopw [3, 4] (fun sv kv wr => kv = .int .i64 1 ∧ sv = .slice (some ⟨w.heap.size, 0, none⟩) 0 0 ∧ wr = Vs) (fun _ kv _ => 6 - (intOf kv).toNat)
    case atStart => exact ⟨rfl, rfl, rfl⟩
    case round =>
      obtain ⟨rfl, rfl, rfl⟩ := hrel
      go_wp2_with fail
      refine K0.mono ?_
      clear K0
      rintro en W0 ⟨rfl, hb0⟩
      replace ro := ro.later hb0
      replace BC := BC.trans (hb0.mono BC.size)
      clear hb0
      go_wp2
      go_ret
      exact ⟨⟨(some ⟨w.heap.size, 0, none⟩, 0, []), rfl, by rw [HN2.out]; rfl, ro, ApT.nil _ _⟩, BC⟩
end Go.Proofs.Ytjbbhegijlnndaa.Nd

set_option linter.unusedVariables false
set_option maxRecDepth 100000
namespace Go.Proofs.Ytjbbhegijlnndaa.Nd
open Go Go.RowKit Go.Joins Own Draw Go.Proofs.Ytjbbhegijlnndaa

theorem build0_run : ∀ (W : World), (Instr.buildSlice 24 0 #[]).run Try.prog W = .ok (.slice (some ⟨W.heap.size, 0, none⟩) 0 0) (W.alloc (.cells #[] 59)) := fun W => by
  obtain ⟨ie0, hie0, hz00, _⟩ := parts_of info59
  simp [Instr.buildSlice, run_underlying Try.underlying24, sizeOf, typeInfo, hie0, newRow, Instr.fill]
  exact congrArg (fun x => W.alloc (.cells x 59)) (Array.eq_empty_of_size_eq_zero (by simp))
set_option maxHeartbeats 3200000 in
theorem specJoined_is (p q : Rw TT) (w : World) (hp : RpT w p) (hq : RpT w q) (l : rtT p + rtT q ≤ 1048576) :
    Calls Try.prog 40 #[.slice p.1 p.2.2.length p.2.1, .slice q.1 q.2.2.length q.2.1] w fun e w' => NrmP (joP (rsT p) (rsT q)) w.heap.size e w' ∧ Below w.heap.size w w' := by
  have p1 := rt_parts (show rtT p ≤ 1048576 by omega)
  have p2 := rt_parts (show rtT q ≤ 1048576 by omega)
  have hll : p.2.2.length + q.2.2.length ≤ 1048576 := by have h1 := rt_parts (Nat.le_refl (rtT p)); have h2 := rt_parts (Nat.le_refl (rtT q)); omega
  have K0 := specRulesOk_is p w hp p1.2 p1.1
  have HP2 : Hid (∀ x ∈ p.2.2, x.2.1.2.2.length ≤ 1048576) := p1.2
  have HQ2 : Hid (∀ x ∈ q.2.2, x.2.1.2.2.length ≤ 1048576) := p2.2
  have hlp := p1.1
  have hlq := p2.1
  clear p1 p2 l
  go_enter Try.func40, Try.ntmps40
  by_cases ha : okL (rsT p) = true
  rotate_left
  · have HN : Hid ([] = joP (rsT p) (rsT q)) := by show _ = _; unfold joP; rw [if_neg (fun c => ha c.1)]
    rw [Bool.not_eq_true] at ha
    rw [ha] at K0
    clear ha HP2 HQ2
    go_wp2_with fail
    refine K0.mono ?_
    clear K0
    rintro en W1 ⟨rfl, BC⟩
    obtain ⟨V, hV⟩ : ∃ V, World.alloc W1 (.cells #[] 59) = V := ⟨_, rfl⟩
    have hbV : Below W1.heap.size W1 V := by rw [← hV]; exact (Below.refl _ _).alloc (Nat.le_refl _) _
    have roV : RoT w.heap.size V (some ⟨W1.heap.size, 0, none⟩, 0, []) := by rw [← hV]; exact RoT.lit BC.size
    have BF : Below w.heap.size w V := BC.trans (hbV.mono BC.size)
    have hbz := build0_run
    go_wp2
    try rw [hV]
    go_ret
    exact ⟨⟨(some ⟨W1.heap.size, 0, none⟩, 0, []), rfl, HN.out, roV, ApT.nil _ _⟩, BF⟩
  rw [ha] at K0
  go_wp2_with fail
  refine K0.mono ?_
  clear K0
  rintro en W1 ⟨rfl, BC⟩
  have K1 := specRulesOk_is q W1 (hq.later BC) HQ2.out hlq
  by_cases hb : okL (rsT q) = true
  rotate_left
  · have HN : Hid ([] = joP (rsT p) (rsT q)) := by show _ = _; unfold joP; rw [if_neg (fun c => hb c.2.1)]
    rw [Bool.not_eq_true] at hb
    rw [hb] at K1
    clear ha hb HP2 HQ2
    go_wp2_with fail
    refine K1.mono ?_
    clear K1
    rintro en W2 ⟨rfl, hb2⟩
    replace BC := BC.trans (hb2.mono BC.size)
    clear hb2
    obtain ⟨V, hV⟩ : ∃ V, World.alloc W2 (.cells #[] 59) = V := ⟨_, rfl⟩
    have hbV : Below W2.heap.size W2 V := by rw [← hV]; exact (Below.refl _ _).alloc (Nat.le_refl _) _
    have roV : RoT w.heap.size V (some ⟨W2.heap.size, 0, none⟩, 0, []) := by rw [← hV]; exact RoT.lit BC.size
    have BF : Below w.heap.size w V := BC.trans (hbV.mono BC.size)
    have hbz := build0_run
    go_wp2
    try rw [hV]
    go_ret
    exact ⟨⟨(some ⟨W2.heap.size, 0, none⟩, 0, []), rfl, HN.out, roV, ApT.nil _ _⟩, BF⟩
  rw [hb] at K1
  have HL : Hid ((rsT p).length = p.2.2.length ∧ (rsT q).length = q.2.2.length) := ⟨by unfold rsT; simp, by unfold rsT; simp⟩
  by_cases hc : p.2.2.length + q.2.2.length ≤ 20
  rotate_left
  · have HN : Hid ([] = joP (rsT p) (rsT q)) := by show _ = _; unfold joP; rw [if_neg (fun c => by have := c.2.2; have h_ := HL.out; omega)]
    have hc2 : (p.2.2.length : Int) + (q.2.2.length : Int) > 20 := by omega
    clear ha hb HP2 HQ2 HL
    go_wp2_with fail
    refine K1.mono ?_
    clear K1
    rintro en W2 ⟨rfl, hb2⟩
    replace BC := BC.trans (hb2.mono BC.size)
    clear hb2
    obtain ⟨V, hV⟩ : ∃ V, World.alloc W2 (.cells #[] 59) = V := ⟨_, rfl⟩
    have hbV : Below W2.heap.size W2 V := by rw [← hV]; exact (Below.refl _ _).alloc (Nat.le_refl _) _
    have roV : RoT w.heap.size V (some ⟨W2.heap.size, 0, none⟩, 0, []) := by rw [← hV]; exact RoT.lit BC.size
    have BF : Below w.heap.size w V := BC.trans (hbV.mono BC.size)
    have hbz := build0_run
    go_wp2
    try rw [hV]
    go_ret
    exact ⟨⟨(some ⟨W2.heap.size, 0, none⟩, 0, []), rfl, HN.out, roV, ApT.nil _ _⟩, BF⟩
  have hc2 : ¬ ((p.2.2.length : Int) + (q.2.2.length : Int) > 20) := by omega
  have HN : Hid (nrmP (rsT p ++ rsT q) = joP (rsT p) (rsT q)) := joP_nrm _ _
  clear ha hb HL hll
  go_wp2_with fail
  refine K1.mono ?_
  clear K1
  rintro en W2 ⟨rfl, hb2⟩
  replace BC := BC.trans (hb2.mono BC.size)
  replace hp := hp.later BC
  replace hq := hq.later BC
  clear hb2
  obtain ⟨V, hV⟩ : ∃ V, World.alloc W2 (.cells #[] 59) = V := ⟨_, rfl⟩
  have hbV : Below W2.heap.size W2 V := by rw [← hV]; exact (Below.refl _ _).alloc (Nat.le_refl _) _
  have roV : V.ownsRow W2.heap.size 59 3 (.slice (some ⟨W2.heap.size, 0, none⟩) 0 0) 0 [] := by rw [← hV]; exact (RoT.lit (Nat.le_refl _)).1
  have hVs := hbV.size
  have hbz := build0_run
  obtain ⟨i0, hi0, hz0, hs0, hb0⟩ := parts_of info59
  have hp1 : FRow 3 cT V p.1 p.2.2 := (hp.later hbV).1
  have hlen := fl_len lT p.2.2
  go_wp2_with (first | (at_builtin; (try rw [hV]); refine wpList_append_row _ rfl _ _ 24 rfl W2.heap.size 59 i0 _ 3 40 Try.underlying24 hi0 hz0 hs0 hb0 rfl (by decide) _ _ _ rfl roV p.1 p.2.2.length p.2.1 (fl cT p.2.2) rfl (fl_len lT _) (news_fl hp1) (one_fl _) (by unfold maxLen; omega) (by omega) hVs (fl_none hp1) ?_) | fail)
  intro v3 w3 ho3 hg3
  obtain ⟨na, nc, rfl, _⟩ := own_shape ho3
  have hb3 : Below W2.heap.size W2 w3 := hbV.grown hg3 hVs (fun k e => (World.ownsRow.lt roV k e).1)
  have hq1 : FRow 3 cT w3 q.1 q.2.2 := (hq.later hb3).1
  clear hp1 hg3 roV hV
  go_wp2_with (first | (at_builtin; refine wpList_append_row _ rfl _ _ 24 rfl W2.heap.size 59 i0 _ 3 40 Try.underlying24 hi0 hz0 hs0 hb0 rfl (by decide) _ _ _ rfl ho3 q.1 q.2.2.length q.2.1 (fl cT q.2.2) rfl (fl_len lT _) (news_fl hq1) (one_fl _) (by unfold maxLen; omega) (by omega) hb3.size (fl_none hq1) ?_) | fail)
  intro v4 w4 ho4 hg4
  obtain ⟨ma, mc, rfl, _⟩ := own_shape ho4
  have hb4 : Below W2.heap.size W2 w4 := hb3.grown hg4 hb3.size (fun k e => (World.ownsRow.lt ho3 k e).1)
  have ho : FOwn 59 3 cT W2.heap.size ma mc (p.2.2 ++ q.2.2) w4 := by unfold FOwn; rw [List.length_append, ← fl_app]; exact ho4
  have hR := rp_app hp hq hb4 ho
  have K2 := specNormal_is (ma, mc, p.2.2 ++ q.2.2) w4 hR (fun x hx => (List.mem_append.1 hx).elim (HP2.out x) (HQ2.out x)) (by rw [List.length_append]; omega)
  rw [rs_app, HN.out] at K2
  dsimp only at K2
  rw [List.length_append] at K2
  replace BC := BC.trans (hb4.mono BC.size)
  have hsw : Hid (w.heap.size ≤ w4.heap.size) := BC.size
  clear ho hR ho4 ho3 hg4 hb4 hb3 hq1 hp hq hbV hlp hlq hlen HP2 HQ2
  go_wp2_with fail
  refine K2.mono ?_
  clear K2
  rintro en W5 ⟨⟨g, rfl, e0, r0, ap⟩, hb⟩
  replace BC := BC.trans (hb.mono BC.size)
  clear hb
  go_wp2
  go_ret
  exact ⟨⟨g, rfl, e0, r0.le hsw.out, ap⟩, BC⟩
end Go.Proofs.Ytjbbhegijlnndaa.Nd
