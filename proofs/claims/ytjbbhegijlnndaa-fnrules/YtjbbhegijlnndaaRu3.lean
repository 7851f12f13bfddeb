/- Allows of the model. -/
import Derived.Test.YtjbbhegijlnndaaRu1
import Derived.Test.YtjbbhegijlnndaaNa1
set_option linter.unusedVariables false
set_option maxRecDepth 100000
namespace Go.Proofs.Ytjbbhegijlnndaa.Nd
open Go Go.RowKit Go.Joins Own Draw

def onP (p : PT) (q : PA) : Bool :=
  if p.1 = 1 then p.2.1.contains q.1 else if p.1 = 2 then p.2.1.contains q.2.1 else if p.1 = 3 then p.2.1.all (fun n => q.2.2.1.contains n) else if p.1 = 4 then decide (q.2.2.2.1 ≤ p.2.2) else decide (q.2.2.2.2 < p.2.2)
def alB (l : List PT) (q : PA) : Bool := okL l && l.all (fun p => onP p q)
set_option maxHeartbeats 3200000 in
theorem l3Has_is (a : Option Addr) (cap : Nat) (xs : List Int) (x : Int) (w : World) (hr : RowAt (Value.int .i64) w a xs) (hl : xs.length ≤ 1048576) :
    Calls Try.prog 84 #[.slice a xs.length cap, .int .i64 x] w fun e w' => e = .returned (.bool (xs.contains x)) ∧ w = w' := by
  have HC : Hid (xs.contains x = true ↔ x ∈ xs) := by show _ ↔ _; simp
  generalize xs.contains x = ok at HC ⊢
  go_enter Try.func84, Try.ntmps84
  go_wp2
  go_loopw [5] (fun iv wr => ∃ j : Nat, j ≤ xs.length ∧ iv = .int .i64 j ∧ Hid (∀ i (h : i < xs.length), i < j → xs[i] ≠ x) ∧ w = wr) (fun iv _ => xs.length - (intOf iv).toNat)
  case atStart => exact ⟨0, Nat.zero_le _, rfl, fun i _ h => absurd h (by omega), rfl⟩
  case round =>
    obtain ⟨j, hj, rfl, HY, rfl⟩ := hrel
    by_cases hlt : j < xs.length
    · obtain ⟨b, off, rfl, hb, c0⟩ := hr j hlt
      have hlt2 : (j : Int) < (xs.length : Int) := by omega
      by_cases he : xs[j] = x
      · have HV : Hid (ok = true) := HC.out.2 (he ▸ List.getElem_mem hlt)
        rw [he] at c0
        have hee : (x == x) = true := beq_self_eq_true x
        clear HC HY he
        go_wp2
        go_ret
        exact ⟨by rw [HV.out]; rfl, rfl⟩
      · have HY2 : Hid (∀ i (h : i < xs.length), i < j + 1 → xs[i] ≠ x) := fun i h hi => by
          by_cases e : i = j
          · subst e; exact he
          · exact HY.out i h (by omega)
        have hee : (xs[j] == x) = false := beq_eq_false_iff_ne.2 he
        generalize xs[j] = y at c0 hee
        clear HY he
        go_wp2
        go_roundw
        case rel => exact ⟨j + 1, by omega, by go_num, HY2, trivial⟩
        case measure => simp [intOf]; omega
    · obtain rfl : j = xs.length := by omega
      have HV : Hid (ok = false) := by
        show _ = _
        rw [← Bool.not_eq_true]
        intro h
        obtain ⟨i, hi, e⟩ := List.mem_iff_getElem.1 (HC.out.1 h)
        exact HY.out i hi hi e
      have hlt2 : ¬ ((xs.length : Int) < (xs.length : Int)) := by omega
      clear HC HY
      go_wp2
      go_ret
      exact ⟨by rw [HV.out]; rfl, rfl⟩
set_option maxHeartbeats 3200000 in
theorem l17All_is (a ga : Option Addr) (cap gc : Nat) (xs gs : List Int) (w : World) (hr : RowAt (Value.int .i64) w a xs) (hl : xs.length ≤ 1048576) (hg : RowAt (Value.int .i64) w ga gs) (hgl : gs.length ≤ 1048576) :
    Calls Try.prog 53 #[.slice a xs.length cap, .slice ga gs.length gc] w fun e w' => e = .returned (.bool (xs.all (fun n => gs.contains n))) ∧ w = w' := by
  have HC : Hid (xs.all (fun n => gs.contains n) = true ↔ ∀ n ∈ xs, gs.contains n = true) := List.all_eq_true
  generalize xs.all (fun n => gs.contains n) = ok at HC ⊢
  go_enter Try.func53, Try.ntmps53
  go_wp2
  go_loopw [5] (fun iv wr => ∃ j : Nat, j ≤ xs.length ∧ iv = .int .i64 j ∧ Hid (∀ i (h : i < xs.length), i < j → gs.contains xs[i] = true) ∧ w = wr) (fun iv _ => xs.length - (intOf iv).toNat)
  case atStart => exact ⟨0, Nat.zero_le _, rfl, fun i _ h => absurd h (by omega), rfl⟩
  case round =>
    obtain ⟨j, hj, rfl, HY, rfl⟩ := hrel
    by_cases hlt : j < xs.length
    · obtain ⟨b, off, rfl, hb, c0⟩ := hr j hlt
      have hlt2 : (j : Int) < (xs.length : Int) := by omega
      have K := l3Has_is ga gc gs xs[j] w hg hgl
      have HY2 : Hid (gs.contains xs[j] = true → ∀ i (h : i < xs.length), i < j + 1 → gs.contains xs[i] = true) := fun he i h hi => by
        by_cases e : i = j
        · subst e; exact he
        · exact HY.out i h (by omega)
      have HN : Hid (gs.contains xs[j] = false → ok = false) := fun he => by
        rw [← Bool.not_eq_true]
        intro h
        have := HC.out.1 h xs[j] (List.getElem_mem hlt)
        rw [he] at this; cases this
      clear HY HC
      generalize gs.contains xs[j] = ob at K HY2 HN
      generalize xs[j] = y at c0 K
      go_wp2_with fail
      refine K.mono ?_
      clear K
      rintro en v0 ⟨rfl, rfl⟩
      cases ob with
      | true =>
        have HY3 := show Hid _ from HY2.out rfl
        clear HY2 HN
        go_wp2
        go_roundw
        case rel => exact ⟨j + 1, by omega, by go_num, HY3, trivial⟩
        case measure => simp [intOf]; omega
      | false =>
        have HV : Hid (ok = false) := HN.out rfl
        clear HY2 HN
        go_wp2
        go_ret
        exact ⟨by rw [HV.out]; rfl, rfl⟩
    · obtain rfl : j = xs.length := by omega
      have HV : Hid (ok = true) := HC.out.2 (fun n hn => by
        obtain ⟨i, hi, rfl⟩ := List.mem_iff_getElem.1 hn
        exact HY.out i hi hi)
      have hlt2 : ¬ ((xs.length : Int) < (xs.length : Int)) := by omega
      clear HC HY
      go_wp2
      go_ret
      exact ⟨by rw [HV.out]; rfl, rfl⟩
set_option maxHeartbeats 3200000 in
theorem specOne_is (x : TT) (q : TA) (w : World) (hd : DpT w x) (hl : x.2.1.2.2.length ≤ 1048576) (hq : DpA w q) (hgl : q.2.2.1.2.2.length ≤ 1048576) : Calls Try.prog 59 #[vT x, vA q] w fun e w' => e = .returned (.bool (onP (stT x) (stA q))) ∧ Below w.heap.size w w' := by
  obtain ⟨k, ⟨a, cap, xs⟩, n⟩ := x
  obtain ⟨sv, op, ⟨ga, gc, gs⟩, nw, us⟩ := q
  have hr : RowAt (Value.int .i64) w a xs := hd
  have hg : RowAt (Value.int .i64) w ga gs := hq
  clear hd hq
  dsimp only at hl hgl
  have HE : Hid (onP (stT (k, (a, cap, xs), n)) (stA (sv, op, (ga, gc, gs), nw, us)) = if k = 1 then xs.contains sv else if k = 2 then xs.contains op else if k = 3 then xs.all (fun m => gs.contains m) else if k = 4 then decide (nw ≤ n) else decide (us < n)) := (rfl : onP (stT (k, (a, cap, xs), n)) (stA (sv, op, (ga, gc, gs), nw, us)) = _)
  generalize onP (stT (k, (a, cap, xs), n)) (stA (sv, op, (ga, gc, gs), nw, us)) = ok at HE ⊢
  have BC : Below w.heap.size w ((w.alloc (.cells #[.int .i64 k, .slice a xs.length cap, .int .i64 n] 59)).alloc (.cells #[.int .i64 sv, .int .i64 op, .slice ga gs.length gc, .int .i64 nw, .int .i64 us] 34)) := ((Below.refl _ _).alloc (by simp <;> omega) _).alloc (by simp <;> omega) _
  have TC : Blk w.heap.size [.int .i64 k, .slice a xs.length cap, .int .i64 n] ((w.alloc (.cells #[.int .i64 k, .slice a xs.length cap, .int .i64 n] 59)).alloc (.cells #[.int .i64 sv, .int .i64 op, .slice ga gs.length gc, .int .i64 nw, .int .i64 us] 34)) := by have h_ := ((Blk.new w #[.int .i64 k, .slice a xs.length cap, .int .i64 n] 59).alloc (by simp <;> omega) (.cells #[.int .i64 sv, .int .i64 op, .slice ga gs.length gc, .int .i64 nw, .int .i64 us] 34)); simpa using h_
  have UC : Blk (w.heap.size + 1) [.int .i64 sv, .int .i64 op, .slice ga gs.length gc, .int .i64 nw, .int .i64 us] ((w.alloc (.cells #[.int .i64 k, .slice a xs.length cap, .int .i64 n] 59)).alloc (.cells #[.int .i64 sv, .int .i64 op, .slice ga gs.length gc, .int .i64 nw, .int .i64 us] 34)) := by have h_ := (Blk.new (w.alloc (.cells #[.int .i64 k, .slice a xs.length cap, .int .i64 n] 59)) #[.int .i64 sv, .int .i64 op, .slice ga gs.length gc, .int .i64 nw, .int .i64 us] 34); simpa using h_
  have hr2 := hr.later BC
  have hg2 := hg.later BC
  have q1_ := TC.at 0 rfl
  have q2_ := TC.at 1 rfl
  have q3_ := TC.at 2 rfl
  have q4_ := UC.at 0 rfl
  have q5_ := UC.at 1 rfl
  have q6_ := UC.at 2 rfl
  have q7_ := UC.at 3 rfl
  have q8_ := UC.at 4 rfl
  clear hr hg TC UC
  go_enter Try.func59, Try.ntmps59
  by_cases h1 : k = 1
  · have q1 : (k == 1) = true := beq_iff_eq.2 h1
    have HV : Hid (ok = xs.contains sv) := by show _ = _; rw [HE.out, if_pos h1]
    clear HE
    clear h1
    go_wp2_with fail
    refine (l3Has_is a cap xs sv _ hr2 hl).mono ?_
    rintro en v0 ⟨rfl, rfl⟩
    rw [← HV.out]
    go_wp2
    go_ret
    exact ⟨rfl, BC⟩
  · have q1 : (k == 1) = false := beq_eq_false_iff_ne.2 h1
    by_cases h2 : k = 2
    · have q2 : (k == 2) = true := beq_iff_eq.2 h2
      have HV : Hid (ok = xs.contains op) := by show _ = _; rw [HE.out, if_neg h1, if_pos h2]
      clear HE
      clear h1 h2
      go_wp2_with fail
      refine (l3Has_is a cap xs op _ hr2 hl).mono ?_
      rintro en v0 ⟨rfl, rfl⟩
      rw [← HV.out]
      go_wp2
      go_ret
      exact ⟨rfl, BC⟩
    · have q2 : (k == 2) = false := beq_eq_false_iff_ne.2 h2
      by_cases h3 : k = 3
      · have q3 : (k == 3) = true := beq_iff_eq.2 h3
        have HV : Hid (ok = xs.all (fun m => gs.contains m)) := by show _ = _; rw [HE.out, if_neg h1, if_neg h2, if_pos h3]
        clear HE
        clear h1 h2 h3
        go_wp2_with fail
        refine (l17All_is a ga cap gc xs gs _ hr2 hl hg2 hgl).mono ?_
        rintro en v0 ⟨rfl, rfl⟩
        rw [← HV.out]
        go_wp2
        go_ret
        exact ⟨rfl, BC⟩
      · have q3 : (k == 3) = false := beq_eq_false_iff_ne.2 h3
        by_cases h4 : k = 4
        · have q4 : (k == 4) = true := beq_iff_eq.2 h4
          have HV : Hid (ok = decide (nw ≤ n)) := by show _ = _; rw [HE.out, if_neg h1, if_neg h2, if_neg h3, if_pos h4]
          clear HE
          clear h1 h2 h3 h4
          by_cases hc : nw ≤ n
          · have HW : Hid (ok = true) := by show _ = _; rw [HV.out, decide_eq_true hc]
            clear HV
            go_wp2
            go_ret
            exact ⟨by rw [HW.out]; rfl, BC⟩
          · have HW : Hid (ok = false) := by show _ = _; rw [HV.out, decide_eq_false hc]
            clear HV
            go_wp2
            go_ret
            exact ⟨by rw [HW.out]; rfl, BC⟩
        · have q4 : (k == 4) = false := beq_eq_false_iff_ne.2 h4
          have HV : Hid (ok = decide (us < n)) := by show _ = _; rw [HE.out, if_neg h1, if_neg h2, if_neg h3, if_neg h4]
          clear HE h1 h2 h3 h4
          by_cases hc : us < n
          · have HW : Hid (ok = true) := by show _ = _; rw [HV.out, decide_eq_true hc]
            clear HV
            go_wp2
            go_ret
            exact ⟨by rw [HW.out]; rfl, BC⟩
          · have HW : Hid (ok = false) := by show _ = _; rw [HV.out, decide_eq_false hc]
            clear HV
            go_wp2
            go_ret
            exact ⟨by rw [HW.out]; rfl, BC⟩
set_option maxHeartbeats 3200000 in
theorem specAllows_is (r : Rw TT) (q : TA) (w : World) (hr : RpT w r) (hl : ∀ x ∈ r.2.2, x.2.1.2.2.length ≤ 1048576) (hx : r.2.2.length ≤ 1048576) (hq : DpA w q) (hgl : q.2.2.1.2.2.length ≤ 1048576) :
    Calls Try.prog 23 #[.slice r.1 r.2.2.length r.2.1, vA q] w fun e w' => e = .returned (.bool (alB (rsT r) (stA q))) ∧ Below w.heap.size w w' := by
  obtain ⟨V, hV⟩ : ∃ V, w.alloc (.cells #[.int .i64 q.1, .int .i64 q.2.1, .slice q.2.2.1.1 q.2.2.1.2.2.length q.2.2.1.2.1, .int .i64 q.2.2.2.1, .int .i64 q.2.2.2.2] 34) = V := ⟨_, rfl⟩
  have UC : Blk w.heap.size [.int .i64 q.1, .int .i64 q.2.1, .slice q.2.2.1.1 q.2.2.1.2.2.length q.2.2.1.2.1, .int .i64 q.2.2.2.1, .int .i64 q.2.2.2.2] V := by rw [← hV]; exact Blk.new _ _ _
  have BC : Below w.heap.size w V := by rw [← hV]; exact (Below.refl _ _).alloc (Nat.le_refl _) _
  have hlv : w.heap.size < V.heap.size := by rw [← hV]; simp
  have K0 := specRulesOk_is r V (hr.later BC) hl hx
  obtain ⟨a, cap, xs⟩ := r
  dsimp only at hl hx K0 ⊢
  obtain ⟨hrow, hdp⟩ := hr
  dsimp only at hrow hdp
  have HE : Hid (alB (rsT (a, cap, xs)) (stA q) = (okL (rsT (a, cap, xs)) && xs.all (fun x => onP (stT x) (stA q)))) := by
    show _ = _
    unfold alB
    congr 1
    unfold rsT
    rw [List.all_map]; rfl
  generalize alB (rsT (a, cap, xs)) (stA q) = ok at HE ⊢
  generalize okL (rsT (a, cap, xs)) = bb at HE K0
  go_enter Try.func23, Try.ntmps23
  go_wp2_with fail
  try rw [hV]
  refine K0.mono ?_
  clear K0
  rintro en w1 ⟨rfl, b1⟩
  have hsz := BC.size
  replace UC := UC.lower b1 hlv
  replace BC := BC.trans (b1.mono hsz)
  have hlv1 : w.heap.size < w1.heap.size := Nat.lt_of_lt_of_le hlv b1.size
  clear b1 hV hlv
  cases bb with
  | false =>
    have HV : Hid (ok = false) := by show _ = _; rw [HE.out]; rfl
    clear HE
    go_wp2
    go_ret
    exact ⟨by rw [HV.out]; rfl, BC⟩
  | true =>
    have HW : Hid (ok = xs.all (fun x => onP (stT x) (stA q))) := by show _ = _; rw [HE.out]; rfl
    clear HE
    go_wp2
    go_loopw [5] (fun iv wr => ∃ j : Nat, j ≤ xs.length ∧ iv = .int .i64 j ∧ Hid (∀ i (h : i < xs.length), i < j → onP (stT xs[i]) (stA q) = true) ∧ Below w1.heap.size w1 wr) (fun iv _ => xs.length - (intOf iv).toNat)
    case atStart => exact ⟨0, Nat.zero_le _, rfl, fun i _ h => absurd h (by omega), Below.refl _ _⟩
    case round =>
      obtain ⟨j, hj, rfl, HY, hBw⟩ := hrel
      have hB : Below w.heap.size w wr := BC.trans (hBw.mono BC.size)
      by_cases hlt : j < xs.length
      · obtain ⟨b, off, rfl, hb, hc⟩ := hrow j hlt
        have hlt2 : (j : Int) < (xs.length : Int) := by omega
        have c0 : wr.cell? ⟨b, off + j * 3, none⟩ = some (.int .i64 xs[j].1) := (hB.cell (p := ⟨b, off + j * 3, none⟩) hb).trans (hc 0 _ rfl)
        have c1 : wr.cell? ⟨b, off + j * 3 + 1, none⟩ = some (.slice xs[j].2.1.1 xs[j].2.1.2.2.length xs[j].2.1.2.1) := (hB.cell (p := ⟨b, off + j * 3 + 1, none⟩) hb).trans (hc 1 _ rfl)
        have c2 : wr.cell? ⟨b, off + j * 3 + 2, none⟩ = some (.int .i64 xs[j].2.2) := (hB.cell (p := ⟨b, off + j * 3 + 2, none⟩) hb).trans (hc 2 _ rfl)
        have KO := fun (U : World) (hU : Below w.heap.size w U) => specOne_is xs[j] q U ((hdp _ (List.getElem_mem hlt)).later hU) (hl _ (List.getElem_mem hlt)) (hq.later hU) hgl
        have HY2 : Hid (onP (stT xs[j]) (stA q) = true → ∀ i (h : i < xs.length), i < j + 1 → onP (stT xs[i]) (stA q) = true) := fun he i h hi => by
          by_cases e : i = j
          · subst e; exact he
          · exact HY.out i h (by omega)
        have HN : Hid (onP (stT xs[j]) (stA q) = false → ok = false) := fun he => by
          rw [HW.out, List.all_eq_false]
          exact ⟨xs[j], List.getElem_mem hlt, by rw [he]; decide⟩
        have hB2 := hB
        have hbw : b < wr.heap.size := Nat.lt_of_lt_of_le hb hB.size
        replace UC := UC.lower hBw hlv1
        clear hc HY HW
        generalize hxj : xs[j] = y at KO HY2 HN c0 c1 c2
        clear hxj
        generalize onP (stT y) (stA q) = ob at KO HY2 HN
        go_wp2_with fail
        replace UC := UC.drew
        replace hB := hB.drew
        replace hB2 := hB2.drew
        replace hBw := hBw.drew
        refine wp_region_held_drew (S := (fun U : World => (U.cell? ⟨b, off + j * 3, none⟩ = some (.int .i64 y.1) ∧ U.cell? ⟨b, off + j * 3 + 1, none⟩ = some (.slice y.2.1.1 y.2.1.2.2.length y.2.1.2.1) ∧ U.cell? ⟨b, off + j * 3 + 2, none⟩ = some (.int .i64 y.2.2)) ∧ Blk w.heap.size [.int .i64 q.1, .int .i64 q.2.1, .slice q.2.2.1.1 q.2.2.1.2.2.length q.2.2.1.2.1, .int .i64 q.2.2.2.1, .int .i64 q.2.2.2.2] U)) (by kernel_rfl) ⟨⟨c0, c1, c2⟩, UC⟩ (fun hHeld => ?_)
        refine take_one 0 15 (v := ?_) rfl rfl (by kernel_rfl) (by kernel_rfl) (by kernel_rfl) (fun _ _ _ h => h) (Or.inl ⟨by rfl, ?_⟩) hHeld ?_
        rotate_left
        · intro w' hSw; (try dsimp only at hSw); have e0 := hSw.1.1; have e1 := hSw.1.2.1; have e2 := hSw.1.2.2; have d0 := hSw.2.at 0 rfl; have d1 := hSw.2.at 1 rfl; have d2 := hSw.2.at 2 rfl; have d3 := hSw.2.at 3 rfl; have d4 := hSw.2.at 4 rfl; go_simp; try with_reducible rfl
        try simp only [Act.put, List.setIfInBounds_toArray, List.set_cons_zero, List.set_cons_succ]
        refine take_one 1 16 (v := ?_) rfl rfl (by kernel_rfl) (by kernel_rfl) (by kernel_rfl) (fun _ _ _ h => h) (Or.inl ⟨by rfl, ?_⟩) hHeld ?_
        rotate_left
        · intro w' hSw; (try dsimp only at hSw); have e0 := hSw.1.1; have e1 := hSw.1.2.1; have e2 := hSw.1.2.2; have d0 := hSw.2.at 0 rfl; have d1 := hSw.2.at 1 rfl; have d2 := hSw.2.at 2 rfl; have d3 := hSw.2.at 3 rfl; have d4 := hSw.2.at 4 rfl; go_simp; try with_reducible rfl
        try simp only [Act.put, List.setIfInBounds_toArray, List.set_cons_zero, List.set_cons_succ]
        refine take_one 2 17 (v := ?_) rfl rfl (by kernel_rfl) (by kernel_rfl) (by kernel_rfl) (fun _ _ _ h => h) (Or.inl ⟨by rfl, ?_⟩) hHeld ?_
        rotate_left
        · intro w' hSw; (try dsimp only at hSw); have e0 := hSw.1.1; have e1 := hSw.1.2.1; have e2 := hSw.1.2.2; have d0 := hSw.2.at 0 rfl; have d1 := hSw.2.at 1 rfl; have d2 := hSw.2.at 2 rfl; have d3 := hSw.2.at 3 rfl; have d4 := hSw.2.at 4 rfl; go_simp; try with_reducible rfl
        try simp only [Act.put, List.setIfInBounds_toArray, List.set_cons_zero, List.set_cons_succ]
        refine take_one 3 18 (v := ?_) rfl rfl (by kernel_rfl) (by kernel_rfl) (by kernel_rfl) (fun _ _ _ h => h) (Or.inl ⟨by rfl, ?_⟩) hHeld ?_
        rotate_left
        · intro w' hSw; (try dsimp only at hSw); have e0 := hSw.1.1; have e1 := hSw.1.2.1; have e2 := hSw.1.2.2; have d0 := hSw.2.at 0 rfl; have d1 := hSw.2.at 1 rfl; have d2 := hSw.2.at 2 rfl; have d3 := hSw.2.at 3 rfl; have d4 := hSw.2.at 4 rfl; go_simp; try with_reducible rfl
        try simp only [Act.put, List.setIfInBounds_toArray, List.set_cons_zero, List.set_cons_succ]
        refine take_one 4 19 (v := ?_) rfl rfl (by kernel_rfl) (by kernel_rfl) (by kernel_rfl) (fun _ _ _ h => h) (Or.inl ⟨by rfl, ?_⟩) hHeld ?_
        rotate_left
        · intro w' hSw; (try dsimp only at hSw); have e0 := hSw.1.1; have e1 := hSw.1.2.1; have e2 := hSw.1.2.2; have d0 := hSw.2.at 0 rfl; have d1 := hSw.2.at 1 rfl; have d2 := hSw.2.at 2 rfl; have d3 := hSw.2.at 3 rfl; have d4 := hSw.2.at 4 rfl; go_simp; try with_reducible rfl
        try simp only [Act.put, List.setIfInBounds_toArray, List.set_cons_zero, List.set_cons_succ]
        refine wpAnyH_ready (rs := [5]) (by kernel_rfl) (by simp) ?_
        refine AllReadyH.cons (i := 5) rfl (fun K hK => ?_) AllReadyH.nil
        go_simp
        refine (KO _ hB2).mono ?_
        clear KO
        rintro en v0 ⟨rfl, hb2⟩
        have c0b := (hb2.cell (p := ⟨b, off + j * 3, none⟩) hbw).trans c0
        have c1b := (hb2.cell (p := ⟨b, off + j * 3 + 1, none⟩) hbw).trans c1
        have c2b := (hb2.cell (p := ⟨b, off + j * 3 + 2, none⟩) hbw).trans c2
        have hBv := hb2.mono hBw.size
        replace UC := UC.later hb2 UC.lt
        replace hB := hB.trans (hb2.mono hB.size)
        clear hb2
        go_wp2_with fail
        refine hK.out _ _ ⟨⟨c0b, c1b, c2b⟩, UC⟩ (fun hHeld2 => ?_)
        clear hK K hHeld
        have hHeld := hHeld2
        clear hHeld2
        try simp only [Act.put, List.setIfInBounds_toArray, List.set_cons_zero, List.set_cons_succ]
        refine take_one 6 21 (v := ?_) rfl rfl (by kernel_rfl) (by kernel_rfl) (by kernel_rfl) (fun _ _ _ h => h) (Or.inl ⟨by rfl, ?_⟩) hHeld ?_
        rotate_left
        · intro w' hSw; (try dsimp only at hSw); go_simp; try with_reducible rfl
        try simp only [Act.put, List.setIfInBounds_toArray, List.set_cons_zero, List.set_cons_succ]
        refine wpAnyH_done (by kernel_rfl) ?_ _
        have hB3 : Below w1.heap.size w1 v0 := hBw.trans hBv
        cases ob with
        | true =>
          have HY3 := show Hid _ from HY2.out rfl
          clear HY2 HN
          go_wp2
          go_roundw
          case rel => exact ⟨j + 1, by omega, by go_num, HY3, hB3⟩
          case measure => simp [intOf]; omega
        | false =>
          have HV : Hid (ok = false) := HN.out rfl
          clear HY2 HN
          go_wp2
          go_ret
          exact ⟨by rw [HV.out]; rfl, hB⟩
      · obtain rfl : j = xs.length := by omega
        have HV : Hid (ok = true) := by
          show _ = _
          rw [HW.out, List.all_eq_true]
          intro x hx
          obtain ⟨i, hi, rfl⟩ := List.mem_iff_getElem.1 hx
          exact HY.out i hi hi
        have hlt2 : ¬ ((xs.length : Int) < (xs.length : Int)) := by omega
        clear HY HW
        go_wp2
        go_ret
        exact ⟨by rw [HV.out]; rfl, hB⟩
end Go.Proofs.Ytjbbhegijlnndaa.Nd
