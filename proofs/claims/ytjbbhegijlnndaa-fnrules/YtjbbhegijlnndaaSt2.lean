/- Stricter of the program. -/
import Derived.Test.YtjbbhegijlnndaaSt1
import Derived.Test.YtjbbhegijlnndaaRu2
set_option linter.unusedVariables false
set_option maxRecDepth 100000
namespace Go.Proofs.Ytjbbhegijlnndaa.Nd
open Go Go.RowKit Go.Joins Own Draw Go.Proofs.Ytjbbhegijlnndaa

theorem nothing_is (x : TT) (w : World) : Calls Try.prog 47 #[.agg #[.int .i64 x.1, .slice x.2.1.1 x.2.1.2.2.length x.2.1.2.1, .int .i64 x.2.2]] w fun e w' => e = .returned (.bool (notP (stT x))) ∧ Below w.heap.size w w' := by
  obtain ⟨V, hV⟩ : ∃ V, w.alloc (.cells #[.int .i64 x.1, .slice x.2.1.1 x.2.1.2.2.length x.2.1.2.1, .int .i64 x.2.2] 59) = V := ⟨_, rfl⟩
  have TV : Blk w.heap.size [.int .i64 x.1, .slice x.2.1.1 x.2.1.2.2.length x.2.1.2.1, .int .i64 x.2.2] V := by rw [← hV]; exact Blk.new _ _ _
  have BC : Below w.heap.size w V := by rw [← hV]; exact (Below.refl _ _).alloc (Nat.le_refl _) _
  have d0 := TV.at 0 rfl
  have d1 := TV.at 1 rfl
  have d2 := TV.at 2 rfl
  have HN : Hid (notP (stT x) = if x.1 = 1 ∨ x.1 = 2 then decide (x.2.1.2.2.length = 0) else if x.1 = 5 then decide (x.2.2 = 0) else false) := (rfl : notP (stT x) = _)
  generalize notP (stT x) = nb at HN ⊢
  by_cases h12 : x.1 = 1 ∨ x.1 = 2
  · have HN2 : Hid (nb = ((x.2.1.2.2.length : Int) == 0)) := by
      show _ = _
      rw [HN.out, if_pos h12]
      by_cases e : x.2.1.2.2.length = 0 <;> simp [e]
    clear HN
    generalize hb : ((x.2.1.2.2.length : Int) == 0) = lb at HN2
    by_cases h1 : x.1 = 1
    · have e1 : (x.1 == 1) = true := beq_iff_eq.2 h1
      clear h1 h12
      go_enter Try.func47, Try.ntmps47
      go_wp2
      try rw [hV]
      go_ret
      exact ⟨by rw [HN2.out]; rfl, BC⟩
    · have e1 : (x.1 == 1) = false := beq_eq_false_iff_ne.2 h1
      have e2 : (x.1 == 2) = true := beq_iff_eq.2 (h12.resolve_left h1)
      clear h1 h12
      go_enter Try.func47, Try.ntmps47
      go_wp2
      try rw [hV]
      go_ret
      exact ⟨by rw [HN2.out]; rfl, BC⟩
  · have e1 : (x.1 == 1) = false := beq_eq_false_iff_ne.2 (fun c => h12 (Or.inl c))
    have e2 : (x.1 == 2) = false := beq_eq_false_iff_ne.2 (fun c => h12 (Or.inr c))
    by_cases h5 : x.1 = 5
    · have e5 : (x.1 == 5) = true := beq_iff_eq.2 h5
      have HN2 : Hid (nb = (x.2.2 == 0)) := by
        show _ = _
        rw [HN.out, if_neg h12, if_pos h5]
        by_cases e : x.2.2 = 0 <;> simp [e]
      clear HN h5 h12
      generalize hb : (x.2.2 == 0) = lb at HN2
      go_enter Try.func47, Try.ntmps47
      go_wp2
      try rw [hV]
      go_ret
      exact ⟨by rw [HN2.out]; rfl, BC⟩
    · have e5 : (x.1 == 5) = false := beq_eq_false_iff_ne.2 h5
      have HN2 : Hid (nb = false) := by show _ = _; rw [HN.out, if_neg h12, if_neg h5]
      clear HN h5 h12
      go_enter Try.func47, Try.ntmps47
      go_wp2
      try rw [hV]
      go_ret
      exact ⟨by rw [HN2.out]; rfl, BC⟩
set_option maxRecDepth 100000 in
set_option maxHeartbeats 3200000 in
theorem idxN_is (a : Option Addr) (cap : Nat) (xs : List TT) (w : World) (hr : FRow 3 cT w a xs) (hl : xs.length ≤ 1048576) (HG : ∀ x ∈ xs, ∀ w', Below w.heap.size w w' → Calls Try.prog 47 #[.agg #[.int .i64 x.1, .slice x.2.1.1 x.2.1.2.2.length x.2.1.2.1, .int .i64 x.2.2]] w' fun e w'' => e = .returned (.bool (!(!(notP (stT x))))) ∧ Below w'.heap.size w' w'') :
    Calls Try.prog 80 #[.slice a xs.length cap, .func (.func 47) #[] #[]] w fun e w' => IdxP (xs.all (fun x => !(notP (stT x)))) e ∧ Below w.heap.size w w' := by
  go_enter Try.func80, Try.ntmps80
  go_wp2
  go_loopw [8] (fun i wr => ∃ k : Nat, k ≤ xs.length ∧ i = .int .i64 k ∧ Hid (∀ j (h : j < xs.length), j < k → (fun x => !(notP (stT x))) xs[j] = true) ∧ Below w.heap.size w wr) (fun i _ => xs.length - (intOf i).toNat)
  case atStart => exact ⟨0, by omega, rfl, fun j h hj => absurd hj (by omega), Below.refl _ _⟩
  case round =>
    obtain ⟨k, hk, rfl, hno, hbel⟩ := hrel
    by_cases hlt : k < xs.length
    · obtain ⟨b1, o1, rfl, l1, hcc⟩ := hr k hlt
      have c0 : wr.cell? ⟨b1, o1 + k * 3, none⟩ = some (.int .i64 xs[k].1) := (hbel.cell (p := ⟨b1, o1 + k * 3, none⟩) l1).trans (hcc 0 _ rfl)
      have c1 : wr.cell? ⟨b1, o1 + k * 3 + 1, none⟩ = some (.slice xs[k].2.1.1 xs[k].2.1.2.2.length xs[k].2.1.2.1) := (hbel.cell (p := ⟨b1, o1 + k * 3 + 1, none⟩) l1).trans (hcc 1 _ rfl)
      have c2 : wr.cell? ⟨b1, o1 + k * 3 + 2, none⟩ = some (.int .i64 xs[k].2.2) := (hbel.cell (p := ⟨b1, o1 + k * 3 + 2, none⟩) l1).trans (hcc 2 _ rfl)
      have hlt2 : (k : Int) < (xs.length : Int) := by omega
      have K1 := HG xs[k] (List.getElem_mem hlt) wr hbel
      have hno2 : (fun x => !(notP (stT x))) xs[k] = true → Hid (∀ j (h : j < xs.length), j < k + 1 → (fun x => !(notP (stT x))) xs[j] = true) := fun he j h hj => by
        by_cases e : j = k
        · subst e; exact he
        · exact hno.out j h (by omega)
      have hbad : (fun x => !(notP (stT x))) xs[k] = false → Hid (xs.all (fun x => !(notP (stT x))) = false) := fun he => by
        show _ = _
        rw [List.all_eq_false]
        exact ⟨xs[k], List.getElem_mem hlt, fun h => absurd (h.symm.trans he) (by decide)⟩
      clear HG hno
      generalize hxk : xs[k] = x at K1 hno2 hbad c0 c1 c2
      clear hxk hcc
      dsimp only at hno2 hbad
      generalize hb0 : (!(notP (stT x))) = b at K1 hno2 hbad
      clear hb0
      go_wp2_with fail
      refine K1.mono ?_
      clear K1 c0 c1 c2
      rintro en v0 ⟨rfl, hb⟩
      replace hbel := hbel.trans (hb.mono hbel.size)
      clear hb
      cases b with
      | true =>
        have hno3 := hno2 rfl
        clear hno2 hbad
        go_wp2
        go_roundw
        case rel => exact ⟨k + 1, by omega, by go_num, hno3, hbel⟩
        case measure => simp [intOf]; omega
      | false =>
        have hbd := hbad rfl
        clear hno2 hbad
        go_wp2
        go_ret
        refine ⟨?_, hbel⟩
        rw [hbd.out]
        exact ⟨(k : Int), rfl, by simp⟩
    · have HV : Hid (xs.all (fun x => !(notP (stT x))) = true) := by
        show _ = _
        rw [List.all_eq_true]
        intro x hx
        obtain ⟨j, hj, rfl⟩ := List.mem_iff_getElem.1 hx
        exact hno.out j hj (by omega)
      have hlt2 : ¬ (k : Int) < (xs.length : Int) := by omega
      clear hno HG hr
      go_wp2
      go_ret
      refine ⟨?_, hbel⟩
      rw [HV.out]
      exact ⟨-1, rfl, by simp⟩
set_option maxRecDepth 100000 in
set_option maxHeartbeats 3200000 in
theorem contN_is (a : Option Addr) (cap : Nat) (xs : List TT) (w : World) (hr : FRow 3 cT w a xs) (hl : xs.length ≤ 1048576) :
    Calls Try.prog 46 #[.slice a xs.length cap, .func (.func 47) #[] #[]] w fun e w' => e = .returned (.bool ((xs.map stT).any notP)) ∧ Below w.heap.size w w' := by
  have K1 := idxN_is a cap xs w hr hl (fun x _ w' _ => by rw [Bool.not_not]; exact nothing_is x w')
  have hb : xs.all (fun x => !(notP (stT x))) = !((xs.map stT).any notP) := by rw [List.any_map, List.not_any_eq_all_not]; rfl
  rw [hb] at K1
  clear hb
  generalize (xs.map stT).any notP = b at K1 ⊢
  go_enter Try.func46, Try.ntmps46
  go_wp2_with fail
  refine K1.mono ?_
  clear K1
  rintro en v0 ⟨⟨r, rfl, hd⟩, hb⟩
  rw [Bool.not_not] at hd
  cases b with
  | false =>
    have hr2 : ¬ (0 ≤ r) := by simpa using hd
    go_wp2
    go_ret
    exact ⟨rfl, hb⟩
  | true =>
    have hr2 : 0 ≤ r := by simpa using hd
    go_wp2
    go_ret
    exact ⟨rfl, hb⟩
set_option maxRecDepth 100000 in
set_option maxHeartbeats 3200000 in
theorem sclo_is (q : Rw TT) (x : TT) (lp : Nat) (w : World) (hlp : lp < w.heap.size) (hc : w.cell? ⟨lp, 0, none⟩ = some (.slice q.1 q.2.2.length q.2.1)) (hq : RpT w q) (hok : okL (rsT q) = true) (hx : DpT w x) (hxk : okP (stT x) = true) :
    Calls Try.prog 49 #[.agg #[.int .i64 x.1, .slice x.2.1.1 x.2.1.2.2.length x.2.1.2.1, .int .i64 x.2.2], .pointer (some ⟨lp, 0, none⟩)] w fun e w' => e = .returned (.bool (asksP (rsT q) (stT x))) ∧ Below w.heap.size w w' := by
  obtain ⟨V, hV⟩ : ∃ V, w.alloc (.cells #[.int .i64 x.1, .slice x.2.1.1 x.2.1.2.2.length x.2.1.2.1, .int .i64 x.2.2] 59) = V := ⟨_, rfl⟩
  have TV : Blk w.heap.size [.int .i64 x.1, .slice x.2.1.1 x.2.1.2.2.length x.2.1.2.1, .int .i64 x.2.2] V := by rw [← hV]; exact Blk.new _ _ _
  have BC : Below w.heap.size w V := by rw [← hV]; exact (Below.refl _ _).alloc (Nat.le_refl _) _
  have K1 := asks_is q x V (hq.later BC) hok (hx.later BC) hxk
  have c0 := (BC.cell (p := ⟨lp, 0, none⟩) hlp).trans hc
  have d0 := TV.at 0 rfl
  have d1 := TV.at 1 rfl
  have d2 := TV.at 2 rfl
  clear hok hxk hq hx
  generalize asksP (rsT q) (stT x) = b at K1 ⊢
  go_enter Try.func49, Try.ntmps49
  go_wp2_with fail
  try rw [hV]
  refine K1.mono ?_
  clear K1
  rintro en v0 ⟨rfl, hb⟩
  replace BC := BC.trans (hb.mono BC.size)
  clear hb
  go_wp2
  go_ret
  exact ⟨rfl, BC⟩
set_option maxRecDepth 100000 in
set_option maxHeartbeats 3200000 in
theorem cloC_is (lp : Nat) (q : List PT) (x : TT) (fp : Nat) (w : World) (hfp : fp < w.heap.size) (hc : w.cell? ⟨fp, 0, none⟩ = some (.func (.func 49) #[] #[.pointer (some ⟨lp, 0, none⟩)])) (HG : ∀ w', Below w.heap.size w w' → Calls Try.prog 49 #[.agg #[.int .i64 x.1, .slice x.2.1.1 x.2.1.2.2.length x.2.1.2.1, .int .i64 x.2.2], .pointer (some ⟨lp, 0, none⟩)] w' fun e w'' => e = .returned (.bool (asksP q (stT x))) ∧ Below w'.heap.size w' w'') :
    Calls Try.prog 81 #[.agg #[.int .i64 x.1, .slice x.2.1.1 x.2.1.2.2.length x.2.1.2.1, .int .i64 x.2.2], .pointer (some ⟨fp, 0, none⟩)] w fun e w' => e = .returned (.bool (!(asksP q (stT x)))) ∧ Below w.heap.size w w' := by
  generalize asksP q (stT x) = b at HG ⊢
  obtain ⟨V, hV⟩ : ∃ V, w.alloc (.cells #[.int .i64 x.1, .slice x.2.1.1 x.2.1.2.2.length x.2.1.2.1, .int .i64 x.2.2] 59) = V := ⟨_, rfl⟩
  have TV : Blk w.heap.size [.int .i64 x.1, .slice x.2.1.1 x.2.1.2.2.length x.2.1.2.1, .int .i64 x.2.2] V := by rw [← hV]; exact Blk.new _ _ _
  have BC : Below w.heap.size w V := by rw [← hV]; exact (Below.refl _ _).alloc (Nat.le_refl _) _
  have K1 := HG V BC
  have c0 := (BC.cell (p := ⟨fp, 0, none⟩) hfp).trans hc
  have d0 := TV.at 0 rfl
  have d1 := TV.at 1 rfl
  have d2 := TV.at 2 rfl
  clear HG
  go_enter Try.func81, Try.ntmps81
  go_wp2_with fail
  try rw [hV]
  refine K1.mono ?_
  clear K1
  rintro en v0 ⟨rfl, hb⟩
  replace BC := BC.trans (hb.mono BC.size)
  clear hb
  cases b with
  | true =>
    go_wp2
    go_ret
    exact ⟨rfl, BC⟩
  | false =>
    go_wp2
    go_ret
    exact ⟨rfl, BC⟩
set_option maxRecDepth 100000 in
set_option maxHeartbeats 3200000 in
theorem idxC_is (lp : Nat) (q : List PT) (a : Option Addr) (cap : Nat) (xs : List TT) (fp : Nat) (w : World) (hr : FRow 3 cT w a xs) (hl : xs.length ≤ 1048576) (hfp : fp < w.heap.size) (hc : w.cell? ⟨fp, 0, none⟩ = some (.func (.func 49) #[] #[.pointer (some ⟨lp, 0, none⟩)])) (HG : ∀ x ∈ xs, ∀ w', Below w.heap.size w w' → Calls Try.prog 49 #[.agg #[.int .i64 x.1, .slice x.2.1.1 x.2.1.2.2.length x.2.1.2.1, .int .i64 x.2.2], .pointer (some ⟨lp, 0, none⟩)] w' fun e w'' => e = .returned (.bool (asksP q (stT x))) ∧ Below w'.heap.size w' w'') :
    Calls Try.prog 80 #[.slice a xs.length cap, .func (.func 81) #[] #[.pointer (some ⟨fp, 0, none⟩)]] w fun e w' => IdxP (xs.all (fun x => asksP q (stT x))) e ∧ Below w.heap.size w w' := by
  go_enter Try.func80, Try.ntmps80
  go_wp2
  go_loopw [8] (fun i wr => ∃ k : Nat, k ≤ xs.length ∧ i = .int .i64 k ∧ Hid (∀ j (h : j < xs.length), j < k → (fun x => asksP q (stT x)) xs[j] = true) ∧ Below w.heap.size w wr) (fun i _ => xs.length - (intOf i).toNat)
  case atStart => exact ⟨0, by omega, rfl, fun j h hj => absurd hj (by omega), Below.refl _ _⟩
  case round =>
    obtain ⟨k, hk, rfl, hno, hbel⟩ := hrel
    by_cases hlt : k < xs.length
    · obtain ⟨b1, o1, rfl, l1, hcc⟩ := hr k hlt
      have c0 : wr.cell? ⟨b1, o1 + k * 3, none⟩ = some (.int .i64 xs[k].1) := (hbel.cell (p := ⟨b1, o1 + k * 3, none⟩) l1).trans (hcc 0 _ rfl)
      have c1 : wr.cell? ⟨b1, o1 + k * 3 + 1, none⟩ = some (.slice xs[k].2.1.1 xs[k].2.1.2.2.length xs[k].2.1.2.1) := (hbel.cell (p := ⟨b1, o1 + k * 3 + 1, none⟩) l1).trans (hcc 1 _ rfl)
      have c2 : wr.cell? ⟨b1, o1 + k * 3 + 2, none⟩ = some (.int .i64 xs[k].2.2) := (hbel.cell (p := ⟨b1, o1 + k * 3 + 2, none⟩) l1).trans (hcc 2 _ rfl)
      have hlt2 : (k : Int) < (xs.length : Int) := by omega
      have K1 := cloC_is lp q xs[k] fp wr (Nat.lt_of_lt_of_le hfp hbel.size) ((hbel.cell (p := ⟨fp, 0, none⟩) hfp).trans hc) (fun w' hb => HG xs[k] (List.getElem_mem hlt) w' (hbel.trans (hb.mono hbel.size)))
      have hno2 : (fun x => asksP q (stT x)) xs[k] = true → Hid (∀ j (h : j < xs.length), j < k + 1 → (fun x => asksP q (stT x)) xs[j] = true) := fun he j h hj => by
        by_cases e : j = k
        · subst e; exact he
        · exact hno.out j h (by omega)
      have hbad : (fun x => asksP q (stT x)) xs[k] = false → Hid (xs.all (fun x => asksP q (stT x)) = false) := fun he => by
        show _ = _
        rw [List.all_eq_false]
        exact ⟨xs[k], List.getElem_mem hlt, fun h => absurd (h.symm.trans he) (by decide)⟩
      clear HG hno
      generalize hxk : xs[k] = x at K1 hno2 hbad c0 c1 c2
      clear hxk hcc
      dsimp only at hno2 hbad
      generalize hb0 : asksP q (stT x) = b at K1 hno2 hbad
      clear hb0
      go_wp2_with fail
      refine K1.mono ?_
      clear K1 c0 c1 c2
      rintro en v0 ⟨rfl, hb⟩
      replace hbel := hbel.trans (hb.mono hbel.size)
      clear hb
      cases b with
      | true =>
        have hno3 := hno2 rfl
        clear hno2 hbad
        go_wp2
        go_roundw
        case rel => exact ⟨k + 1, by omega, by go_num, hno3, hbel⟩
        case measure => simp [intOf]; omega
      | false =>
        have hbd := hbad rfl
        clear hno2 hbad
        go_wp2
        go_ret
        refine ⟨?_, hbel⟩
        rw [hbd.out]
        exact ⟨(k : Int), rfl, by simp⟩
    · have HV : Hid (xs.all (fun x => asksP q (stT x)) = true) := by
        show _ = _
        rw [List.all_eq_true]
        intro x hx
        obtain ⟨j, hj, rfl⟩ := List.mem_iff_getElem.1 hx
        exact hno.out j hj (by omega)
      have hlt2 : ¬ (k : Int) < (xs.length : Int) := by omega
      clear hno HG hr
      go_wp2
      go_ret
      refine ⟨?_, hbel⟩
      rw [HV.out]
      exact ⟨-1, rfl, by simp⟩
set_option maxRecDepth 100000 in
set_option maxHeartbeats 3200000 in
theorem allC_is (lp : Nat) (q : List PT) (a : Option Addr) (cap : Nat) (xs : List TT) (w : World) (hr : FRow 3 cT w a xs) (hl : xs.length ≤ 1048576) (HG : ∀ x ∈ xs, ∀ w', Below w.heap.size w w' → Calls Try.prog 49 #[.agg #[.int .i64 x.1, .slice x.2.1.1 x.2.1.2.2.length x.2.1.2.1, .int .i64 x.2.2], .pointer (some ⟨lp, 0, none⟩)] w' fun e w'' => e = .returned (.bool (asksP q (stT x))) ∧ Below w'.heap.size w' w'') :
    Calls Try.prog 48 #[.slice a xs.length cap, .func (.func 49) #[] #[.pointer (some ⟨lp, 0, none⟩)]] w fun e w' => e = .returned (.bool (xs.all (fun x => asksP q (stT x)))) ∧ Below w.heap.size w w' := by
  obtain ⟨V, hV⟩ : ∃ V, w.alloc (.cells #[.func (.func 49) #[] #[.pointer (some ⟨lp, 0, none⟩)]] 65) = V := ⟨_, rfl⟩
  have TV : Blk w.heap.size [.func (.func 49) #[] #[.pointer (some ⟨lp, 0, none⟩)]] V := by rw [← hV]; exact Blk.new _ _ _
  have BC : Below w.heap.size w V := by rw [← hV]; exact (Below.refl _ _).alloc (Nat.le_refl _) _
  have sV : w.heap.size < V.heap.size := by rw [← hV]; simp
  have K1 := idxC_is lp q a cap xs w.heap.size V (hr.later BC) hl sV (TV.at 0 rfl) (fun x hx w' hb => HG x hx w' (BC.trans (hb.mono BC.size)))
  clear HG hr TV sV
  generalize xs.all (fun x => asksP q (stT x)) = b at K1 ⊢
  have K2 : Calls Try.prog 46 #[.slice a xs.length cap, .func (.func 81) #[] #[.pointer (some ⟨w.heap.size, 0, none⟩)]] V fun e w' => e = .returned (.bool (!b)) ∧ Below V.heap.size V w' := by
    go_enter Try.func46, Try.ntmps46
    go_wp2_with fail
    refine K1.mono ?_
    clear K1
    rintro en v0 ⟨⟨r, rfl, hd⟩, hb⟩
    cases b with
    | true =>
      have hr2 : ¬ (0 ≤ r) := by simpa using hd
      go_wp2
      go_ret
      exact ⟨rfl, hb⟩
    | false =>
      have hr2 : 0 ≤ r := by simpa using hd
      go_wp2
      go_ret
      exact ⟨rfl, hb⟩
  clear K1
  go_enter Try.func48, Try.ntmps48
  go_wp2_with fail
  try rw [hV]
  refine K2.mono ?_
  clear K2
  rintro en v0 ⟨rfl, hb⟩
  replace BC := BC.trans (hb.mono BC.size)
  clear hb
  cases b with
  | true =>
    go_wp2
    go_ret
    exact ⟨rfl, BC⟩
  | false =>
    go_wp2
    go_ret
    exact ⟨rfl, BC⟩
set_option maxHeartbeats 6400000 in
theorem implStricter_is (p q : Rw TT) (w : World) (hp : RpT w p) (hq : RpT w q) (lp : rtT p ≤ 1048576) (lq : rtT q ≤ 1048576) :
    Calls Try.prog 17 #[.slice p.1 p.2.2.length p.2.1, .slice q.1 q.2.2.length q.2.1] w fun e w' => e = .returned (.bool (strP (rsT p) (rsT q))) ∧ Below w.heap.size w w' := by
  have p1 := rt_parts lp
  have p2 := rt_parts lq
  have K0 := implRulesOk_is p w hp p1.2 p1.1
  have HS : Hid (strP (rsT p) (rsT q) = (okL (rsT p) && (okL (rsT q) && ((nrmP (rsT p)).any notP || (nrmP (rsT q)).all (asksP (nrmP (rsT p))))))) := str_impl _ _
  have HP : Hid ((∀ x ∈ p.2.2, x.2.1.2.2.length ≤ 1048576) ∧ p.2.2.length ≤ 1048576) := ⟨p1.2, p1.1⟩
  have HQ : Hid ((∀ x ∈ q.2.2, x.2.1.2.2.length ≤ 1048576) ∧ q.2.2.length ≤ 1048576) := ⟨p2.2, p2.1⟩
  generalize strP (rsT p) (rsT q) = ans at HS ⊢
  clear p1 p2 lp lq
  generalize okL (rsT p) = oa at K0 HS
  go_enter Try.func17, Try.ntmps17
  go_wp2_with fail
  refine K0.mono ?_
  clear K0
  rintro en W1 ⟨rfl, BC⟩
  cases oa with
  | false =>
    have HS2 : Hid (ans = false) := by show _ = _; rw [HS.out]; rfl
    clear HS
    go_wp2
    go_ret
    exact ⟨by rw [HS2.out]; rfl, BC⟩
  | true =>
    have K1 := implRulesOk_is q W1 (hq.later BC) HQ.out.1 HQ.out.2
    generalize okL (rsT q) = ob at K1 HS
    go_wp2_with fail
    refine K1.mono ?_
    clear K1
    rintro en W2 ⟨rfl, hb⟩
    replace BC := BC.trans (hb.mono BC.size)
    clear hb
    cases ob with
    | false =>
      have HS2 : Hid (ans = false) := by show _ = _; rw [HS.out]; rfl
      clear HS
      go_wp2
      go_ret
      exact ⟨by rw [HS2.out]; rfl, BC⟩
    | true =>
      have HS2 : Hid (ans = ((nrmP (rsT p)).any notP || (nrmP (rsT q)).all (asksP (nrmP (rsT p))))) := by show _ = _; rw [HS.out]; rfl
      clear HS
      have K2 := implNormal_is p W2 (hp.later BC) HP.out.1 HP.out.2
      go_wp2_with fail
      refine K2.mono ?_
      clear K2
      rintro en W3 ⟨⟨g, rfl, eg, rg, _⟩, hb⟩
      replace BC := BC.trans (hb.mono BC.size)
      clear hb
      obtain ⟨V, hV⟩ : ∃ Z, W3.alloc (.cells #[.slice g.1 g.2.2.length g.2.1] 24) = Z := ⟨_, rfl⟩
      have XA : Below W3.heap.size W3 V := by rw [← hV]; exact (Below.refl _ _).alloc (Nat.le_refl _) _
      have TV : Blk W3.heap.size [.slice g.1 g.2.2.length g.2.1] V := by rw [← hV]; exact Blk.new _ _ _
      have hg := rg.dp.later XA
      replace BC := BC.trans (XA.mono BC.size)
      clear XA rg
      have hgl : g.2.2.length ≤ 1048576 := by have h_ := (nrm_small (rsT p)).1; rw [← eg] at h_; unfold rsT at h_; rw [List.length_map] at h_; omega
      have K3 := contN_is g.1 g.2.1 g.2.2 V hg.1 hgl
      have EG : Hid (rsT g = nrmP (rsT p)) := eg
      have hlt0 : W3.heap.size < V.heap.size := TV.lt
      obtain ⟨gp, hgp⟩ : ∃ gp, W3.heap.size = gp := ⟨_, rfl⟩
      rw [hgp] at TV hlt0
      rw [show (g.2.2.map stT) = nrmP (rsT p) from eg] at K3
      clear eg
      generalize hnb : (nrmP (rsT p)).any notP = nb at K3 HS2
      clear hnb
      have d0 := TV.at 0 rfl
      go_wp2_with fail
      try rw [hV]
      try rw [hgp]
      refine K3.mono ?_
      clear K3 d0 hV hgp
      rintro en W4 ⟨rfl, hb⟩
      replace BC := BC.trans (hb.mono BC.size)
      replace TV := TV.later hb TV.lt
      replace hg := hg.later hb
      replace hlt0 := Nat.lt_of_lt_of_le hlt0 hb.size
      clear hb
      cases nb with
      | true =>
        have HS3 : Hid (ans = true) := by show _ = _; rw [HS2.out]; rfl
        clear HS2
        go_wp2
        go_ret
        exact ⟨by rw [HS3.out]; rfl, BC⟩
      | false =>
        have HS3 : Hid (ans = (nrmP (rsT q)).all (asksP (nrmP (rsT p)))) := by show _ = _; rw [HS2.out]; rfl
        clear HS2
        have K4 := implNormal_is q W4 (hq.later BC) HQ.out.1 HQ.out.2
        go_wp2_with fail
        refine K4.mono ?_
        clear K4
        rintro en W5 ⟨⟨u, rfl, eu, ru, _⟩, hb⟩
        replace BC := BC.trans (hb.mono BC.size)
        replace TV := TV.later hb TV.lt
        replace hg := hg.later hb
        replace hlt0 := Nat.lt_of_lt_of_le hlt0 hb.size
        clear hb
        have hu := ru.dp
        have hul : u.2.2.length ≤ 1048576 := by have h_ := (nrm_small (rsT q)).1; rw [← eu] at h_; unfold rsT at h_; rw [List.length_map] at h_; omega
        have huk : ∀ x ∈ u.2.2, okP (stT x) = true := fun x hx => (nrm_small (rsT q)).2 _ (by rw [← eu]; exact List.mem_map_of_mem hx)
        have K5 := allC_is gp (rsT g) u.1 u.2.1 u.2.2 W5 hu.1 hul (fun x hx w' hb => sclo_is g x gp w' (Nat.lt_of_lt_of_le hlt0 hb.size) ((hb.cell (p := ⟨gp, 0, none⟩) hlt0).trans (TV.at 0 rfl)) (hg.later hb) (by rw [EG.out]; exact nrm_ok _) ((hu.2 x hx).later hb) (huk x hx))
        have HE : Hid (ans = u.2.2.all (fun x => asksP (rsT g) (stT x))) := by
          show _ = _
          rw [HS3.out, ← eu, EG.out]
          unfold rsT
          rw [List.all_map]; rfl
        clear HS3 huk hul eu hu ru hg
        generalize u.2.2.all (fun x => asksP (rsT g) (stT x)) = al at K5 HE
        go_wp2_with fail
        refine K5.mono ?_
        clear K5
        rintro en W6 ⟨rfl, hb⟩
        replace BC := BC.trans (hb.mono BC.size)
        clear hb
        go_wp2
        go_ret
        exact ⟨by rw [HE.out]; rfl, BC⟩
end Go.Proofs.Ytjbbhegijlnndaa.Nd
