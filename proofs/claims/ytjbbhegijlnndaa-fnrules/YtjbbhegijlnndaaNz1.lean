/- Sizes. -/
import Derived.Test.YtjbbhegijlnndaaNd0
set_option linter.unusedVariables false
set_option maxRecDepth 100000
namespace Go.Proofs.Ytjbbhegijlnndaa.Nd
open Go Go.RowKit Go.Joins Own Draw

set_option maxRecDepth 100000 in
theorem szFI_is (a : Option Addr) (l cap : Nat) (n : Nat) (w : World) (hn : n ≤ 1048576) (hl : l ≤ maxLen) :
    Calls Try.prog 71 #[.slice a l cap, .int .i64 n] w fun en w' => en = .returned (.int .i64 (if l ≤ n then ((n - l : Nat) : Int) else -1)) ∧ w = w' := by
  unfold maxLen at hl
  by_cases h : l ≤ n
  · have hd : ¬ ((n : Int) - (l : Int) < 0) := by omega
    have hw : ((n : Int) - (l : Int)) = ((n - l : Nat) : Int) := by omega
    rw [if_pos h]
    go_enter Try.func71, Try.ntmps71
    go_wp2
    go_ret
    exact ⟨by rw [← hw]; rfl, rfl⟩
  · have hd : ((n : Int) - (l : Int) < 0) := by omega
    rw [if_neg h]
    go_enter Try.func71, Try.ntmps71
    go_wp2
    go_ret
    exact ⟨rfl, rfl⟩
theorem szSI_is (r : Rw Int) (n : Nat) (w : World) (hn : n ≤ 1048576) (hd : RpI w r) (hl : RlI r) : Calls Try.prog 71 #[.slice r.1 r.2.2.length r.2.1, .int .i64 n] w fun en w' => en = .returned (.int .i64 (szV (rtI r) n)) ∧ Below w.heap.size w w' :=
  (szFI_is r.1 r.2.2.length r.2.1 n w hn hl).mono fun e w' h => ⟨h.1, h.2 ▸ Below.refl _ _⟩
set_option maxRecDepth 100000 in
set_option maxHeartbeats 3200000 in
theorem szT_is (p : TT) (n : Nat) (w : World) (hn : n ≤ 1048576) (hd : DpT w p) (hl : LmT p) : Calls Try.prog 67 #[vT p, .int .i64 n] w fun en w' => en = .returned (.int .i64 (szV (totT p) n)) ∧ Below w.heap.size w w' := by
  obtain ⟨f0, f1, f2⟩ := p
  have HT : Hid (totT (f0, f1, f2) = rtI f1) := (rfl : totT (f0, f1, f2) = _)
  unfold LmT at hl
  dsimp only at hl
  have hl0 := hl
  unfold DpT at hd
  dsimp only at hd
  have hd0 := hd
  obtain ⟨V, hV⟩ : ∃ V, w.alloc (.cells #[.int .i64 f0, .slice f1.1 f1.2.2.length f1.2.1, .int .i64 f2] 88) = V := ⟨_, rfl⟩
  have TA : Blk w.heap.size [.int .i64 f0, .slice f1.1 f1.2.2.length f1.2.1, .int .i64 f2] V := by rw [← hV]; exact Blk.new _ _ _
  have BC : Below w.heap.size w V := by rw [← hV]; exact (Below.refl _ _).alloc (Nat.le_refl _) _
  have d1 := TA.at 1 rfl
  go_enter Try.func67, Try.ntmps67
  go_wp2_with fail
  try rw [hV]
  refine (szSI_is f1 n _ (by omega) (hd0.later BC) hl0).mono ?_
  clear hV
  rintro en v0 ⟨rfl, hb⟩
  replace TA := TA.later hb (World.block_lt_of_cell? _ _ (TA.at 0 rfl))
  replace BC := BC.trans (hb.mono BC.size)
  clear hb d1
  have d1 := TA.at 1 rfl
  by_cases h0 : rtI f1 ≤ n
  · rw [show szV (rtI f1) n = ((n - rtI f1 : Nat) : Int) from if_pos h0]
    obtain ⟨q0, hq0⟩ : ∃ q : Nat, n - rtI f1 = q := ⟨_, rfl⟩
    rw [hq0]
    have g0 : ¬ ((q0 : Int) < 0) := by omega
    have gl0 : q0 ≤ 1048576 := by omega
    replace hq0 : Hid (n - rtI f1 = q0) := hq0
    have HE : Hid (szV (totT (f0, f1, f2)) n = (q0 : Int)) := by
      have hT := HT.out; have := hq0.out
      show (if _ then _ else _) = _
      rw [if_pos (by omega)]; omega
    go_wp2
    go_ret
    exact ⟨by rw [HE.out]; rfl, BC⟩
  · have HE : Hid (szV (totT (f0, f1, f2)) n = -1) := by
      have hT := HT.out
      show (if _ then _ else _) = _
      exact if_neg (by omega)
    rw [show szV (rtI f1) n = -1 from if_neg h0]
    go_wp2
    go_ret
    exact ⟨by rw [HE.out]; rfl, BC⟩
set_option maxRecDepth 100000 in
set_option maxHeartbeats 1600000 in
theorem szST_is (r : Rw TT) (n : Nat) (w : World) (hn : n ≤ 1048576) (hd : RpT w r) (hl : RlT r) : Calls Try.prog 30 #[.slice r.1 r.2.2.length r.2.1, .int .i64 n] w fun en w' => en = .returned (.int .i64 (szV (rtT r) n)) ∧ Below w.heap.size w w' := by
  obtain ⟨a, cap, xs⟩ := r
  obtain ⟨hlen, hLm⟩ := hl
  dsimp only at hlen hLm ⊢
  have hr : FRow 3 cT w a xs := hd.1
  have hDp : ∀ x ∈ xs, DpT w x := hd.2
  have HT : Hid (rtT (a, cap, xs) = xs.length + (xs.map totT).sum) := (rfl : rtT (a, cap, xs) = _)
  unfold maxLen at hlen
  clear hd
  by_cases h0 : xs.length ≤ n
  · obtain ⟨n1, hn1⟩ : ∃ n1, n - xs.length = n1 := ⟨_, rfl⟩
    have e0 : (n : Int) - (xs.length : Int) = (n1 : Int) := by omega
    have d0 : ¬ ((n1 : Int) < 0) := by omega
    replace hn1 : Hid (n - xs.length = n1) := hn1
    go_enter Try.func30, Try.ntmps30
    go_wp2
    clear e0 d0
    go_loopw [1, 5] (fun lv iv wr => ∃ k m : Nat, k ≤ xs.length ∧ iv = .int .i64 k ∧ lv = .int .i64 m ∧ Hid (m + ((xs.take k).map totT).sum = n1) ∧ m ≤ 1048576 ∧ Below w.heap.size w wr) (fun _ iv _ => xs.length - (intOf iv).toNat)
    case atStart => exact ⟨0, n1, by omega, rfl, rfl, (by simp : n1 + ((xs.take 0).map totT).sum = n1), (by have := hn1.out; omega), Below.refl _ _⟩
    case round =>
    obtain ⟨k, m, hk, rfl, rfl, HM, hm, hbel⟩ := hrel
    by_cases hlt : k < xs.length
    · have hlt2 : (k : Int) < (xs.length : Int) := by omega
      have hst : (xs.map totT).sum = ((xs.take k).map totT).sum + totT xs[k] + ((xs.drop (k + 1)).map totT).sum := by
        conv => lhs; rw [← List.take_append_drop (k + 1) xs]
        rw [List.map_append, List.sum_append, List.take_succ_eq_append_getElem hlt, List.map_append, List.sum_append]
        simp
      have hsm : ((xs.take (k + 1)).map totT).sum = ((xs.take k).map totT).sum + totT xs[k] := by
        rw [List.take_succ_eq_append_getElem hlt, List.map_append, List.sum_append]; simp
      obtain ⟨b1, o1, rfl, l1, hcc⟩ := hr k hlt
      have c0 : wr.cell? ⟨b1, o1 + k * 3, none⟩ = some (.int .i64 xs[k].1) := (hbel.cell (p := ⟨b1, o1 + k * 3, none⟩) l1).trans (hcc 0 _ rfl)
      have c1 : wr.cell? ⟨b1, o1 + k * 3 + 1, none⟩ = some (.slice xs[k].2.1.1 xs[k].2.1.2.2.length xs[k].2.1.2.1) := (hbel.cell (p := ⟨b1, o1 + k * 3 + 1, none⟩) l1).trans (hcc 1 _ rfl)
      have c2 : wr.cell? ⟨b1, o1 + k * 3 + 2, none⟩ = some (.int .i64 xs[k].2.2) := (hbel.cell (p := ⟨b1, o1 + k * 3 + 2, none⟩) l1).trans (hcc 2 _ rfl)
      have K1 := szT_is xs[k] m wr (by omega) ((hDp _ (List.getElem_mem hlt)).later hbel) (hLm _ (List.getElem_mem hlt))
      generalize hxk : xs[k] = x at K1 hst hsm c0 c1 c2
      clear hcc hxk
      replace hst : Hid ((xs.map totT).sum = ((xs.take k).map totT).sum + totT x + ((xs.drop (k + 1)).map totT).sum) := hst
      replace hsm : Hid (((xs.take (k + 1)).map totT).sum = ((xs.take k).map totT).sum + totT x) := hsm
      by_cases hle : totT x ≤ m
      · have d1 : ¬ (((m - totT x : Nat) : Int) < 0) := by omega
        rw [show szV (totT x) m = ((m - totT x : Nat) : Int) from if_pos hle] at K1
        obtain ⟨m2, hm2⟩ : ∃ m2, m - totT x = m2 := ⟨_, rfl⟩
        rw [hm2] at K1
        rw [hm2] at d1
        have HM2 : Hid (m2 + ((xs.take (k + 1)).map totT).sum = n1) := by have := HM.out; have := hsm.out; show _ = _; omega
        have hm3 : m2 ≤ 1048576 := by omega
        replace hm2 : Hid (m - totT x = m2) := hm2
        go_wp2_with fail
        refine K1.mono ?_
        clear K1
        rintro en w2 ⟨rfl, hb2⟩
        replace hbel := hbel.trans (hb2.mono hbel.size)
        clear hb2 c0 c1 c2
        go_wp2
        go_roundw
        case rel => exact ⟨k + 1, m2, by omega, by go_num, rfl, HM2, hm3, hbel⟩
        case measure => simp [intOf]; omega
      · have HV : Hid (szV (rtT (some ⟨b1, o1, none⟩, cap, xs)) n = -1) := by
          have h1 := HM.out; have h2 := hst.out; have h3 := HT.out; have h4 := hn1.out
          show (if _ then _ else _) = _
          exact if_neg (by omega)
        rw [show szV (totT x) m = -1 from if_neg hle] at K1
        go_wp2_with fail
        refine K1.mono ?_
        clear K1
        rintro en w2 ⟨rfl, hb2⟩
        replace hbel := hbel.trans (hb2.mono hbel.size)
        clear hb2 c0 c1 c2
        go_wp2
        go_ret
        exact ⟨by rw [HV.out]; rfl, hbel⟩
    · obtain rfl : k = xs.length := by omega
      have HV : Hid (szV (rtT (a, cap, xs)) n = (m : Int)) := by
        have h1 := HM.out; have h3 := HT.out; have h4 := hn1.out
        rw [List.take_length] at h1
        show (if _ then _ else _) = _
        rw [if_pos (by omega)]; omega
      go_wp2
      go_ret
      exact ⟨by rw [HV.out]; rfl, hbel⟩
  · have HV : Hid (szV (rtT (a, cap, xs)) n = -1) := by have h3 := HT.out; show (if _ then _ else _) = _; exact if_neg (by omega)
    have d0 : (n : Int) - (xs.length : Int) < 0 := by omega
    go_enter Try.func30, Try.ntmps30
    go_wp2
    go_ret
    exact ⟨by rw [HV.out]; rfl, Below.refl _ _⟩
set_option maxRecDepth 100000 in
set_option maxHeartbeats 3200000 in
theorem szA_is (p : TA) (n : Nat) (w : World) (hn : n ≤ 1048576) (hd : DpA w p) (hl : LmA p) : Calls Try.prog 34 #[vA p, .int .i64 n] w fun en w' => en = .returned (.int .i64 (szV (totA p) n)) ∧ Below w.heap.size w w' := by
  obtain ⟨f0, f1, f2, f3, f4⟩ := p
  have HT : Hid (totA (f0, f1, f2, f3, f4) = rtI f2) := (rfl : totA (f0, f1, f2, f3, f4) = _)
  unfold LmA at hl
  dsimp only at hl
  have hl0 := hl
  unfold DpA at hd
  dsimp only at hd
  have hd0 := hd
  obtain ⟨V, hV⟩ : ∃ V, w.alloc (.cells #[.int .i64 f0, .int .i64 f1, .slice f2.1 f2.2.2.length f2.2.1, .int .i64 f3, .int .i64 f4] 47) = V := ⟨_, rfl⟩
  have TA : Blk w.heap.size [.int .i64 f0, .int .i64 f1, .slice f2.1 f2.2.2.length f2.2.1, .int .i64 f3, .int .i64 f4] V := by rw [← hV]; exact Blk.new _ _ _
  have BC : Below w.heap.size w V := by rw [← hV]; exact (Below.refl _ _).alloc (Nat.le_refl _) _
  have d2 := TA.at 2 rfl
  go_enter Try.func34, Try.ntmps34
  go_wp2_with fail
  try rw [hV]
  refine (szSI_is f2 n _ (by omega) (hd0.later BC) hl0).mono ?_
  clear hV
  rintro en v0 ⟨rfl, hb⟩
  replace TA := TA.later hb (World.block_lt_of_cell? _ _ (TA.at 0 rfl))
  replace BC := BC.trans (hb.mono BC.size)
  clear hb d2
  have d2 := TA.at 2 rfl
  by_cases h0 : rtI f2 ≤ n
  · rw [show szV (rtI f2) n = ((n - rtI f2 : Nat) : Int) from if_pos h0]
    obtain ⟨q0, hq0⟩ : ∃ q : Nat, n - rtI f2 = q := ⟨_, rfl⟩
    rw [hq0]
    have g0 : ¬ ((q0 : Int) < 0) := by omega
    have gl0 : q0 ≤ 1048576 := by omega
    replace hq0 : Hid (n - rtI f2 = q0) := hq0
    have HE : Hid (szV (totA (f0, f1, f2, f3, f4)) n = (q0 : Int)) := by
      have hT := HT.out; have := hq0.out
      show (if _ then _ else _) = _
      rw [if_pos (by omega)]; omega
    go_wp2
    go_ret
    exact ⟨by rw [HE.out]; rfl, BC⟩
  · have HE : Hid (szV (totA (f0, f1, f2, f3, f4)) n = -1) := by
      have hT := HT.out
      show (if _ then _ else _) = _
      exact if_neg (by omega)
    rw [show szV (rtI f2) n = -1 from if_neg h0]
    go_wp2
    go_ret
    exact ⟨by rw [HE.out]; rfl, BC⟩
end Go.Proofs.Ytjbbhegijlnndaa.Nd
