/- Sizes. -/
import Derived.Test.YtbpodcfbijhboaaNd0
set_option linter.unusedVariables false
set_option maxRecDepth 100000
namespace Go.Proofs.Ytbpodcfbijhboaa.Nd
open Go Go.RowKit Go.Joins Own Draw

set_option maxRecDepth 100000 in
set_option maxHeartbeats 1600000 in
theorem szSS_is (r : Rw ByteArray) (n : Nat) (w : World) (hn : n ≤ 1048576) (hd : RpS w r) (hl : RlS r) : Calls Try.prog 43 #[.slice r.1 r.2.2.length r.2.1, .int .i64 n] w fun en w' => en = .returned (.int .i64 (szV (rtS r) n)) ∧ Below w.heap.size w w' := by
  obtain ⟨a, cap, xs⟩ := r
  obtain ⟨hlen, hLm⟩ := hl
  dsimp only at hlen hLm ⊢
  have hr : RowAt Value.string w a xs := hd
  have HT : Hid (rtS (a, cap, xs) = xs.length + (xs.map ByteArray.size).sum) := (rfl : rtS (a, cap, xs) = _)
  unfold maxLen at hlen
  clear hd
  by_cases h0 : xs.length ≤ n
  · obtain ⟨n1, hn1⟩ : ∃ n1, n - xs.length = n1 := ⟨_, rfl⟩
    have e0 : (n : Int) - (xs.length : Int) = (n1 : Int) := by omega
    have d0 : ¬ ((n1 : Int) < 0) := by omega
    replace hn1 : Hid (n - xs.length = n1) := hn1
    go_enter Try.func43, Try.ntmps43
    go_wp2
    clear e0 d0
    go_loopw [1, 5] (fun lv iv wr => ∃ k m : Nat, k ≤ xs.length ∧ iv = .int .i64 k ∧ lv = .int .i64 m ∧ Hid (m + ((xs.take k).map ByteArray.size).sum = n1) ∧ m ≤ 1048576 ∧ Below w.heap.size w wr) (fun _ iv _ => xs.length - (intOf iv).toNat)
    case atStart => exact ⟨0, n1, by omega, rfl, rfl, (by simp : n1 + ((xs.take 0).map ByteArray.size).sum = n1), (by have := hn1.out; omega), Below.refl _ _⟩
    case round =>
    obtain ⟨k, m, hk, rfl, rfl, HM, hm, hbel⟩ := hrel
    by_cases hlt : k < xs.length
    · have hlt2 : (k : Int) < (xs.length : Int) := by omega
      have hst : (xs.map ByteArray.size).sum = ((xs.take k).map ByteArray.size).sum + xs[k].size + ((xs.drop (k + 1)).map ByteArray.size).sum := by
        conv => lhs; rw [← List.take_append_drop (k + 1) xs]
        rw [List.map_append, List.sum_append, List.take_succ_eq_append_getElem hlt, List.map_append, List.sum_append]
        simp
      have hsm : ((xs.take (k + 1)).map ByteArray.size).sum = ((xs.take k).map ByteArray.size).sum + xs[k].size := by
        rw [List.take_succ_eq_append_getElem hlt, List.map_append, List.sum_append]; simp
      obtain ⟨b1, o1, rfl, l1, hcc⟩ := hr k hlt
      have c0 : wr.cell? ⟨b1, o1 + k, none⟩ = some (.string xs[k]) := (hbel.cell (p := ⟨b1, o1 + k, none⟩) l1).trans hcc
      have hsz := hLm _ (List.getElem_mem hlt)
      unfold maxLen at hsz
      generalize hxk : xs[k] = x at hst hsm c0 hsz
      clear hcc hxk
      replace hst : Hid ((xs.map ByteArray.size).sum = ((xs.take k).map ByteArray.size).sum + x.size + ((xs.drop (k + 1)).map ByteArray.size).sum) := hst
      replace hsm : Hid (((xs.take (k + 1)).map ByteArray.size).sum = ((xs.take k).map ByteArray.size).sum + x.size) := hsm
      by_cases hle : x.size ≤ m
      · have d1 : ¬ (((m - x.size : Nat) : Int) < 0) := by omega
        obtain ⟨m2, hm2⟩ : ∃ m2, m - x.size = m2 := ⟨_, rfl⟩
        have e2 : (m : Int) - (x.size : Int) = (m2 : Int) := by omega
        rw [hm2] at d1
        have HM2 : Hid (m2 + ((xs.take (k + 1)).map ByteArray.size).sum = n1) := by have := HM.out; have := hsm.out; show _ = _; omega
        have hm3 : m2 ≤ 1048576 := by omega
        replace hm2 : Hid (m - x.size = m2) := hm2
        go_wp2
        go_roundw
        case rel => exact ⟨k + 1, m2, by omega, by go_num, rfl, HM2, hm3, hbel⟩
        case measure => simp [intOf]; omega
      · have HV : Hid (szV (rtS (some ⟨b1, o1, none⟩, cap, xs)) n = -1) := by
          have h1 := HM.out; have h2 := hst.out; have h3 := HT.out; have h4 := hn1.out
          show (if _ then _ else _) = _
          exact if_neg (by omega)
        have e3 : (m : Int) - (x.size : Int) < 0 := by omega
        go_wp2
        go_ret
        exact ⟨by rw [HV.out]; rfl, hbel⟩
    · obtain rfl : k = xs.length := by omega
      have HV : Hid (szV (rtS (a, cap, xs)) n = (m : Int)) := by
        have h1 := HM.out; have h3 := HT.out; have h4 := hn1.out
        rw [List.take_length] at h1
        show (if _ then _ else _) = _
        rw [if_pos (by omega)]; omega
      go_wp2
      go_ret
      exact ⟨by rw [HV.out]; rfl, hbel⟩
  · have HV : Hid (szV (rtS (a, cap, xs)) n = -1) := by have h3 := HT.out; show (if _ then _ else _) = _; exact if_neg (by omega)
    have d0 : (n : Int) - (xs.length : Int) < 0 := by omega
    go_enter Try.func43, Try.ntmps43
    go_wp2
    go_ret
    exact ⟨by rw [HV.out]; rfl, Below.refl _ _⟩
set_option maxRecDepth 100000 in
set_option maxHeartbeats 3200000 in
theorem szT_is (p : TT) (n : Nat) (w : World) (hn : n ≤ 1048576) (hd : DpT w p) (hl : LmT p) : Calls Try.prog 23 #[vT p, .int .i64 n] w fun en w' => en = .returned (.int .i64 (szV (totT p) n)) ∧ Below w.heap.size w w' := by
  obtain ⟨f0, f1⟩ := p
  have HT : Hid (totT (f0, f1) = rtS f0 + f1.size) := (rfl : totT (f0, f1) = _)
  unfold LmT at hl
  dsimp only at hl
  obtain ⟨hl0, hl1⟩ := hl
  unfold DpT at hd
  dsimp only at hd
  have hd0 := hd
  unfold maxLen at hl1
  obtain ⟨V, hV⟩ : ∃ V, w.alloc (.cells #[.slice f0.1 f0.2.2.length f0.2.1, .string f1] 37) = V := ⟨_, rfl⟩
  have TA : Blk w.heap.size [.slice f0.1 f0.2.2.length f0.2.1, .string f1] V := by rw [← hV]; exact Blk.new _ _ _
  have BC : Below w.heap.size w V := by rw [← hV]; exact (Below.refl _ _).alloc (Nat.le_refl _) _
  have d0 := TA.at 0 rfl
  have d1 := TA.at 1 rfl
  go_enter Try.func23, Try.ntmps23
  go_wp2_with fail
  try rw [hV]
  refine (szSS_is f0 n _ (by omega) (hd0.later BC) hl0).mono ?_
  clear hV
  rintro en v0 ⟨rfl, hb⟩
  replace TA := TA.later hb (World.block_lt_of_cell? _ _ (TA.at 0 rfl))
  replace BC := BC.trans (hb.mono BC.size)
  clear hb d0 d1
  have d0 := TA.at 0 rfl
  have d1 := TA.at 1 rfl
  by_cases h0 : rtS f0 ≤ n
  · rw [show szV (rtS f0) n = ((n - rtS f0 : Nat) : Int) from if_pos h0]
    obtain ⟨q0, hq0⟩ : ∃ q : Nat, n - rtS f0 = q := ⟨_, rfl⟩
    rw [hq0]
    have g0 : ¬ ((q0 : Int) < 0) := by omega
    have gl0 : q0 ≤ 1048576 := by omega
    replace hq0 : Hid (n - rtS f0 = q0) := hq0
    by_cases h1 : f1.size ≤ q0
    · obtain ⟨q1, hq1⟩ : ∃ q : Nat, q0 - f1.size = q := ⟨_, rfl⟩
      have e1 : (q0 : Int) - (f1.size : Int) = (q1 : Int) := by omega
      have g1 : ¬ ((q1 : Int) < 0) := by omega
      have gl1 : q1 ≤ 1048576 := by omega
      replace hq1 : Hid (q0 - f1.size = q1) := hq1
      have HE : Hid (szV (totT (f0, f1)) n = (q1 : Int)) := by
        have hT := HT.out; have := hq0.out; have := hq1.out
        show (if _ then _ else _) = _
        rw [if_pos (by omega)]; omega
      go_wp2
      go_ret
      exact ⟨by rw [HE.out]; rfl, BC⟩
    · have HE : Hid (szV (totT (f0, f1)) n = -1) := by
        have hT := HT.out; have := hq0.out
        show (if _ then _ else _) = _
        exact if_neg (by omega)
      have e1 : (q0 : Int) - (f1.size : Int) < 0 := by omega
      go_wp2
      go_ret
      exact ⟨by rw [HE.out]; rfl, BC⟩
  · have HE : Hid (szV (totT (f0, f1)) n = -1) := by
      have hT := HT.out
      show (if _ then _ else _) = _
      exact if_neg (by omega)
    rw [show szV (rtS f0) n = -1 from if_neg h0]
    go_wp2
    go_ret
    exact ⟨by rw [HE.out]; rfl, BC⟩
end Go.Proofs.Ytbpodcfbijhboaa.Nd
