/- Sizes of rows. -/
import Derived.Test.YtjcmbbnklfemcaaGreatNd0
set_option linter.unusedVariables false
set_option maxRecDepth 100000
namespace Go.Proofs.YtjcmbbnklfemcaaGreat.Nd
open Go Go.RowKit Go.Joins Own Draw

set_option maxRecDepth 100000 in
theorem szFI_is (a : Option Addr) (l cap : Nat) (n : Nat) (w : World) (hn : n ≤ 1048576) (hl : l ≤ maxLen) :
    Calls Tryz.prog 26 #[.slice a l cap, .int .i64 n] w fun en w' => en = .returned (.int .i64 (if l ≤ n then ((n - l : Nat) : Int) else -1)) ∧ w = w' := by
  unfold maxLen at hl
  by_cases h : l ≤ n
  · have hd : ¬ ((n : Int) - (l : Int) < 0) := by omega
    have hw : ((n : Int) - (l : Int)) = ((n - l : Nat) : Int) := by omega
    rw [if_pos h]
    go_enter Tryz.func26, Tryz.ntmps26
    go_wp2
    go_ret
    exact ⟨by rw [← hw]; rfl, rfl⟩
  · have hd : ((n : Int) - (l : Int) < 0) := by omega
    rw [if_neg h]
    go_enter Tryz.func26, Tryz.ntmps26
    go_wp2
    go_ret
    exact ⟨rfl, rfl⟩
theorem szSI_is (r : Rw Int) (n : Nat) (w : World) (hn : n ≤ 1048576) (hd : RpI w r) (hl : RlI r) : Calls Tryz.prog 26 #[.slice r.1 r.2.2.length r.2.1, .int .i64 n] w fun en w' => en = .returned (.int .i64 (szV (rtI r) n)) ∧ Below w.heap.size w w' :=
  (szFI_is r.1 r.2.2.length r.2.1 n w hn hl).mono fun e w' h => ⟨h.1, h.2 ▸ Below.refl _ _⟩
set_option maxRecDepth 100000 in
theorem szFP_is (a : Option Addr) (l cap : Nat) (n : Nat) (w : World) (hn : n ≤ 1048576) (hl : l ≤ maxLen) :
    Calls Tryz.prog 61 #[.slice a l cap, .int .i64 n] w fun en w' => en = .returned (.int .i64 (if l ≤ n then ((n - l : Nat) : Int) else -1)) ∧ w = w' := by
  unfold maxLen at hl
  by_cases h : l ≤ n
  · have hd : ¬ ((n : Int) - (l : Int) < 0) := by omega
    have hw : ((n : Int) - (l : Int)) = ((n - l : Nat) : Int) := by omega
    rw [if_pos h]
    go_enter Tryz.func61, Tryz.ntmps61
    go_wp2
    go_ret
    exact ⟨by rw [← hw]; rfl, rfl⟩
  · have hd : ((n : Int) - (l : Int) < 0) := by omega
    rw [if_neg h]
    go_enter Tryz.func61, Tryz.ntmps61
    go_wp2
    go_ret
    exact ⟨rfl, rfl⟩
theorem szSP_is (r : Rw TP) (n : Nat) (w : World) (hn : n ≤ 1048576) (hd : RpP w r) (hl : RlP r) : Calls Tryz.prog 61 #[.slice r.1 r.2.2.length r.2.1, .int .i64 n] w fun en w' => en = .returned (.int .i64 (szV (rtP r) n)) ∧ Below w.heap.size w w' :=
  (szFP_is r.1 r.2.2.length r.2.1 n w hn hl).mono fun e w' h => ⟨h.1, h.2 ▸ Below.refl _ _⟩
set_option maxRecDepth 100000 in
theorem szFW_is (a : Option Addr) (l cap : Nat) (n : Nat) (w : World) (hn : n ≤ 1048576) (hl : l ≤ maxLen) :
    Calls Tryz.prog 21 #[.slice a l cap, .int .i64 n] w fun en w' => en = .returned (.int .i64 (if l ≤ n then ((n - l : Nat) : Int) else -1)) ∧ w = w' := by
  unfold maxLen at hl
  by_cases h : l ≤ n
  · have hd : ¬ ((n : Int) - (l : Int) < 0) := by omega
    have hw : ((n : Int) - (l : Int)) = ((n - l : Nat) : Int) := by omega
    rw [if_pos h]
    go_enter Tryz.func21, Tryz.ntmps21
    go_wp2
    go_ret
    exact ⟨by rw [← hw]; rfl, rfl⟩
  · have hd : ((n : Int) - (l : Int) < 0) := by omega
    rw [if_neg h]
    go_enter Tryz.func21, Tryz.ntmps21
    go_wp2
    go_ret
    exact ⟨rfl, rfl⟩
theorem szSW_is (r : Rw TW) (n : Nat) (w : World) (hn : n ≤ 1048576) (hd : RpW w r) (hl : RlW r) : Calls Tryz.prog 21 #[.slice r.1 r.2.2.length r.2.1, .int .i64 n] w fun en w' => en = .returned (.int .i64 (szV (rtW r) n)) ∧ Below w.heap.size w w' :=
  (szFW_is r.1 r.2.2.length r.2.1 n w hn hl).mono fun e w' h => ⟨h.1, h.2 ▸ Below.refl _ _⟩
set_option maxRecDepth 100000 in
theorem szFA_is (a : Option Addr) (l cap : Nat) (n : Nat) (w : World) (hn : n ≤ 1048576) (hl : l ≤ maxLen) :
    Calls Tryz.prog 100 #[.slice a l cap, .int .i64 n] w fun en w' => en = .returned (.int .i64 (if l ≤ n then ((n - l : Nat) : Int) else -1)) ∧ w = w' := by
  unfold maxLen at hl
  by_cases h : l ≤ n
  · have hd : ¬ ((n : Int) - (l : Int) < 0) := by omega
    have hw : ((n : Int) - (l : Int)) = ((n - l : Nat) : Int) := by omega
    rw [if_pos h]
    go_enter Tryz.func100, Tryz.ntmps100
    go_wp2
    go_ret
    exact ⟨by rw [← hw]; rfl, rfl⟩
  · have hd : ((n : Int) - (l : Int) < 0) := by omega
    rw [if_neg h]
    go_enter Tryz.func100, Tryz.ntmps100
    go_wp2
    go_ret
    exact ⟨rfl, rfl⟩
theorem szSA_is (r : Rw TA) (n : Nat) (w : World) (hn : n ≤ 1048576) (hd : RpA w r) (hl : RlA r) : Calls Tryz.prog 100 #[.slice r.1 r.2.2.length r.2.1, .int .i64 n] w fun en w' => en = .returned (.int .i64 (szV (rtA r) n)) ∧ Below w.heap.size w w' :=
  (szFA_is r.1 r.2.2.length r.2.1 n w hn hl).mono fun e w' h => ⟨h.1, h.2 ▸ Below.refl _ _⟩
set_option maxRecDepth 100000 in
theorem szFE_is (a : Option Addr) (l cap : Nat) (n : Nat) (w : World) (hn : n ≤ 1048576) (hl : l ≤ maxLen) :
    Calls Tryz.prog 24 #[.slice a l cap, .int .i64 n] w fun en w' => en = .returned (.int .i64 (if l ≤ n then ((n - l : Nat) : Int) else -1)) ∧ w = w' := by
  unfold maxLen at hl
  by_cases h : l ≤ n
  · have hd : ¬ ((n : Int) - (l : Int) < 0) := by omega
    have hw : ((n : Int) - (l : Int)) = ((n - l : Nat) : Int) := by omega
    rw [if_pos h]
    go_enter Tryz.func24, Tryz.ntmps24
    go_wp2
    go_ret
    exact ⟨by rw [← hw]; rfl, rfl⟩
  · have hd : ((n : Int) - (l : Int) < 0) := by omega
    rw [if_neg h]
    go_enter Tryz.func24, Tryz.ntmps24
    go_wp2
    go_ret
    exact ⟨rfl, rfl⟩
theorem szSE_is (r : Rw TE) (n : Nat) (w : World) (hn : n ≤ 1048576) (hd : RpE w r) (hl : RlE r) : Calls Tryz.prog 24 #[.slice r.1 r.2.2.length r.2.1, .int .i64 n] w fun en w' => en = .returned (.int .i64 (szV (rtE r) n)) ∧ Below w.heap.size w w' :=
  (szFE_is r.1 r.2.2.length r.2.1 n w hn hl).mono fun e w' h => ⟨h.1, h.2 ▸ Below.refl _ _⟩
set_option maxRecDepth 100000 in
set_option maxHeartbeats 1600000 in
theorem szSS_is (r : Rw ByteArray) (n : Nat) (w : World) (hn : n ≤ 1048576) (hd : RpS w r) (hl : RlS r) : Calls Tryz.prog 19 #[.slice r.1 r.2.2.length r.2.1, .int .i64 n] w fun en w' => en = .returned (.int .i64 (szV (rtS r) n)) ∧ Below w.heap.size w w' := by
  obtain ⟨a, cap, xs⟩ := r
  obtain ⟨hlen, hLm⟩ := hl
  dsimp only at hlen hLm ⊢
  have hr : RowAt Value.string w a xs := hd
  have HT : Hid (rtS (a, cap, xs) = xs.length + (xs.map ByteArray.size).sum) := (rfl : rtS (a, cap, xs) = _)
  unfold maxLen at hlen
  clear hd
  by_cases h0 : xs.length ≤ n
  · obtain ⟨n1, hn1⟩ : ∃ n1, n - xs.length = n1 := ⟨_, rfl⟩
    have e0 : (n : Int) - (xs.length : Int) = (n1 : Int) := by omega
    have d0 : ¬ ((n1 : Int) < 0) := by omega
    replace hn1 : Hid (n - xs.length = n1) := hn1
    go_enter Tryz.func19, Tryz.ntmps19
    go_wp2
    clear e0 d0
    go_loopw [1, 5] (fun lv iv wr => ∃ k m : Nat, k ≤ xs.length ∧ iv = .int .i64 k ∧ lv = .int .i64 m ∧ Hid (m + ((xs.take k).map ByteArray.size).sum = n1) ∧ m ≤ 1048576 ∧ Below w.heap.size w wr) (fun _ iv _ => xs.length - (intOf iv).toNat)
    case atStart => exact ⟨0, n1, by omega, rfl, rfl, (by simp : n1 + ((xs.take 0).map ByteArray.size).sum = n1), (by have := hn1.out; omega), Below.refl _ _⟩
    case round =>
    obtain ⟨k, m, hk, rfl, rfl, HM, hm, hbel⟩ := hrel
    by_cases hlt : k < xs.length
    · have hlt2 : (k : Int) < (xs.length : Int) := by omega
      have hst : (xs.map ByteArray.size).sum = ((xs.take k).map ByteArray.size).sum + xs[k].size + ((xs.drop (k + 1)).map ByteArray.size).sum := by
        conv => lhs; rw [← List.take_append_drop (k + 1) xs]
        rw [List.map_append, List.sum_append, List.take_succ_eq_append_getElem hlt, List.map_append, List.sum_append]
        simp
      have hsm : ((xs.take (k + 1)).map ByteArray.size).sum = ((xs.take k).map ByteArray.size).sum + xs[k].size := by
        rw [List.take_succ_eq_append_getElem hlt, List.map_append, List.sum_append]; simp
      obtain ⟨b1, o1, rfl, l1, hcc⟩ := hr k hlt
      have c0 : wr.cell? ⟨b1, o1 + k, none⟩ = some (.string xs[k]) := (hbel.cell (p := ⟨b1, o1 + k, none⟩) l1).trans hcc
      have hsz := hLm _ (List.getElem_mem hlt)
      unfold maxLen at hsz
      generalize hxk : xs[k] = x at hst hsm c0 hsz
      clear hcc hxk
      replace hst : Hid ((xs.map ByteArray.size).sum = ((xs.take k).map ByteArray.size).sum + x.size + ((xs.drop (k + 1)).map ByteArray.size).sum) := hst
      replace hsm : Hid (((xs.take (k + 1)).map ByteArray.size).sum = ((xs.take k).map ByteArray.size).sum + x.size) := hsm
      by_cases hle : x.size ≤ m
      · have d1 : ¬ (((m - x.size : Nat) : Int) < 0) := by omega
        obtain ⟨m2, hm2⟩ : ∃ m2, m - x.size = m2 := ⟨_, rfl⟩
        have e2 : (m : Int) - (x.size : Int) = (m2 : Int) := by omega
        rw [hm2] at d1
        have HM2 : Hid (m2 + ((xs.take (k + 1)).map ByteArray.size).sum = n1) := by have := HM.out; have := hsm.out; show _ = _; omega
        have hm3 : m2 ≤ 1048576 := by omega
        replace hm2 : Hid (m - x.size = m2) := hm2
        go_wp2
        go_roundw
        case rel => exact ⟨k + 1, m2, by omega, by go_num, rfl, HM2, hm3, hbel⟩
        case measure => simp [intOf]; omega
      · have HV : Hid (szV (rtS (some ⟨b1, o1, none⟩, cap, xs)) n = -1) := by
          have h1 := HM.out; have h2 := hst.out; have h3 := HT.out; have h4 := hn1.out
          show (if _ then _ else _) = _
          exact if_neg (by omega)
        have e3 : (m : Int) - (x.size : Int) < 0 := by omega
        go_wp2
        go_ret
        exact ⟨by rw [HV.out]; rfl, hbel⟩
    · obtain rfl : k = xs.length := by omega
      have HV : Hid (szV (rtS (a, cap, xs)) n = (m : Int)) := by
        have h1 := HM.out; have h3 := HT.out; have h4 := hn1.out
        rw [List.take_length] at h1
        show (if _ then _ else _) = _
        rw [if_pos (by omega)]; omega
      go_wp2
      go_ret
      exact ⟨by rw [HV.out]; rfl, hbel⟩
  · have HV : Hid (szV (rtS (a, cap, xs)) n = -1) := by have h3 := HT.out; show (if _ then _ else _) = _; exact if_neg (by omega)
    have d0 : (n : Int) - (xs.length : Int) < 0 := by omega
    go_enter Tryz.func19, Tryz.ntmps19
    go_wp2
    go_ret
    exact ⟨by rw [HV.out]; rfl, Below.refl _ _⟩
set_option maxRecDepth 100000 in
set_option maxHeartbeats 3200000 in
theorem szC_is (p : TC) (n : Nat) (w : World) (hn : n ≤ 1048576) (hl : LmC p) : Calls Tryz.prog 62 #[vC p, .int .i64 n] w fun en w' => en = .returned (.int .i64 (szV (totC p) n)) ∧ Below w.heap.size w w' := by
  obtain ⟨f0, f1, f2, f3, f4, f5, f6, f7⟩ := p
  have HT : Hid (totC (f0, f1, f2, f3, f4, f5, f6, f7) = f7.size) := (rfl : totC (f0, f1, f2, f3, f4, f5, f6, f7) = _)
  unfold LmC at hl
  dsimp only at hl
  have hl0 := hl
  unfold maxLen at hl0
  obtain ⟨V, hV⟩ : ∃ V, w.alloc (.cells #[.int .i64 f0, .int .i64 f1, .int .i64 f2, .int .i64 f3, .int .i64 f4, .int .i64 f5, .int .i64 f6, .string f7] 118) = V := ⟨_, rfl⟩
  have TA : Blk w.heap.size [.int .i64 f0, .int .i64 f1, .int .i64 f2, .int .i64 f3, .int .i64 f4, .int .i64 f5, .int .i64 f6, .string f7] V := by rw [← hV]; exact Blk.new _ _ _
  have BC : Below w.heap.size w V := by rw [← hV]; exact (Below.refl _ _).alloc (Nat.le_refl _) _
  have d7 := TA.at 7 rfl
  go_enter Tryz.func62, Tryz.ntmps62
  by_cases h0 : f7.size ≤ n
  · obtain ⟨q0, hq0⟩ : ∃ q : Nat, n - f7.size = q := ⟨_, rfl⟩
    have e0 : (n : Int) - (f7.size : Int) = (q0 : Int) := by omega
    have g0 : ¬ ((q0 : Int) < 0) := by omega
    have gl0 : q0 ≤ 1048576 := by omega
    replace hq0 : Hid (n - f7.size = q0) := hq0
    have HE : Hid (szV (totC (f0, f1, f2, f3, f4, f5, f6, f7)) n = (q0 : Int)) := by
      have hT := HT.out; have := hq0.out
      show (if _ then _ else _) = _
      rw [if_pos (by omega)]; omega
    go_wp2
    go_ret
    exact ⟨by rw [HE.out]; rfl, BC⟩
  · have HE : Hid (szV (totC (f0, f1, f2, f3, f4, f5, f6, f7)) n = -1) := by
      have hT := HT.out
      show (if _ then _ else _) = _
      exact if_neg (by omega)
    have e0 : (n : Int) - (f7.size : Int) < 0 := by omega
    go_wp2
    go_ret
    exact ⟨by rw [HE.out]; rfl, BC⟩
set_option maxRecDepth 100000 in
set_option maxHeartbeats 1600000 in
theorem szSC_is (r : Rw TC) (n : Nat) (w : World) (hn : n ≤ 1048576) (hd : RpC w r) (hl : RlC r) : Calls Tryz.prog 22 #[.slice r.1 r.2.2.length r.2.1, .int .i64 n] w fun en w' => en = .returned (.int .i64 (szV (rtC r) n)) ∧ Below w.heap.size w w' := by
  obtain ⟨a, cap, xs⟩ := r
  obtain ⟨hlen, hLm⟩ := hl
  dsimp only at hlen hLm ⊢
  have hr : FRow 8 cC w a xs := hd
  have HT : Hid (rtC (a, cap, xs) = xs.length + (xs.map totC).sum) := (rfl : rtC (a, cap, xs) = _)
  unfold maxLen at hlen
  clear hd
  by_cases h0 : xs.length ≤ n
  · obtain ⟨n1, hn1⟩ : ∃ n1, n - xs.length = n1 := ⟨_, rfl⟩
    have e0 : (n : Int) - (xs.length : Int) = (n1 : Int) := by omega
    have d0 : ¬ ((n1 : Int) < 0) := by omega
    replace hn1 : Hid (n - xs.length = n1) := hn1
    go_enter Tryz.func22, Tryz.ntmps22
    go_wp2
    clear e0 d0
    go_loopw [1, 5] (fun lv iv wr => ∃ k m : Nat, k ≤ xs.length ∧ iv = .int .i64 k ∧ lv = .int .i64 m ∧ Hid (m + ((xs.take k).map totC).sum = n1) ∧ m ≤ 1048576 ∧ Below w.heap.size w wr) (fun _ iv _ => xs.length - (intOf iv).toNat)
    case atStart => exact ⟨0, n1, by omega, rfl, rfl, (by simp : n1 + ((xs.take 0).map totC).sum = n1), (by have := hn1.out; omega), Below.refl _ _⟩
    case round =>
    obtain ⟨k, m, hk, rfl, rfl, HM, hm, hbel⟩ := hrel
    by_cases hlt : k < xs.length
    · have hlt2 : (k : Int) < (xs.length : Int) := by omega
      have hst : (xs.map totC).sum = ((xs.take k).map totC).sum + totC xs[k] + ((xs.drop (k + 1)).map totC).sum := by
        conv => lhs; rw [← List.take_append_drop (k + 1) xs]
        rw [List.map_append, List.sum_append, List.take_succ_eq_append_getElem hlt, List.map_append, List.sum_append]
        simp
      have hsm : ((xs.take (k + 1)).map totC).sum = ((xs.take k).map totC).sum + totC xs[k] := by
        rw [List.take_succ_eq_append_getElem hlt, List.map_append, List.sum_append]; simp
      obtain ⟨b1, o1, rfl, l1, hcc⟩ := hr k hlt
      have c0 : wr.cell? ⟨b1, o1 + k * 8, none⟩ = some (.int .i64 xs[k].1) := (hbel.cell (p := ⟨b1, o1 + k * 8, none⟩) l1).trans (hcc 0 _ rfl)
      have c1 : wr.cell? ⟨b1, o1 + k * 8 + 1, none⟩ = some (.int .i64 xs[k].2.1) := (hbel.cell (p := ⟨b1, o1 + k * 8 + 1, none⟩) l1).trans (hcc 1 _ rfl)
      have c2 : wr.cell? ⟨b1, o1 + k * 8 + 2, none⟩ = some (.int .i64 xs[k].2.2.1) := (hbel.cell (p := ⟨b1, o1 + k * 8 + 2, none⟩) l1).trans (hcc 2 _ rfl)
      have c3 : wr.cell? ⟨b1, o1 + k * 8 + 3, none⟩ = some (.int .i64 xs[k].2.2.2.1) := (hbel.cell (p := ⟨b1, o1 + k * 8 + 3, none⟩) l1).trans (hcc 3 _ rfl)
      have c4 : wr.cell? ⟨b1, o1 + k * 8 + 4, none⟩ = some (.int .i64 xs[k].2.2.2.2.1) := (hbel.cell (p := ⟨b1, o1 + k * 8 + 4, none⟩) l1).trans (hcc 4 _ rfl)
      have c5 : wr.cell? ⟨b1, o1 + k * 8 + 5, none⟩ = some (.int .i64 xs[k].2.2.2.2.2.1) := (hbel.cell (p := ⟨b1, o1 + k * 8 + 5, none⟩) l1).trans (hcc 5 _ rfl)
      have c6 : wr.cell? ⟨b1, o1 + k * 8 + 6, none⟩ = some (.int .i64 xs[k].2.2.2.2.2.2.1) := (hbel.cell (p := ⟨b1, o1 + k * 8 + 6, none⟩) l1).trans (hcc 6 _ rfl)
      have c7 : wr.cell? ⟨b1, o1 + k * 8 + 7, none⟩ = some (.string xs[k].2.2.2.2.2.2.2) := (hbel.cell (p := ⟨b1, o1 + k * 8 + 7, none⟩) l1).trans (hcc 7 _ rfl)
      have K1 := szC_is xs[k] m wr (by omega) (hLm _ (List.getElem_mem hlt))
      generalize hxk : xs[k] = x at K1 hst hsm c0 c1 c2 c3 c4 c5 c6 c7
      clear hcc hxk
      replace hst : Hid ((xs.map totC).sum = ((xs.take k).map totC).sum + totC x + ((xs.drop (k + 1)).map totC).sum) := hst
      replace hsm : Hid (((xs.take (k + 1)).map totC).sum = ((xs.take k).map totC).sum + totC x) := hsm
      by_cases hle : totC x ≤ m
      · have d1 : ¬ (((m - totC x : Nat) : Int) < 0) := by omega
        rw [show szV (totC x) m = ((m - totC x : Nat) : Int) from if_pos hle] at K1
        obtain ⟨m2, hm2⟩ : ∃ m2, m - totC x = m2 := ⟨_, rfl⟩
        rw [hm2] at K1
        rw [hm2] at d1
        have HM2 : Hid (m2 + ((xs.take (k + 1)).map totC).sum = n1) := by have := HM.out; have := hsm.out; show _ = _; omega
        have hm3 : m2 ≤ 1048576 := by omega
        replace hm2 : Hid (m - totC x = m2) := hm2
        go_wp2_with fail
        refine K1.mono ?_
        clear K1
        rintro en w2 ⟨rfl, hb2⟩
        replace hbel := hbel.trans (hb2.mono hbel.size)
        clear hb2 c0 c1 c2 c3 c4 c5 c6 c7
        go_wp2
        go_roundw
        case rel => exact ⟨k + 1, m2, by omega, by go_num, rfl, HM2, hm3, hbel⟩
        case measure => simp [intOf]; omega
      · have HV : Hid (szV (rtC (some ⟨b1, o1, none⟩, cap, xs)) n = -1) := by
          have h1 := HM.out; have h2 := hst.out; have h3 := HT.out; have h4 := hn1.out
          show (if _ then _ else _) = _
          exact if_neg (by omega)
        rw [show szV (totC x) m = -1 from if_neg hle] at K1
        go_wp2_with fail
        refine K1.mono ?_
        clear K1
        rintro en w2 ⟨rfl, hb2⟩
        replace hbel := hbel.trans (hb2.mono hbel.size)
        clear hb2 c0 c1 c2 c3 c4 c5 c6 c7
        go_wp2
        go_ret
        exact ⟨by rw [HV.out]; rfl, hbel⟩
    · obtain rfl : k = xs.length := by omega
      have HV : Hid (szV (rtC (a, cap, xs)) n = (m : Int)) := by
        have h1 := HM.out; have h3 := HT.out; have h4 := hn1.out
        rw [List.take_length] at h1
        show (if _ then _ else _) = _
        rw [if_pos (by omega)]; omega
      go_wp2
      go_ret
      exact ⟨by rw [HV.out]; rfl, hbel⟩
  · have HV : Hid (szV (rtC (a, cap, xs)) n = -1) := by have h3 := HT.out; show (if _ then _ else _) = _; exact if_neg (by omega)
    have d0 : (n : Int) - (xs.length : Int) < 0 := by omega
    go_enter Tryz.func22, Tryz.ntmps22
    go_wp2
    go_ret
    exact ⟨by rw [HV.out]; rfl, Below.refl _ _⟩
end Go.Proofs.YtjcmbbnklfemcaaGreat.Nd

set_option linter.unusedVariables false
set_option maxRecDepth 100000
namespace Go.Proofs.YtjcmbbnklfemcaaGreat.Nd
open Go Go.RowKit Go.Joins Own Draw
set_option maxRecDepth 100000 in
set_option maxHeartbeats 3200000 in
theorem szK_is (p:TK) (n:Nat) (w:World) (hn:n≤1048576) (hd:DpK w p) (hl:LmK p):Calls Tryz.prog 63 #[vK p,.int .i64 n] w fun en w'=>en=.returned (.int .i64 (szV (totK p) n))∧Below w.heap.size w w' := by
 obtain ⟨f0,f1⟩ := p
 have HT:Hid (totK (f0,f1)=rtA f1) := (rfl:totK (f0,f1)=_)
 unfold LmK at hl
 dsimp only at hl
 have hl0 := hl
 unfold DpK at hd
 dsimp only at hd
 have hd0 := hd
 obtain ⟨V,hV⟩:∃ V,w.alloc (.cells #[.int .i64 f0,.slice f1.1 f1.2.2.length f1.2.1] 122)=V := ⟨_,rfl⟩
 have TA:Blk w.heap.size [.int .i64 f0,.slice f1.1 f1.2.2.length f1.2.1] V := by rw [← hV];exact Blk.new _ _ _
 have BC:Below w.heap.size w V := by rw [← hV];exact (Below.refl _ _).alloc (Nat.le_refl _) _
 have d1 := TA.at 1 rfl
 go_enter Tryz.func63,Tryz.ntmps63
 go_wp2_with fail
 try rw [hV]
 refine (szSA_is f1 n _ (by omega) (hd0.later BC) hl0).mono ?_
 clear hV
 rintro en v0 ⟨rfl,hb⟩
 replace TA := TA.later hb (World.block_lt_of_cell? _ _ (TA.at 0 rfl))
 replace BC := BC.trans (hb.mono BC.size)
 clear hb d1
 have d1 := TA.at 1 rfl
 by_cases h0:rtA f1≤n
 ·rw [show szV (rtA f1) n=((n - rtA f1:Nat):Int) from if_pos h0]
  obtain ⟨q0,hq0⟩:∃ q:Nat,n - rtA f1=q := ⟨_,rfl⟩
  rw [hq0]
  have g0:¬ ((q0:Int) < 0) := by omega
  have gl0:q0≤1048576 := by omega
  replace hq0:Hid (n - rtA f1=q0) := hq0
  have HE:Hid (szV (totK (f0,f1)) n=(q0:Int)) := by
   have hT := HT.out;have := hq0.out
   show (if _ then _ else _)=_
   rw [if_pos (by omega)];omega
  go_wp2
  go_ret
  exact ⟨by rw [HE.out];rfl,BC⟩
 ·have HE:Hid (szV (totK (f0,f1)) n=-1) := by
   have hT := HT.out
   show (if _ then _ else _)=_
   exact if_neg (by omega)
  rw [show szV (rtA f1) n=-1 from if_neg h0]
  go_wp2
  go_ret
  exact ⟨by rw [HE.out];rfl,BC⟩
set_option maxRecDepth 100000 in
set_option maxHeartbeats 1600000 in
theorem szSK_is (r:Rw TK) (n:Nat) (w:World) (hn:n≤1048576) (hd:RpK w r) (hl:RlK r):Calls Tryz.prog 23 #[.slice r.1 r.2.2.length r.2.1,.int .i64 n] w fun en w'=>en=.returned (.int .i64 (szV (rtK r) n))∧Below w.heap.size w w' := by
 obtain ⟨a,cap,xs⟩ := r
 obtain ⟨hlen,hLm⟩ := hl
 dsimp only at hlen hLm ⊢
 have hr:FRow 2 cK w a xs := hd.1
 have hDp:∀ x∈xs,DpK w x := hd.2
 have HT:Hid (rtK (a,cap,xs)=xs.length + (xs.map totK).sum) := (rfl:rtK (a,cap,xs)=_)
 unfold maxLen at hlen
 clear hd
 by_cases h0:xs.length≤n
 ·obtain ⟨n1,hn1⟩:∃ n1,n - xs.length=n1 := ⟨_,rfl⟩
  have e0:(n:Int) - (xs.length:Int)=(n1:Int) := by omega
  have d0:¬ ((n1:Int) < 0) := by omega
  replace hn1:Hid (n - xs.length=n1) := hn1
  go_enter Tryz.func23,Tryz.ntmps23
  go_wp2
  clear e0 d0
  go_loopw [1,5] (fun lv iv wr=>∃ k m:Nat,k≤xs.length∧iv=.int .i64 k∧lv=.int .i64 m∧Hid (m + ((xs.take k).map totK).sum=n1)∧m≤1048576∧Below w.heap.size w wr) (fun _ iv _=>xs.length - (intOf iv).toNat)
  case atStart=>exact ⟨0,n1,by omega,rfl,rfl,(by simp:n1 + ((xs.take 0).map totK).sum=n1),(by have := hn1.out;omega),Below.refl _ _⟩
  case round =>
  obtain ⟨k,m,hk,rfl,rfl,HM,hm,hbel⟩ := hrel
  by_cases hlt:k < xs.length
  ·have hlt2:(k:Int) < (xs.length:Int) := by omega
   have hst:(xs.map totK).sum=((xs.take k).map totK).sum + totK xs[k] + ((xs.drop (k + 1)).map totK).sum := by
    conv=>lhs;rw [← List.take_append_drop (k + 1) xs]
    rw [List.map_append,List.sum_append,List.take_succ_eq_append_getElem hlt,List.map_append,List.sum_append]
    simp
   have hsm:((xs.take (k + 1)).map totK).sum=((xs.take k).map totK).sum + totK xs[k] := by
    rw [List.take_succ_eq_append_getElem hlt,List.map_append,List.sum_append];simp
   obtain ⟨b1,o1,rfl,l1,hcc⟩ := hr k hlt
   have c0:wr.cell? ⟨b1,o1 + k * 2,none⟩=some (.int .i64 xs[k].1) := (hbel.cell (p := ⟨b1,o1 + k * 2,none⟩) l1).trans (hcc 0 _ rfl)
   have c1:wr.cell? ⟨b1,o1 + k * 2 + 1,none⟩=some (.slice xs[k].2.1 xs[k].2.2.2.length xs[k].2.2.1) := (hbel.cell (p := ⟨b1,o1 + k * 2 + 1,none⟩) l1).trans (hcc 1 _ rfl)
   have K1 := szK_is xs[k] m wr (by omega) ((hDp _ (List.getElem_mem hlt)).later hbel) (hLm _ (List.getElem_mem hlt))
   generalize hxk:xs[k]=x at K1 hst hsm c0 c1
   clear hcc hxk
   replace hst:Hid ((xs.map totK).sum=((xs.take k).map totK).sum + totK x + ((xs.drop (k + 1)).map totK).sum) := hst
   replace hsm:Hid (((xs.take (k + 1)).map totK).sum=((xs.take k).map totK).sum + totK x) := hsm
   by_cases hle:totK x≤m
   ·have d1:¬ (((m - totK x:Nat):Int) < 0) := by omega
    rw [show szV (totK x) m=((m - totK x:Nat):Int) from if_pos hle] at K1
    obtain ⟨m2,hm2⟩:∃ m2,m - totK x=m2 := ⟨_,rfl⟩
    rw [hm2] at K1
    rw [hm2] at d1
    have HM2:Hid (m2 + ((xs.take (k + 1)).map totK).sum=n1) := by have := HM.out;have := hsm.out;show _=_;omega
    have hm3:m2≤1048576 := by omega
    replace hm2:Hid (m - totK x=m2) := hm2
    go_wp2_with fail
    refine K1.mono ?_
    clear K1
    rintro en w2 ⟨rfl,hb2⟩
    replace hbel := hbel.trans (hb2.mono hbel.size)
    clear hb2 c0 c1
    go_wp2
    go_roundw
    case rel=>exact ⟨k + 1,m2,by omega,by go_num,rfl,HM2,hm3,hbel⟩
    case measure=>simp [intOf];omega
   ·have HV:Hid (szV (rtK (some ⟨b1,o1,none⟩,cap,xs)) n=-1) := by
     have h1 := HM.out;have h2 := hst.out;have h3 := HT.out;have h4 := hn1.out
     show (if _ then _ else _)=_
     exact if_neg (by omega)
    rw [show szV (totK x) m=-1 from if_neg hle] at K1
    go_wp2_with fail
    refine K1.mono ?_
    clear K1
    rintro en w2 ⟨rfl,hb2⟩
    replace hbel := hbel.trans (hb2.mono hbel.size)
    clear hb2 c0 c1
    go_wp2
    go_ret
    exact ⟨by rw [HV.out];rfl,hbel⟩
  ·obtain rfl:k=xs.length := by omega
   have HV:Hid (szV (rtK (a,cap,xs)) n=(m:Int)) := by
    have h1 := HM.out;have h3 := HT.out;have h4 := hn1.out
    rw [List.take_length] at h1
    show (if _ then _ else _)=_
    rw [if_pos (by omega)];omega
   go_wp2
   go_ret
   exact ⟨by rw [HV.out];rfl,hbel⟩
 ·have HV:Hid (szV (rtK (a,cap,xs)) n=-1) := by have h3 := HT.out;show (if _ then _ else _)=_;exact if_neg (by omega)
  have d0:(n:Int) - (xs.length:Int) < 0 := by omega
  go_enter Tryz.func23,Tryz.ntmps23
  go_wp2
  go_ret
  exact ⟨by rw [HV.out];rfl,Below.refl _ _⟩
set_option maxRecDepth 100000 in
set_option maxHeartbeats 3200000 in
theorem szQ_is (p:TQ) (n:Nat) (w:World) (hn:n≤1048576) (hd:DpQ w p) (hl:LmQ p):Calls Tryz.prog 64 #[vQ p,.int .i64 n] w fun en w'=>en=.returned (.int .i64 (szV (totQ p) n))∧Below w.heap.size w w' := by
 obtain ⟨f0,f1,f2,f3,f4,⟨f5_0,f5_1,f5_2⟩,⟨f6_0,f6_1,f6_2⟩,f7,f8,f9,f10⟩ := p
 have HT:Hid (totQ (f0,f1,f2,f3,f4,(f5_0,f5_1,f5_2),(f6_0,f6_1,f6_2),f7,f8,f9,f10)=rtI f7 + rtI f8 + f10.size) := (rfl:totQ (f0,f1,f2,f3,f4,(f5_0,f5_1,f5_2),(f6_0,f6_1,f6_2),f7,f8,f9,f10)=_)
 unfold LmQ at hl
 dsimp only at hl
 obtain ⟨hl0,hl1,hl2⟩ := hl
 unfold DpQ at hd
 dsimp only at hd
 obtain ⟨hd0,hd1⟩ := hd
 unfold maxLen at hl2
 obtain ⟨V,hV⟩:∃ V,w.alloc (.cells #[.int .i64 f0,.int .i64 f1,.int .i64 f2,.int .i64 f3,.int .i64 f4,.int .i64 f5_0,.int .i64 f5_1,.int .i64 f5_2,.int .i64 f6_0,.int .i64 f6_1,.int .i64 f6_2,.slice f7.1 f7.2.2.length f7.2.1,.slice f8.1 f8.2.2.length f8.2.1,.int .i64 f9,.string f10] 126)=V := ⟨_,rfl⟩
 have TA:Blk w.heap.size [.int .i64 f0,.int .i64 f1,.int .i64 f2,.int .i64 f3,.int .i64 f4,.int .i64 f5_0,.int .i64 f5_1,.int .i64 f5_2,.int .i64 f6_0,.int .i64 f6_1,.int .i64 f6_2,.slice f7.1 f7.2.2.length f7.2.1,.slice f8.1 f8.2.2.length f8.2.1,.int .i64 f9,.string f10] V := by rw [← hV];exact Blk.new _ _ _
 have BC:Below w.heap.size w V := by rw [← hV];exact (Below.refl _ _).alloc (Nat.le_refl _) _
 have d11 := TA.at 11 rfl
 have d12 := TA.at 12 rfl
 have d14 := TA.at 14 rfl
 go_enter Tryz.func64,Tryz.ntmps64
 go_wp2_with fail
 try rw [hV]
 refine (szSI_is f7 n _ (by omega) (hd0.later BC) hl0).mono ?_
 clear hV
 rintro en v0 ⟨rfl,hb⟩
 replace TA := TA.later hb (World.block_lt_of_cell? _ _ (TA.at 0 rfl))
 replace BC := BC.trans (hb.mono BC.size)
 clear hb d11 d12 d14
 have d11 := TA.at 11 rfl
 have d12 := TA.at 12 rfl
 have d14 := TA.at 14 rfl
 by_cases h0:rtI f7≤n
 ·rw [show szV (rtI f7) n=((n - rtI f7:Nat):Int) from if_pos h0]
  obtain ⟨q0,hq0⟩:∃ q:Nat,n - rtI f7=q := ⟨_,rfl⟩
  rw [hq0]
  have g0:¬ ((q0:Int) < 0) := by omega
  have gl0:q0≤1048576 := by omega
  replace hq0:Hid (n - rtI f7=q0) := hq0
  go_wp2_with fail
  try rw [hV]
  refine (szSI_is f8 q0 _ (by omega) (hd1.later BC) hl1).mono ?_
  rintro en v1 ⟨rfl,hb⟩
  replace TA := TA.later hb (World.block_lt_of_cell? _ _ (TA.at 0 rfl))
  replace BC := BC.trans (hb.mono BC.size)
  clear hb d11 d12 d14
  have d11 := TA.at 11 rfl
  have d12 := TA.at 12 rfl
  have d14 := TA.at 14 rfl
  by_cases h1:rtI f8≤q0
  ·rw [show szV (rtI f8) q0=((q0 - rtI f8:Nat):Int) from if_pos h1]
   obtain ⟨q1,hq1⟩:∃ q:Nat,q0 - rtI f8=q := ⟨_,rfl⟩
   rw [hq1]
   have g1:¬ ((q1:Int) < 0) := by omega
   have gl1:q1≤1048576 := by omega
   replace hq1:Hid (q0 - rtI f8=q1) := hq1
   by_cases h2:f10.size≤q1
   ·obtain ⟨q2,hq2⟩:∃ q:Nat,q1 - f10.size=q := ⟨_,rfl⟩
    have e2:(q1:Int) - (f10.size:Int)=(q2:Int) := by omega
    have g2:¬ ((q2:Int) < 0) := by omega
    have gl2:q2≤1048576 := by omega
    replace hq2:Hid (q1 - f10.size=q2) := hq2
    have HE:Hid (szV (totQ (f0,f1,f2,f3,f4,(f5_0,f5_1,f5_2),(f6_0,f6_1,f6_2),f7,f8,f9,f10)) n=(q2:Int)) := by
     have hT := HT.out;have := hq0.out;have := hq1.out;have := hq2.out
     show (if _ then _ else _)=_
     rw [if_pos (by omega)];omega
    go_wp2
    go_ret
    exact ⟨by rw [HE.out];rfl,BC⟩
   ·have HE:Hid (szV (totQ (f0,f1,f2,f3,f4,(f5_0,f5_1,f5_2),(f6_0,f6_1,f6_2),f7,f8,f9,f10)) n=-1) := by
     have hT := HT.out;have := hq0.out;have := hq1.out
     show (if _ then _ else _)=_
     exact if_neg (by omega)
    have e2:(q1:Int) - (f10.size:Int) < 0 := by omega
    go_wp2
    go_ret
    exact ⟨by rw [HE.out];rfl,BC⟩
  ·have HE:Hid (szV (totQ (f0,f1,f2,f3,f4,(f5_0,f5_1,f5_2),(f6_0,f6_1,f6_2),f7,f8,f9,f10)) n=-1) := by
    have hT := HT.out;have := hq0.out
    show (if _ then _ else _)=_
    exact if_neg (by omega)
   rw [show szV (rtI f8) q0=-1 from if_neg h1]
   go_wp2
   go_ret
   exact ⟨by rw [HE.out];rfl,BC⟩
 ·have HE:Hid (szV (totQ (f0,f1,f2,f3,f4,(f5_0,f5_1,f5_2),(f6_0,f6_1,f6_2),f7,f8,f9,f10)) n=-1) := by
   have hT := HT.out
   show (if _ then _ else _)=_
   exact if_neg (by omega)
  rw [show szV (rtI f7) n=-1 from if_neg h0]
  go_wp2
  go_ret
  exact ⟨by rw [HE.out];rfl,BC⟩
set_option maxRecDepth 100000 in
set_option maxHeartbeats 1600000 in
theorem szSQ_is (r:Rw TQ) (n:Nat) (w:World) (hn:n≤1048576) (hd:RpQ w r) (hl:RlQ r):Calls Tryz.prog 25 #[.slice r.1 r.2.2.length r.2.1,.int .i64 n] w fun en w'=>en=.returned (.int .i64 (szV (rtQ r) n))∧Below w.heap.size w w' := by
 obtain ⟨a,cap,xs⟩ := r
 obtain ⟨hlen,hLm⟩ := hl
 dsimp only at hlen hLm ⊢
 have hr:FRow 15 cQ w a xs := hd.1
 have hDp:∀ x∈xs,DpQ w x := hd.2
 have HT:Hid (rtQ (a,cap,xs)=xs.length + (xs.map totQ).sum) := (rfl:rtQ (a,cap,xs)=_)
 unfold maxLen at hlen
 clear hd
 by_cases h0:xs.length≤n
 ·obtain ⟨n1,hn1⟩:∃ n1,n - xs.length=n1 := ⟨_,rfl⟩
  have e0:(n:Int) - (xs.length:Int)=(n1:Int) := by omega
  have d0:¬ ((n1:Int) < 0) := by omega
  replace hn1:Hid (n - xs.length=n1) := hn1
  go_enter Tryz.func25,Tryz.ntmps25
  go_wp2
  clear e0 d0
  go_loopw [1,5] (fun lv iv wr=>∃ k m:Nat,k≤xs.length∧iv=.int .i64 k∧lv=.int .i64 m∧Hid (m + ((xs.take k).map totQ).sum=n1)∧m≤1048576∧Below w.heap.size w wr) (fun _ iv _=>xs.length - (intOf iv).toNat)
  case atStart=>exact ⟨0,n1,by omega,rfl,rfl,(by simp:n1 + ((xs.take 0).map totQ).sum=n1),(by have := hn1.out;omega),Below.refl _ _⟩
  case round =>
  obtain ⟨k,m,hk,rfl,rfl,HM,hm,hbel⟩ := hrel
  by_cases hlt:k < xs.length
  ·have hlt2:(k:Int) < (xs.length:Int) := by omega
   have hst:(xs.map totQ).sum=((xs.take k).map totQ).sum + totQ xs[k] + ((xs.drop (k + 1)).map totQ).sum := by
    conv=>lhs;rw [← List.take_append_drop (k + 1) xs]
    rw [List.map_append,List.sum_append,List.take_succ_eq_append_getElem hlt,List.map_append,List.sum_append]
    simp
   have hsm:((xs.take (k + 1)).map totQ).sum=((xs.take k).map totQ).sum + totQ xs[k] := by
    rw [List.take_succ_eq_append_getElem hlt,List.map_append,List.sum_append];simp
   obtain ⟨b1,o1,rfl,l1,hcc⟩ := hr k hlt
   have c0:wr.cell? ⟨b1,o1 + k * 15,none⟩=some (.int .i64 xs[k].1) := (hbel.cell (p := ⟨b1,o1 + k * 15,none⟩) l1).trans (hcc 0 _ rfl)
   have c1:wr.cell? ⟨b1,o1 + k * 15 + 1,none⟩=some (.int .i64 xs[k].2.1) := (hbel.cell (p := ⟨b1,o1 + k * 15 + 1,none⟩) l1).trans (hcc 1 _ rfl)
   have c2:wr.cell? ⟨b1,o1 + k * 15 + 2,none⟩=some (.int .i64 xs[k].2.2.1) := (hbel.cell (p := ⟨b1,o1 + k * 15 + 2,none⟩) l1).trans (hcc 2 _ rfl)
   have c3:wr.cell? ⟨b1,o1 + k * 15 + 3,none⟩=some (.int .i64 xs[k].2.2.2.1) := (hbel.cell (p := ⟨b1,o1 + k * 15 + 3,none⟩) l1).trans (hcc 3 _ rfl)
   have c4:wr.cell? ⟨b1,o1 + k * 15 + 4,none⟩=some (.int .i64 xs[k].2.2.2.2.1) := (hbel.cell (p := ⟨b1,o1 + k * 15 + 4,none⟩) l1).trans (hcc 4 _ rfl)
   have c5:wr.cell? ⟨b1,o1 + k * 15 + 5,none⟩=some (.int .i64 xs[k].2.2.2.2.2.1.1) := (hbel.cell (p := ⟨b1,o1 + k * 15 + 5,none⟩) l1).trans (hcc 5 _ rfl)
   have c6:wr.cell? ⟨b1,o1 + k * 15 + 6,none⟩=some (.int .i64 xs[k].2.2.2.2.2.1.2.1) := (hbel.cell (p := ⟨b1,o1 + k * 15 + 6,none⟩) l1).trans (hcc 6 _ rfl)
   have c7:wr.cell? ⟨b1,o1 + k * 15 + 7,none⟩=some (.int .i64 xs[k].2.2.2.2.2.1.2.2) := (hbel.cell (p := ⟨b1,o1 + k * 15 + 7,none⟩) l1).trans (hcc 7 _ rfl)
   have c8:wr.cell? ⟨b1,o1 + k * 15 + 8,none⟩=some (.int .i64 xs[k].2.2.2.2.2.2.1.1) := (hbel.cell (p := ⟨b1,o1 + k * 15 + 8,none⟩) l1).trans (hcc 8 _ rfl)
   have c9:wr.cell? ⟨b1,o1 + k * 15 + 9,none⟩=some (.int .i64 xs[k].2.2.2.2.2.2.1.2.1) := (hbel.cell (p := ⟨b1,o1 + k * 15 + 9,none⟩) l1).trans (hcc 9 _ rfl)
   have c10:wr.cell? ⟨b1,o1 + k * 15 + 10,none⟩=some (.int .i64 xs[k].2.2.2.2.2.2.1.2.2) := (hbel.cell (p := ⟨b1,o1 + k * 15 + 10,none⟩) l1).trans (hcc 10 _ rfl)
   have c11:wr.cell? ⟨b1,o1 + k * 15 + 11,none⟩=some (.slice xs[k].2.2.2.2.2.2.2.1.1 xs[k].2.2.2.2.2.2.2.1.2.2.length xs[k].2.2.2.2.2.2.2.1.2.1) := (hbel.cell (p := ⟨b1,o1 + k * 15 + 11,none⟩) l1).trans (hcc 11 _ rfl)
   have c12:wr.cell? ⟨b1,o1 + k * 15 + 12,none⟩=some (.slice xs[k].2.2.2.2.2.2.2.2.1.1 xs[k].2.2.2.2.2.2.2.2.1.2.2.length xs[k].2.2.2.2.2.2.2.2.1.2.1) := (hbel.cell (p := ⟨b1,o1 + k * 15 + 12,none⟩) l1).trans (hcc 12 _ rfl)
   have c13:wr.cell? ⟨b1,o1 + k * 15 + 13,none⟩=some (.int .i64 xs[k].2.2.2.2.2.2.2.2.2.1) := (hbel.cell (p := ⟨b1,o1 + k * 15 + 13,none⟩) l1).trans (hcc 13 _ rfl)
   have c14:wr.cell? ⟨b1,o1 + k * 15 + 14,none⟩=some (.string xs[k].2.2.2.2.2.2.2.2.2.2) := (hbel.cell (p := ⟨b1,o1 + k * 15 + 14,none⟩) l1).trans (hcc 14 _ rfl)
   have K1 := szQ_is xs[k] m wr (by omega) ((hDp _ (List.getElem_mem hlt)).later hbel) (hLm _ (List.getElem_mem hlt))
   generalize hxk:xs[k]=x at K1 hst hsm c0 c1 c2 c3 c4 c5 c6 c7 c8 c9 c10 c11 c12 c13 c14
   clear hcc hxk
   replace hst:Hid ((xs.map totQ).sum=((xs.take k).map totQ).sum + totQ x + ((xs.drop (k + 1)).map totQ).sum) := hst
   replace hsm:Hid (((xs.take (k + 1)).map totQ).sum=((xs.take k).map totQ).sum + totQ x) := hsm
   by_cases hle:totQ x≤m
   ·have d1:¬ (((m - totQ x:Nat):Int) < 0) := by omega
    rw [show szV (totQ x) m=((m - totQ x:Nat):Int) from if_pos hle] at K1
    obtain ⟨m2,hm2⟩:∃ m2,m - totQ x=m2 := ⟨_,rfl⟩
    rw [hm2] at K1
    rw [hm2] at d1
    have HM2:Hid (m2 + ((xs.take (k + 1)).map totQ).sum=n1) := by have := HM.out;have := hsm.out;show _=_;omega
    have hm3:m2≤1048576 := by omega
    replace hm2:Hid (m - totQ x=m2) := hm2
    go_wp2_with fail
    refine K1.mono ?_
    clear K1
    rintro en w2 ⟨rfl,hb2⟩
    replace hbel := hbel.trans (hb2.mono hbel.size)
    clear hb2 c0 c1 c2 c3 c4 c5 c6 c7 c8 c9 c10 c11 c12 c13 c14
    go_wp2
    go_roundw
    case rel=>exact ⟨k + 1,m2,by omega,by go_num,rfl,HM2,hm3,hbel⟩
    case measure=>simp [intOf];omega
   ·have HV:Hid (szV (rtQ (some ⟨b1,o1,none⟩,cap,xs)) n=-1) := by
     have h1 := HM.out;have h2 := hst.out;have h3 := HT.out;have h4 := hn1.out
     show (if _ then _ else _)=_
     exact if_neg (by omega)
    rw [show szV (totQ x) m=-1 from if_neg hle] at K1
    go_wp2_with fail
    refine K1.mono ?_
    clear K1
    rintro en w2 ⟨rfl,hb2⟩
    replace hbel := hbel.trans (hb2.mono hbel.size)
    clear hb2 c0 c1 c2 c3 c4 c5 c6 c7 c8 c9 c10 c11 c12 c13 c14
    go_wp2
    go_ret
    exact ⟨by rw [HV.out];rfl,hbel⟩
  ·obtain rfl:k=xs.length := by omega
   have HV:Hid (szV (rtQ (a,cap,xs)) n=(m:Int)) := by
    have h1 := HM.out;have h3 := HT.out;have h4 := hn1.out
    rw [List.take_length] at h1
    show (if _ then _ else _)=_
    rw [if_pos (by omega)];omega
   go_wp2
   go_ret
   exact ⟨by rw [HV.out];rfl,hbel⟩
 ·have HV:Hid (szV (rtQ (a,cap,xs)) n=-1) := by have h3 := HT.out;show (if _ then _ else _)=_;exact if_neg (by omega)
  have d0:(n:Int) - (xs.length:Int) < 0 := by omega
  go_enter Tryz.func25,Tryz.ntmps25
  go_wp2
  go_ret
  exact ⟨by rw [HV.out];rfl,Below.refl _ _⟩
set_option maxRecDepth 100000 in
set_option maxHeartbeats 3200000 in
theorem szF_is (p:TF) (n:Nat) (w:World) (hn:n≤1048576) (hd:DpF w p) (hl:LmF p):Calls Tryz.prog 18 #[vF p,.int .i64 n] w fun en w'=>en=.returned (.int .i64 (szV (totF p) n))∧Below w.heap.size w w' := by
 obtain ⟨f0,f1,f2,f3,f4⟩ := p
 have HT:Hid (totF (f0,f1,f2,f3,f4)=rtI f0 + rtI f1 + rtP f2 + rtP f3) := (rfl:totF (f0,f1,f2,f3,f4)=_)
 unfold LmF at hl
 dsimp only at hl
 obtain ⟨hl0,hl1,hl2,hl3⟩ := hl
 unfold DpF at hd
 dsimp only at hd
 obtain ⟨hd0,hd1,hd2,hd3⟩ := hd
 obtain ⟨V,hV⟩:∃ V,w.alloc (.cells #[.slice f0.1 f0.2.2.length f0.2.1,.slice f1.1 f1.2.2.length f1.2.1,.slice f2.1 f2.2.2.length f2.2.1,.slice f3.1 f3.2.2.length f3.2.1,.int .i64 f4] 25)=V := ⟨_,rfl⟩
 have TA:Blk w.heap.size [.slice f0.1 f0.2.2.length f0.2.1,.slice f1.1 f1.2.2.length f1.2.1,.slice f2.1 f2.2.2.length f2.2.1,.slice f3.1 f3.2.2.length f3.2.1,.int .i64 f4] V := by rw [← hV];exact Blk.new _ _ _
 have BC:Below w.heap.size w V := by rw [← hV];exact (Below.refl _ _).alloc (Nat.le_refl _) _
 have d0 := TA.at 0 rfl
 have d1 := TA.at 1 rfl
 have d2 := TA.at 2 rfl
 have d3 := TA.at 3 rfl
 go_enter Tryz.func18,Tryz.ntmps18
 go_wp2_with fail
 try rw [hV]
 refine (szSI_is f0 n _ (by omega) (hd0.later BC) hl0).mono ?_
 clear hV
 rintro en v0 ⟨rfl,hb⟩
 replace TA := TA.later hb (World.block_lt_of_cell? _ _ (TA.at 0 rfl))
 replace BC := BC.trans (hb.mono BC.size)
 clear hb d0 d1 d2 d3
 have d0 := TA.at 0 rfl
 have d1 := TA.at 1 rfl
 have d2 := TA.at 2 rfl
 have d3 := TA.at 3 rfl
 by_cases h0:rtI f0≤n
 ·rw [show szV (rtI f0) n=((n - rtI f0:Nat):Int) from if_pos h0]
  obtain ⟨q0,hq0⟩:∃ q:Nat,n - rtI f0=q := ⟨_,rfl⟩
  rw [hq0]
  have g0:¬ ((q0:Int) < 0) := by omega
  have gl0:q0≤1048576 := by omega
  replace hq0:Hid (n - rtI f0=q0) := hq0
  go_wp2_with fail
  try rw [hV]
  refine (szSI_is f1 q0 _ (by omega) (hd1.later BC) hl1).mono ?_
  rintro en v1 ⟨rfl,hb⟩
  replace TA := TA.later hb (World.block_lt_of_cell? _ _ (TA.at 0 rfl))
  replace BC := BC.trans (hb.mono BC.size)
  clear hb d0 d1 d2 d3
  have d0 := TA.at 0 rfl
  have d1 := TA.at 1 rfl
  have d2 := TA.at 2 rfl
  have d3 := TA.at 3 rfl
  by_cases h1:rtI f1≤q0
  ·rw [show szV (rtI f1) q0=((q0 - rtI f1:Nat):Int) from if_pos h1]
   obtain ⟨q1,hq1⟩:∃ q:Nat,q0 - rtI f1=q := ⟨_,rfl⟩
   rw [hq1]
   have g1:¬ ((q1:Int) < 0) := by omega
   have gl1:q1≤1048576 := by omega
   replace hq1:Hid (q0 - rtI f1=q1) := hq1
   go_wp2_with fail
   try rw [hV]
   refine (szSP_is f2 q1 _ (by omega) (hd2.later BC) hl2).mono ?_
   rintro en v2 ⟨rfl,hb⟩
   replace TA := TA.later hb (World.block_lt_of_cell? _ _ (TA.at 0 rfl))
   replace BC := BC.trans (hb.mono BC.size)
   clear hb d0 d1 d2 d3
   have d0 := TA.at 0 rfl
   have d1 := TA.at 1 rfl
   have d2 := TA.at 2 rfl
   have d3 := TA.at 3 rfl
   by_cases h2:rtP f2≤q1
   ·rw [show szV (rtP f2) q1=((q1 - rtP f2:Nat):Int) from if_pos h2]
    obtain ⟨q2,hq2⟩:∃ q:Nat,q1 - rtP f2=q := ⟨_,rfl⟩
    rw [hq2]
    have g2:¬ ((q2:Int) < 0) := by omega
    have gl2:q2≤1048576 := by omega
    replace hq2:Hid (q1 - rtP f2=q2) := hq2
    go_wp2_with fail
    try rw [hV]
    refine (szSP_is f3 q2 _ (by omega) (hd3.later BC) hl3).mono ?_
    rintro en v3 ⟨rfl,hb⟩
    replace TA := TA.later hb (World.block_lt_of_cell? _ _ (TA.at 0 rfl))
    replace BC := BC.trans (hb.mono BC.size)
    clear hb d0 d1 d2 d3
    have d0 := TA.at 0 rfl
    have d1 := TA.at 1 rfl
    have d2 := TA.at 2 rfl
    have d3 := TA.at 3 rfl
    by_cases h3:rtP f3≤q2
    ·rw [show szV (rtP f3) q2=((q2 - rtP f3:Nat):Int) from if_pos h3]
     obtain ⟨q3,hq3⟩:∃ q:Nat,q2 - rtP f3=q := ⟨_,rfl⟩
     rw [hq3]
     have g3:¬ ((q3:Int) < 0) := by omega
     have gl3:q3≤1048576 := by omega
     replace hq3:Hid (q2 - rtP f3=q3) := hq3
     have HE:Hid (szV (totF (f0,f1,f2,f3,f4)) n=(q3:Int)) := by
      have hT := HT.out;have := hq0.out;have := hq1.out;have := hq2.out;have := hq3.out
      show (if _ then _ else _)=_
      rw [if_pos (by omega)];omega
     go_wp2
     go_ret
     exact ⟨by rw [HE.out];rfl,BC⟩
    ·have HE:Hid (szV (totF (f0,f1,f2,f3,f4)) n=-1) := by
      have hT := HT.out;have := hq0.out;have := hq1.out;have := hq2.out
      show (if _ then _ else _)=_
      exact if_neg (by omega)
     rw [show szV (rtP f3) q2=-1 from if_neg h3]
     go_wp2
     go_ret
     exact ⟨by rw [HE.out];rfl,BC⟩
   ·have HE:Hid (szV (totF (f0,f1,f2,f3,f4)) n=-1) := by
     have hT := HT.out;have := hq0.out;have := hq1.out
     show (if _ then _ else _)=_
     exact if_neg (by omega)
    rw [show szV (rtP f2) q1=-1 from if_neg h2]
    go_wp2
    go_ret
    exact ⟨by rw [HE.out];rfl,BC⟩
  ·have HE:Hid (szV (totF (f0,f1,f2,f3,f4)) n=-1) := by
    have hT := HT.out;have := hq0.out
    show (if _ then _ else _)=_
    exact if_neg (by omega)
   rw [show szV (rtI f1) q0=-1 from if_neg h1]
   go_wp2
   go_ret
   exact ⟨by rw [HE.out];rfl,BC⟩
 ·have HE:Hid (szV (totF (f0,f1,f2,f3,f4)) n=-1) := by
   have hT := HT.out
   show (if _ then _ else _)=_
   exact if_neg (by omega)
  rw [show szV (rtI f0) n=-1 from if_neg h0]
  go_wp2
  go_ret
  exact ⟨by rw [HE.out];rfl,BC⟩
set_option maxRecDepth 100000 in
set_option maxHeartbeats 3200000 in
theorem szN_is (p:TN) (n:Nat) (w:World) (hn:n≤1048576) (hd:DpN w p) (hl:LmN p):Calls Tryz.prog 20 #[vN p,.int .i64 n] w fun en w'=>en=.returned (.int .i64 (szV (totN p) n))∧Below w.heap.size w w' := by
 obtain ⟨f0,f1⟩ := p
 have HT:Hid (totN (f0,f1)=rtS f0 + rtI f1) := (rfl:totN (f0,f1)=_)
 unfold LmN at hl
 dsimp only at hl
 obtain ⟨hl0,hl1⟩ := hl
 unfold DpN at hd
 dsimp only at hd
 obtain ⟨hd0,hd1⟩ := hd
 obtain ⟨V,hV⟩:∃ V,w.alloc (.cells #[.slice f0.1 f0.2.2.length f0.2.1,.slice f1.1 f1.2.2.length f1.2.1] 28)=V := ⟨_,rfl⟩
 have TA:Blk w.heap.size [.slice f0.1 f0.2.2.length f0.2.1,.slice f1.1 f1.2.2.length f1.2.1] V := by rw [← hV];exact Blk.new _ _ _
 have BC:Below w.heap.size w V := by rw [← hV];exact (Below.refl _ _).alloc (Nat.le_refl _) _
 have d0 := TA.at 0 rfl
 have d1 := TA.at 1 rfl
 go_enter Tryz.func20,Tryz.ntmps20
 go_wp2_with fail
 try rw [hV]
 refine (szSS_is f0 n _ (by omega) (hd0.later BC) hl0).mono ?_
 clear hV
 rintro en v0 ⟨rfl,hb⟩
 replace TA := TA.later hb (World.block_lt_of_cell? _ _ (TA.at 0 rfl))
 replace BC := BC.trans (hb.mono BC.size)
 clear hb d0 d1
 have d0 := TA.at 0 rfl
 have d1 := TA.at 1 rfl
 by_cases h0:rtS f0≤n
 ·rw [show szV (rtS f0) n=((n - rtS f0:Nat):Int) from if_pos h0]
  obtain ⟨q0,hq0⟩:∃ q:Nat,n - rtS f0=q := ⟨_,rfl⟩
  rw [hq0]
  have g0:¬ ((q0:Int) < 0) := by omega
  have gl0:q0≤1048576 := by omega
  replace hq0:Hid (n - rtS f0=q0) := hq0
  go_wp2_with fail
  try rw [hV]
  refine (szSI_is f1 q0 _ (by omega) (hd1.later BC) hl1).mono ?_
  rintro en v1 ⟨rfl,hb⟩
  replace TA := TA.later hb (World.block_lt_of_cell? _ _ (TA.at 0 rfl))
  replace BC := BC.trans (hb.mono BC.size)
  clear hb d0 d1
  have d0 := TA.at 0 rfl
  have d1 := TA.at 1 rfl
  by_cases h1:rtI f1≤q0
  ·rw [show szV (rtI f1) q0=((q0 - rtI f1:Nat):Int) from if_pos h1]
   obtain ⟨q1,hq1⟩:∃ q:Nat,q0 - rtI f1=q := ⟨_,rfl⟩
   rw [hq1]
   have g1:¬ ((q1:Int) < 0) := by omega
   have gl1:q1≤1048576 := by omega
   replace hq1:Hid (q0 - rtI f1=q1) := hq1
   have HE:Hid (szV (totN (f0,f1)) n=(q1:Int)) := by
    have hT := HT.out;have := hq0.out;have := hq1.out
    show (if _ then _ else _)=_
    rw [if_pos (by omega)];omega
   go_wp2
   go_ret
   exact ⟨by rw [HE.out];rfl,BC⟩
  ·have HE:Hid (szV (totN (f0,f1)) n=-1) := by
    have hT := HT.out;have := hq0.out
    show (if _ then _ else _)=_
    exact if_neg (by omega)
   rw [show szV (rtI f1) q0=-1 from if_neg h1]
   go_wp2
   go_ret
   exact ⟨by rw [HE.out];rfl,BC⟩
 ·have HE:Hid (szV (totN (f0,f1)) n=-1) := by
   have hT := HT.out
   show (if _ then _ else _)=_
   exact if_neg (by omega)
  rw [show szV (rtS f0) n=-1 from if_neg h0]
  go_wp2
  go_ret
  exact ⟨by rw [HE.out];rfl,BC⟩
end Go.Proofs.YtjcmbbnklfemcaaGreat.Nd

set_option linter.unusedVariables false
set_option maxRecDepth 100000
namespace Go.Proofs.YtjcmbbnklfemcaaGreat.Nd
open Go Go.RowKit Go.Joins Own Draw

set_option maxRecDepth 100000 in
set_option maxHeartbeats 3200000 in
theorem szD_is (p : TD) (n : Nat) (w : World) (hn : n ≤ 1048576) (hd : DpD w p) (hl : LmD p) : Calls Tryz.prog 7 #[vD p, .int .i64 n] w fun en w' => en = .returned (.int .i64 (szV (totD p) n)) ∧ Below w.heap.size w w' := by
  obtain ⟨f0, f1, f2, f3, f4, f5, f6, f7, f8, f9, f10⟩ := p
  have HT : Hid (totD (f0, f1, f2, f3, f4, f5, f6, f7, f8, f9, f10) = totF f0 + rtS f3 + totN f4 + rtW f5 + rtC f6 + rtK f7 + rtE f8 + rtQ f9 + rtI f10) := (rfl : totD (f0, f1, f2, f3, f4, f5, f6, f7, f8, f9, f10) = _)
  unfold LmD at hl
  dsimp only at hl
  obtain ⟨hl0, hl1, hl2, hl3, hl4, hl5, hl6, hl7, hl8⟩ := hl
  unfold DpD at hd
  dsimp only at hd
  obtain ⟨hd0, hd1, hd2, hd3, hd4, hd5, hd6, hd7, hd8⟩ := hd
  obtain ⟨V, hV⟩ : ∃ V, w.alloc (.cells #[.slice f0.1.1 f0.1.2.2.length f0.1.2.1, .slice f0.2.1.1 f0.2.1.2.2.length f0.2.1.2.1, .slice f0.2.2.1.1 f0.2.2.1.2.2.length f0.2.2.1.2.1, .slice f0.2.2.2.1.1 f0.2.2.2.1.2.2.length f0.2.2.2.1.2.1, .int .i64 f0.2.2.2.2, .int .i64 f1, .int .i64 f2, .slice f3.1 f3.2.2.length f3.2.1, .slice f4.1.1 f4.1.2.2.length f4.1.2.1, .slice f4.2.1 f4.2.2.2.length f4.2.2.1, .slice f5.1 f5.2.2.length f5.2.1, .slice f6.1 f6.2.2.length f6.2.1, .slice f7.1 f7.2.2.length f7.2.1, .slice f8.1 f8.2.2.length f8.2.1, .slice f9.1 f9.2.2.length f9.2.1, .slice f10.1 f10.2.2.length f10.2.1] 35) = V := ⟨_, rfl⟩
  have TA : Blk w.heap.size [.slice f0.1.1 f0.1.2.2.length f0.1.2.1, .slice f0.2.1.1 f0.2.1.2.2.length f0.2.1.2.1, .slice f0.2.2.1.1 f0.2.2.1.2.2.length f0.2.2.1.2.1, .slice f0.2.2.2.1.1 f0.2.2.2.1.2.2.length f0.2.2.2.1.2.1, .int .i64 f0.2.2.2.2, .int .i64 f1, .int .i64 f2, .slice f3.1 f3.2.2.length f3.2.1, .slice f4.1.1 f4.1.2.2.length f4.1.2.1, .slice f4.2.1 f4.2.2.2.length f4.2.2.1, .slice f5.1 f5.2.2.length f5.2.1, .slice f6.1 f6.2.2.length f6.2.1, .slice f7.1 f7.2.2.length f7.2.1, .slice f8.1 f8.2.2.length f8.2.1, .slice f9.1 f9.2.2.length f9.2.1, .slice f10.1 f10.2.2.length f10.2.1] V := by rw [← hV]; exact Blk.new _ _ _
  have BC : Below w.heap.size w V := by rw [← hV]; exact (Below.refl _ _).alloc (Nat.le_refl _) _
  have d0 := TA.at 0 rfl
  have d1 := TA.at 1 rfl
  have d2 := TA.at 2 rfl
  have d3 := TA.at 3 rfl
  have d4 := TA.at 4 rfl
  have d7 := TA.at 7 rfl
  have d8 := TA.at 8 rfl
  have d9 := TA.at 9 rfl
  have d10 := TA.at 10 rfl
  have d11 := TA.at 11 rfl
  have d12 := TA.at 12 rfl
  have d13 := TA.at 13 rfl
  have d14 := TA.at 14 rfl
  have d15 := TA.at 15 rfl
  go_enter Tryz.func7, Tryz.ntmps7
  go_wp2_with fail
  try rw [hV]
  refine (szF_is f0 n _ (by omega) (hd0.later BC) hl0).mono ?_
  clear hV
  rintro en v0 ⟨rfl, hb⟩
  replace TA := TA.later hb (World.block_lt_of_cell? _ _ (TA.at 0 rfl))
  replace BC := BC.trans (hb.mono BC.size)
  clear hb d0 d1 d2 d3 d4 d7 d8 d9 d10 d11 d12 d13 d14 d15
  have d0 := TA.at 0 rfl
  have d1 := TA.at 1 rfl
  have d2 := TA.at 2 rfl
  have d3 := TA.at 3 rfl
  have d4 := TA.at 4 rfl
  have d7 := TA.at 7 rfl
  have d8 := TA.at 8 rfl
  have d9 := TA.at 9 rfl
  have d10 := TA.at 10 rfl
  have d11 := TA.at 11 rfl
  have d12 := TA.at 12 rfl
  have d13 := TA.at 13 rfl
  have d14 := TA.at 14 rfl
  have d15 := TA.at 15 rfl
  by_cases h0 : totF f0 ≤ n
  · rw [show szV (totF f0) n = ((n - totF f0 : Nat) : Int) from if_pos h0]
    obtain ⟨q0, hq0⟩ : ∃ q : Nat, n - totF f0 = q := ⟨_, rfl⟩
    rw [hq0]
    have g0 : ¬ ((q0 : Int) < 0) := by omega
    have gl0 : q0 ≤ 1048576 := by omega
    replace hq0 : Hid (n - totF f0 = q0) := hq0
    go_wp2_with fail
    try rw [hV]
    refine (szSS_is f3 q0 _ (by omega) (hd1.later BC) hl1).mono ?_
    rintro en v1 ⟨rfl, hb⟩
    replace TA := TA.later hb (World.block_lt_of_cell? _ _ (TA.at 0 rfl))
    replace BC := BC.trans (hb.mono BC.size)
    clear hb d0 d1 d2 d3 d4 d7 d8 d9 d10 d11 d12 d13 d14 d15
    have d0 := TA.at 0 rfl
    have d1 := TA.at 1 rfl
    have d2 := TA.at 2 rfl
    have d3 := TA.at 3 rfl
    have d4 := TA.at 4 rfl
    have d7 := TA.at 7 rfl
    have d8 := TA.at 8 rfl
    have d9 := TA.at 9 rfl
    have d10 := TA.at 10 rfl
    have d11 := TA.at 11 rfl
    have d12 := TA.at 12 rfl
    have d13 := TA.at 13 rfl
    have d14 := TA.at 14 rfl
    have d15 := TA.at 15 rfl
    by_cases h1 : rtS f3 ≤ q0
    · rw [show szV (rtS f3) q0 = ((q0 - rtS f3 : Nat) : Int) from if_pos h1]
      obtain ⟨q1, hq1⟩ : ∃ q : Nat, q0 - rtS f3 = q := ⟨_, rfl⟩
      rw [hq1]
      have g1 : ¬ ((q1 : Int) < 0) := by omega
      have gl1 : q1 ≤ 1048576 := by omega
      replace hq1 : Hid (q0 - rtS f3 = q1) := hq1
      go_wp2_with fail
      try rw [hV]
      refine (szN_is f4 q1 _ (by omega) (hd2.later BC) hl2).mono ?_
      rintro en v2 ⟨rfl, hb⟩
      replace TA := TA.later hb (World.block_lt_of_cell? _ _ (TA.at 0 rfl))
      replace BC := BC.trans (hb.mono BC.size)
      clear hb d0 d1 d2 d3 d4 d7 d8 d9 d10 d11 d12 d13 d14 d15
      have d0 := TA.at 0 rfl
      have d1 := TA.at 1 rfl
      have d2 := TA.at 2 rfl
      have d3 := TA.at 3 rfl
      have d4 := TA.at 4 rfl
      have d7 := TA.at 7 rfl
      have d8 := TA.at 8 rfl
      have d9 := TA.at 9 rfl
      have d10 := TA.at 10 rfl
      have d11 := TA.at 11 rfl
      have d12 := TA.at 12 rfl
      have d13 := TA.at 13 rfl
      have d14 := TA.at 14 rfl
      have d15 := TA.at 15 rfl
      by_cases h2 : totN f4 ≤ q1
      · rw [show szV (totN f4) q1 = ((q1 - totN f4 : Nat) : Int) from if_pos h2]
        obtain ⟨q2, hq2⟩ : ∃ q : Nat, q1 - totN f4 = q := ⟨_, rfl⟩
        rw [hq2]
        have g2 : ¬ ((q2 : Int) < 0) := by omega
        have gl2 : q2 ≤ 1048576 := by omega
        replace hq2 : Hid (q1 - totN f4 = q2) := hq2
        go_wp2_with fail
        try rw [hV]
        refine (szSW_is f5 q2 _ (by omega) (hd3.later BC) hl3).mono ?_
        rintro en v3 ⟨rfl, hb⟩
        replace TA := TA.later hb (World.block_lt_of_cell? _ _ (TA.at 0 rfl))
        replace BC := BC.trans (hb.mono BC.size)
        clear hb d0 d1 d2 d3 d4 d7 d8 d9 d10 d11 d12 d13 d14 d15
        have d0 := TA.at 0 rfl
        have d1 := TA.at 1 rfl
        have d2 := TA.at 2 rfl
        have d3 := TA.at 3 rfl
        have d4 := TA.at 4 rfl
        have d7 := TA.at 7 rfl
        have d8 := TA.at 8 rfl
        have d9 := TA.at 9 rfl
        have d10 := TA.at 10 rfl
        have d11 := TA.at 11 rfl
        have d12 := TA.at 12 rfl
        have d13 := TA.at 13 rfl
        have d14 := TA.at 14 rfl
        have d15 := TA.at 15 rfl
        by_cases h3 : rtW f5 ≤ q2
        · rw [show szV (rtW f5) q2 = ((q2 - rtW f5 : Nat) : Int) from if_pos h3]
          obtain ⟨q3, hq3⟩ : ∃ q : Nat, q2 - rtW f5 = q := ⟨_, rfl⟩
          rw [hq3]
          have g3 : ¬ ((q3 : Int) < 0) := by omega
          have gl3 : q3 ≤ 1048576 := by omega
          replace hq3 : Hid (q2 - rtW f5 = q3) := hq3
          go_wp2_with fail
          try rw [hV]
          refine (szSC_is f6 q3 _ (by omega) (hd4.later BC) hl4).mono ?_
          rintro en v4 ⟨rfl, hb⟩
          replace TA := TA.later hb (World.block_lt_of_cell? _ _ (TA.at 0 rfl))
          replace BC := BC.trans (hb.mono BC.size)
          clear hb d0 d1 d2 d3 d4 d7 d8 d9 d10 d11 d12 d13 d14 d15
          have d0 := TA.at 0 rfl
          have d1 := TA.at 1 rfl
          have d2 := TA.at 2 rfl
          have d3 := TA.at 3 rfl
          have d4 := TA.at 4 rfl
          have d7 := TA.at 7 rfl
          have d8 := TA.at 8 rfl
          have d9 := TA.at 9 rfl
          have d10 := TA.at 10 rfl
          have d11 := TA.at 11 rfl
          have d12 := TA.at 12 rfl
          have d13 := TA.at 13 rfl
          have d14 := TA.at 14 rfl
          have d15 := TA.at 15 rfl
          by_cases h4 : rtC f6 ≤ q3
          · rw [show szV (rtC f6) q3 = ((q3 - rtC f6 : Nat) : Int) from if_pos h4]
            obtain ⟨q4, hq4⟩ : ∃ q : Nat, q3 - rtC f6 = q := ⟨_, rfl⟩
            rw [hq4]
            have g4 : ¬ ((q4 : Int) < 0) := by omega
            have gl4 : q4 ≤ 1048576 := by omega
            replace hq4 : Hid (q3 - rtC f6 = q4) := hq4
            go_wp2_with fail
            try rw [hV]
            refine (szSK_is f7 q4 _ (by omega) (hd5.later BC) hl5).mono ?_
            rintro en v5 ⟨rfl, hb⟩
            replace TA := TA.later hb (World.block_lt_of_cell? _ _ (TA.at 0 rfl))
            replace BC := BC.trans (hb.mono BC.size)
            clear hb d0 d1 d2 d3 d4 d7 d8 d9 d10 d11 d12 d13 d14 d15
            have d0 := TA.at 0 rfl
            have d1 := TA.at 1 rfl
            have d2 := TA.at 2 rfl
            have d3 := TA.at 3 rfl
            have d4 := TA.at 4 rfl
            have d7 := TA.at 7 rfl
            have d8 := TA.at 8 rfl
            have d9 := TA.at 9 rfl
            have d10 := TA.at 10 rfl
            have d11 := TA.at 11 rfl
            have d12 := TA.at 12 rfl
            have d13 := TA.at 13 rfl
            have d14 := TA.at 14 rfl
            have d15 := TA.at 15 rfl
            by_cases h5 : rtK f7 ≤ q4
            · rw [show szV (rtK f7) q4 = ((q4 - rtK f7 : Nat) : Int) from if_pos h5]
              obtain ⟨q5, hq5⟩ : ∃ q : Nat, q4 - rtK f7 = q := ⟨_, rfl⟩
              rw [hq5]
              have g5 : ¬ ((q5 : Int) < 0) := by omega
              have gl5 : q5 ≤ 1048576 := by omega
              replace hq5 : Hid (q4 - rtK f7 = q5) := hq5
              go_wp2_with fail
              try rw [hV]
              refine (szSE_is f8 q5 _ (by omega) (hd6.later BC) hl6).mono ?_
              rintro en v6 ⟨rfl, hb⟩
              replace TA := TA.later hb (World.block_lt_of_cell? _ _ (TA.at 0 rfl))
              replace BC := BC.trans (hb.mono BC.size)
              clear hb d0 d1 d2 d3 d4 d7 d8 d9 d10 d11 d12 d13 d14 d15
              have d0 := TA.at 0 rfl
              have d1 := TA.at 1 rfl
              have d2 := TA.at 2 rfl
              have d3 := TA.at 3 rfl
              have d4 := TA.at 4 rfl
              have d7 := TA.at 7 rfl
              have d8 := TA.at 8 rfl
              have d9 := TA.at 9 rfl
              have d10 := TA.at 10 rfl
              have d11 := TA.at 11 rfl
              have d12 := TA.at 12 rfl
              have d13 := TA.at 13 rfl
              have d14 := TA.at 14 rfl
              have d15 := TA.at 15 rfl
              by_cases h6 : rtE f8 ≤ q5
              · rw [show szV (rtE f8) q5 = ((q5 - rtE f8 : Nat) : Int) from if_pos h6]
                obtain ⟨q6, hq6⟩ : ∃ q : Nat, q5 - rtE f8 = q := ⟨_, rfl⟩
                rw [hq6]
                have g6 : ¬ ((q6 : Int) < 0) := by omega
                have gl6 : q6 ≤ 1048576 := by omega
                replace hq6 : Hid (q5 - rtE f8 = q6) := hq6
                go_wp2_with fail
                try rw [hV]
                refine (szSQ_is f9 q6 _ (by omega) (hd7.later BC) hl7).mono ?_
                rintro en v7 ⟨rfl, hb⟩
                replace TA := TA.later hb (World.block_lt_of_cell? _ _ (TA.at 0 rfl))
                replace BC := BC.trans (hb.mono BC.size)
                clear hb d0 d1 d2 d3 d4 d7 d8 d9 d10 d11 d12 d13 d14 d15
                have d0 := TA.at 0 rfl
                have d1 := TA.at 1 rfl
                have d2 := TA.at 2 rfl
                have d3 := TA.at 3 rfl
                have d4 := TA.at 4 rfl
                have d7 := TA.at 7 rfl
                have d8 := TA.at 8 rfl
                have d9 := TA.at 9 rfl
                have d10 := TA.at 10 rfl
                have d11 := TA.at 11 rfl
                have d12 := TA.at 12 rfl
                have d13 := TA.at 13 rfl
                have d14 := TA.at 14 rfl
                have d15 := TA.at 15 rfl
                by_cases h7 : rtQ f9 ≤ q6
                · rw [show szV (rtQ f9) q6 = ((q6 - rtQ f9 : Nat) : Int) from if_pos h7]
                  obtain ⟨q7, hq7⟩ : ∃ q : Nat, q6 - rtQ f9 = q := ⟨_, rfl⟩
                  rw [hq7]
                  have g7 : ¬ ((q7 : Int) < 0) := by omega
                  have gl7 : q7 ≤ 1048576 := by omega
                  replace hq7 : Hid (q6 - rtQ f9 = q7) := hq7
                  go_wp2_with fail
                  try rw [hV]
                  refine (szSI_is f10 q7 _ (by omega) (hd8.later BC) hl8).mono ?_
                  rintro en v8 ⟨rfl, hb⟩
                  replace TA := TA.later hb (World.block_lt_of_cell? _ _ (TA.at 0 rfl))
                  replace BC := BC.trans (hb.mono BC.size)
                  clear hb d0 d1 d2 d3 d4 d7 d8 d9 d10 d11 d12 d13 d14 d15
                  have d0 := TA.at 0 rfl
                  have d1 := TA.at 1 rfl
                  have d2 := TA.at 2 rfl
                  have d3 := TA.at 3 rfl
                  have d4 := TA.at 4 rfl
                  have d7 := TA.at 7 rfl
                  have d8 := TA.at 8 rfl
                  have d9 := TA.at 9 rfl
                  have d10 := TA.at 10 rfl
                  have d11 := TA.at 11 rfl
                  have d12 := TA.at 12 rfl
                  have d13 := TA.at 13 rfl
                  have d14 := TA.at 14 rfl
                  have d15 := TA.at 15 rfl
                  by_cases h8 : rtI f10 ≤ q7
                  · rw [show szV (rtI f10) q7 = ((q7 - rtI f10 : Nat) : Int) from if_pos h8]
                    obtain ⟨q8, hq8⟩ : ∃ q : Nat, q7 - rtI f10 = q := ⟨_, rfl⟩
                    rw [hq8]
                    have g8 : ¬ ((q8 : Int) < 0) := by omega
                    have gl8 : q8 ≤ 1048576 := by omega
                    replace hq8 : Hid (q7 - rtI f10 = q8) := hq8
                    have HE : Hid (szV (totD (f0, f1, f2, f3, f4, f5, f6, f7, f8, f9, f10)) n = (q8 : Int)) := by
                      have hT := HT.out; have := hq0.out; have := hq1.out; have := hq2.out; have := hq3.out; have := hq4.out; have := hq5.out; have := hq6.out; have := hq7.out; have := hq8.out
                      show (if _ then _ else _) = _
                      rw [if_pos (by omega)]; omega
                    go_wp2
                    go_ret
                    exact ⟨by rw [HE.out]; rfl, BC⟩
                  · have HE : Hid (szV (totD (f0, f1, f2, f3, f4, f5, f6, f7, f8, f9, f10)) n = -1) := by
                      have hT := HT.out; have := hq0.out; have := hq1.out; have := hq2.out; have := hq3.out; have := hq4.out; have := hq5.out; have := hq6.out; have := hq7.out
                      show (if _ then _ else _) = _
                      exact if_neg (by omega)
                    rw [show szV (rtI f10) q7 = -1 from if_neg h8]
                    go_wp2
                    go_ret
                    exact ⟨by rw [HE.out]; rfl, BC⟩
                · have HE : Hid (szV (totD (f0, f1, f2, f3, f4, f5, f6, f7, f8, f9, f10)) n = -1) := by
                    have hT := HT.out; have := hq0.out; have := hq1.out; have := hq2.out; have := hq3.out; have := hq4.out; have := hq5.out; have := hq6.out
                    show (if _ then _ else _) = _
                    exact if_neg (by omega)
                  rw [show szV (rtQ f9) q6 = -1 from if_neg h7]
                  go_wp2
                  go_ret
                  exact ⟨by rw [HE.out]; rfl, BC⟩
              · have HE : Hid (szV (totD (f0, f1, f2, f3, f4, f5, f6, f7, f8, f9, f10)) n = -1) := by
                  have hT := HT.out; have := hq0.out; have := hq1.out; have := hq2.out; have := hq3.out; have := hq4.out; have := hq5.out
                  show (if _ then _ else _) = _
                  exact if_neg (by omega)
                rw [show szV (rtE f8) q5 = -1 from if_neg h6]
                go_wp2
                go_ret
                exact ⟨by rw [HE.out]; rfl, BC⟩
            · have HE : Hid (szV (totD (f0, f1, f2, f3, f4, f5, f6, f7, f8, f9, f10)) n = -1) := by
                have hT := HT.out; have := hq0.out; have := hq1.out; have := hq2.out; have := hq3.out; have := hq4.out
                show (if _ then _ else _) = _
                exact if_neg (by omega)
              rw [show szV (rtK f7) q4 = -1 from if_neg h5]
              go_wp2
              go_ret
              exact ⟨by rw [HE.out]; rfl, BC⟩
          · have HE : Hid (szV (totD (f0, f1, f2, f3, f4, f5, f6, f7, f8, f9, f10)) n = -1) := by
              have hT := HT.out; have := hq0.out; have := hq1.out; have := hq2.out; have := hq3.out
              show (if _ then _ else _) = _
              exact if_neg (by omega)
            rw [show szV (rtC f6) q3 = -1 from if_neg h4]
            go_wp2
            go_ret
            exact ⟨by rw [HE.out]; rfl, BC⟩
        · have HE : Hid (szV (totD (f0, f1, f2, f3, f4, f5, f6, f7, f8, f9, f10)) n = -1) := by
            have hT := HT.out; have := hq0.out; have := hq1.out; have := hq2.out
            show (if _ then _ else _) = _
            exact if_neg (by omega)
          rw [show szV (rtW f5) q2 = -1 from if_neg h3]
          go_wp2
          go_ret
          exact ⟨by rw [HE.out]; rfl, BC⟩
      · have HE : Hid (szV (totD (f0, f1, f2, f3, f4, f5, f6, f7, f8, f9, f10)) n = -1) := by
          have hT := HT.out; have := hq0.out; have := hq1.out
          show (if _ then _ else _) = _
          exact if_neg (by omega)
        rw [show szV (totN f4) q1 = -1 from if_neg h2]
        go_wp2
        go_ret
        exact ⟨by rw [HE.out]; rfl, BC⟩
    · have HE : Hid (szV (totD (f0, f1, f2, f3, f4, f5, f6, f7, f8, f9, f10)) n = -1) := by
        have hT := HT.out; have := hq0.out
        show (if _ then _ else _) = _
        exact if_neg (by omega)
      rw [show szV (rtS f3) q0 = -1 from if_neg h1]
      go_wp2
      go_ret
      exact ⟨by rw [HE.out]; rfl, BC⟩
  · have HE : Hid (szV (totD (f0, f1, f2, f3, f4, f5, f6, f7, f8, f9, f10)) n = -1) := by
      have hT := HT.out
      show (if _ then _ else _) = _
      exact if_neg (by omega)
    rw [show szV (totF f0) n = -1 from if_neg h0]
    go_wp2
    go_ret
    exact ⟨by rw [HE.out]; rfl, BC⟩
end Go.Proofs.YtjcmbbnklfemcaaGreat.Nd
