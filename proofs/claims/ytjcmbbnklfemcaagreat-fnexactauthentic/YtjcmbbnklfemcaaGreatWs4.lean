/- All that was taken says yes. -/
import Derived.Test.YtjcmbbnklfemcaaGreatWs1
set_option linter.unusedVariables false
set_option maxRecDepth 100000
namespace Go.Proofs.YtjcmbbnklfemcaaGreat.Nd
open Go Go.RowKit Go.Joins Own Draw Term

def acB (n : Nat) (p : TQ) : Bool := btw p.1 0 2 && (btw p.2.1 0 5 && (btw p.2.2.2.2.2.2.2.2.2.1 0 (n : Int) && (allB p.2.2.2.2.2.2.2.1.2.2 6 && allB p.2.2.2.2.2.2.2.2.1.2.2 4)))
set_option maxRecDepth 100000 in
set_option maxHeartbeats 3200000 in
theorem cloQ_is (lp n : Nat) (x : TQ) (fp : Nat) (w : World) (hfp : fp < w.heap.size) (hc : w.cell? ⟨fp, 0, none⟩ = some (.func (.func 123) #[] #[.pointer (some ⟨lp, 0, none⟩)])) (HG : ∀ w', Below w.heap.size w w' → Calls Tryz.prog 123 #[.agg #[.int .i64 x.1, .int .i64 x.2.1, .int .i64 x.2.2.1, .int .i64 x.2.2.2.1, .int .i64 x.2.2.2.2.1, .int .i64 x.2.2.2.2.2.1.1, .int .i64 x.2.2.2.2.2.1.2.1, .int .i64 x.2.2.2.2.2.1.2.2, .int .i64 x.2.2.2.2.2.2.1.1, .int .i64 x.2.2.2.2.2.2.1.2.1, .int .i64 x.2.2.2.2.2.2.1.2.2, .slice x.2.2.2.2.2.2.2.1.1 x.2.2.2.2.2.2.2.1.2.2.length x.2.2.2.2.2.2.2.1.2.1, .slice x.2.2.2.2.2.2.2.2.1.1 x.2.2.2.2.2.2.2.2.1.2.2.length x.2.2.2.2.2.2.2.2.1.2.1, .int .i64 x.2.2.2.2.2.2.2.2.2.1, .string x.2.2.2.2.2.2.2.2.2.2], .pointer (some ⟨lp, 0, none⟩)] w' fun e w'' => e = .returned (.bool (acB n x)) ∧ Below w'.heap.size w' w'') :
    Calls Tryz.prog 147 #[.agg #[.int .i64 x.1, .int .i64 x.2.1, .int .i64 x.2.2.1, .int .i64 x.2.2.2.1, .int .i64 x.2.2.2.2.1, .int .i64 x.2.2.2.2.2.1.1, .int .i64 x.2.2.2.2.2.1.2.1, .int .i64 x.2.2.2.2.2.1.2.2, .int .i64 x.2.2.2.2.2.2.1.1, .int .i64 x.2.2.2.2.2.2.1.2.1, .int .i64 x.2.2.2.2.2.2.1.2.2, .slice x.2.2.2.2.2.2.2.1.1 x.2.2.2.2.2.2.2.1.2.2.length x.2.2.2.2.2.2.2.1.2.1, .slice x.2.2.2.2.2.2.2.2.1.1 x.2.2.2.2.2.2.2.2.1.2.2.length x.2.2.2.2.2.2.2.2.1.2.1, .int .i64 x.2.2.2.2.2.2.2.2.2.1, .string x.2.2.2.2.2.2.2.2.2.2], .pointer (some ⟨fp, 0, none⟩)] w fun e w' => e = .returned (.bool (!(acB n x))) ∧ Below w.heap.size w w' := by
  generalize acB n x = b at HG ⊢
  obtain ⟨V, hV⟩ : ∃ V, w.alloc (.cells #[.int .i64 x.1, .int .i64 x.2.1, .int .i64 x.2.2.1, .int .i64 x.2.2.2.1, .int .i64 x.2.2.2.2.1, .int .i64 x.2.2.2.2.2.1.1, .int .i64 x.2.2.2.2.2.1.2.1, .int .i64 x.2.2.2.2.2.1.2.2, .int .i64 x.2.2.2.2.2.2.1.1, .int .i64 x.2.2.2.2.2.2.1.2.1, .int .i64 x.2.2.2.2.2.2.1.2.2, .slice x.2.2.2.2.2.2.2.1.1 x.2.2.2.2.2.2.2.1.2.2.length x.2.2.2.2.2.2.2.1.2.1, .slice x.2.2.2.2.2.2.2.2.1.1 x.2.2.2.2.2.2.2.2.1.2.2.length x.2.2.2.2.2.2.2.2.1.2.1, .int .i64 x.2.2.2.2.2.2.2.2.2.1, .string x.2.2.2.2.2.2.2.2.2.2] 82) = V := ⟨_, rfl⟩
  have TV : Blk w.heap.size [.int .i64 x.1, .int .i64 x.2.1, .int .i64 x.2.2.1, .int .i64 x.2.2.2.1, .int .i64 x.2.2.2.2.1, .int .i64 x.2.2.2.2.2.1.1, .int .i64 x.2.2.2.2.2.1.2.1, .int .i64 x.2.2.2.2.2.1.2.2, .int .i64 x.2.2.2.2.2.2.1.1, .int .i64 x.2.2.2.2.2.2.1.2.1, .int .i64 x.2.2.2.2.2.2.1.2.2, .slice x.2.2.2.2.2.2.2.1.1 x.2.2.2.2.2.2.2.1.2.2.length x.2.2.2.2.2.2.2.1.2.1, .slice x.2.2.2.2.2.2.2.2.1.1 x.2.2.2.2.2.2.2.2.1.2.2.length x.2.2.2.2.2.2.2.2.1.2.1, .int .i64 x.2.2.2.2.2.2.2.2.2.1, .string x.2.2.2.2.2.2.2.2.2.2] V := by rw [← hV]; exact Blk.new _ _ _
  have BC : Below w.heap.size w V := by rw [← hV]; exact (Below.refl _ _).alloc (Nat.le_refl _) _
  have K1 := HG V BC
  have c0 := (BC.cell (p := ⟨fp, 0, none⟩) hfp).trans hc
  have d0 := TV.at 0 rfl
  have d1 := TV.at 1 rfl
  have d2 := TV.at 2 rfl
  have d3 := TV.at 3 rfl
  have d4 := TV.at 4 rfl
  have d5 := TV.at 5 rfl
  have d6 := TV.at 6 rfl
  have d7 := TV.at 7 rfl
  have d8 := TV.at 8 rfl
  have d9 := TV.at 9 rfl
  have d10 := TV.at 10 rfl
  have d11 := TV.at 11 rfl
  have d12 := TV.at 12 rfl
  have d13 := TV.at 13 rfl
  have d14 := TV.at 14 rfl
  clear HG
  go_enter Tryz.func147, Tryz.ntmps147
  go_wp2_with fail
  try rw [hV]
  refine K1.mono ?_
  clear K1
  rintro en v0 ⟨rfl, hb⟩
  replace BC := BC.trans (hb.mono BC.size)
  clear hb
  cases b with
  | true =>
    go_wp2
    go_ret
    exact ⟨rfl, BC⟩
  | false =>
    go_wp2
    go_ret
    exact ⟨rfl, BC⟩
set_option maxRecDepth 100000 in
set_option maxHeartbeats 3200000 in
theorem idxQ_is (lp n : Nat) (a : Option Addr) (cap : Nat) (xs : List TQ) (fp : Nat) (w : World) (hr : FRow 15 cQ w a xs) (hl : xs.length ≤ 1048576) (hfp : fp < w.heap.size) (hc : w.cell? ⟨fp, 0, none⟩ = some (.func (.func 123) #[] #[.pointer (some ⟨lp, 0, none⟩)])) (HG : ∀ x ∈ xs, ∀ w', Below w.heap.size w w' → Calls Tryz.prog 123 #[.agg #[.int .i64 x.1, .int .i64 x.2.1, .int .i64 x.2.2.1, .int .i64 x.2.2.2.1, .int .i64 x.2.2.2.2.1, .int .i64 x.2.2.2.2.2.1.1, .int .i64 x.2.2.2.2.2.1.2.1, .int .i64 x.2.2.2.2.2.1.2.2, .int .i64 x.2.2.2.2.2.2.1.1, .int .i64 x.2.2.2.2.2.2.1.2.1, .int .i64 x.2.2.2.2.2.2.1.2.2, .slice x.2.2.2.2.2.2.2.1.1 x.2.2.2.2.2.2.2.1.2.2.length x.2.2.2.2.2.2.2.1.2.1, .slice x.2.2.2.2.2.2.2.2.1.1 x.2.2.2.2.2.2.2.2.1.2.2.length x.2.2.2.2.2.2.2.2.1.2.1, .int .i64 x.2.2.2.2.2.2.2.2.2.1, .string x.2.2.2.2.2.2.2.2.2.2], .pointer (some ⟨lp, 0, none⟩)] w' fun e w'' => e = .returned (.bool (acB n x)) ∧ Below w'.heap.size w' w'') :
    Calls Tryz.prog 179 #[.slice a xs.length cap, .func (.func 147) #[] #[.pointer (some ⟨fp, 0, none⟩)]] w fun e w' => IdxP (xs.all (fun x => acB n x)) e ∧ Below w.heap.size w w' := by
  go_enter Tryz.func179, Tryz.ntmps179
  go_wp2
  go_loopw [8] (fun i wr => ∃ k : Nat, k ≤ xs.length ∧ i = .int .i64 k ∧ Hid (∀ j (h : j < xs.length), j < k → (fun x => acB n x) xs[j] = true) ∧ Below w.heap.size w wr) (fun i _ => xs.length - (intOf i).toNat)
  case atStart => exact ⟨0, by omega, rfl, fun j h hj => absurd hj (by omega), Below.refl _ _⟩
  case round =>
    obtain ⟨k, hk, rfl, hno, hbel⟩ := hrel
    by_cases hlt : k < xs.length
    · obtain ⟨b1, o1, rfl, l1, hcc⟩ := hr k hlt
      have c0 : wr.cell? ⟨b1, o1 + k * 15, none⟩ = some (.int .i64 xs[k].1) := (hbel.cell (p := ⟨b1, o1 + k * 15, none⟩) l1).trans (hcc 0 _ rfl)
      have c1 : wr.cell? ⟨b1, o1 + k * 15 + 1, none⟩ = some (.int .i64 xs[k].2.1) := (hbel.cell (p := ⟨b1, o1 + k * 15 + 1, none⟩) l1).trans (hcc 1 _ rfl)
      have c2 : wr.cell? ⟨b1, o1 + k * 15 + 2, none⟩ = some (.int .i64 xs[k].2.2.1) := (hbel.cell (p := ⟨b1, o1 + k * 15 + 2, none⟩) l1).trans (hcc 2 _ rfl)
      have c3 : wr.cell? ⟨b1, o1 + k * 15 + 3, none⟩ = some (.int .i64 xs[k].2.2.2.1) := (hbel.cell (p := ⟨b1, o1 + k * 15 + 3, none⟩) l1).trans (hcc 3 _ rfl)
      have c4 : wr.cell? ⟨b1, o1 + k * 15 + 4, none⟩ = some (.int .i64 xs[k].2.2.2.2.1) := (hbel.cell (p := ⟨b1, o1 + k * 15 + 4, none⟩) l1).trans (hcc 4 _ rfl)
      have c5 : wr.cell? ⟨b1, o1 + k * 15 + 5, none⟩ = some (.int .i64 xs[k].2.2.2.2.2.1.1) := (hbel.cell (p := ⟨b1, o1 + k * 15 + 5, none⟩) l1).trans (hcc 5 _ rfl)
      have c6 : wr.cell? ⟨b1, o1 + k * 15 + 6, none⟩ = some (.int .i64 xs[k].2.2.2.2.2.1.2.1) := (hbel.cell (p := ⟨b1, o1 + k * 15 + 6, none⟩) l1).trans (hcc 6 _ rfl)
      have c7 : wr.cell? ⟨b1, o1 + k * 15 + 7, none⟩ = some (.int .i64 xs[k].2.2.2.2.2.1.2.2) := (hbel.cell (p := ⟨b1, o1 + k * 15 + 7, none⟩) l1).trans (hcc 7 _ rfl)
      have c8 : wr.cell? ⟨b1, o1 + k * 15 + 8, none⟩ = some (.int .i64 xs[k].2.2.2.2.2.2.1.1) := (hbel.cell (p := ⟨b1, o1 + k * 15 + 8, none⟩) l1).trans (hcc 8 _ rfl)
      have c9 : wr.cell? ⟨b1, o1 + k * 15 + 9, none⟩ = some (.int .i64 xs[k].2.2.2.2.2.2.1.2.1) := (hbel.cell (p := ⟨b1, o1 + k * 15 + 9, none⟩) l1).trans (hcc 9 _ rfl)
      have c10 : wr.cell? ⟨b1, o1 + k * 15 + 10, none⟩ = some (.int .i64 xs[k].2.2.2.2.2.2.1.2.2) := (hbel.cell (p := ⟨b1, o1 + k * 15 + 10, none⟩) l1).trans (hcc 10 _ rfl)
      have c11 : wr.cell? ⟨b1, o1 + k * 15 + 11, none⟩ = some (.slice xs[k].2.2.2.2.2.2.2.1.1 xs[k].2.2.2.2.2.2.2.1.2.2.length xs[k].2.2.2.2.2.2.2.1.2.1) := (hbel.cell (p := ⟨b1, o1 + k * 15 + 11, none⟩) l1).trans (hcc 11 _ rfl)
      have c12 : wr.cell? ⟨b1, o1 + k * 15 + 12, none⟩ = some (.slice xs[k].2.2.2.2.2.2.2.2.1.1 xs[k].2.2.2.2.2.2.2.2.1.2.2.length xs[k].2.2.2.2.2.2.2.2.1.2.1) := (hbel.cell (p := ⟨b1, o1 + k * 15 + 12, none⟩) l1).trans (hcc 12 _ rfl)
      have c13 : wr.cell? ⟨b1, o1 + k * 15 + 13, none⟩ = some (.int .i64 xs[k].2.2.2.2.2.2.2.2.2.1) := (hbel.cell (p := ⟨b1, o1 + k * 15 + 13, none⟩) l1).trans (hcc 13 _ rfl)
      have c14 : wr.cell? ⟨b1, o1 + k * 15 + 14, none⟩ = some (.string xs[k].2.2.2.2.2.2.2.2.2.2) := (hbel.cell (p := ⟨b1, o1 + k * 15 + 14, none⟩) l1).trans (hcc 14 _ rfl)
      have hlt2 : (k : Int) < (xs.length : Int) := by omega
      have K1 := cloQ_is lp n xs[k] fp wr (Nat.lt_of_lt_of_le hfp hbel.size) ((hbel.cell (p := ⟨fp, 0, none⟩) hfp).trans hc) (fun w' hb => HG xs[k] (List.getElem_mem hlt) w' (hbel.trans (hb.mono hbel.size)))
      have hno2 : (fun x => acB n x) xs[k] = true → Hid (∀ j (h : j < xs.length), j < k + 1 → (fun x => acB n x) xs[j] = true) := fun he j h hj => by
        by_cases e : j = k
        · subst e; exact he
        · exact hno.out j h (by omega)
      have hbad : (fun x => acB n x) xs[k] = false → Hid (xs.all (fun x => acB n x) = false) := fun he => by
        show _ = _
        rw [List.all_eq_false]
        exact ⟨xs[k], List.getElem_mem hlt, fun h => absurd (h.symm.trans he) (by decide)⟩
      clear HG hno
      generalize hxk : xs[k] = x at K1 hno2 hbad c0 c1 c2 c3 c4 c5 c6 c7 c8 c9 c10 c11 c12 c13 c14
      clear hxk hcc
      dsimp only at hno2 hbad
      generalize hb0 : acB n x = b at K1 hno2 hbad
      clear hb0
      go_wp2_with fail
      refine K1.mono ?_
      clear K1 c0 c1 c2 c3 c4 c5 c6 c7 c8 c9 c10 c11 c12 c13 c14
      rintro en v0 ⟨rfl, hb⟩
      replace hbel := hbel.trans (hb.mono hbel.size)
      clear hb
      cases b with
      | true =>
        have hno3 := hno2 rfl
        clear hno2 hbad
        go_wp2
        go_roundw
        case rel => exact ⟨k + 1, by omega, by go_num, hno3, hbel⟩
        case measure => simp [intOf]; omega
      | false =>
        have hbd := hbad rfl
        clear hno2 hbad
        go_wp2
        go_ret
        refine ⟨?_, hbel⟩
        rw [hbd.out]
        exact ⟨(k : Int), rfl, by simp⟩
    · have HV : Hid (xs.all (fun x => acB n x) = true) := by
        show _ = _
        rw [List.all_eq_true]
        intro x hx
        obtain ⟨j, hj, rfl⟩ := List.mem_iff_getElem.1 hx
        exact hno.out j hj (by omega)
      have hlt2 : ¬ (k : Int) < (xs.length : Int) := by omega
      clear hno HG hr
      go_wp2
      go_ret
      refine ⟨?_, hbel⟩
      rw [HV.out]
      exact ⟨-1, rfl, by simp⟩
set_option maxRecDepth 100000 in
set_option maxHeartbeats 3200000 in
theorem allQ_is (lp n : Nat) (a : Option Addr) (cap : Nat) (xs : List TQ) (w : World) (hr : FRow 15 cQ w a xs) (hl : xs.length ≤ 1048576) (HG : ∀ x ∈ xs, ∀ w', Below w.heap.size w w' → Calls Tryz.prog 123 #[.agg #[.int .i64 x.1, .int .i64 x.2.1, .int .i64 x.2.2.1, .int .i64 x.2.2.2.1, .int .i64 x.2.2.2.2.1, .int .i64 x.2.2.2.2.2.1.1, .int .i64 x.2.2.2.2.2.1.2.1, .int .i64 x.2.2.2.2.2.1.2.2, .int .i64 x.2.2.2.2.2.2.1.1, .int .i64 x.2.2.2.2.2.2.1.2.1, .int .i64 x.2.2.2.2.2.2.1.2.2, .slice x.2.2.2.2.2.2.2.1.1 x.2.2.2.2.2.2.2.1.2.2.length x.2.2.2.2.2.2.2.1.2.1, .slice x.2.2.2.2.2.2.2.2.1.1 x.2.2.2.2.2.2.2.2.1.2.2.length x.2.2.2.2.2.2.2.2.1.2.1, .int .i64 x.2.2.2.2.2.2.2.2.2.1, .string x.2.2.2.2.2.2.2.2.2.2], .pointer (some ⟨lp, 0, none⟩)] w' fun e w'' => e = .returned (.bool (acB n x)) ∧ Below w'.heap.size w' w'') :
    Calls Tryz.prog 97 #[.slice a xs.length cap, .func (.func 123) #[] #[.pointer (some ⟨lp, 0, none⟩)]] w fun e w' => e = .returned (.bool (xs.all (fun x => acB n x))) ∧ Below w.heap.size w w' := by
  obtain ⟨V, hV⟩ : ∃ V, w.alloc (.cells #[.func (.func 123) #[] #[.pointer (some ⟨lp, 0, none⟩)]] 106) = V := ⟨_, rfl⟩
  have TV : Blk w.heap.size [.func (.func 123) #[] #[.pointer (some ⟨lp, 0, none⟩)]] V := by rw [← hV]; exact Blk.new _ _ _
  have BC : Below w.heap.size w V := by rw [← hV]; exact (Below.refl _ _).alloc (Nat.le_refl _) _
  have sV : w.heap.size < V.heap.size := by rw [← hV]; simp
  have K1 := idxQ_is lp n a cap xs w.heap.size V (hr.later BC) hl sV (TV.at 0 rfl) (fun x hx w' hb => HG x hx w' (BC.trans (hb.mono BC.size)))
  clear HG hr TV sV
  generalize xs.all (fun x => acB n x) = b at K1 ⊢
  have K2 : Calls Tryz.prog 146 #[.slice a xs.length cap, .func (.func 147) #[] #[.pointer (some ⟨w.heap.size, 0, none⟩)]] V fun e w' => e = .returned (.bool (!b)) ∧ Below V.heap.size V w' := by
    go_enter Tryz.func146, Tryz.ntmps146
    go_wp2_with fail
    refine K1.mono ?_
    clear K1
    rintro en v0 ⟨⟨r, rfl, hd⟩, hb⟩
    cases b with
    | true =>
      have hr2 : ¬ (0 ≤ r) := by simpa using hd
      go_wp2
      go_ret
      exact ⟨rfl, hb⟩
    | false =>
      have hr2 : 0 ≤ r := by simpa using hd
      go_wp2
      go_ret
      exact ⟨rfl, hb⟩
  clear K1
  go_enter Tryz.func97, Tryz.ntmps97
  go_wp2_with fail
  try rw [hV]
  refine K2.mono ?_
  clear K2
  rintro en v0 ⟨rfl, hb⟩
  replace BC := BC.trans (hb.mono BC.size)
  clear hb
  cases b with
  | true =>
    go_wp2
    go_ret
    exact ⟨rfl, BC⟩
  | false =>
    go_wp2
    go_ret
    exact ⟨rfl, BC⟩
end Go.Proofs.YtjcmbbnklfemcaaGreat.Nd

set_option linter.unusedVariables false
set_option maxRecDepth 100000
namespace Go.Proofs.YtjcmbbnklfemcaaGreat.Nd
open Go Go.RowKit Go.Joins Own Draw Term

set_option maxRecDepth 100000 in
set_option maxHeartbeats 3200000 in
theorem among_is (p : TQ) (n : Nat) (w : World) (hd : DpQ w p) (hp : p.2.2.2.2.2.2.2.1.2.2.length ≤ 1048576) (hv : p.2.2.2.2.2.2.2.2.1.2.2.length ≤ 1048576) : Calls Tryz.prog 124 #[vQ p, .int .i64 (n : Int)] w fun e w' => e = .returned (.bool (acB n p)) ∧ Below w.heap.size w w' := by
  obtain ⟨f0, f1, f2, f3, f4, ⟨f5_0, f5_1, f5_2⟩, ⟨f6_0, f6_1, f6_2⟩, f7, f8, f9, f10⟩ := p
  obtain ⟨hd7, hd8⟩ := hd
  dsimp only at hd7 hd8 hp hv
  obtain ⟨V, hV⟩ : ∃ V, w.alloc (.cells #[.int .i64 f0, .int .i64 f1, .int .i64 f2, .int .i64 f3, .int .i64 f4, .int .i64 f5_0, .int .i64 f5_1, .int .i64 f5_2, .int .i64 f6_0, .int .i64 f6_1, .int .i64 f6_2, .slice f7.1 f7.2.2.length f7.2.1, .slice f8.1 f8.2.2.length f8.2.1, .int .i64 f9, .string f10] 82) = V := ⟨_, rfl⟩
  have TV : Blk w.heap.size [.int .i64 f0, .int .i64 f1, .int .i64 f2, .int .i64 f3, .int .i64 f4, .int .i64 f5_0, .int .i64 f5_1, .int .i64 f5_2, .int .i64 f6_0, .int .i64 f6_1, .int .i64 f6_2, .slice f7.1 f7.2.2.length f7.2.1, .slice f8.1 f8.2.2.length f8.2.1, .int .i64 f9, .string f10] V := by rw [← hV]; exact Blk.new _ _ _
  have BC : Below w.heap.size w V := by rw [← hV]; exact (Below.refl _ _).alloc (Nat.le_refl _) _
  have HE : Hid (acB n (f0, f1, f2, f3, f4, (f5_0, f5_1, f5_2), (f6_0, f6_1, f6_2), f7, f8, f9, f10) = (btw f0 0 2 && (btw f1 0 5 && (btw f9 0 (n : Int) && (allB f7.2.2 6 && allB f8.2.2 4))))) := (rfl : acB n (f0, f1, f2, f3, f4, (f5_0, f5_1, f5_2), (f6_0, f6_1, f6_2), f7, f8, f9, f10) = _)
  have d0 := TV.at 0 rfl
  have d1 := TV.at 1 rfl
  have d11 := TV.at 11 rfl
  have d12 := TV.at 12 rfl
  have d13 := TV.at 13 rfl
  go_enter Tryz.func124, Tryz.ntmps124
  go_wp2_with fail
  try rw [hV]
  refine (serv_is f0 _).mono ?_
  rintro en v0 ⟨rfl, rfl⟩
  by_cases h0 : btw f0 0 2 = true
  · rw [h0]
    go_wp2_with fail
    refine (prin_is f1 _).mono ?_
    rintro en v1 ⟨rfl, rfl⟩
    by_cases h1 : btw f1 0 5 = true
    · rw [h1]
      go_wp2_with fail
      refine (within_b f9 (n : Int) _).mono ?_
      rintro en v2 ⟨rfl, rfl⟩
      by_cases h2 : btw f9 0 (n : Int) = true
      · rw [h2]
        go_wp2_with fail
        refine (listOk_is 153 enters95 realm_is f7.1 f7.2.1 f7.2.2 6 _ (hd7.later BC) hp (by omega)).mono ?_
        rintro en v3 ⟨rfl, hb⟩
        clear d0 d1 d11 d12 d13
        replace TV := TV.later hb (World.block_lt_of_cell? _ _ (TV.at 0 rfl))
        replace BC := BC.trans (hb.mono BC.size)
        clear hb
        have d0 := TV.at 0 rfl
        have d1 := TV.at 1 rfl
        have d11 := TV.at 11 rfl
        have d12 := TV.at 12 rfl
        have d13 := TV.at 13 rfl
        by_cases h3 : allB f7.2.2 6 = true
        · rw [h3]
          go_wp2_with fail
          refine (listOk_is 139 enters96 serv_is f8.1 f8.2.1 f8.2.2 4 _ (hd8.later BC) hv (by omega)).mono ?_
          rintro en v4 ⟨rfl, hb⟩
          clear d0 d1 d11 d12 d13
          replace TV := TV.later hb (World.block_lt_of_cell? _ _ (TV.at 0 rfl))
          replace BC := BC.trans (hb.mono BC.size)
          clear hb
          have d0 := TV.at 0 rfl
          have d1 := TV.at 1 rfl
          have d11 := TV.at 11 rfl
          have d12 := TV.at 12 rfl
          have d13 := TV.at 13 rfl
          by_cases h4 : allB f8.2.2 4 = true
          · rw [h4]
            go_wp2
            go_ret
            exact ⟨by rw [HE.out, h0, h1, h2, h3, h4]; rfl, BC⟩
          · rw [Bool.not_eq_true] at h4
            rw [h4]
            go_wp2
            go_ret
            exact ⟨by rw [HE.out, h0, h1, h2, h3, h4]; rfl, BC⟩
        · rw [Bool.not_eq_true] at h3
          rw [h3]
          go_wp2
          go_ret
          exact ⟨by rw [HE.out, h0, h1, h2, h3]; rfl, BC⟩
      · rw [Bool.not_eq_true] at h2
        rw [h2]
        go_wp2
        go_ret
        exact ⟨by rw [HE.out, h0, h1, h2]; rfl, BC⟩
    · rw [Bool.not_eq_true] at h1
      rw [h1]
      go_wp2
      go_ret
      exact ⟨by rw [HE.out, h0, h1]; rfl, BC⟩
  · rw [Bool.not_eq_true] at h0
    rw [h0]
    go_wp2
    go_ret
    exact ⟨by rw [HE.out, h0]; rfl, BC⟩
set_option maxRecDepth 100000 in
set_option maxHeartbeats 3200000 in
theorem rec1_is (p : TQ) (lp n : Nat) (w : World) (hlp : lp < w.heap.size) (hc : w.cell? ⟨lp, 0, none⟩ = some (.int .i64 (n : Int))) (hd : DpQ w p) (hp : p.2.2.2.2.2.2.2.1.2.2.length ≤ 1048576) (hv : p.2.2.2.2.2.2.2.2.1.2.2.length ≤ 1048576) : Calls Tryz.prog 123 #[vQ p, .pointer (some ⟨lp, 0, none⟩)] w fun e w' => e = .returned (.bool (acB n p)) ∧ Below w.heap.size w w' := by
  obtain ⟨V, hV⟩ : ∃ V, w.alloc (.cells #[.int .i64 p.1, .int .i64 p.2.1, .int .i64 p.2.2.1, .int .i64 p.2.2.2.1, .int .i64 p.2.2.2.2.1, .int .i64 p.2.2.2.2.2.1.1, .int .i64 p.2.2.2.2.2.1.2.1, .int .i64 p.2.2.2.2.2.1.2.2, .int .i64 p.2.2.2.2.2.2.1.1, .int .i64 p.2.2.2.2.2.2.1.2.1, .int .i64 p.2.2.2.2.2.2.1.2.2, .slice p.2.2.2.2.2.2.2.1.1 p.2.2.2.2.2.2.2.1.2.2.length p.2.2.2.2.2.2.2.1.2.1, .slice p.2.2.2.2.2.2.2.2.1.1 p.2.2.2.2.2.2.2.2.1.2.2.length p.2.2.2.2.2.2.2.2.1.2.1, .int .i64 p.2.2.2.2.2.2.2.2.2.1, .string p.2.2.2.2.2.2.2.2.2.2] 82) = V := ⟨_, rfl⟩
  have TV : Blk w.heap.size [.int .i64 p.1, .int .i64 p.2.1, .int .i64 p.2.2.1, .int .i64 p.2.2.2.1, .int .i64 p.2.2.2.2.1, .int .i64 p.2.2.2.2.2.1.1, .int .i64 p.2.2.2.2.2.1.2.1, .int .i64 p.2.2.2.2.2.1.2.2, .int .i64 p.2.2.2.2.2.2.1.1, .int .i64 p.2.2.2.2.2.2.1.2.1, .int .i64 p.2.2.2.2.2.2.1.2.2, .slice p.2.2.2.2.2.2.2.1.1 p.2.2.2.2.2.2.2.1.2.2.length p.2.2.2.2.2.2.2.1.2.1, .slice p.2.2.2.2.2.2.2.2.1.1 p.2.2.2.2.2.2.2.2.1.2.2.length p.2.2.2.2.2.2.2.2.1.2.1, .int .i64 p.2.2.2.2.2.2.2.2.2.1, .string p.2.2.2.2.2.2.2.2.2.2] V := by rw [← hV]; exact Blk.new _ _ _
  have BC : Below w.heap.size w V := by rw [← hV]; exact (Below.refl _ _).alloc (Nat.le_refl _) _
  have K1 := among_is p n V (hd.later BC) hp hv
  have c0 := (BC.cell (p := ⟨lp, 0, none⟩) hlp).trans hc
  have d0 := TV.at 0 rfl
  have d1 := TV.at 1 rfl
  have d2 := TV.at 2 rfl
  have d3 := TV.at 3 rfl
  have d4 := TV.at 4 rfl
  have d5 := TV.at 5 rfl
  have d6 := TV.at 6 rfl
  have d7 := TV.at 7 rfl
  have d8 := TV.at 8 rfl
  have d9 := TV.at 9 rfl
  have d10 := TV.at 10 rfl
  have d11 := TV.at 11 rfl
  have d12 := TV.at 12 rfl
  have d13 := TV.at 13 rfl
  have d14 := TV.at 14 rfl
  generalize acB n p = b at K1 ⊢
  clear hd
  go_enter Tryz.func123, Tryz.ntmps123
  go_wp2_with fail
  try rw [hV]
  refine K1.mono ?_
  clear K1
  rintro en v0 ⟨rfl, hb⟩
  replace BC := BC.trans (hb.mono BC.size)
  clear hb
  go_wp2
  go_ret
  exact ⟨rfl, BC⟩
end Go.Proofs.YtjcmbbnklfemcaaGreat.Nd
