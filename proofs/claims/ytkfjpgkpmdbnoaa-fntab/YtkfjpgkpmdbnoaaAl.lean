/- allSay over slots. -/
import Derived.Test.YtkfjpgkpmdbnoaaPa2
set_option linter.unusedVariables false
set_option maxRecDepth 100000
namespace Go.Proofs.Ytkfjpgkpmdbnoaa
open Go Go.RowKit Go.Joins Own Draw

def IdxP (b : Bool) (e : Ending) : Prop := ∃ r : Int, e = .returned (.int .i64 r) ∧ decide (0 ≤ r) = !b
set_option maxRecDepth 100000 in
set_option maxHeartbeats 3200000 in
theorem cloP_is (x : TS) (fp : Nat) (w : World) (hfp : fp < w.heap.size) (hc : w.cell? ⟨fp, 0, none⟩ = some (.func (.func 55) #[] #[])) (HG : ∀ w', Below w.heap.size w w' → Calls Try.prog 55 #[.agg #[.int .i64 x.1, .int .i64 x.2.1, .int .i64 x.2.2]] w' fun e w'' => e = .returned (.bool (slA x)) ∧ Below w'.heap.size w' w'') :
    Calls Try.prog 70 #[.agg #[.int .i64 x.1, .int .i64 x.2.1, .int .i64 x.2.2], .pointer (some ⟨fp, 0, none⟩)] w fun e w' => e = .returned (.bool (!(slA x))) ∧ Below w.heap.size w w' := by
  generalize slA x = b at HG ⊢
  obtain ⟨V, hV⟩ : ∃ V, w.alloc (.cells #[.int .i64 x.1, .int .i64 x.2.1, .int .i64 x.2.2] 31) = V := ⟨_, rfl⟩
  have TV : Blk w.heap.size [.int .i64 x.1, .int .i64 x.2.1, .int .i64 x.2.2] V := by rw [← hV]; exact Blk.new _ _ _
  have BC : Below w.heap.size w V := by rw [← hV]; exact (Below.refl _ _).alloc (Nat.le_refl _) _
  have K1 := HG V BC
  have c0 := (BC.cell (p := ⟨fp, 0, none⟩) hfp).trans hc
  have d0 := TV.at 0 rfl
  have d1 := TV.at 1 rfl
  have d2 := TV.at 2 rfl
  clear HG
  go_enter Try.func70, Try.ntmps70
  go_wp2_with fail
  try rw [hV]
  refine K1.mono ?_
  clear K1
  rintro en v0 ⟨rfl, hb⟩
  replace BC := BC.trans (hb.mono BC.size)
  clear hb
  cases b with
  | true =>
    go_wp2
    go_ret
    exact ⟨rfl, BC⟩
  | false =>
    go_wp2
    go_ret
    exact ⟨rfl, BC⟩
set_option maxRecDepth 100000 in
set_option maxHeartbeats 3200000 in
theorem idxP_is (a : Option Addr) (cap : Nat) (xs : List TS) (fp : Nat) (w : World) (hr : FRow 3 cS w a xs) (hl : xs.length ≤ 1048576) (hfp : fp < w.heap.size) (hc : w.cell? ⟨fp, 0, none⟩ = some (.func (.func 55) #[] #[])) (HG : ∀ x ∈ xs, ∀ w', Below w.heap.size w w' → Calls Try.prog 55 #[.agg #[.int .i64 x.1, .int .i64 x.2.1, .int .i64 x.2.2]] w' fun e w'' => e = .returned (.bool (slA x)) ∧ Below w'.heap.size w' w'') :
    Calls Try.prog 78 #[.slice a xs.length cap, .func (.func 70) #[] #[.pointer (some ⟨fp, 0, none⟩)]] w fun e w' => IdxP (xs.all (fun x => slA x)) e ∧ Below w.heap.size w w' := by
  go_enter Try.func78, Try.ntmps78
  go_wp2
  go_loopw [8] (fun i wr => ∃ k : Nat, k ≤ xs.length ∧ i = .int .i64 k ∧ Hid (∀ j (h : j < xs.length), j < k → (fun x => slA x) xs[j] = true) ∧ Below w.heap.size w wr) (fun i _ => xs.length - (intOf i).toNat)
  case atStart => exact ⟨0, by omega, rfl, fun j h hj => absurd hj (by omega), Below.refl _ _⟩
  case round =>
    obtain ⟨k, hk, rfl, hno, hbel⟩ := hrel
    by_cases hlt : k < xs.length
    · obtain ⟨b1, o1, rfl, l1, hcc⟩ := hr k hlt
      have c0 : wr.cell? ⟨b1, o1 + k * 3, none⟩ = some (.int .i64 xs[k].1) := (hbel.cell (p := ⟨b1, o1 + k * 3, none⟩) l1).trans (hcc 0 _ rfl)
      have c1 : wr.cell? ⟨b1, o1 + k * 3 + 1, none⟩ = some (.int .i64 xs[k].2.1) := (hbel.cell (p := ⟨b1, o1 + k * 3 + 1, none⟩) l1).trans (hcc 1 _ rfl)
      have c2 : wr.cell? ⟨b1, o1 + k * 3 + 2, none⟩ = some (.int .i64 xs[k].2.2) := (hbel.cell (p := ⟨b1, o1 + k * 3 + 2, none⟩) l1).trans (hcc 2 _ rfl)
      have hlt2 : (k : Int) < (xs.length : Int) := by omega
      have K1 := cloP_is xs[k] fp wr (Nat.lt_of_lt_of_le hfp hbel.size) ((hbel.cell (p := ⟨fp, 0, none⟩) hfp).trans hc) (fun w' hb => HG xs[k] (List.getElem_mem hlt) w' (hbel.trans (hb.mono hbel.size)))
      have hno2 : (fun x => slA x) xs[k] = true → Hid (∀ j (h : j < xs.length), j < k + 1 → (fun x => slA x) xs[j] = true) := fun he j h hj => by
        by_cases e : j = k
        · subst e; exact he
        · exact hno.out j h (by omega)
      have hbad : (fun x => slA x) xs[k] = false → Hid (xs.all (fun x => slA x) = false) := fun he => by
        show _ = _
        rw [List.all_eq_false]
        exact ⟨xs[k], List.getElem_mem hlt, fun h => absurd (h.symm.trans he) (by decide)⟩
      clear HG hno
      generalize hxk : xs[k] = x at K1 hno2 hbad c0 c1 c2
      clear hxk hcc
      dsimp only at hno2 hbad
      generalize hb0 : slA x = b at K1 hno2 hbad
      clear hb0
      go_wp2_with fail
      refine K1.mono ?_
      clear K1 c0 c1 c2
      rintro en v0 ⟨rfl, hb⟩
      replace hbel := hbel.trans (hb.mono hbel.size)
      clear hb
      cases b with
      | true =>
        have hno3 := hno2 rfl
        clear hno2 hbad
        go_wp2
        go_roundw
        case rel => exact ⟨k + 1, by omega, by go_num, hno3, hbel⟩
        case measure => simp [intOf]; omega
      | false =>
        have hbd := hbad rfl
        clear hno2 hbad
        go_wp2
        go_ret
        refine ⟨?_, hbel⟩
        rw [hbd.out]
        exact ⟨(k : Int), rfl, by simp⟩
    · have HV : Hid (xs.all (fun x => slA x) = true) := by
        show _ = _
        rw [List.all_eq_true]
        intro x hx
        obtain ⟨j, hj, rfl⟩ := List.mem_iff_getElem.1 hx
        exact hno.out j hj (by omega)
      have hlt2 : ¬ (k : Int) < (xs.length : Int) := by omega
      clear hno HG hr
      go_wp2
      go_ret
      refine ⟨?_, hbel⟩
      rw [HV.out]
      exact ⟨-1, rfl, by simp⟩
set_option maxRecDepth 100000 in
set_option maxHeartbeats 3200000 in
theorem allP_is (a : Option Addr) (cap : Nat) (xs : List TS) (w : World) (hr : FRow 3 cS w a xs) (hl : xs.length ≤ 1048576) (HG : ∀ x ∈ xs, ∀ w', Below w.heap.size w w' → Calls Try.prog 55 #[.agg #[.int .i64 x.1, .int .i64 x.2.1, .int .i64 x.2.2]] w' fun e w'' => e = .returned (.bool (slA x)) ∧ Below w'.heap.size w' w'') :
    Calls Try.prog 54 #[.slice a xs.length cap, .func (.func 55) #[] #[]] w fun e w' => e = .returned (.bool (xs.all (fun x => slA x))) ∧ Below w.heap.size w w' := by
  obtain ⟨V, hV⟩ : ∃ V, w.alloc (.cells #[.func (.func 55) #[] #[]] 78) = V := ⟨_, rfl⟩
  have TV : Blk w.heap.size [.func (.func 55) #[] #[]] V := by rw [← hV]; exact Blk.new _ _ _
  have BC : Below w.heap.size w V := by rw [← hV]; exact (Below.refl _ _).alloc (Nat.le_refl _) _
  have sV : w.heap.size < V.heap.size := by rw [← hV]; simp
  have K1 := idxP_is a cap xs w.heap.size V (hr.later BC) hl sV (TV.at 0 rfl) (fun x hx w' hb => HG x hx w' (BC.trans (hb.mono BC.size)))
  clear HG hr TV sV
  generalize xs.all (fun x => slA x) = b at K1 ⊢
  have K2 : Calls Try.prog 69 #[.slice a xs.length cap, .func (.func 70) #[] #[.pointer (some ⟨w.heap.size, 0, none⟩)]] V fun e w' => e = .returned (.bool (!b)) ∧ Below V.heap.size V w' := by
    go_enter Try.func69, Try.ntmps69
    go_wp2_with fail
    refine K1.mono ?_
    clear K1
    rintro en v0 ⟨⟨r, rfl, hd⟩, hb⟩
    cases b with
    | true =>
      have hr2 : ¬ (0 ≤ r) := by simpa using hd
      go_wp2
      go_ret
      exact ⟨rfl, hb⟩
    | false =>
      have hr2 : 0 ≤ r := by simpa using hd
      go_wp2
      go_ret
      exact ⟨rfl, hb⟩
  clear K1
  go_enter Try.func54, Try.ntmps54
  go_wp2_with fail
  try rw [hV]
  refine K2.mono ?_
  clear K2
  rintro en v0 ⟨rfl, hb⟩
  replace BC := BC.trans (hb.mono BC.size)
  clear hb
  cases b with
  | true =>
    go_wp2
    go_ret
    exact ⟨rfl, BC⟩
  | false =>
    go_wp2
    go_ret
    exact ⟨rfl, BC⟩
theorem allRight_is (a : Option Addr) (cap : Nat) (xs : List TS) (w : World) (hr : FRow 3 cS w a xs) (hl : xs.length ≤ 1048576) :
    Calls Try.prog 54 #[.slice a xs.length cap, .func (.func 55) #[] #[]] w fun e w' => e = .returned (.bool (xs.all slA)) ∧ Below w.heap.size w w' :=
  allP_is a cap xs w hr hl (fun x _ w' _ => right_is x.1 x.2.1 x.2.2 w')
end Go.Proofs.Ytkfjpgkpmdbnoaa
