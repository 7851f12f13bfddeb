/- All of a row say yes. -/
import Derived.Test.YtjcmbbnklfemcaaGreatWs1
set_option linter.unusedVariables false
set_option maxRecDepth 100000
namespace Go.Proofs.YtjcmbbnklfemcaaGreat.Nd
open Go Go.RowKit Go.Joins Own Draw Term

/-- What IndexFunc answers: at least 0 just where not all say yes. -/
def IdxP (b : Bool) (e : Ending) : Prop := ∃ r : Int, e = .returned (.int .i64 r) ∧ decide (0 ≤ r) = !b
set_option maxRecDepth 100000 in
set_option maxHeartbeats 3200000 in
theorem cloS_is (x : ByteArray) (fp : Nat) (w : World) (hfp : fp < w.heap.size) (hc : w.cell? ⟨fp, 0, none⟩ = some (.func (.func 82) #[] #[])) (HG : ∀ w', Below w.heap.size w w' → Calls Tryz.prog 82 #[.string x] w' fun e w'' => e = .returned (.bool (isT x)) ∧ Below w'.heap.size w' w'') :
    Calls Tryz.prog 112 #[.string x, .pointer (some ⟨fp, 0, none⟩)] w fun e w' => e = .returned (.bool (!(isT x))) ∧ Below w.heap.size w w' := by
  generalize isT x = b at HG ⊢
  have BC : Below w.heap.size w w := Below.refl _ _
  have K1 := HG w BC
  have c0 := hc
  clear HG
  go_enter Tryz.func112, Tryz.ntmps112
  go_wp2_with fail
  refine K1.mono ?_
  clear K1
  rintro en v0 ⟨rfl, hb⟩
  replace BC := BC.trans (hb.mono BC.size)
  clear hb
  cases b with
  | true =>
    go_wp2
    go_ret
    exact ⟨rfl, BC⟩
  | false =>
    go_wp2
    go_ret
    exact ⟨rfl, BC⟩
set_option maxRecDepth 100000 in
set_option maxHeartbeats 3200000 in
theorem idxS_is (a : Option Addr) (cap : Nat) (xs : List ByteArray) (fp : Nat) (w : World) (hr : RowAt Value.string w a xs) (hl : xs.length ≤ 1048576) (hfp : fp < w.heap.size) (hc : w.cell? ⟨fp, 0, none⟩ = some (.func (.func 82) #[] #[])) (HG : ∀ x ∈ xs, ∀ w', Below w.heap.size w w' → Calls Tryz.prog 82 #[.string x] w' fun e w'' => e = .returned (.bool (isT x)) ∧ Below w'.heap.size w' w'') :
    Calls Tryz.prog 155 #[.slice a xs.length cap, .func (.func 112) #[] #[.pointer (some ⟨fp, 0, none⟩)]] w fun e w' => IdxP (xs.all (fun x => isT x)) e ∧ Below w.heap.size w w' := by
  go_enter Tryz.func155, Tryz.ntmps155
  go_wp2
  go_loopw [8] (fun i wr => ∃ k : Nat, k ≤ xs.length ∧ i = .int .i64 k ∧ Hid (∀ j (h : j < xs.length), j < k → (fun x => isT x) xs[j] = true) ∧ Below w.heap.size w wr) (fun i _ => xs.length - (intOf i).toNat)
  case atStart => exact ⟨0, by omega, rfl, fun j h hj => absurd hj (by omega), Below.refl _ _⟩
  case round =>
    obtain ⟨k, hk, rfl, hno, hbel⟩ := hrel
    by_cases hlt : k < xs.length
    · obtain ⟨b1, o1, rfl, l1, hcc⟩ := hr k hlt
      have c0 : wr.cell? ⟨b1, o1 + k, none⟩ = some (.string xs[k]) := (hbel.cell (p := ⟨b1, o1 + k, none⟩) l1).trans hcc
      have hlt2 : (k : Int) < (xs.length : Int) := by omega
      have K1 := cloS_is xs[k] fp wr (Nat.lt_of_lt_of_le hfp hbel.size) ((hbel.cell (p := ⟨fp, 0, none⟩) hfp).trans hc) (fun w' hb => HG xs[k] (List.getElem_mem hlt) w' (hbel.trans (hb.mono hbel.size)))
      have hno2 : (fun x => isT x) xs[k] = true → Hid (∀ j (h : j < xs.length), j < k + 1 → (fun x => isT x) xs[j] = true) := fun he j h hj => by
        by_cases e : j = k
        · subst e; exact he
        · exact hno.out j h (by omega)
      have hbad : (fun x => isT x) xs[k] = false → Hid (xs.all (fun x => isT x) = false) := fun he => by
        show _ = _
        rw [List.all_eq_false]
        exact ⟨xs[k], List.getElem_mem hlt, fun h => absurd (h.symm.trans he) (by decide)⟩
      clear HG hno
      generalize hxk : xs[k] = x at K1 hno2 hbad c0
      clear hxk hcc
      dsimp only at hno2 hbad
      generalize hb0 : isT x = b at K1 hno2 hbad
      clear hb0
      go_wp2_with fail
      refine K1.mono ?_
      clear K1 c0
      rintro en v0 ⟨rfl, hb⟩
      replace hbel := hbel.trans (hb.mono hbel.size)
      clear hb
      cases b with
      | true =>
        have hno3 := hno2 rfl
        clear hno2 hbad
        go_wp2
        go_roundw
        case rel => exact ⟨k + 1, by omega, by go_num, hno3, hbel⟩
        case measure => simp [intOf]; omega
      | false =>
        have hbd := hbad rfl
        clear hno2 hbad
        go_wp2
        go_ret
        refine ⟨?_, hbel⟩
        rw [hbd.out]
        exact ⟨(k : Int), rfl, by simp⟩
    · have HV : Hid (xs.all (fun x => isT x) = true) := by
        show _ = _
        rw [List.all_eq_true]
        intro x hx
        obtain ⟨j, hj, rfl⟩ := List.mem_iff_getElem.1 hx
        exact hno.out j hj (by omega)
      have hlt2 : ¬ (k : Int) < (xs.length : Int) := by omega
      clear hno HG hr
      go_wp2
      go_ret
      refine ⟨?_, hbel⟩
      rw [HV.out]
      exact ⟨-1, rfl, by simp⟩
set_option maxRecDepth 100000 in
set_option maxHeartbeats 3200000 in
theorem allS_is (a : Option Addr) (cap : Nat) (xs : List ByteArray) (w : World) (hr : RowAt Value.string w a xs) (hl : xs.length ≤ 1048576) (HG : ∀ x ∈ xs, ∀ w', Below w.heap.size w w' → Calls Tryz.prog 82 #[.string x] w' fun e w'' => e = .returned (.bool (isT x)) ∧ Below w'.heap.size w' w'') :
    Calls Tryz.prog 81 #[.slice a xs.length cap, .func (.func 82) #[] #[]] w fun e w' => e = .returned (.bool (xs.all (fun x => isT x))) ∧ Below w.heap.size w w' := by
  obtain ⟨V, hV⟩ : ∃ V, w.alloc (.cells #[.func (.func 82) #[] #[]] 66) = V := ⟨_, rfl⟩
  have TV : Blk w.heap.size [.func (.func 82) #[] #[]] V := by rw [← hV]; exact Blk.new _ _ _
  have BC : Below w.heap.size w V := by rw [← hV]; exact (Below.refl _ _).alloc (Nat.le_refl _) _
  have sV : w.heap.size < V.heap.size := by rw [← hV]; simp
  have K1 := idxS_is a cap xs w.heap.size V (hr.later BC) hl sV (TV.at 0 rfl) (fun x hx w' hb => HG x hx w' (BC.trans (hb.mono BC.size)))
  clear HG hr TV sV
  generalize xs.all (fun x => isT x) = b at K1 ⊢
  have K2 : Calls Tryz.prog 111 #[.slice a xs.length cap, .func (.func 112) #[] #[.pointer (some ⟨w.heap.size, 0, none⟩)]] V fun e w' => e = .returned (.bool (!b)) ∧ Below V.heap.size V w' := by
    go_enter Tryz.func111, Tryz.ntmps111
    go_wp2_with fail
    refine K1.mono ?_
    clear K1
    rintro en v0 ⟨⟨r, rfl, hd⟩, hb⟩
    cases b with
    | true =>
      have hr2 : ¬ (0 ≤ r) := by simpa using hd
      go_wp2
      go_ret
      exact ⟨rfl, hb⟩
    | false =>
      have hr2 : 0 ≤ r := by simpa using hd
      go_wp2
      go_ret
      exact ⟨rfl, hb⟩
  clear K1
  go_enter Tryz.func81, Tryz.ntmps81
  go_wp2_with fail
  try rw [hV]
  refine K2.mono ?_
  clear K2
  rintro en v0 ⟨rfl, hb⟩
  replace BC := BC.trans (hb.mono BC.size)
  clear hb
  cases b with
  | true =>
    go_wp2
    go_ret
    exact ⟨rfl, BC⟩
  | false =>
    go_wp2
    go_ret
    exact ⟨rfl, BC⟩
set_option maxRecDepth 100000 in
set_option maxHeartbeats 3200000 in
theorem cloW_is (x : TW) (fp : Nat) (w : World) (hfp : fp < w.heap.size) (hc : w.cell? ⟨fp, 0, none⟩ = some (.func (.func 118) #[] #[])) (HG : ∀ w', Below w.heap.size w w' → Calls Tryz.prog 118 #[.agg #[.bool x.1, .int .i64 x.2.1, .int .i64 x.2.2.1, .int .i64 x.2.2.2]] w' fun e w'' => e = .returned (.bool (waitB x)) ∧ Below w'.heap.size w' w'') :
    Calls Tryz.prog 162 #[.agg #[.bool x.1, .int .i64 x.2.1, .int .i64 x.2.2.1, .int .i64 x.2.2.2], .pointer (some ⟨fp, 0, none⟩)] w fun e w' => e = .returned (.bool (!(waitB x))) ∧ Below w.heap.size w w' := by
  generalize waitB x = b at HG ⊢
  obtain ⟨V, hV⟩ : ∃ V, w.alloc (.cells #[.bool x.1, .int .i64 x.2.1, .int .i64 x.2.2.1, .int .i64 x.2.2.2] 69) = V := ⟨_, rfl⟩
  have TV : Blk w.heap.size [.bool x.1, .int .i64 x.2.1, .int .i64 x.2.2.1, .int .i64 x.2.2.2] V := by rw [← hV]; exact Blk.new _ _ _
  have BC : Below w.heap.size w V := by rw [← hV]; exact (Below.refl _ _).alloc (Nat.le_refl _) _
  have K1 := HG V BC
  have c0 := (BC.cell (p := ⟨fp, 0, none⟩) hfp).trans hc
  have d0 := TV.at 0 rfl
  have d1 := TV.at 1 rfl
  have d2 := TV.at 2 rfl
  have d3 := TV.at 3 rfl
  clear HG
  go_enter Tryz.func162, Tryz.ntmps162
  go_wp2_with fail
  try rw [hV]
  refine K1.mono ?_
  clear K1
  rintro en v0 ⟨rfl, hb⟩
  replace BC := BC.trans (hb.mono BC.size)
  clear hb
  cases b with
  | true =>
    go_wp2
    go_ret
    exact ⟨rfl, BC⟩
  | false =>
    go_wp2
    go_ret
    exact ⟨rfl, BC⟩
set_option maxRecDepth 100000 in
set_option maxHeartbeats 3200000 in
theorem idxW_is (a : Option Addr) (cap : Nat) (xs : List TW) (fp : Nat) (w : World) (hr : FRow 4 cW w a xs) (hl : xs.length ≤ 1048576) (hfp : fp < w.heap.size) (hc : w.cell? ⟨fp, 0, none⟩ = some (.func (.func 118) #[] #[])) (HG : ∀ x ∈ xs, ∀ w', Below w.heap.size w w' → Calls Tryz.prog 118 #[.agg #[.bool x.1, .int .i64 x.2.1, .int .i64 x.2.2.1, .int .i64 x.2.2.2]] w' fun e w'' => e = .returned (.bool (waitB x)) ∧ Below w'.heap.size w' w'') :
    Calls Tryz.prog 189 #[.slice a xs.length cap, .func (.func 162) #[] #[.pointer (some ⟨fp, 0, none⟩)]] w fun e w' => IdxP (xs.all (fun x => waitB x)) e ∧ Below w.heap.size w w' := by
  go_enter Tryz.func189, Tryz.ntmps189
  go_wp2
  go_loopw [8] (fun i wr => ∃ k : Nat, k ≤ xs.length ∧ i = .int .i64 k ∧ Hid (∀ j (h : j < xs.length), j < k → (fun x => waitB x) xs[j] = true) ∧ Below w.heap.size w wr) (fun i _ => xs.length - (intOf i).toNat)
  case atStart => exact ⟨0, by omega, rfl, fun j h hj => absurd hj (by omega), Below.refl _ _⟩
  case round =>
    obtain ⟨k, hk, rfl, hno, hbel⟩ := hrel
    by_cases hlt : k < xs.length
    · obtain ⟨b1, o1, rfl, l1, hcc⟩ := hr k hlt
      have c0 : wr.cell? ⟨b1, o1 + k * 4, none⟩ = some (.bool xs[k].1) := (hbel.cell (p := ⟨b1, o1 + k * 4, none⟩) l1).trans (hcc 0 _ rfl)
      have c1 : wr.cell? ⟨b1, o1 + k * 4 + 1, none⟩ = some (.int .i64 xs[k].2.1) := (hbel.cell (p := ⟨b1, o1 + k * 4 + 1, none⟩) l1).trans (hcc 1 _ rfl)
      have c2 : wr.cell? ⟨b1, o1 + k * 4 + 2, none⟩ = some (.int .i64 xs[k].2.2.1) := (hbel.cell (p := ⟨b1, o1 + k * 4 + 2, none⟩) l1).trans (hcc 2 _ rfl)
      have c3 : wr.cell? ⟨b1, o1 + k * 4 + 3, none⟩ = some (.int .i64 xs[k].2.2.2) := (hbel.cell (p := ⟨b1, o1 + k * 4 + 3, none⟩) l1).trans (hcc 3 _ rfl)
      have hlt2 : (k : Int) < (xs.length : Int) := by omega
      have K1 := cloW_is xs[k] fp wr (Nat.lt_of_lt_of_le hfp hbel.size) ((hbel.cell (p := ⟨fp, 0, none⟩) hfp).trans hc) (fun w' hb => HG xs[k] (List.getElem_mem hlt) w' (hbel.trans (hb.mono hbel.size)))
      have hno2 : (fun x => waitB x) xs[k] = true → Hid (∀ j (h : j < xs.length), j < k + 1 → (fun x => waitB x) xs[j] = true) := fun he j h hj => by
        by_cases e : j = k
        · subst e; exact he
        · exact hno.out j h (by omega)
      have hbad : (fun x => waitB x) xs[k] = false → Hid (xs.all (fun x => waitB x) = false) := fun he => by
        show _ = _
        rw [List.all_eq_false]
        exact ⟨xs[k], List.getElem_mem hlt, fun h => absurd (h.symm.trans he) (by decide)⟩
      clear HG hno
      generalize hxk : xs[k] = x at K1 hno2 hbad c0 c1 c2 c3
      clear hxk hcc
      dsimp only at hno2 hbad
      generalize hb0 : waitB x = b at K1 hno2 hbad
      clear hb0
      go_wp2_with fail
      refine K1.mono ?_
      clear K1 c0 c1 c2 c3
      rintro en v0 ⟨rfl, hb⟩
      replace hbel := hbel.trans (hb.mono hbel.size)
      clear hb
      cases b with
      | true =>
        have hno3 := hno2 rfl
        clear hno2 hbad
        go_wp2
        go_roundw
        case rel => exact ⟨k + 1, by omega, by go_num, hno3, hbel⟩
        case measure => simp [intOf]; omega
      | false =>
        have hbd := hbad rfl
        clear hno2 hbad
        go_wp2
        go_ret
        refine ⟨?_, hbel⟩
        rw [hbd.out]
        exact ⟨(k : Int), rfl, by simp⟩
    · have HV : Hid (xs.all (fun x => waitB x) = true) := by
        show _ = _
        rw [List.all_eq_true]
        intro x hx
        obtain ⟨j, hj, rfl⟩ := List.mem_iff_getElem.1 hx
        exact hno.out j hj (by omega)
      have hlt2 : ¬ (k : Int) < (xs.length : Int) := by omega
      clear hno HG hr
      go_wp2
      go_ret
      refine ⟨?_, hbel⟩
      rw [HV.out]
      exact ⟨-1, rfl, by simp⟩
set_option maxRecDepth 100000 in
set_option maxHeartbeats 3200000 in
theorem allW_is (a : Option Addr) (cap : Nat) (xs : List TW) (w : World) (hr : FRow 4 cW w a xs) (hl : xs.length ≤ 1048576) (HG : ∀ x ∈ xs, ∀ w', Below w.heap.size w w' → Calls Tryz.prog 118 #[.agg #[.bool x.1, .int .i64 x.2.1, .int .i64 x.2.2.1, .int .i64 x.2.2.2]] w' fun e w'' => e = .returned (.bool (waitB x)) ∧ Below w'.heap.size w' w'') :
    Calls Tryz.prog 117 #[.slice a xs.length cap, .func (.func 118) #[] #[]] w fun e w' => e = .returned (.bool (xs.all (fun x => waitB x))) ∧ Below w.heap.size w w' := by
  obtain ⟨V, hV⟩ : ∃ V, w.alloc (.cells #[.func (.func 118) #[] #[]] 67) = V := ⟨_, rfl⟩
  have TV : Blk w.heap.size [.func (.func 118) #[] #[]] V := by rw [← hV]; exact Blk.new _ _ _
  have BC : Below w.heap.size w V := by rw [← hV]; exact (Below.refl _ _).alloc (Nat.le_refl _) _
  have sV : w.heap.size < V.heap.size := by rw [← hV]; simp
  have K1 := idxW_is a cap xs w.heap.size V (hr.later BC) hl sV (TV.at 0 rfl) (fun x hx w' hb => HG x hx w' (BC.trans (hb.mono BC.size)))
  clear HG hr TV sV
  generalize xs.all (fun x => waitB x) = b at K1 ⊢
  have K2 : Calls Tryz.prog 161 #[.slice a xs.length cap, .func (.func 162) #[] #[.pointer (some ⟨w.heap.size, 0, none⟩)]] V fun e w' => e = .returned (.bool (!b)) ∧ Below V.heap.size V w' := by
    go_enter Tryz.func161, Tryz.ntmps161
    go_wp2_with fail
    refine K1.mono ?_
    clear K1
    rintro en v0 ⟨⟨r, rfl, hd⟩, hb⟩
    cases b with
    | true =>
      have hr2 : ¬ (0 ≤ r) := by simpa using hd
      go_wp2
      go_ret
      exact ⟨rfl, hb⟩
    | false =>
      have hr2 : 0 ≤ r := by simpa using hd
      go_wp2
      go_ret
      exact ⟨rfl, hb⟩
  clear K1
  go_enter Tryz.func117, Tryz.ntmps117
  go_wp2_with fail
  try rw [hV]
  refine K2.mono ?_
  clear K2
  rintro en v0 ⟨rfl, hb⟩
  replace BC := BC.trans (hb.mono BC.size)
  clear hb
  cases b with
  | true =>
    go_wp2
    go_ret
    exact ⟨rfl, BC⟩
  | false =>
    go_wp2
    go_ret
    exact ⟨rfl, BC⟩
end Go.Proofs.YtjcmbbnklfemcaaGreat.Nd
