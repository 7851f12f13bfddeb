/- Waits that are right. -/
import Derived.Test.YtjcmbbnklfemcaaGreatNd0
import Derived.Test.YtjcmbbnklfemcaaGreatTick1
import Derived.Test.YtjcmbbnklfemcaaGreatCr1
import Derived.Test.YtjcmbbnklfemcaaGreatKnow3
import Derived.Test.YtjcmbbnklfemcaaGreatSpecOk
import Derived.Test.YtjcmbbnklfemcaaGreatConf2
set_option linter.unusedVariables false
set_option maxRecDepth 100000
namespace Go.Proofs.YtjcmbbnklfemcaaGreat.Nd
open Go Go.RowKit Go.Joins Own Draw Term

theorem prow_of {w : World} {a : Option Addr} {xs : List TP} (h : FRow 2 cP w a xs) : PRow w a xs := by
  intro j hj
  obtain ⟨b, o, e, hb, hc⟩ := h j hj
  exact ⟨b, o, e, hb, hc 0 _ rfl, hc 1 _ rfl⟩
theorem arow_of {w : World} {a : Option Addr} {xs : List TA} (h : FRow 3 cA w a xs) : Ch.ARow w a xs := by
  intro j hj
  obtain ⟨b, o, e, hb, hc⟩ := h j hj
  exact ⟨b, o, e, hb, hc 0 _ rfl, hc 1 _ rfl, hc 2 _ rfl⟩
theorem own_cap {w : World} {B t s n c : Nat} {a : Option Addr} {xs : List Value} (h : w.ownsRow B t s (.slice a n c) n xs) : n ≤ c := by
  rcases h.2 with ⟨e, h0⟩ | ⟨g, cap, cur, e, _, _, hc, _⟩
  · omega
  · injection e with _ _ e3; omega
theorem within_b (n g : Int) (w : World) : Calls Tryz.prog 79 #[.int .i64 n, .int .i64 g] w fun e w' => e = .returned (.bool (btw n 0 g)) ∧ w = w' := within_is n g w
theorem in_b (n l g : Int) (w : World) : Calls Tryz.prog 28 #[.int .i64 n, .int .i64 l, .int .i64 g] w fun e w' => e = .returned (.bool (btw n l g)) ∧ w = w' := in_is n l g w
theorem key_b (n : Int) (w : World) : Calls Tryz.prog 80 #[.int .i64 n] w fun e w' => e = .returned (.bool (btw n 1 1000000)) ∧ w = w' := keyOk_is n w
def waitB (p : TW) : Bool := if p.1 then btw p.2.1 0 1000000 && (btw p.2.2.1 1 1000000 && btw p.2.2.2 0 5) else decide (p.2.1 = 0) && (decide (p.2.2.1 = 0) && decide (p.2.2.2 = 0))
set_option maxRecDepth 100000 in
set_option maxHeartbeats 3200000 in
theorem waitRight_is (p : TW) (w : World) : Calls Tryz.prog 118 #[vW p] w fun e w' => e = .returned (.bool (waitB p)) ∧ Below w.heap.size w w' := by
  obtain ⟨on, x, y, z⟩ := p
  obtain ⟨V, hV⟩ : ∃ V, w.alloc (.cells #[.bool on, .int .i64 x, .int .i64 y, .int .i64 z] 69) = V := ⟨_, rfl⟩
  have TV : Blk w.heap.size [.bool on, .int .i64 x, .int .i64 y, .int .i64 z] V := by rw [← hV]; exact Blk.new _ _ _
  have BC : Below w.heap.size w V := by rw [← hV]; exact (Below.refl _ _).alloc (Nat.le_refl _) _
  have d0 := TV.at 0 rfl
  have d1 := TV.at 1 rfl
  have d2 := TV.at 2 rfl
  have d3 := TV.at 3 rfl
  cases on with
  | false =>
    have HE : Hid (waitB (false, x, y, z) = (decide (x = 0) && (decide (y = 0) && decide (z = 0)))) := (rfl : waitB (false, x, y, z) = _)
    go_enter Tryz.func118, Tryz.ntmps118
    by_cases ex : x = 0
    · have qx : (x == 0) = true := beq_iff_eq.2 ex
      by_cases ey : y = 0
      · have qy : (y == 0) = true := beq_iff_eq.2 ey
        by_cases ez : z = 0
        · have qz : (z == 0) = true := beq_iff_eq.2 ez
          have HR : Hid (waitB (false, x, y, z) = true) := by show _ = _; rw [HE.out]; simp [ex, ey, ez]
          clear ex ey ez
          go_wp2
          go_ret
          exact ⟨by rw [HR.out]; rfl, BC⟩
        · have qz : (z == 0) = false := beq_eq_false_iff_ne.2 ez
          have HR : Hid (waitB (false, x, y, z) = false) := by show _ = _; rw [HE.out]; simp [ez]
          clear ex ey ez
          go_wp2
          go_ret
          exact ⟨by rw [HR.out]; rfl, BC⟩
      · have qy : (y == 0) = false := beq_eq_false_iff_ne.2 ey
        have HR : Hid (waitB (false, x, y, z) = false) := by show _ = _; rw [HE.out]; simp [ey]
        clear ex ey
        go_wp2
        go_ret
        exact ⟨by rw [HR.out]; rfl, BC⟩
    · have qx : (x == 0) = false := beq_eq_false_iff_ne.2 ex
      have HR : Hid (waitB (false, x, y, z) = false) := by show _ = _; rw [HE.out]; simp [ex]
      clear ex
      go_wp2
      go_ret
      exact ⟨by rw [HR.out]; rfl, BC⟩
  | true =>
    have HE : Hid (waitB (true, x, y, z) = (btw x 0 1000000 && (btw y 1 1000000 && btw z 0 5))) := (rfl : waitB (true, x, y, z) = _)
    go_enter Tryz.func118, Tryz.ntmps118
    go_wp2_with fail
    try rw [hV]
    refine (within_b x 1000000 _).mono ?_
    rintro en v0 ⟨rfl, rfl⟩
    by_cases h0 : btw x 0 1000000 = true
    · rw [h0]
      go_wp2_with fail
      try rw [hV]
      refine (key_b y _).mono ?_
      rintro en v1 ⟨rfl, rfl⟩
      by_cases h1 : btw y 1 1000000 = true
      · rw [h1]
        go_wp2_with fail
        try rw [hV]
        refine (prin_is z _).mono ?_
        rintro en v2 ⟨rfl, rfl⟩
        by_cases h2 : btw z 0 5 = true
        · rw [h2]
          go_wp2
          go_ret
          exact ⟨by rw [HE.out, h0, h1, h2]; rfl, BC⟩
        · rw [Bool.not_eq_true] at h2
          rw [h2]
          go_wp2
          go_ret
          exact ⟨by rw [HE.out, h0, h1, h2]; rfl, BC⟩
      · rw [Bool.not_eq_true] at h1
        rw [h1]
        go_wp2
        go_ret
        exact ⟨by rw [HE.out, h0, h1]; rfl, BC⟩
    · rw [Bool.not_eq_true] at h0
      rw [h0]
      go_wp2
      go_ret
      exact ⟨by rw [HE.out, h0]; rfl, BC⟩
set_option maxRecDepth 100000 in
set_option maxHeartbeats 3200000 in
theorem waitSpec_is (p : TW) (w : World) : Calls Tryz.prog 31 #[vW p] w fun e w' => e = .returned (.bool (waitB p)) ∧ Below w.heap.size w w' := by
  obtain ⟨on, x, y, z⟩ := p
  obtain ⟨V, hV⟩ : ∃ V, w.alloc (.cells #[.bool on, .int .i64 x, .int .i64 y, .int .i64 z] 69) = V := ⟨_, rfl⟩
  have TV : Blk w.heap.size [.bool on, .int .i64 x, .int .i64 y, .int .i64 z] V := by rw [← hV]; exact Blk.new _ _ _
  have BC : Below w.heap.size w V := by rw [← hV]; exact (Below.refl _ _).alloc (Nat.le_refl _) _
  have d0 := TV.at 0 rfl
  have d1 := TV.at 1 rfl
  have d2 := TV.at 2 rfl
  have d3 := TV.at 3 rfl
  cases on with
  | false =>
    have HE : Hid (waitB (false, x, y, z) = (decide (x = 0) && (decide (y = 0) && decide (z = 0)))) := (rfl : waitB (false, x, y, z) = _)
    go_enter Tryz.func31, Tryz.ntmps31
    by_cases ex : x = 0
    · have qx : (x == 0) = true := beq_iff_eq.2 ex
      by_cases ey : y = 0
      · have qy : (y == 0) = true := beq_iff_eq.2 ey
        by_cases ez : z = 0
        · have qz : (z == 0) = true := beq_iff_eq.2 ez
          have HR : Hid (waitB (false, x, y, z) = true) := by show _ = _; rw [HE.out]; simp [ex, ey, ez]
          clear ex ey ez
          go_wp2
          go_ret
          exact ⟨by rw [HR.out]; rfl, BC⟩
        · have qz : (z == 0) = false := beq_eq_false_iff_ne.2 ez
          have HR : Hid (waitB (false, x, y, z) = false) := by show _ = _; rw [HE.out]; simp [ez]
          clear ex ey ez
          go_wp2
          go_ret
          exact ⟨by rw [HR.out]; rfl, BC⟩
      · have qy : (y == 0) = false := beq_eq_false_iff_ne.2 ey
        have HR : Hid (waitB (false, x, y, z) = false) := by show _ = _; rw [HE.out]; simp [ey]
        clear ex ey
        go_wp2
        go_ret
        exact ⟨by rw [HR.out]; rfl, BC⟩
    · have qx : (x == 0) = false := beq_eq_false_iff_ne.2 ex
      have HR : Hid (waitB (false, x, y, z) = false) := by show _ = _; rw [HE.out]; simp [ex]
      clear ex
      go_wp2
      go_ret
      exact ⟨by rw [HR.out]; rfl, BC⟩
  | true =>
    have HE : Hid (waitB (true, x, y, z) = (btw x 0 1000000 && (btw y 1 1000000 && btw z 0 5))) := (rfl : waitB (true, x, y, z) = _)
    go_enter Tryz.func31, Tryz.ntmps31
    go_wp2_with fail
    try rw [hV]
    refine (in_b x 0 1000000 _).mono ?_
    rintro en v0 ⟨rfl, rfl⟩
    by_cases h0 : btw x 0 1000000 = true
    · rw [h0]
      go_wp2_with fail
      try rw [hV]
      refine (in_b y 1 1000000 _).mono ?_
      rintro en v1 ⟨rfl, rfl⟩
      by_cases h1 : btw y 1 1000000 = true
      · rw [h1]
        go_wp2_with fail
        try rw [hV]
        refine (spec_prin z _).mono ?_
        rintro en v2 ⟨rfl, rfl⟩
        by_cases h2 : btw z 0 5 = true
        · rw [h2]
          go_wp2
          go_ret
          exact ⟨by rw [HE.out, h0, h1, h2]; rfl, BC⟩
        · rw [Bool.not_eq_true] at h2
          rw [h2]
          go_wp2
          go_ret
          exact ⟨by rw [HE.out, h0, h1, h2]; rfl, BC⟩
      · rw [Bool.not_eq_true] at h1
        rw [h1]
        go_wp2
        go_ret
        exact ⟨by rw [HE.out, h0, h1]; rfl, BC⟩
    · rw [Bool.not_eq_true] at h0
      rw [h0]
      go_wp2
      go_ret
      exact ⟨by rw [HE.out, h0]; rfl, BC⟩
end Go.Proofs.YtjcmbbnklfemcaaGreat.Nd

set_option linter.unusedVariables false
set_option maxRecDepth 100000
namespace Go.Proofs.YtjcmbbnklfemcaaGreat.Nd
open Go Go.RowKit Go.Joins Own Draw Term

/-- What IndexFunc answers: at least 0 just where not all say yes. -/
def IdxP (b : Bool) (e : Ending) : Prop := ∃ r : Int, e = .returned (.int .i64 r) ∧ decide (0 ≤ r) = !b
set_option maxRecDepth 100000 in
set_option maxHeartbeats 3200000 in
theorem cloS_is (x : ByteArray) (fp : Nat) (w : World) (hfp : fp < w.heap.size) (hc : w.cell? ⟨fp, 0, none⟩ = some (.func (.func 82) #[] #[])) (HG : ∀ w', Below w.heap.size w w' → Calls Tryz.prog 82 #[.string x] w' fun e w'' => e = .returned (.bool (isT x)) ∧ Below w'.heap.size w' w'') :
    Calls Tryz.prog 112 #[.string x, .pointer (some ⟨fp, 0, none⟩)] w fun e w' => e = .returned (.bool (!(isT x))) ∧ Below w.heap.size w w' := by
  generalize isT x = b at HG ⊢
  have BC : Below w.heap.size w w := Below.refl _ _
  have K1 := HG w BC
  have c0 := hc
  clear HG
  go_enter Tryz.func112, Tryz.ntmps112
  go_wp2_with fail
  refine K1.mono ?_
  clear K1
  rintro en v0 ⟨rfl, hb⟩
  replace BC := BC.trans (hb.mono BC.size)
  clear hb
  cases b with
  | true =>
    go_wp2
    go_ret
    exact ⟨rfl, BC⟩
  | false =>
    go_wp2
    go_ret
    exact ⟨rfl, BC⟩
set_option maxRecDepth 100000 in
set_option maxHeartbeats 3200000 in
theorem idxS_is (a : Option Addr) (cap : Nat) (xs : List ByteArray) (fp : Nat) (w : World) (hr : RowAt Value.string w a xs) (hl : xs.length ≤ 1048576) (hfp : fp < w.heap.size) (hc : w.cell? ⟨fp, 0, none⟩ = some (.func (.func 82) #[] #[])) (HG : ∀ x ∈ xs, ∀ w', Below w.heap.size w w' → Calls Tryz.prog 82 #[.string x] w' fun e w'' => e = .returned (.bool (isT x)) ∧ Below w'.heap.size w' w'') :
    Calls Tryz.prog 155 #[.slice a xs.length cap, .func (.func 112) #[] #[.pointer (some ⟨fp, 0, none⟩)]] w fun e w' => IdxP (xs.all (fun x => isT x)) e ∧ Below w.heap.size w w' := by
  go_enter Tryz.func155, Tryz.ntmps155
  go_wp2
  go_loopw [8] (fun i wr => ∃ k : Nat, k ≤ xs.length ∧ i = .int .i64 k ∧ Hid (∀ j (h : j < xs.length), j < k → (fun x => isT x) xs[j] = true) ∧ Below w.heap.size w wr) (fun i _ => xs.length - (intOf i).toNat)
  case atStart => exact ⟨0, by omega, rfl, fun j h hj => absurd hj (by omega), Below.refl _ _⟩
  case round =>
    obtain ⟨k, hk, rfl, hno, hbel⟩ := hrel
    by_cases hlt : k < xs.length
    · obtain ⟨b1, o1, rfl, l1, hcc⟩ := hr k hlt
      have c0 : wr.cell? ⟨b1, o1 + k, none⟩ = some (.string xs[k]) := (hbel.cell (p := ⟨b1, o1 + k, none⟩) l1).trans hcc
      have hlt2 : (k : Int) < (xs.length : Int) := by omega
      have K1 := cloS_is xs[k] fp wr (Nat.lt_of_lt_of_le hfp hbel.size) ((hbel.cell (p := ⟨fp, 0, none⟩) hfp).trans hc) (fun w' hb => HG xs[k] (List.getElem_mem hlt) w' (hbel.trans (hb.mono hbel.size)))
      have hno2 : (fun x => isT x) xs[k] = true → Hid (∀ j (h : j < xs.length), j < k + 1 → (fun x => isT x) xs[j] = true) := fun he j h hj => by
        by_cases e : j = k
        · subst e; exact he
        · exact hno.out j h (by omega)
      have hbad : (fun x => isT x) xs[k] = false → Hid (xs.all (fun x => isT x) = false) := fun he => by
        show _ = _
        rw [List.all_eq_false]
        exact ⟨xs[k], List.getElem_mem hlt, fun h => absurd (h.symm.trans he) (by decide)⟩
      clear HG hno
      generalize hxk : xs[k] = x at K1 hno2 hbad c0
      clear hxk hcc
      dsimp only at hno2 hbad
      generalize hb0 : isT x = b at K1 hno2 hbad
      clear hb0
      go_wp2_with fail
      refine K1.mono ?_
      clear K1 c0
      rintro en v0 ⟨rfl, hb⟩
      replace hbel := hbel.trans (hb.mono hbel.size)
      clear hb
      cases b with
      | true =>
        have hno3 := hno2 rfl
        clear hno2 hbad
        go_wp2
        go_roundw
        case rel => exact ⟨k + 1, by omega, by go_num, hno3, hbel⟩
        case measure => simp [intOf]; omega
      | false =>
        have hbd := hbad rfl
        clear hno2 hbad
        go_wp2
        go_ret
        refine ⟨?_, hbel⟩
        rw [hbd.out]
        exact ⟨(k : Int), rfl, by simp⟩
    · have HV : Hid (xs.all (fun x => isT x) = true) := by
        show _ = _
        rw [List.all_eq_true]
        intro x hx
        obtain ⟨j, hj, rfl⟩ := List.mem_iff_getElem.1 hx
        exact hno.out j hj (by omega)
      have hlt2 : ¬ (k : Int) < (xs.length : Int) := by omega
      clear hno HG hr
      go_wp2
      go_ret
      refine ⟨?_, hbel⟩
      rw [HV.out]
      exact ⟨-1, rfl, by simp⟩
set_option maxRecDepth 100000 in
set_option maxHeartbeats 3200000 in
theorem allS_is (a : Option Addr) (cap : Nat) (xs : List ByteArray) (w : World) (hr : RowAt Value.string w a xs) (hl : xs.length ≤ 1048576) (HG : ∀ x ∈ xs, ∀ w', Below w.heap.size w w' → Calls Tryz.prog 82 #[.string x] w' fun e w'' => e = .returned (.bool (isT x)) ∧ Below w'.heap.size w' w'') :
    Calls Tryz.prog 81 #[.slice a xs.length cap, .func (.func 82) #[] #[]] w fun e w' => e = .returned (.bool (xs.all (fun x => isT x))) ∧ Below w.heap.size w w' := by
  obtain ⟨V, hV⟩ : ∃ V, w.alloc (.cells #[.func (.func 82) #[] #[]] 66) = V := ⟨_, rfl⟩
  have TV : Blk w.heap.size [.func (.func 82) #[] #[]] V := by rw [← hV]; exact Blk.new _ _ _
  have BC : Below w.heap.size w V := by rw [← hV]; exact (Below.refl _ _).alloc (Nat.le_refl _) _
  have sV : w.heap.size < V.heap.size := by rw [← hV]; simp
  have K1 := idxS_is a cap xs w.heap.size V (hr.later BC) hl sV (TV.at 0 rfl) (fun x hx w' hb => HG x hx w' (BC.trans (hb.mono BC.size)))
  clear HG hr TV sV
  generalize xs.all (fun x => isT x) = b at K1 ⊢
  have K2 : Calls Tryz.prog 111 #[.slice a xs.length cap, .func (.func 112) #[] #[.pointer (some ⟨w.heap.size, 0, none⟩)]] V fun e w' => e = .returned (.bool (!b)) ∧ Below V.heap.size V w' := by
    go_enter Tryz.func111, Tryz.ntmps111
    go_wp2_with fail
    refine K1.mono ?_
    clear K1
    rintro en v0 ⟨⟨r, rfl, hd⟩, hb⟩
    cases b with
    | true =>
      have hr2 : ¬ (0 ≤ r) := by simpa using hd
      go_wp2
      go_ret
      exact ⟨rfl, hb⟩
    | false =>
      have hr2 : 0 ≤ r := by simpa using hd
      go_wp2
      go_ret
      exact ⟨rfl, hb⟩
  clear K1
  go_enter Tryz.func81, Tryz.ntmps81
  go_wp2_with fail
  try rw [hV]
  refine K2.mono ?_
  clear K2
  rintro en v0 ⟨rfl, hb⟩
  replace BC := BC.trans (hb.mono BC.size)
  clear hb
  cases b with
  | true =>
    go_wp2
    go_ret
    exact ⟨rfl, BC⟩
  | false =>
    go_wp2
    go_ret
    exact ⟨rfl, BC⟩
set_option maxRecDepth 100000 in
set_option maxHeartbeats 3200000 in
theorem cloW_is (x : TW) (fp : Nat) (w : World) (hfp : fp < w.heap.size) (hc : w.cell? ⟨fp, 0, none⟩ = some (.func (.func 118) #[] #[])) (HG : ∀ w', Below w.heap.size w w' → Calls Tryz.prog 118 #[.agg #[.bool x.1, .int .i64 x.2.1, .int .i64 x.2.2.1, .int .i64 x.2.2.2]] w' fun e w'' => e = .returned (.bool (waitB x)) ∧ Below w'.heap.size w' w'') :
    Calls Tryz.prog 162 #[.agg #[.bool x.1, .int .i64 x.2.1, .int .i64 x.2.2.1, .int .i64 x.2.2.2], .pointer (some ⟨fp, 0, none⟩)] w fun e w' => e = .returned (.bool (!(waitB x))) ∧ Below w.heap.size w w' := by
  generalize waitB x = b at HG ⊢
  obtain ⟨V, hV⟩ : ∃ V, w.alloc (.cells #[.bool x.1, .int .i64 x.2.1, .int .i64 x.2.2.1, .int .i64 x.2.2.2] 69) = V := ⟨_, rfl⟩
  have TV : Blk w.heap.size [.bool x.1, .int .i64 x.2.1, .int .i64 x.2.2.1, .int .i64 x.2.2.2] V := by rw [← hV]; exact Blk.new _ _ _
  have BC : Below w.heap.size w V := by rw [← hV]; exact (Below.refl _ _).alloc (Nat.le_refl _) _
  have K1 := HG V BC
  have c0 := (BC.cell (p := ⟨fp, 0, none⟩) hfp).trans hc
  have d0 := TV.at 0 rfl
  have d1 := TV.at 1 rfl
  have d2 := TV.at 2 rfl
  have d3 := TV.at 3 rfl
  clear HG
  go_enter Tryz.func162, Tryz.ntmps162
  go_wp2_with fail
  try rw [hV]
  refine K1.mono ?_
  clear K1
  rintro en v0 ⟨rfl, hb⟩
  replace BC := BC.trans (hb.mono BC.size)
  clear hb
  cases b with
  | true =>
    go_wp2
    go_ret
    exact ⟨rfl, BC⟩
  | false =>
    go_wp2
    go_ret
    exact ⟨rfl, BC⟩
set_option maxRecDepth 100000 in
set_option maxHeartbeats 3200000 in
theorem idxW_is (a : Option Addr) (cap : Nat) (xs : List TW) (fp : Nat) (w : World) (hr : FRow 4 cW w a xs) (hl : xs.length ≤ 1048576) (hfp : fp < w.heap.size) (hc : w.cell? ⟨fp, 0, none⟩ = some (.func (.func 118) #[] #[])) (HG : ∀ x ∈ xs, ∀ w', Below w.heap.size w w' → Calls Tryz.prog 118 #[.agg #[.bool x.1, .int .i64 x.2.1, .int .i64 x.2.2.1, .int .i64 x.2.2.2]] w' fun e w'' => e = .returned (.bool (waitB x)) ∧ Below w'.heap.size w' w'') :
    Calls Tryz.prog 189 #[.slice a xs.length cap, .func (.func 162) #[] #[.pointer (some ⟨fp, 0, none⟩)]] w fun e w' => IdxP (xs.all (fun x => waitB x)) e ∧ Below w.heap.size w w' := by
  go_enter Tryz.func189, Tryz.ntmps189
  go_wp2
  go_loopw [8] (fun i wr => ∃ k : Nat, k ≤ xs.length ∧ i = .int .i64 k ∧ Hid (∀ j (h : j < xs.length), j < k → (fun x => waitB x) xs[j] = true) ∧ Below w.heap.size w wr) (fun i _ => xs.length - (intOf i).toNat)
  case atStart => exact ⟨0, by omega, rfl, fun j h hj => absurd hj (by omega), Below.refl _ _⟩
  case round =>
    obtain ⟨k, hk, rfl, hno, hbel⟩ := hrel
    by_cases hlt : k < xs.length
    · obtain ⟨b1, o1, rfl, l1, hcc⟩ := hr k hlt
      have c0 : wr.cell? ⟨b1, o1 + k * 4, none⟩ = some (.bool xs[k].1) := (hbel.cell (p := ⟨b1, o1 + k * 4, none⟩) l1).trans (hcc 0 _ rfl)
      have c1 : wr.cell? ⟨b1, o1 + k * 4 + 1, none⟩ = some (.int .i64 xs[k].2.1) := (hbel.cell (p := ⟨b1, o1 + k * 4 + 1, none⟩) l1).trans (hcc 1 _ rfl)
      have c2 : wr.cell? ⟨b1, o1 + k * 4 + 2, none⟩ = some (.int .i64 xs[k].2.2.1) := (hbel.cell (p := ⟨b1, o1 + k * 4 + 2, none⟩) l1).trans (hcc 2 _ rfl)
      have c3 : wr.cell? ⟨b1, o1 + k * 4 + 3, none⟩ = some (.int .i64 xs[k].2.2.2) := (hbel.cell (p := ⟨b1, o1 + k * 4 + 3, none⟩) l1).trans (hcc 3 _ rfl)
      have hlt2 : (k : Int) < (xs.length : Int) := by omega
      have K1 := cloW_is xs[k] fp wr (Nat.lt_of_lt_of_le hfp hbel.size) ((hbel.cell (p := ⟨fp, 0, none⟩) hfp).trans hc) (fun w' hb => HG xs[k] (List.getElem_mem hlt) w' (hbel.trans (hb.mono hbel.size)))
      have hno2 : (fun x => waitB x) xs[k] = true → Hid (∀ j (h : j < xs.length), j < k + 1 → (fun x => waitB x) xs[j] = true) := fun he j h hj => by
        by_cases e : j = k
        · subst e; exact he
        · exact hno.out j h (by omega)
      have hbad : (fun x => waitB x) xs[k] = false → Hid (xs.all (fun x => waitB x) = false) := fun he => by
        show _ = _
        rw [List.all_eq_false]
        exact ⟨xs[k], List.getElem_mem hlt, fun h => absurd (h.symm.trans he) (by decide)⟩
      clear HG hno
      generalize hxk : xs[k] = x at K1 hno2 hbad c0 c1 c2 c3
      clear hxk hcc
      dsimp only at hno2 hbad
      generalize hb0 : waitB x = b at K1 hno2 hbad
      clear hb0
      go_wp2_with fail
      refine K1.mono ?_
      clear K1 c0 c1 c2 c3
      rintro en v0 ⟨rfl, hb⟩
      replace hbel := hbel.trans (hb.mono hbel.size)
      clear hb
      cases b with
      | true =>
        have hno3 := hno2 rfl
        clear hno2 hbad
        go_wp2
        go_roundw
        case rel => exact ⟨k + 1, by omega, by go_num, hno3, hbel⟩
        case measure => simp [intOf]; omega
      | false =>
        have hbd := hbad rfl
        clear hno2 hbad
        go_wp2
        go_ret
        refine ⟨?_, hbel⟩
        rw [hbd.out]
        exact ⟨(k : Int), rfl, by simp⟩
    · have HV : Hid (xs.all (fun x => waitB x) = true) := by
        show _ = _
        rw [List.all_eq_true]
        intro x hx
        obtain ⟨j, hj, rfl⟩ := List.mem_iff_getElem.1 hx
        exact hno.out j hj (by omega)
      have hlt2 : ¬ (k : Int) < (xs.length : Int) := by omega
      clear hno HG hr
      go_wp2
      go_ret
      refine ⟨?_, hbel⟩
      rw [HV.out]
      exact ⟨-1, rfl, by simp⟩
set_option maxRecDepth 100000 in
set_option maxHeartbeats 3200000 in
theorem allW_is (a : Option Addr) (cap : Nat) (xs : List TW) (w : World) (hr : FRow 4 cW w a xs) (hl : xs.length ≤ 1048576) (HG : ∀ x ∈ xs, ∀ w', Below w.heap.size w w' → Calls Tryz.prog 118 #[.agg #[.bool x.1, .int .i64 x.2.1, .int .i64 x.2.2.1, .int .i64 x.2.2.2]] w' fun e w'' => e = .returned (.bool (waitB x)) ∧ Below w'.heap.size w' w'') :
    Calls Tryz.prog 117 #[.slice a xs.length cap, .func (.func 118) #[] #[]] w fun e w' => e = .returned (.bool (xs.all (fun x => waitB x))) ∧ Below w.heap.size w w' := by
  obtain ⟨V, hV⟩ : ∃ V, w.alloc (.cells #[.func (.func 118) #[] #[]] 67) = V := ⟨_, rfl⟩
  have TV : Blk w.heap.size [.func (.func 118) #[] #[]] V := by rw [← hV]; exact Blk.new _ _ _
  have BC : Below w.heap.size w V := by rw [← hV]; exact (Below.refl _ _).alloc (Nat.le_refl _) _
  have sV : w.heap.size < V.heap.size := by rw [← hV]; simp
  have K1 := idxW_is a cap xs w.heap.size V (hr.later BC) hl sV (TV.at 0 rfl) (fun x hx w' hb => HG x hx w' (BC.trans (hb.mono BC.size)))
  clear HG hr TV sV
  generalize xs.all (fun x => waitB x) = b at K1 ⊢
  have K2 : Calls Tryz.prog 161 #[.slice a xs.length cap, .func (.func 162) #[] #[.pointer (some ⟨w.heap.size, 0, none⟩)]] V fun e w' => e = .returned (.bool (!b)) ∧ Below V.heap.size V w' := by
    go_enter Tryz.func161, Tryz.ntmps161
    go_wp2_with fail
    refine K1.mono ?_
    clear K1
    rintro en v0 ⟨⟨r, rfl, hd⟩, hb⟩
    cases b with
    | true =>
      have hr2 : ¬ (0 ≤ r) := by simpa using hd
      go_wp2
      go_ret
      exact ⟨rfl, hb⟩
    | false =>
      have hr2 : 0 ≤ r := by simpa using hd
      go_wp2
      go_ret
      exact ⟨rfl, hb⟩
  clear K1
  go_enter Tryz.func117, Tryz.ntmps117
  go_wp2_with fail
  try rw [hV]
  refine K2.mono ?_
  clear K2
  rintro en v0 ⟨rfl, hb⟩
  replace BC := BC.trans (hb.mono BC.size)
  clear hb
  cases b with
  | true =>
    go_wp2
    go_ret
    exact ⟨rfl, BC⟩
  | false =>
    go_wp2
    go_ret
    exact ⟨rfl, BC⟩
end Go.Proofs.YtjcmbbnklfemcaaGreat.Nd

set_option linter.unusedVariables false
set_option maxRecDepth 100000
namespace Go.Proofs.YtjcmbbnklfemcaaGreat.Nd
open Go Go.RowKit Go.Joins Own Draw Term

def crB (p : TC) : Bool := crOk p.1 p.2.1 p.2.2.1 p.2.2.2.1 p.2.2.2.2.1 p.2.2.2.2.2.1 p.2.2.2.2.2.2.1 p.2.2.2.2.2.2.2
def caB (p : TK) : Bool := Ch.cOk p.1 p.2.2.2
set_option maxRecDepth 100000 in
set_option maxHeartbeats 3200000 in
theorem cloC_is (x : TC) (fp : Nat) (w : World) (hfp : fp < w.heap.size) (hc : w.cell? ⟨fp, 0, none⟩ = some (.func (.func 120) #[] #[])) (HG : ∀ w', Below w.heap.size w w' → Calls Tryz.prog 120 #[.agg #[.int .i64 x.1, .int .i64 x.2.1, .int .i64 x.2.2.1, .int .i64 x.2.2.2.1, .int .i64 x.2.2.2.2.1, .int .i64 x.2.2.2.2.2.1, .int .i64 x.2.2.2.2.2.2.1, .string x.2.2.2.2.2.2.2]] w' fun e w'' => e = .returned (.bool (crB x)) ∧ Below w'.heap.size w' w'') :
    Calls Tryz.prog 164 #[.agg #[.int .i64 x.1, .int .i64 x.2.1, .int .i64 x.2.2.1, .int .i64 x.2.2.2.1, .int .i64 x.2.2.2.2.1, .int .i64 x.2.2.2.2.2.1, .int .i64 x.2.2.2.2.2.2.1, .string x.2.2.2.2.2.2.2], .pointer (some ⟨fp, 0, none⟩)] w fun e w' => e = .returned (.bool (!(crB x))) ∧ Below w.heap.size w w' := by
  generalize crB x = b at HG ⊢
  obtain ⟨V, hV⟩ : ∃ V, w.alloc (.cells #[.int .i64 x.1, .int .i64 x.2.1, .int .i64 x.2.2.1, .int .i64 x.2.2.2.1, .int .i64 x.2.2.2.2.1, .int .i64 x.2.2.2.2.2.1, .int .i64 x.2.2.2.2.2.2.1, .string x.2.2.2.2.2.2.2] 74) = V := ⟨_, rfl⟩
  have TV : Blk w.heap.size [.int .i64 x.1, .int .i64 x.2.1, .int .i64 x.2.2.1, .int .i64 x.2.2.2.1, .int .i64 x.2.2.2.2.1, .int .i64 x.2.2.2.2.2.1, .int .i64 x.2.2.2.2.2.2.1, .string x.2.2.2.2.2.2.2] V := by rw [← hV]; exact Blk.new _ _ _
  have BC : Below w.heap.size w V := by rw [← hV]; exact (Below.refl _ _).alloc (Nat.le_refl _) _
  have K1 := HG V BC
  have c0 := (BC.cell (p := ⟨fp, 0, none⟩) hfp).trans hc
  have d0 := TV.at 0 rfl
  have d1 := TV.at 1 rfl
  have d2 := TV.at 2 rfl
  have d3 := TV.at 3 rfl
  have d4 := TV.at 4 rfl
  have d5 := TV.at 5 rfl
  have d6 := TV.at 6 rfl
  have d7 := TV.at 7 rfl
  clear HG
  go_enter Tryz.func164, Tryz.ntmps164
  go_wp2_with fail
  try rw [hV]
  refine K1.mono ?_
  clear K1
  rintro en v0 ⟨rfl, hb⟩
  replace BC := BC.trans (hb.mono BC.size)
  clear hb
  cases b with
  | true =>
    go_wp2
    go_ret
    exact ⟨rfl, BC⟩
  | false =>
    go_wp2
    go_ret
    exact ⟨rfl, BC⟩
set_option maxRecDepth 100000 in
set_option maxHeartbeats 3200000 in
theorem idxC_is (a : Option Addr) (cap : Nat) (xs : List TC) (fp : Nat) (w : World) (hr : FRow 8 cC w a xs) (hl : xs.length ≤ 1048576) (hfp : fp < w.heap.size) (hc : w.cell? ⟨fp, 0, none⟩ = some (.func (.func 120) #[] #[])) (HG : ∀ x ∈ xs, ∀ w', Below w.heap.size w w' → Calls Tryz.prog 120 #[.agg #[.int .i64 x.1, .int .i64 x.2.1, .int .i64 x.2.2.1, .int .i64 x.2.2.2.1, .int .i64 x.2.2.2.2.1, .int .i64 x.2.2.2.2.2.1, .int .i64 x.2.2.2.2.2.2.1, .string x.2.2.2.2.2.2.2]] w' fun e w'' => e = .returned (.bool (crB x)) ∧ Below w'.heap.size w' w'') :
    Calls Tryz.prog 190 #[.slice a xs.length cap, .func (.func 164) #[] #[.pointer (some ⟨fp, 0, none⟩)]] w fun e w' => IdxP (xs.all (fun x => crB x)) e ∧ Below w.heap.size w w' := by
  go_enter Tryz.func190, Tryz.ntmps190
  go_wp2
  go_loopw [8] (fun i wr => ∃ k : Nat, k ≤ xs.length ∧ i = .int .i64 k ∧ Hid (∀ j (h : j < xs.length), j < k → (fun x => crB x) xs[j] = true) ∧ Below w.heap.size w wr) (fun i _ => xs.length - (intOf i).toNat)
  case atStart => exact ⟨0, by omega, rfl, fun j h hj => absurd hj (by omega), Below.refl _ _⟩
  case round =>
    obtain ⟨k, hk, rfl, hno, hbel⟩ := hrel
    by_cases hlt : k < xs.length
    · obtain ⟨b1, o1, rfl, l1, hcc⟩ := hr k hlt
      have c0 : wr.cell? ⟨b1, o1 + k * 8, none⟩ = some (.int .i64 xs[k].1) := (hbel.cell (p := ⟨b1, o1 + k * 8, none⟩) l1).trans (hcc 0 _ rfl)
      have c1 : wr.cell? ⟨b1, o1 + k * 8 + 1, none⟩ = some (.int .i64 xs[k].2.1) := (hbel.cell (p := ⟨b1, o1 + k * 8 + 1, none⟩) l1).trans (hcc 1 _ rfl)
      have c2 : wr.cell? ⟨b1, o1 + k * 8 + 2, none⟩ = some (.int .i64 xs[k].2.2.1) := (hbel.cell (p := ⟨b1, o1 + k * 8 + 2, none⟩) l1).trans (hcc 2 _ rfl)
      have c3 : wr.cell? ⟨b1, o1 + k * 8 + 3, none⟩ = some (.int .i64 xs[k].2.2.2.1) := (hbel.cell (p := ⟨b1, o1 + k * 8 + 3, none⟩) l1).trans (hcc 3 _ rfl)
      have c4 : wr.cell? ⟨b1, o1 + k * 8 + 4, none⟩ = some (.int .i64 xs[k].2.2.2.2.1) := (hbel.cell (p := ⟨b1, o1 + k * 8 + 4, none⟩) l1).trans (hcc 4 _ rfl)
      have c5 : wr.cell? ⟨b1, o1 + k * 8 + 5, none⟩ = some (.int .i64 xs[k].2.2.2.2.2.1) := (hbel.cell (p := ⟨b1, o1 + k * 8 + 5, none⟩) l1).trans (hcc 5 _ rfl)
      have c6 : wr.cell? ⟨b1, o1 + k * 8 + 6, none⟩ = some (.int .i64 xs[k].2.2.2.2.2.2.1) := (hbel.cell (p := ⟨b1, o1 + k * 8 + 6, none⟩) l1).trans (hcc 6 _ rfl)
      have c7 : wr.cell? ⟨b1, o1 + k * 8 + 7, none⟩ = some (.string xs[k].2.2.2.2.2.2.2) := (hbel.cell (p := ⟨b1, o1 + k * 8 + 7, none⟩) l1).trans (hcc 7 _ rfl)
      have hlt2 : (k : Int) < (xs.length : Int) := by omega
      have K1 := cloC_is xs[k] fp wr (Nat.lt_of_lt_of_le hfp hbel.size) ((hbel.cell (p := ⟨fp, 0, none⟩) hfp).trans hc) (fun w' hb => HG xs[k] (List.getElem_mem hlt) w' (hbel.trans (hb.mono hbel.size)))
      have hno2 : (fun x => crB x) xs[k] = true → Hid (∀ j (h : j < xs.length), j < k + 1 → (fun x => crB x) xs[j] = true) := fun he j h hj => by
        by_cases e : j = k
        · subst e; exact he
        · exact hno.out j h (by omega)
      have hbad : (fun x => crB x) xs[k] = false → Hid (xs.all (fun x => crB x) = false) := fun he => by
        show _ = _
        rw [List.all_eq_false]
        exact ⟨xs[k], List.getElem_mem hlt, fun h => absurd (h.symm.trans he) (by decide)⟩
      clear HG hno
      generalize hxk : xs[k] = x at K1 hno2 hbad c0 c1 c2 c3 c4 c5 c6 c7
      clear hxk hcc
      dsimp only at hno2 hbad
      generalize hb0 : crB x = b at K1 hno2 hbad
      clear hb0
      go_wp2_with fail
      refine K1.mono ?_
      clear K1 c0 c1 c2 c3 c4 c5 c6 c7
      rintro en v0 ⟨rfl, hb⟩
      replace hbel := hbel.trans (hb.mono hbel.size)
      clear hb
      cases b with
      | true =>
        have hno3 := hno2 rfl
        clear hno2 hbad
        go_wp2
        go_roundw
        case rel => exact ⟨k + 1, by omega, by go_num, hno3, hbel⟩
        case measure => simp [intOf]; omega
      | false =>
        have hbd := hbad rfl
        clear hno2 hbad
        go_wp2
        go_ret
        refine ⟨?_, hbel⟩
        rw [hbd.out]
        exact ⟨(k : Int), rfl, by simp⟩
    · have HV : Hid (xs.all (fun x => crB x) = true) := by
        show _ = _
        rw [List.all_eq_true]
        intro x hx
        obtain ⟨j, hj, rfl⟩ := List.mem_iff_getElem.1 hx
        exact hno.out j hj (by omega)
      have hlt2 : ¬ (k : Int) < (xs.length : Int) := by omega
      clear hno HG hr
      go_wp2
      go_ret
      refine ⟨?_, hbel⟩
      rw [HV.out]
      exact ⟨-1, rfl, by simp⟩
set_option maxRecDepth 100000 in
set_option maxHeartbeats 3200000 in
theorem allC_is (a : Option Addr) (cap : Nat) (xs : List TC) (w : World) (hr : FRow 8 cC w a xs) (hl : xs.length ≤ 1048576) (HG : ∀ x ∈ xs, ∀ w', Below w.heap.size w w' → Calls Tryz.prog 120 #[.agg #[.int .i64 x.1, .int .i64 x.2.1, .int .i64 x.2.2.1, .int .i64 x.2.2.2.1, .int .i64 x.2.2.2.2.1, .int .i64 x.2.2.2.2.2.1, .int .i64 x.2.2.2.2.2.2.1, .string x.2.2.2.2.2.2.2]] w' fun e w'' => e = .returned (.bool (crB x)) ∧ Below w'.heap.size w' w'') :
    Calls Tryz.prog 119 #[.slice a xs.length cap, .func (.func 120) #[] #[]] w fun e w' => e = .returned (.bool (xs.all (fun x => crB x))) ∧ Below w.heap.size w w' := by
  obtain ⟨V, hV⟩ : ∃ V, w.alloc (.cells #[.func (.func 120) #[] #[]] 70) = V := ⟨_, rfl⟩
  have TV : Blk w.heap.size [.func (.func 120) #[] #[]] V := by rw [← hV]; exact Blk.new _ _ _
  have BC : Below w.heap.size w V := by rw [← hV]; exact (Below.refl _ _).alloc (Nat.le_refl _) _
  have sV : w.heap.size < V.heap.size := by rw [← hV]; simp
  have K1 := idxC_is a cap xs w.heap.size V (hr.later BC) hl sV (TV.at 0 rfl) (fun x hx w' hb => HG x hx w' (BC.trans (hb.mono BC.size)))
  clear HG hr TV sV
  generalize xs.all (fun x => crB x) = b at K1 ⊢
  have K2 : Calls Tryz.prog 163 #[.slice a xs.length cap, .func (.func 164) #[] #[.pointer (some ⟨w.heap.size, 0, none⟩)]] V fun e w' => e = .returned (.bool (!b)) ∧ Below V.heap.size V w' := by
    go_enter Tryz.func163, Tryz.ntmps163
    go_wp2_with fail
    refine K1.mono ?_
    clear K1
    rintro en v0 ⟨⟨r, rfl, hd⟩, hb⟩
    cases b with
    | true =>
      have hr2 : ¬ (0 ≤ r) := by simpa using hd
      go_wp2
      go_ret
      exact ⟨rfl, hb⟩
    | false =>
      have hr2 : 0 ≤ r := by simpa using hd
      go_wp2
      go_ret
      exact ⟨rfl, hb⟩
  clear K1
  go_enter Tryz.func119, Tryz.ntmps119
  go_wp2_with fail
  try rw [hV]
  refine K2.mono ?_
  clear K2
  rintro en v0 ⟨rfl, hb⟩
  replace BC := BC.trans (hb.mono BC.size)
  clear hb
  cases b with
  | true =>
    go_wp2
    go_ret
    exact ⟨rfl, BC⟩
  | false =>
    go_wp2
    go_ret
    exact ⟨rfl, BC⟩
set_option maxRecDepth 100000 in
set_option maxHeartbeats 3200000 in
theorem cloK_is (x : TK) (fp : Nat) (w : World) (hfp : fp < w.heap.size) (hc : w.cell? ⟨fp, 0, none⟩ = some (.func (.func 122) #[] #[])) (HG : ∀ w', Below w.heap.size w w' → Calls Tryz.prog 122 #[.agg #[.int .i64 x.1, .slice x.2.1 x.2.2.2.length x.2.2.1]] w' fun e w'' => e = .returned (.bool (caB x)) ∧ Below w'.heap.size w' w'') :
    Calls Tryz.prog 168 #[.agg #[.int .i64 x.1, .slice x.2.1 x.2.2.2.length x.2.2.1], .pointer (some ⟨fp, 0, none⟩)] w fun e w' => e = .returned (.bool (!(caB x))) ∧ Below w.heap.size w w' := by
  generalize caB x = b at HG ⊢
  obtain ⟨V, hV⟩ : ∃ V, w.alloc (.cells #[.int .i64 x.1, .slice x.2.1 x.2.2.2.length x.2.2.1] 78) = V := ⟨_, rfl⟩
  have TV : Blk w.heap.size [.int .i64 x.1, .slice x.2.1 x.2.2.2.length x.2.2.1] V := by rw [← hV]; exact Blk.new _ _ _
  have BC : Below w.heap.size w V := by rw [← hV]; exact (Below.refl _ _).alloc (Nat.le_refl _) _
  have K1 := HG V BC
  have c0 := (BC.cell (p := ⟨fp, 0, none⟩) hfp).trans hc
  have d0 := TV.at 0 rfl
  have d1 := TV.at 1 rfl
  clear HG
  go_enter Tryz.func168, Tryz.ntmps168
  go_wp2_with fail
  try rw [hV]
  refine K1.mono ?_
  clear K1
  rintro en v0 ⟨rfl, hb⟩
  replace BC := BC.trans (hb.mono BC.size)
  clear hb
  cases b with
  | true =>
    go_wp2
    go_ret
    exact ⟨rfl, BC⟩
  | false =>
    go_wp2
    go_ret
    exact ⟨rfl, BC⟩
set_option maxRecDepth 100000 in
set_option maxHeartbeats 3200000 in
theorem idxK_is (a : Option Addr) (cap : Nat) (xs : List TK) (fp : Nat) (w : World) (hr : FRow 2 cK w a xs) (hl : xs.length ≤ 1048576) (hfp : fp < w.heap.size) (hc : w.cell? ⟨fp, 0, none⟩ = some (.func (.func 122) #[] #[])) (HG : ∀ x ∈ xs, ∀ w', Below w.heap.size w w' → Calls Tryz.prog 122 #[.agg #[.int .i64 x.1, .slice x.2.1 x.2.2.2.length x.2.2.1]] w' fun e w'' => e = .returned (.bool (caB x)) ∧ Below w'.heap.size w' w'') :
    Calls Tryz.prog 191 #[.slice a xs.length cap, .func (.func 168) #[] #[.pointer (some ⟨fp, 0, none⟩)]] w fun e w' => IdxP (xs.all (fun x => caB x)) e ∧ Below w.heap.size w w' := by
  go_enter Tryz.func191, Tryz.ntmps191
  go_wp2
  go_loopw [8] (fun i wr => ∃ k : Nat, k ≤ xs.length ∧ i = .int .i64 k ∧ Hid (∀ j (h : j < xs.length), j < k → (fun x => caB x) xs[j] = true) ∧ Below w.heap.size w wr) (fun i _ => xs.length - (intOf i).toNat)
  case atStart => exact ⟨0, by omega, rfl, fun j h hj => absurd hj (by omega), Below.refl _ _⟩
  case round =>
    obtain ⟨k, hk, rfl, hno, hbel⟩ := hrel
    by_cases hlt : k < xs.length
    · obtain ⟨b1, o1, rfl, l1, hcc⟩ := hr k hlt
      have c0 : wr.cell? ⟨b1, o1 + k * 2, none⟩ = some (.int .i64 xs[k].1) := (hbel.cell (p := ⟨b1, o1 + k * 2, none⟩) l1).trans (hcc 0 _ rfl)
      have c1 : wr.cell? ⟨b1, o1 + k * 2 + 1, none⟩ = some (.slice xs[k].2.1 xs[k].2.2.2.length xs[k].2.2.1) := (hbel.cell (p := ⟨b1, o1 + k * 2 + 1, none⟩) l1).trans (hcc 1 _ rfl)
      have hlt2 : (k : Int) < (xs.length : Int) := by omega
      have K1 := cloK_is xs[k] fp wr (Nat.lt_of_lt_of_le hfp hbel.size) ((hbel.cell (p := ⟨fp, 0, none⟩) hfp).trans hc) (fun w' hb => HG xs[k] (List.getElem_mem hlt) w' (hbel.trans (hb.mono hbel.size)))
      have hno2 : (fun x => caB x) xs[k] = true → Hid (∀ j (h : j < xs.length), j < k + 1 → (fun x => caB x) xs[j] = true) := fun he j h hj => by
        by_cases e : j = k
        · subst e; exact he
        · exact hno.out j h (by omega)
      have hbad : (fun x => caB x) xs[k] = false → Hid (xs.all (fun x => caB x) = false) := fun he => by
        show _ = _
        rw [List.all_eq_false]
        exact ⟨xs[k], List.getElem_mem hlt, fun h => absurd (h.symm.trans he) (by decide)⟩
      clear HG hno
      generalize hxk : xs[k] = x at K1 hno2 hbad c0 c1
      clear hxk hcc
      dsimp only at hno2 hbad
      generalize hb0 : caB x = b at K1 hno2 hbad
      clear hb0
      go_wp2_with fail
      refine K1.mono ?_
      clear K1 c0 c1
      rintro en v0 ⟨rfl, hb⟩
      replace hbel := hbel.trans (hb.mono hbel.size)
      clear hb
      cases b with
      | true =>
        have hno3 := hno2 rfl
        clear hno2 hbad
        go_wp2
        go_roundw
        case rel => exact ⟨k + 1, by omega, by go_num, hno3, hbel⟩
        case measure => simp [intOf]; omega
      | false =>
        have hbd := hbad rfl
        clear hno2 hbad
        go_wp2
        go_ret
        refine ⟨?_, hbel⟩
        rw [hbd.out]
        exact ⟨(k : Int), rfl, by simp⟩
    · have HV : Hid (xs.all (fun x => caB x) = true) := by
        show _ = _
        rw [List.all_eq_true]
        intro x hx
        obtain ⟨j, hj, rfl⟩ := List.mem_iff_getElem.1 hx
        exact hno.out j hj (by omega)
      have hlt2 : ¬ (k : Int) < (xs.length : Int) := by omega
      clear hno HG hr
      go_wp2
      go_ret
      refine ⟨?_, hbel⟩
      rw [HV.out]
      exact ⟨-1, rfl, by simp⟩
set_option maxRecDepth 100000 in
set_option maxHeartbeats 3200000 in
theorem allK_is (a : Option Addr) (cap : Nat) (xs : List TK) (w : World) (hr : FRow 2 cK w a xs) (hl : xs.length ≤ 1048576) (HG : ∀ x ∈ xs, ∀ w', Below w.heap.size w w' → Calls Tryz.prog 122 #[.agg #[.int .i64 x.1, .slice x.2.1 x.2.2.2.length x.2.2.1]] w' fun e w'' => e = .returned (.bool (caB x)) ∧ Below w'.heap.size w' w'') :
    Calls Tryz.prog 121 #[.slice a xs.length cap, .func (.func 122) #[] #[]] w fun e w' => e = .returned (.bool (xs.all (fun x => caB x))) ∧ Below w.heap.size w w' := by
  obtain ⟨V, hV⟩ : ∃ V, w.alloc (.cells #[.func (.func 122) #[] #[]] 75) = V := ⟨_, rfl⟩
  have TV : Blk w.heap.size [.func (.func 122) #[] #[]] V := by rw [← hV]; exact Blk.new _ _ _
  have BC : Below w.heap.size w V := by rw [← hV]; exact (Below.refl _ _).alloc (Nat.le_refl _) _
  have sV : w.heap.size < V.heap.size := by rw [← hV]; simp
  have K1 := idxK_is a cap xs w.heap.size V (hr.later BC) hl sV (TV.at 0 rfl) (fun x hx w' hb => HG x hx w' (BC.trans (hb.mono BC.size)))
  clear HG hr TV sV
  generalize xs.all (fun x => caB x) = b at K1 ⊢
  have K2 : Calls Tryz.prog 167 #[.slice a xs.length cap, .func (.func 168) #[] #[.pointer (some ⟨w.heap.size, 0, none⟩)]] V fun e w' => e = .returned (.bool (!b)) ∧ Below V.heap.size V w' := by
    go_enter Tryz.func167, Tryz.ntmps167
    go_wp2_with fail
    refine K1.mono ?_
    clear K1
    rintro en v0 ⟨⟨r, rfl, hd⟩, hb⟩
    cases b with
    | true =>
      have hr2 : ¬ (0 ≤ r) := by simpa using hd
      go_wp2
      go_ret
      exact ⟨rfl, hb⟩
    | false =>
      have hr2 : 0 ≤ r := by simpa using hd
      go_wp2
      go_ret
      exact ⟨rfl, hb⟩
  clear K1
  go_enter Tryz.func121, Tryz.ntmps121
  go_wp2_with fail
  try rw [hV]
  refine K2.mono ?_
  clear K2
  rintro en v0 ⟨rfl, hb⟩
  replace BC := BC.trans (hb.mono BC.size)
  clear hb
  cases b with
  | true =>
    go_wp2
    go_ret
    exact ⟨rfl, BC⟩
  | false =>
    go_wp2
    go_ret
    exact ⟨rfl, BC⟩
end Go.Proofs.YtjcmbbnklfemcaaGreat.Nd
