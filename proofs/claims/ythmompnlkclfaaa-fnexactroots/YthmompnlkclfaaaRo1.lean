/- What an event hangs on besides what comes ahead of it: the program. -/
import Derived.Test.YthmompnlkclfaaaRi
import Derived.Test.YthmompnlkclfaaaCpA
import Derived.Test.YthmompnlkclfaaaConf1
import Derived.Deep.RegionWith
set_option linter.unusedVariables false
set_option maxRecDepth 100000
namespace Go.Proofs.Ythmompnlkclfaaa
open Go Go.RowKit Go.Joins Own Draw

def IdxP (b : Bool) (e : Ending) : Prop := ∃ r : Int, e = .returned (.int .i64 r) ∧ decide (0 ≤ r) = !b
theorem key_b (n : Int) (w : World) : Calls Try.prog 44 #[.int .i64 n] w fun e w' => e = .returned (.bool (btw n 1 1000000)) ∧ w = w' := by
  unfold btw
  go_enter Try.func44, Try.ntmps44
  by_cases h : 1 ≤ n
  · by_cases g : n ≤ 1000000
    · have e1 : decide (1 ≤ n) = true := decide_eq_true h
      have e2 : decide (n ≤ 1000000) = true := decide_eq_true g
      rw [e1, e2]
      go_wp2
      go_ret
      exact ⟨rfl, rfl⟩
    · have e1 : decide (1 ≤ n) = true := decide_eq_true h
      have e2 : decide (n ≤ 1000000) = false := decide_eq_false g
      rw [e1, e2]
      go_wp2
      go_ret
      exact ⟨rfl, rfl⟩
  · have e1 : decide (1 ≤ n) = false := decide_eq_false h
    rw [e1]
    go_wp2
    go_ret
    exact ⟨rfl, rfl⟩
set_option maxRecDepth 100000 in
set_option maxHeartbeats 3200000 in
theorem cloI_is (x : Int) (fp : Nat) (w : World) (hfp : fp < w.heap.size) (hc : w.cell? ⟨fp, 0, none⟩ = some (.func (.func 44) #[] #[])) (HG : ∀ w', Below w.heap.size w w' → Calls Try.prog 44 #[.int .i64 x] w' fun e w'' => e = .returned (.bool (btw x 1 1000000)) ∧ Below w'.heap.size w' w'') :
    Calls Try.prog 70 #[.int .i64 x, .pointer (some ⟨fp, 0, none⟩)] w fun e w' => e = .returned (.bool (!(btw x 1 1000000))) ∧ Below w.heap.size w w' := by
  generalize btw x 1 1000000 = b at HG ⊢
  have BC : Below w.heap.size w w := Below.refl _ _
  have K1 := HG w BC
  have c0 := hc
  clear HG
  go_enter Try.func70, Try.ntmps70
  go_wp2_with fail
  refine K1.mono ?_
  clear K1
  rintro en v0 ⟨rfl, hb⟩
  replace BC := BC.trans (hb.mono BC.size)
  clear hb
  cases b with
  | true =>
    go_wp2
    go_ret
    exact ⟨rfl, BC⟩
  | false =>
    go_wp2
    go_ret
    exact ⟨rfl, BC⟩
set_option maxRecDepth 100000 in
set_option maxHeartbeats 3200000 in
theorem idxI_is (a : Option Addr) (cap : Nat) (xs : List Int) (fp : Nat) (w : World) (hr : RowAt (Value.int .i64) w a xs) (hl : xs.length ≤ 4000000) (hfp : fp < w.heap.size) (hc : w.cell? ⟨fp, 0, none⟩ = some (.func (.func 44) #[] #[])) (HG : ∀ x ∈ xs, ∀ w', Below w.heap.size w w' → Calls Try.prog 44 #[.int .i64 x] w' fun e w'' => e = .returned (.bool (btw x 1 1000000)) ∧ Below w'.heap.size w' w'') :
    Calls Try.prog 82 #[.slice a xs.length cap, .func (.func 70) #[] #[.pointer (some ⟨fp, 0, none⟩)]] w fun e w' => IdxP (xs.all (fun x => btw x 1 1000000)) e ∧ Below w.heap.size w w' := by
  go_enter Try.func82, Try.ntmps82
  go_wp2
  go_loopw [8] (fun i wr => ∃ k : Nat, k ≤ xs.length ∧ i = .int .i64 k ∧ Hid (∀ j (h : j < xs.length), j < k → (fun x => btw x 1 1000000) xs[j] = true) ∧ Below w.heap.size w wr) (fun i _ => xs.length - (intOf i).toNat)
  case atStart => exact ⟨0, by omega, rfl, fun j h hj => absurd hj (by omega), Below.refl _ _⟩
  case round =>
    obtain ⟨k, hk, rfl, hno, hbel⟩ := hrel
    by_cases hlt : k < xs.length
    · obtain ⟨b1, o1, rfl, l1, hcc⟩ := hr k hlt
      have c0 : wr.cell? ⟨b1, o1 + k, none⟩ = some (.int .i64 xs[k]) := (hbel.cell (p := ⟨b1, o1 + k, none⟩) l1).trans hcc
      have hlt2 : (k : Int) < (xs.length : Int) := by omega
      have K1 := cloI_is xs[k] fp wr (Nat.lt_of_lt_of_le hfp hbel.size) ((hbel.cell (p := ⟨fp, 0, none⟩) hfp).trans hc) (fun w' hb => HG xs[k] (List.getElem_mem hlt) w' (hbel.trans (hb.mono hbel.size)))
      have hno2 : (fun x => btw x 1 1000000) xs[k] = true → Hid (∀ j (h : j < xs.length), j < k + 1 → (fun x => btw x 1 1000000) xs[j] = true) := fun he j h hj => by
        by_cases e : j = k
        · subst e; exact he
        · exact hno.out j h (by omega)
      have hbad : (fun x => btw x 1 1000000) xs[k] = false → Hid (xs.all (fun x => btw x 1 1000000) = false) := fun he => by
        show _ = _
        rw [List.all_eq_false]
        exact ⟨xs[k], List.getElem_mem hlt, fun h => absurd (h.symm.trans he) (by decide)⟩
      clear HG hno
      generalize hxk : xs[k] = x at K1 hno2 hbad c0
      clear hxk hcc
      dsimp only at hno2 hbad
      generalize hb0 : btw x 1 1000000 = b at K1 hno2 hbad
      clear hb0
      go_wp2_with fail
      refine K1.mono ?_
      clear K1 c0
      rintro en v0 ⟨rfl, hb⟩
      replace hbel := hbel.trans (hb.mono hbel.size)
      clear hb
      cases b with
      | true =>
        have hno3 := hno2 rfl
        clear hno2 hbad
        go_wp2
        go_roundw
        case rel => exact ⟨k + 1, by omega, by go_num, hno3, hbel⟩
        case measure => simp [intOf]; omega
      | false =>
        have hbd := hbad rfl
        clear hno2 hbad
        go_wp2
        go_ret
        refine ⟨?_, hbel⟩
        rw [hbd.out]
        exact ⟨(k : Int), rfl, by simp⟩
    · have HV : Hid (xs.all (fun x => btw x 1 1000000) = true) := by
        show _ = _
        rw [List.all_eq_true]
        intro x hx
        obtain ⟨j, hj, rfl⟩ := List.mem_iff_getElem.1 hx
        exact hno.out j hj (by omega)
      have hlt2 : ¬ (k : Int) < (xs.length : Int) := by omega
      clear hno HG hr
      go_wp2
      go_ret
      refine ⟨?_, hbel⟩
      rw [HV.out]
      exact ⟨-1, rfl, by simp⟩
set_option maxRecDepth 100000 in
set_option maxHeartbeats 3200000 in
theorem allI_is (a : Option Addr) (cap : Nat) (xs : List Int) (w : World) (hr : RowAt (Value.int .i64) w a xs) (hl : xs.length ≤ 4000000) (HG : ∀ x ∈ xs, ∀ w', Below w.heap.size w w' → Calls Try.prog 44 #[.int .i64 x] w' fun e w'' => e = .returned (.bool (btw x 1 1000000)) ∧ Below w'.heap.size w' w'') :
    Calls Try.prog 43 #[.slice a xs.length cap, .func (.func 44) #[] #[]] w fun e w' => e = .returned (.bool (xs.all (fun x => btw x 1 1000000))) ∧ Below w.heap.size w w' := by
  obtain ⟨V, hV⟩ : ∃ V, w.alloc (.cells #[.func (.func 44) #[] #[]] 73) = V := ⟨_, rfl⟩
  have TV : Blk w.heap.size [.func (.func 44) #[] #[]] V := by rw [← hV]; exact Blk.new _ _ _
  have BC : Below w.heap.size w V := by rw [← hV]; exact (Below.refl _ _).alloc (Nat.le_refl _) _
  have sV : w.heap.size < V.heap.size := by rw [← hV]; simp
  have K1 := idxI_is a cap xs w.heap.size V (hr.later BC) hl sV (TV.at 0 rfl) (fun x hx w' hb => HG x hx w' (BC.trans (hb.mono BC.size)))
  clear HG hr TV sV
  generalize xs.all (fun x => btw x 1 1000000) = b at K1 ⊢
  have K2 : Calls Try.prog 69 #[.slice a xs.length cap, .func (.func 70) #[] #[.pointer (some ⟨w.heap.size, 0, none⟩)]] V fun e w' => e = .returned (.bool (!b)) ∧ Below V.heap.size V w' := by
    go_enter Try.func69, Try.ntmps69
    go_wp2_with fail
    refine K1.mono ?_
    clear K1
    rintro en v0 ⟨⟨r, rfl, hd⟩, hb⟩
    cases b with
    | true =>
      have hr2 : ¬ (0 ≤ r) := by simpa using hd
      go_wp2
      go_ret
      exact ⟨rfl, hb⟩
    | false =>
      have hr2 : 0 ≤ r := by simpa using hd
      go_wp2
      go_ret
      exact ⟨rfl, hb⟩
  clear K1
  go_enter Try.func43, Try.ntmps43
  go_wp2_with fail
  try rw [hV]
  refine K2.mono ?_
  clear K2
  rintro en v0 ⟨rfl, hb⟩
  replace BC := BC.trans (hb.mono BC.size)
  clear hb
  cases b with
  | true =>
    go_wp2
    go_ret
    exact ⟨rfl, BC⟩
  | false =>
    go_wp2
    go_ret
    exact ⟨rfl, BC⟩
abbrev reE (p : TE) : Int := p.2.1
abbrev byE (p : TE) : Int := p.2.2.1
abbrev seE (p : TE) : Int := p.2.2.2.2.1
/-- The key of a service as principal. -/
def skV (s : Int) : Int := if btw s 0 2 then pkV (3 + s) else 0
/-- What an event hangs on besides what comes ahead of it. -/
def ownR (p : TE) : List Int := if kdE p = 1 then [pkV (byE p), ckV (reE p)] else if kdE p = 3 then [lkV (reE p) (wrap64 (seE p - 10))] else [skV (seE p)]
set_option maxRecDepth 100000 in
theorem sk_is (s : Int) (w : World) : Calls Try.prog 68 #[.int .i64 s] w fun e w' => e = .returned (.int .i64 (skV s)) ∧ w = w' := by
  by_cases h : btw s 0 2 = true
  · have h' := (btw_iff _ _ _).1 h
    have HV : Hid (skV s = pkV (3 + s)) := by show _ = _; unfold skV; rw [if_pos h]
    have K1 := serv_is s w
    rw [h] at K1
    clear h
    go_enter Try.func68, Try.ntmps68
    go_wp2_with fail
    refine K1.mono ?_
    rintro e w1 ⟨rfl, rfl⟩
    clear K1
    go_wp2_with fail
    refine (implPK_is (3 + s) _).mono ?_
    rintro e w1 ⟨rfl, rfl⟩
    go_wp2
    go_ret
    exact ⟨by rw [HV.out]; rfl, rfl⟩
  · rw [Bool.not_eq_true] at h
    have HV : Hid (skV s = 0) := by show _ = _; unfold skV; rw [h]; rfl
    have K1 := serv_is s w
    rw [h] at K1
    clear h
    go_enter Try.func68, Try.ntmps68
    go_wp2_with fail
    refine K1.mono ?_
    rintro e w1 ⟨rfl, rfl⟩
    clear K1
    go_wp2
    go_ret
    exact ⟨by rw [HV.out]; rfl, rfl⟩
theorem one_lit (W : World) (B : Nat) (vs : List Value) (n : Nat) (hn : vs.length = n) (h1 : n ≤ 2) (hB : B ≤ W.heap.size) : (W.alloc (.cells vs.toArray 3)).ownsRow B 3 1 (.slice (some ⟨W.heap.size, 0, none⟩) n n) n vs := by
  subst hn
  exact World.ownsRow_lit _ _ _ hB (by unfold maxLen; omega) (by simp)
set_option maxRecDepth 100000 in
set_option maxHeartbeats 3200000 in
theorem own_is (p : TE) (w : World) : Calls Try.prog 42 #[vE p] w fun e w' => ∃ g c, e = .returned (.slice (some ⟨g, 0, none⟩) (ownR p).length c) ∧ w'.ownsRow w.heap.size 3 1 (.slice (some ⟨g, 0, none⟩) (ownR p).length c) (ownR p).length (intV (ownR p)) ∧ Below w.heap.size w w' := by
  obtain ⟨p0, p1, p2, p3, p4, p5, p6, p7, p8, p9, p10⟩ := p
  obtain ⟨V, hV⟩ : ∃ V, w.alloc (.cells #[.int .i64 p0, .int .i64 p1, .int .i64 p2, .int .i64 p3, .int .i64 p4, .int .i64 p5, .int .i64 p6, .int .i64 p7, .int .i64 p8, .int .i64 p9, .int .i64 p10] 48) = V := ⟨_, rfl⟩
  have TV : Blk w.heap.size [.int .i64 p0, .int .i64 p1, .int .i64 p2, .int .i64 p3, .int .i64 p4, .int .i64 p5, .int .i64 p6, .int .i64 p7, .int .i64 p8, .int .i64 p9, .int .i64 p10] V := by rw [← hV]; exact Blk.new _ _ _
  have bV : Below w.heap.size w V := by rw [← hV]; exact (Below.refl _ _).alloc (Nat.le_refl _) _
  have d0 := TV.at 0 rfl
  have d1 := TV.at 1 rfl
  have d2 := TV.at 2 rfl
  have d4 := TV.at 4 rfl
  go_enter Try.func42, Try.ntmps42
  by_cases e1 : p0 = 1
  · subst e1
    have HO : Hid (ownR (1, p1, p2, p3, p4, p5, p6, p7, p8, p9, p10) = [pkV p2, ckV p1]) := (rfl : ownR (1, p1, p2, p3, p4, p5, p6, p7, p8, p9, p10) = _)
    have HL := fun U : World => one_lit U w.heap.size [.int .i64 (pkV p2), .int .i64 (ckV p1)] 2 rfl (by omega)
    go_wp2
    go_region_with (first | (go_at_call 65; refine (implPK_is _ _).mono ?_; rintro e w1 ⟨rfl, rfl⟩) | (go_at_call 66; refine (implCK_is _ _).mono ?_; rintro e w1 ⟨rfl, rfl⟩))
    all_goals
      go_wp2
      go_ret
      rw [HO.out]
      refine ⟨_, _, rfl, HL _ bV.size, ?_⟩
      first | exact bV.drew.alloc bV.size _ | exact (bV.alloc bV.size _).drew
  by_cases e3 : p0 = 3
  · subst e3
    have HO : Hid (ownR (3, p1, p2, p3, p4, p5, p6, p7, p8, p9, p10) = [lkV p1 (wrap64 (p4 - 10))]) := (rfl : ownR (3, p1, p2, p3, p4, p5, p6, p7, p8, p9, p10) = _)
    have HL := fun U : World => one_lit U w.heap.size [.int .i64 (lkV p1 (wrap64 (p4 - 10)))] 1 rfl (by omega)
    go_wp2_with fail
    refine (implLK_is _ _ _).mono ?_
    rintro e w1 ⟨rfl, rfl⟩
    go_wp2
    go_ret
    rw [HO.out]
    exact ⟨_, _, rfl, HL _ bV.size, bV.alloc bV.size _⟩
  · have HO : Hid (ownR (p0, p1, p2, p3, p4, p5, p6, p7, p8, p9, p10) = [skV p4]) := by
      show ownR (p0, p1, p2, p3, p4, p5, p6, p7, p8, p9, p10) = _
      unfold ownR kdE
      rw [if_neg e1, if_neg e3]
    have HL := fun U : World => one_lit U w.heap.size [.int .i64 (skV p4)] 1 rfl (by omega)
    have q1 : (p0 == 1) = false := beq_eq_false_iff_ne.2 e1
    have q3 : (p0 == 3) = false := beq_eq_false_iff_ne.2 e3
    clear e1 e3
    go_wp2_with fail
    refine (sk_is p4 _).mono ?_
    rintro e w1 ⟨rfl, rfl⟩
    go_wp2
    go_ret
    rw [HO.out]
    exact ⟨_, _, rfl, HL _ bV.size, bV.alloc bV.size _⟩
end Go.Proofs.Ythmompnlkclfaaa
