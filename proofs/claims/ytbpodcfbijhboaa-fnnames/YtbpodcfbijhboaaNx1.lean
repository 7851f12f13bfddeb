/- The program says which names are right. -/
import Derived.Test.YtbpodcfbijhboaaNx0
import Derived.Laws.RangeAny
import Derived.WalkKit
set_option linter.unusedVariables false
set_option maxRecDepth 100000
namespace Go.Proofs.Ytbpodcfbijhboaa.Nd
open Go Go.RowKit Go.Joins Own Draw

def IdxP (b : Bool) (e : Ending) : Prop := ∃ r : Int, e = .returned (.int .i64 r) ∧ decide (0 ≤ r) = !b
set_option maxHeartbeats 3200000 in
theorem inName_is (r : Int) (w : World) : Calls Try.prog 59 #[.int .i32 r] w fun e w' => e = .returned (.bool (decide (33 ≤ r) && decide (r ≤ 126))) ∧ w = w' := by
  generalize hz : (decide (33 ≤ r) && decide (r ≤ 126)) = z
  have HZ : Hid ((decide (33 ≤ r) && decide (r ≤ 126)) = z) := hz
  clear hz
  go_enter Try.func59, Try.ntmps59
  by_cases h1 : 33 ≤ r
  · by_cases h2 : r ≤ 126
    · have HV : Hid (z = true) := by show _ = _; rw [← HZ.out, decide_eq_true h1, decide_eq_true h2]; rfl
      clear HZ
      go_wp2
      go_ret
      exact ⟨by rw [HV.out]; rfl, rfl⟩
    · have HV : Hid (z = false) := by show _ = _; rw [← HZ.out, decide_eq_true h1, decide_eq_false h2]; rfl
      clear HZ
      go_wp2
      go_ret
      exact ⟨by rw [HV.out]; rfl, rfl⟩
  · have HV : Hid (z = false) := by show _ = _; rw [← HZ.out, decide_eq_false h1]; rfl
    clear HZ
    go_wp2
    go_ret
    exact ⟨by rw [HV.out]; rfl, rfl⟩
theorem iter_bel (w : World) (s : ByteArray) (k : Nat) : Below w.heap.size w (w.iter s k) := (Below.refl _ _).alloc (Nat.le_refl _) _
set_option maxHeartbeats 3200000 in
theorem piece_is (n : Int) (s : ByteArray) (w : World) (hs : s.size ≤ maxLen) : Calls Try.prog 47 #[.string s, .int .i64 n] w fun e w' => e = .returned (.bool (pcB n s)) ∧ Below w.heap.size w w' := by
  have HE : Hid (pcB n s = (decide (n ≤ (s.size : Int)) && (decide (s.size ≤ 20) && allB s))) := (rfl : pcB n s = _)
  generalize pcB n s = ok at HE ⊢
  go_enter Try.func47, Try.ntmps47
  by_cases h1 : (s.size : Int) < n
  · have HV : Hid (ok = false) := by show _ = _; rw [HE.out, decide_eq_false (by omega)]; rfl
    clear HE
    go_wp2
    go_ret
    exact ⟨by rw [HV.out]; rfl, Below.refl _ _⟩
  by_cases h2 : s.size ≤ 20
  rotate_left
  · have h20 : (s.size : Int) > 20 := by omega
    have HV : Hid (ok = false) := by show _ = _; rw [HE.out, decide_eq_true (by omega), decide_eq_false h2]; rfl
    clear HE h2
    go_wp2
    go_ret
    exact ⟨by rw [HV.out]; rfl, Below.refl _ _⟩
  have h20 : ¬ (s.size : Int) > 20 := by omega
  have HV : Hid (ok = allB s) := by show _ = _; rw [HE.out, decide_eq_true (by omega), decide_eq_true h2]; rfl
  clear HE h2
  go_wp2
  go_loopw [] (fun wr => ∃ k : Nat, k ≤ s.size ∧ Hid (∀ j (h : j < s.size), j < k → inB s[j] = true) ∧ wr = w.iter s k) (fun wr => s.size + 1 - wr.iterPos w.heap.size)
  case atStart => exact ⟨0, Nat.zero_le _, fun j _ h => absurd h (by omega), rfl⟩
  case round =>
    obtain ⟨k, hk, HY, rfl⟩ := hrel
    by_cases hlt : k < s.size
    · by_cases ha : (s[k]'hlt).toNat < 128
      · have hnx := fun ty => run_next_ascii (P := Try.prog) w s k ty hlt ha
        have HY2 : Hid (inB (s[k]'hlt) = true → ∀ j (h : j < s.size), j < k + 1 → inB s[j] = true) := fun he j h hj => by
          by_cases e : j = k
          · subst e; exact he
          · exact HY.out j h (by omega)
        have HN : Hid (inB (s[k]'hlt) = false → allB s = false) := fun he => allB_not hlt he
        generalize (s[k]'hlt) = b at *
        have HB2 := iter_bel w s (k + 1)
        clear HY
        have K := fun w' => inName_is (b.toNat : Int) w'
        by_cases hlow : 33 ≤ b.toNat
        · by_cases hhi : b.toNat ≤ 126
          · have HZ := HY2.out (inB_yes hlow hhi)
            have HZ2 : Hid (∀ j (h : j < s.size), j < k + 1 → inB s[j] = true) := HZ
            rw [decide_eq_true (show (33 : Int) ≤ (b.toNat : Int) by omega), decide_eq_true (show (b.toNat : Int) ≤ 126 by omega)] at K
            clear HZ HY2 HN hlow hhi ha
            go_wp2_with fail
            refine (K _).mono ?_
            rintro e w1 ⟨rfl, rfl⟩
            clear K
            go_wp2
            go_roundw
            case rel => exact ⟨k + 1, by omega, HZ2, rfl⟩
            case measure => rw [World.iterPos_iter, World.iterPos_iter]; omega
          · have HZ : Hid (ok = false) := by show _ = _; rw [HV.out]; exact HN.out (inB_high hhi)
            rw [decide_eq_true (show (33 : Int) ≤ (b.toNat : Int) by omega), decide_eq_false (show ¬ (b.toNat : Int) ≤ 126 by omega)] at K
            clear HY2 HN hlow hhi ha
            go_wp2_with fail
            refine (K _).mono ?_
            rintro e w1 ⟨rfl, rfl⟩
            clear K
            go_wp2
            go_ret
            exact ⟨by rw [HZ.out]; rfl, HB2⟩
        · have HZ : Hid (ok = false) := by show _ = _; rw [HV.out]; exact HN.out (inB_low hlow)
          rw [decide_eq_false (show ¬ (33 : Int) ≤ (b.toNat : Int) by omega)] at K
          clear HY2 HN hlow ha
          go_wp2_with fail
          refine (K _).mono ?_
          rintro e w1 ⟨rfl, rfl⟩
          clear K
          go_wp2
          go_ret
          exact ⟨by rw [HZ.out]; rfl, HB2⟩
      · have hnx := fun ty => run_next_any (P := Try.prog) w s k ty hlt
        have hd := decode_high s k hlt (by omega)
        have HZ : Hid (ok = false) := by show _ = _; rw [HV.out]; exact allB_not hlt (inB_high (by omega))
        have HB2 := iter_bel w s (k + (Utf8.decode s k).2)
        generalize (Utf8.decode s k).2 = dw at *
        generalize (Utf8.decode s k).1 = r at *
        have K := fun w' => inName_is (r : Int) w'
        rw [decide_eq_true (show (33 : Int) ≤ (r : Int) by omega), decide_eq_false (show ¬ (r : Int) ≤ 126 by omega)] at K
        clear HY HV ha hd
        go_wp2_with fail
        refine (K _).mono ?_
        rintro e w1 ⟨rfl, rfl⟩
        clear K
        go_wp2
        go_ret
        exact ⟨by rw [HZ.out]; rfl, HB2⟩
    · have hnx := fun ty => run_next_end (P := Try.prog) w s k ty hlt
      have HZ : Hid (ok = true) := by show _ = _; rw [HV.out]; exact allB_of (fun j h => HY.out j h (by omega))
      have HB2 := iter_bel w s k
      clear HY HV
      go_wp2
      go_ret
      exact ⟨by rw [HZ.out]; rfl, HB2⟩
theorem part_is (s : ByteArray) (w : World) (hs : s.size ≤ maxLen) : Calls Try.prog 46 #[.string s] w fun e w' => e = .returned (.bool (pcB 1 s)) ∧ Below w.heap.size w w' := by
  go_enter Try.func46, Try.ntmps46
  go_wp2_with fail
  refine (piece_is 1 s _ hs).mono ?_
  rintro e w1 ⟨rfl, hb⟩
  go_wp2
  go_ret
  exact ⟨rfl, hb⟩
set_option maxRecDepth 100000 in
set_option maxHeartbeats 3200000 in
theorem cloS_is (x : ByteArray) (fp : Nat) (w : World) (hfp : fp < w.heap.size) (hc : w.cell? ⟨fp, 0, none⟩ = some (.func (.func 46) #[] #[])) (HG : ∀ w', Below w.heap.size w w' → Calls Try.prog 46 #[.string x] w' fun e w'' => e = .returned (.bool (pcB 1 x)) ∧ Below w'.heap.size w' w'') :
    Calls Try.prog 58 #[.string x, .pointer (some ⟨fp, 0, none⟩)] w fun e w' => e = .returned (.bool (!(pcB 1 x))) ∧ Below w.heap.size w w' := by
  generalize pcB 1 x = b at HG ⊢
  have BC : Below w.heap.size w w := Below.refl _ _
  have K1 := HG w BC
  have c0 := hc
  clear HG
  go_enter Try.func58, Try.ntmps58
  go_wp2_with fail
  refine K1.mono ?_
  clear K1
  rintro en v0 ⟨rfl, hb⟩
  replace BC := BC.trans (hb.mono BC.size)
  clear hb
  cases b with
  | true =>
    go_wp2
    go_ret
    exact ⟨rfl, BC⟩
  | false =>
    go_wp2
    go_ret
    exact ⟨rfl, BC⟩
set_option maxRecDepth 100000 in
set_option maxHeartbeats 3200000 in
theorem idxS_is (a : Option Addr) (cap : Nat) (xs : List ByteArray) (fp : Nat) (w : World) (hr : RowAt Value.string w a xs) (hl : xs.length ≤ 1048576) (hfp : fp < w.heap.size) (hc : w.cell? ⟨fp, 0, none⟩ = some (.func (.func 46) #[] #[])) (HG : ∀ x ∈ xs, ∀ w', Below w.heap.size w w' → Calls Try.prog 46 #[.string x] w' fun e w'' => e = .returned (.bool (pcB 1 x)) ∧ Below w'.heap.size w' w'') :
    Calls Try.prog 62 #[.slice a xs.length cap, .func (.func 58) #[] #[.pointer (some ⟨fp, 0, none⟩)]] w fun e w' => IdxP (xs.all (fun x => pcB 1 x)) e ∧ Below w.heap.size w w' := by
  go_enter Try.func62, Try.ntmps62
  go_wp2
  go_loopw [8] (fun i wr => ∃ k : Nat, k ≤ xs.length ∧ i = .int .i64 k ∧ Hid (∀ j (h : j < xs.length), j < k → (fun x => pcB 1 x) xs[j] = true) ∧ Below w.heap.size w wr) (fun i _ => xs.length - (intOf i).toNat)
  case atStart => exact ⟨0, by omega, rfl, fun j h hj => absurd hj (by omega), Below.refl _ _⟩
  case round =>
    obtain ⟨k, hk, rfl, hno, hbel⟩ := hrel
    by_cases hlt : k < xs.length
    · obtain ⟨b1, o1, rfl, l1, hcc⟩ := hr k hlt
      have c0 : wr.cell? ⟨b1, o1 + k, none⟩ = some (.string xs[k]) := (hbel.cell (p := ⟨b1, o1 + k, none⟩) l1).trans hcc
      have hlt2 : (k : Int) < (xs.length : Int) := by omega
      have K1 := cloS_is xs[k] fp wr (Nat.lt_of_lt_of_le hfp hbel.size) ((hbel.cell (p := ⟨fp, 0, none⟩) hfp).trans hc) (fun w' hb => HG xs[k] (List.getElem_mem hlt) w' (hbel.trans (hb.mono hbel.size)))
      have hno2 : (fun x => pcB 1 x) xs[k] = true → Hid (∀ j (h : j < xs.length), j < k + 1 → (fun x => pcB 1 x) xs[j] = true) := fun he j h hj => by
        by_cases e : j = k
        · subst e; exact he
        · exact hno.out j h (by omega)
      have hbad : (fun x => pcB 1 x) xs[k] = false → Hid (xs.all (fun x => pcB 1 x) = false) := fun he => by
        show _ = _
        rw [List.all_eq_false]
        exact ⟨xs[k], List.getElem_mem hlt, fun h => absurd (h.symm.trans he) (by decide)⟩
      clear HG hno
      generalize hxk : xs[k] = x at K1 hno2 hbad c0
      clear hxk hcc
      dsimp only at hno2 hbad
      generalize hb0 : pcB 1 x = b at K1 hno2 hbad
      clear hb0
      go_wp2_with fail
      refine K1.mono ?_
      clear K1 c0
      rintro en v0 ⟨rfl, hb⟩
      replace hbel := hbel.trans (hb.mono hbel.size)
      clear hb
      cases b with
      | true =>
        have hno3 := hno2 rfl
        clear hno2 hbad
        go_wp2
        go_roundw
        case rel => exact ⟨k + 1, by omega, by go_num, hno3, hbel⟩
        case measure => simp [intOf]; omega
      | false =>
        have hbd := hbad rfl
        clear hno2 hbad
        go_wp2
        go_ret
        refine ⟨?_, hbel⟩
        rw [hbd.out]
        exact ⟨(k : Int), rfl, by simp⟩
    · have HV : Hid (xs.all (fun x => pcB 1 x) = true) := by
        show _ = _
        rw [List.all_eq_true]
        intro x hx
        obtain ⟨j, hj, rfl⟩ := List.mem_iff_getElem.1 hx
        exact hno.out j hj (by omega)
      have hlt2 : ¬ (k : Int) < (xs.length : Int) := by omega
      clear hno HG hr
      go_wp2
      go_ret
      refine ⟨?_, hbel⟩
      rw [HV.out]
      exact ⟨-1, rfl, by simp⟩
set_option maxRecDepth 100000 in
set_option maxHeartbeats 3200000 in
theorem allS_is (a : Option Addr) (cap : Nat) (xs : List ByteArray) (w : World) (hr : RowAt Value.string w a xs) (hl : xs.length ≤ 1048576) (HG : ∀ x ∈ xs, ∀ w', Below w.heap.size w w' → Calls Try.prog 46 #[.string x] w' fun e w'' => e = .returned (.bool (pcB 1 x)) ∧ Below w'.heap.size w' w'') :
    Calls Try.prog 45 #[.slice a xs.length cap, .func (.func 46) #[] #[]] w fun e w' => e = .returned (.bool (xs.all (fun x => pcB 1 x))) ∧ Below w.heap.size w w' := by
  obtain ⟨V, hV⟩ : ∃ V, w.alloc (.cells #[.func (.func 46) #[] #[]] 42) = V := ⟨_, rfl⟩
  have TV : Blk w.heap.size [.func (.func 46) #[] #[]] V := by rw [← hV]; exact Blk.new _ _ _
  have BC : Below w.heap.size w V := by rw [← hV]; exact (Below.refl _ _).alloc (Nat.le_refl _) _
  have sV : w.heap.size < V.heap.size := by rw [← hV]; simp
  have K1 := idxS_is a cap xs w.heap.size V (hr.later BC) hl sV (TV.at 0 rfl) (fun x hx w' hb => HG x hx w' (BC.trans (hb.mono BC.size)))
  clear HG hr TV sV
  generalize xs.all (fun x => pcB 1 x) = b at K1 ⊢
  have K2 : Calls Try.prog 57 #[.slice a xs.length cap, .func (.func 58) #[] #[.pointer (some ⟨w.heap.size, 0, none⟩)]] V fun e w' => e = .returned (.bool (!b)) ∧ Below V.heap.size V w' := by
    go_enter Try.func57, Try.ntmps57
    go_wp2_with fail
    refine K1.mono ?_
    clear K1
    rintro en v0 ⟨⟨r, rfl, hd⟩, hb⟩
    cases b with
    | true =>
      have hr2 : ¬ (0 ≤ r) := by simpa using hd
      go_wp2
      go_ret
      exact ⟨rfl, hb⟩
    | false =>
      have hr2 : 0 ≤ r := by simpa using hd
      go_wp2
      go_ret
      exact ⟨rfl, hb⟩
  clear K1
  go_enter Try.func45, Try.ntmps45
  go_wp2_with fail
  try rw [hV]
  refine K2.mono ?_
  clear K2
  rintro en v0 ⟨rfl, hb⟩
  replace BC := BC.trans (hb.mono BC.size)
  clear hb
  cases b with
  | true =>
    go_wp2
    go_ret
    exact ⟨rfl, BC⟩
  | false =>
    go_wp2
    go_ret
    exact ⟨rfl, BC⟩
set_option maxHeartbeats 3200000 in
theorem implNameOk_is (x : TT) (w : World) (hd : DpT w x) (hl : x.1.2.2.length ≤ 1048576) (hs : ∀ y ∈ x.1.2.2, y.size ≤ maxLen) (hm : x.2.size ≤ maxLen) :
    Calls Try.prog 25 #[vT x] w fun e w' => e = .returned (.bool (okN (stT x))) ∧ Below w.heap.size w w' := by
  obtain ⟨⟨a, cap, xs⟩, m⟩ := x
  have hr : RowAt Value.string w a xs := hd
  clear hd
  dsimp only at hl hs hm
  have HE : Hid (okN (stT ((a, cap, xs), m)) = ((decide (1 ≤ xs.length) && decide (xs.length ≤ 4)) && (xs.all (fun y => pcB 1 y) && pcB 0 m))) := (rfl : okN (stT ((a, cap, xs), m)) = _)
  generalize okN (stT ((a, cap, xs), m)) = ok at HE ⊢
  obtain ⟨V, hV⟩ : ∃ V, w.alloc (.cells #[.slice a xs.length cap, .string m] 26) = V := ⟨_, rfl⟩
  have TV : Blk w.heap.size [.slice a xs.length cap, .string m] V := by rw [← hV]; exact Blk.new _ _ _
  have BC : Below w.heap.size w V := by rw [← hV]; exact (Below.refl _ _).alloc (Nat.le_refl _) _
  have sV : w.heap.size < V.heap.size := by rw [← hV]; simp
  have d0 := TV.at 0 rfl
  have d1 := TV.at 1 rfl
  have K1 := allS_is a cap xs V (hr.later BC) hl (fun y hy w' hb => part_is y w' (hs y hy))
  have K2 := fun w' => piece_is 0 m w' hm
  generalize xs.all (fun y => pcB 1 y) = al at HE K1
  generalize pcB 0 m = pm at HE K2
  clear hr hs hm
  by_cases h0 : 1 ≤ xs.length
  rotate_left
  · have h0i : ¬ (xs.length : Int) > 0 := by omega
    have HV : Hid (ok = false) := by show _ = _; rw [HE.out, decide_eq_false h0]; rfl
    clear HE h0 K1 K2
    go_enter Try.func25, Try.ntmps25
    go_wp2
    go_ret
    exact ⟨by rw [HV.out]; rfl, by first | exact BC | (rw [hV]; exact BC)⟩
  have h0i : (xs.length : Int) > 0 := by omega
  by_cases h4 : xs.length ≤ 4
  rotate_left
  · have h4i : ¬ (xs.length : Int) ≤ 4 := by omega
    have HV : Hid (ok = false) := by show _ = _; rw [HE.out, decide_eq_false h4, Bool.and_false]; rfl
    clear HE h0 h4 K1 K2
    go_enter Try.func25, Try.ntmps25
    go_wp2
    go_ret
    exact ⟨by rw [HV.out]; rfl, by first | exact BC | (rw [hV]; exact BC)⟩
  have h4i : (xs.length : Int) ≤ 4 := by omega
  have HV : Hid (ok = (al && pm)) := by show _ = _; rw [HE.out, decide_eq_true h0, decide_eq_true h4]; rfl
  clear HE h0 h4
  go_enter Try.func25, Try.ntmps25
  go_wp2_with fail
  try rw [hV]
  refine K1.mono ?_
  clear K1 d0 d1
  rintro en v1 ⟨rfl, hb⟩
  replace TV := TV.lower hb sV
  have e0 := TV.at 0 rfl
  have e1 := TV.at 1 rfl
  replace BC := BC.trans (hb.mono BC.size)
  cases al with
  | false =>
    have HW : Hid (ok = false) := by show _ = _; rw [HV.out]; rfl
    clear HV K2
    go_wp2
    go_ret
    exact ⟨by rw [HW.out]; rfl, BC⟩
  | true =>
    have HW : Hid (ok = pm) := by show _ = _; rw [HV.out]; rfl
    clear HV
    go_wp2_with fail
    refine (K2 _).mono ?_
    clear K2
    rintro en v2 ⟨rfl, hb2⟩
    replace BC := BC.trans (hb2.mono BC.size)
    go_wp2
    go_ret
    exact ⟨by rw [HW.out]; rfl, BC⟩
end Go.Proofs.Ytbpodcfbijhboaa.Nd
