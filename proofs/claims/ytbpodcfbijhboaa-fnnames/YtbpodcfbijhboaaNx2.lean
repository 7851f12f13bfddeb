/- The model says which names are right. -/
import Derived.Test.YtbpodcfbijhboaaNx0
import Derived.WalkKit
set_option linter.unusedVariables false
set_option maxRecDepth 100000
namespace Go.Proofs.Ytbpodcfbijhboaa.Nd
open Go Go.RowKit Go.Joins Own Draw

set_option maxHeartbeats 3200000 in
theorem in_is (x a b : Int) (w : World) : Calls Try.prog 34 #[.int .i64 x, .int .i64 a, .int .i64 b] w fun e w' => e = .returned (.bool (decide (a ≤ x) && decide (x ≤ b))) ∧ w = w' := by
  generalize hz : (decide (a ≤ x) && decide (x ≤ b)) = z
  have HZ : Hid ((decide (a ≤ x) && decide (x ≤ b)) = z) := hz
  clear hz
  go_enter Try.func34, Try.ntmps34
  by_cases h1 : a ≤ x
  · by_cases h2 : x ≤ b
    · have HV : Hid (z = true) := by show _ = _; rw [← HZ.out, decide_eq_true h1, decide_eq_true h2]; rfl
      clear HZ
      go_wp2
      go_ret
      exact ⟨by rw [HV.out]; rfl, rfl⟩
    · have HV : Hid (z = false) := by show _ = _; rw [← HZ.out, decide_eq_true h1, decide_eq_false h2]; rfl
      clear HZ
      go_wp2
      go_ret
      exact ⟨by rw [HV.out]; rfl, rfl⟩
  · have HV : Hid (z = false) := by show _ = _; rw [← HZ.out, decide_eq_false h1]; rfl
    clear HZ
    go_wp2
    go_ret
    exact ⟨by rw [HV.out]; rfl, rfl⟩
set_option maxHeartbeats 3200000 in
theorem specPart_is (s : ByteArray) (w : World) (hs : s.size ≤ maxLen) : Calls Try.prog 35 #[.string s] w fun e w' => e = .returned (.bool (pcB 0 s)) ∧ w = w' := by
  have HE : Hid (pcB 0 s = (decide ((0 : Int) ≤ (s.size : Int)) && (decide (s.size ≤ 20) && allB s))) := (rfl : pcB 0 s = _)
  generalize pcB 0 s = ok at HE ⊢
  go_enter Try.func35, Try.ntmps35
  by_cases h2 : s.size ≤ 20
  rotate_left
  · have h20 : (s.size : Int) > 20 := by omega
    have HV : Hid (ok = false) := by show _ = _; rw [HE.out, decide_eq_true (by omega), decide_eq_false h2]; rfl
    clear HE h2
    go_wp2
    go_ret
    exact ⟨by rw [HV.out]; rfl, rfl⟩
  have h20 : ¬ (s.size : Int) > 20 := by omega
  have HV : Hid (ok = allB s) := by show _ = _; rw [HE.out, decide_eq_true (by omega), decide_eq_true h2]; rfl
  clear HE h2
  go_wp2
  go_loopw [3] (fun i wr => ∃ k : Nat, k ≤ s.size ∧ i = .int .i64 k ∧ Hid (∀ j (h : j < s.size), j < k → inB s[j] = true) ∧ w = wr) (fun i _ => s.size - (intOf i).toNat)
  case atStart => exact ⟨0, Nat.zero_le _, rfl, fun j _ h => absurd h (by omega), rfl⟩
  case round =>
    obtain ⟨k, hk, rfl, HY, rfl⟩ := hrel
    by_cases hlt : k < s.size
    · have hlti : (k : Int) < (s.size : Int) := by omega
      have HY2 : Hid (inB (s[k]'hlt) = true → ∀ j (h : j < s.size), j < k + 1 → inB s[j] = true) := fun he j h hj => by
        by_cases e : j = k
        · subst e; exact he
        · exact HY.out j h (by omega)
      have HN : Hid (inB (s[k]'hlt) = false → allB s = false) := fun he => allB_not hlt he
      obtain ⟨b, hb⟩ : ∃ b, s[k]'hlt = b := ⟨_, rfl⟩
      rw [hb] at HY2 HN
      clear HY
      by_cases hlow : 33 ≤ b.toNat
      · by_cases hhi : b.toNat ≤ 126
        · have HZ2 : Hid (∀ j (h : j < s.size), j < k + 1 → inB s[j] = true) := HY2.out (inB_yes hlow hhi)
          have q1 : ¬ (b.toNat : Int) < 33 := by omega
          have q2 : ¬ (b.toNat : Int) > 126 := by omega
          clear HY2 HN hlow hhi
          go_wp2
          go_roundw
          case rel => first | exact ⟨k + 1, by omega, by go_num, HZ2, rfl⟩ | exact ⟨k + 1, by omega, by go_num, HZ2, trivial⟩ | exact ⟨k + 1, by omega, by go_num, HZ2⟩
          case measure => simp [intOf]; omega
        · have HZ : Hid (ok = false) := by show _ = _; rw [HV.out]; exact HN.out (inB_high hhi)
          have q1 : ¬ (b.toNat : Int) < 33 := by omega
          have q2 : (b.toNat : Int) > 126 := by omega
          clear HY2 HN hlow hhi
          go_wp2
          go_ret
          exact ⟨by rw [HZ.out]; rfl, rfl⟩
      · have HZ : Hid (ok = false) := by show _ = _; rw [HV.out]; exact HN.out (inB_low hlow)
        have q1 : (b.toNat : Int) < 33 := by omega
        clear HY2 HN hlow
        go_wp2
        go_ret
        exact ⟨by rw [HZ.out]; rfl, rfl⟩
    · have HZ : Hid (ok = true) := by show _ = _; rw [HV.out]; exact allB_of (fun j h => HY.out j h (by omega))
      have hlti : ¬ (k : Int) < (s.size : Int) := by omega
      clear HY HV
      go_wp2
      go_ret
      exact ⟨by rw [HZ.out]; rfl, rfl⟩
theorem pc_one {y : ByteArray} (h : y.size ≠ 0) : pcB 1 y = pcB 0 y := by
  unfold pcB
  rw [decide_eq_true (show (1 : Int) ≤ (y.size : Int) by omega), decide_eq_true (show (0 : Int) ≤ (y.size : Int) by omega)]
theorem pc_none {y : ByteArray} (h : y.size = 0) : pcB 1 y = false := by
  unfold pcB
  rw [decide_eq_false (show ¬ (1 : Int) ≤ (y.size : Int) by omega)]; rfl
theorem toL_nil {s : ByteArray} (h : s.size = 0) : s = ByteArray.empty := by
  cases s with
  | mk d => 
    have : d = #[] := Array.eq_empty_of_size_eq_zero h
    subst this; rfl
theorem toL_some {s : ByteArray} (h : s.size ≠ 0) : s.toList.isEmpty = false := by
  rw [Bool.eq_false_iff]
  intro c
  apply h
  rw [ByteArray.toList_eq, List.isEmpty_iff] at c
  cases s
  simp at c
  rw [c]
  rfl
set_option maxHeartbeats 3200000 in
theorem specNameOk_is (x : TT) (w : World) (hd : DpT w x) (hl : x.1.2.2.length ≤ 1048576) (hs : ∀ y ∈ x.1.2.2, y.size ≤ maxLen) (hm : x.2.size ≤ maxLen) :
    Calls Try.prog 13 #[vT x] w fun e w' => e = .returned (.bool (okN (stT x))) ∧ Below w.heap.size w w' := by
  obtain ⟨⟨a, cap, xs⟩, m⟩ := x
  have hr : RowAt Value.string w a xs := hd
  clear hd
  dsimp only at hl hs hm
  have HE : Hid (okN (stT ((a, cap, xs), m)) = ((decide (1 ≤ xs.length) && decide (xs.length ≤ 4)) && (xs.all (pcB 1) && pcB 0 m))) := (rfl : okN (stT ((a, cap, xs), m)) = _)
  generalize okN (stT ((a, cap, xs), m)) = ok at HE ⊢
  obtain ⟨V, hV⟩ : ∃ V, w.alloc (.cells #[.slice a xs.length cap, .string m] 26) = V := ⟨_, rfl⟩
  have TV : Blk w.heap.size [.slice a xs.length cap, .string m] V := by rw [← hV]; exact Blk.new _ _ _
  have BC : Below w.heap.size w V := by rw [← hV]; exact (Below.refl _ _).alloc (Nat.le_refl _) _
  have d0 := TV.at 0 rfl
  have d1 := TV.at 1 rfl
  have hr2 := hr.later BC
  have K1 := fun w' => in_is (xs.length : Int) 1 4 w'
  have K2 := fun w' => specPart_is m w' hm
  have hdl : (decide ((1 : Int) ≤ (xs.length : Int)) && decide ((xs.length : Int) ≤ 4)) = (decide (1 ≤ xs.length) && decide (xs.length ≤ 4)) := by
    congr 1 <;> exact decide_eq_decide.2 (by omega)
  rw [hdl] at K1
  clear hdl
  generalize (decide (1 ≤ xs.length) && decide (xs.length ≤ 4)) = lb at HE K1
  generalize pcB 0 m = pm at HE K2
  clear hr hm TV
  go_enter Try.func13, Try.ntmps13
  go_wp2_with fail
  try rw [hV]
  refine (K1 _).mono ?_
  clear K1
  rintro en v1 ⟨rfl, rfl⟩
  cases lb with
  | false =>
    have HW : Hid (ok = false) := by show _ = _; rw [HE.out]; rfl
    clear HE K2
    go_wp2
    go_ret
    exact ⟨by rw [HW.out]; rfl, BC⟩
  | true =>
    go_wp2_with fail
    refine (K2 _).mono ?_
    clear K2
    rintro en v2 ⟨rfl, rfl⟩
    cases pm with
    | false =>
      have HW : Hid (ok = false) := by show _ = _; rw [HE.out, Bool.and_false]; rfl
      clear HE
      go_wp2
      go_ret
      exact ⟨by rw [HW.out]; rfl, BC⟩
    | true =>
      have HV : Hid (ok = xs.all (pcB 1)) := by show _ = _; rw [HE.out, Bool.and_true]; rfl
      clear HE
      go_wp2
      go_loopw [3] (fun i wr => ∃ k : Nat, k ≤ xs.length ∧ i = .int .i64 k ∧ Hid (∀ j (h : j < xs.length), j < k → pcB 1 xs[j] = true) ∧ V = wr) (fun i _ => xs.length - (intOf i).toNat)
      case atStart => exact ⟨0, Nat.zero_le _, rfl, fun j _ h => absurd h (by omega), rfl⟩
      case round =>
        obtain ⟨k, hk, rfl, HY, rfl⟩ := hrel
        by_cases hlt : k < xs.length
        · have hlti : (k : Int) < (xs.length : Int) := by omega
          have HY2 : Hid (pcB 1 xs[k] = true → ∀ j (h : j < xs.length), j < k + 1 → pcB 1 xs[j] = true) := fun he j h hj => by
            by_cases e : j = k
            · subst e; exact he
            · exact HY.out j h (by omega)
          have HN : Hid (pcB 1 xs[k] = false → xs.all (pcB 1) = false) := fun he => by
            show _ = _
            rw [List.all_eq_false]
            exact ⟨xs[k], List.getElem_mem hlt, by rw [he]; decide⟩
          obtain ⟨b1, o1, rfl, _, hc⟩ := hr2 k hlt
          have hy := hs xs[k] (List.getElem_mem hlt)
          generalize xs[k] = y at HY2 HN hc hy
          clear HY
          by_cases h0 : y.size = 0
          · have HZ : Hid (ok = false) := by show _ = _; rw [HV.out]; exact HN.out (pc_none h0)
            have he := toL_nil h0
            subst he
            clear HY2 HN
            go_wp2
            go_ret
            exact ⟨by rw [HZ.out]; rfl, BC⟩
          · have hne := toL_some h0
            have K := fun w' => specPart_is y w' hy
            rw [← pc_one h0] at K
            generalize pcB 1 y = py at HY2 HN K
            go_wp2_with fail
            refine (K _).mono ?_
            clear K
            rintro en v3 ⟨rfl, rfl⟩
            cases py with
            | false =>
              have HZ : Hid (ok = false) := by show _ = _; rw [HV.out]; exact HN.out rfl
              clear HY2 HN
              go_wp2
              go_ret
              exact ⟨by rw [HZ.out]; rfl, BC⟩
            | true =>
              have HZ2 : Hid (∀ j (h : j < xs.length), j < k + 1 → pcB 1 xs[j] = true) := HY2.out rfl
              clear HY2 HN
              go_wp2
              go_roundw
              case rel => first | exact ⟨k + 1, by omega, by go_num, HZ2, rfl⟩ | exact ⟨k + 1, by omega, by go_num, HZ2, trivial⟩ | exact ⟨k + 1, by omega, by go_num, HZ2⟩
              case measure => simp [intOf]; omega
        · have HZ : Hid (ok = true) := by
            show _ = _
            rw [HV.out, List.all_eq_true]
            intro y hy
            obtain ⟨j, hj, rfl⟩ := List.mem_iff_getElem.1 hy
            exact HY.out j hj (by omega)
          have hlti : ¬ (k : Int) < (xs.length : Int) := by omega
          clear HY HV
          go_wp2
          go_ret
          exact ⟨by rw [HZ.out]; rfl, BC⟩
end Go.Proofs.Ytbpodcfbijhboaa.Nd
