/- The model on names of very many parts. -/
import Derived.Test.YtbpodcfbijhboaaNg2
set_option linter.unusedVariables false
set_option maxRecDepth 100000
namespace Go.Proofs.Ytbpodcfbijhboaa.Nd
open Go Go.RowKit Go.Joins Own Draw

def SbT (x : TT) : Prop := x.1.2.2.length ≤ 2097152 ∧ (∀ y ∈ x.1.2.2, y.size ≤ maxLen) ∧ x.2.size ≤ maxLen
set_option maxHeartbeats 3200000 in
theorem specOkB_is (x : TT) (w : World) (hd : DpT w x) (hl : x.1.2.2.length ≤ 2097152) (hs : ∀ y ∈ x.1.2.2, y.size ≤ maxLen) (hm : x.2.size ≤ maxLen) :
    Calls Try.prog 13 #[vT x] w fun e w' => e = .returned (.bool (okN (stT x))) ∧ Below w.heap.size w w' := by
  obtain ⟨⟨a, cap, xs⟩, m⟩ := x
  have hr : RowAt Value.string w a xs := hd
  clear hd
  dsimp only at hl hs hm
  have HE : Hid (okN (stT ((a, cap, xs), m)) = ((decide (1 ≤ xs.length) && decide (xs.length ≤ 4)) && (xs.all (pcB 1) && pcB 0 m))) := (rfl : okN (stT ((a, cap, xs), m)) = _)
  generalize okN (stT ((a, cap, xs), m)) = ok at HE ⊢
  obtain ⟨V, hV⟩ : ∃ V, w.alloc (.cells #[.slice a xs.length cap, .string m] 26) = V := ⟨_, rfl⟩
  have TV : Blk w.heap.size [.slice a xs.length cap, .string m] V := by rw [← hV]; exact Blk.new _ _ _
  have BC : Below w.heap.size w V := by rw [← hV]; exact (Below.refl _ _).alloc (Nat.le_refl _) _
  have d0 := TV.at 0 rfl
  have d1 := TV.at 1 rfl
  have hr2 := hr.later BC
  have K1 := fun w' => in_is (xs.length : Int) 1 4 w'
  have K2 := fun w' => specPart_is m w' hm
  have hdl : (decide ((1 : Int) ≤ (xs.length : Int)) && decide ((xs.length : Int) ≤ 4)) = (decide (1 ≤ xs.length) && decide (xs.length ≤ 4)) := by
    congr 1 <;> exact decide_eq_decide.2 (by omega)
  rw [hdl] at K1
  clear hdl
  generalize (decide (1 ≤ xs.length) && decide (xs.length ≤ 4)) = lb at HE K1
  generalize pcB 0 m = pm at HE K2
  clear hr hm TV
  go_enter Try.func13, Try.ntmps13
  go_wp2_with fail
  try rw [hV]
  refine (K1 _).mono ?_
  clear K1
  rintro en v1 ⟨rfl, rfl⟩
  cases lb with
  | false =>
    have HW : Hid (ok = false) := by show _ = _; rw [HE.out]; rfl
    clear HE K2
    go_wp2
    go_ret
    exact ⟨by rw [HW.out]; rfl, BC⟩
  | true =>
    go_wp2_with fail
    refine (K2 _).mono ?_
    clear K2
    rintro en v2 ⟨rfl, rfl⟩
    cases pm with
    | false =>
      have HW : Hid (ok = false) := by show _ = _; rw [HE.out, Bool.and_false]; rfl
      clear HE
      go_wp2
      go_ret
      exact ⟨by rw [HW.out]; rfl, BC⟩
    | true =>
      have HV : Hid (ok = xs.all (pcB 1)) := by show _ = _; rw [HE.out, Bool.and_true]; rfl
      clear HE
      go_wp2
      go_loopw [3] (fun i wr => ∃ k : Nat, k ≤ xs.length ∧ i = .int .i64 k ∧ Hid (∀ j (h : j < xs.length), j < k → pcB 1 xs[j] = true) ∧ V = wr) (fun i _ => xs.length - (intOf i).toNat)
      case atStart => exact ⟨0, Nat.zero_le _, rfl, fun j _ h => absurd h (by omega), rfl⟩
      case round =>
        obtain ⟨k, hk, rfl, HY, rfl⟩ := hrel
        by_cases hlt : k < xs.length
        · have hlti : (k : Int) < (xs.length : Int) := by omega
          have HY2 : Hid (pcB 1 xs[k] = true → ∀ j (h : j < xs.length), j < k + 1 → pcB 1 xs[j] = true) := fun he j h hj => by
            by_cases e : j = k
            · subst e; exact he
            · exact HY.out j h (by omega)
          have HN : Hid (pcB 1 xs[k] = false → xs.all (pcB 1) = false) := fun he => by
            show _ = _
            rw [List.all_eq_false]
            exact ⟨xs[k], List.getElem_mem hlt, by rw [he]; decide⟩
          obtain ⟨b1, o1, rfl, _, hc⟩ := hr2 k hlt
          have hy := hs xs[k] (List.getElem_mem hlt)
          generalize xs[k] = y at HY2 HN hc hy
          clear HY
          by_cases h0 : y.size = 0
          · have HZ : Hid (ok = false) := by show _ = _; rw [HV.out]; exact HN.out (pc_none h0)
            have he := toL_nil h0
            subst he
            clear HY2 HN
            go_wp2
            go_ret
            exact ⟨by rw [HZ.out]; rfl, BC⟩
          · have hne := toL_some h0
            have K := fun w' => specPart_is y w' hy
            rw [← pc_one h0] at K
            generalize pcB 1 y = py at HY2 HN K
            go_wp2_with fail
            refine (K _).mono ?_
            clear K
            rintro en v3 ⟨rfl, rfl⟩
            cases py with
            | false =>
              have HZ : Hid (ok = false) := by show _ = _; rw [HV.out]; exact HN.out rfl
              clear HY2 HN
              go_wp2
              go_ret
              exact ⟨by rw [HZ.out]; rfl, BC⟩
            | true =>
              have HZ2 : Hid (∀ j (h : j < xs.length), j < k + 1 → pcB 1 xs[j] = true) := HY2.out rfl
              clear HY2 HN
              go_wp2
              go_roundw
              case rel => first | exact ⟨k + 1, by omega, by go_num, HZ2, rfl⟩ | exact ⟨k + 1, by omega, by go_num, HZ2, trivial⟩ | exact ⟨k + 1, by omega, by go_num, HZ2⟩
              case measure => simp [intOf]; omega
        · have HZ : Hid (ok = true) := by
            show _ = _
            rw [HV.out, List.all_eq_true]
            intro y hy
            obtain ⟨j, hj, rfl⟩ := List.mem_iff_getElem.1 hy
            exact HY.out j hj (by omega)
          have hlti : ¬ (k : Int) < (xs.length : Int) := by omega
          clear HY HV
          go_wp2
          go_ret
          exact ⟨by rw [HZ.out]; rfl, BC⟩
set_option maxHeartbeats 3200000 in
theorem specShowB_is (x : TT) (w : World) (hx : DpT w x) (sx : SbT x) : Calls Try.prog 27 #[vT x] w fun e w' => e = .returned (.string (showN (stT x))) ∧ Below w.heap.size w w' := by
  have KA := fun (w' : World) (hb : Below w.heap.size w w') => specOkB_is x w' (hx.later hb) sx.1 sx.2.1 sx.2.2
  obtain ⟨⟨a, ca, xs⟩, m⟩ := x
  have rx : RowAt Value.string w a xs := hx
  have hle := sx.1
  clear sx
  dsimp only at KA hle
  have HE : Hid (showN (stT ((a, ca, xs), m)) = if okN (stT ((a, ca, xs), m)) = true then (if m = ByteArray.empty then jo xs xs.length else jo xs xs.length ++ atB ++ escB m) else ByteArray.empty) := (rfl : showN (stT ((a, ca, xs), m)) = _)
  have HO : Hid (okN (stT ((a, ca, xs), m)) = true → (1 ≤ xs.length ∧ xs.length ≤ 4) ∧ (∀ y ∈ xs, 1 ≤ y.size ∧ y.size ≤ 20 ∧ allB y = true) ∧ m.size ≤ 20 ∧ allB m = true) := fun h => ok_parts h
  generalize showN (stT ((a, ca, xs), m)) = z at HE ⊢
  generalize okN (stT ((a, ca, xs), m)) = ox at HE KA HO
  clear hx
  obtain ⟨V, hV⟩ : ∃ V, w.alloc (.cells #[.slice a xs.length ca, .string m] 26) = V := ⟨_, rfl⟩
  have TA : Blk w.heap.size [.slice a xs.length ca, .string m] V := by rw [← hV]; exact Blk.new _ _ _
  have BC : Below w.heap.size w V := by rw [← hV]; exact (Below.refl _ _).alloc (Nat.le_refl _) _
  have sV : w.heap.size < V.heap.size := by rw [← hV]; simp
  have a0 := TA.at 0 rfl
  have a1 := TA.at 1 rfl
  go_enter Try.func27, Try.ntmps27
  go_wp2_with fail
  try rw [hV]
  refine (KA V BC).mono ?_
  clear KA a0 a1
  rintro en v1 ⟨rfl, hb⟩
  replace TA := TA.lower hb sV
  replace BC := BC.trans (hb.mono BC.size)
  clear hb sV hV
  cases ox with
  | false =>
    have HZ : Hid (z = ByteArray.empty) := by show _ = _; rw [HE.out]; rfl
    clear HE HO
    go_wp2
    go_ret
    exact ⟨by rw [HZ.out]; rfl, BC⟩
  | true =>
    obtain ⟨⟨o1, o2⟩, o3, o4, o5⟩ := HO.out rfl
    have O3 : Hid (∀ y ∈ xs, 1 ≤ y.size ∧ y.size ≤ 20 ∧ allB y = true) := o3
    have HZ : Hid (z = if m = ByteArray.empty then jo xs xs.length else jo xs xs.length ++ atB ++ escB m) := by show _ = _; rw [HE.out]; rfl
    have HJ : Hid (∀ k, k ≤ xs.length → (jo xs k).size ≤ 41 * k) := fun k hk => jo_size (fun y hy => (o3 y hy).2.1) k hk
    have hem := escB_size m
    clear HE HO o3
    go_wp2
    go_loopw [3, 4] (fun s i wr => ∃ k : Nat, k ≤ xs.length ∧ i = .int .i64 k ∧ s = .string (jo xs k) ∧ Below v1.heap.size v1 wr) (fun _ i _ => xs.length - (intOf i).toNat)
    case atStart => exact ⟨0, Nat.zero_le _, rfl, rfl, Below.refl _ _⟩
    case round =>
      obtain ⟨k, hk, rfl, rfl, hb⟩ := hrel
      have UA := TA.lower hb TA.lt
      have BW := BC.trans (hb.mono BC.size)
      have a0 := UA.at 0 rfl
      have a1 := UA.at 1 rfl
      have hja := HJ.out k hk
      by_cases hlt : k < xs.length
      · have p1 : (k : Int) < (xs.length : Int) := by omega
        obtain ⟨b1, f1, rfl, l1, c1⟩ := rx k hlt
        rw [← BW.cell (p := ⟨b1, f1 + k, none⟩) l1] at c1
        have hy := O3.out xs[k] (List.getElem_mem hlt)
        have hys := escB_size xs[k]
        have H1 : Hid (k = 0 → jo xs k ++ escB xs[k] = jo xs (k + 1)) := fun h => by subst h; rw [jo_first hlt]; exact ByteArray.empty_append ..
        have H2 : Hid (k ≠ 0 → jo xs k ++ slash ++ escB xs[k] = jo xs (k + 1)) := fun h => (jo_next hlt h).symm
        have K := fun w' => esc_is xs[k] w' (by omega)
        generalize xs[k] = y at *
        generalize jo xs k = aa at *
        obtain ⟨an, han⟩ : ∃ an, jo xs (k + 1) = an := ⟨_, rfl⟩
        rw [han] at H1 H2
        have HAN : Hid (jo xs (k + 1) = an) := han
        clear han
        generalize escB y = ey at *
        clear HJ HZ O3
        have hsm : aa.size + ey.size ≤ 9223372036854775807 := by omega
        by_cases h0 : k = 0
        · have HN : Hid (aa ++ ey = an) := H1.out h0
          have p2 : ¬ (k : Int) > 0 := by omega
          clear H1 H2 h0
          go_wp2_with fail
          refine (K _).mono ?_
          clear K
          rintro en v2 ⟨rfl, hb2⟩
          replace hb := hb.trans (hb2.mono hb.size)
          clear hb2
          go_wp2
          go_roundw
          case rel => exact ⟨k + 1, by omega, by go_num, by rw [HN.out, HAN.out], hb⟩
          case measure => simp [intOf]; omega
        · have HN : Hid (aa ++ slash ++ ey = an) := H2.out h0
          have p2 : (k : Int) > 0 := by omega
          have hs1 : slash.size = 1 := rfl
          have hsn : aa.size + slash.size ≤ 9223372036854775807 := by omega
          have hso : (aa ++ slash).size + ey.size ≤ 9223372036854775807 := by rw [ByteArray.size_append]; omega
          clear H1 H2 h0 hs1
          go_wp2_with fail
          refine (K _).mono ?_
          clear K
          rintro en v2 ⟨rfl, hb2⟩
          replace hb := hb.trans (hb2.mono hb.size)
          clear hb2
          go_wp2
          go_roundw
          case rel => exact ⟨k + 1, by omega, by go_num, by rw [HN.out, HAN.out], hb⟩
          case measure => simp [intOf]; omega
      · obtain rfl : k = xs.length := by omega
        have p1 : ¬ (xs.length : Int) < (xs.length : Int) := by omega
        have HA : Hid (jo xs xs.length = jo xs xs.length) := (rfl : jo xs xs.length = _)
        generalize hjj : jo xs xs.length = aa at hja
        have HA : Hid (jo xs xs.length = aa) := hjj
        try rw [hjj]
        clear HJ O3 rx hjj
        by_cases hm : m = ByteArray.empty
        · have HW : Hid (z = aa) := by show _ = _; rw [HZ.out, if_pos hm, HA.out]
          subst hm
          clear HZ HA
          go_wp2
          go_ret
          exact ⟨by rw [HW.out]; rfl, BW⟩
        · have hm2 : m.toList.isEmpty = false := toL_some (fun h => hm (toL_nil h))
          have HW : Hid (z = aa ++ atB ++ escB m) := by show _ = _; rw [HZ.out, if_neg hm, HA.out]
          clear HZ hm HA
          have K := fun w' => esc_is m w' (by omega)
          have s1 : aa.size + atB.size ≤ 9223372036854775807 := by have : atB.size = 1 := rfl; omega
          have s2 : (aa ++ atB).size + (escB m).size ≤ 9223372036854775807 := by rw [ByteArray.size_append]; have : atB.size = 1 := rfl; omega
          have s3 : atB.size + (escB m).size ≤ 9223372036854775807 := by have : atB.size = 1 := rfl; omega
          have s4 : aa.size + (atB ++ escB m).size ≤ 9223372036854775807 := by rw [ByteArray.size_append]; have : atB.size = 1 := rfl; omega
          have HX : Hid (aa ++ (atB ++ escB m) = aa ++ atB ++ escB m) := (ByteArray.append_assoc ..).symm
          generalize escB m = em at *
          go_wp2_with fail
          refine (K _).mono ?_
          clear K
          rintro en v9 ⟨rfl, hb9⟩
          replace BW := BW.trans (hb9.mono BW.size)
          go_wp2
          go_ret
          exact ⟨by rw [HW.out]; rfl, BW⟩
end Go.Proofs.Ytbpodcfbijhboaa.Nd
