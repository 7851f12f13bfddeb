/- The program shows a name. -/
import Derived.Test.YtbpodcfbijhboaaNg1
set_option linter.unusedVariables false
set_option maxRecDepth 100000
namespace Go.Proofs.Ytbpodcfbijhboaa.Nd
open Go Go.RowKit Go.Joins Own Draw

set_option maxHeartbeats 3200000 in
theorem implShow_is (x : TT) (w : World) (hx : DpT w x) (sx : SmT x) (hcap : x.1.2.2.length ≤ x.1.2.1) : Calls Try.prog 11 #[vT x] w fun e w' => e = .returned (.string (showN (stT x))) ∧ Below w.heap.size w w' := by
  have KA := fun (w' : World) (hb : Below w.heap.size w w') => implNameOk_is x w' (hx.later hb) sx.1 sx.2.1 sx.2.2
  obtain ⟨⟨a, ca, xs⟩, m⟩ := x
  have rx : RowAt Value.string w a xs := hx
  have hle := sx.1
  clear sx
  dsimp only at KA hle
  have HE : Hid (showN (stT ((a, ca, xs), m)) = if okN (stT ((a, ca, xs), m)) = true then (if m = ByteArray.empty then jo xs xs.length else jo xs xs.length ++ atB ++ escB m) else ByteArray.empty) := (rfl : showN (stT ((a, ca, xs), m)) = _)
  have HO : Hid (okN (stT ((a, ca, xs), m)) = true → (1 ≤ xs.length ∧ xs.length ≤ 4) ∧ (∀ y ∈ xs, 1 ≤ y.size ∧ y.size ≤ 20 ∧ allB y = true) ∧ m.size ≤ 20 ∧ allB m = true) := fun h => ok_parts h
  generalize showN (stT ((a, ca, xs), m)) = z at HE ⊢
  generalize okN (stT ((a, ca, xs), m)) = ox at HE KA HO
  clear hx
  obtain ⟨V, hV⟩ : ∃ V, w.alloc (.cells #[.slice a xs.length ca, .string m] 26) = V := ⟨_, rfl⟩
  have TA : Blk w.heap.size [.slice a xs.length ca, .string m] V := by rw [← hV]; exact Blk.new _ _ _
  have BC : Below w.heap.size w V := by rw [← hV]; exact (Below.refl _ _).alloc (Nat.le_refl _) _
  have sV : w.heap.size < V.heap.size := by rw [← hV]; simp
  have a0 := TA.at 0 rfl
  have a1 := TA.at 1 rfl
  go_enter Try.func11, Try.ntmps11
  go_wp2_with fail
  try rw [hV]
  refine (KA V BC).mono ?_
  clear KA a0 a1
  rintro en v1 ⟨rfl, hb⟩
  replace TA := TA.lower hb sV
  replace BC := BC.trans (hb.mono BC.size)
  clear hb sV hV
  cases ox with
  | false =>
    have HZ : Hid (z = ByteArray.empty) := by show _ = _; rw [HE.out]; rfl
    clear HE HO
    go_wp2
    go_ret
    exact ⟨by rw [HZ.out]; rfl, BC⟩
  | true =>
    obtain ⟨⟨o1, o2⟩, o3, o4, o5⟩ := HO.out rfl
    have O3 : Hid (∀ y ∈ xs, 1 ≤ y.size ∧ y.size ≤ 20 ∧ allB y = true) := o3
    have HZ : Hid (z = if m = ByteArray.empty then jo xs xs.length else jo xs xs.length ++ atB ++ escB m) := by show _ = _; rw [HE.out]; rfl
    have HJ : Hid (∀ k, k ≤ xs.length → (jo xs k).size ≤ 41 * k) := fun k hk => jo_size (fun y hy => (o3 y hy).2.1) k hk
    have hem := escB_size m
    clear HE HO o3
    try dsimp only at hcap
    have a0 := TA.at 0 rfl
    have a1 := TA.at 1 rfl
    obtain ⟨b1, f1, ea, l1, c1⟩ := rx 0 (by omega)
    subst ea
    rw [← BC.cell (p := ⟨b1, f1 + 0, none⟩) l1] at c1
    have hy := O3.out xs[0] (List.getElem_mem (by omega))
    have K := fun w' => quoted_is xs[0] w' (by omega) hy.2.2
    have H1 : Hid (escB xs[0] = jo xs 1) := (jo_first (by omega)).symm
    rw [H1.out] at K
    generalize xs[0] = y0 at *
    have p1 : (0 : Int) < (xs.length : Int) := by omega
    rw [Nat.add_zero] at c1
    clear H1
    generalize hj1 : jo xs 1 = j1 at K
    have HJ1 : Hid (jo xs 1 = j1) := hj1
    clear hj1
    go_wp2_with fail
    refine (K _).mono ?_
    clear K c1
    rintro en v2 ⟨rfl, hb⟩
    replace TA := TA.lower hb TA.lt
    replace BC := BC.trans (hb.mono BC.size)
    clear hb a0 a1
    have a0 := TA.at 0 rfl
    have a1 := TA.at 1 rfl
    have p2 : (1 : Int) ≤ (xs.length : Int) := by omega
    obtain ⟨n, hn⟩ : ∃ n, xs.length - 1 = n := ⟨_, rfl⟩
    have HN : Hid (xs.length = n + 1) := by show _ = _; omega
    by_cases hc : ca = 1
    · go_wp2
      try rw [hn]
      clear a0 a1 p1 p2 hn
      go_loopw [3, 18] (fun s i wr => ∃ k : Nat, k ≤ n ∧ i = .int .i64 k ∧ s = .string (jo xs (k + 1)) ∧ Below v2.heap.size v2 wr) (fun _ i _ => n - (intOf i).toNat)
      case atStart => exact ⟨0, Nat.zero_le _, rfl, by rw [HJ1.out], Below.refl _ _⟩
      case round =>
        obtain ⟨k, hk, rfl, rfl, hb⟩ := hrel
        have UA := TA.lower hb TA.lt
        have BW := BC.trans (hb.mono BC.size)
        have a0 := UA.at 0 rfl
        have a1 := UA.at 1 rfl
        have hja := HJ.out (k + 1) (by have := HN.out; omega)
        have hk4 : k ≤ 3 := by have := HN.out; omega
        by_cases hlt : k < n
        · exfalso; have := HN.out; omega
        · obtain rfl : k = n := by omega
          have p1 : ¬ (k : Int) < (k : Int) := by omega
          have HL : Hid (jo xs (k + 1) = jo xs xs.length) := by show _ = _; rw [HN.out]
          generalize hjj : jo xs (k + 1) = aa at *
          have HA : Hid (jo xs xs.length = aa) := HL.out.symm
          clear HJ O3 rx hjj HL HJ1
          by_cases hm : m = ByteArray.empty
          · have HW : Hid (z = aa) := by show _ = _; rw [HZ.out, if_pos hm, HA.out]
            subst hm
            clear HZ HA
            go_wp2
            go_ret
            exact ⟨by rw [HW.out]; rfl, BW⟩
          · have hm2 : m.toList.isEmpty = false := toL_some (fun h => hm (toL_nil h))
            have HW : Hid (z = aa ++ atB ++ escB m) := by show _ = _; rw [HZ.out, if_neg hm, HA.out]
            clear HZ hm HA
            have K := fun w' => quoted_is m w' (by omega) o5
            have s1 : aa.size + atB.size ≤ 9223372036854775807 := by have : atB.size = 1 := rfl; omega
            have s2 : (aa ++ atB).size + (escB m).size ≤ 9223372036854775807 := by rw [ByteArray.size_append]; have : atB.size = 1 := rfl; omega
            have s3 : atB.size + (escB m).size ≤ 9223372036854775807 := by have : atB.size = 1 := rfl; omega
            have s4 : aa.size + (atB ++ escB m).size ≤ 9223372036854775807 := by rw [ByteArray.size_append]; have : atB.size = 1 := rfl; omega
            have HX : Hid (aa ++ (atB ++ escB m) = aa ++ atB ++ escB m) := (ByteArray.append_assoc ..).symm
            generalize escB m = em at *
            go_wp2_with fail
            refine (K _).mono ?_
            clear K
            rintro en v9 ⟨rfl, hb9⟩
            replace BW := BW.trans (hb9.mono BW.size)
            go_wp2
            go_ret
            exact ⟨by rw [HW.out, ← HX.out]; rfl, BW⟩
    · go_wp2
      try rw [hn]
      clear a0 a1 p1 p2 hn
      go_loopw [3, 18] (fun s i wr => ∃ k : Nat, k ≤ n ∧ i = .int .i64 k ∧ s = .string (jo xs (k + 1)) ∧ Below v2.heap.size v2 wr) (fun _ i _ => n - (intOf i).toNat)
      case atStart => exact ⟨0, Nat.zero_le _, rfl, by rw [HJ1.out], Below.refl _ _⟩
      case round =>
        obtain ⟨k, hk, rfl, rfl, hb⟩ := hrel
        have UA := TA.lower hb TA.lt
        have BW := BC.trans (hb.mono BC.size)
        have a0 := UA.at 0 rfl
        have a1 := UA.at 1 rfl
        have hja := HJ.out (k + 1) (by have := HN.out; omega)
        have hk4 : k ≤ 3 := by have := HN.out; omega
        by_cases hlt : k < n
        · have p1 : (k : Int) < (n : Int) := by omega
          have hlt3 : k + 1 < xs.length := by have := HN.out; omega
          obtain ⟨b2, f2, e2, l2, c2⟩ := rx (k + 1) hlt3
          injection e2 with e2
          injection e2 with e2 e3
          subst e2 e3
          rw [← BW.cell (p := ⟨b1, f1 + (k + 1), none⟩) l2] at c2
          rw [show f1 + (k + 1) = f1 + 1 + k by omega] at c2
          have hy2 := O3.out xs[k + 1] (List.getElem_mem hlt3)
          have hys := escB_size xs[k + 1]
          have H2 : Hid (jo xs (k + 1) ++ (slash ++ escB xs[k + 1]) = jo xs (k + 1 + 1)) := by show _ = _; rw [jo_next hlt3 (by omega), ByteArray.append_assoc]
          have K := fun w' => quoted_is xs[k + 1] w' (by omega) hy2.2.2
          generalize xs[k + 1] = y at *
          generalize hjk : jo xs (k + 1) = aa at *
          obtain ⟨an, han⟩ : ∃ an, jo xs (k + 1 + 1) = an := ⟨_, rfl⟩
          rw [han] at H2
          have HAN : Hid (jo xs (k + 1 + 1) = an) := han
          clear han hjk
          generalize escB y = ey at *
          have hs1 : slash.size = 1 := rfl
          have hsn : slash.size + ey.size ≤ 9223372036854775807 := by omega
          have hso : aa.size + (slash ++ ey).size ≤ 9223372036854775807 := by rw [ByteArray.size_append]; omega
          clear HJ HZ O3 HJ1 hs1
          go_wp2_with fail
          refine (K _).mono ?_
          clear K
          rintro en v3 ⟨rfl, hb3⟩
          replace hb := hb.trans (hb3.mono hb.size)
          clear hb3
          go_wp2
          go_roundw
          case rel => exact ⟨k + 1, by omega, by go_num, by rw [H2.out, HAN.out], hb⟩
          case measure => simp [intOf]; omega
        · obtain rfl : k = n := by omega
          have p1 : ¬ (k : Int) < (k : Int) := by omega
          have HL : Hid (jo xs (k + 1) = jo xs xs.length) := by show _ = _; rw [HN.out]
          generalize hjj : jo xs (k + 1) = aa at *
          have HA : Hid (jo xs xs.length = aa) := HL.out.symm
          clear HJ O3 rx hjj HL HJ1
          by_cases hm : m = ByteArray.empty
          · have HW : Hid (z = aa) := by show _ = _; rw [HZ.out, if_pos hm, HA.out]
            subst hm
            clear HZ HA
            go_wp2
            go_ret
            exact ⟨by rw [HW.out]; rfl, BW⟩
          · have hm2 : m.toList.isEmpty = false := toL_some (fun h => hm (toL_nil h))
            have HW : Hid (z = aa ++ atB ++ escB m) := by show _ = _; rw [HZ.out, if_neg hm, HA.out]
            clear HZ hm HA
            have K := fun w' => quoted_is m w' (by omega) o5
            have s1 : aa.size + atB.size ≤ 9223372036854775807 := by have : atB.size = 1 := rfl; omega
            have s2 : (aa ++ atB).size + (escB m).size ≤ 9223372036854775807 := by rw [ByteArray.size_append]; have : atB.size = 1 := rfl; omega
            have s3 : atB.size + (escB m).size ≤ 9223372036854775807 := by have : atB.size = 1 := rfl; omega
            have s4 : aa.size + (atB ++ escB m).size ≤ 9223372036854775807 := by rw [ByteArray.size_append]; have : atB.size = 1 := rfl; omega
            have HX : Hid (aa ++ (atB ++ escB m) = aa ++ atB ++ escB m) := (ByteArray.append_assoc ..).symm
            generalize escB m = em at *
            go_wp2_with fail
            refine (K _).mono ?_
            clear K
            rintro en v9 ⟨rfl, hb9⟩
            replace BW := BW.trans (hb9.mono BW.size)
            go_wp2
            go_ret
            exact ⟨by rw [HW.out, ← HX.out]; rfl, BW⟩
end Go.Proofs.Ytbpodcfbijhboaa.Nd
