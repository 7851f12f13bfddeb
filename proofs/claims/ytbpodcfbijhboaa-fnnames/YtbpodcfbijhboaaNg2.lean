/- The model shows a name. -/
import Derived.Test.YtbpodcfbijhboaaNg1
import Derived.Test.YtbpodcfbijhboaaNx2
set_option linter.unusedVariables false
set_option maxRecDepth 100000
namespace Go.Proofs.Ytbpodcfbijhboaa.Nd
open Go Go.RowKit Go.Joins Own Draw

set_option maxHeartbeats 3200000 in
theorem specShow_is (x : TT) (w : World) (hx : DpT w x) (sx : SmT x) : Calls Try.prog 27 #[vT x] w fun e w' => e = .returned (.string (showN (stT x))) ∧ Below w.heap.size w w' := by
  have KA := fun (w' : World) (hb : Below w.heap.size w w') => specNameOk_is x w' (hx.later hb) sx.1 sx.2.1 sx.2.2
  obtain ⟨⟨a, ca, xs⟩, m⟩ := x
  have rx : RowAt Value.string w a xs := hx
  have hle := sx.1
  clear sx
  dsimp only at KA hle
  have HE : Hid (showN (stT ((a, ca, xs), m)) = if okN (stT ((a, ca, xs), m)) = true then (if m = ByteArray.empty then jo xs xs.length else jo xs xs.length ++ atB ++ escB m) else ByteArray.empty) := (rfl : showN (stT ((a, ca, xs), m)) = _)
  have HO : Hid (okN (stT ((a, ca, xs), m)) = true → (1 ≤ xs.length ∧ xs.length ≤ 4) ∧ (∀ y ∈ xs, 1 ≤ y.size ∧ y.size ≤ 20 ∧ allB y = true) ∧ m.size ≤ 20 ∧ allB m = true) := fun h => ok_parts h
  generalize showN (stT ((a, ca, xs), m)) = z at HE ⊢
  generalize okN (stT ((a, ca, xs), m)) = ox at HE KA HO
  clear hx
  obtain ⟨V, hV⟩ : ∃ V, w.alloc (.cells #[.slice a xs.length ca, .string m] 26) = V := ⟨_, rfl⟩
  have TA : Blk w.heap.size [.slice a xs.length ca, .string m] V := by rw [← hV]; exact Blk.new _ _ _
  have BC : Below w.heap.size w V := by rw [← hV]; exact (Below.refl _ _).alloc (Nat.le_refl _) _
  have sV : w.heap.size < V.heap.size := by rw [← hV]; simp
  have a0 := TA.at 0 rfl
  have a1 := TA.at 1 rfl
  go_enter Try.func27, Try.ntmps27
  go_wp2_with fail
  try rw [hV]
  refine (KA V BC).mono ?_
  clear KA a0 a1
  rintro en v1 ⟨rfl, hb⟩
  replace TA := TA.lower hb sV
  replace BC := BC.trans (hb.mono BC.size)
  clear hb sV hV
  cases ox with
  | false =>
    have HZ : Hid (z = ByteArray.empty) := by show _ = _; rw [HE.out]; rfl
    clear HE HO
    go_wp2
    go_ret
    exact ⟨by rw [HZ.out]; rfl, BC⟩
  | true =>
    obtain ⟨⟨o1, o2⟩, o3, o4, o5⟩ := HO.out rfl
    have O3 : Hid (∀ y ∈ xs, 1 ≤ y.size ∧ y.size ≤ 20 ∧ allB y = true) := o3
    have HZ : Hid (z = if m = ByteArray.empty then jo xs xs.length else jo xs xs.length ++ atB ++ escB m) := by show _ = _; rw [HE.out]; rfl
    have HJ : Hid (∀ k, k ≤ xs.length → (jo xs k).size ≤ 41 * k) := fun k hk => jo_size (fun y hy => (o3 y hy).2.1) k hk
    have hem := escB_size m
    clear HE HO o3
    go_wp2
    go_loopw [3, 4] (fun s i wr => ∃ k : Nat, k ≤ xs.length ∧ i = .int .i64 k ∧ s = .string (jo xs k) ∧ Below v1.heap.size v1 wr) (fun _ i _ => xs.length - (intOf i).toNat)
    case atStart => exact ⟨0, Nat.zero_le _, rfl, rfl, Below.refl _ _⟩
    case round =>
      obtain ⟨k, hk, rfl, rfl, hb⟩ := hrel
      have UA := TA.lower hb TA.lt
      have BW := BC.trans (hb.mono BC.size)
      have a0 := UA.at 0 rfl
      have a1 := UA.at 1 rfl
      have hja := HJ.out k hk
      by_cases hlt : k < xs.length
      · have p1 : (k : Int) < (xs.length : Int) := by omega
        obtain ⟨b1, f1, rfl, l1, c1⟩ := rx k hlt
        rw [← BW.cell (p := ⟨b1, f1 + k, none⟩) l1] at c1
        have hy := O3.out xs[k] (List.getElem_mem hlt)
        have hys := escB_size xs[k]
        have H1 : Hid (k = 0 → jo xs k ++ escB xs[k] = jo xs (k + 1)) := fun h => by subst h; rw [jo_first hlt]; exact ByteArray.empty_append ..
        have H2 : Hid (k ≠ 0 → jo xs k ++ slash ++ escB xs[k] = jo xs (k + 1)) := fun h => (jo_next hlt h).symm
        have K := fun w' => esc_is xs[k] w' (by omega)
        generalize xs[k] = y at *
        generalize jo xs k = aa at *
        obtain ⟨an, han⟩ : ∃ an, jo xs (k + 1) = an := ⟨_, rfl⟩
        rw [han] at H1 H2
        have HAN : Hid (jo xs (k + 1) = an) := han
        clear han
        generalize escB y = ey at *
        clear HJ HZ O3
        have hsm : aa.size + ey.size ≤ 9223372036854775807 := by omega
        by_cases h0 : k = 0
        · have HN : Hid (aa ++ ey = an) := H1.out h0
          have p2 : ¬ (k : Int) > 0 := by omega
          clear H1 H2 h0
          go_wp2_with fail
          refine (K _).mono ?_
          clear K
          rintro en v2 ⟨rfl, hb2⟩
          replace hb := hb.trans (hb2.mono hb.size)
          clear hb2
          go_wp2
          go_roundw
          case rel => exact ⟨k + 1, by omega, by go_num, by rw [HN.out, HAN.out], hb⟩
          case measure => simp [intOf]; omega
        · have HN : Hid (aa ++ slash ++ ey = an) := H2.out h0
          have p2 : (k : Int) > 0 := by omega
          have hs1 : slash.size = 1 := rfl
          have hsn : aa.size + slash.size ≤ 9223372036854775807 := by omega
          have hso : (aa ++ slash).size + ey.size ≤ 9223372036854775807 := by rw [ByteArray.size_append]; omega
          clear H1 H2 h0 hs1
          go_wp2_with fail
          refine (K _).mono ?_
          clear K
          rintro en v2 ⟨rfl, hb2⟩
          replace hb := hb.trans (hb2.mono hb.size)
          clear hb2
          go_wp2
          go_roundw
          case rel => exact ⟨k + 1, by omega, by go_num, by rw [HN.out, HAN.out], hb⟩
          case measure => simp [intOf]; omega
      · obtain rfl : k = xs.length := by omega
        have p1 : ¬ (xs.length : Int) < (xs.length : Int) := by omega
        have HA : Hid (jo xs xs.length = jo xs xs.length) := (rfl : jo xs xs.length = _)
        generalize hjj : jo xs xs.length = aa at hja
        have HA : Hid (jo xs xs.length = aa) := hjj
        try rw [hjj]
        clear HJ O3 rx hjj
        by_cases hm : m = ByteArray.empty
        · have HW : Hid (z = aa) := by show _ = _; rw [HZ.out, if_pos hm, HA.out]
          subst hm
          clear HZ HA
          go_wp2
          go_ret
          exact ⟨by rw [HW.out]; rfl, BW⟩
        · have hm2 : m.toList.isEmpty = false := toL_some (fun h => hm (toL_nil h))
          have HW : Hid (z = aa ++ atB ++ escB m) := by show _ = _; rw [HZ.out, if_neg hm, HA.out]
          clear HZ hm HA
          have K := fun w' => esc_is m w' (by omega)
          have s1 : aa.size + atB.size ≤ 9223372036854775807 := by have : atB.size = 1 := rfl; omega
          have s2 : (aa ++ atB).size + (escB m).size ≤ 9223372036854775807 := by rw [ByteArray.size_append]; have : atB.size = 1 := rfl; omega
          have s3 : atB.size + (escB m).size ≤ 9223372036854775807 := by have : atB.size = 1 := rfl; omega
          have s4 : aa.size + (atB ++ escB m).size ≤ 9223372036854775807 := by rw [ByteArray.size_append]; have : atB.size = 1 := rfl; omega
          have HX : Hid (aa ++ (atB ++ escB m) = aa ++ atB ++ escB m) := (ByteArray.append_assoc ..).symm
          generalize escB m = em at *
          go_wp2_with fail
          refine (K _).mono ?_
          clear K
          rintro en v9 ⟨rfl, hb9⟩
          replace BW := BW.trans (hb9.mono BW.size)
          go_wp2
          go_ret
          exact ⟨by rw [HW.out]; rfl, BW⟩
end Go.Proofs.Ytbpodcfbijhboaa.Nd
