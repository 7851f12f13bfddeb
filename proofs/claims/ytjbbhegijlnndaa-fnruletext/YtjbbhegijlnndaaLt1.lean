/- The law on rules and their text. -/
import Derived.Test.YtjbbhegijlnndaaDs2
import Derived.Test.YtjbbhegijlnndaaSx0
import Derived.Test.YtjbbhegijlnndaaVs2
set_option linter.unusedVariables false
set_option maxRecDepth 100000
namespace Go.Proofs.Ytjbbhegijlnndaa.Nd
open Go Go.RowKit Go.Joins Own Draw Go.Proofs.Ytjbbhegijlnndaa

theorem big_go (a : Option Addr) (len cap : Nat) (W : World) (h : len ≤ 1048576) :
    Calls Try.prog 12 #[.slice a len cap] W fun e w' => e = .returned (.bool false) ∧ W = w' := by
  have hd : decide ((1048576 : Int) < (len : Int)) = false := by simp; omega
  go_enter Try.func12, Try.ntmps12
  go_wp2
  go_ret
  exact ⟨rfl, rfl⟩
theorem big_yes (a : Option Addr) (len cap : Nat) (W : World) (h : 1048576 < len) (h2 : len ≤ maxLen) :
    Calls Try.prog 12 #[.slice a len cap] W fun e w' => e = .returned (.bool true) ∧ W = w' := by
  unfold maxLen at h2
  have hd : decide ((1048576 : Int) < (len : Int)) = true := by simp; omega
  go_enter Try.func12, Try.ntmps12
  go_wp2
  go_ret
  exact ⟨rfl, rfl⟩
theorem rd_none : rdI ⟨#[]⟩ = ([], false) := by decide +kernel
theorem rd_rt {s : ByteArray} {q : Rw TT} (h : rsT q = (rdI s).1) (h2 : (rdI s).2 = true) : rtT q ≤ 1048576 := by
  have hc := okL_mem (rdI_sound h2).1
  rw [← h] at hc
  have hl : q.2.2.length ≤ 20 := by have := hc.1; simpa [rsT] using this
  have hs := sumT_le (c := 31) q.2.2 (fun x hx => ri_len (okP_set (hc.2 _ (List.mem_map_of_mem hx))))
  unfold rtT
  omega
set_option maxHeartbeats 6400000 in
theorem law_text (ad : Option Addr) (len cap : Nat) (zs : List Int) (W : World) (hl : len ≤ 1048576) (hz : CodeAt W W.heap.size ad len zs) :
    Calls Try.prog 4 #[.slice ad len cap] W fun e w' => e = .returned (.bool true) ∧ Below W.heap.size W w' := by
  have HZ : Hid (CodeAt W W.heap.size ad len zs) := hz
  go_enter Try.func4, Try.ntmps4
  go_wp2_with fail
  refine (big_go ad len cap W hl).mono ?_
  rintro e w0 ⟨rfl, rfl⟩
  have KD := drawShow_is ad len cap zs W hz
  go_wp2_with fail
  refine KD.mono ?_
  clear KD hz
  rintro e w1 ⟨q, rfl, sm, B1⟩
  have hrt := sm.rt (by omega)
  have hts := sm.show
  have p1 := rt_parts hrt
  have HR : Hid (∀ w, Below w1.heap.size w1 w → RpT w q) := fun w b => RpT.later sm.ro.dp b
  have K := implShow_is q w1 sm.ro.dp hrt
  clear sm
  obtain ⟨a, ca, xs⟩ := q
  dsimp only at K p1 ⊢
  have HT : Hid (showP (rsT (a, ca, xs)) = if okL (rsT (a, ca, xs)) = true then showP (rsT (a, ca, xs)) else ⟨#[]⟩) := by
    show _ = _
    unfold showP
    split <;> simp_all
  go_wp2_with fail
  refine K.mono ?_
  clear K
  rintro e w2 ⟨rfl, D2⟩
  have B2 := B1.trans (D2.mono B1.size)
  have K := implRead_is (showP (rsT (a, ca, xs))) w2 (by omega)
  go_wp2_with fail
  refine K.mono ?_
  clear K
  rintro e w3 ⟨⟨⟨ya, yc, ys⟩, rfl, hy, ry, ay⟩, b3⟩
  have B3 := B2.trans (b3.mono B2.size)
  have D3 := D2.trans (b3.mono D2.size)
  have HY : Hid (∀ w, Below w3.heap.size w3 w → RpT w (ya, yc, ys)) := fun w b => RpT.later ry.dp b
  clear b3 B2 D2 ry ay
  dsimp only
  have K := drawRead_is ad len cap zs w3 ((HZ.out.below B3).lt B3.size)
  go_wp2_with fail
  refine K.mono ?_
  clear K
  rintro e w4 ⟨t, rfl, ht, b4⟩
  have B4 := B3.trans (b4.mono B3.size)
  have D4 := D3.trans (b4.mono D3.size)
  have E4 : Below w3.heap.size w3 w4 := b4
  clear b4 B3 D3
  have K := implRead_is t w4 (by omega)
  go_wp2_with fail
  refine K.mono ?_
  clear K
  rintro e w5 ⟨⟨⟨za, zc, zz⟩, rfl, hzz, rz, az⟩, b5⟩
  have B5 := B4.trans (b5.mono B4.size)
  have D5 := D4.trans (b5.mono D4.size)
  have E5 := E4.trans (b5.mono E4.size)
  have HZZ : Hid (∀ w, Below w5.heap.size w5 w → RpT w (za, zc, zz)) := fun w b => RpT.later rz.dp b
  clear b5 B4 D4 E4 rz az
  have K := specRead_is t w5 (by omega)
  rw [← rd_same] at K
  go_wp2_with fail
  refine K.mono ?_
  clear K
  rintro e w6 ⟨⟨⟨ua, uc, us⟩, rfl, hus, ru⟩, b6⟩
  have B6 := B5.trans (b6.mono B5.size)
  have D6 := D5.trans (b6.mono D5.size)
  have E6 := E5.trans (b6.mono E5.size)
  have F6 : Below w5.heap.size w5 w6 := b6
  clear b6 B5 D5 E5 ru hus
  dsimp only
  have K := specRulesOk_is (a, ca, xs) w6 (HR.out _ D6) p1.2 p1.1
  dsimp only at K
  have HK1 : Hid ((rdI (showP (rsT (a, ca, xs)))).2 = okL (rsT (a, ca, xs))) := by
    show _ = _
    by_cases c : okL (rsT (a, ca, xs)) = true
    · rw [rdI_made c, c]
    · rw [HT.out, if_neg c, rd_none]; simpa using c
  have HK2 : Hid (okL (rsT (a, ca, xs)) = true → rsT (ya, yc, ys) = rsT (a, ca, xs)) := fun c => by rw [hy, rdI_made c]
  have HK3 : Hid ((rdI t).2 = true → rtT (za, zc, zz) ≤ 1048576 ∧ showP (rsT (za, zc, zz)) = t) := fun c => ⟨rd_rt hzz c, by rw [hzz]; exact (rdI_sound c).2⟩
  clear hy hzz
  rw [HK1.out]
  cases hc : okL (rsT (a, ca, xs)) with
  | true =>
    rw [hc] at K
    go_wp2_with fail
    refine K.mono ?_
    clear K
    rintro e w7 ⟨rfl, b7⟩
    have B7 := B6.trans (b7.mono B6.size)
    have D7 := D6.trans (b7.mono D6.size)
    have E7 := E6.trans (b7.mono E6.size)
    have F7 := F6.trans (b7.mono F6.size)
    clear b7 B6 D6 E6 F6
    have hyx := HK2.out hc
    have hyl : ys.length = xs.length := by have := congrArg List.length hyx; simpa [rsT] using this
    have hry : rtT (ya, yc, ys) ≤ 1048576 := by
      have e : ys.map totT = xs.map totT := by
        have e1 : List.map (fun p : PT => p.2.1.length) (ys.map stT) = List.map (fun p : PT => p.2.1.length) (xs.map stT) := congrArg (List.map (fun p : PT => p.2.1.length)) hyx
        rw [List.map_map, List.map_map] at e1
        exact e1
      show ys.length + (ys.map totT).sum ≤ _
      rw [hyl, e]; exact hrt
    clear HK1 HK2 HT hc
    have K := specShow_is (ya, yc, ys) w7 (HY.out _ E7) hry
    rw [hyx] at K
    dsimp only at K
    rw [hyl] at K
    try rw [hyl]
    clear HY E7 hry hyx
    go_wp2_with fail
    refine K.mono ?_
    clear K
    rintro e w8 ⟨rfl, b8⟩
    have B8 := B7.trans (b8.mono B7.size)
    have D8 := D7.trans (b8.mono D7.size)
    have F8 := F7.trans (b8.mono F7.size)
    clear b8 B7 D7 F7
    have K := specShow_is (a, ca, xs) w8 (HR.out _ D8) hrt
    dsimp only at K
    generalize showP (rsT (a, ca, xs)) = tx at *
    go_wp2_with fail
    refine K.mono ?_
    clear K
    rintro e w10 ⟨rfl, b10⟩
    have B10 := B8.trans (b10.mono B8.size)
    have F10 := F8.trans (b10.mono F8.size)
    clear b10 B8 D8 F8 HR hrt p1 hts
    cases hd : (rdI t).2 with
    | true =>
      obtain ⟨hr9, hs9⟩ := HK3.out hd
      clear HK3 hd
      have K := implShow_is (za, zc, zz) w10 (HZZ.out _ F10) hr9
      rw [hs9] at K
      dsimp only at K
      clear hs9 hr9 HZZ F10
      go_wp2_with fail
      refine K.mono ?_
      clear K
      rintro e w9 ⟨rfl, b9⟩
      have B9 := B10.trans (b9.mono B10.size)
      clear b9 B10
      go_wp2
      go_ret
      exact ⟨rfl, B9⟩
    | false =>
      clear HK3 hd HZZ F10
      go_wp2
      go_ret
      exact ⟨rfl, B10⟩
  | false =>
    rw [hc] at K
    clear HK1 HK2 HT hc
    go_wp2_with fail
    refine K.mono ?_
    clear K
    rintro e w7 ⟨rfl, b7⟩
    have B7 := B6.trans (b7.mono B6.size)
    have F7 := F6.trans (b7.mono F6.size)
    clear b7 B6 D6 E6 F6 HR hrt p1 hts HY
    cases hd : (rdI t).2 with
    | true =>
      obtain ⟨hr9, hs9⟩ := HK3.out hd
      clear HK3 hd
      have K := implShow_is (za, zc, zz) w7 (HZZ.out _ F7) hr9
      rw [hs9] at K
      dsimp only at K
      clear hs9 hr9 HZZ F7
      go_wp2_with fail
      refine K.mono ?_
      clear K
      rintro e w9 ⟨rfl, b9⟩
      have B9 := B7.trans (b9.mono B7.size)
      clear b9 B7
      go_wp2
      go_ret
      exact ⟨rfl, B9⟩
    | false =>
      clear HK3 hd HZZ F7
      go_wp2
      go_ret
      exact ⟨rfl, B7⟩
end Go.Proofs.Ytjbbhegijlnndaa.Nd
