/- The law on messages and their texts. -/
import Derived.Test.YtengggpobhibcaaDoorDr0
import Derived.Test.YtengggpobhibcaaDoorRd4
import Derived.Test.YtengggpobhibcaaDoorTd4
set_option linter.unusedVariables false
set_option maxRecDepth 100000
namespace Go.Proofs.YtengggpobhibcaaDoor.Nd
open Go Go.RowKit Go.Joins Own Draw Var

theorem big_go (a : Option Addr) (len cap : Nat) (W : World) (h : len ≤ 1048576) :
    Calls Tryd.prog 4 #[.slice a len cap] W fun e w' => e = .returned (.bool false) ∧ W = w' := by
  have hd : decide ((1048576 : Int) < (len : Int)) = false := by simp; omega
  go_enter Tryd.func4, Tryd.ntmps4
  go_wp2
  go_ret
  exact ⟨rfl, rfl⟩
theorem big_yes (a : Option Addr) (len cap : Nat) (W : World) (h : 1048576 < len) (h2 : len ≤ maxLen) :
    Calls Tryd.prog 4 #[.slice a len cap] W fun e w' => e = .returned (.bool true) ∧ W = w' := by
  unfold maxLen at h2
  have hd : decide ((1048576 : Int) < (len : Int)) = true := by simp; omega
  go_enter Tryd.func4, Tryd.ntmps4
  go_wp2
  go_ret
  exact ⟨rfl, rfl⟩
theorem text_no (s : ByteArray) (h : 1 ≤ s.size) : (s.toList == []) = false := by
  rw [Bool.eq_false_iff]; intro hh; simp at hh
  rw [ByteArray.toList_eq] at hh
  have h1 := congrArg List.length hh
  have h2 : s.data.toList.length = s.size := rfl
  simp only [List.length_nil] at h1
  omega
theorem read_rt {s : ByteArray} {q : Rw TT} (h : rsT q = (rdT s).1) : rtT q ≤ 1048576 :=
  (rt_small (q := q) (by rw [h]; exact (rd_small s).1) (by rw [h]; exact (rd_small s).2)).1
set_option maxHeartbeats 6400000 in
theorem law_tlv (ad : Option Addr) (len cap : Nat) (zs : List Int) (W : World) (hl : len ≤ 1048576) (hz : CodeAt W W.heap.size ad len zs) (hg : W.cell? ⟨0, 0, none⟩ = some HdV) :
    Calls Tryd.prog 3 #[.slice ad len cap] W fun e w' => e = .returned (.bool true) ∧ Below W.heap.size W w' := by
  have h0 : 0 < W.heap.size := by
    rcases Nat.eq_zero_or_pos W.heap.size with h | h
    · simp [World.cell?, h] at hg
    · exact h
  have HZ : Hid (CodeAt W W.heap.size ad len zs) := hz
  have HG : Hid (∀ w, Below W.heap.size W w → w.cell? ⟨0, 0, none⟩ = some HdV) := fun w b => (b.cell (p := ⟨0, 0, none⟩) h0).trans hg
  clear hg h0
  go_enter Tryd.func3, Tryd.ntmps3
  go_wp2_with fail
  refine (big_go ad len cap W hl).mono ?_
  rintro e w0 ⟨rfl, rfl⟩
  have KD := draw_ok ad len cap zs W hz
  go_wp2_with fail
  refine KD.mono ?_
  clear KD hz
  rintro e w1 ⟨⟨a, ca, xs⟩, rfl, hr1, bd, B1⟩
  have hrt := bd_rt bd
  have hxl : xs.length ≤ 200 := bd.1
  clear bd
  have HR : Hid (∀ w, Below w1.heap.size w1 w → RpT w (a, ca, xs)) := fun w b => RpT.later hr1 b
  have K := implShow_is a ca xs w1 hr1 hrt
  clear hr1
  dsimp only [slT]
  go_wp2_with fail
  refine K.mono ?_
  clear K
  rintro e w2 ⟨rfl, D2⟩
  have B2 := B1.trans (D2.mono B1.size)
  cases ho : shM (xs.map stT) with
  | none =>
    have HM : Hid (shM (xs.map stT) = none) := ho
    clear ho
    simp only [shB]
    obtain ⟨c0, hc0⟩ : ∃ c, (rdT ⟨#[]⟩).2 = c := ⟨_, rfl⟩
    have K := implRead_is ⟨#[]⟩ w2 (HG.out _ B2)
    rw [hc0] at K
    go_wp2_with fail
    refine K.mono ?_
    clear K
    rintro e w3 ⟨⟨xa, xc, ys⟩, rfl, hq, ro, ap, b3⟩
    have B3 := B2.trans (b3.mono B2.size)
    have D3 := D2.trans (b3.mono D2.size)
    clear hq ro ap hc0 b3 B2 D2
    dsimp only
    have K := specOk_is a ca xs w3 (HR.out _ D3) hrt
    rw [HM.out] at K
    simp only [Option.isSome_none] at K
    go_wp2_with fail
    refine K.mono ?_
    clear K
    rintro e v4 ⟨rfl, b4⟩
    have BV4 := B3.trans (b4.mono B3.size)
    have DV4 := D3.trans (b4.mono D3.size)
    clear b4 B3 D3
    have K := specShow_is a ca xs v4 (HR.out _ DV4) hrt
    rw [HM.out] at K
    simp only [shB] at K
    go_wp2_with fail
    refine K.mono ?_
    clear K
    rintro e v5 ⟨rfl, b5⟩
    have BV5 := BV4.trans (b5.mono BV4.size)
    have DV5 := DV4.trans (b5.mono DV4.size)
    clear b5 BV4 DV4
    have K := implOk_is a ca xs v5 (HR.out _ DV5) hrt
    rw [HM.out] at K
    simp only [Option.isSome_none] at K
    go_wp2_with fail
    refine K.mono ?_
    clear K
    rintro e v6 ⟨rfl, b6⟩
    have BV6 := BV5.trans (b6.mono BV5.size)
    have DV6 := DV5.trans (b6.mono DV5.size)
    clear b6 BV5 DV5
    have K := specOk_is a ca xs v6 (HR.out _ DV6) hrt
    rw [HM.out] at K
    simp only [Option.isSome_none] at K
    go_wp2_with fail
    refine K.mono ?_
    clear K
    rintro e v7 ⟨rfl, b7⟩
    have BV7 := BV6.trans (b7.mono BV6.size)
    have DV7 := DV6.trans (b7.mono DV6.size)
    clear b7 BV6 DV6
    clear DV7 HM HR
    have K := draw_rd ad len cap zs v7 ((HZ.out.below BV7).lt BV7.size)
    go_wp2_with fail
    refine K.mono ?_
    clear K
    rintro e u1 ⟨t, rfl, c1⟩
    have E1 := BV7.trans (c1.mono BV7.size)
    clear c1 BV7
    obtain ⟨cd, hcd⟩ : ∃ c, (rdT t).2 = c := ⟨_, rfl⟩
    have K := implRead_is t u1 (HG.out _ E1)
    rw [hcd] at K
    go_wp2_with fail
    refine K.mono ?_
    clear K
    rintro e u2 ⟨⟨ya, yc, ys2⟩, rfl, hy, ro2, ap2, c2⟩
    have E2 := E1.trans (c2.mono E1.size)
    clear c2 E1 ap2
    have K := specRead_is t u2
    rw [hcd] at K
    go_wp2_with fail
    refine K.mono ?_
    clear K
    rintro e u3 ⟨⟨za, zc, zs3⟩, rfl, hz3, ro3, ap3, c3⟩
    have E3 := E2.trans (c3.mono E2.size)
    clear E2 ap3 ro3 hz3
    dsimp only
    by_cases hc0 : cd = 0
    · subst hc0
      have hsh : shM (rdT t).1 = some t := read_shows (Prod.ext rfl hcd)
      have K := implShow_is ya yc ys2 u3 (RpT.later ro2.dp c3) (read_rt hy)
      rw [show ys2.map stT = (rdT t).1 from hy, hsh] at K
      simp only [shB] at K
      clear hsh hcd hy ro2 c3
      go_wp2_with fail
      refine K.mono ?_
      clear K
      rintro e u4 ⟨rfl, c4⟩
      have E4 := E3.trans (c4.mono E3.size)
      clear c4 E3
      go_wp2
      go_ret
      exact ⟨rfl, E4⟩
    · have hcb : (cd == 0) = false := beq_eq_false_iff_ne.2 hc0
      have hy0 : ys2.length = 0 := by
        have e := rd_no t (by rw [hcd]; exact hc0)
        rw [e] at hy
        have := congrArg List.length hy
        simpa [rsT] using this
      clear hy ro2 hcd c3
      go_wp2
      go_ret
      exact ⟨rfl, E3⟩
  | some T =>
    have hrd := shows_read ho
    have hroot := root_of (s := T) (by rw [hrd])
    have HSH : Hid ((rdT (T.extract 0 (T.size - 1))).2 ≠ 0) := cut_short (by rw [hrd])
    have HLO : Hid ((rdT (T ++ ⟨#[120]⟩)).2 ≠ 0) := made_long (by rw [hrd])
    have HM : Hid (shM (xs.map stT) = some T) := ho
    clear ho
    simp only [shB]
    have hT9 : T.size ≤ 900 := hroot.1
    have hT1 : 2 ≤ T.size := by omega
    have hne := text_no T (by omega)
    clear hroot
    have K := implRead_is T w2 (HG.out _ B2)
    rw [hrd] at K
    go_wp2_with fail
    refine K.mono ?_
    clear K
    rintro e w3 ⟨⟨xa, xc, ys⟩, rfl, hq, ro, ap, b3⟩
    have B3 := B2.trans (b3.mono B2.size)
    have D3 := D2.trans (b3.mono D2.size)
    have hyl : ys.length = xs.length := by have := congrArg List.length hq; simpa [rsT] using this
    have HR2 : Hid (∀ w, Below w3.heap.size w3 w → RpT w (xa, xc, ys)) := fun w b => RpT.later ro.dp b
    have hrt2 : rtT (xa, xc, ys) ≤ 1048576 := read_rt (s := T) (by rw [hq, hrd])
    have HQ : Hid (ys.map stT = xs.map stT) := hq
    have F3 : Below w3.heap.size w3 w3 := Below.refl _ _
    clear hq ro ap b3 B2 D2 hrd
    dsimp only
    have K := specOk_is a ca xs w3 (HR.out _ D3) hrt
    rw [HM.out] at K
    simp only [Option.isSome_some] at K
    go_wp2_with fail
    refine K.mono ?_
    clear K
    rintro e v4 ⟨rfl, b4⟩
    have BV4 := B3.trans (b4.mono B3.size)
    have DV4 := D3.trans (b4.mono D3.size)
    have FV4 := F3.trans (b4.mono F3.size)
    clear b4 B3 D3 F3
    have K := specShow_is a ca xs v4 (HR.out _ DV4) hrt
    rw [HM.out] at K
    simp only [shB] at K
    go_wp2_with fail
    refine K.mono ?_
    clear K
    rintro e v5 ⟨rfl, b5⟩
    have BV5 := BV4.trans (b5.mono BV4.size)
    have DV5 := DV4.trans (b5.mono DV4.size)
    have FV5 := FV4.trans (b5.mono FV4.size)
    clear b5 BV4 DV4 FV4
    have K := implOk_is a ca xs v5 (HR.out _ DV5) hrt
    rw [HM.out] at K
    simp only [Option.isSome_some] at K
    go_wp2_with fail
    refine K.mono ?_
    clear K
    rintro e v6 ⟨rfl, b6⟩
    have BV6 := BV5.trans (b6.mono BV5.size)
    have DV6 := DV5.trans (b6.mono DV5.size)
    have FV6 := FV5.trans (b6.mono FV5.size)
    clear b6 BV5 DV5 FV5
    have K := specOk_is a ca xs v6 (HR.out _ DV6) hrt
    rw [HM.out] at K
    simp only [Option.isSome_some] at K
    go_wp2_with fail
    refine K.mono ?_
    clear K
    rintro e v7 ⟨rfl, b7⟩
    have BV7 := BV6.trans (b7.mono BV6.size)
    have DV7 := DV6.trans (b7.mono DV6.size)
    have FV7 := FV6.trans (b7.mono FV6.size)
    clear b7 BV6 DV6 FV6
    clear DV7 HR
    obtain ⟨n, hn⟩ : ∃ n, T.size = n + 1 := ⟨T.size - 1, by omega⟩
    have hni : (T.size : Int) - 1 = (n : Int) := by omega
    have hnl : n ≤ T.size := by omega
    rw [hn, Nat.add_sub_cancel] at HSH
    clear hn
    obtain ⟨cs, hcs⟩ : ∃ c, (rdT (T.extract 0 n)).2 = c := ⟨_, rfl⟩
    have K := implRead_is (T.extract 0 n) v7 (HG.out _ BV7)
    rw [hcs] at K HSH
    have hcsb : (cs == 0) = false := beq_eq_false_iff_ne.2 HSH.out
    go_wp2_with fail
    refine K.mono ?_
    clear K
    rintro e w8 ⟨⟨sa, sc, ss⟩, rfl, hs1, ro8, ap8, b8⟩
    have B8 := BV7.trans (b8.mono BV7.size)
    have F8 := FV7.trans (b8.mono FV7.size)
    clear b8 BV7 FV7 hs1 ro8 ap8 HSH hcs
    have hcat : (T ++ (⟨#[120]⟩ : ByteArray)).size ≤ 2000 := by rw [ByteArray.size_append]; show T.size + 1 ≤ 2000; omega
    obtain ⟨cl, hcl⟩ : ∃ c, (rdT (T ++ ⟨#[120]⟩)).2 = c := ⟨_, rfl⟩
    have K := implRead_is (T ++ ⟨#[120]⟩) w8 (HG.out _ B8)
    rw [hcl] at K HLO
    have hclb : (cl == 0) = false := beq_eq_false_iff_ne.2 HLO.out
    go_wp2_with fail
    refine K.mono ?_
    clear K
    rintro e w9 ⟨⟨la, lc, ls⟩, rfl, hl1, ro9, ap9, b9⟩
    have B9 := B8.trans (b9.mono B8.size)
    have F9 := F8.trans (b9.mono F8.size)
    clear b9 B8 F8 hl1 ro9 ap9 HLO hcl
    dsimp only
    have K := implShow_is xa xc ys w9 (HR2.out _ F9) hrt2
    rw [HQ.out, HM.out] at K
    simp only [shB] at K
    rw [hyl] at K
    try rw [hyl]
    clear hyl hrt2 HQ HM HR2 F9
    go_wp2_with fail
    refine K.mono ?_
    clear K
    rintro e w10 ⟨rfl, b10⟩
    have B10 := B9.trans (b10.mono B9.size)
    clear b10 B9
    have K := draw_rd ad len cap zs w10 ((HZ.out.below B10).lt B10.size)
    go_wp2_with fail
    refine K.mono ?_
    clear K
    rintro e u1 ⟨t, rfl, c1⟩
    have E1 := B10.trans (c1.mono B10.size)
    clear c1 B10
    obtain ⟨cd, hcd⟩ : ∃ c, (rdT t).2 = c := ⟨_, rfl⟩
    have K := implRead_is t u1 (HG.out _ E1)
    rw [hcd] at K
    go_wp2_with fail
    refine K.mono ?_
    clear K
    rintro e u2 ⟨⟨ya, yc, ys2⟩, rfl, hy, ro2, ap2, c2⟩
    have E2 := E1.trans (c2.mono E1.size)
    clear c2 E1 ap2
    have K := specRead_is t u2
    rw [hcd] at K
    go_wp2_with fail
    refine K.mono ?_
    clear K
    rintro e u3 ⟨⟨za, zc, zs3⟩, rfl, hz3, ro3, ap3, c3⟩
    have E3 := E2.trans (c3.mono E2.size)
    clear E2 ap3 ro3 hz3
    dsimp only
    by_cases hc0 : cd = 0
    · subst hc0
      have hsh : shM (rdT t).1 = some t := read_shows (Prod.ext rfl hcd)
      have K := implShow_is ya yc ys2 u3 (RpT.later ro2.dp c3) (read_rt hy)
      rw [show ys2.map stT = (rdT t).1 from hy, hsh] at K
      simp only [shB] at K
      clear hsh hcd hy ro2 c3
      go_wp2_with fail
      refine K.mono ?_
      clear K
      rintro e u4 ⟨rfl, c4⟩
      have E4 := E3.trans (c4.mono E3.size)
      clear c4 E3
      go_wp2
      go_ret
      exact ⟨rfl, E4⟩
    · have hcb : (cd == 0) = false := beq_eq_false_iff_ne.2 hc0
      have hy0 : ys2.length = 0 := by
        have e := rd_no t (by rw [hcd]; exact hc0)
        rw [e] at hy
        have := congrArg List.length hy
        simpa [rsT] using this
      clear hy ro2 hcd c3
      go_wp2
      go_ret
      exact ⟨rfl, E3⟩
end Go.Proofs.YtengggpobhibcaaDoor.Nd
