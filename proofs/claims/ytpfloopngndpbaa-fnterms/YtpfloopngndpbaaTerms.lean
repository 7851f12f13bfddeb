/- The law on terms: the walk. -/
import Derived.Test.YtpfloopngndpbaaDrawList
import Derived.Test.YtpfloopngndpbaaOneKind
import Derived.Test.YtpfloopngndpbaaMarksI
set_option linter.unusedVariables false
namespace Go.Proofs.Ytpfloopngndpbaa
open Go.RowKit Own Var Term

set_option maxRecDepth 100000 in
set_option maxHeartbeats 800000 in
theorem sameT_is (a b : Option Addr) (ca cb : Nat) (xs : List ByteArray) (w : World) (ha : RowAt Value.string w a xs) (hb : RowAt Value.string w b xs) (hl : xs.length ≤ 1048576) :
    Calls Try.prog 28 #[.slice a xs.length ca, .slice b xs.length cb] w fun e w' => e = .returned (.bool true) ∧ Below w.heap.size w w' := by
  go_enter Try.func28, Try.ntmps28
  go_wp2
  go_loopw [5] (fun i wr => ∃ k : Nat, k ≤ xs.length ∧ i = .int .i64 k ∧ Below w.heap.size w wr) (fun i _ => xs.length - (intOf i).toNat)
  case atStart => exact ⟨0, by omega, rfl, Below.refl _ _⟩
  case round =>
    obtain ⟨k, hk, rfl, hbel⟩ := hrel
    by_cases hlt : k < xs.length
    · obtain ⟨b1, o1, rfl, l1, hc1⟩ := ha k hlt
      obtain ⟨b2, o2, rfl, l2, hc2⟩ := hb k hlt
      rw [← hbel.cell (p := ⟨b1, o1 + k, none⟩) l1] at hc1
      rw [← hbel.cell (p := ⟨b2, o2 + k, none⟩) l2] at hc2
      generalize xs[k] = x at hc1 hc2
      go_wp2
      go_region
      all_goals
        go_wp2
        go_roundw
        case rel => exact ⟨k + 1, by omega, by go_num, hbel.drew⟩
        case measure => simp [intOf]; omega
    · go_wp2
      go_ret
      exact ⟨rfl, hbel⟩

set_option maxRecDepth 100000 in
set_option maxHeartbeats 800000 in
theorem sameI_is (a b : Option Addr) (ca cb : Nat) (xs : List Int) (w : World) (ha : RowAt (Value.int .i64) w a xs) (hb : RowAt (Value.int .i64) w b xs) (hl : xs.length ≤ 1048576) :
    Calls Try.prog 36 #[.slice a xs.length ca, .slice b xs.length cb] w fun e w' => e = .returned (.bool true) ∧ Below w.heap.size w w' := by
  go_enter Try.func36, Try.ntmps36
  go_wp2
  go_loopw [5] (fun i wr => ∃ k : Nat, k ≤ xs.length ∧ i = .int .i64 k ∧ Below w.heap.size w wr) (fun i _ => xs.length - (intOf i).toNat)
  case atStart => exact ⟨0, by omega, rfl, Below.refl _ _⟩
  case round =>
    obtain ⟨k, hk, rfl, hbel⟩ := hrel
    by_cases hlt : k < xs.length
    · obtain ⟨b1, o1, rfl, l1, hc1⟩ := ha k hlt
      obtain ⟨b2, o2, rfl, l2, hc2⟩ := hb k hlt
      rw [← hbel.cell (p := ⟨b1, o1 + k, none⟩) l1] at hc1
      rw [← hbel.cell (p := ⟨b2, o2 + k, none⟩) l2] at hc2
      generalize xs[k] = x at hc1 hc2
      go_wp2
      go_region
      all_goals
        go_wp2
        go_roundw
        case rel => exact ⟨k + 1, by omega, by go_num, hbel.drew⟩
        case measure => simp [intOf]; omega
    · go_wp2
      go_ret
      exact ⟨rfl, hbel⟩

theorem code_later {W w : World} {a : Option Addr} {len : Nat} {zs : List Int} (h : Draw.CodeAt W W.heap.size a len zs) (hb : Below W.heap.size W w) : Draw.CodeAt w w.heap.size a len zs := (h.below hb).lt hb.size
theorem numsT_small (zs : List Int) : (numsT zs).size ≤ 900 := Draw.listT_small _
theorem atomT_small (d : ByteArray) : (atomT d).size ≤ 900 := Draw.okOr_small _

set_option maxRecDepth 100000 in
set_option maxHeartbeats 6400000 in
theorem terms_at (a : Option Addr) (len cap : Nat) (zs : List Int) (W : World) (hl : len ≤ 1048576) (hz : Draw.CodeAt W W.heap.size a len zs) :
    Calls Try.prog 3 #[.slice a len cap] W fun e w' => e = .returned (.bool true) ∧ Below W.heap.size W w' := by
  have HZ : Hid (Draw.CodeAt W W.heap.size a len zs) := hz
  clear hz
  go_enter Try.func3, Try.ntmps3
  go_wp2_with fail
  refine (big_go a len cap W hl).mono ?_
  rintro e w0 ⟨rfl, rfl⟩
  go_wp2_with fail
  refine (Draw.drawSeal a len cap zs W HZ.out).mono ?_
  rintro e w1 ⟨k, t, rfl, k0, k1, ht, hw⟩
  have hI := fun w => impl_seal k t w (by omega)
  have hP := fun w => spec_seal k t w (by omega)
  have hsz := Draw.sealT_small k t
  have tr := seal_trip k t
  generalize sealT k t = SS at hI hP hsz tr
  go_wp2_with fail
  refine (hI _).mono ?_
  rintro e w2 ⟨rfl, hb2⟩
  have hw2 := hw.trans (hb2.mono hw.size)
  clear hw hb2 hI
  go_wp2_with fail
  refine (hP _).mono ?_
  rintro e w3 ⟨rfl, hb3⟩
  have hw := hw2.trans (hb3.mono hw2.size)
  clear hw2 hb3 hP
  by_cases h1 : SS.size = 0
  · have hne1 := nil_size SS h1
    clear tr
    go_wp2_with fail
    refine (Draw.drawList a len cap zs _ (code_later HZ.out hw)).mono ?_
    rintro e y1 ⟨lv, xs, rfl, hxl, hxs, hlo, hby⟩
    have hwy := hw.trans (hby.mono hw.size)
    obtain ⟨la, lc, rfl, hlc, hlr⟩ := own_row hlo
    clear hw hby hlo
    have hs2 : ∀ x ∈ xs, x.size ≤ 1048576 := fun x hx => by have := hxs x hx; omega
    have hLI := fun w h => impl_list la lc xs w h (by omega) hlc hs2
    have hLP := fun w h => spec_list la lc xs w h (by omega) hs2
    have lsm := Draw.listT_small xs
    have hRP := fun w => impl_parts (listT xs) w (by omega)
    rw [list_trip] at hRP
    generalize listT xs = LT at hLI hLP lsm hRP
    clear hs2 hxs
    go_wp2_with fail
    refine (hLI _ hlr).mono ?_
    rintro e y2 ⟨rfl, hb1⟩
    have hw1 := hwy.trans (hb1.mono hwy.size)
    have hlr1 := hlr.later hb1
    clear hwy hb1 hlr hLI
    by_cases h2 : LT.size = 0
    · have hne2 := nil_size LT h2
      simp only [h2, if_true] at hRP
      go_wp2_with fail
      refine (hRP _).mono ?_
      rintro e y3 ⟨mv, rfl, hmo, hb2⟩
      have hw2 := hw1.trans (hb2.mono hw1.size)
      have hlr2 := hlr1.later hb2
      clear hw1 hb2 hlr1 hRP
      go_wp2_with fail
      refine (hLP _ hlr2).mono ?_
      rintro e y4 ⟨rfl, hb3⟩
      have hw3 := hw2.trans (hb3.mono hw2.size)
      have hlr3 := hlr2.later hb3
      have hmo2 := own_later hmo hb3
      clear hw2 hb3 hlr2 hLP hmo
      have hw := hw3
      clear hw3 hmo2 hlr3
      go_wp2_with fail
      refine (Draw.drawAtom a len cap zs _ (code_later HZ.out hw)).mono ?_
      rintro e x1 ⟨d, rfl, hd, hbx⟩
      have hwx := hw.trans (hbx.mono hw.size)
      clear hw hbx
      have hAI := fun w => impl_atom d w (by omega)
      have asm := atomT_small d
      have hRA := fun w => impl_readAtom (atomT d) w (by omega)
      rw [atom_trip d (by omega)] at hRA
      generalize atomT d = AT at hAI asm hRA
      go_wp2_with fail
      refine (hAI _).mono ?_
      rintro e x2 ⟨rfl, hby⟩
      have hwy := hwx.trans (hby.mono hwx.size)
      clear hwx hby hAI
      by_cases h3 : d.size ≤ 40
      · have h3' : (d.size : Int) ≤ 40 := by omega
        simp only [h3, if_true] at hRA
        go_wp2_with fail
        refine (hRA _).mono ?_
        rintro e x3 ⟨rfl, hbz⟩
        have hw := hwy.trans (hbz.mono hwy.size)
        clear hwy hbz hRA asm
        go_wp2_with fail
        refine (Draw.drawNums a len cap zs _ (code_later HZ.out hw)).mono ?_
        rintro e wa ⟨vn, ns, rfl, hnl, hno, hba⟩
        have hwa := hw.trans (hba.mono hw.size)
        obtain ⟨na, nc, rfl, hnc, hnr⟩ := own_row hno
        clear hw hba hno
        have hNI := fun w h => impl_nums na nc ns w h (by omega)
        have hNP := fun w h => spec_nums na nc ns w h (by omega)
        have nsm := numsT_small ns
        have hRN := fun w => impl_readNums (numsT ns) w (by omega)
        rw [nums_trip] at hRN
        generalize numsT ns = NT at hNI hNP nsm hRN
        go_wp2_with fail
        refine (hNI _ hnr).mono ?_
        rintro e wb ⟨rfl, hbb⟩
        have hwb := hwa.trans (hbb.mono hwa.size)
        have hnr2 := hnr.later hbb
        clear hwa hbb hnr hNI
        by_cases h4 : NT.size = 0
        · have hne4 := nil_size NT h4
          simp only [h4, if_true] at hRN
          go_wp2_with fail
          refine (hRN _).mono ?_
          rintro e wc ⟨vw, rfl, hro, hbc⟩
          have hwc := hwb.trans (hbc.mono hwb.size)
          have hnr3 := hnr2.later hbc
          clear hwb hbc hnr2 hRN
          go_wp2_with fail
          refine (hNP _ hnr3).mono ?_
          rintro e wd ⟨rfl, hbd⟩
          have hwd := hwc.trans (hbd.mono hwc.size)
          have hnr4 := hnr3.later hbd
          have hro2 := own_later hro hbd
          clear hwc hbd hnr3 hNP hro
          go_wp2
          go_ret
          exact ⟨rfl, hwd⟩
        · have hne4 := ne_nil NT (by omega)
          simp only [h4, if_false] at hRN
          go_wp2_with fail
          refine (hRN _).mono ?_
          rintro e wc ⟨vw, rfl, hro, hbc⟩
          have hwc := hwb.trans (hbc.mono hwb.size)
          have hnr3 := hnr2.later hbc
          clear hwb hbc hnr2 hRN
          go_wp2_with fail
          refine (hNP _ hnr3).mono ?_
          rintro e wd ⟨rfl, hbd⟩
          have hwd := hwc.trans (hbd.mono hwc.size)
          have hnr4 := hnr3.later hbd
          have hro2 := own_later hro hbd
          clear hwc hbd hnr3 hNP hro
          obtain ⟨ra, rc, rfl, _, hrr⟩ := own_row hro2
          clear hro2
          go_wp2_with fail
          refine (sameI_is ra na rc nc ns _ hrr hnr4 (by omega)).mono ?_
          rintro e we ⟨rfl, hbe⟩
          have hwe := hwd.trans (hbe.mono hwd.size)
          go_wp2
          go_ret
          exact ⟨rfl, hwe⟩
      · have h3' : ¬ (d.size : Int) ≤ 40 := by omega
        simp only [h3, if_false] at hRA
        go_wp2_with fail
        refine (hRA _).mono ?_
        rintro e x3 ⟨rfl, hbz⟩
        have hw := hwy.trans (hbz.mono hwy.size)
        clear hwy hbz hRA asm
        go_wp2_with fail
        refine (Draw.drawNums a len cap zs _ (code_later HZ.out hw)).mono ?_
        rintro e wa ⟨vn, ns, rfl, hnl, hno, hba⟩
        have hwa := hw.trans (hba.mono hw.size)
        obtain ⟨na, nc, rfl, hnc, hnr⟩ := own_row hno
        clear hw hba hno
        have hNI := fun w h => impl_nums na nc ns w h (by omega)
        have hNP := fun w h => spec_nums na nc ns w h (by omega)
        have nsm := numsT_small ns
        have hRN := fun w => impl_readNums (numsT ns) w (by omega)
        rw [nums_trip] at hRN
        generalize numsT ns = NT at hNI hNP nsm hRN
        go_wp2_with fail
        refine (hNI _ hnr).mono ?_
        rintro e wb ⟨rfl, hbb⟩
        have hwb := hwa.trans (hbb.mono hwa.size)
        have hnr2 := hnr.later hbb
        clear hwa hbb hnr hNI
        by_cases h4 : NT.size = 0
        · have hne4 := nil_size NT h4
          simp only [h4, if_true] at hRN
          go_wp2_with fail
          refine (hRN _).mono ?_
          rintro e wc ⟨vw, rfl, hro, hbc⟩
          have hwc := hwb.trans (hbc.mono hwb.size)
          have hnr3 := hnr2.later hbc
          clear hwb hbc hnr2 hRN
          go_wp2_with fail
          refine (hNP _ hnr3).mono ?_
          rintro e wd ⟨rfl, hbd⟩
          have hwd := hwc.trans (hbd.mono hwc.size)
          have hnr4 := hnr3.later hbd
          have hro2 := own_later hro hbd
          clear hwc hbd hnr3 hNP hro
          go_wp2
          go_ret
          exact ⟨rfl, hwd⟩
        · have hne4 := ne_nil NT (by omega)
          simp only [h4, if_false] at hRN
          go_wp2_with fail
          refine (hRN _).mono ?_
          rintro e wc ⟨vw, rfl, hro, hbc⟩
          have hwc := hwb.trans (hbc.mono hwb.size)
          have hnr3 := hnr2.later hbc
          clear hwb hbc hnr2 hRN
          go_wp2_with fail
          refine (hNP _ hnr3).mono ?_
          rintro e wd ⟨rfl, hbd⟩
          have hwd := hwc.trans (hbd.mono hwc.size)
          have hnr4 := hnr3.later hbd
          have hro2 := own_later hro hbd
          clear hwc hbd hnr3 hNP hro
          obtain ⟨ra, rc, rfl, _, hrr⟩ := own_row hro2
          clear hro2
          go_wp2_with fail
          refine (sameI_is ra na rc nc ns _ hrr hnr4 (by omega)).mono ?_
          rintro e we ⟨rfl, hbe⟩
          have hwe := hwd.trans (hbe.mono hwd.size)
          go_wp2
          go_ret
          exact ⟨rfl, hwe⟩
    · have hne2 := ne_nil LT (by omega)
      simp only [h2, if_false] at hRP
      go_wp2_with fail
      refine (hRP _).mono ?_
      rintro e y3 ⟨mv, rfl, hmo, hb2⟩
      have hw2 := hw1.trans (hb2.mono hw1.size)
      have hlr2 := hlr1.later hb2
      clear hw1 hb2 hlr1 hRP
      go_wp2_with fail
      refine (hLP _ hlr2).mono ?_
      rintro e y4 ⟨rfl, hb3⟩
      have hw3 := hw2.trans (hb3.mono hw2.size)
      have hlr3 := hlr2.later hb3
      have hmo2 := own_later hmo hb3
      clear hw2 hb3 hlr2 hLP hmo
      obtain ⟨ma, mc, rfl, _, hmr⟩ := own_row hmo2
      clear hmo2
      go_wp2_with fail
      refine (sameT_is ma la mc lc xs _ hmr hlr3 (by omega)).mono ?_
      rintro e y5 ⟨rfl, hb5⟩
      have hw := hw3.trans (hb5.mono hw3.size)
      clear hw3 hb5 hmr hlr3
      go_wp2_with fail
      refine (Draw.drawAtom a len cap zs _ (code_later HZ.out hw)).mono ?_
      rintro e x1 ⟨d, rfl, hd, hbx⟩
      have hwx := hw.trans (hbx.mono hw.size)
      clear hw hbx
      have hAI := fun w => impl_atom d w (by omega)
      have asm := atomT_small d
      have hRA := fun w => impl_readAtom (atomT d) w (by omega)
      rw [atom_trip d (by omega)] at hRA
      generalize atomT d = AT at hAI asm hRA
      go_wp2_with fail
      refine (hAI _).mono ?_
      rintro e x2 ⟨rfl, hby⟩
      have hwy := hwx.trans (hby.mono hwx.size)
      clear hwx hby hAI
      by_cases h3 : d.size ≤ 40
      · have h3' : (d.size : Int) ≤ 40 := by omega
        simp only [h3, if_true] at hRA
        go_wp2_with fail
        refine (hRA _).mono ?_
        rintro e x3 ⟨rfl, hbz⟩
        have hw := hwy.trans (hbz.mono hwy.size)
        clear hwy hbz hRA asm
        go_wp2_with fail
        refine (Draw.drawNums a len cap zs _ (code_later HZ.out hw)).mono ?_
        rintro e wa ⟨vn, ns, rfl, hnl, hno, hba⟩
        have hwa := hw.trans (hba.mono hw.size)
        obtain ⟨na, nc, rfl, hnc, hnr⟩ := own_row hno
        clear hw hba hno
        have hNI := fun w h => impl_nums na nc ns w h (by omega)
        have hNP := fun w h => spec_nums na nc ns w h (by omega)
        have nsm := numsT_small ns
        have hRN := fun w => impl_readNums (numsT ns) w (by omega)
        rw [nums_trip] at hRN
        generalize numsT ns = NT at hNI hNP nsm hRN
        go_wp2_with fail
        refine (hNI _ hnr).mono ?_
        rintro e wb ⟨rfl, hbb⟩
        have hwb := hwa.trans (hbb.mono hwa.size)
        have hnr2 := hnr.later hbb
        clear hwa hbb hnr hNI
        by_cases h4 : NT.size = 0
        · have hne4 := nil_size NT h4
          simp only [h4, if_true] at hRN
          go_wp2_with fail
          refine (hRN _).mono ?_
          rintro e wc ⟨vw, rfl, hro, hbc⟩
          have hwc := hwb.trans (hbc.mono hwb.size)
          have hnr3 := hnr2.later hbc
          clear hwb hbc hnr2 hRN
          go_wp2_with fail
          refine (hNP _ hnr3).mono ?_
          rintro e wd ⟨rfl, hbd⟩
          have hwd := hwc.trans (hbd.mono hwc.size)
          have hnr4 := hnr3.later hbd
          have hro2 := own_later hro hbd
          clear hwc hbd hnr3 hNP hro
          go_wp2
          go_ret
          exact ⟨rfl, hwd⟩
        · have hne4 := ne_nil NT (by omega)
          simp only [h4, if_false] at hRN
          go_wp2_with fail
          refine (hRN _).mono ?_
          rintro e wc ⟨vw, rfl, hro, hbc⟩
          have hwc := hwb.trans (hbc.mono hwb.size)
          have hnr3 := hnr2.later hbc
          clear hwb hbc hnr2 hRN
          go_wp2_with fail
          refine (hNP _ hnr3).mono ?_
          rintro e wd ⟨rfl, hbd⟩
          have hwd := hwc.trans (hbd.mono hwc.size)
          have hnr4 := hnr3.later hbd
          have hro2 := own_later hro hbd
          clear hwc hbd hnr3 hNP hro
          obtain ⟨ra, rc, rfl, _, hrr⟩ := own_row hro2
          clear hro2
          go_wp2_with fail
          refine (sameI_is ra na rc nc ns _ hrr hnr4 (by omega)).mono ?_
          rintro e we ⟨rfl, hbe⟩
          have hwe := hwd.trans (hbe.mono hwd.size)
          go_wp2
          go_ret
          exact ⟨rfl, hwe⟩
      · have h3' : ¬ (d.size : Int) ≤ 40 := by omega
        simp only [h3, if_false] at hRA
        go_wp2_with fail
        refine (hRA _).mono ?_
        rintro e x3 ⟨rfl, hbz⟩
        have hw := hwy.trans (hbz.mono hwy.size)
        clear hwy hbz hRA asm
        go_wp2_with fail
        refine (Draw.drawNums a len cap zs _ (code_later HZ.out hw)).mono ?_
        rintro e wa ⟨vn, ns, rfl, hnl, hno, hba⟩
        have hwa := hw.trans (hba.mono hw.size)
        obtain ⟨na, nc, rfl, hnc, hnr⟩ := own_row hno
        clear hw hba hno
        have hNI := fun w h => impl_nums na nc ns w h (by omega)
        have hNP := fun w h => spec_nums na nc ns w h (by omega)
        have nsm := numsT_small ns
        have hRN := fun w => impl_readNums (numsT ns) w (by omega)
        rw [nums_trip] at hRN
        generalize numsT ns = NT at hNI hNP nsm hRN
        go_wp2_with fail
        refine (hNI _ hnr).mono ?_
        rintro e wb ⟨rfl, hbb⟩
        have hwb := hwa.trans (hbb.mono hwa.size)
        have hnr2 := hnr.later hbb
        clear hwa hbb hnr hNI
        by_cases h4 : NT.size = 0
        · have hne4 := nil_size NT h4
          simp only [h4, if_true] at hRN
          go_wp2_with fail
          refine (hRN _).mono ?_
          rintro e wc ⟨vw, rfl, hro, hbc⟩
          have hwc := hwb.trans (hbc.mono hwb.size)
          have hnr3 := hnr2.later hbc
          clear hwb hbc hnr2 hRN
          go_wp2_with fail
          refine (hNP _ hnr3).mono ?_
          rintro e wd ⟨rfl, hbd⟩
          have hwd := hwc.trans (hbd.mono hwc.size)
          have hnr4 := hnr3.later hbd
          have hro2 := own_later hro hbd
          clear hwc hbd hnr3 hNP hro
          go_wp2
          go_ret
          exact ⟨rfl, hwd⟩
        · have hne4 := ne_nil NT (by omega)
          simp only [h4, if_false] at hRN
          go_wp2_with fail
          refine (hRN _).mono ?_
          rintro e wc ⟨vw, rfl, hro, hbc⟩
          have hwc := hwb.trans (hbc.mono hwb.size)
          have hnr3 := hnr2.later hbc
          clear hwb hbc hnr2 hRN
          go_wp2_with fail
          refine (hNP _ hnr3).mono ?_
          rintro e wd ⟨rfl, hbd⟩
          have hwd := hwc.trans (hbd.mono hwc.size)
          have hnr4 := hnr3.later hbd
          have hro2 := own_later hro hbd
          clear hwc hbd hnr3 hNP hro
          obtain ⟨ra, rc, rfl, _, hrr⟩ := own_row hro2
          clear hro2
          go_wp2_with fail
          refine (sameI_is ra na rc nc ns _ hrr hnr4 (by omega)).mono ?_
          rintro e we ⟨rfl, hbe⟩
          have hwe := hwd.trans (hbe.mono hwd.size)
          go_wp2
          go_ret
          exact ⟨rfl, hwe⟩
  · have hne1 := ne_nil SS (by omega)
    obtain ⟨t1, t2, t3⟩ := tr h1
    have hO1 := fun w => impl_open SS k w (by omega)
    have hO2 := fun w => impl_open SS (k + 1) w (by omega)
    have hT1 := fun w => impl_ok SS w (by omega)
    rw [t1] at hO1
    rw [t2] at hO2
    rw [t3] at hT1
    generalize (openR SS (k + 1)).1 = OT at hO2
    clear tr t1 t2 t3
    go_wp2_with fail
    refine (hO1 _).mono ?_
    rintro e z1 ⟨rfl, hb1⟩
    have hw1 := hw.trans (hb1.mono hw.size)
    clear hw hb1 hO1
    go_wp2_with fail
    refine (hO2 _).mono ?_
    rintro e z2 ⟨rfl, hb2⟩
    have hw2 := hw1.trans (hb2.mono hw1.size)
    clear hw1 hb2 hO2
    go_wp2_with fail
    refine (hT1 _).mono ?_
    rintro e z3 ⟨rfl, hb3⟩
    have hw := hw2.trans (hb3.mono hw2.size)
    clear hw2 hb3 hT1
    go_wp2_with fail
    refine (Draw.drawList a len cap zs _ (code_later HZ.out hw)).mono ?_
    rintro e y1 ⟨lv, xs, rfl, hxl, hxs, hlo, hby⟩
    have hwy := hw.trans (hby.mono hw.size)
    obtain ⟨la, lc, rfl, hlc, hlr⟩ := own_row hlo
    clear hw hby hlo
    have hs2 : ∀ x ∈ xs, x.size ≤ 1048576 := fun x hx => by have := hxs x hx; omega
    have hLI := fun w h => impl_list la lc xs w h (by omega) hlc hs2
    have hLP := fun w h => spec_list la lc xs w h (by omega) hs2
    have lsm := Draw.listT_small xs
    have hRP := fun w => impl_parts (listT xs) w (by omega)
    rw [list_trip] at hRP
    generalize listT xs = LT at hLI hLP lsm hRP
    clear hs2 hxs
    go_wp2_with fail
    refine (hLI _ hlr).mono ?_
    rintro e y2 ⟨rfl, hb1⟩
    have hw1 := hwy.trans (hb1.mono hwy.size)
    have hlr1 := hlr.later hb1
    clear hwy hb1 hlr hLI
    by_cases h2 : LT.size = 0
    · have hne2 := nil_size LT h2
      simp only [h2, if_true] at hRP
      go_wp2_with fail
      refine (hRP _).mono ?_
      rintro e y3 ⟨mv, rfl, hmo, hb2⟩
      have hw2 := hw1.trans (hb2.mono hw1.size)
      have hlr2 := hlr1.later hb2
      clear hw1 hb2 hlr1 hRP
      go_wp2_with fail
      refine (hLP _ hlr2).mono ?_
      rintro e y4 ⟨rfl, hb3⟩
      have hw3 := hw2.trans (hb3.mono hw2.size)
      have hlr3 := hlr2.later hb3
      have hmo2 := own_later hmo hb3
      clear hw2 hb3 hlr2 hLP hmo
      have hw := hw3
      clear hw3 hmo2 hlr3
      go_wp2_with fail
      refine (Draw.drawAtom a len cap zs _ (code_later HZ.out hw)).mono ?_
      rintro e x1 ⟨d, rfl, hd, hbx⟩
      have hwx := hw.trans (hbx.mono hw.size)
      clear hw hbx
      have hAI := fun w => impl_atom d w (by omega)
      have asm := atomT_small d
      have hRA := fun w => impl_readAtom (atomT d) w (by omega)
      rw [atom_trip d (by omega)] at hRA
      generalize atomT d = AT at hAI asm hRA
      go_wp2_with fail
      refine (hAI _).mono ?_
      rintro e x2 ⟨rfl, hby⟩
      have hwy := hwx.trans (hby.mono hwx.size)
      clear hwx hby hAI
      by_cases h3 : d.size ≤ 40
      · have h3' : (d.size : Int) ≤ 40 := by omega
        simp only [h3, if_true] at hRA
        go_wp2_with fail
        refine (hRA _).mono ?_
        rintro e x3 ⟨rfl, hbz⟩
        have hw := hwy.trans (hbz.mono hwy.size)
        clear hwy hbz hRA asm
        go_wp2_with fail
        refine (Draw.drawNums a len cap zs _ (code_later HZ.out hw)).mono ?_
        rintro e wa ⟨vn, ns, rfl, hnl, hno, hba⟩
        have hwa := hw.trans (hba.mono hw.size)
        obtain ⟨na, nc, rfl, hnc, hnr⟩ := own_row hno
        clear hw hba hno
        have hNI := fun w h => impl_nums na nc ns w h (by omega)
        have hNP := fun w h => spec_nums na nc ns w h (by omega)
        have nsm := numsT_small ns
        have hRN := fun w => impl_readNums (numsT ns) w (by omega)
        rw [nums_trip] at hRN
        generalize numsT ns = NT at hNI hNP nsm hRN
        go_wp2_with fail
        refine (hNI _ hnr).mono ?_
        rintro e wb ⟨rfl, hbb⟩
        have hwb := hwa.trans (hbb.mono hwa.size)
        have hnr2 := hnr.later hbb
        clear hwa hbb hnr hNI
        by_cases h4 : NT.size = 0
        · have hne4 := nil_size NT h4
          simp only [h4, if_true] at hRN
          go_wp2_with fail
          refine (hRN _).mono ?_
          rintro e wc ⟨vw, rfl, hro, hbc⟩
          have hwc := hwb.trans (hbc.mono hwb.size)
          have hnr3 := hnr2.later hbc
          clear hwb hbc hnr2 hRN
          go_wp2_with fail
          refine (hNP _ hnr3).mono ?_
          rintro e wd ⟨rfl, hbd⟩
          have hwd := hwc.trans (hbd.mono hwc.size)
          have hnr4 := hnr3.later hbd
          have hro2 := own_later hro hbd
          clear hwc hbd hnr3 hNP hro
          go_wp2
          go_ret
          exact ⟨rfl, hwd⟩
        · have hne4 := ne_nil NT (by omega)
          simp only [h4, if_false] at hRN
          go_wp2_with fail
          refine (hRN _).mono ?_
          rintro e wc ⟨vw, rfl, hro, hbc⟩
          have hwc := hwb.trans (hbc.mono hwb.size)
          have hnr3 := hnr2.later hbc
          clear hwb hbc hnr2 hRN
          go_wp2_with fail
          refine (hNP _ hnr3).mono ?_
          rintro e wd ⟨rfl, hbd⟩
          have hwd := hwc.trans (hbd.mono hwc.size)
          have hnr4 := hnr3.later hbd
          have hro2 := own_later hro hbd
          clear hwc hbd hnr3 hNP hro
          obtain ⟨ra, rc, rfl, _, hrr⟩ := own_row hro2
          clear hro2
          go_wp2_with fail
          refine (sameI_is ra na rc nc ns _ hrr hnr4 (by omega)).mono ?_
          rintro e we ⟨rfl, hbe⟩
          have hwe := hwd.trans (hbe.mono hwd.size)
          go_wp2
          go_ret
          exact ⟨rfl, hwe⟩
      · have h3' : ¬ (d.size : Int) ≤ 40 := by omega
        simp only [h3, if_false] at hRA
        go_wp2_with fail
        refine (hRA _).mono ?_
        rintro e x3 ⟨rfl, hbz⟩
        have hw := hwy.trans (hbz.mono hwy.size)
        clear hwy hbz hRA asm
        go_wp2_with fail
        refine (Draw.drawNums a len cap zs _ (code_later HZ.out hw)).mono ?_
        rintro e wa ⟨vn, ns, rfl, hnl, hno, hba⟩
        have hwa := hw.trans (hba.mono hw.size)
        obtain ⟨na, nc, rfl, hnc, hnr⟩ := own_row hno
        clear hw hba hno
        have hNI := fun w h => impl_nums na nc ns w h (by omega)
        have hNP := fun w h => spec_nums na nc ns w h (by omega)
        have nsm := numsT_small ns
        have hRN := fun w => impl_readNums (numsT ns) w (by omega)
        rw [nums_trip] at hRN
        generalize numsT ns = NT at hNI hNP nsm hRN
        go_wp2_with fail
        refine (hNI _ hnr).mono ?_
        rintro e wb ⟨rfl, hbb⟩
        have hwb := hwa.trans (hbb.mono hwa.size)
        have hnr2 := hnr.later hbb
        clear hwa hbb hnr hNI
        by_cases h4 : NT.size = 0
        · have hne4 := nil_size NT h4
          simp only [h4, if_true] at hRN
          go_wp2_with fail
          refine (hRN _).mono ?_
          rintro e wc ⟨vw, rfl, hro, hbc⟩
          have hwc := hwb.trans (hbc.mono hwb.size)
          have hnr3 := hnr2.later hbc
          clear hwb hbc hnr2 hRN
          go_wp2_with fail
          refine (hNP _ hnr3).mono ?_
          rintro e wd ⟨rfl, hbd⟩
          have hwd := hwc.trans (hbd.mono hwc.size)
          have hnr4 := hnr3.later hbd
          have hro2 := own_later hro hbd
          clear hwc hbd hnr3 hNP hro
          go_wp2
          go_ret
          exact ⟨rfl, hwd⟩
        · have hne4 := ne_nil NT (by omega)
          simp only [h4, if_false] at hRN
          go_wp2_with fail
          refine (hRN _).mono ?_
          rintro e wc ⟨vw, rfl, hro, hbc⟩
          have hwc := hwb.trans (hbc.mono hwb.size)
          have hnr3 := hnr2.later hbc
          clear hwb hbc hnr2 hRN
          go_wp2_with fail
          refine (hNP _ hnr3).mono ?_
          rintro e wd ⟨rfl, hbd⟩
          have hwd := hwc.trans (hbd.mono hwc.size)
          have hnr4 := hnr3.later hbd
          have hro2 := own_later hro hbd
          clear hwc hbd hnr3 hNP hro
          obtain ⟨ra, rc, rfl, _, hrr⟩ := own_row hro2
          clear hro2
          go_wp2_with fail
          refine (sameI_is ra na rc nc ns _ hrr hnr4 (by omega)).mono ?_
          rintro e we ⟨rfl, hbe⟩
          have hwe := hwd.trans (hbe.mono hwd.size)
          go_wp2
          go_ret
          exact ⟨rfl, hwe⟩
    · have hne2 := ne_nil LT (by omega)
      simp only [h2, if_false] at hRP
      go_wp2_with fail
      refine (hRP _).mono ?_
      rintro e y3 ⟨mv, rfl, hmo, hb2⟩
      have hw2 := hw1.trans (hb2.mono hw1.size)
      have hlr2 := hlr1.later hb2
      clear hw1 hb2 hlr1 hRP
      go_wp2_with fail
      refine (hLP _ hlr2).mono ?_
      rintro e y4 ⟨rfl, hb3⟩
      have hw3 := hw2.trans (hb3.mono hw2.size)
      have hlr3 := hlr2.later hb3
      have hmo2 := own_later hmo hb3
      clear hw2 hb3 hlr2 hLP hmo
      obtain ⟨ma, mc, rfl, _, hmr⟩ := own_row hmo2
      clear hmo2
      go_wp2_with fail
      refine (sameT_is ma la mc lc xs _ hmr hlr3 (by omega)).mono ?_
      rintro e y5 ⟨rfl, hb5⟩
      have hw := hw3.trans (hb5.mono hw3.size)
      clear hw3 hb5 hmr hlr3
      go_wp2_with fail
      refine (Draw.drawAtom a len cap zs _ (code_later HZ.out hw)).mono ?_
      rintro e x1 ⟨d, rfl, hd, hbx⟩
      have hwx := hw.trans (hbx.mono hw.size)
      clear hw hbx
      have hAI := fun w => impl_atom d w (by omega)
      have asm := atomT_small d
      have hRA := fun w => impl_readAtom (atomT d) w (by omega)
      rw [atom_trip d (by omega)] at hRA
      generalize atomT d = AT at hAI asm hRA
      go_wp2_with fail
      refine (hAI _).mono ?_
      rintro e x2 ⟨rfl, hby⟩
      have hwy := hwx.trans (hby.mono hwx.size)
      clear hwx hby hAI
      by_cases h3 : d.size ≤ 40
      · have h3' : (d.size : Int) ≤ 40 := by omega
        simp only [h3, if_true] at hRA
        go_wp2_with fail
        refine (hRA _).mono ?_
        rintro e x3 ⟨rfl, hbz⟩
        have hw := hwy.trans (hbz.mono hwy.size)
        clear hwy hbz hRA asm
        go_wp2_with fail
        refine (Draw.drawNums a len cap zs _ (code_later HZ.out hw)).mono ?_
        rintro e wa ⟨vn, ns, rfl, hnl, hno, hba⟩
        have hwa := hw.trans (hba.mono hw.size)
        obtain ⟨na, nc, rfl, hnc, hnr⟩ := own_row hno
        clear hw hba hno
        have hNI := fun w h => impl_nums na nc ns w h (by omega)
        have hNP := fun w h => spec_nums na nc ns w h (by omega)
        have nsm := numsT_small ns
        have hRN := fun w => impl_readNums (numsT ns) w (by omega)
        rw [nums_trip] at hRN
        generalize numsT ns = NT at hNI hNP nsm hRN
        go_wp2_with fail
        refine (hNI _ hnr).mono ?_
        rintro e wb ⟨rfl, hbb⟩
        have hwb := hwa.trans (hbb.mono hwa.size)
        have hnr2 := hnr.later hbb
        clear hwa hbb hnr hNI
        by_cases h4 : NT.size = 0
        · have hne4 := nil_size NT h4
          simp only [h4, if_true] at hRN
          go_wp2_with fail
          refine (hRN _).mono ?_
          rintro e wc ⟨vw, rfl, hro, hbc⟩
          have hwc := hwb.trans (hbc.mono hwb.size)
          have hnr3 := hnr2.later hbc
          clear hwb hbc hnr2 hRN
          go_wp2_with fail
          refine (hNP _ hnr3).mono ?_
          rintro e wd ⟨rfl, hbd⟩
          have hwd := hwc.trans (hbd.mono hwc.size)
          have hnr4 := hnr3.later hbd
          have hro2 := own_later hro hbd
          clear hwc hbd hnr3 hNP hro
          go_wp2
          go_ret
          exact ⟨rfl, hwd⟩
        · have hne4 := ne_nil NT (by omega)
          simp only [h4, if_false] at hRN
          go_wp2_with fail
          refine (hRN _).mono ?_
          rintro e wc ⟨vw, rfl, hro, hbc⟩
          have hwc := hwb.trans (hbc.mono hwb.size)
          have hnr3 := hnr2.later hbc
          clear hwb hbc hnr2 hRN
          go_wp2_with fail
          refine (hNP _ hnr3).mono ?_
          rintro e wd ⟨rfl, hbd⟩
          have hwd := hwc.trans (hbd.mono hwc.size)
          have hnr4 := hnr3.later hbd
          have hro2 := own_later hro hbd
          clear hwc hbd hnr3 hNP hro
          obtain ⟨ra, rc, rfl, _, hrr⟩ := own_row hro2
          clear hro2
          go_wp2_with fail
          refine (sameI_is ra na rc nc ns _ hrr hnr4 (by omega)).mono ?_
          rintro e we ⟨rfl, hbe⟩
          have hwe := hwd.trans (hbe.mono hwd.size)
          go_wp2
          go_ret
          exact ⟨rfl, hwe⟩
      · have h3' : ¬ (d.size : Int) ≤ 40 := by omega
        simp only [h3, if_false] at hRA
        go_wp2_with fail
        refine (hRA _).mono ?_
        rintro e x3 ⟨rfl, hbz⟩
        have hw := hwy.trans (hbz.mono hwy.size)
        clear hwy hbz hRA asm
        go_wp2_with fail
        refine (Draw.drawNums a len cap zs _ (code_later HZ.out hw)).mono ?_
        rintro e wa ⟨vn, ns, rfl, hnl, hno, hba⟩
        have hwa := hw.trans (hba.mono hw.size)
        obtain ⟨na, nc, rfl, hnc, hnr⟩ := own_row hno
        clear hw hba hno
        have hNI := fun w h => impl_nums na nc ns w h (by omega)
        have hNP := fun w h => spec_nums na nc ns w h (by omega)
        have nsm := numsT_small ns
        have hRN := fun w => impl_readNums (numsT ns) w (by omega)
        rw [nums_trip] at hRN
        generalize numsT ns = NT at hNI hNP nsm hRN
        go_wp2_with fail
        refine (hNI _ hnr).mono ?_
        rintro e wb ⟨rfl, hbb⟩
        have hwb := hwa.trans (hbb.mono hwa.size)
        have hnr2 := hnr.later hbb
        clear hwa hbb hnr hNI
        by_cases h4 : NT.size = 0
        · have hne4 := nil_size NT h4
          simp only [h4, if_true] at hRN
          go_wp2_with fail
          refine (hRN _).mono ?_
          rintro e wc ⟨vw, rfl, hro, hbc⟩
          have hwc := hwb.trans (hbc.mono hwb.size)
          have hnr3 := hnr2.later hbc
          clear hwb hbc hnr2 hRN
          go_wp2_with fail
          refine (hNP _ hnr3).mono ?_
          rintro e wd ⟨rfl, hbd⟩
          have hwd := hwc.trans (hbd.mono hwc.size)
          have hnr4 := hnr3.later hbd
          have hro2 := own_later hro hbd
          clear hwc hbd hnr3 hNP hro
          go_wp2
          go_ret
          exact ⟨rfl, hwd⟩
        · have hne4 := ne_nil NT (by omega)
          simp only [h4, if_false] at hRN
          go_wp2_with fail
          refine (hRN _).mono ?_
          rintro e wc ⟨vw, rfl, hro, hbc⟩
          have hwc := hwb.trans (hbc.mono hwb.size)
          have hnr3 := hnr2.later hbc
          clear hwb hbc hnr2 hRN
          go_wp2_with fail
          refine (hNP _ hnr3).mono ?_
          rintro e wd ⟨rfl, hbd⟩
          have hwd := hwc.trans (hbd.mono hwc.size)
          have hnr4 := hnr3.later hbd
          have hro2 := own_later hro hbd
          clear hwc hbd hnr3 hNP hro
          obtain ⟨ra, rc, rfl, _, hrr⟩ := own_row hro2
          clear hro2
          go_wp2_with fail
          refine (sameI_is ra na rc nc ns _ hrr hnr4 (by omega)).mono ?_
          rintro e we ⟨rfl, hbe⟩
          have hwe := hwd.trans (hbe.mono hwd.size)
          go_wp2
          go_ret
          exact ⟨rfl, hwe⟩
end Go.Proofs.Ytpfloopngndpbaa
