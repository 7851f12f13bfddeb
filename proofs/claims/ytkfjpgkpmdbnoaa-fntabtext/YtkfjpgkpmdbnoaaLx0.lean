/- What is too long is not asked. -/
import Derived.Test.YtkfjpgkpmdbnoaaDw0
import Derived.Test.YtkfjpgkpmdbnoaaRi0
import Derived.Test.YtkfjpgkpmdbnoaaSi0
import Derived.Test.YtkfjpgkpmdbnoaaTr2
set_option linter.unusedVariables false
set_option maxRecDepth 100000
namespace Go.Proofs.Ytkfjpgkpmdbnoaa
open Go Go.RowKit Go.Joins Own Draw Go.Proofs.Ytkfjpgkpmdbnoaa.Var

theorem big_go (a : Option Addr) (len cap : Nat) (W : World) (h : len ≤ 1048576) :
    Calls Try.prog 12 #[.slice a len cap] W fun e w' => e = .returned (.bool false) ∧ W = w' := by
  have hd : decide ((1048576 : Int) < (len : Int)) = false := by simp; omega
  go_enter Try.func12, Try.ntmps12
  go_wp2
  go_ret
  exact ⟨rfl, rfl⟩
theorem big_yes (a : Option Addr) (len cap : Nat) (W : World) (h : 1048576 < len) (h2 : len ≤ maxLen) :
    Calls Try.prog 12 #[.slice a len cap] W fun e w' => e = .returned (.bool true) ∧ W = w' := by
  unfold maxLen at h2
  have hd : decide ((1048576 : Int) < (len : Int)) = true := by simp; omega
  go_enter Try.func12, Try.ntmps12
  go_wp2
  go_ret
  exact ⟨rfl, rfl⟩
end Go.Proofs.Ytkfjpgkpmdbnoaa

set_option linter.unusedVariables false
set_option maxRecDepth 100000
namespace Go.Proofs.Ytkfjpgkpmdbnoaa
open Go Go.RowKit Go.Joins Own Draw Go.Proofs.Ytkfjpgkpmdbnoaa.Var

theorem rd_few (s : ByteArray) : (rdT s).1.length ≤ 20 := by
  cases e : (rdT s).2 with
  | true => exact tab_len (read_says (s := s) (l := (rdT s).1) (by rw [← e])).1
  | false =>
    have h := rdJ_no (s := s) (by rw [rd_same]; exact e)
    rw [← rd_same, h]
    exact Nat.zero_le _
theorem txt_made (ys : List TS) : (rdT (shT ys)).2 = tabB ys ∧ (tabB ys = true → (rdT (shT ys)).1 = ys) := by
  cases h : tabB ys with
  | true => rw [read_shown h]; exact ⟨rfl, fun _ => rfl⟩
  | false =>
    have e : shT ys = ⟨#[]⟩ := by unfold shT; rw [if_neg (by rw [h]; decide)]
    refine ⟨?_, fun c => by cases c⟩
    rw [e]
    unfold rdT
    rw [itV_nil]
set_option maxRecDepth 100000 in
set_option maxHeartbeats 25600000 in
theorem law_text (ad : Option Addr) (len cap : Nat) (zs : List Int) (W : World) (hl : len ≤ 1048576) (hz : CodeAt W W.heap.size ad len zs) :
    Calls Try.prog 4 #[.slice ad len cap] W fun e w' => e = .returned (.bool true) ∧ Below W.heap.size W w' := by
  have HZ : Hid (CodeAt W W.heap.size ad len zs) := hz
  go_enter Try.func4, Try.ntmps4
  go_wp2_with fail
  refine (big_go ad len cap W hl).mono ?_
  rintro e w0 ⟨rfl, rfl⟩
  have K := drawShow_is ad len cap zs W hz
  clear hz
  go_wp2_with fail
  refine K.mono ?_
  clear K
  rintro e w1 ⟨⟨ra, rc, ys, rfl, hy, ro⟩, BC⟩
  have K := implShow_is ra rc ys w1 (FOwn.row lS ro) (by omega)
  have hsz := shT_size ys hy
  have TM := txt_made ys
  obtain ⟨s1, hs1⟩ : ∃ s, shT ys = s := ⟨_, rfl⟩
  have HS1 : Hid (shT ys = s1) := hs1
  rw [hs1] at K hsz TM
  clear hs1
  go_wp2_with fail
  refine K.mono ?_
  clear K
  rintro e w2 ⟨rfl, hb⟩
  replace ro : FOwn 31 3 cS W.heap.size ra rc ys w2 := own_later ro hb
  replace BC := BC.trans (hb.mono BC.size)
  clear hb
  have K := implRead_is s1 w2 (by omega)
  obtain ⟨xs, is, hxs⟩ : ∃ x b, rdT s1 = (x, b) := ⟨_, _, rfl⟩
  rw [hxs] at K TM
  have HTM : Hid (is = tabB ys ∧ (tabB ys = true → xs = ys)) := TM
  have hx20 := rd_few s1
  rw [hxs] at hx20
  replace hx20 : xs.length ≤ 20 := hx20
  clear hxs TM hsz
  unfold RdQ at K
  go_wp2_with fail
  refine K.mono ?_
  clear K
  rintro e w3 ⟨⟨xa, xc, rfl, rx⟩, hb⟩
  replace ro : FOwn 31 3 cS W.heap.size ra rc ys w3 := own_later ro hb
  replace BC := BC.trans (hb.mono BC.size)
  clear hb
  have K := drawRead_is ad len cap zs w3 ((HZ.out.below BC).lt BC.size)
  go_wp2_with fail
  refine K.mono ?_
  clear K
  rintro e w4 ⟨⟨s2, rfl, hs2⟩, hb⟩
  replace ro : FOwn 31 3 cS W.heap.size ra rc ys w4 := own_later ro hb
  replace rx : FOwn 31 3 cS w2.heap.size xa xc xs w4 := own_later rx hb
  replace BC := BC.trans (hb.mono BC.size)
  clear hb
  have KS := fun w' => specRead_is s2 w' (by omega)
  have K := implRead_is s2 w4 (by omega)
  have HSY := fun l => read_says (s := s2) (l := l)
  obtain ⟨zs2, fine, hzs⟩ : ∃ x b, rdT s2 = (x, b) := ⟨_, _, rfl⟩
  have HF : Hid (fine = true → shT zs2 = s2) := fun h => (HSY zs2 (by rw [hzs, h])).2
  have hz20 := rd_few s2
  rw [hzs] at K hz20
  simp only [hzs] at KS
  replace hz20 : zs2.length ≤ 20 := hz20
  clear hzs HSY
  simp only [RdQ] at KS
  unfold RdQ at K
  go_wp2_with fail
  refine K.mono ?_
  clear K
  rintro e w5 ⟨⟨ya, yc, rfl, ry⟩, hb⟩
  replace ro : FOwn 31 3 cS W.heap.size ra rc ys w5 := own_later ro hb
  replace rx : FOwn 31 3 cS w2.heap.size xa xc xs w5 := own_later rx hb
  replace BC := BC.trans (hb.mono BC.size)
  clear hb
  have K := KS w5
  clear KS
  go_wp2_with fail
  refine K.mono ?_
  clear K
  rintro e w6 ⟨⟨va, vc, rfl, _⟩, hb⟩
  replace ro : FOwn 31 3 cS W.heap.size ra rc ys w6 := own_later ro hb
  replace rx : FOwn 31 3 cS w2.heap.size xa xc xs w6 := own_later rx hb
  replace ry : FOwn 31 3 cS w4.heap.size ya yc zs2 w6 := own_later ry hb
  replace BC := BC.trans (hb.mono BC.size)
  clear hb
  have K := specTab_is ra rc ys w6 (FOwn.row lS ro) (by omega)
  have HX : Hid (is = true → xs = ys) := fun h => HTM.out.2 (by rw [← HTM.out.1]; exact h)
  rw [← HTM.out.1] at K
  clear HTM
  go_wp2_with fail
  refine K.mono ?_
  clear K
  rintro e w7 ⟨rfl, hb⟩
  replace ro : FOwn 31 3 cS W.heap.size ra rc ys w7 := own_later ro hb
  replace rx : FOwn 31 3 cS w2.heap.size xa xc xs w7 := own_later rx hb
  replace ry : FOwn 31 3 cS w4.heap.size ya yc zs2 w7 := own_later ry hb
  replace BC := BC.trans (hb.mono BC.size)
  clear hb
  cases is with
  | false =>
    clear HX rx
    cases fine with
    | false =>
      clear HF ry hz20
      go_wp2
      go_ret
      exact ⟨rfl, BC⟩
    | true =>
      have hF := HF.out rfl
      have K := implShow_is ya yc zs2 w7 (FOwn.row lS ry) (by omega)
      rw [hF] at K
      clear hF HF
      go_wp2_with fail
      refine K.mono ?_
      clear K
      rintro e w8 ⟨rfl, hb⟩
      replace BC := BC.trans (hb.mono BC.size)
      clear hb
      go_wp2
      go_ret
      exact ⟨rfl, BC⟩
  | true =>
    have hX := HX.out rfl
    subst hX
    clear HX
    have K := specShow_is xa xc xs w7 (FOwn.row lS rx) (by omega)
    rw [HS1.out] at K
    go_wp2_with fail
    refine K.mono ?_
    clear K
    rintro e w8 ⟨rfl, hb⟩
    replace ro : FOwn 31 3 cS W.heap.size ra rc xs w8 := own_later ro hb
    replace rx : FOwn 31 3 cS w2.heap.size xa xc xs w8 := own_later rx hb
    replace ry : FOwn 31 3 cS w4.heap.size ya yc zs2 w8 := own_later ry hb
    replace BC := BC.trans (hb.mono BC.size)
    clear hb
    have K := specShow_is ra rc xs w8 (FOwn.row lS ro) (by omega)
    rw [HS1.out] at K
    clear rx
    go_wp2_with fail
    refine K.mono ?_
    clear K
    rintro e w9 ⟨rfl, hb⟩
    replace ro : FOwn 31 3 cS W.heap.size ra rc xs w9 := own_later ro hb
    replace ry : FOwn 31 3 cS w4.heap.size ya yc zs2 w9 := own_later ry hb
    replace BC := BC.trans (hb.mono BC.size)
    clear hb
    cases fine with
    | false =>
      clear HF ry hz20
      go_wp2
      go_ret
      exact ⟨rfl, BC⟩
    | true =>
      have hF := HF.out rfl
      have K := implShow_is ya yc zs2 w9 (FOwn.row lS ry) (by omega)
      rw [hF] at K
      clear hF HF
      go_wp2_with fail
      refine K.mono ?_
      clear K
      rintro e w10 ⟨rfl, hb⟩
      replace BC := BC.trans (hb.mono BC.size)
      clear hb
      go_wp2
      go_ret
      exact ⟨rfl, BC⟩
end Go.Proofs.Ytkfjpgkpmdbnoaa
