/- The program's Dec, by the library's contract of Itoa. -/
import Derived.Test.YtpidfofjjdjkdabDoorRows
import Derived.Test.YtpidfofjjdjkdabDoorShelf
import Derived.Test.YtpidfofjjdjkdabDoorDecMath
import Derived.WalkKit
import Derived.Below
import Derived.WalkSmall
import Derived.Deep.DeepHandedRow
import Derived.Lib.LaidTab
import Derived.Lib.AppendIntMem
set_option linter.unusedVariables false
namespace Go.Proofs.YtpidfofjjdjkdabDoor
open Go.RowKit Dec

theorem gTab : Tryd.prog.globalNamed "internal/strconv.uint64pow10" = some 0 := by kernel_rfl
theorem gTabType : (Tryd.prog.globals[0]?).map (·.type) = some 63 := by kernel_rfl
theorem cells63 : Tryd.prog.cellsOf 63 = 20 := by kernel_rfl
theorem cells56 : Tryd.prog.cellsOf 56 = 1 := by kernel_rfl

/-- What stands behind the first of the listed variables. -/
theorem laid_tail {P : Program} {W : World} {x : String × DataW Unit} {r : List (String × DataW Unit)} {ps : List MemPlace} (h : DataW.LaidVars P W (x :: r) ps) : ∃ q, DataW.LaidVars P W r q := by
  obtain ⟨g, t, cs, fuel, p, q, _, _, _, _, h, _⟩ := h
  exact ⟨q, h⟩

theorem laid_head {P : Program} {W : World} {name : String} {k : IntKind} {zs : List Int} {r : List (String × DataW Unit)} {ps : List MemPlace} {g : Nat} {t e : TypeId} {n : Nat}
    (hg : P.globalNamed name = some g) (hty : (P.globals[g]?).map (·.type) = some t) (ht : P.underlying t = some (.array n e)) (he : P.underlying e = some (.int k)) (hce : P.cellsOf e = 1) (hct : P.cellsOf t = n)
    (h : DataW.LaidVars P W ((name, Lib.tabData k zs) :: r) ps) : Lib.TabIs P W name k zs := by
  obtain ⟨g', t', cs, fuel, p, q, hg', ht', hvar, hd, _, _⟩ := h
  obtain rfl := Option.some.inj (hg.symm.trans hg')
  obtain rfl := Option.some.inj (hty.symm.trans ht')
  unfold Lib.TabIs
  rw [hvar, ← Lib.cells_of_tab ht he hce hct hd]

/-- What the row's list gives: the table of the powers of ten. -/
theorem table {W : World} (h : laidMetH Tryd.prog Rows.fnNumbersRow.laid W) : Lib.TabIs Tryd.prog W "internal/strconv.uint64pow10" .u64 Lib.pow10Tab := by
  have h1 : laidMet Tryd.prog Rows.fnNumbersRow.laid W := h
  obtain ⟨ps, h2, _⟩ := h1
  obtain ⟨q1, h3⟩ := laid_tail h2
  obtain ⟨q2, h4⟩ := laid_tail h3
  exact laid_head (r := []) (zs := Lib.pow10Tab) gTab gTabType Tryd.underlying63 Tryd.underlying56 cells56 cells63 h4

theorem digits_same (m : Nat) (h : m ≠ 0) : Lib.decDigits m = decP m := by
  induction m using Nat.strongRecOn with
  | ind m ih =>
    rw [Lib.decDigits, decP_pos m h]
    by_cases h1 : m < 10
    · have e : m / 10 = 0 := by omega
      have e2 : m % 10 = m := by omega
      rw [dif_pos h1, e, decP_zero, e2]; rfl
    · rw [dif_neg h1, ih (m / 10) (by omega) (by omega)]

theorem text_same (n : Int) : Lib.itoa n = decB n := by
  unfold Lib.itoa decB
  by_cases h0 : n = 0
  · subst h0
    rw [if_neg (by decide), if_pos rfl, Lib.decDigits, dif_pos (by decide)]; rfl
  · by_cases hn : n < 0
    · rw [if_pos hn, if_neg h0, if_pos hn, digits_same _ (by omega)]
    · have e : n.toNat = n.natAbs := by omega
      rw [if_neg hn, if_neg h0, if_neg hn, e, digits_same _ (by omega)]

theorem impl_dec (n : Int) (w : World) (h1 : -9223372036854775808 ≤ n) (h2 : n ≤ 9223372036854775807) (ht : Lib.TabIs Tryd.prog w "internal/strconv.uint64pow10" .u64 Lib.pow10Tab) :
    Calls Tryd.prog 12 #[.int .i64 n] w fun e w' => e = .returned (.string ⟨(decB n).toArray⟩) ∧ Below w.heap.size w w' := by
  have HT : Hid (Lib.TabIs Tryd.prog w "internal/strconv.uint64pow10" .u64 Lib.pow10Tab) := ht
  clear ht
  go_enter Tryd.func12, Tryd.ntmps12
  go_wp2_with (go_at_call 22; refine (Tryd.strconv_Itoa n h1 h2 _ HT.out).mono ?_; rintro e w' ⟨rfl, k, os, rfl⟩)
  go_ret
  rw [text_same]
  exact ⟨rfl, Lib.below_grow _ _ (Nat.le_refl _) _ _⟩

theorem tab_below {w w1 : World} (h : Lib.TabIs Tryd.prog w "internal/strconv.uint64pow10" .u64 Lib.pow10Tab) (hb : Below w.heap.size w w1) : Lib.TabIs Tryd.prog w1 "internal/strconv.uint64pow10" .u64 Lib.pow10Tab := by
  have hlt : 0 < w.heap.size := by
    unfold Lib.TabIs World.var? at h
    simp only [gTab, Option.bind_some] at h
    cases hh : w.heap[0]? with
    | none => rw [hh] at h; cases h
    | some o => exact (Array.getElem?_eq_some_iff.1 hh).1
  exact var?_below hb gTab hlt h

end Go.Proofs.YtpidfofjjdjkdabDoor
