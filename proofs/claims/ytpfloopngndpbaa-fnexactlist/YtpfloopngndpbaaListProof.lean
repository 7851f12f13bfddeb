/- Whatever texts List is called with, the program answers as the document's model does, and writes into none of them: no condition. -/
import Derived.Test.YtpfloopngndpbaaRows
import Derived.Test.YtpfloopngndpbaaLists
import Derived.WalkKit
import Derived.ProofKit
import Derived.SliceStrings
import Derived.OpenShut
import Derived.ShutString
import Derived.ChangeOld
import Derived.Below
namespace Go.Proofs.Ytpfloopngndpbaa.fnExactList
open Go.ChangeShapes Go.WideShapes Go.ChangeAt Go.RowKit
open Go.ChangeMaps (open_string shut_string)
set_option linter.unusedVariables false

theorem own : ownKnob Try.prog.godebug = none := by kernel_rfl
theorem laidOut : laidOutB Try.prog = true := by kernel_rfl

/-- What the walk is told of the texts that came in. -/
def IsRow (w : World) (a : Option Addr) (len cap : Nat) (xs : List ByteArray) : Prop :=
  xs.length = len ∧ len ≤ cap ∧ len ≤ maxLen ∧ RowAt Value.string w a xs ∧ ∀ x ∈ xs, x.size ≤ maxLen

theorem row_of {w : World} {x : Addr} {len cap : Nat} {ss : List ByteArray} (hl : len ≤ cap) (hm : cap ≤ maxLen) (hz : len ≤ ss.length)
    (hcell : ∀ i, i < ss.length → w.cell? (x.add i) = some (.string (ss.getD i ByteArray.empty))) (hs : ∀ s ∈ ss, s.size ≤ maxLen) : IsRow w (some x) len cap (ss.take len) := by
  refine ⟨by rw [List.length_take]; omega, hl, Nat.le_trans hl hm, fun j hj => ?_, fun y hy => hs y (List.mem_of_mem_take hy)⟩
  rw [List.length_take] at hj
  obtain ⟨b, off, spot⟩ := x
  have hjz : j < ss.length := by omega
  have hc := hcell j hjz
  have hc0 := hcell 0 (by omega)
  have hsp : spot = none := by simpa [Addr.add] using World.cell?_spot hc0
  subst hsp
  have e : (⟨b, off, none⟩ : Addr).add j = ⟨b, off + j, none⟩ := by simp only [Addr.add]; split <;> simp_all
  rw [e] at hc
  refine ⟨b, off, rfl, World.block_lt_of_cell? w _ hc, ?_⟩
  rw [hc, List.getElem_take]
  simp [List.getD, hjz]

set_option maxRecDepth 100000 in
set_option maxHeartbeats 800000 in
theorem walk (a0 : Option Addr) (len0 cap0 : Nat) (xs : List ByteArray) (w : World) (w0 : IsRow w a0 len0 cap0 xs) :
    Calls Try.prog 8 #[.slice a0 len0 cap0] w fun e w' => e = .returned (.bool true) ∧ Below w.heap.size w w' := by
  obtain ⟨rfl, hcap, hm, hr, hs⟩ := w0
  go_enter Try.func8, Try.ntmps8
  go_wp2_with fail
  refine (sz_is a0 cap0 xs w hr hm hs).mono ?_
  rintro e w1 ⟨r, rfl, hR, rfl⟩
  by_cases h0 : 0 ≤ r
  · obtain ⟨hl, hs2⟩ := hR h0
    clear hm hs hR
    have h0' : ¬ r < 0 := by omega
    go_wp2_with fail
    refine (toS_is a0 cap0 xs w hr hl).mono ?_
    rintro e w1 ⟨rfl, ho1, hb1⟩
    have r1 := RowAt.own ho1
    clear ho1
    go_wp2_with fail
    refine (spec_list _ _ xs w1 r1 hl hs2).mono ?_
    rintro e w2 ⟨rfl, hb2⟩
    have hb12 := hb1.trans (hb2.mono hb1.size)
    clear r1
    have r2 := hr.later hb12
    go_wp2_with fail
    refine (toS_is a0 cap0 xs w2 r2 hl).mono ?_
    rintro e w3 ⟨rfl, ho3, hb3⟩
    have r3 := RowAt.own ho3
    have hb13 := hb12.trans (hb3.mono hb12.size)
    clear ho3 r2
    go_wp2_with fail
    refine (impl_list _ _ xs w3 r3 hl (Nat.le_refl _) hs2).mono ?_
    rintro e w4 ⟨rfl, hb4⟩
    have hb14 := hb13.trans (hb4.mono hb13.size)
    have r4 := r3.later hb4
    have r5 := hr.later hb14
    clear r3
    generalize listT xs = T
    go_wp2_with fail
    refine (toS_is a0 cap0 xs w4 r5 hl).mono ?_
    rintro e w5 ⟨rfl, ho5, hb5⟩
    have r6 := RowAt.own ho5
    have hb15 := hb14.trans (hb5.mono hb14.size)
    have r7 := r4.later hb5
    clear ho5 r4 r5
    go_wp2_with fail
    refine (eqS_is _ _ _ _ xs w5 r7 r6 hl).mono ?_
    rintro e w6 ⟨rfl, hb6⟩
    go_wp2
    go_ret
    exact ⟨rfl, hb15.trans (hb6.mono hb15.size)⟩
  · have h0' : r < 0 := by omega
    go_wp2
    go_ret
    exact ⟨rfl, Below.refl _ _⟩

set_option maxRecDepth 100000 in
theorem lifted (os : Os) (started : os.Started) (H : Type) (enc : TypeId × Value → H) :
    ReturnsInHanded {} Try.checked os 8 .any (Rows.fnExactListSpec.pre6 enc Try.prog Try.f8 Rows.fnExactListRow.domain false) (Rows.fnExactListSpec.post enc Try.prog Try.f8 false true false false) := by
  refine returnsInHanded_of_change (C := Try.checked) own started (by kernel_rfl) Try.func8
    (ChangeSpec.witness6 (enc := enc) (C := Try.checked) false ⟨#[], #[.slice none 0 0], []⟩ 8 (by kernel_rfl) (by kernel_rfl) (by kernel_rfl) (by kernel_rfl)) ?_
  intro W base args ds gs before hval0 hW hcnd _
  have hval : ∀ (j : Nat) t v, Try.f8.params[j]? = some t → args[j]? = some v → Value.okWide Try.prog W .any base t v := hval0
  have hW' := hW
  obtain ⟨p, q, hA0, hV, rfl, hfz, hnd⟩ := hW
  have hA : DataW.TrodAll enc Try.prog W 0 (fun _ => true) true Try.f8.params.toList args.toList ds p := hA0
  rw [Try.params8] at hA hval
  obtain ⟨v0, vs0, d0, ds0, p0, q0, hargs, rfl, rfl, h0, r0⟩ := trodAll_cons hA
  obtain ⟨rfl, rfl, rfl⟩ := trodAll_nil r0
  obtain rfl : args = #[v0] := by cases args; simp_all
  obtain ⟨rfl, rfl⟩ := trodVars_none hV
  obtain ⟨a0, len0, cap0, rfl⟩ := okWide_slice Try.underlying30 (hval 0 30 v0 rfl rfl)
  have k0 := h0
  have lt0 : ∀ x ∈ p0, x.block < W.heap.size := by obtain ⟨m, hm⟩ := k0; exact DataW.trod_lt m _ _ _ hm
  obtain ⟨z0, w0⟩ : ∃ xs, IsRow W a0 len0 cap0 xs := by
    obtain ⟨fuel, hf⟩ := h0
    rcases open_strings Try.underlying30 Try.underlying9 (by kernel_rfl) hf with ⟨hcs, _⟩ | ⟨x, l, c, ss, hcs, _, hl, hm, hz, _, hcell, hsz⟩
    · simp [Value.cells] at hcs
      obtain ⟨rfl, rfl, rfl⟩ := hcs
      exact ⟨[], rfl, Nat.le_refl _, by unfold maxLen; omega, RowAt.nil _ _, fun x hx => by simp at hx⟩
    · simp [Value.cells] at hcs
      obtain ⟨rfl, rfl, rfl⟩ := hcs
      exact ⟨_, row_of hl hm (by rw [hz]; split <;> omega) hcell hsz⟩
  clear hA0 hval0
  refine (walk a0 len0 cap0 z0 W w0).mono fun e W' ⟨he, bel⟩ => ?_
  subst he
  exact ⟨_, rfl, _, _, _, [], _, [], hW', trodAll_mk1 (shut_bool Try.underlying4 _), (trodAll_cons_mk (Below.trod laidOut (by kernel_rfl) (of_decide_eq_true (by kernel_rfl)) k0 bel lt0) trodAll_mk0), rfl, bel.frame _, fun h => by cases h⟩

theorem over : Rows.fnExactListRow.holds Try.pinned (OpenSpec.ofChange Rows.fnExactListSpec) :=
  OpenClaim.holds_of_wide 8 Try.f8 rfl rfl rfl rfl rfl rfl rfl ⟨rfl, rfl, rfl, rfl, rfl⟩ rfl rfl rfl rfl rfl (by kernel_rfl) Try.func8 (by kernel_rfl)
    (of_decide_eq_true (by kernel_rfl)) (by unfold Func.isWrapper; first | (rw [if_pos (by decide +kernel)]; kernel_rfl) | (rw [if_neg (by decide +kernel)]; exact ⟨rfl, rfl⟩))
    (fun os started H enc _ => lifted os started H enc)

theorem proved : Rows.FnExactListSaid := over
#print axioms proved
end Go.Proofs.Ytpfloopngndpbaa.fnExactList
