/- Whatever text ReadNums is called with, the program answers as the document's model does, and its answer owns its memory: no condition. -/
import Derived.Test.YtpfloopngndpbaaRows
import Derived.Test.YtpfloopngndpbaaMarksI
import Derived.WalkKit
import Derived.ProofKit
import Derived.OpenShut
import Derived.ChangeOld
import Derived.Below
import Derived.ShutString
namespace Go.Proofs.Ytpfloopngndpbaa.fnExactReadNums
open Go.ChangeShapes Go.WideShapes Go.ChangeAt Go.RowKit
open Go.ChangeMaps (open_string shut_string)
set_option linter.unusedVariables false

theorem own : ownKnob Try.prog.godebug = none := by kernel_rfl

theorem walk (a0 : ByteArray) (w0 : a0.size ≤ maxLen) (w : World) :
    Calls Try.prog 17 #[.string a0] w fun e w' => e = .returned (.bool true) ∧ Below w.heap.size w w' := by
  by_cases hz : (1048576 : Int) < (a0.size : Int)
  · go_enter Try.func17, Try.ntmps17
    go_wp2
    go_ret
    exact ⟨rfl, Below.refl _ _⟩
  · have hz' : a0.size ≤ 1048576 := by omega
    have hl := nums_len a0
    have h1 := fun w => spec_readNums a0 w hz'
    have h2 := fun w => impl_readNums a0 w hz'
    generalize (numsR a0).1 = xs at h1 h2 hl
    generalize (numsR a0).2 = b at h1 h2
    go_enter Try.func17, Try.ntmps17
    go_wp2_with fail
    refine (h1 _).mono ?_
    rintro e w1 ⟨v0, rfl, ho0, hb1⟩
    obtain ⟨a1, c1, rfl, _, r1⟩ := own_row ho0
    clear ho0
    go_wp2_with fail
    refine (h2 _).mono ?_
    rintro e w2 ⟨v1, rfl, ho1, hb2⟩
    have hw2 := hb1.trans (hb2.mono hb1.size)
    have r2 := r1.later hb2
    obtain ⟨a2, c2, rfl, _, r3⟩ := own_row ho1
    go_wp2_with fail
    refine (eqI_is a2 a1 c2 c1 xs w2 r3 r2 (by omega)).mono ?_
    rintro e w3 ⟨rfl, hb3⟩
    have hw3 := hw2.trans (hb3.mono hw2.size)
    have ho3 := own_later ho1 hb3
    have hB3 := hb2.trans (hb3.mono hb2.size)
    clear ho1 r2 r3 hb2 hb3 hw2
    obtain ⟨w4, hmark, ho4, hB4⟩ : ∃ w4' : World → Prop, (Calls Try.prog 59 #[.slice a2 xs.length c2, .int .i64 1] w3 fun e w' => e = .returned (.int .i64 ((xs.length : Int) + 1)) ∧ w4' w') ∧ (∀ w', w4' w' → RowAt (Value.int .i64) w' a2 (miL xs.length)) ∧ (∀ w', w4' w' → Below w1.heap.size w1 w') :=
      ⟨fun w' => RowAt (Value.int .i64) w' a2 (miL xs.length) ∧ Below w1.heap.size w1 w', (markI_any w1.heap.size a2 xs.length c2 (intV xs) w1 w3 hl hB3 ho3), fun _ h => h.1, fun _ h => h.2⟩
    clear ho3 hB3
    go_wp2_with fail
    refine hmark.mono ?_
    rintro e w4' ⟨rfl, hw4⟩
    have r4 := ho4 w4' hw4
    have hB := hB4 w4' hw4
    have hwB := hb1.trans (hB.mono hb1.size)
    clear hmark ho4 hB4 hw4 hw3
    go_wp2_with fail
    refine (heldI_is a2 xs.length c2 w4' hl r4).mono ?_
    rintro e w5 ⟨rfl, hb5⟩
    have r5 := r4.later hb5
    have hB5 := hB.trans (hb5.mono hB.size)
    have hwB5 := hwB.trans (hb5.mono hwB.size)
    have r6 := r1.later hB5
    clear r4 hB hwB
    go_wp2_with fail
    refine (h2 _).mono ?_
    rintro e w6 ⟨v2, rfl, ho6, hb6⟩
    obtain ⟨a3, c3, rfl, _, r7⟩ := own_row ho6
    have r8 := r5.later hb6
    have r9 := r6.later hb6
    have hwB6 := hwB5.trans (hb6.mono hwB5.size)
    clear ho6 r5 r6 hwB5
    go_wp2_with fail
    refine (eqI_is a3 a1 c3 c1 xs w6 r7 r9 (by omega)).mono ?_
    rintro e w7 ⟨rfl, hb7⟩
    have r10 := r8.later hb7
    have hwB7 := hwB6.trans (hb7.mono hwB6.size)
    clear r7 r8 r9 hwB6
    go_wp2_with fail
    refine (heldI_is a2 xs.length c2 w7 hl r10).mono ?_
    rintro e w8 ⟨rfl, hb8⟩
    go_wp2
    go_ret
    exact ⟨rfl, hwB7.trans (hb8.mono hwB7.size)⟩

set_option maxRecDepth 100000 in
theorem lifted (os : Os) (started : os.Started) (H : Type) (enc : TypeId × Value → H) :
    ReturnsInHanded {} Try.checked os 17 .any (Rows.fnExactReadNumsSpec.pre6 enc Try.prog Try.f17 Rows.fnExactReadNumsRow.domain false) (Rows.fnExactReadNumsSpec.post enc Try.prog Try.f17 false true false false) := by
  refine returnsInHanded_of_change (C := Try.checked) own started (by kernel_rfl) Try.func17
    (ChangeSpec.witness6 (enc := enc) (C := Try.checked) false ⟨#[], #[.string ByteArray.empty], []⟩ 8 (by kernel_rfl) (by kernel_rfl) (by kernel_rfl) (by kernel_rfl)) ?_
  intro W base args ds gs before hval0 hW hcnd _
  have hval : ∀ (j : Nat) t v, Try.f17.params[j]? = some t → args[j]? = some v → Value.okWide Try.prog W .any base t v := hval0
  have hW' := hW
  obtain ⟨p, q, hA0, hV, rfl, hfz, hnd⟩ := hW
  have hA : DataW.TrodAll enc Try.prog W 0 (fun _ => true) true Try.f17.params.toList args.toList ds p := hA0
  rw [Try.params17] at hA hval
  obtain ⟨v0, vs0, d0, ds0, p0, q0, hargs, rfl, rfl, h0, r0⟩ := trodAll_cons hA
  obtain ⟨rfl, rfl, rfl⟩ := trodAll_nil r0
  obtain rfl : args = #[v0] := by cases args; simp_all
  obtain ⟨rfl, rfl⟩ := trodVars_none hV
  obtain ⟨a0, rfl, rfl, rfl, w0⟩ := open_string Try.underlying9 (hval 0 9 v0 rfl rfl) h0
  clear hA0 hval0
  simp only [List.append_nil] at hW'
  refine (walk a0 w0 W).mono fun e W' ⟨he, hg⟩ => ?_
  subst he
  exact ⟨_, rfl, _, _, _, [], [], [], hW', (trodAll_cons_mk (shut_bool Try.underlying4 _) trodAll_mk0), (trodAll_cons_mk (shut_string Try.underlying9 w0) trodAll_mk0), rfl, hg.frame _, fun h => by cases h⟩

theorem over : Rows.fnExactReadNumsRow.holds Try.pinned (OpenSpec.ofChange Rows.fnExactReadNumsSpec) :=
  OpenClaim.holds_of_wide 17 Try.f17 rfl rfl rfl rfl rfl rfl rfl ⟨rfl, rfl, rfl, rfl, rfl⟩ rfl rfl rfl rfl rfl (by kernel_rfl) Try.func17 (by kernel_rfl)
    (of_decide_eq_true (by kernel_rfl)) (by unfold Func.isWrapper; first | (rw [if_pos (by decide +kernel)]; kernel_rfl) | (rw [if_neg (by decide +kernel)]; exact ⟨rfl, rfl⟩))
    (fun os started H enc _ => lifted os started H enc)

theorem proved : Rows.FnExactReadNumsSaid :=
  over
#print axioms proved
end Go.Proofs.Ytpfloopngndpbaa.fnExactReadNums
