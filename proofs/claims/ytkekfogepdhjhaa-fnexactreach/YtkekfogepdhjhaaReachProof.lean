/- Whatever is handed to Reach as what is known, the program answers as the model of the document does, writes into none of it, and what it answers is its own: no condition. -/
import Derived.Test.YtkekfogepdhjhaaRows
import Derived.Test.YtkekfogepdhjhaaReach1
import Derived.WalkKit
import Derived.ProofKit
import Derived.SliceStrings
import Derived.OpenShut
import Derived.ShutString
import Derived.ChangeOld
import Derived.Below
import Derived.Lib.SmallJoins
namespace Go.Proofs.Ytkekfogepdhjhaa.fnExactReach
open Go.ChangeShapes Go.WideShapes Go.ChangeAt Go.RowKit Go.Joins
open Go.ChangeMaps (open_string shut_string)
set_option linter.unusedVariables false

theorem own : ownKnob Try.prog.godebug = none := by kernel_rfl
theorem laidOut : laidOutB Try.prog = true := by kernel_rfl
theorem cells38 : Try.prog.cellsOf 38 = 2 := by kernel_rfl

/-- What the walk is told of the texts that came in. -/
def IsRow (w : World) (a : Option Addr) (len cap : Nat) (xs : List ByteArray) : Prop :=
  xs.length = len ∧ len ≤ cap ∧ len ≤ maxLen ∧ RowAt Value.string w a xs ∧ ∀ x ∈ xs, x.size ≤ maxLen
/-- And of the numbers. -/
def IsNums (w : World) (a : Option Addr) (len cap : Nat) (zs : List Int) : Prop :=
  zs.length = len ∧ len ≤ cap ∧ len ≤ maxLen ∧ RowAt (Value.int .i64) w a zs

theorem row_of {w : World} {x : Addr} {len cap : Nat} {ss : List ByteArray} (hl : len ≤ cap) (hm : cap ≤ maxLen) (hz : len ≤ ss.length)
    (hcell : ∀ i, i < ss.length → w.cell? (x.add i) = some (.string (ss.getD i ByteArray.empty))) (hs : ∀ s ∈ ss, s.size ≤ maxLen) : IsRow w (some x) len cap (ss.take len) := by
  refine ⟨by rw [List.length_take]; omega, hl, Nat.le_trans hl hm, fun j hj => ?_, fun y hy => hs y (List.mem_of_mem_take hy)⟩
  rw [List.length_take] at hj
  obtain ⟨b, off, spot⟩ := x
  have hjz : j < ss.length := by omega
  have hc := hcell j hjz
  have hc0 := hcell 0 (by omega)
  have hsp : spot = none := by simpa [Addr.add] using World.cell?_spot hc0
  subst hsp
  have e : (⟨b, off, none⟩ : Addr).add j = ⟨b, off + j, none⟩ := by simp only [Addr.add]; split <;> simp_all
  rw [e] at hc
  refine ⟨b, off, rfl, World.block_lt_of_cell? w _ hc, ?_⟩
  rw [hc, List.getElem_take]
  simp [List.getD, hjz]
theorem nums_of {w : World} {x : Addr} {len cap : Nat} {zs : List Int} (hl : len ≤ cap) (hm : cap ≤ maxLen) (hz : len ≤ zs.length)
    (hcell : ∀ i, i < zs.length → w.cell? (x.add i) = some (.int .i64 (zs.getD i 0))) : IsNums w (some x) len cap (zs.take len) := by
  refine ⟨by rw [List.length_take]; omega, hl, Nat.le_trans hl hm, fun j hj => ?_⟩
  rw [List.length_take] at hj
  obtain ⟨b, off, spot⟩ := x
  have hjz : j < zs.length := by omega
  have hc := hcell j hjz
  have hc0 := hcell 0 (by omega)
  have hsp : spot = none := by simpa [Addr.add] using World.cell?_spot hc0
  subst hsp
  have e : (⟨b, off, none⟩ : Addr).add j = ⟨b, off + j, none⟩ := by simp only [Addr.add]; split <;> simp_all
  rw [e] at hc
  refine ⟨b, off, rfl, World.block_lt_of_cell? w _ hc, ?_⟩
  rw [hc, List.getElem_take]
  simp [List.getD, hjz]

set_option maxRecDepth 100000 in
set_option maxHeartbeats 1600000 in
theorem walk (a0 b0 : Option Addr) (l0 c0 l1 c1 : Nat) (xs : List ByteArray) (ks : List Int) (w : World) (w0 : IsRow w a0 l0 c0 xs) (w1 : IsNums w b0 l1 c1 ks) :
    Calls Try.prog 7 #[.agg #[.slice a0 l0 c0, .slice b0 l1 c1]] w fun e w' => e = .returned (.bool true) ∧ Below w.heap.size w w' := by
  obtain ⟨rfl, hcap, hm, hr, hs⟩ := w0
  obtain ⟨rfl, hcap2, hm2, hq⟩ := w1
  exact reach_walk a0 b0 c0 c1 xs ks w hr hq hm hm2 hs

set_option maxRecDepth 100000 in
theorem lifted (os : Os) (started : os.Started) (H : Type) (enc : TypeId × Value → H) :
    ReturnsInHanded {} Try.checked os 7 .any (Rows.fnExactReachSpec.pre6 enc Try.prog Try.f7 Rows.fnExactReachRow.domain false) (Rows.fnExactReachSpec.post enc Try.prog Try.f7 false true false false) := by
  refine returnsInHanded_of_change (C := Try.checked) own started (by kernel_rfl) Try.func7
    (ChangeSpec.witness6 (enc := enc) (C := Try.checked) false ⟨#[], #[.agg #[.slice none 0 0, .slice none 0 0]], []⟩ 8 (by kernel_rfl) (by kernel_rfl) (by kernel_rfl) (by kernel_rfl)) ?_
  intro W base args ds gs before hval0 hW hcnd _
  have hval : ∀ (j : Nat) t v, Try.f7.params[j]? = some t → args[j]? = some v → Value.okWide Try.prog W .any base t v := hval0
  have hW' := hW
  obtain ⟨p, q, hA0, hV, rfl, hfz, hnd⟩ := hW
  have hA : DataW.TrodAll enc Try.prog W 0 (fun _ => true) true Try.f7.params.toList args.toList ds p := hA0
  rw [Try.params7] at hA hval
  obtain ⟨v0, vs0, d0, ds0, p0, q0, hargs, rfl, rfl, h0, r0⟩ := trodAll_cons hA
  obtain ⟨rfl, rfl, rfl⟩ := trodAll_nil r0
  obtain rfl : args = #[v0] := by cases args; simp_all
  obtain ⟨rfl, rfl⟩ := trodVars_none hV
  have k0 := h0
  have lt0 : ∀ x ∈ p0, x.block < W.heap.size := by obtain ⟨m, hm⟩ := k0; exact DataW.trod_lt m _ _ _ hm
  obtain ⟨a0, l0, c0, b0, l1, c1, xs, ks, rfl, w0, w1⟩ : ∃ a0 l0 c0 b0 l1 c1 xs ks, v0 = .agg #[.slice a0 l0 c0, .slice b0 l1 c1] ∧ IsRow W a0 l0 c0 xs ∧ IsNums W b0 l1 c1 ks := by
    obtain ⟨x0, x1, y0, y1, m, rfl, _, _, hy0, hy1⟩ := open_agg2 Try.underlying38 (by kernel_rfl) cells38 (hval 0 38 v0 rfl rfl) h0
    have A0 : ∃ a l c xs, x0 = .slice a l c ∧ IsRow W a l c xs := by
      rcases open_strings Try.underlying24 Try.underlying9 (by kernel_rfl) hy0 with ⟨hcs, _⟩ | ⟨x, l, c, ss, hcs, _, hl, hm, hz, _, hcell, hsz⟩
      · simp at hcs
        subst hcs
        exact ⟨none, 0, 0, [], rfl, rfl, Nat.le_refl _, by unfold maxLen; omega, RowAt.nil _ _, fun x hx => by simp at hx⟩
      · simp at hcs
        subst hcs
        exact ⟨_, _, _, _, rfl, row_of hl hm (by rw [hz]; split <;> omega) hcell hsz⟩
    have A1 : ∃ a l c xs, x1 = .slice a l c ∧ IsNums W a l c xs := by
      rcases open_ints Try.underlying25 Try.underlying3 (by kernel_rfl) hy1 with ⟨hcs, _⟩ | ⟨x, l, c, zs, hcs, _, hl, hm, hz, _, hcell, hwz⟩
      · simp at hcs
        subst hcs
        exact ⟨none, 0, 0, [], rfl, rfl, Nat.le_refl _, by unfold maxLen; omega, RowAt.nil _ _⟩
      · simp at hcs
        subst hcs
        exact ⟨_, _, _, _, rfl, nums_of hl hm (by rw [hz]; split <;> omega) hcell⟩
    obtain ⟨a, l, c, xs, rfl, h1⟩ := A0
    obtain ⟨b, m, d, ks, rfl, h2⟩ := A1
    exact ⟨a, l, c, b, m, d, xs, ks, rfl, h1, h2⟩
  clear hA0 hval0
  refine (walk a0 b0 l0 c0 l1 c1 xs ks W w0 w1).mono fun e W' ⟨he, bel⟩ => ?_
  subst he
  exact ⟨_, rfl, _, _, _, [], _, [], hW', trodAll_mk1 (shut_bool Try.underlying4 _), (trodAll_cons_mk (Below.trod laidOut (by kernel_rfl) (of_decide_eq_true (by kernel_rfl)) k0 bel lt0) trodAll_mk0), rfl, bel.frame _, fun h => by cases h⟩

theorem over : Rows.fnExactReachRow.holds Try.pinned (OpenSpec.ofChange Rows.fnExactReachSpec) :=
  OpenClaim.holds_of_wide 7 Try.f7 rfl rfl rfl rfl rfl rfl rfl ⟨rfl, rfl, rfl, rfl, rfl⟩ rfl rfl rfl rfl rfl (by kernel_rfl) Try.func7 (by kernel_rfl)
    (of_decide_eq_true (by kernel_rfl)) (by unfold Func.isWrapper; first | (rw [if_pos (by decide +kernel)]; kernel_rfl) | (rw [if_neg (by decide +kernel)]; exact ⟨rfl, rfl⟩))
    (fun os started H enc _ => lifted os started H enc)

theorem proved : Rows.FnExactReachSaid := over
#print axioms proved
end Go.Proofs.Ytkekfogepdhjhaa.fnExactReach
