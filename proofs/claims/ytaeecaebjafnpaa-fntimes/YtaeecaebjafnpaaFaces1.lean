/- Atoms, keys, sealed terms and numbers in them: the program and the model, one contract each. -/
import Derived.Test.YtaeecaebjafnpaaOk
import Derived.Test.YtaeecaebjafnpaaClone
set_option linter.unusedVariables false
namespace Go.Proofs.Ytaeecaebjafnpaa
open Go.RowKit Own Var Term

theorem clone_is (s : ByteArray) (w : World) (h : s.size ≤ 1048576) : Calls Try.prog 62 #[.string s] w fun e w' => e = .returned (.string s) ∧ Below w.heap.size w w' := by
  go_enter Try.func62, Try.ntmps62
  go_wp2_with (go_at_call 82; refine (Try.stringslite_Clone s _ (by omega)).mono ?_; rintro e w1 ⟨rfl, hb⟩)
  go_ret
  exact ⟨rfl, hb⟩

theorem enc97 : Utf8.encode 97 = ⟨#[97]⟩ := by decide
theorem enc107 : Utf8.encode 107 = ⟨#[107]⟩ := by decide
theorem enc108 : Utf8.encode 108 = ⟨#[108]⟩ := by decide
theorem enc115 : Utf8.encode 115 = ⟨#[115]⟩ := by decide
theorem small {a b : Nat} (ha : a ≤ 4194304) (hb : b ≤ 4194304) : ¬ 9223372036854775807 < a + b := by omega
theorem head_is (c : Int) (b : UInt8) (hc : Utf8.encode c = ⟨#[b]⟩) (n : Int) (w : World) :
    Calls Try.prog 69 #[.int .i32 c, .int .i64 n] w fun e w' => e = .returned (.string (hdT b n)) ∧ Below w.heap.size w w' := by
  have hcv : ∀ w : World, (convert 21 9 (.int .i32 c)).run Try.prog w = .ok (.string ⟨#[b]⟩) w := fun w => by rw [run_convert_int_string w 21 9 .i32 c (by rw [Try.underlying21]; rfl) Try.underlying9, hc]
  have hv := varOf_size n
  have h1 : ¬ 9223372036854775807 < 1 + (varOf n).size := by omega
  go_enter Try.func69, Try.ntmps69
  go_wp2_with fail
  refine (impl_var n _).mono ?_
  rintro e w1 ⟨rfl, hb⟩
  go_wp2
  go_ret
  exact ⟨rfl, hb⟩

/-! Atoms -/
set_option maxRecDepth 100000 in
theorem impl_atom (d : ByteArray) (w : World) (h : d.size ≤ 1048576) : Calls Try.prog 66 #[.string d] w fun e w' => e = .returned (.string (atomT d)) ∧ Below w.heap.size w w' := by
  have hz := hdT_size 97 d.size
  have hv := varOf_size d.size
  have h1 : ¬ 9223372036854775807 < (hdT 97 d.size).size + d.size := by omega
  go_enter Try.func66, Try.ntmps66
  go_wp2_with fail
  refine (head_is 97 97 enc97 _ _).mono ?_
  rintro e w1 ⟨rfl, hb⟩
  go_wp2_with fail
  refine (impl_or (hdT 97 d.size ++ d) _ (by rw [ByteArray.size_append]; omega)).mono ?_
  rintro e w2 ⟨rfl, hb2⟩
  go_wp2
  go_ret
  exact ⟨rfl, hb.trans (hb2.mono hb.size)⟩
set_option maxRecDepth 100000 in
theorem spec_atom (d : ByteArray) (w : World) (h : d.size ≤ 1048576) : Calls Try.prog 76 #[.string d] w fun e w' => e = .returned (.string (atomT d)) ∧ Below w.heap.size w w' := by
  by_cases hd : 40 < d.size
  · rw [atomT_big d hd h]
    have hd' : (40 : Int) < (d.size : Int) := by omega
    go_enter Try.func76, Try.ntmps76
    go_wp2
    go_ret
    exact ⟨rfl, Below.refl _ _⟩
  · have hz := hdT_size 97 d.size
    have hv := varOf_size d.size
    have h1 : ¬ 9223372036854775807 < 1 + (varOf d.size).size := by omega
    have h2 : ¬ 9223372036854775807 < 1 + (varOf d.size).size + d.size := by omega
    have hd' : (d.size : Int) ≤ 40 := by omega
    go_enter Try.func76, Try.ntmps76
    go_wp2_with fail
    refine (spec_var _ _).mono ?_
    rintro e w1 ⟨rfl, hb⟩
    go_wp2_with fail
    refine (spec_or (hdT 97 d.size ++ d) _ (by rw [ByteArray.size_append]; omega)).mono ?_
    rintro e w2 ⟨rfl, hb2⟩
    go_wp2
    go_ret
    exact ⟨rfl, hb.trans (hb2.mono hb.size)⟩

/-! Keys -/
set_option maxRecDepth 100000 in
theorem impl_num (n : Int) (w : World) : Calls Try.prog 52 #[.int .i64 n] w fun e w' => e = .returned (.string (numT n)) ∧ Below w.heap.size w w' := by
  have hv := varOf_size n
  unfold numT
  by_cases h0 : (varOf n).size = 0
  · rw [if_pos h0]
    have hne := nil_size _ h0
    go_enter Try.func52, Try.ntmps52
    go_wp2_with fail
    refine (impl_var n _).mono ?_
    rintro e w1 ⟨rfl, hb⟩
    go_wp2
    go_ret
    exact ⟨rfl, hb⟩
  · rw [if_neg h0]
    have hne := ne_nil (varOf n) (by omega)
    go_enter Try.func52, Try.ntmps52
    go_wp2_with fail
    refine (impl_var n _).mono ?_
    rintro e w1 ⟨rfl, hb⟩
    go_wp2_with fail
    refine (impl_atom (varOf n) _ (by omega)).mono ?_
    rintro e w2 ⟨rfl, hb2⟩
    go_wp2
    go_ret
    exact ⟨rfl, hb.trans (hb2.mono hb.size)⟩
set_option maxRecDepth 100000 in
theorem spec_num (n : Int) (w : World) : Calls Try.prog 57 #[.int .i64 n] w fun e w' => e = .returned (.string (numT n)) ∧ Below w.heap.size w w' := by
  have hv := varOf_size n
  unfold numT
  by_cases h0 : (varOf n).size = 0
  · rw [if_pos h0]
    have hne := nil_size _ h0
    go_enter Try.func57, Try.ntmps57
    go_wp2_with fail
    refine (spec_var n _).mono ?_
    rintro e w1 ⟨rfl, hb⟩
    go_wp2
    go_ret
    exact ⟨rfl, hb⟩
  · rw [if_neg h0]
    have hne := ne_nil (varOf n) (by omega)
    go_enter Try.func57, Try.ntmps57
    go_wp2_with fail
    refine (spec_var n _).mono ?_
    rintro e w1 ⟨rfl, hb⟩
    go_wp2_with fail
    refine (spec_atom (varOf n) _ (by omega)).mono ?_
    rintro e w2 ⟨rfl, hb2⟩
    go_wp2
    go_ret
    exact ⟨rfl, hb.trans (hb2.mono hb.size)⟩
end Go.Proofs.Ytaeecaebjafnpaa
