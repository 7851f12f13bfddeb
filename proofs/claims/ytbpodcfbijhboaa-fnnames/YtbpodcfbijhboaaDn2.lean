/- Names and their text, drawn. -/
import Derived.Test.YtbpodcfbijhboaaDn1
import Derived.Test.YtbpodcfbijhboaaNg2
set_option linter.unusedVariables false
set_option maxRecDepth 100000
namespace Go.Proofs.Ytbpodcfbijhboaa.Nd
open Go Go.RowKit Go.Joins Own Draw Go.Proofs.Ytbpodcfbijhboaa

def Sn (y : TT) : Prop := y.1.2.2.length ≤ 6 ∧ (∀ x ∈ y.1.2.2, x.size ≤ 21) ∧ y.2.size ≤ 21
theorem Sn.sm {y : TT} (h : Sn y) : SmT y := ⟨by have := h.1; omega, fun x hx => by have := h.2.1 x hx; unfold maxLen; omega, by have := h.2.2; unfold maxLen; omega⟩
/-- One name that is drawn from a code. -/
def DnP (B : Nat) (e : Ending) (w' : World) : Prop := ∃ y : TT, e = .returned (vT y) ∧ OwT B w' y ∧ Sn y
theorem sg_small : ∀ y ∈ ([⟨#[47]⟩, ⟨#[64]⟩, ⟨#[92]⟩, ⟨#[47, 97]⟩, ⟨#[64, 98]⟩, ⟨#[92, 97]⟩] : List ByteArray), y.size ≤ 2 := by decide +kernel
set_option maxHeartbeats 3200000 in
theorem drawShow_is (ad : Option Addr) (len cap : Nat) (zs : List Int) (W : World) (hz : CodeAt W W.heap.size ad len zs) :
    Calls Try.prog 10 #[.slice ad len cap] W fun e w' => DnP W.heap.size e w' ∧ Below W.heap.size W w' := by
  obtain ⟨ie, hie, his⟩ := info_T
  obtain ⟨V0, hV0⟩ : ∃ V, W.alloc (.cells #[.slice none 0 0, .string ⟨#[]⟩] 26) = V := ⟨_, rfl⟩
  have s0 : V0.heap.size = W.heap.size + 1 := by rw [← hV0]; simp
  have T0 : Blk W.heap.size [.slice none 0 0, .string ⟨#[]⟩] V0 := by rw [← hV0]; exact Blk.new _ _ _
  have B0 : Below W.heap.size W V0 := by rw [← hV0]; exact (Below.refl _ _).alloc (Nat.le_refl _) _
  have K := newW ad len cap zs V0 ((hz.below B0).lt B0.size)
  clear hz
  go_enter Try.func10, Try.ntmps10
  go_wp2_with fail
  try rw [hV0]
  refine K.mono ?_
  clear K hV0
  rintro e w1 ⟨rfl, C1, b1⟩
  have T1 := T0.later b1 T0.lt
  have B1 := B0.trans (b1.mono B0.size)
  clear b1 T0 B0
  rw [s0] at C1
  have S := name_is w1 C1
  have l1 := C1.lt
  go_wp2_with fail
  try rw [s0]
  refine S.mono ?_
  clear S
  rintro e w2 ⟨y, rfl, oy, sn, C2⟩
  have B2 := B1.trans (C2.2.below (by omega) l1)
  have T2 := T1.only C2.2 T1.lt (by omega)
  have oy2 : OwT (W.heap.size + 1) w2 y := oy.le (by omega)
  clear C2 C1 T1 B1 oy
  obtain ⟨VF, hVF⟩ : ∃ V, w2.setCells W.heap.size 0 [sv2 y, .string y.2] = V := ⟨_, rfl⟩
  have TF : Blk W.heap.size [sv2 y, .string y.2] VF := by rw [← hVF]; exact T2.sets _ rfl
  have BF : Below W.heap.size W VF := by rw [← hVF]; exact below_sets (Nat.le_refl _) _ _ _ B2
  have oF : OwT W.heap.size VF y := by rw [← hVF]; exact (oy2.far (sets_grown W.heap.size _ 0 w2) (by omega)).le (by omega)
  clear oy2 B2
  go_wp2_with (first | (show wpList Try.prog _ _ ({ dst := none, op := Op.store 26 (Operand.tmp 2) (Operand.tmp 7), type := _, pos := _, after := _, guard := _ } :: _) _ _; refine wpList_stB 26 _ _ W.heap.size 0 _ [sv2 y, .string y.2] ie hie T2 his.symm (by simp) rfl rfl rfl rfl rfl ?_; rw [hVF]) | fail)
  exact bodyPost_ret (res_B1 rfl _ _ W.heap.size [sv2 y, .string y.2] ie hie (Try.isAgg26) TF his.symm rfl) rfl ⟨⟨y, rfl, oF, sn⟩, BF⟩
set_option maxHeartbeats 3200000 in
theorem drawRead_is (ad : Option Addr) (len cap : Nat) (zs : List Int) (W : World) (hz : CodeAt W W.heap.size ad len zs) :
    Calls Try.prog 15 #[.slice ad len cap] W fun e w' => (∃ s : ByteArray, e = .returned (.string s) ∧ s.size ≤ 1004) ∧ Below W.heap.size W w' := by
  go_enter Try.func15, Try.ntmps15
  go_wp2_with fail
  refine (newW ad len cap zs W hz).mono ?_
  rintro e w1 ⟨rfl, C1, b1⟩
  clear hz
  obtain ⟨pc, hpc⟩ : ∃ n, W.heap.size = n := ⟨_, rfl⟩
  rw [hpc] at C1 b1 ⊢
  have S := name_is w1 C1
  have l1 := C1.lt
  go_wp2_with fail
  refine S.mono ?_
  clear S
  rintro e w2 ⟨y, rfl, oy, sn, C2⟩
  have B2 := b1.trans (C2.2.below (Nat.le_refl _) l1)
  replace C2 := C2.here
  have KS := specShow_is y w2 oy.dp (Sn.sm sn)
  have hsz := showN_size (stT y)
  clear C1 b1 oy sn
  generalize showN (stT y) = t at *
  go_wp2_with fail
  refine KS.mono ?_
  clear KS
  rintro e w3 ⟨rfl, b3⟩
  have C3 := (C2.under b3).here
  have B3 := B2.trans (b3.mono (by have := B2.size; omega))
  clear C2 B2 b3
  go_wp2_with fail
  refine (belowW 4 C3 (by omega) (by omega)).mono ?_
  rintro e w4 ⟨x, rfl, xa, xb, c4⟩
  have B4 := B3.trans (c4.2.below (Nat.le_refl _) C3.lt)
  have C4 := c4.here
  clear C3 B3 c4
  by_cases h0 : x = 0
  · have q0 : (x == 0) = true := by rw [beq_iff_eq]; exact h0
    clear h0
    go_wp2_with fail
    refine (spoilW t C4 (by omega)).mono ?_
    rintro e w5 ⟨s, rfl, hs, c5⟩
    have B5 := B4.trans (c5.2.below (Nat.le_refl _) C4.lt)
    clear c5 C4 B4
    go_wp2
    go_ret
    exact ⟨⟨s, rfl, hs⟩, by rw [hpc]; exact B5⟩
  · have q0 : (x == 0) = false := by rw [beq_eq_false_iff_ne]; exact h0
    by_cases h1 : x = 1
    · have q1 : (x == 1) = true := by rw [beq_iff_eq]; exact h1
      clear h0 h1
      obtain ⟨U, hU⟩ : ∃ U, w4.alloc (.cells #[.string ⟨#[47]⟩, .string ⟨#[64]⟩, .string ⟨#[92]⟩, .string ⟨#[47, 97]⟩, .string ⟨#[64, 98]⟩, .string ⟨#[92, 97]⟩] 9) = U := ⟨_, rfl⟩
      have TU : Blk w4.heap.size [.string ⟨#[47]⟩, .string ⟨#[64]⟩, .string ⟨#[92]⟩, .string ⟨#[47, 97]⟩, .string ⟨#[64, 98]⟩, .string ⟨#[92, 97]⟩] U := by rw [← hU]; exact Blk.new _ _ _
      have CU : Cu pc ad len cap zs U U := by rw [← hU]; exact (C4.alloc _).here
      have BU : Below pc W U := by rw [← hU]; exact B4.alloc (by have := B4.size; omega) _
      have hDU : w4.heap.size < U.heap.size := by rw [← hU]; simp
      have HP := pickS w4.heap.size 6 [⟨#[47]⟩, ⟨#[64]⟩, ⟨#[92]⟩, ⟨#[47, 97]⟩, ⟨#[64, 98]⟩, ⟨#[92, 97]⟩] CU (by omega) (by omega) C4.lt hDU rfl TU
      have lU := CU.lt
      clear C4 B4 TU
      go_wp2_with fail
      try rw [hU]
      refine HP.mono ?_
      clear HP hU hDU
      rintro e w5 ⟨s, hs, rfl, c5⟩
      have hs2 := sg_small s hs
      have B5 := BU.trans (c5.2.below (Nat.le_refl _) lU)
      have hsum : t.size + s.size ≤ 9223372036854775807 := by omega
      have hts : (t ++ s).size ≤ 1004 := by rw [ByteArray.size_append]; omega
      clear c5 CU BU hs
      go_wp2
      go_ret
      exact ⟨⟨t ++ s, rfl, hts⟩, by rw [hpc]; exact B5⟩
    · have q1 : (x == 1) = false := by rw [beq_eq_false_iff_ne]; exact h1
      clear C4 h0 h1
      go_wp2
      go_ret
      exact ⟨⟨t, rfl, by omega⟩, by rw [hpc]; exact B4⟩
end Go.Proofs.Ytbpodcfbijhboaa.Nd
