/- The walk of the program's Unhex. -/
import Derived.Test.YtpidfofjjdjkdaiUnhexWalks
import Derived.WalkKit
import Derived.WalkSpells
import Derived.WalkLawsBesides
import Derived.Deep.LoopGhost
import Derived.LoopN
import Derived.WalkMore
set_option linter.unusedVariables false
namespace Go.Proofs.Ytpidfofjjdjkdai
open Go.RowKit Own Hex

set_option maxRecDepth 100000 in
set_option maxHeartbeats 1600000 in
theorem impl_unhex (s : ByteArray) (w : World) (h : s.size ≤ 1048576) :
    Calls Try.prog 15 #[.string s] w fun e w' => e = .returned (.tuple #[.string (unhexT s), .bool (unhexB s)]) ∧ Below w.heap.size w w' := by
  obtain ⟨i0, hi, hz0, hz1, hz2⟩ := info_parts infoU8
  by_cases hodd : s.size % 2 = 1
  · obtain ⟨e1, e2⟩ := unhex_no s (fun hh => by have := hh.1; omega)
    rw [e1, e2]
    clear e1 e2
    have ho : ((s.size : Int) % 2 != 0) = true := by simp; omega
    go_enter Try.func15, Try.ntmps15
    go_wp2
    go_step3
    go_wp2
    rw [Exit.noGoto_ret]
    go_ret2
    exact ⟨rfl, Below.refl _ _⟩
  have ho : ((s.size : Int) % 2 != 0) = false := by simp; omega
  go_enter Try.func15, Try.ntmps15
  go_wp2
  go_step3
  go_wp2_with (first | (at_make; refine wpList_make_own _ rfl _ _ 33 rfl w.heap.size 5 i0 (.int .u8 0) 1 Try.underlying33 hi hz0 hz1 .i64 .i64 _ (s.size / 2) rfl rfl (by omega) (by rw [hz2]; omega) (by unfold maxLen; omega) (Nat.le_refl _) ?_) | go_in)
  intro w0 hown0 hgrow0
  have hbel0 := (Below.refl w.heap.size w).grown hgrow0 (Nat.le_refl _) (by simp)
  clear hgrow0
  go_wp2
  go_step3
  go_wp2
  go_loopw [4, 5, 21] (fun v o i wr => ∃ j : Nat, 2 * j ≤ s.size ∧ i = .int .i64 (j : Int) ∧ o = .bool true ∧ Hid (∀ j', j' < j → good s j') ∧ wr.ownsRow w.heap.size 5 1 v j (bytesOf (outL s j)) ∧ Below w.heap.size w wr) (fun _ _ i _ => s.size - (intOf i).toNat)
  case atStart => exact ⟨0, by omega, rfl, rfl, (fun j' hj => absurd hj (by omega)), hown0, hbel0⟩
  case round =>
    clear hown0 hbel0
    obtain ⟨j, hj, rfl, rfl, G, hown, hbel⟩ := hrel
    by_cases hlt : 2 * j < s.size
    · have hlt2 : 2 * j + 1 < s.size := by omega
      have b1 := dI_bd s[2 * j]
      have b2 := dI_bd s[2 * j + 1]
      have E1 : Hid (dI s[2 * j] = dAt s (2 * j)) := dAt_eq s _ hlt
      have E2 : Hid (dI s[2 * j + 1] = dAt s (2 * j + 1)) := dAt_eq s _ hlt2
      by_cases g1 : 0 ≤ dI s[2 * j]
      · by_cases g2 : 0 ≤ dI s[2 * j + 1]
        · go_wp2
          refine wp_loop_rounds 3 ?_
          rw [rounds_succ]
          go_wp2_with (go_at_call 21; refine (digitOfI _ _).mono ?_; rintro e w' ⟨rfl, rfl⟩)
          rw [rounds_succ]
          go_wp2_with (go_at_call 21; refine (digitOfI _ _).mono ?_; rintro e w' ⟨rfl, rfl⟩)
          rw [rounds_succ]
          go_wp2_with (at_builtin; refine wpList_append_own _ rfl _ _ 33 rfl w.heap.size 5 i0 (.int .u8 0) 1 1 Try.underlying33 hi hz0 hz1 hz2 rfl (by decide) _ _ _ rfl (hown.alloc _) ⟨wr.heap.size, 0, none⟩ 1 1 [.int .u8 (dI s[2 * j] * 16 + dI s[2 * j + 1])] rfl rfl (cell_one_new _ _ _) ?c2 ?c3 ?c4 ?c5 ?_)
          case c2 => intro u hu; simp at hu; subst hu; rfl
          case c3 => unfold maxLen; omega
          case c4 => omega
          case c5 => have := hbel.size; simp; omega
          intro v' w1 hown' hgrow _
          have gg : good s j := ⟨by rw [← E1.out]; exact g1, by rw [← E2.out]; exact g2⟩
          rw [E1.out, E2.out, Int.mul_comm, push_out s j gg] at hown'
          have hb := below_app hbel (Nat.le_refl _) hown hgrow
          have R : ∃ j' : Nat, 2 * j' ≤ s.size ∧ Value.int .i64 ((j : Int) + 1) = .int .i64 (j' : Int) ∧ Value.bool true = .bool true ∧ Hid (∀ j'', j'' < j' → good s j'') ∧ w1.ownsRow w.heap.size 5 1 v' j' (bytesOf (outL s j')) ∧ Below w.heap.size w w1 :=
            ⟨j + 1, by omega, by go_num, rfl, good_succ s j G.out gg, hown', hb⟩
          clear hown' hb hgrow hown hbel G E1 E2 gg
          go_wp2
          go_roundw
          case rel => first | exact R | ((repeat apply Exists.intro); exact ⟨R, rfl⟩)
          case measure => simp [intOf]; omega
        · have hcv := fun (W : World) => conv_own (P := Try.prog) 33 9 5 Try.underlying33 Try.underlying5 Try.underlying9 (W := W) (l := []) (World.ownsRow_nil W 0 5 1)
          go_wp2
          refine wp_loop_rounds 3 ?_
          rw [rounds_succ]
          go_wp2_with (go_at_call 21; refine (digitOfI _ _).mono ?_; rintro e w' ⟨rfl, rfl⟩)
          rw [rounds_succ]
          go_wp2_with (go_at_call 21; refine (digitOfI _ _).mono ?_; rintro e w' ⟨rfl, rfl⟩)
          rw [Exit.noGoto_ret]
          go_ret2
          obtain ⟨e1, e2⟩ := unhex_no s (fun hh => by have := (hh.2 j (by omega)).2; rw [← E2.out] at this; omega)
          exact ⟨ret2 e1.symm e2.symm, hbel⟩
      · have hcv := fun (W : World) => conv_own (P := Try.prog) 33 9 5 Try.underlying33 Try.underlying5 Try.underlying9 (W := W) (l := []) (World.ownsRow_nil W 0 5 1)
        go_wp2
        refine wp_loop_rounds 3 ?_
        rw [rounds_succ]
        go_wp2_with (go_at_call 21; refine (digitOfI _ _).mono ?_; rintro e w' ⟨rfl, rfl⟩)
        rw [Exit.noGoto_ret]
        go_ret2
        obtain ⟨e1, e2⟩ := unhex_no s (fun hh => by have := (hh.2 j (by omega)).1; rw [← E1.out] at this; omega)
        exact ⟨ret2 e1.symm e2.symm, hbel⟩
    · have e : j = s.size / 2 := by omega
      obtain ⟨e1, e2⟩ := unhex_yes s ⟨by omega, fun j' hj' => G.out j' (by omega)⟩
      rw [e] at hown
      have hcv := conv_own (P := Try.prog) 33 9 5 Try.underlying33 Try.underlying5 Try.underlying9 hown
      have X : Hid _ := ret2 e1.symm e2.symm
      clear hown e1 e2 e
      go_wp2
      rw [Exit.noGoto_ret]
      go_ret2
      exact ⟨X.out, hbel⟩

end Go.Proofs.Ytpidfofjjdjkdai
