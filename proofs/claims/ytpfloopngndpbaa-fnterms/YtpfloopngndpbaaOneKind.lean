/- The law on kinds: the walk. -/
import Derived.Test.YtpfloopngndpbaaDrawn
import Derived.Test.YtpfloopngndpbaaTrip2
import Derived.LoopN
set_option linter.unusedVariables false
namespace Go.Proofs.Ytpfloopngndpbaa
open Go.RowKit Own Var Term

theorem big_go (a : Option Addr) (len cap : Nat) (W : World) (h : len ≤ 1048576) :
    Calls Try.prog 18 #[.slice a len cap] W fun e w' => e = .returned (.bool false) ∧ W = w' := by
  have hd : decide ((1048576 : Int) < (len : Int)) = false := by simp; omega
  go_enter Try.func18, Try.ntmps18
  go_wp2
  go_ret
  exact ⟨rfl, rfl⟩
theorem big_yes (a : Option Addr) (len cap : Nat) (W : World) (h : 1048576 < len) (h2 : len ≤ maxLen) :
    Calls Try.prog 18 #[.slice a len cap] W fun e w' => e = .returned (.bool true) ∧ W = w' := by
  unfold maxLen at h2
  have hd : decide ((1048576 : Int) < (len : Int)) = true := by simp; omega
  go_enter Try.func18, Try.ntmps18
  go_wp2
  go_ret
  exact ⟨rfl, rfl⟩

set_option maxRecDepth 100000 in
set_option maxHeartbeats 3200000 in
theorem onekind_at (a : Option Addr) (len cap : Nat) (zs : List Int) (W : World) (hl : len ≤ 1048576) (hz : Draw.CodeAt W W.heap.size a len zs) :
    Calls Try.prog 4 #[.slice a len cap] W fun e w' => e = .returned (.bool true) ∧ Below W.heap.size W w' := by
  have HZ : Hid (Draw.CodeAt W W.heap.size a len zs) := hz
  clear hz
  go_enter Try.func4, Try.ntmps4
  go_wp2_with fail
  refine (big_go a len cap W hl).mono ?_
  rintro e w0 ⟨rfl, rfl⟩
  go_wp2_with fail
  refine (Draw.drawTermOk a len cap zs W HZ.out).mono ?_
  rintro e w1 ⟨S, rfl, hS, hb1⟩
  have hA := fun w => impl_readAtom S w (by omega)
  have hB := fun w => impl_readKey S w (by omega)
  have hC := fun w => impl_parts S w (by omega)
  have hO := fun (i : Int) w => impl_open S i w (by omega)
  have hT := fun w => impl_ok S w (by omega)
  have hU := fun w => spec_ok S w (by omega)
  have kA := atom_kind S
  have kB := key_kind S
  have kC := list_kind S
  have bB := key_back S
  have bC := list_back S
  have lC := parts_len S
  have zC := parts_size S
  generalize (atomR S).1 = A1 at *
  generalize (atomR S).2 = A at *
  generalize (keyR S).1 = K at *
  generalize (keyR S).2 = B at *
  generalize (partsR S).1 = xs at *
  generalize (partsR S).2 = C at *
  have KA : Hid (A = true → isT S = true ∧ at_ S 0 = 97) := kA
  have KB : Hid (B = true → isT S = true ∧ at_ S 0 = 107) := kB
  have KC : Hid (C = true → isT S = true ∧ at_ S 0 = 108) := kC
  have BB : Hid (B = true → keyT K = S) := bB
  have BC : Hid (C = true → listT xs = S) := bC
  have ZC : Hid (∀ x ∈ xs, x.size ≤ 900) := zC
  clear kA kB kC bB bC zC HZ
  go_wp2_with fail
  refine (hA _).mono ?_
  rintro e w2 ⟨rfl, hb2⟩
  have hw2 := hb1.trans (hb2.mono hb1.size)
  clear hb1 hb2 hA
  go_wp2_with fail
  refine (hB _).mono ?_
  rintro e w3 ⟨rfl, hb3⟩
  have hw3 := hw2.trans (hb3.mono hw2.size)
  clear hw2 hb3 hB
  go_wp2_with fail
  refine (hC _).mono ?_
  rintro e w4 ⟨v, rfl, ho, hb4⟩
  have hw4 := hw3.trans (hb4.mono hw3.size)
  obtain ⟨la, lc, rfl, hlc, hrow⟩ := own_row ho
  clear hw3 hb4 hC ho
  go_wp2
  go_loopw [10, 11] (fun d i wr => ∃ (k : Int) (D : Bool), 1 ≤ k ∧ k ≤ 8 ∧ i = .int .i64 k ∧ d = .bool D ∧ Hid (D = true → isT S = true ∧ at_ S 0 = 115) ∧ Below w4.heap.size w4 wr) (fun _ i _ => (8 - intOf i).toNat)
  case atStart => exact ⟨1, false, by omega, by omega, rfl, rfl, (fun h => absurd h (by decide)), Below.refl _ _⟩
  case round =>
    obtain ⟨k, D, k1, k8, rfl, rfl, KD, hbel⟩ := hrel
    by_cases hlt : k < 8
    · have hOk := fun w => hO k w
      have sk := seal_kind S k
      have sb := seal_back S k
      generalize (openR S k).1 = t at hOk sb
      generalize (openR S k).2 = f at hOk sk sb
      have hSe := fun w h => impl_seal k t w h
      cases f with
      | false =>
        clear sk sb hSe
        go_wp2_with fail
        refine (hOk _).mono ?_
        rintro e w5 ⟨rfl, hb5⟩
        have hb6 := hbel.trans (hb5.mono hbel.size)
        cases D with
        | false =>
          clear KD
          go_wp2
          go_roundw
          case rel =>
            have R : ∃ (k' : Int) (D' : Bool), 1 ≤ k' ∧ k' ≤ 8 ∧ Value.int .i64 (k + 1) = .int .i64 k' ∧ Value.bool false = .bool D' ∧ Hid (D' = true → isT S = true ∧ at_ S 0 = 115) ∧ Below w4.heap.size w4 w5 := ⟨k + 1, false, by omega, by omega, rfl, rfl, (fun h => absurd h (by decide)), hb6⟩
            first | exact R | ((repeat apply Exists.intro); exact ⟨R, rfl⟩)
          case measure => simp [intOf]; omega
        | true =>
          have KD2 : Hid (isT S = true ∧ at_ S 0 = 115) := KD.out rfl
          clear KD
          go_wp2
          go_roundw
          case rel =>
            have R : ∃ (k' : Int) (D' : Bool), 1 ≤ k' ∧ k' ≤ 8 ∧ Value.int .i64 (k + 1) = .int .i64 k' ∧ Value.bool true = .bool D' ∧ Hid (D' = true → isT S = true ∧ at_ S 0 = 115) ∧ Below w4.heap.size w4 w5 := ⟨k + 1, true, by omega, by omega, rfl, rfl, (fun _ => KD2.out), hb6⟩
            first | exact R | ((repeat apply Exists.intro); exact ⟨R, rfl⟩)
          case measure => simp [intOf]; omega
      | true =>
        have SK : Hid (isT S = true ∧ at_ S 0 = 115) := sk rfl
        have hSt := sb rfl
        have htz : t.size ≤ 1048576 := by
          have h1 : (sealT k t).size = S.size := by rw [hSt]
          by_cases hc : t.size ≤ 1048576
          · exact hc
          · exfalso
            have h3 : (sealT k t).size ≠ 0 := by
              rw [h1]
              have := not_empty ((isT_iff S).1 SK.out.1)
              omega
            unfold sealT at h1 h3
            split at h1
            · rename_i hk
              rw [if_pos hk] at h3
              rw [(okOr_full h3).2, ByteArray.size_append] at h1
              omega
            · rename_i hk
              rw [if_neg hk] at h3
              exact h3 rfl
        have hSe2 := fun w => hSe w htz
        rw [hSt] at hSe2
        clear sk sb hSe hSt
        go_wp2_with fail
        refine (hOk _).mono ?_
        rintro e w5 ⟨rfl, hb5⟩
        have hb6 := hbel.trans (hb5.mono hbel.size)
        go_wp2_with fail
        refine (hSe2 _).mono ?_
        rintro e w6 ⟨rfl, hb7⟩
        have hb8 := hb6.trans (hb7.mono hb6.size)
        clear KD
        cases D
        all_goals
          go_wp2
          go_roundw
          case rel =>
            have R : ∃ (k' : Int) (D' : Bool), 1 ≤ k' ∧ k' ≤ 8 ∧ Value.int .i64 (k + 1) = .int .i64 k' ∧ Value.bool true = .bool D' ∧ Hid (D' = true → isT S = true ∧ at_ S 0 = 115) ∧ Below w4.heap.size w4 w6 := ⟨k + 1, true, by omega, by omega, rfl, rfl, (fun _ => SK.out), hb8⟩
            first | exact R | ((repeat apply Exists.intro); exact ⟨R, rfl⟩)
          case measure => simp [intOf]; omega
    · have hw5 := hw4.trans (hbel.mono hw4.size)
      have hrow5 := hrow.later hbel
      clear hO hw4 hbel hrow
      have hcases : (A = false ∧ B = false ∧ C = false ∧ D = false) ∨ (A = true ∧ B = false ∧ C = false ∧ D = false ∧ isT S = true) ∨ (A = false ∧ B = true ∧ C = false ∧ D = false ∧ isT S = true) ∨ (A = false ∧ B = false ∧ C = true ∧ D = false ∧ isT S = true) ∨ (A = false ∧ B = false ∧ C = false ∧ D = true ∧ isT S = true) := by
        have ka := KA.out
        have kb := KB.out
        have kc := KC.out
        have kd := KD.out
        cases A <;> cases B <;> cases C <;> cases D <;> simp_all
      clear KA KB KC KD
      rcases hcases with ⟨rfl, rfl, rfl, rfl⟩ | ⟨rfl, rfl, rfl, rfl, hS1⟩ | ⟨rfl, rfl, rfl, rfl, hS1⟩ | ⟨rfl, rfl, rfl, rfl, hS1⟩ | ⟨rfl, rfl, rfl, rfl, hS1⟩
      · clear BB BC ZC
        have hb6 := hw5.alloc hw5.size (.cells #[.bool false, .bool false, .bool false, .bool false] 4)
        rcases Bool.eq_false_or_eq_true (isT S) with hI | hI
        all_goals
          rw [hI] at hT hU
          go_wp2
          refine wp_loop_rounds 5 ?_
          rw [rounds_succ]
          go_wp2
          rw [rounds_succ]
          go_wp2
          rw [rounds_succ]
          go_wp2
          rw [rounds_succ]
          go_wp2
          rw [rounds_succ]
          go_wp2_with fail
          refine (hT _).mono ?_
          rintro e w6 ⟨rfl, hb7⟩
          have hb8 := hb6.trans (hb7.mono hb6.size)
          go_wp2_with fail
          refine (hU _).mono ?_
          rintro e w7 ⟨rfl, hb9⟩
          have hb10 := hb8.trans (hb9.mono hb8.size)
          go_wp2
          go_ret
          exact ⟨rfl, hb10⟩
      · have hb6 := hw5.alloc hw5.size (.cells #[.bool true, .bool false, .bool false, .bool false] 4)
        rw [hS1] at hT hU
        clear BB BC ZC hrow5
        go_wp2
        refine wp_loop_rounds 5 ?_
        rw [rounds_succ]
        go_wp2
        rw [rounds_succ]
        go_wp2
        rw [rounds_succ]
        go_wp2
        rw [rounds_succ]
        go_wp2
        rw [rounds_succ]
        go_wp2_with fail
        refine (hT _).mono ?_
        rintro e w6 ⟨rfl, hb7⟩
        have hb8 := hb6.trans (hb7.mono hb6.size)
        go_wp2_with fail
        refine (hT _).mono ?_
        rintro e w7 ⟨rfl, hb9⟩
        have hb10 := hb8.trans (hb9.mono hb8.size)
        go_wp2_with fail
        refine (hU _).mono ?_
        rintro e w8 ⟨rfl, hb11⟩
        have hb12 := hb10.trans (hb11.mono hb10.size)
        go_wp2
        go_ret
        exact ⟨rfl, hb12⟩
      · have hb6 := hw5.alloc hw5.size (.cells #[.bool false, .bool true, .bool false, .bool false] 4)
        rw [hS1] at hT hU
        have HK : Hid (keyT K = S) := BB.out rfl
        clear BB BC ZC hrow5
        go_wp2
        refine wp_loop_rounds 5 ?_
        rw [rounds_succ]
        go_wp2
        rw [rounds_succ]
        go_wp2
        rw [rounds_succ]
        go_wp2
        rw [rounds_succ]
        go_wp2
        rw [rounds_succ]
        go_wp2_with fail
        refine (hT _).mono ?_
        rintro e w6 ⟨rfl, hb7⟩
        have hb8 := hb6.trans (hb7.mono hb6.size)
        go_wp2_with fail
        refine (hT _).mono ?_
        rintro e w7 ⟨rfl, hb9⟩
        have hb10 := hb8.trans (hb9.mono hb8.size)
        go_wp2_with fail
        refine (hU _).mono ?_
        rintro e w8 ⟨rfl, hb11⟩
        have hb12 := hb10.trans (hb11.mono hb10.size)
        go_wp2_with fail
        refine (impl_key K _).mono ?_
        rw [HK.out]
        rintro e w9 ⟨rfl, hb13⟩
        have hb14 := hb12.trans (hb13.mono hb12.size)
        go_wp2
        go_ret
        exact ⟨rfl, hb14⟩
      · have hb6 := hw5.alloc hw5.size (.cells #[.bool false, .bool false, .bool true, .bool false] 4)
        rw [hS1] at hT hU
        have HLs : Hid (listT xs = S) := BC.out rfl
        have hs2 : ∀ x ∈ xs, x.size ≤ 1048576 := fun x hx => by have := ZC.out x hx; omega
        have hrow6 := hrow5.later ((Below.refl wr.heap.size wr).alloc (Nat.le_refl _) (.cells #[.bool false, .bool false, .bool true, .bool false] 4))
        have hLi := fun w h => impl_list la lc xs w h (by omega) hlc hs2
        clear hs2
        clear BB BC ZC hrow5
        go_wp2
        refine wp_loop_rounds 5 ?_
        rw [rounds_succ]
        go_wp2
        rw [rounds_succ]
        go_wp2
        rw [rounds_succ]
        go_wp2
        rw [rounds_succ]
        go_wp2
        rw [rounds_succ]
        go_wp2_with fail
        refine (hT _).mono ?_
        rintro e w6 ⟨rfl, hb7⟩
        have hb8 := hb6.trans (hb7.mono hb6.size)
        go_wp2_with fail
        refine (hT _).mono ?_
        rintro e w7 ⟨rfl, hb9⟩
        have hb10 := hb8.trans (hb9.mono hb8.size)
        go_wp2_with fail
        refine (hU _).mono ?_
        rintro e w8 ⟨rfl, hb11⟩
        have hb12 := hb10.trans (hb11.mono hb10.size)
        have hrow9 := ((hrow6.later hb7).later hb9).later hb11
        go_wp2_with fail
        refine (hLi _ hrow9).mono ?_
        rw [HLs.out]
        rintro e w9 ⟨rfl, hb13⟩
        have hb14 := hb12.trans (hb13.mono hb12.size)
        go_wp2
        go_ret
        exact ⟨rfl, hb14⟩
      · have hb6 := hw5.alloc hw5.size (.cells #[.bool false, .bool false, .bool false, .bool true] 4)
        rw [hS1] at hT hU
        clear BB BC ZC hrow5
        go_wp2
        refine wp_loop_rounds 5 ?_
        rw [rounds_succ]
        go_wp2
        rw [rounds_succ]
        go_wp2
        rw [rounds_succ]
        go_wp2
        rw [rounds_succ]
        go_wp2
        rw [rounds_succ]
        go_wp2_with fail
        refine (hT _).mono ?_
        rintro e w6 ⟨rfl, hb7⟩
        have hb8 := hb6.trans (hb7.mono hb6.size)
        go_wp2_with fail
        refine (hT _).mono ?_
        rintro e w7 ⟨rfl, hb9⟩
        have hb10 := hb8.trans (hb9.mono hb8.size)
        go_wp2_with fail
        refine (hU _).mono ?_
        rintro e w8 ⟨rfl, hb11⟩
        have hb12 := hb10.trans (hb11.mono hb10.size)
        go_wp2
        go_ret
        exact ⟨rfl, hb12⟩
end Go.Proofs.Ytpfloopngndpbaa
