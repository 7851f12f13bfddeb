/- The program's functions of chapter 1, one contract each, at this seat. -/
import Derived.Test.YtpidfofjjdjkdabDoorRows
import Derived.Test.YtpidfofjjdjkdabDoorNum
import Derived.Test.YtpidfofjjdjkdabDoorOwn
import Derived.Test.YtpidfofjjdjkdabDoorVarMath
import Derived.Test.YtpidfofjjdjkdabDoorReadVarMath
import Derived.Test.YtpidfofjjdjkdabDoorHexMath
import Derived.Test.YtpidfofjjdjkdabDoorUnhexMath
import Derived.Test.YtpidfofjjdjkdabDoorDecMath
import Derived.Test.YtpidfofjjdjkdabDoorImplVar
import Derived.WalkKit
import Derived.WalkSpells
import Derived.WalkLawsBesides
import Derived.WalkMore
import Derived.LoopN
import Derived.Deep.RegionHeld3
import Derived.Deep.AppendLies
import Derived.Lib.Bytealg
set_option linter.unusedVariables false
namespace Go.Proofs.YtpidfofjjdjkdabDoor
open Go.RowKit Own Hex

theorem ret_int {k : IntKind} {a b : Int} (h : a = b) : Ending.returned (.int k a) = .returned (.int k b) := by rw [h]

set_option maxRecDepth 100000 in
set_option maxHeartbeats 3200000 in
theorem impl_hex (s : ByteArray) (w : World) (h : s.size ≤ 1048576) :
    Calls Tryd.prog 14 #[.string s] w fun e w' => e = .returned (.string ⟨(hexL s.data.toList).toArray⟩) ∧ Below w.heap.size w w' := by
  obtain ⟨i0, hi, hz0, hz1, hz2⟩ := info_parts infoU8
  go_enter Tryd.func14, Tryd.ntmps14
  go_wp2_with (first | (at_make; refine wpList_make_own _ rfl _ _ 22 rfl w.heap.size 5 i0 (.int .u8 0) 1 Tryd.underlying22 hi hz0 hz1 .i64 .i64 _ (2 * s.size) rfl rfl (by omega) (by rw [hz2]; omega) (by unfold maxLen; omega) (Nat.le_refl _) ?_) | go_in)
  intro w0 hown0 hgrow0
  have hbel0 := (Below.refl w.heap.size w).grown hgrow0 (Nat.le_refl _) (by simp)
  clear hgrow0
  go_wp2
  go_loopw [3, 11] (fun v i wr => ∃ k : Nat, k ≤ s.size ∧ i = .int .i64 k ∧ wr.ownsRow w.heap.size 5 1 v (2 * k) (bytesOf (hexL (s.data.toList.take k))) ∧ Below w.heap.size w wr) (fun _ i _ => s.size - (intOf i).toNat)
  case atStart => exact ⟨0, Nat.zero_le _, rfl, hown0, hbel0⟩
  case round =>
    clear hown0 hbel0
    obtain ⟨k, hk, rfl, hown, hbel⟩ := hrel
    by_cases hlt : k < s.size
    · have hb8 := s[k].toNat_lt
      have i0' : (0 : Int) ≤ (k : Int) := Int.natCast_nonneg _
      have i1' : (k : Int) < (s.size : Int) := by omega
      have hsz := hbel.size
      have x1 : IntKind.i64.wrap (s[k].toNat : Int) = s[k].toNat := by rw [IntKind.wrap_i64]; omega
      have x2 : (s[k].toNat : Int).tdiv 16 = (s[k].toNat : Int) / 16 := by rw [Int.tdiv_eq_ediv_of_nonneg (by omega)]
      have x3 : IntKind.u8.wrap ((s[k].toNat : Int) / 16) = (s[k].toNat : Int) / 16 := by rw [IntKind.wrap_u8]; omega
      have x4 : (s[k].toNat : Int).tmod 16 = (s[k].toNat : Int) % 16 := by rw [Int.tmod_eq_emod_of_nonneg (by omega)]
      have x5 : IntKind.u8.wrap ((s[k].toNat : Int) % 16) = (s[k].toNat : Int) % 16 := by rw [IntKind.wrap_u8]; omega
      have hsg := sign_at
      go_wp2_with fail
      have hn : 2 * k + 2 ≤ maxLen := by unfold maxLen; omega
      have hb : (2 * k + 2) * 1 ≤ 140737488355328 := by omega
      have HS : Hid (bytesOf (hexL (s.data.toList.take k)) ++ [.int .u8 ((hexD ((s[k].toNat : Int) / 16).toNat).toNat : Int), .int .u8 ((hexD ((s[k].toNat : Int) % 16).toNat).toNat : Int)] = bytesOf (hexL (s.data.toList.take (k + 1)))) := by
        have e1 : ((s[k].toNat : Int) / 16).toNat = s[k].toNat / 16 := by omega
        have e2 : ((s[k].toNat : Int) % 16).toNat = s[k].toNat % 16 := by omega
        rw [e1, e2, push_hex, ← hexL_step s k hlt]; exact rfl
      go_region_held3 (fun _ => True) (trivial)
        ((refine step_append_lies _ (by rfl) _ _ _ (by rfl) w.heap.size 5 i0 (.int .u8 0) 1 1 Tryd.underlying22 hi hz0 hz1 hz2 rfl (by omega) _ (2 * k) _ (by rfl) ((hown.alloc _).drew) ⟨wr.heap.size, 0, none⟩ 2 2 [.int .u8 ((hexD ((s[k].toNat : Int) / 16).toNat).toNat : Int), .int .u8 ((hexD ((s[k].toNat : Int) % 16).toNat).toNat : Int)] (by rfl) (by rfl) (World.news_of_block (cs := #[.int .u8 ((hexD ((s[k].toNat : Int) / 16).toNat).toNat : Int), .int .u8 ((hexD ((s[k].toNat : Int) % 16).toNat).toNat : Int)]) (t := 5) (fr := (0, 0)) (heap_alloc_new wr _)) (by simp [Value.oneCell']) (by omega) hn hb (by simp; omega) (wr.heap.size + 1) (by simp) ?_; intro gg cap w1 hown1 hgrow hat hlt1))
      all_goals
        rw [HS.out] at hown1
        have hb1 := below_app_drew hbel (Nat.le_refl _) hown hgrow
        have R : ∃ k' : Nat, k' ≤ s.size ∧ Value.int .i64 ((k : Int) + 1) = .int .i64 k' ∧ w1.ownsRow w.heap.size 5 1 (.slice (some ⟨gg, 0, none⟩) (2 * k + 2) cap) (2 * k') (bytesOf (hexL (s.data.toList.take k'))) ∧ Below w.heap.size w w1 :=
          ⟨k + 1, by omega, by go_num, hown1, hb1⟩
        clear hown1 hb1 hgrow hat hlt1 hown hbel
        go_wp2
        go_roundw
        case rel => first | exact R | ((repeat apply Exists.intro); exact ⟨R, rfl⟩)
        case measure => simp [intOf]; omega
    · have hk' : k = s.size := by omega
      subst hk'
      have e : s.data.toList.take s.size = s.data.toList := List.take_of_length_le (Nat.le_refl _)
      rw [e] at hown
      have hcv := conv_own (P := Tryd.prog) 22 9 5 Tryd.underlying22 Tryd.underlying5 Tryd.underlying9 hown
      clear e hown
      go_wp2
      go_ret
      exact ⟨rfl, hbel⟩

theorem call_index (s : ByteArray) (b : UInt8) (w : World) :
    (callFunc 41 #[.string s, .int .u8 (b.toNat : Int)]).run Tryd.prog w = .ok (.value (.int .i64 (Lib.indexByte s.data.toList b))) w := by
  rw [run_callFunc_extern (P := Tryd.prog) (f := 41) Tryd.func41 (by kernel_rfl) (by kernel_rfl) (by kernel_rfl) (e := Extern.BytealgIndexByte.indexByte) (by kernel_rfl), Lib.run_indexByteString]
  simp

set_option maxRecDepth 100000 in
set_option maxHeartbeats 400000 in
theorem digitOf16 (b : UInt8) (w : World) :
    Calls Tryd.prog 23 #[.int .u8 (b.toNat : Int), .int .i64 16] w fun e w' => e = .returned (.int .i64 (Lib.indexByte signs b)) ∧ w' = w := by
  have hx := call_index
  go_enter Tryd.func23, Tryd.ntmps23
  go_wp2
  go_ret
  exact ⟨rfl, rfl⟩

set_option maxRecDepth 100000 in
set_option maxHeartbeats 400000 in
theorem digitOf10 (b : UInt8) (w : World) :
    Calls Tryd.prog 23 #[.int .u8 (b.toNat : Int), .int .i64 10] w fun e w' => e = .returned (.int .i64 (Lib.indexByte (signs.take 10) b)) ∧ w' = w := by
  have hx := call_index
  go_enter Tryd.func23, Tryd.ntmps23
  go_wp2
  go_ret
  exact ⟨rfl, rfl⟩

theorem ret2 {a b : ByteArray} {c d : Bool} (h : a = b) (k : c = d) : Ending.returned (.tuple #[.string a, .bool c]) = .returned (.tuple #[.string b, .bool d]) := by rw [h, k]

theorem digitOfI (b : UInt8) (w : World) :
    Calls Tryd.prog 23 #[.int .u8 (b.toNat : Int), .int .i64 16] w fun e w' => e = .returned (.int .i64 (dI b)) ∧ w = w' := (digitOf16 b w).mono fun _ _ h => ⟨h.1, h.2.symm⟩

set_option maxRecDepth 100000 in
set_option maxHeartbeats 1600000 in
theorem impl_unhex (s : ByteArray) (w : World) (h : s.size ≤ 1048576) :
    Calls Tryd.prog 13 #[.string s] w fun e w' => e = .returned (.tuple #[.string (unhexT s), .bool (unhexB s)]) ∧ Below w.heap.size w w' := by
  obtain ⟨i0, hi, hz0, hz1, hz2⟩ := info_parts infoU8
  by_cases hodd : s.size % 2 = 1
  · obtain ⟨e1, e2⟩ := unhex_no s (fun hh => by have := hh.1; omega)
    rw [e1, e2]
    clear e1 e2
    have ho : ((s.size : Int) % 2 != 0) = true := by simp; omega
    go_enter Tryd.func13, Tryd.ntmps13
    go_wp2
    go_step3
    go_wp2
    rw [Exit.noGoto_ret]
    go_ret2
    exact ⟨rfl, Below.refl _ _⟩
  have ho : ((s.size : Int) % 2 != 0) = false := by simp; omega
  go_enter Tryd.func13, Tryd.ntmps13
  go_wp2
  go_step3
  go_wp2_with (first | (at_make; refine wpList_make_own _ rfl _ _ 22 rfl w.heap.size 5 i0 (.int .u8 0) 1 Tryd.underlying22 hi hz0 hz1 .i64 .i64 _ (s.size / 2) rfl rfl (by omega) (by rw [hz2]; omega) (by unfold maxLen; omega) (Nat.le_refl _) ?_) | go_in)
  intro w0 hown0 hgrow0
  have hbel0 := (Below.refl w.heap.size w).grown hgrow0 (Nat.le_refl _) (by simp)
  clear hgrow0
  go_wp2
  go_step3
  go_wp2
  go_loopw [4, 5, 21] (fun v o i wr => ∃ j : Nat, 2 * j ≤ s.size ∧ i = .int .i64 (j : Int) ∧ o = .bool true ∧ Hid (∀ j', j' < j → good s j') ∧ wr.ownsRow w.heap.size 5 1 v j (bytesOf (outL s j)) ∧ Below w.heap.size w wr) (fun _ _ i _ => s.size - (intOf i).toNat)
  case atStart => exact ⟨0, by omega, rfl, rfl, (fun j' hj => absurd hj (by omega)), hown0, hbel0⟩
  case round =>
    clear hown0 hbel0
    obtain ⟨j, hj, rfl, rfl, G, hown, hbel⟩ := hrel
    by_cases hlt : 2 * j < s.size
    · have hlt2 : 2 * j + 1 < s.size := by omega
      have b1 := dI_bd s[2 * j]
      have b2 := dI_bd s[2 * j + 1]
      have E1 : Hid (dI s[2 * j] = dAt s (2 * j)) := dAt_eq s _ hlt
      have E2 : Hid (dI s[2 * j + 1] = dAt s (2 * j + 1)) := dAt_eq s _ hlt2
      by_cases g1 : 0 ≤ dI s[2 * j]
      · by_cases g2 : 0 ≤ dI s[2 * j + 1]
        · go_wp2
          refine wp_loop_rounds 3 ?_
          rw [rounds_succ]
          go_wp2_with (go_at_call 23; refine (digitOfI _ _).mono ?_; rintro e w' ⟨rfl, rfl⟩)
          rw [rounds_succ]
          go_wp2_with (go_at_call 23; refine (digitOfI _ _).mono ?_; rintro e w' ⟨rfl, rfl⟩)
          rw [rounds_succ]
          go_wp2_with (at_builtin; refine wpList_append_own _ rfl _ _ 22 rfl w.heap.size 5 i0 (.int .u8 0) 1 1 Tryd.underlying22 hi hz0 hz1 hz2 rfl (by decide) _ _ _ rfl (hown.alloc _) ⟨wr.heap.size, 0, none⟩ 1 1 [.int .u8 (dI s[2 * j] * 16 + dI s[2 * j + 1])] rfl rfl (cell_one_new _ _ _) ?c2 ?c3 ?c4 ?c5 ?_)
          case c2 => intro u hu; simp at hu; subst hu; rfl
          case c3 => unfold maxLen; omega
          case c4 => omega
          case c5 => have := hbel.size; simp; omega
          intro v' w1 hown' hgrow _
          have gg : good s j := ⟨by rw [← E1.out]; exact g1, by rw [← E2.out]; exact g2⟩
          rw [E1.out, E2.out, Int.mul_comm, push_out s j gg] at hown'
          have hb := below_app hbel (Nat.le_refl _) hown hgrow
          have R : ∃ j' : Nat, 2 * j' ≤ s.size ∧ Value.int .i64 ((j : Int) + 1) = .int .i64 (j' : Int) ∧ Value.bool true = .bool true ∧ Hid (∀ j'', j'' < j' → good s j'') ∧ w1.ownsRow w.heap.size 5 1 v' j' (bytesOf (outL s j')) ∧ Below w.heap.size w w1 :=
            ⟨j + 1, by omega, by go_num, rfl, good_succ s j G.out gg, hown', hb⟩
          clear hown' hb hgrow hown hbel G E1 E2 gg
          go_wp2
          go_roundw
          case rel => first | exact R | ((repeat apply Exists.intro); exact ⟨R, rfl⟩)
          case measure => simp [intOf]; omega
        · have hcv := fun (W : World) => conv_own (P := Tryd.prog) 22 9 5 Tryd.underlying22 Tryd.underlying5 Tryd.underlying9 (W := W) (l := []) (World.ownsRow_nil W 0 5 1)
          go_wp2
          refine wp_loop_rounds 3 ?_
          rw [rounds_succ]
          go_wp2_with (go_at_call 23; refine (digitOfI _ _).mono ?_; rintro e w' ⟨rfl, rfl⟩)
          rw [rounds_succ]
          go_wp2_with (go_at_call 23; refine (digitOfI _ _).mono ?_; rintro e w' ⟨rfl, rfl⟩)
          rw [Exit.noGoto_ret]
          go_ret2
          obtain ⟨e1, e2⟩ := unhex_no s (fun hh => by have := (hh.2 j (by omega)).2; rw [← E2.out] at this; omega)
          exact ⟨ret2 e1.symm e2.symm, hbel⟩
      · have hcv := fun (W : World) => conv_own (P := Tryd.prog) 22 9 5 Tryd.underlying22 Tryd.underlying5 Tryd.underlying9 (W := W) (l := []) (World.ownsRow_nil W 0 5 1)
        go_wp2
        refine wp_loop_rounds 3 ?_
        rw [rounds_succ]
        go_wp2_with (go_at_call 23; refine (digitOfI _ _).mono ?_; rintro e w' ⟨rfl, rfl⟩)
        rw [Exit.noGoto_ret]
        go_ret2
        obtain ⟨e1, e2⟩ := unhex_no s (fun hh => by have := (hh.2 j (by omega)).1; rw [← E1.out] at this; omega)
        exact ⟨ret2 e1.symm e2.symm, hbel⟩
    · have e : j = s.size / 2 := by omega
      obtain ⟨e1, e2⟩ := unhex_yes s ⟨by omega, fun j' hj' => G.out j' (by omega)⟩
      rw [e] at hown
      have hcv := conv_own (P := Tryd.prog) 22 9 5 Tryd.underlying22 Tryd.underlying5 Tryd.underlying9 hown
      have X : Hid _ := ret2 e1.symm e2.symm
      clear hown e1 e2 e
      go_wp2
      rw [Exit.noGoto_ret]
      go_ret2
      exact ⟨X.out, hbel⟩

end Go.Proofs.YtpidfofjjdjkdabDoor
