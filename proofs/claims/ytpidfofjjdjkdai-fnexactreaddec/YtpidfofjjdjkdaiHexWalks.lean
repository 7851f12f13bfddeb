/- The walks of Hex: the document's model and the program, one contract each. -/
import Derived.Test.YtpidfofjjdjkdaiRows
import Derived.Test.YtpidfofjjdjkdaiVarWalks
import Derived.Test.YtpidfofjjdjkdaiHexMath
import Derived.WalkKit
import Derived.WalkSpells
import Derived.WalkLawsBesides
import Derived.Deep.RegionHeld3
import Derived.Deep.AppendLies
set_option linter.unusedVariables false
namespace Go.Proofs.Ytpidfofjjdjkdai
open Go.RowKit Own Hex

theorem ret_int {k : IntKind} {a b : Int} (h : a = b) : Ending.returned (.int k a) = .returned (.int k b) := by rw [h]

set_option maxRecDepth 100000 in
theorem digit (d : Int) (w : World) (h0 : 0 ≤ d) (h : d < 16) :
    Calls Try.prog 19 #[.int .i64 d] w fun e w' => e = .returned (.int .u8 ((hexD d.toNat).toNat : Int)) ∧ w' = w := by
  obtain ⟨d, rfl⟩ := Int.eq_ofNat_of_zero_le h0
  have h1 : d < 16 := by omega
  go_enter Try.func19, Try.ntmps19
  go_wp2
  go_ret
  exact ⟨ret_int (by rw [sign_at d h1]; rfl), rfl⟩

set_option maxRecDepth 100000 in
set_option maxHeartbeats 3200000 in
theorem spec_hex (s : ByteArray) (w : World) (h : s.size ≤ 1048576) :
    Calls Try.prog 12 #[.string s] w fun e w' => e = .returned (.string ⟨(hexL s.data.toList).toArray⟩) ∧ Below w.heap.size w w' := by
  obtain ⟨i0, hi, hz0, hz1, hz2⟩ := info_parts infoU8
  go_enter Try.func12, Try.ntmps12
  go_wp2
  go_loopw [3, 4] (fun v i wr => ∃ k : Nat, k ≤ s.size ∧ i = .int .i64 k ∧ wr.ownsRow w.heap.size 5 1 v (2 * k) (bytesOf (hexL (s.data.toList.take k))) ∧ Below w.heap.size w wr) (fun _ i _ => s.size - (intOf i).toNat)
  case atStart => exact ⟨0, Nat.zero_le _, rfl, World.ownsRow_lit _ _ _ (Nat.le_refl _) (by unfold maxLen; omega) rfl, (Below.refl _ _).alloc (Nat.le_refl _) _⟩
  case round =>
    obtain ⟨k, hk, rfl, hown, hbel⟩ := hrel
    by_cases hlt : k < s.size
    · have hb8 := s[k].toNat_lt
      have i0' : (0 : Int) ≤ (k : Int) := Int.natCast_nonneg _
      have i1' : (k : Int) < (s.size : Int) := by omega
      have hsz := hbel.size
      have x1 : IntKind.i64.wrap (s[k].toNat : Int) = s[k].toNat := by rw [IntKind.wrap_i64]; omega
      have x2 : (s[k].toNat : Int).tdiv 16 = (s[k].toNat : Int) / 16 := by rw [Int.tdiv_eq_ediv_of_nonneg (by omega)]
      have x3 : IntKind.i64.wrap ((s[k].toNat : Int) / 16) = (s[k].toNat : Int) / 16 := by rw [IntKind.wrap_i64]; omega
      have x4 : (s[k].toNat : Int).tmod 16 = (s[k].toNat : Int) % 16 := by rw [Int.tmod_eq_emod_of_nonneg (by omega)]
      have x5 : IntKind.i64.wrap ((s[k].toNat : Int) % 16) = (s[k].toNat : Int) % 16 := by rw [IntKind.wrap_i64]; omega
      go_wp2_with fail
      have hn : 2 * k + 2 ≤ maxLen := by unfold maxLen; omega
      have hb : (2 * k + 2) * 1 ≤ 140737488355328 := by omega
      have HS : Hid (bytesOf (hexL (s.data.toList.take k)) ++ [.int .u8 ((hexD ((s[k].toNat : Int) / 16).toNat).toNat : Int), .int .u8 ((hexD ((s[k].toNat : Int) % 16).toNat).toNat : Int)] = bytesOf (hexL (s.data.toList.take (k + 1)))) := by
        have e1 : ((s[k].toNat : Int) / 16).toNat = s[k].toNat / 16 := by omega
        have e2 : ((s[k].toNat : Int) % 16).toNat = s[k].toNat % 16 := by omega
        rw [e1, e2, push_hex, ← hexL_step s k hlt]; exact rfl
      go_region_held3 (fun _ => True) (trivial)
        (first
          | (go_at_call 19; refine (digit _ _ ?_ ?_).mono ?_; omega; omega; rintro e w' ⟨rfl, rfl⟩)
          | (refine step_append_lies _ (by rfl) _ _ _ (by rfl) w.heap.size 5 i0 (.int .u8 0) 1 1 Try.underlying33 hi hz0 hz1 hz2 rfl (by omega) _ (2 * k) _ (by rfl) ((hown.alloc _).drew) ⟨wr.heap.size, 0, none⟩ 2 2 [.int .u8 ((hexD ((s[k].toNat : Int) / 16).toNat).toNat : Int), .int .u8 ((hexD ((s[k].toNat : Int) % 16).toNat).toNat : Int)] (by rfl) (by rfl) (World.news_of_block (cs := #[.int .u8 ((hexD ((s[k].toNat : Int) / 16).toNat).toNat : Int), .int .u8 ((hexD ((s[k].toNat : Int) % 16).toNat).toNat : Int)]) (t := 5) (fr := (0, 0)) (heap_alloc_new wr _)) (by simp [Value.oneCell']) (by omega) hn hb (by simp; omega) (wr.heap.size + 1) (by simp) ?_; intro gg cap w1 hown1 hgrow hat hlt1))
      all_goals
        rw [HS.out] at hown1
        have hb1 := below_app_drew hbel (Nat.le_refl _) hown hgrow
        have R : ∃ k' : Nat, k' ≤ s.size ∧ Value.int .i64 ((k : Int) + 1) = .int .i64 k' ∧ w1.ownsRow w.heap.size 5 1 (.slice (some ⟨gg, 0, none⟩) (2 * k + 2) cap) (2 * k') (bytesOf (hexL (s.data.toList.take k'))) ∧ Below w.heap.size w w1 :=
          ⟨k + 1, by omega, by go_num, hown1, hb1⟩
        clear hown1 hb1 hgrow hat hlt1 hown hbel
        go_wp2
        go_roundw
        case rel => first | exact R | ((repeat apply Exists.intro); exact ⟨R, rfl⟩)
        case measure => simp [intOf]; omega
    · have hk' : k = s.size := by omega
      subst hk'
      have e : s.data.toList.take s.size = s.data.toList := List.take_of_length_le (Nat.le_refl _)
      rw [e] at hown
      have hcv := conv_own (P := Try.prog) 33 9 5 Try.underlying33 Try.underlying5 Try.underlying9 hown
      clear e hown
      go_wp2
      go_ret
      exact ⟨rfl, hbel⟩

set_option maxRecDepth 100000 in
set_option maxHeartbeats 3200000 in
theorem impl_hex (s : ByteArray) (w : World) (h : s.size ≤ 1048576) :
    Calls Try.prog 13 #[.string s] w fun e w' => e = .returned (.string ⟨(hexL s.data.toList).toArray⟩) ∧ Below w.heap.size w w' := by
  obtain ⟨i0, hi, hz0, hz1, hz2⟩ := info_parts infoU8
  go_enter Try.func13, Try.ntmps13
  go_wp2_with (first | (at_make; refine wpList_make_own _ rfl _ _ 33 rfl w.heap.size 5 i0 (.int .u8 0) 1 Try.underlying33 hi hz0 hz1 .i64 .i64 _ (2 * s.size) rfl rfl (by omega) (by rw [hz2]; omega) (by unfold maxLen; omega) (Nat.le_refl _) ?_) | go_in)
  intro w0 hown0 hgrow0
  have hbel0 := (Below.refl w.heap.size w).grown hgrow0 (Nat.le_refl _) (by simp)
  clear hgrow0
  go_wp2
  go_loopw [3, 11] (fun v i wr => ∃ k : Nat, k ≤ s.size ∧ i = .int .i64 k ∧ wr.ownsRow w.heap.size 5 1 v (2 * k) (bytesOf (hexL (s.data.toList.take k))) ∧ Below w.heap.size w wr) (fun _ i _ => s.size - (intOf i).toNat)
  case atStart => exact ⟨0, Nat.zero_le _, rfl, hown0, hbel0⟩
  case round =>
    clear hown0 hbel0
    obtain ⟨k, hk, rfl, hown, hbel⟩ := hrel
    by_cases hlt : k < s.size
    · have hb8 := s[k].toNat_lt
      have i0' : (0 : Int) ≤ (k : Int) := Int.natCast_nonneg _
      have i1' : (k : Int) < (s.size : Int) := by omega
      have hsz := hbel.size
      have x1 : IntKind.i64.wrap (s[k].toNat : Int) = s[k].toNat := by rw [IntKind.wrap_i64]; omega
      have x2 : (s[k].toNat : Int).tdiv 16 = (s[k].toNat : Int) / 16 := by rw [Int.tdiv_eq_ediv_of_nonneg (by omega)]
      have x3 : IntKind.u8.wrap ((s[k].toNat : Int) / 16) = (s[k].toNat : Int) / 16 := by rw [IntKind.wrap_u8]; omega
      have x4 : (s[k].toNat : Int).tmod 16 = (s[k].toNat : Int) % 16 := by rw [Int.tmod_eq_emod_of_nonneg (by omega)]
      have x5 : IntKind.u8.wrap ((s[k].toNat : Int) % 16) = (s[k].toNat : Int) % 16 := by rw [IntKind.wrap_u8]; omega
      have hsg := sign_at
      go_wp2_with fail
      have hn : 2 * k + 2 ≤ maxLen := by unfold maxLen; omega
      have hb : (2 * k + 2) * 1 ≤ 140737488355328 := by omega
      have HS : Hid (bytesOf (hexL (s.data.toList.take k)) ++ [.int .u8 ((hexD ((s[k].toNat : Int) / 16).toNat).toNat : Int), .int .u8 ((hexD ((s[k].toNat : Int) % 16).toNat).toNat : Int)] = bytesOf (hexL (s.data.toList.take (k + 1)))) := by
        have e1 : ((s[k].toNat : Int) / 16).toNat = s[k].toNat / 16 := by omega
        have e2 : ((s[k].toNat : Int) % 16).toNat = s[k].toNat % 16 := by omega
        rw [e1, e2, push_hex, ← hexL_step s k hlt]; exact rfl
      go_region_held3 (fun _ => True) (trivial)
        ((refine step_append_lies _ (by rfl) _ _ _ (by rfl) w.heap.size 5 i0 (.int .u8 0) 1 1 Try.underlying33 hi hz0 hz1 hz2 rfl (by omega) _ (2 * k) _ (by rfl) ((hown.alloc _).drew) ⟨wr.heap.size, 0, none⟩ 2 2 [.int .u8 ((hexD ((s[k].toNat : Int) / 16).toNat).toNat : Int), .int .u8 ((hexD ((s[k].toNat : Int) % 16).toNat).toNat : Int)] (by rfl) (by rfl) (World.news_of_block (cs := #[.int .u8 ((hexD ((s[k].toNat : Int) / 16).toNat).toNat : Int), .int .u8 ((hexD ((s[k].toNat : Int) % 16).toNat).toNat : Int)]) (t := 5) (fr := (0, 0)) (heap_alloc_new wr _)) (by simp [Value.oneCell']) (by omega) hn hb (by simp; omega) (wr.heap.size + 1) (by simp) ?_; intro gg cap w1 hown1 hgrow hat hlt1))
      all_goals
        rw [HS.out] at hown1
        have hb1 := below_app_drew hbel (Nat.le_refl _) hown hgrow
        have R : ∃ k' : Nat, k' ≤ s.size ∧ Value.int .i64 ((k : Int) + 1) = .int .i64 k' ∧ w1.ownsRow w.heap.size 5 1 (.slice (some ⟨gg, 0, none⟩) (2 * k + 2) cap) (2 * k') (bytesOf (hexL (s.data.toList.take k'))) ∧ Below w.heap.size w w1 :=
          ⟨k + 1, by omega, by go_num, hown1, hb1⟩
        clear hown1 hb1 hgrow hat hlt1 hown hbel
        go_wp2
        go_roundw
        case rel => first | exact R | ((repeat apply Exists.intro); exact ⟨R, rfl⟩)
        case measure => simp [intOf]; omega
    · have hk' : k = s.size := by omega
      subst hk'
      have e : s.data.toList.take s.size = s.data.toList := List.take_of_length_le (Nat.le_refl _)
      rw [e] at hown
      have hcv := conv_own (P := Try.prog) 33 9 5 Try.underlying33 Try.underlying5 Try.underlying9 hown
      clear e hown
      go_wp2
      go_ret
      exact ⟨rfl, hbel⟩

end Go.Proofs.Ytpidfofjjdjkdai
