/- The walks of digitOf and of the model's l1FromHex: which digit a byte is. -/
import Derived.Test.YtpidfofjjdjkdaiRows
import Derived.Test.YtpidfofjjdjkdaiHexWalks
import Derived.WalkKit
import Derived.WalkSpells
import Derived.WalkLawsBesides
import Derived.Lib.Bytealg
set_option linter.unusedVariables false
namespace Go.Proofs.Ytpidfofjjdjkdai
open Go.RowKit Own Hex

theorem call_index (s : ByteArray) (b : UInt8) (w : World) :
    (callFunc 29 #[.string s, .int .u8 (b.toNat : Int)]).run Try.prog w = .ok (.value (.int .i64 (Lib.indexByte s.data.toList b))) w := by
  rw [run_callFunc_extern (P := Try.prog) (f := 29) Try.func29 (by kernel_rfl) (by kernel_rfl) (by kernel_rfl) (e := Extern.BytealgIndexByte.indexByte) (by kernel_rfl), Lib.run_indexByteString]
  simp

set_option maxRecDepth 100000 in
set_option maxHeartbeats 400000 in
theorem digitOf16 (b : UInt8) (w : World) :
    Calls Try.prog 21 #[.int .u8 (b.toNat : Int), .int .i64 16] w fun e w' => e = .returned (.int .i64 (Lib.indexByte signs b)) ∧ w' = w := by
  have hx := call_index
  go_enter Try.func21, Try.ntmps21
  go_wp2
  go_ret
  exact ⟨rfl, rfl⟩

set_option maxRecDepth 100000 in
set_option maxHeartbeats 400000 in
theorem digitOf10 (b : UInt8) (w : World) :
    Calls Try.prog 21 #[.int .u8 (b.toNat : Int), .int .i64 10] w fun e w' => e = .returned (.int .i64 (Lib.indexByte (signs.take 10) b)) ∧ w' = w := by
  have hx := call_index
  go_enter Try.func21, Try.ntmps21
  go_wp2
  go_ret
  exact ⟨rfl, rfl⟩

/-- What l1FromHex answers from the digit k on. -/
theorem fromHex_step (b : UInt8) : ∀ k, k < 16 → Lib.indexByte (signs.drop k) b = if hexD k == b then 0 else if Lib.indexByte (signs.drop (k + 1)) b == -1 then -1 else Lib.indexByte (signs.drop (k + 1)) b + 1 := by
  intro k hk
  have e : signs.drop k = hexD k :: signs.drop (k + 1) := by
    have hl : k < signs.length := hk
    rw [List.drop_eq_getElem_cons hl]
    simp [hexD, List.getD, hl]
  rw [e, Lib.indexByte]

theorem digitN (d : Nat) (w : World) (h : d < 16) :
    Calls Try.prog 19 #[.int .i64 d] w fun e w' => e = .returned (.int .u8 ((hexD d).toNat : Int)) ∧ w' = w := digit d w (by omega) (by omega)

set_option maxRecDepth 100000 in
set_option maxHeartbeats 400000 in
theorem fromHex (b : UInt8) (w : World) :
    Calls Try.prog 20 #[.int .u8 (b.toNat : Int)] w fun e w' => e = .returned (.int .i64 (Lib.indexByte signs b)) ∧ w' = w := by
  go_enter Try.func20, Try.ntmps20
  go_wp2
  go_loop [3] (fun i => ∃ k : Nat, k ≤ 16 ∧ i = .int .i64 k ∧ Hid (Lib.indexByte signs b = if Lib.indexByte (signs.drop k) b == -1 then -1 else Lib.indexByte (signs.drop k) b + (k : Int))) (fun i => 16 - (intOf i).toNat)
  case atStart => exact ⟨0, by omega, rfl, by show _ = _; rw [List.drop_zero]; split <;> simp_all⟩
  case round =>
    obtain ⟨k, hk, rfl, H⟩ := hrel
    by_cases hlt : k < 16
    · have F : Hid _ := fromHex_step b k hlt
      by_cases hh : hexD k = b
      · have h1 : ((((hexD k).toNat : Nat) : Int) == (b.toNat : Int)) = true := by rw [hh]; simp
        have R : Hid (Lib.indexByte signs b = (k : Int)) := by
          have h := H.out
          rw [F.out, hh] at h
          show _ = _
          simpa using h
        clear F H hh
        go_wp2_with (go_at_call 19; refine (digitN k _ hlt).mono ?_; rintro e w' ⟨rfl, rfl⟩)
        go_ret
        exact ⟨ret_int (R.out).symm, rfl⟩
      · have h1 : ((((hexD k).toNat : Nat) : Int) == (b.toNat : Int)) = false := by
          rw [beq_eq_false_iff_ne]
          intro hc
          exact hh (UInt8.toNat_inj.1 (by omega))
        have R : Hid (Lib.indexByte signs b = if Lib.indexByte (signs.drop (k + 1)) b == -1 then -1 else Lib.indexByte (signs.drop (k + 1)) b + ((k + 1 : Nat) : Int)) := by
          have h := H.out
          have hf := F.out
          have hb : (hexD k == b) = false := by simpa using hh
          rw [hb] at hf
          have hge := Lib.indexByte_ge (signs.drop (k + 1)) b
          generalize Lib.indexByte (signs.drop (k + 1)) b = x at *
          show _ = _
          rw [h, hf]
          by_cases hx : x = -1
          · simp [hx]
          · have : (x == -1) = false := by simpa using hx
            have h2 : (x + 1 == -1) = false := by simp; omega
            simp [this, h2]; omega
        clear F H hh
        go_wp2_with (go_at_call 19; refine (digitN k _ hlt).mono ?_; rintro e w' ⟨rfl, rfl⟩)
        go_round
        case rel => exact ⟨k + 1, by omega, by go_num, R⟩
        case measure => simp [intOf]; omega
    · have : k = 16 := by omega
      subst this
      have R : Hid (Lib.indexByte signs b = -1) := by
        have h := H.out
        have e : Lib.indexByte (signs.drop 16) b = -1 := rfl
        rw [e] at h
        exact h
      clear H
      go_wp2
      go_ret
      exact ⟨ret_int (R.out).symm, rfl⟩

end Go.Proofs.Ytpidfofjjdjkdai
