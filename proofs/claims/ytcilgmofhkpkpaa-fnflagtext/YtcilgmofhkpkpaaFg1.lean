/- Below: the program and the model. -/
import Derived.Test.YtcilgmofhkpkpaaFg0
set_option linter.unusedVariables false
namespace Go.Proofs.Ytcilgmofhkpkpaa
open Go Go.RowKit

theorem bits_nat (x y : Nat) (hx : x < 2 ^ 63) (hy : y < 2 ^ 63) : bits .and .i64 (x : Int) (y : Int) = ((x &&& y : Nat) : Int) := by
  have e : bits .and .i64 (x : Int) (y : Int) = IntKind.i64.wrap ((BitVec.ofInt 64 x &&& BitVec.ofInt 64 y).toNat : Int) := rfl
  have ex : (BitVec.ofInt 64 (x : Int)).toNat = x := by rw [BitVec.toNat_ofInt]; omega
  have ey : (BitVec.ofInt 64 (y : Int)).toNat = y := by rw [BitVec.toNat_ofInt]; omega
  rw [e, BitVec.toNat_and, ex, ey]
  have hz : x &&& y ≤ x := Nat.and_le_left
  simp [IntKind.wrap, IntKind.bits, IntKind.signed]
  omega
theorem bits_or (x y : Nat) (hx : x < 256) (hy : y < 256) : bits .or .i64 (x : Int) (y : Int) = ((x ||| y : Nat) : Int) := by
  have e : bits .or .i64 (x : Int) (y : Int) = IntKind.i64.wrap ((BitVec.ofInt 64 x ||| BitVec.ofInt 64 y).toNat : Int) := rfl
  have ex : (BitVec.ofInt 64 (x : Int)).toNat = x := by rw [BitVec.toNat_ofInt]; omega
  have ey : (BitVec.ofInt 64 (y : Int)).toNat = y := by rw [BitVec.toNat_ofInt]; omega
  rw [e, BitVec.toNat_or, ex, ey]
  have hz : x ||| y < 2 ^ 8 := Nat.or_lt_two_pow hx hy
  simp [IntKind.wrap, IntKind.bits, IntKind.signed]
  omega
theorem bits_not (x y : Nat) (hx : x < 256) (hy : y < 256) : bits .andNot .i64 (x : Int) (y : Int) = ((x &&& (255 - y) : Nat) : Int) := by
  have h : ∀ x < 256, ∀ y < 256, (BitVec.ofNat 64 x &&& ~~~ BitVec.ofNat 64 y).toNat = x &&& (255 - y) := by decide +kernel
  have e : bits .andNot .i64 (x : Int) (y : Int) = IntKind.i64.wrap ((BitVec.ofInt 64 x &&& ~~~ BitVec.ofInt 64 y).toNat : Int) := rfl
  have h1 := h x hx y hy
  rw [e, show BitVec.ofInt 64 (x : Int) = BitVec.ofNat 64 x by rw [BitVec.ofInt_natCast], show BitVec.ofInt 64 (y : Int) = BitVec.ofNat 64 y by rw [BitVec.ofInt_natCast], h1]
  have hz : x &&& (255 - y) ≤ x := Nat.and_le_left
  simp [IntKind.wrap, IntKind.bits, IntKind.signed]
  omega
/-- The first flags, one by one. -/
def pw : Nat → Nat
  | 0 => 1
  | 1 => 2
  | 2 => 4
  | 3 => 8
  | _ => 16
theorem pw_le (k : Nat) (h : k < 4) : pw k ≤ 8 ∧ 1 ≤ pw k ∧ pw (k + 1) = pw k * 2 := by
  match k, h with
  | 0, _ => decide
  | 1, _ => decide
  | 2, _ => decide
  | 3, _ => decide
theorem pw_end : pw 4 = 16 := rfl
/-- What the model asks of the first k flags. -/
def belN (a b : Int) (k : Nat) : Bool := (List.range k).all fun j => !hasM a (pw j) || hasM b (pw j)
def belM (a b : Int) : Bool := btw a 0 255 && btw b 0 255 && belN a b 4
theorem belN_succ (a b : Int) (k : Nat) : belN a b (k + 1) = (belN a b k && (!hasM a (pw k) || hasM b (pw k))) := by
  unfold belN
  rw [List.range_succ, List.all_append]
  simp
theorem belN_mono (a b : Int) : ∀ {j k : Nat}, j ≤ k → belN a b j = false → belN a b k = false := by
  intro j k h e
  unfold belN at *
  rw [List.all_eq_false] at *
  obtain ⟨x, hx, h2⟩ := e
  exact ⟨x, by rw [List.mem_range] at *; omega, h2⟩
set_option maxRecDepth 100000 in
theorem specBel_is (a b : Int) (w : World) : Calls Try.prog 15 #[.int .i64 a, .int .i64 b] w fun e w' => e = .returned (.bool (belM a b)) ∧ w = w' := by
  go_enter Try.func15, Try.ntmps15
  go_wp2_with fail
  refine (specOk_is a _).mono ?_
  rintro e w1 ⟨rfl, rfl⟩
  by_cases ha : btw a 0 255 = true
  · have ha2 := (btw_iff _ _ _).1 ha
    rw [ha]
    go_wp2_with fail
    refine (specOk_is b _).mono ?_
    rintro e w1 ⟨rfl, rfl⟩
    by_cases hb : btw b 0 255 = true
    · have hb2 := (btw_iff _ _ _).1 hb
      rw [hb]
      have HE : Hid (belM a b = belN a b 4) := by show _ = _; unfold belM; rw [ha, hb]; rfl
      clear ha hb
      go_wp2
      go_loopw [5] (fun v wr => ∃ k : Nat, k ≤ 4 ∧ v = .int .i64 (pw k : Nat) ∧ belN a b k = true ∧ w = wr) (fun i _ => 16 - (intOf i).toNat)
      case atStart => exact ⟨0, by omega, rfl, rfl, rfl⟩
      case round =>
        obtain ⟨k, hk, rfl, hN, rfl⟩ := hrel
        by_cases hlt : k < 4
        · obtain ⟨p1, p2, p3⟩ := pw_le k hlt
          have p4 : ((pw k : Nat) : Int) ≤ 8 := by omega
          have HS := belN_succ a b k
          have HM : Hid (belN a b (k + 1) = false → belN a b 4 = false) := belN_mono a b (by omega)
          generalize hp : pw k = p at *
          go_wp2_with fail
          refine (hasM_is a p ha2.1 ha2.2 (by omega) (by omega) _).mono ?_
          rintro e w1 ⟨rfl, rfl⟩
          by_cases hA : hasM a p = true
          · rw [hA] at HS ⊢
            go_wp2_with fail
            refine (hasM_is b p hb2.1 hb2.2 (by omega) (by omega) _).mono ?_
            rintro e w1 ⟨rfl, rfl⟩
            by_cases hB : hasM b p = true
            · rw [hB] at HS ⊢
              rw [hN] at HS
              have HN : Hid (belN a b (k + 1) = true) := HS
              have HP : Hid (((p : Nat) : Int) * 2 = ((pw (k + 1) : Nat) : Int)) := by show _ = _; omega
              clear HS p3 hN HM
              go_wp2
              go_roundw
              case rel => exact ⟨k + 1, by omega, by rw [HP.out], HN.out, trivial⟩
              case measure => simp [intOf]; omega
            · rw [Bool.not_eq_true] at hB
              rw [hB] at HS ⊢
              rw [hN] at HS
              have HN : Hid (belN a b 4 = false) := HM.out HS
              clear HS p3 hN HM
              go_wp2
              go_ret
              exact ⟨congrArg (fun z => Ending.returned (Value.bool z)) (show false = belM a b from Eq.symm (by rw [HE.out, HN.out])), rfl⟩
          · rw [Bool.not_eq_true] at hA
            rw [hA] at HS ⊢
            rw [hN] at HS
            have HN : Hid (belN a b (k + 1) = true) := HS
            have HP : Hid (((p : Nat) : Int) * 2 = ((pw (k + 1) : Nat) : Int)) := by show _ = _; omega
            clear HS p3 hN HM
            go_wp2
            go_roundw
            case rel => exact ⟨k + 1, by omega, by rw [HP.out], HN.out, trivial⟩
            case measure => simp [intOf]; omega
        · obtain rfl : k = 4 := by omega
          have HN : Hid (belN a b 4 = true) := hN
          clear hN
          rw [show pw 4 = 16 from rfl]
          go_wp2
          go_ret
          exact ⟨congrArg (fun z => Ending.returned (Value.bool z)) (show true = belM a b from Eq.symm (by rw [HE.out, HN.out])), rfl⟩
    · rw [Bool.not_eq_true] at hb
      rw [hb]
      go_wp2
      go_ret
      exact ⟨congrArg (fun z => Ending.returned (Value.bool z)) (show false = belM a b from Eq.symm (by unfold belM; rw [hb]; simp)), rfl⟩
  · rw [Bool.not_eq_true] at ha
    rw [ha]
    go_wp2
    go_ret
    exact ⟨congrArg (fun z => Ending.returned (Value.bool z)) (show false = belM a b from Eq.symm (by unfold belM; rw [ha]; simp)), rfl⟩
/-- What the program asks. -/
def belP (a b : Int) : Bool := btw a 0 255 && btw b 0 255 && hasF b (bits .and .i64 a 15)
set_option maxRecDepth 100000 in
theorem implBel_is (a b : Int) (w : World) : Calls Try.prog 14 #[.int .i64 a, .int .i64 b] w fun e w' => e = .returned (.bool (belP a b)) ∧ w = w' := by
  go_enter Try.func14, Try.ntmps14
  go_wp2_with fail
  refine (implOk_is a _).mono ?_
  rintro e w1 ⟨rfl, rfl⟩
  by_cases ha : btw a 0 255 = true
  · rw [ha]
    go_wp2_with fail
    refine (implOk_is b _).mono ?_
    rintro e w1 ⟨rfl, rfl⟩
    by_cases hb : btw b 0 255 = true
    · rw [hb]
      go_wp2_with fail
      refine (hasF_is b _ _).mono ?_
      rintro e w1 ⟨rfl, rfl⟩
      go_wp2
      go_ret
      exact ⟨congrArg (fun z => Ending.returned (Value.bool z)) (show hasF b (bits BinOp.and IntKind.i64 a 15) = belP a b from Eq.symm (by unfold belP; rw [ha, hb]; rfl)), rfl⟩
    · rw [Bool.not_eq_true] at hb
      rw [hb]
      go_wp2
      go_ret
      exact ⟨congrArg (fun z => Ending.returned (Value.bool z)) (show false = belP a b from Eq.symm (by unfold belP; rw [hb]; simp)), rfl⟩
  · rw [Bool.not_eq_true] at ha
    rw [ha]
    go_wp2
    go_ret
    exact ⟨congrArg (fun z => Ending.returned (Value.bool z)) (show false = belP a b from Eq.symm (by unfold belP; rw [ha]; simp)), rfl⟩
def belX (a b : Nat) : Bool := [1, 2, 4, 8].all fun f => !(a / f % 2 == 1) || (b / f % 2 == 1)
theorem bel_tab : ∀ a < 16, ∀ b < 256, ((a &&& (255 - b)) == 0) = belX a b := by decide +kernel
theorem belX_mod (a b : Nat) : belX (a % 16) b = belX a b := by
  unfold belX
  simp only [List.all_cons, List.all_nil]
  rw [show a % 16 / 1 % 2 = a / 1 % 2 by omega, show a % 16 / 2 % 2 = a / 2 % 2 by omega, show a % 16 / 4 % 2 = a / 4 % 2 by omega, show a % 16 / 8 % 2 = a / 8 % 2 by omega]
theorem hasM_nat (a : Nat) (g : Nat) : hasM (a : Int) (g : Int) = (a / g % 2 == 1) := by
  unfold hasM
  rw [Int.tdiv_eq_ediv_of_nonneg (by omega)]
  rw [Bool.eq_iff_iff]
  simp only [beq_iff_eq]
  omega
theorem bel_eq (a b : Int) : belP a b = belM a b := by
  unfold belP belM
  by_cases ha : btw a 0 255 = true
  · by_cases hb : btw b 0 255 = true
    · rw [ha, hb]
      have ha2 := (btw_iff _ _ _).1 ha
      have hb2 := (btw_iff _ _ _).1 hb
      obtain ⟨x, rfl⟩ : ∃ x : Nat, a = x := ⟨a.toNat, by omega⟩
      obtain ⟨y, rfl⟩ : ∃ y : Nat, b = y := ⟨b.toNat, by omega⟩
      have e1 : bits .and .i64 (x : Int) 15 = ((x % 16 : Nat) : Int) := by
        rw [show (15 : Int) = ((15 : Nat) : Int) from rfl, bits_nat x 15 (by omega) (by omega), nat_mask4]
      have e2 : hasF (y : Int) ((x % 16 : Nat) : Int) = (((x % 16) &&& (255 - y)) == 0) := by
        unfold hasF
        rw [bits_not (x % 16) y (by omega) (by omega), Bool.eq_iff_iff]
        simp only [beq_iff_eq]
        omega
      rw [e1, e2, bel_tab (x % 16) (by omega) y (by omega), belX_mod]
      unfold belX belN
      simp only [List.all_cons, List.all_nil, List.range, List.range.loop, pw, hasM_nat]
    · rw [Bool.not_eq_true] at hb
      rw [hb]; simp
  · rw [Bool.not_eq_true] at ha
    rw [ha]; simp
set_option maxRecDepth 100000 in
theorem lawBel (a b : Int) (w : World) : Calls Try.prog 7 #[.int .i64 a, .int .i64 b] w fun e w' => e = .returned (.bool true) ∧ Below w.heap.size w w' := by
  go_enter Try.func7, Try.ntmps7
  go_wp2_with fail
  refine (specBel_is a b _).mono ?_
  rintro e w1 ⟨rfl, rfl⟩
  go_wp2_with fail
  refine (implBel_is a b _).mono ?_
  rintro e w1 ⟨rfl, rfl⟩
  rw [bel_eq]
  go_wp2
  go_ret
  exact ⟨rfl, Below.refl _ _⟩
end Go.Proofs.Ytcilgmofhkpkpaa
