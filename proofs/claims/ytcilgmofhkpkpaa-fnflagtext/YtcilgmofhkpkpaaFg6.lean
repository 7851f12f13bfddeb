/- Derive: the law. -/
import Derived.Test.YtcilgmofhkpkpaaFg5
set_option linter.unusedVariables false
namespace Go.Proofs.Ytcilgmofhkpkpaa
open Go Go.RowKit

theorem i64_of {x : Int} (h : (Lit.int .i64 x).wf = true) : i64 x := by
  simp [Lit.wf, IntKind.min, IntKind.max, IntKind.signed, IntKind.bits] at h
  unfold i64
  omega
def up (x : Nat × Bool) : Int × Bool := ((x.1 : Int), x.2)
def specF (p k w : Int) : Int × Bool := if btw p 0 255 && btw w 0 15 && btw k 1 6 then specD p k.toNat w else (0, false)
set_option maxRecDepth 100000 in
theorem specF_is (p k w : Int) (W : World) : Calls Try.prog 13 #[.int .i64 p, .int .i64 k, .int .i64 w] W fun e W' => e = .returned (.tuple #[.int .i64 (specF p k w).1, .bool (specF p k w).2]) ∧ Below W.heap.size W W' := by
  by_cases hp : btw p 0 255 = true
  · by_cases hw : btw w 0 255 = true
    · by_cases hk : btw k 1 6 = true
      · have hk2 := (btw_iff _ _ _).1 hk
        have hw2 := (btw_iff _ _ _).1 hw
        by_cases h16 : w < 16
        · obtain ⟨n, rfl⟩ : ∃ n : Nat, k = n := ⟨k.toNat, by omega⟩
          have e : specF p n w = specD p n w := by unfold specF; rw [hp, hk, (btw_iff _ _ _).2 ⟨hw2.1, by omega⟩]; rfl
          rw [e]
          exact specDer_is p n w hp hw h16 (by omega) (by omega) W
        · have HE : Hid (specF p k w = (0, false)) := by
            show _ = _
            unfold specF
            rw [show btw w 0 15 = false by rw [← Bool.not_eq_true, btw_iff]; omega, Bool.and_false, Bool.false_and]; rfl
          have h16' : 16 ≤ w := by omega
          clear h16
          go_enter Try.func13, Try.ntmps13
          go_wp2_with fail
          refine (specOk_is p _).mono ?_
          rintro e W2 ⟨rfl, rfl⟩
          rw [hp]
          go_wp2_with fail
          refine (specOk_is w _).mono ?_
          rintro e W2 ⟨rfl, rfl⟩
          rw [hw]
          go_wp2_with fail
          refine (in_is k 1 6 _).mono ?_
          rintro e W2 ⟨rfl, rfl⟩
          rw [show (decide ((1 : Int) ≤ k) && decide (k ≤ 6)) = true by simp; omega]
          go_wp2
          go_ret2
          exact ⟨ended (show ((0 : Int), false) = specF p k w from HE.out.symm), Below.refl _ _⟩
      · rw [Bool.not_eq_true] at hk
        have HE : Hid (specF p k w = (0, false)) := by show _ = _; unfold specF; rw [hk, Bool.and_false]; rfl
        go_enter Try.func13, Try.ntmps13
        go_wp2_with fail
        refine (specOk_is p _).mono ?_
        rintro e W2 ⟨rfl, rfl⟩
        rw [hp]
        go_wp2_with fail
        refine (specOk_is w _).mono ?_
        rintro e W2 ⟨rfl, rfl⟩
        rw [hw]
        go_wp2_with fail
        refine (in_is k 1 6 _).mono ?_
        rintro e W2 ⟨rfl, rfl⟩
        rw [show (decide ((1 : Int) ≤ k) && decide (k ≤ 6)) = false from hk]
        go_wp2
        go_ret2
        exact ⟨ended (show ((0 : Int), false) = specF p k w from HE.out.symm), Below.refl _ _⟩
    · rw [Bool.not_eq_true] at hw
      have HE : Hid (specF p k w = (0, false)) := by
        show _ = _
        unfold specF
        rw [show btw w 0 15 = false by rw [← Bool.not_eq_true, btw_iff] at hw ⊢; omega, Bool.and_false, Bool.false_and]; rfl
      go_enter Try.func13, Try.ntmps13
      go_wp2_with fail
      refine (specOk_is p _).mono ?_
      rintro e W2 ⟨rfl, rfl⟩
      rw [hp]
      go_wp2_with fail
      refine (specOk_is w _).mono ?_
      rintro e W2 ⟨rfl, rfl⟩
      rw [hw]
      go_wp2
      go_ret2
      exact ⟨ended (show ((0 : Int), false) = specF p k w from HE.out.symm), Below.refl _ _⟩
  · rw [Bool.not_eq_true] at hp
    have HE : Hid (specF p k w = (0, false)) := by show _ = _; unfold specF; rw [hp, Bool.false_and, Bool.false_and]; rfl
    go_enter Try.func13, Try.ntmps13
    go_wp2_with fail
    refine (specOk_is p _).mono ?_
    rintro e W2 ⟨rfl, rfl⟩
    rw [hp]
    go_wp2
    go_ret2
    exact ⟨ended (show ((0 : Int), false) = specF p k w from HE.out.symm), Below.refl _ _⟩
theorem hasN_eq (p f : Nat) : hasM (p : Int) (f : Int) = hasN p f := hasM_nat p f
theorem specD_nat (p k w : Nat) : specD (p : Int) k (w : Int) = up (specN p k w) := by
  unfold specD specN
  rw [show (16 : Int) = ((16 : Nat) : Int) from rfl, show (64 : Int) = ((64 : Nat) : Int) from rfl, show (128 : Int) = ((128 : Nat) : Int) from rfl]
  simp only [hasN_eq]
  have e : outM (p : Int) (w : Int) k 4 = outP p w (allN k) := by
    unfold outM outN outN outN outN outN outP
    simp only [pw, hasN_eq, Nat.zero_add]
  rw [e]
  split
  · rfl
  · split <;> rfl
theorem trip_nat (k x : Nat) : trip ((k : Int), (x : Int)) = (((tripN k x).1 : Int), ((tripN k x).2.1 : Int), ((tripN k x).2.2.1 : Int), (tripN k x).2.2.2) := by
  unfold trip tripN
  by_cases h0 : x = 0
  · subst h0
    rw [if_pos rfl]
    match k with
    | 0 => decide
    | 1 => decide
    | 2 => decide
    | 3 => decide
    | 4 => decide
    | 5 => decide
    | n + 6 =>
      have e : ∀ m : Int, m < 6 → ∀ z : Int, ¬ (((n + 6 : Nat) : Int), ((0 : Nat) : Int)) = (m, z) := fun m hm z h => by
        have := congrArg Prod.fst h
        dsimp only at this
        omega
      rw [if_neg (e 1 (by omega) 0), if_neg (e 2 (by omega) 0), if_neg (e 3 (by omega) 0), if_neg (e 4 (by omega) 0), if_neg (e 5 (by omega) 0), if_neg (fun h => by have := congrArg Prod.snd h; dsimp only at this; omega)]
      rfl
  · have e : ∀ m : Int, ¬ ((k : Int), (x : Int)) = (m, 0) := fun m h => by
      have := congrArg Prod.snd h
      dsimp only at this
      omega
    rw [if_neg h0, if_neg (e 1), if_neg (e 2), if_neg (e 3), if_neg (e 4), if_neg (e 5)]
    by_cases h1 : x = 16
    · subst h1
      rw [if_pos rfl]
      by_cases h6 : k = 6
      · subst h6; rfl
      · rw [if_neg (fun h => by have := congrArg Prod.fst h; dsimp only at this; omega)]
        split
        · exact absurd rfl h6
        · rfl
    · rw [if_neg h1, if_neg (fun h => by have := congrArg Prod.snd h; dsimp only at this; omega)]
      rfl
theorem tripN_bd (k x : Nat) : (tripN k x).1 < 256 ∧ (tripN k x).2.1 < 256 ∧ (tripN k x).2.2.1 < 256 := by
  unfold tripN
  split
  · split <;> decide
  · split
    · split <;> decide
    · decide
theorem makP_nat (p k w : Nat) (hp : p < 256) (hw : w < 256) : makP (p : Int) (w : Int) (trip ((k : Int), andI (p : Int) 16)) = up (implN p k w) := by
  have e16 : andI (p : Int) 16 = ((p &&& 16 : Nat) : Int) := by
    unfold andI
    rw [show (16 : Int) = ((16 : Nat) : Int) from rfl, bits_nat p 16 (by omega) (by omega)]
  rw [e16, trip_nat]
  obtain ⟨b1, b2, b3⟩ := tripN_bd k (p &&& 16)
  unfold implN makP
  dsimp only
  generalize tripN k (p &&& 16) = t at *
  obtain ⟨tn, tt, ts, tb⟩ := t
  dsimp only at *
  have eF : hasF (p : Int) (tn : Int) = ((tn &&& (255 - p)) == 0) := by
    unfold hasF
    rw [bits_not tn p b1 hp, Bool.eq_iff_iff]
    simp only [beq_iff_eq]
    omega
  have e1 : orI (w : Int) (tt : Int) = ((w ||| tt : Nat) : Int) := bits_or w tt hw b2
  have l1 : w ||| tt < 256 := Nat.or_lt_two_pow (n := 8) hw b2
  have e2 : orI ((w ||| tt : Nat) : Int) 192 = (((w ||| tt) ||| 192 : Nat) : Int) := bits_or (w ||| tt) 192 l1 (by omega)
  have l2 : (w ||| tt) ||| 192 < 256 := Nat.or_lt_two_pow (n := 8) l1 (by omega)
  have e3 : andI (p : Int) (((w ||| tt) ||| 192 : Nat) : Int) = ((p &&& ((w ||| tt) ||| 192) : Nat) : Int) := bits_nat p _ (by omega) (by omega)
  have l3 : p &&& ((w ||| tt) ||| 192) < 256 := Nat.lt_of_le_of_lt Nat.and_le_left hp
  have e4 : orI ((p &&& ((w ||| tt) ||| 192) : Nat) : Int) (ts : Int) = (((p &&& ((w ||| tt) ||| 192)) ||| ts : Nat) : Int) := bits_or _ ts l3 b3
  rw [eF, e1, e2, e3, e4]
  split
  · rfl
  · rfl
theorem trip_none (k : Int) (x : Int) (h : ¬ (1 ≤ k ∧ k ≤ 6)) : trip (k, x) = (0, 0, 0, false) := by
  have e : ∀ m z : Int, 1 ≤ m → m ≤ 6 → ¬ (k, x) = (m, z) := fun m z h1 h2 c => h (by have := congrArg Prod.fst c; dsimp only at this; omega)
  unfold trip
  rw [if_neg (e 1 0 (by omega) (by omega)), if_neg (e 2 0 (by omega) (by omega)), if_neg (e 3 0 (by omega) (by omega)), if_neg (e 4 0 (by omega) (by omega)), if_neg (e 5 0 (by omega) (by omega)), if_neg (e 6 16 (by omega) (by omega))]
theorem der_eq (p k w : Int) (hw : i64 w) : derP p k w = specF p k w := by
  unfold derP specF
  rw [hasF15 w hw]
  by_cases hp : btw p 0 255 = true
  · by_cases hv : btw w 0 15 = true
    · rw [hp, hv]
      have hp2 := (btw_iff _ _ _).1 hp
      have hv2 := (btw_iff _ _ _).1 hv
      by_cases hk : btw k 1 6 = true
      · rw [hk]
        have hk2 := (btw_iff _ _ _).1 hk
        obtain ⟨x, rfl⟩ : ∃ x : Nat, p = x := ⟨p.toNat, by omega⟩
        obtain ⟨y, rfl⟩ : ∃ y : Nat, w = y := ⟨w.toNat, by omega⟩
        obtain ⟨n, rfl⟩ : ∃ n : Nat, k = n := ⟨k.toNat, by omega⟩
        show makP _ _ _ = specD _ n _
        rw [makP_nat x n y (by omega) (by omega), specD_nat, same_tab x (by omega) y (by omega) n (by omega), if_neg (by omega)]
      · rw [Bool.not_eq_true] at hk
        rw [hk, trip_none k _ (fun h => by rw [(btw_iff _ _ _).2 h] at hk; cases hk)]
        rfl
    · rw [Bool.not_eq_true] at hv
      rw [hv]
      simp
  · rw [Bool.not_eq_true] at hp
    rw [hp]
    simp
set_option maxRecDepth 100000 in
theorem lawDer (p k w : Int) (hk : i64 k) (hw : i64 w) (W : World) : Calls Try.prog 6 #[.int .i64 p, .int .i64 k, .int .i64 w] W fun e W' => e = .returned (.bool true) ∧ Below W.heap.size W W' := by
  go_enter Try.func6, Try.ntmps6
  go_wp2_with fail
  refine (specF_is p k w _).mono ?_
  rintro e W1 ⟨rfl, b1⟩
  go_wp2_with fail
  refine (implDer_is p k w hk _).mono ?_
  rintro e W2 ⟨rfl, b2⟩
  have hb := b1.trans (b2.mono b1.size)
  rw [der_eq p k w hw]
  clear b1 b2
  go_wp2
  go_ret
  exact ⟨rfl, hb⟩
end Go.Proofs.Ytcilgmofhkpkpaa
