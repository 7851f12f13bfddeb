/- The law on flags, step by step. -/
import Derived.Test.YtcilgmofhkpkpaaFg9
set_option linter.unusedVariables false
namespace Go.Proofs.Ytcilgmofhkpkpaa
open Go Go.RowKit Draw

theorem der_again (f : Nat) (hf : f < 256) : specF (f : Int) 2 15 = (((specN f 2 15).1 : Int), (specN f 2 15).2) := by
  unfold specF
  rw [(btw_iff _ _ _).2 ⟨by omega, by omega⟩]
  exact specD_nat f 2 15
theorem bel_nat (a b : Nat) (ha : a < 256) (hb : b < 256) : belP (a : Int) (b : Int) = belX a b := by rw [bel_eq, belM_nat a b ha hb]
set_option maxRecDepth 100000 in
theorem flags_at (a : Option Addr) (len cap : Nat) (zs : List Int) (W : World) (hl : len ≤ 1048576) (hz : CodeAt W W.heap.size a len zs) :
    Calls Try.prog 3 #[.slice a len cap] W fun e w' => e = .returned (.bool true) ∧ Below W.heap.size W w' := by
  go_enter Try.func3, Try.ntmps3
  go_wp2_with fail
  refine (big_go a len cap W hl).mono ?_
  rintro e w0 ⟨rfl, rfl⟩
  go_wp2_with fail
  refine (drawDer a len cap zs W hz).mono ?_
  rintro e w1 ⟨p, k, q, rfl, hp, hk, hq, b1⟩
  go_wp2_with fail
  refine (implDer_is p k q hk _).mono ?_
  rintro e w2 ⟨rfl, b2⟩
  rw [der_eq p k q hq]
  go_wp2_with fail
  refine (specF_is p k q _).mono ?_
  rintro e w3 ⟨rfl, b3⟩
  have B3 : Below W.heap.size W w3 := (b1.trans (b2.mono b1.size)).trans (b3.mono (Nat.le_trans b1.size b2.size))
  clear b1 b2 b3 hz
  have Z := der_zero p k q
  have F := der_fine p k q
  generalize specF p k q = r at *
  obtain ⟨r1, r2⟩ := r
  cases r2 with
  | false =>
    obtain rfl : r1 = 0 := Z rfl
    clear Z F
    go_wp2
    go_ret
    exact ⟨rfl, B3⟩
  | true =>
    obtain ⟨x, f, rfl, hx, e1, hfine⟩ := F rfl
    have e1 : r1 = (f : Int) := e1
    subst e1
    clear Z F
    have HF : Hid (fine x f = true) := hfine
    unfold fine at hfine
    simp only [Bool.and_eq_true, Bool.or_eq_true, decide_eq_true_eq, Bool.not_eq_true'] at hfine
    obtain ⟨⟨⟨⟨⟨g1, g2⟩, g3⟩, g4⟩, g5⟩, g6⟩ := hfine
    have G : Hid ((specN f 2 15).2 = false ∨ ((specN f 2 15).1 < 256 ∧ belX (specN f 2 15).1 x = true) ∧ (specN f 2 15).1 / 64 % 2 = 1) := g6
    clear g6
    have hda := der_again f g2
    go_wp2_with fail
    refine (implDer_is f 2 15 (by unfold i64; omega) _).mono ?_
    rintro e w4 ⟨rfl, b4⟩
    rw [der_eq _ _ _ (by unfold i64; omega), hda]
    have B4 : Below W.heap.size W w4 := B3.trans (b4.mono B3.size)
    clear B3 b4 hda
    generalize specN f 2 15 = u at *
    obtain ⟨h, hb⟩ := u
    dsimp only
    have hbel1 := bel_nat f x g2 hx
    have hbel2 := belM_nat f x g2 hx
    rw [g1] at hbel1 hbel2
    cases hb with
    | true =>
      obtain g | ⟨⟨h1, h2⟩, h3⟩ := G.out
      · cases g
      dsimp only at h1 h2 h3
      have hbel3 := bel_nat h x h1 hx
      rw [h2] at hbel3
      clear G HF hp g1 h2
      go_wp2_with fail
      refine (implBel_is _ _ _).mono ?_
      rintro e w5 ⟨rfl, rfl⟩
      rw [show belP ((h : Nat) : Int) (x : Int) = true from hbel3]
      have h4 : ((h : Nat) : Int) / 64 % 2 = 1 := by omega
      go_wp2_with fail
      refine (implBel_is _ _ _).mono ?_
      rintro e w5 ⟨rfl, rfl⟩
      rw [hbel1]
      go_wp2_with fail
      refine (specBel_is _ _ _).mono ?_
      rintro e w5 ⟨rfl, rfl⟩
      rw [hbel2]
      have f4 : ((f : Nat) : Int) / 32 % 2 = 0 := by omega
      by_cases x4 : x / 64 % 2 = 0
      · have y4 : ((x : Nat) : Int) / 64 % 2 = 0 := by omega
        by_cases x5 : x / 128 % 2 = 0
        · have y5 : ((x : Nat) : Int) / 128 % 2 = 0 := by omega
          clear g3 g4 g5 x4 x5
          go_wp2
          go_ret
          exact ⟨rfl, B4⟩
        · have y5 : ((x : Nat) : Int) / 128 % 2 = 1 := by omega
          have z5 : ((f : Nat) : Int) / 128 % 2 = 1 := by omega
          clear g3 g4 g5 x4 x5
          go_wp2
          go_ret
          exact ⟨rfl, B4⟩
      · have y4 : ((x : Nat) : Int) / 64 % 2 = 1 := by omega
        have z4 : ((f : Nat) : Int) / 64 % 2 = 1 := by omega
        by_cases x5 : x / 128 % 2 = 0
        · have y5 : ((x : Nat) : Int) / 128 % 2 = 0 := by omega
          clear g3 g4 g5 x4 x5
          go_wp2
          go_ret
          exact ⟨rfl, B4⟩
        · have y5 : ((x : Nat) : Int) / 128 % 2 = 1 := by omega
          have z5 : ((f : Nat) : Int) / 128 % 2 = 1 := by omega
          clear g3 g4 g5 x4 x5
          go_wp2
          go_ret
          exact ⟨rfl, B4⟩
    | false =>
      clear G HF hp g1
      go_wp2_with fail
      refine (implBel_is _ _ _).mono ?_
      rintro e w5 ⟨rfl, rfl⟩
      rw [hbel1]
      go_wp2_with fail
      refine (specBel_is _ _ _).mono ?_
      rintro e w5 ⟨rfl, rfl⟩
      rw [hbel2]
      have f4 : ((f : Nat) : Int) / 32 % 2 = 0 := by omega
      by_cases x4 : x / 64 % 2 = 0
      · have y4 : ((x : Nat) : Int) / 64 % 2 = 0 := by omega
        by_cases x5 : x / 128 % 2 = 0
        · have y5 : ((x : Nat) : Int) / 128 % 2 = 0 := by omega
          clear g3 g4 g5 x4 x5
          go_wp2
          go_ret
          exact ⟨rfl, B4⟩
        · have y5 : ((x : Nat) : Int) / 128 % 2 = 1 := by omega
          have z5 : ((f : Nat) : Int) / 128 % 2 = 1 := by omega
          clear g3 g4 g5 x4 x5
          go_wp2
          go_ret
          exact ⟨rfl, B4⟩
      · have y4 : ((x : Nat) : Int) / 64 % 2 = 1 := by omega
        have z4 : ((f : Nat) : Int) / 64 % 2 = 1 := by omega
        by_cases x5 : x / 128 % 2 = 0
        · have y5 : ((x : Nat) : Int) / 128 % 2 = 0 := by omega
          clear g3 g4 g5 x4 x5
          go_wp2
          go_ret
          exact ⟨rfl, B4⟩
        · have y5 : ((x : Nat) : Int) / 128 % 2 = 1 := by omega
          have z5 : ((f : Nat) : Int) / 128 % 2 = 1 := by omega
          clear g3 g4 g5 x4 x5
          go_wp2
          go_ret
          exact ⟨rfl, B4⟩
end Go.Proofs.Ytcilgmofhkpkpaa
