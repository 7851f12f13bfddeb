/- The law on the letters of flags, step by step. -/
import Derived.Test.YtcilgmofhkpkpaaFg8
import Derived.Test.YtcilgmofhkpkpaaFg9
import Derived.Test.YtcilgmofhkpkpaaDrawSpoil
set_option linter.unusedVariables false
namespace Go.Proofs.Ytcilgmofhkpkpaa
open Go Go.RowKit Draw

theorem shS_nine (n : Int) : (shT n).size ≤ 1000 := by
  unfold shT
  split
  · split
    · decide
    · exact Nat.le_trans (shS_size _ 8) (by omega)
  · decide
theorem spoilW {p : Nat} {a : Option Addr} {len cap : Nat} {zs : List Int} {w : World} (t : ByteArray) (h : Cu p a len cap zs w w) (ht : t.size ≤ 1000) :
    Calls Try.prog 34 #[.pointer (some ⟨p, 0, none⟩), .string t] w fun e w' => ∃ s : ByteArray, e = .returned (.string s) ∧ Cu p a len cap zs w w' := by
  obtain ⟨⟨s, h⟩, _⟩ := h
  refine (spoilD p a len cap zs s w t h ht).mono ?_
  rintro e w' ⟨rfl, ⟨s', d⟩, o⟩
  exact ⟨_, rfl, ⟨s', d⟩, o⟩
set_option maxRecDepth 100000 in
theorem drawRd (a : Option Addr) (len cap : Nat) (zs : List Int) (W : World) (hz : CodeAt W W.heap.size a len zs) :
    Calls Try.prog 19 #[.slice a len cap] W fun e w' => ∃ s : ByteArray, e = .returned (.string s) ∧ Below W.heap.size W w' := by
  go_enter Try.func19, Try.ntmps19
  go_wp2_with fail
  refine (newW a len cap zs W hz).mono ?_
  rintro e w1 ⟨rfl, c1, b1⟩
  have hlt := c1.lt
  go_wp2_with fail
  refine (flagsW c1).mono ?_
  rintro e w2 ⟨p, rfl, hp, c2⟩
  go_wp2_with fail
  refine (specShow_is p _).mono ?_
  rintro e w3 ⟨rfl, rfl⟩
  have hs := shS_nine p
  generalize shT p = t at *
  go_wp2_with fail
  refine (onceW 3 c2.here (by omega)).mono ?_
  rintro e w4 ⟨b, rfl, c4⟩
  have C4 := c2.next c4
  have B4 : Below W.heap.size W w4 := b1.trans (C4.2.below (Nat.le_refl _) hlt)
  clear c1 c2 c4
  cases b with
  | true =>
    go_wp2_with fail
    refine (spoilW t C4.here hs).mono ?_
    rintro e w5 ⟨s, rfl, c5⟩
    have B5 : Below W.heap.size W w5 := b1.trans ((C4.next c5).2.below (Nat.le_refl _) hlt)
    clear B4 C4 c5
    go_wp2
    go_ret
    exact ⟨s, rfl, B5⟩
  | false =>
    clear C4
    go_wp2
    go_ret
    exact ⟨t, rfl, B4⟩
theorem shN_inj {m n : Nat} (hm : m < 256) (hn : n < 256) (h : shN m = shN n) : m = n := by
  rw [← mask_shown m hm, ← mask_shown n hn, h]
theorem show_256 : shT 256 = ByteArray.empty := by decide +kernel
set_option maxRecDepth 100000 in
theorem text_at (a : Option Addr) (len cap : Nat) (zs : List Int) (W : World) (hl : len ≤ 1048576) (hz : CodeAt W W.heap.size a len zs) :
    Calls Try.prog 4 #[.slice a len cap] W fun e w' => e = .returned (.bool true) ∧ Below W.heap.size W w' := by
  have HZ : Hid (CodeAt W W.heap.size a len zs) := hz
  clear hz
  go_enter Try.func4, Try.ntmps4
  go_wp2_with fail
  refine (big_go a len cap W hl).mono ?_
  rintro e w0 ⟨rfl, rfl⟩
  go_wp2_with fail
  refine (at0 a len cap zs W HZ.out).mono ?_
  rintro e w0 ⟨x0, rfl, xa, xb, rfl⟩
  go_wp2_with fail
  refine (at1 a len cap zs W HZ.out).mono ?_
  rintro e w0 ⟨y0, rfl, ya, yb, rfl⟩
  obtain ⟨x, rfl⟩ : ∃ x : Nat, x0 = x := ⟨x0.toNat, by omega⟩
  obtain ⟨y, rfl⟩ : ∃ y : Nat, y0 = y := ⟨y0.toNat, by omega⟩
  have hx : x < 256 := by omega
  have hy : y < 256 := by omega
  go_wp2_with fail
  refine (implShow_is x _).mono ?_
  rintro e w1 ⟨rfl, b1⟩
  rw [shN_eq x hx]
  go_wp2_with fail
  refine (implRead_is (shN x) _).mono ?_
  rintro e w2 ⟨rfl, b2⟩
  rw [rdF_hit hx rfl]
  dsimp only
  have B2 := b1.trans (b2.mono b1.size)
  clear b1 b2
  go_wp2_with fail
  refine (drawRd a len cap zs w2 ((HZ.out.below B2).lt B2.size)).mono ?_
  rintro e w3 ⟨s, rfl, b3⟩
  have B3 := B2.trans (b3.mono B2.size)
  clear b3 B2 HZ
  go_wp2_with fail
  refine (implRead_is s _).mono ?_
  rintro e w4 ⟨rfl, b4⟩
  have B4 := B3.trans (b4.mono B3.size)
  clear b4 B3
  go_wp2_with fail
  refine (specRead_is s _).mono ?_
  rintro e w5 ⟨rfl, b5⟩
  have B5 := B4.trans (b5.mono B4.size)
  clear b5 B4
  have HR : Hid ((rdF s).2 = false ∨ ∃ g : Nat, g < 256 ∧ (rdF s).1 = (g : Int) ∧ shN g = s) := by
    show _ ∨ _
    unfold rdF
    split
    · rename_i h; exact Or.inr ⟨_, mask_lt s 8, rfl, h⟩
    · exact Or.inl rfl
  generalize rdF s = r at *
  obtain ⟨r1, r2⟩ := r
  go_wp2_with fail
  refine (implShow_is x _).mono ?_
  rintro e w6 ⟨rfl, b6⟩
  have B6 := B5.trans (b6.mono B5.size)
  clear b6 B5
  rw [shN_eq x hx]
  go_wp2_with fail
  refine (implShow_is y _).mono ?_
  rintro e w7 ⟨rfl, b7⟩
  have B7 := B6.trans (b7.mono B6.size)
  clear b7 B6
  rw [shN_eq y hy]
  by_cases hxy : x = y
  · subst hxy
    have hok : btw (x : Int) 0 255 = true := (btw_iff _ _ _).2 ⟨by omega, by omega⟩
    generalize shN x = sx at *
    cases r2 with
    | true =>
      obtain c | ⟨g, hg, e1, e2⟩ := HR.out
      · cases c
      have e1 : r1 = (g : Int) := e1
      subst e1
      clear HR
      go_wp2_with fail
      refine (implShow_is g _).mono ?_
      rintro e w8 ⟨rfl, b8⟩
      have B8 := B7.trans (b8.mono B7.size)
      clear b8 B7
      rw [shN_eq g hg, e2]
      clear e2
      go_wp2_with fail
      refine (implShow_is 256 _).mono ?_
      rintro e w9 ⟨rfl, b9⟩
      have B9 := B8.trans (b9.mono B8.size)
      clear b9 B8
      rw [show_256]
      go_wp2_with fail
      refine (implOk_is x _).mono ?_
      rintro e w10 ⟨rfl, rfl⟩
      rw [hok]
      go_wp2
      go_ret
      exact ⟨rfl, B9⟩
    | false =>
      have B8 := B7
      clear HR B7
      go_wp2_with fail
      refine (implShow_is 256 _).mono ?_
      rintro e w9 ⟨rfl, b9⟩
      have B9 := B8.trans (b9.mono B8.size)
      clear b9 B8
      rw [show_256]
      go_wp2_with fail
      refine (implOk_is x _).mono ?_
      rintro e w10 ⟨rfl, rfl⟩
      rw [hok]
      go_wp2
      go_ret
      exact ⟨rfl, B9⟩
  · have hne := same_list (fun h => hxy (shN_inj hx hy h))
    have hi : ((x : Int) == (y : Int)) = false := by simp; omega
    have hok : btw (x : Int) 0 255 = true := (btw_iff _ _ _).2 ⟨by omega, by omega⟩
    generalize shN x = sx at *
    generalize shN y = sy at *
    cases r2 with
    | true =>
      obtain c | ⟨g, hg, e1, e2⟩ := HR.out
      · cases c
      have e1 : r1 = (g : Int) := e1
      subst e1
      clear HR
      go_wp2_with fail
      refine (implShow_is g _).mono ?_
      rintro e w8 ⟨rfl, b8⟩
      have B8 := B7.trans (b8.mono B7.size)
      clear b8 B7
      rw [shN_eq g hg, e2]
      clear e2
      go_wp2_with fail
      refine (implShow_is 256 _).mono ?_
      rintro e w9 ⟨rfl, b9⟩
      have B9 := B8.trans (b9.mono B8.size)
      clear b9 B8
      rw [show_256]
      go_wp2_with fail
      refine (implOk_is x _).mono ?_
      rintro e w10 ⟨rfl, rfl⟩
      rw [hok]
      go_wp2
      go_ret
      exact ⟨rfl, B9⟩
    | false =>
      have B8 := B7
      clear HR B7
      go_wp2_with fail
      refine (implShow_is 256 _).mono ?_
      rintro e w9 ⟨rfl, b9⟩
      have B9 := B8.trans (b9.mono B8.size)
      clear b9 B8
      rw [show_256]
      go_wp2_with fail
      refine (implOk_is x _).mono ?_
      rintro e w10 ⟨rfl, rfl⟩
      rw [hok]
      go_wp2
      go_ret
      exact ⟨rfl, B9⟩
end Go.Proofs.Ytcilgmofhkpkpaa
