/- What the laws on terms draw. -/
import Derived.Test.YtpfloopngndpbaaSome
set_option linter.unusedVariables false
namespace Go.Proofs.Ytpfloopngndpbaa.Draw
open Go Go.RowKit Own Var Term

theorem own_base {w : World} {B B' e size n : Nat} {v : Value} {xs : List Value} (h : w.ownsRow B' e size v n xs) (hB : B ≤ B') : w.ownsRow B e size v n xs := by
  refine ⟨h.1, ?_⟩
  rcases h.2 with h0 | ⟨g, cap, cur, e1, e2, e3⟩
  · exact Or.inl h0
  · exact Or.inr ⟨g, cap, cur, e1, Nat.le_trans hB e2, e3⟩
set_option maxRecDepth 100000 in
theorem drawTermOk (a : Option Addr) (len cap : Nat) (zs : List Int) (W : World) (hz : CodeAt W W.heap.size a len zs) :
    Calls Try.prog 37 #[.slice a len cap] W fun e w' => ∃ T : ByteArray, e = .returned (.string T) ∧ T.size ≤ 930 ∧ Below W.heap.size W w' := by
  have H : Hid (CodeAt W W.heap.size a len zs) := hz
  clear hz
  go_enter Try.func37, Try.ntmps37
  go_wp2_with fail
  refine (new_go a len cap zs _ H.out).mono ?_
  rintro e w1 ⟨rfl, c1, b1, l1⟩
  have C1 : Hid (Cu W.heap.size a len cap zs w1 w1 ∧ Below W.heap.size W w1) := ⟨Cu.start ⟨c1, H.out.below b1, Nat.zero_le _⟩, b1⟩
  clear c1 b1
  go_wp2_with fail
  refine (anyW _ _ _ _ _ _ C1.out.1).mono ?_
  rintro e w2 ⟨T, rfl, hT, c2⟩
  have hb := C1.out.2.trans (c2.2.below (Nat.le_refl _) l1)
  go_wp2
  go_ret
  exact ⟨_, rfl, hT, hb⟩
set_option maxRecDepth 100000 in
theorem drawAtom (a : Option Addr) (len cap : Nat) (zs : List Int) (W : World) (hz : CodeAt W W.heap.size a len zs) :
    Calls Try.prog 29 #[.slice a len cap] W fun e w' => ∃ T : ByteArray, e = .returned (.string T) ∧ T.size ≤ 41 ∧ Below W.heap.size W w' := by
  have H : Hid (CodeAt W W.heap.size a len zs) := hz
  clear hz
  go_enter Try.func29, Try.ntmps29
  go_wp2_with fail
  refine (new_go a len cap zs _ H.out).mono ?_
  rintro e w1 ⟨rfl, c1, b1, l1⟩
  have C1 : Hid (Cu W.heap.size a len cap zs w1 w1 ∧ Below W.heap.size W w1) := ⟨Cu.start ⟨c1, H.out.below b1, Nat.zero_le _⟩, b1⟩
  clear c1 b1
  go_wp2_with fail
  refine (textW 41 C1.out.1 (by omega)).mono ?_
  rintro e w2 ⟨T, rfl, hT, c2⟩
  have hb := C1.out.2.trans (c2.2.below (Nat.le_refl _) l1)
  go_wp2
  go_ret
  exact ⟨_, rfl, hT, hb⟩

/-- The numbers that DrawSeal picks of. -/
def seals : List Int := [1, 2, 3, 0, 1000000, 1000001]
theorem seals_cells (w : World) (j : Nat) (h : j < 6) :
    (w.alloc (.cells #[.int .i64 1, .int .i64 2, .int .i64 3, .int .i64 0, .int .i64 1000000, .int .i64 1000001] 3)).cell? ⟨w.heap.size, j, none⟩ = some (.int .i64 (seals.getD j 0)) := by
  rw [World.cell?_alloc_mark]
  show ((seals.map (Value.int .i64)).toArray)[j]? = _
  have hl : j < seals.length := h
  simp [List.getD, hl]
theorem seals_bd (j : Nat) : 0 ≤ seals.getD j 0 ∧ seals.getD j 0 ≤ 1000001 := by
  by_cases h : j < 6
  · have : j = 0 ∨ j = 1 ∨ j = 2 ∨ j = 3 ∨ j = 4 ∨ j = 5 := by omega
    rcases this with rfl | rfl | rfl | rfl | rfl | rfl <;> decide
  · have e : seals.getD j 0 = 0 := by simp [seals, List.getD, List.getElem?_eq_none (l := [1, 2, 3, 0, 1000000, 1000001]) (by simp; omega : List.length ([1, 2, 3, 0, 1000000, 1000001] : List Int) ≤ j)]
    rw [e]; omega
set_option maxRecDepth 100000 in
set_option maxHeartbeats 800000 in
theorem drawSeal (a : Option Addr) (len cap : Nat) (zs : List Int) (W : World) (hz : CodeAt W W.heap.size a len zs) :
    Calls Try.prog 19 #[.slice a len cap] W fun e w' => ∃ (k : Int) (T : ByteArray), e = .returned (.tuple #[.int .i64 k, .string T]) ∧ 0 ≤ k ∧ k ≤ 1000001 ∧ T.size ≤ 930 ∧ Below W.heap.size W w' := by
  have H : Hid (CodeAt W W.heap.size a len zs) := hz
  clear hz
  go_enter Try.func19, Try.ntmps19
  go_wp2_with fail
  refine (new_go a len cap zs _ H.out).mono ?_
  rintro e w1 ⟨rfl, c1, b1, l1⟩
  have C1 : Hid (Dr w1 W.heap.size a len cap zs (newS zs len) ∧ Below W.heap.size W w1) := ⟨⟨c1, H.out.below b1, Nat.zero_le _⟩, b1⟩
  clear c1 b1
  go_wp2_with fail
  refine (pickIntD W.heap.size a len cap zs (newS zs len) _ w1.heap.size 6 seals (C1.out.1.alloc _) (by omega) (by omega) l1 (by simp) (fun j hj => seals_cells w1 j hj)).mono ?_
  rintro e w2 ⟨rfl, d2, o2⟩
  have hbd := seals_bd (belowV zs len ((6 : Nat) : Int) (newS zs len)).toNat
  generalize seals.getD (belowV zs len ((6 : Nat) : Int) (newS zs len)).toNat 0 = k at hbd
  have C2 : Hid (Cu W.heap.size a len cap zs w1 w2) := ⟨⟨_, d2⟩, ((Only.refl _ w1).alloc _).trans o2⟩
  clear d2 o2
  go_wp2_with fail
  refine (anyW _ _ _ _ _ _ C2.out.here).mono ?_
  rintro e w3 ⟨T, rfl, hT, c3⟩
  have hb := C1.out.2.trans ((C2.out.next c3).2.below (Nat.le_refl _) l1)
  go_wp2
  go_ret2
  exact ⟨_, _, rfl, hbd.1, hbd.2, hT, hb⟩

set_option maxRecDepth 100000 in
set_option maxHeartbeats 1600000 in
theorem drawNums (a : Option Addr) (len cap : Nat) (zs : List Int) (W : World) (hz : CodeAt W W.heap.size a len zs) :
    Calls Try.prog 32 #[.slice a len cap] W fun e w' => ∃ (v : Value) (xs : List Int), e = .returned v ∧ xs.length ≤ 14 ∧ w'.ownsRow W.heap.size 3 1 v xs.length (intV xs) ∧ Below W.heap.size W w' := by
  have H : Hid (CodeAt W W.heap.size a len zs) := hz
  clear hz
  obtain ⟨i0, hi, hz0, hz1, hz2⟩ := info_parts infoInt
  go_enter Try.func32, Try.ntmps32
  go_wp2_with fail
  refine (new_go a len cap zs _ H.out).mono ?_
  rintro e w1 ⟨rfl, c1, b1, l1⟩
  have C1 : Hid (Cu W.heap.size a len cap zs w1 w1 ∧ Below W.heap.size W w1) := ⟨Cu.start ⟨c1, H.out.below b1, Nat.zero_le _⟩, b1⟩
  clear c1 b1
  go_wp2_with fail
  refine (belowW 14 (C1.out.1.alloc _).here (by omega) (by omega)).mono ?_
  rintro e w2 ⟨n, rfl, n0, n14, c2⟩
  have C2 : Hid (Cu W.heap.size a len cap zs w1 w2) := (C1.out.1.alloc _).next c2
  have ho2 : w2.ownsRow w1.heap.size 3 1 (.slice (some ⟨w1.heap.size, 0, none⟩) 0 0) 0 (intV []) := own_only (World.ownsRow_lit w1 #[] 0 (Nat.le_refl _) (by unfold maxLen; omega) rfl) c2.2 l1
  clear c2
  have C1b : Hid (Below W.heap.size W w1) := C1.out.2
  clear C1
  go_wp2
  go_loopw [4, 5] (fun v i wr => ∃ (m : Int) (xs : List Int), 0 ≤ m ∧ (xs.length : Int) + m ≤ 13 ∧ i = .int .i64 m ∧ wr.ownsRow w1.heap.size 3 1 v xs.length (intV xs) ∧ Cu W.heap.size a len cap zs w1 wr) (fun _ i _ => (intOf i).toNat)
  case atStart => exact ⟨n, [], by omega, by simp; omega, rfl, ho2, C2.out⟩
  case round =>
    clear ho2 C2
    obtain ⟨m, xs, m0, hlm, rfl, hown, hcu⟩ := hrel
    have C : Hid (Cu W.heap.size a len cap zs w1 wr) := hcu
    clear hcu
    by_cases hm : 0 < m
    · go_wp2_with fail
      refine (belowW 300 C.out.here (by omega) (by omega)).mono ?_
      rintro e w3 ⟨z, rfl, _, _, c3⟩
      have C3 : Hid (Cu W.heap.size a len cap zs w1 w3) := C.out.next c3
      have hown1 := own_only hown c3.2 l1
      have hsz3 := C3.out.2.size
      clear c3 C hown
      have HP : Hid (intV xs ++ [.int .i64 z] = intV (xs ++ [z])) := (by unfold intV; rw [List.map_append]; rfl : intV xs ++ [.int .i64 z] = intV (xs ++ [z]))
      have HL : Hid ((xs ++ [z]).length = xs.length + 1) := (by rw [List.length_append]; rfl : (xs ++ [z]).length = xs.length + 1)
      generalize hD : xs.length = D at *
      go_wp2_with (first | (at_builtin; refine wpList_append_own _ rfl _ _ 39 rfl w1.heap.size 3 i0 (.int .i64 0) 1 8 Try.underlying39 hi hz0 hz1 hz2 rfl (by decide) _ _ _ rfl (hown1.alloc _) ⟨w3.heap.size, 0, none⟩ 1 1 [.int .i64 z] rfl rfl (cell_one_new _ _ _) ?c2 ?c3 ?c4 ?c5 ?_) | go_in)
      case c2 => intro u hu; simp at hu; subst hu; rfl
      case c3 => unfold maxLen; omega
      case c4 => omega
      case c5 => simp; omega
      intro v' w4 hown' hgrow _
      have C4 : Hid (Cu W.heap.size a len cap zs w1 w4) := C3.out.app l1 hgrow (fun k hk => (hown1.lt k hk).1)
      rw [HP.out] at hown'
      clear hgrow hown1 C3
      go_wp2
      go_roundw
      case rel =>
        have R : ∃ (m' : Int) (xs' : List Int), 0 ≤ m' ∧ (xs'.length : Int) + m' ≤ 13 ∧ Value.int .i64 (m - 1) = .int .i64 m' ∧ w4.ownsRow w1.heap.size 3 1 v' xs'.length (intV xs') ∧ Cu W.heap.size a len cap zs w1 w4 := by
          have hl := HL.out
          exact ⟨m - 1, xs ++ [z], by omega, by rw [hl]; omega, rfl, by rw [hl]; exact hown', C4.out⟩
        first | exact R | ((repeat apply Exists.intro); exact ⟨R, rfl⟩)
      case measure => simp [intOf]; omega
    · go_wp2_with fail
      refine (onceW 8 C.out.here (by omega)).mono ?_
      rintro e w3 ⟨b, rfl, c3⟩
      have C3 : Hid (Cu W.heap.size a len cap zs w1 w3) := C.out.next c3
      have hown1 := own_only hown c3.2 l1
      clear c3 C hown
      cases b with
      | false =>
        have hb := C1b.out.trans (C3.out.2.below (Nat.le_refl _) l1)
        have hlow : w3.ownsRow W.heap.size 3 1 _ xs.length (intV xs) := own_base hown1 (Nat.le_of_lt l1)
        go_wp2
        go_ret
        exact ⟨_, xs, rfl, by omega, hlow, hb⟩
      | true =>
        go_wp2_with fail
        refine (numW C3.out.here).mono ?_
        rintro e w4 ⟨z, rfl, c4⟩
        have C4 : Hid (Cu W.heap.size a len cap zs w1 w4) := C3.out.next c4
        have hown2 := own_only hown1 c4.2 l1
        have hsz4 := C4.out.2.size
        clear c4 C3 hown1
        have HP : Hid (intV xs ++ [.int .i64 z] = intV (xs ++ [z])) := (by unfold intV; rw [List.map_append]; rfl : intV xs ++ [.int .i64 z] = intV (xs ++ [z]))
        have HL : Hid ((xs ++ [z]).length = xs.length + 1) := (by rw [List.length_append]; rfl : (xs ++ [z]).length = xs.length + 1)
        generalize hD : xs.length = D at *
        go_wp2_with (first | (at_builtin; refine wpList_append_own _ rfl _ _ 39 rfl w1.heap.size 3 i0 (.int .i64 0) 1 8 Try.underlying39 hi hz0 hz1 hz2 rfl (by decide) _ _ _ rfl (hown2.alloc _) ⟨w4.heap.size, 0, none⟩ 1 1 [.int .i64 z] rfl rfl (cell_one_new _ _ _) ?d2 ?d3 ?d4 ?d5 ?_) | go_in)
        case d2 => intro u hu; simp at hu; subst hu; rfl
        case d3 => unfold maxLen; omega
        case d4 => omega
        case d5 => simp; omega
        intro v' w5 hown' hgrow _
        have C5 : Hid (Cu W.heap.size a len cap zs w1 w5) := C4.out.app l1 hgrow (fun k hk => (hown2.lt k hk).1)
        rw [HP.out] at hown'
        have hb := C1b.out.trans (C5.out.2.below (Nat.le_refl _) l1)
        have hlow : w5.ownsRow W.heap.size 3 1 v' (D + 1) (intV (xs ++ [z])) := own_base hown' (Nat.le_of_lt l1)
        clear hgrow hown2 C4
        go_wp2
        go_ret
        exact ⟨_, xs ++ [z], rfl, by rw [HL.out]; omega, by rw [HL.out]; exact hlow, hb⟩
end Go.Proofs.Ytpfloopngndpbaa.Draw
