/- The list of texts that the law on terms draws. -/
import Derived.Test.YtpfloopngndpbaaDrawn
set_option linter.unusedVariables false
namespace Go.Proofs.Ytpfloopngndpbaa.Draw
open Go Go.RowKit Own Var Term

theorem all_snoc {xs : List ByteArray} {T : ByteArray} (h : ∀ x ∈ xs, x.size ≤ 930) (hT : T.size ≤ 930) : ∀ x ∈ xs ++ [T], x.size ≤ 930 := by
  intro x hx
  rcases List.mem_append.1 hx with hx | hx
  · exact h x hx
  · simp at hx; subst hx; exact hT
/-- How many of thirteen are still to come. -/
def left13 : Value → Nat
  | .slice _ n _ => 13 - n
  | _ => 0
/-- A list that was drawn. -/
def ListPost (W : World) (e : Ending) (w' : World) : Prop := ∃ (v : Value) (xs : List ByteArray), e = .returned v ∧ xs.length ≤ 13 ∧ (∀ x ∈ xs, x.size ≤ 930) ∧ w'.ownsRow W.heap.size 9 1 v xs.length (strV xs) ∧ Below W.heap.size W w'
set_option maxRecDepth 100000 in
set_option maxHeartbeats 3200000 in
theorem drawList (a : Option Addr) (len cap : Nat) (zs : List Int) (W : World) (hz : CodeAt W W.heap.size a len zs) :
    Calls Try.prog 24 #[.slice a len cap] W (ListPost W) := by
  have H : Hid (CodeAt W W.heap.size a len zs) := hz
  clear hz
  obtain ⟨i0, hi, hz0, hz1, hz2⟩ := info_parts infoStr
  go_enter Try.func24, Try.ntmps24
  go_wp2_with fail
  refine (new_go a len cap zs _ H.out).mono ?_
  rintro e w1 ⟨rfl, c1, b1, l1⟩
  have C1 : Hid (Cu W.heap.size a len cap zs w1 w1 ∧ Below W.heap.size W w1) := ⟨Cu.start ⟨c1, H.out.below b1, Nat.zero_le _⟩, b1⟩
  clear c1 b1
  go_wp2_with fail
  refine (belowW 5 (C1.out.1.alloc _).here (by omega) (by omega)).mono ?_
  rintro e w2 ⟨n, rfl, n0, n5, c2⟩
  have C2 : Hid (Cu W.heap.size a len cap zs w1 w2) := (C1.out.1.alloc _).next c2
  have ho2 : w2.ownsRow w1.heap.size 9 1 (.slice (some ⟨w1.heap.size, 0, none⟩) 0 0) 0 (strV []) := own_only (World.ownsRow_lit w1 #[] 0 (Nat.le_refl _) (by unfold maxLen; omega) rfl) c2.2 l1
  clear c2
  have C1b : Hid (Below W.heap.size W w1) := C1.out.2
  clear C1
  go_wp2
  go_loopw [4, 5] (fun v i wr => ∃ (m : Int) (xs : List ByteArray), 0 ≤ m ∧ (xs.length : Int) + m ≤ 4 ∧ i = .int .i64 m ∧ Hid (∀ x ∈ xs, x.size ≤ 930) ∧ wr.ownsRow w1.heap.size 9 1 v xs.length (strV xs) ∧ Cu W.heap.size a len cap zs w1 wr) (fun _ i _ => (intOf i).toNat)
  case atStart => exact ⟨n, [], by omega, by simp; omega, rfl, (fun x hx => by simp at hx), ho2, C2.out⟩
  case round =>
    clear ho2 C2
    obtain ⟨m, xs, m0, hlm, rfl, G, hown, hcu⟩ := hrel
    have C : Hid (Cu W.heap.size a len cap zs w1 wr) := hcu
    clear hcu
    by_cases hm : 0 < m
    · go_wp2_with fail
      refine (someW W.heap.size a len cap zs 3 3 wr rfl (by omega) C.out.here).mono ?_
      rintro e w3 ⟨T, rfl, hT, c3⟩
      have C3 : Hid (Cu W.heap.size a len cap zs w1 w3) := C.out.next c3
      have hown1 := own_only hown c3.2 l1
      have hsz3 := C3.out.2.size
      clear c3 C hown
      have HP : Hid (strV xs ++ [.string T] = strV (xs ++ [T])) := (by unfold strV; rw [List.map_append]; rfl : strV xs ++ [.string T] = strV (xs ++ [T]))
      have HL : Hid ((xs ++ [T]).length = xs.length + 1) := (by rw [List.length_append]; rfl : (xs ++ [T]).length = xs.length + 1)
      have HG : Hid (∀ x ∈ xs ++ [T], x.size ≤ 930) := all_snoc G.out (by omega)
      generalize hD : xs.length = D at *
      go_wp2_with (first | (at_builtin; refine wpList_append_own _ rfl _ _ 30 rfl w1.heap.size 9 i0 (.string ⟨#[]⟩) 1 16 Try.underlying30 hi hz0 hz1 hz2 rfl (by decide) _ _ _ rfl (hown1.alloc _) ⟨w3.heap.size, 0, none⟩ 1 1 [.string T] rfl rfl (cell_one_new _ _ _) ?c2a ?c3a ?c4a ?c5a ?_) | go_in)
      case c2a => intro u hu; simp at hu; subst hu; rfl
      case c3a => unfold maxLen; omega
      case c4a => omega
      case c5a => simp; omega
      intro v' wz hown' hgrow _
      have CZ : Hid (Cu W.heap.size a len cap zs w1 wz) := C3.out.app l1 hgrow (fun k hk => (hown1.lt k hk).1)
      rw [HP.out] at hown'
      clear hgrow hown1 C3
      go_wp2
      go_roundw
      case rel =>
        have R : ∃ (m' : Int) (xs' : List ByteArray), 0 ≤ m' ∧ (xs'.length : Int) + m' ≤ 4 ∧ Value.int .i64 (m - 1) = .int .i64 m' ∧ Hid (∀ x ∈ xs', x.size ≤ 930) ∧ wz.ownsRow w1.heap.size 9 1 v' xs'.length (strV xs') ∧ Cu W.heap.size a len cap zs w1 wz := by
          have hl := HL.out
          exact ⟨m - 1, xs ++ [T], by omega, by rw [hl]; omega, rfl, HG, by rw [hl]; exact hown', CZ.out⟩
        first | exact R | ((repeat apply Exists.intro); exact ⟨R, rfl⟩)
      case measure => simp [intOf]; omega
    · go_wp2_with fail
      refine (onceW 8 C.out.here (by omega)).mono ?_
      rintro e w3 ⟨b, rfl, c3⟩
      have C3 : Hid (Cu W.heap.size a len cap zs w1 w3) := C.out.next c3
      have hown1 := own_only hown c3.2 l1
      clear c3 C hown
      cases b with
      | false =>
        go_wp2_with fail
        refine (onceW 20 C3.out.here (by omega)).mono ?_
        rintro e w5 ⟨b2, rfl, c5⟩
        have C5 : Hid (Cu W.heap.size a len cap zs w1 w5) := C3.out.next c5
        have ownT := own_only hown1 c5.2 l1
        clear c5 C3 hown1
        cases b2 with
        | false =>
          have hb := C1b.out.trans (C5.out.2.below (Nat.le_refl _) l1)
          have hlow := own_base (B := W.heap.size) ownT (Nat.le_of_lt l1)
          go_wp2
          go_ret
          exact ⟨_, xs, rfl, by omega, G.out, hlow, hb⟩
        | true =>
          clear ownT
          go_wp2_with fail
          refine (belowW 2 C5.out.here (by omega) (by omega)).mono ?_
          rintro e w6 ⟨y, rfl, y0, y2, c6⟩
          have C6 : Hid (Cu W.heap.size a len cap zs w1 w6) := C5.out.next c6
          clear c6 C5
          have hsz6 := C6.out.2.size
          have ho6 : (w6.alloc (.cells #[] 9)).ownsRow w1.heap.size 9 1 (.slice (some ⟨w6.heap.size, 0, none⟩) 0 0) 0 (strV []) := World.ownsRow_lit w6 #[] 0 hsz6 (by unfold maxLen; omega) rfl
          have C6a : Hid (Cu W.heap.size a len cap zs w1 (w6.alloc (.cells #[] 9))) := C6.out.alloc _
          clear C6
          go_wp2
          go_loopw [4] (fun v wr2 => ∃ (aa : Option Addr) (c : Nat) (ys : List ByteArray), v = .slice aa ys.length c ∧ (ys.length : Int) ≤ 12 + y ∧ Hid (∀ x ∈ ys, x.size ≤ 930) ∧ wr2.ownsRow w1.heap.size 9 1 (.slice aa ys.length c) ys.length (strV ys) ∧ Cu W.heap.size a len cap zs w1 wr2) (fun v _ => left13 v)
          case atStart => exact ⟨_, _, [], rfl, by simp; omega, (fun x hx => by simp at hx), ho6, C6a.out⟩
          case round =>
            clear ho6 C6a
            obtain ⟨aa, c, ys, rfl, hly, GY, hownY, hcuY⟩ := hrel
            have CY : Hid (Cu W.heap.size a len cap zs w1 _) := hcuY
            clear hcuY
            by_cases hlt : (ys.length : Int) < 12 + y
            · go_wp2_with fail
              refine (spec_key 1 _).mono ?_
              rintro e w7 ⟨rfl, hb7⟩
              have C7 : Hid (Cu W.heap.size a len cap zs w1 w7) := CY.out.under hb7
              have hown7 := own_later hownY hb7
              have hsz7 := C7.out.2.size
              clear hb7 CY hownY
              have HP : Hid (strV ys ++ [.string (keyT 1)] = strV (ys ++ [keyT 1])) := (by unfold strV; rw [List.map_append]; rfl : strV ys ++ [.string (keyT 1)] = strV (ys ++ [keyT 1]))
              have HLy : Hid ((ys ++ [keyT 1]).length = ys.length + 1) := (by rw [List.length_append]; rfl : (ys ++ [keyT 1]).length = ys.length + 1)
              have HGy : Hid (∀ x ∈ ys ++ [keyT 1], x.size ≤ 930) := all_snoc GY.out (by have := keyT_small 1; omega)
              generalize hE : ys.length = E at *
              generalize keyT 1 = KT at *
              go_wp2_with (first | (at_builtin; refine wpList_append_own _ rfl _ _ 30 rfl w1.heap.size 9 i0 (.string ⟨#[]⟩) 1 16 Try.underlying30 hi hz0 hz1 hz2 rfl (by decide) _ _ _ rfl (hown7.alloc _) ⟨w7.heap.size, 0, none⟩ 1 1 [.string KT] rfl rfl (cell_one_new _ _ _) ?e2p ?e3p ?e4p ?e5p ?_) | go_in)
              case e2p => intro u hu; simp at hu; subst hu; rfl
              case e3p => unfold maxLen; omega
              case e4p => omega
              case e5p => simp; omega
              intro v8 w8 hown8 hgrow8 _
              have C8 : Hid (Cu W.heap.size a len cap zs w1 w8) := C7.out.app l1 hgrow8 (fun k hk => (hown7.lt k hk).1)
              rw [HP.out] at hown8
              clear hgrow8 hown7 C7
              have R : Hid (∃ (aa' : Option Addr) (c' : Nat), v8 = .slice aa' (ys ++ [KT]).length c') := (by
                obtain ⟨x1, x2, x3, _⟩ := own_row hown8
                exact ⟨x1, x2, x3⟩ : ∃ (aa' : Option Addr) (c' : Nat), v8 = .slice aa' (ys ++ [KT]).length c')
              obtain ⟨aa', c', hv8⟩ := R.out
              rw [HLy.out] at hv8
              subst hv8
              clear R
              go_wp2
              go_roundw
              case rel =>
                have hl := HLy.out
                have R : ∃ (aa₁ : Option Addr) (c₁ : Nat) (ys₁ : List ByteArray), Value.slice aa' (E + 1) c' = .slice aa₁ ys₁.length c₁ ∧ (ys₁.length : Int) ≤ 12 + y ∧ Hid (∀ x ∈ ys₁, x.size ≤ 930) ∧ w8.ownsRow w1.heap.size 9 1 (.slice aa₁ ys₁.length c₁) ys₁.length (strV ys₁) ∧ Cu W.heap.size a len cap zs w1 w8 :=
                  ⟨aa', c', ys ++ [KT], by rw [hl], by rw [hl]; omega, HGy, by rw [hl]; exact hown8, C8.out⟩
                first | exact R | ((repeat apply Exists.intro); exact ⟨R, rfl⟩)
              case measure => simp [left13]; omega
            · have hb := C1b.out.trans (CY.out.2.below (Nat.le_refl _) l1)
              have hlow := own_base (B := W.heap.size) hownY (Nat.le_of_lt l1)
              go_wp2
              go_ret
              exact ⟨_, ys, rfl, by omega, GY.out, hlow, hb⟩
      | true =>
        go_wp2_with fail
        refine (anyW _ _ _ _ _ _ C3.out.here).mono ?_
        rintro e w4 ⟨T, rfl, hT, c4⟩
        have C4 : Hid (Cu W.heap.size a len cap zs w1 w4) := C3.out.next c4
        have hown2 := own_only hown1 c4.2 l1
        have hsz4 := C4.out.2.size
        clear c4 C3 hown1
        have HP : Hid (strV xs ++ [.string T] = strV (xs ++ [T])) := (by unfold strV; rw [List.map_append]; rfl : strV xs ++ [.string T] = strV (xs ++ [T]))
        have HL : Hid ((xs ++ [T]).length = xs.length + 1) := (by rw [List.length_append]; rfl : (xs ++ [T]).length = xs.length + 1)
        have HG : Hid (∀ x ∈ xs ++ [T], x.size ≤ 930) := all_snoc G.out (hT)
        generalize hD : xs.length = D at *
        go_wp2_with (first | (at_builtin; refine wpList_append_own _ rfl _ _ 30 rfl w1.heap.size 9 i0 (.string ⟨#[]⟩) 1 16 Try.underlying30 hi hz0 hz1 hz2 rfl (by decide) _ _ _ rfl (hown2.alloc _) ⟨w4.heap.size, 0, none⟩ 1 1 [.string T] rfl rfl (cell_one_new _ _ _) ?c2b ?c3b ?c4b ?c5b ?_) | go_in)
        case c2b => intro u hu; simp at hu; subst hu; rfl
        case c3b => unfold maxLen; omega
        case c4b => omega
        case c5b => simp; omega
        intro v' wz hown' hgrow _
        have CZ : Hid (Cu W.heap.size a len cap zs w1 wz) := C4.out.app l1 hgrow (fun k hk => (hown2.lt k hk).1)
        rw [HP.out] at hown'
        clear hgrow hown2 C4
        go_wp2_with fail
        refine (onceW 20 CZ.out.here (by omega)).mono ?_
        rintro e w5 ⟨b2, rfl, c5⟩
        have C5 : Hid (Cu W.heap.size a len cap zs w1 w5) := CZ.out.next c5
        have ownT := own_only hown' c5.2 l1
        clear c5 CZ hown'
        cases b2 with
        | false =>
          have hb := C1b.out.trans (C5.out.2.below (Nat.le_refl _) l1)
          have hlow := own_base (B := W.heap.size) ownT (Nat.le_of_lt l1)
          go_wp2
          go_ret
          exact ⟨_, (xs ++ [T]), rfl, by rw [HL.out]; omega, HG.out, by rw [HL.out]; exact hlow, hb⟩
        | true =>
          clear ownT
          go_wp2_with fail
          refine (belowW 2 C5.out.here (by omega) (by omega)).mono ?_
          rintro e w6 ⟨y, rfl, y0, y2, c6⟩
          have C6 : Hid (Cu W.heap.size a len cap zs w1 w6) := C5.out.next c6
          clear c6 C5
          have hsz6 := C6.out.2.size
          have ho6 : (w6.alloc (.cells #[] 9)).ownsRow w1.heap.size 9 1 (.slice (some ⟨w6.heap.size, 0, none⟩) 0 0) 0 (strV []) := World.ownsRow_lit w6 #[] 0 hsz6 (by unfold maxLen; omega) rfl
          have C6a : Hid (Cu W.heap.size a len cap zs w1 (w6.alloc (.cells #[] 9))) := C6.out.alloc _
          clear C6
          go_wp2
          go_loopw [4] (fun v wr2 => ∃ (aa : Option Addr) (c : Nat) (ys : List ByteArray), v = .slice aa ys.length c ∧ (ys.length : Int) ≤ 12 + y ∧ Hid (∀ x ∈ ys, x.size ≤ 930) ∧ wr2.ownsRow w1.heap.size 9 1 (.slice aa ys.length c) ys.length (strV ys) ∧ Cu W.heap.size a len cap zs w1 wr2) (fun v _ => left13 v)
          case atStart => exact ⟨_, _, [], rfl, by simp; omega, (fun x hx => by simp at hx), ho6, C6a.out⟩
          case round =>
            clear ho6 C6a
            obtain ⟨aa, c, ys, rfl, hly, GY, hownY, hcuY⟩ := hrel
            have CY : Hid (Cu W.heap.size a len cap zs w1 _) := hcuY
            clear hcuY
            by_cases hlt : (ys.length : Int) < 12 + y
            · go_wp2_with fail
              refine (spec_key 1 _).mono ?_
              rintro e w7 ⟨rfl, hb7⟩
              have C7 : Hid (Cu W.heap.size a len cap zs w1 w7) := CY.out.under hb7
              have hown7 := own_later hownY hb7
              have hsz7 := C7.out.2.size
              clear hb7 CY hownY
              have HP : Hid (strV ys ++ [.string (keyT 1)] = strV (ys ++ [keyT 1])) := (by unfold strV; rw [List.map_append]; rfl : strV ys ++ [.string (keyT 1)] = strV (ys ++ [keyT 1]))
              have HLy : Hid ((ys ++ [keyT 1]).length = ys.length + 1) := (by rw [List.length_append]; rfl : (ys ++ [keyT 1]).length = ys.length + 1)
              have HGy : Hid (∀ x ∈ ys ++ [keyT 1], x.size ≤ 930) := all_snoc GY.out (by have := keyT_small 1; omega)
              generalize hE : ys.length = E at *
              generalize keyT 1 = KT at *
              go_wp2_with (first | (at_builtin; refine wpList_append_own _ rfl _ _ 30 rfl w1.heap.size 9 i0 (.string ⟨#[]⟩) 1 16 Try.underlying30 hi hz0 hz1 hz2 rfl (by decide) _ _ _ rfl (hown7.alloc _) ⟨w7.heap.size, 0, none⟩ 1 1 [.string KT] rfl rfl (cell_one_new _ _ _) ?e2q ?e3q ?e4q ?e5q ?_) | go_in)
              case e2q => intro u hu; simp at hu; subst hu; rfl
              case e3q => unfold maxLen; omega
              case e4q => omega
              case e5q => simp; omega
              intro v8 w8 hown8 hgrow8 _
              have C8 : Hid (Cu W.heap.size a len cap zs w1 w8) := C7.out.app l1 hgrow8 (fun k hk => (hown7.lt k hk).1)
              rw [HP.out] at hown8
              clear hgrow8 hown7 C7
              have R : Hid (∃ (aa' : Option Addr) (c' : Nat), v8 = .slice aa' (ys ++ [KT]).length c') := (by
                obtain ⟨x1, x2, x3, _⟩ := own_row hown8
                exact ⟨x1, x2, x3⟩ : ∃ (aa' : Option Addr) (c' : Nat), v8 = .slice aa' (ys ++ [KT]).length c')
              obtain ⟨aa', c', hv8⟩ := R.out
              rw [HLy.out] at hv8
              subst hv8
              clear R
              go_wp2
              go_roundw
              case rel =>
                have hl := HLy.out
                have R : ∃ (aa₁ : Option Addr) (c₁ : Nat) (ys₁ : List ByteArray), Value.slice aa' (E + 1) c' = .slice aa₁ ys₁.length c₁ ∧ (ys₁.length : Int) ≤ 12 + y ∧ Hid (∀ x ∈ ys₁, x.size ≤ 930) ∧ w8.ownsRow w1.heap.size 9 1 (.slice aa₁ ys₁.length c₁) ys₁.length (strV ys₁) ∧ Cu W.heap.size a len cap zs w1 w8 :=
                  ⟨aa', c', ys ++ [KT], by rw [hl], by rw [hl]; omega, HGy, by rw [hl]; exact hown8, C8.out⟩
                first | exact R | ((repeat apply Exists.intro); exact ⟨R, rfl⟩)
              case measure => simp [left13]; omega
            · have hb := C1b.out.trans (CY.out.2.below (Nat.le_refl _) l1)
              have hlow := own_base (B := W.heap.size) hownY (Nat.le_of_lt l1)
              go_wp2
              go_ret
              exact ⟨_, ys, rfl, by omega, GY.out, hlow, hb⟩
end Go.Proofs.Ytpfloopngndpbaa.Draw
