/- What the laws draw: numbers, texts and terms, told by their bounds alone. -/
import Derived.Test.YtkekfogepdhjhaaGreatDrawSpoil
import Derived.Test.YtkekfogepdhjhaaGreatLists
set_option linter.unusedVariables false
namespace Go.Proofs.YtkekfogepdhjhaaGreat.Draw
open Go Go.RowKit Own Var Term

theorem Dr.under {W w' : World} {p : Nat} {a : Option Addr} {len cap : Nat} {zs : List Int} {s : St} (h : Dr W p a len cap zs s) (hb : Below W.heap.size W w') : Dr w' p a len cap zs s :=
  h.grown (row := none) ⟨hb.os, hb.tape, hb.output, hb.size, fun j hj _ => hb.block j hj⟩ (fun _ h => by cases h)
theorem Only.under {p : Nat} {W w' : World} (hb : Below W.heap.size W w') : Only p W w' := ⟨hb.os, hb.tape, hb.output, hb.size, fun j hj _ => hb.block j hj⟩

/-- The cursor stands somewhere, its code can be read, and nothing else was written into since W. -/
def Cu (p : Nat) (a : Option Addr) (len cap : Nat) (zs : List Int) (W w : World) : Prop := (∃ s, Dr w p a len cap zs s) ∧ Only p W w
theorem Cu.start {p : Nat} {a : Option Addr} {len cap : Nat} {zs : List Int} {w : World} {s : St} (h : Dr w p a len cap zs s) : Cu p a len cap zs w w := ⟨⟨s, h⟩, Only.refl _ _⟩
theorem Cu.lt {p : Nat} {a : Option Addr} {len cap : Nat} {zs : List Int} {W w : World} (h : Cu p a len cap zs W w) : p < w.heap.size := by obtain ⟨⟨s, h⟩, _⟩ := h; exact h.cur.lt
theorem Cu.here {p : Nat} {a : Option Addr} {len cap : Nat} {zs : List Int} {W w : World} (h : Cu p a len cap zs W w) : Cu p a len cap zs w w := ⟨h.1, Only.refl _ _⟩
theorem Cu.next {p : Nat} {a : Option Addr} {len cap : Nat} {zs : List Int} {W w w' : World} (h : Cu p a len cap zs W w) (k : Cu p a len cap zs w w') : Cu p a len cap zs W w' := ⟨k.1, h.2.trans k.2⟩
theorem Cu.under {p : Nat} {a : Option Addr} {len cap : Nat} {zs : List Int} {W w w' : World} (h : Cu p a len cap zs W w) (hb : Below w.heap.size w w') : Cu p a len cap zs W w' := by
  obtain ⟨⟨s, h⟩, o⟩ := h
  exact ⟨⟨s, h.under hb⟩, o.trans (Only.under hb)⟩
theorem Cu.alloc {p : Nat} {a : Option Addr} {len cap : Nat} {zs : List Int} {W w : World} (h : Cu p a len cap zs W w) (o : Obj) : Cu p a len cap zs W (w.alloc o) := by
  obtain ⟨⟨s, h⟩, k⟩ := h
  exact ⟨⟨s, h.alloc o⟩, k.alloc o⟩
theorem Cu.drew {p : Nat} {a : Option Addr} {len cap : Nat} {zs : List Int} {W w : World} (h : Cu p a len cap zs W w) : Cu p a len cap zs W w.drew := by
  obtain ⟨⟨s, h⟩, k⟩ := h
  exact ⟨⟨s, h.drewN 1⟩, k.drewN 1⟩
theorem Cu.app {p : Nat} {a : Option Addr} {len cap : Nat} {zs : List Int} {W w w' : World} {o : Obj} {row : Option Nat} (h : Cu p a len cap zs W w) (hp : p < W.heap.size) (hg : (w.alloc o).grownBy w' row) (hr : ∀ k, row = some k → W.heap.size ≤ k) : Cu p a len cap zs W w' := by
  obtain ⟨⟨s, h⟩, k⟩ := h
  exact ⟨⟨s, (h.alloc o).grown hg (fun j hj => by have := hr j hj; omega)⟩, only_app k hg hr⟩

theorem belowW {p : Nat} {a : Option Addr} {len cap : Nat} {zs : List Int} {w : World} (n : Int) (h : Cu p a len cap zs w w) (h0 : 0 < n) (hn : n ≤ 9223372036854775807) :
    Calls Tryz.prog 22 #[.pointer (some ⟨p, 0, none⟩), .int .i64 n] w fun e w' => ∃ x : Int, e = .returned (.int .i64 x) ∧ 0 ≤ x ∧ x < n ∧ Cu p a len cap zs w w' := by
  obtain ⟨⟨s, h⟩, _⟩ := h
  refine (belowD p a len cap zs s w n h hn).mono ?_
  rintro e w' ⟨rfl, d, o⟩
  have := belowV_bd zs len n s h0
  exact ⟨_, rfl, this.1, this.2, ⟨_, d⟩, o⟩
theorem onceW {p : Nat} {a : Option Addr} {len cap : Nat} {zs : List Int} {w : World} (n : Int) (h : Cu p a len cap zs w w) (hn : n ≤ 9223372036854775807) :
    Calls Tryz.prog 20 #[.pointer (some ⟨p, 0, none⟩), .int .i64 n] w fun e w' => ∃ b : Bool, e = .returned (.bool b) ∧ Cu p a len cap zs w w' := by
  obtain ⟨⟨s, h⟩, _⟩ := h
  refine (onceD p a len cap zs s w n h hn).mono ?_
  rintro e w' ⟨rfl, d, o⟩
  exact ⟨_, rfl, ⟨_, d⟩, o⟩
theorem textW {p : Nat} {a : Option Addr} {len cap : Nat} {zs : List Int} {w : World} (m : Nat) (h : Cu p a len cap zs w w) (hm : m ≤ 1000) :
    Calls Tryz.prog 54 #[.pointer (some ⟨p, 0, none⟩), .int .i64 (m : Int)] w fun e w' => ∃ T : ByteArray, e = .returned (.string T) ∧ T.size ≤ m ∧ Cu p a len cap zs w w' := by
  obtain ⟨⟨s, h⟩, _⟩ := h
  refine (textD p a len cap zs s w m h (by omega) (by omega)).mono ?_
  rintro e w' ⟨rfl, d, o⟩
  have h1 := textV_len zs len (m : Int) s (by omega)
  have e1 : (m : Int).toNat = m := Int.toNat_natCast m
  rw [e1] at h1
  exact ⟨⟨(textV zs len (m : Int) s).toArray⟩, rfl, by rw [size_list]; simpa using h1, ⟨_, d⟩, o⟩
theorem spoilW {p : Nat} {a : Option Addr} {len cap : Nat} {zs : List Int} {w : World} (t : ByteArray) (h : Cu p a len cap zs w w) (ht : t.size ≤ 1000) :
    Calls Tryz.prog 49 #[.pointer (some ⟨p, 0, none⟩), .string t] w fun e w' => ∃ T : ByteArray, e = .returned (.string T) ∧ T.size ≤ t.size + 4 ∧ Cu p a len cap zs w w' := by
  obtain ⟨⟨s, h⟩, _⟩ := h
  refine (spoilD p a len cap zs s w t h ht).mono ?_
  rintro e w' ⟨rfl, d, o⟩
  exact ⟨_, rfl, spoilV_size zs len t s, d, o⟩
theorem okOr_small (s : ByteArray) : (okOr s).size ≤ 900 := by
  unfold okOr
  split
  · rename_i h; exact ((isT_iff s).1 h).1
  · show 0 ≤ 900; omega
theorem keyT_small (k : Int) : (keyT k).size ≤ 900 := by rw [← keyT_ok]; exact okOr_small _
theorem sealT_small (k : Int) (t : ByteArray) : (sealT k t).size ≤ 900 := by
  unfold sealT
  split
  · exact okOr_small _
  · show 0 ≤ 900; omega
theorem listT_small (xs : List ByteArray) : (listT xs).size ≤ 900 := by
  unfold listT
  split
  · exact okOr_small _
  · show 0 ≤ 900; omega

/-- What l2Some does where it draws no term of depth. -/
def SomePost (p : Nat) (a : Option Addr) (len cap : Nat) (zs : List Int) (W : World) (e : Ending) (w' : World) : Prop := ∃ T : ByteArray, e = .returned (.string T) ∧ T.size ≤ 900 ∧ Cu p a len cap zs W w'

set_option maxRecDepth 100000 in
set_option maxHeartbeats 3200000 in
theorem someFlat (p : Nat) (a : Option Addr) (len cap : Nat) (zs : List Int) (L : Int) (W : World) (h2 : L < 2) (hC : Cu p a len cap zs W W) :
    Calls Tryz.prog 23 #[.pointer (some ⟨p, 0, none⟩), .int .i64 L] W (SomePost p a len cap zs W) := by
  have H : Hid (Cu p a len cap zs W W) := hC
  clear hC
  go_enter Tryz.func23, Tryz.ntmps23
  go_wp2_with fail
  refine (belowW 5 H.out (by omega) (by omega)).mono ?_
  rintro e w1 ⟨k, rfl, k0, k5, c1⟩
  have C1 : Hid (Cu p a len cap zs W w1) := c1
  clear c1
  have hcase : k = 0 ∨ k = 1 ∨ 2 ≤ k := by omega
  rcases hcase with rfl | rfl | hk2
  · go_wp2_with fail
    refine (textW 5 C1.out.here (by omega)).mono ?_
    rintro e w2 ⟨T, rfl, hT, c2⟩
    have C2 : Hid (Cu p a len cap zs W w2) := C1.out.next c2
    clear c2
    go_wp2_with fail
    refine (spec_atom T _ (by omega)).mono ?_
    rintro e w3 ⟨rfl, hb3⟩
    have C3 := C2.out.under hb3
    go_wp2
    go_ret
    exact ⟨_, rfl, okOr_small _, C3⟩
  · go_wp2_with fail
    refine (belowW 6 C1.out.here (by omega) (by omega)).mono ?_
    rintro e w2 ⟨x, rfl, x0, x6, c2⟩
    have C2 : Hid (Cu p a len cap zs W w2) := C1.out.next c2
    clear c2
    go_wp2_with fail
    refine (spec_key _ _).mono ?_
    rintro e w3 ⟨rfl, hb3⟩
    have C3 := C2.out.under hb3
    go_wp2
    go_ret
    exact ⟨_, rfl, keyT_small _, C3⟩
  · have hk1 : (1 : Int) < k := by omega
    go_wp2_with fail
    refine (belowW 2 C1.out.here (by omega) (by omega)).mono ?_
    rintro e w2 ⟨q, rfl, q0, q2, c2⟩
    have C2 : Hid (Cu p a len cap zs W w2) := C1.out.next c2
    clear c2 C1
    have hcase : q = 0 ∨ q = 1 := by omega
    rcases hcase with rfl | rfl
    · go_wp2_with fail
      refine (textW 5 C2.out.here (by omega)).mono ?_
      rintro e w3 ⟨T, rfl, hT, c3⟩
      have C3 : Hid (Cu p a len cap zs W w3) := C2.out.next c3
      clear c3
      go_wp2_with fail
      refine (spec_atom T _ (by omega)).mono ?_
      rintro e w4 ⟨rfl, hb4⟩
      have C4 := C3.out.under hb4
      go_wp2
      go_ret
      exact ⟨_, rfl, okOr_small _, C4⟩
    · go_wp2_with fail
      refine (belowW 6 C2.out.here (by omega) (by omega)).mono ?_
      rintro e w3 ⟨x, rfl, x0, x6, c3⟩
      have C3 : Hid (Cu p a len cap zs W w3) := C2.out.next c3
      clear c3
      go_wp2_with fail
      refine (spec_key _ _).mono ?_
      rintro e w4 ⟨rfl, hb4⟩
      have C4 := C3.out.under hb4
      go_wp2
      go_ret
      exact ⟨_, rfl, keyT_small _, C4⟩

set_option maxRecDepth 100000 in
set_option maxHeartbeats 3200000 in
theorem someDeep (p : Nat) (a : Option Addr) (len cap : Nat) (zs : List Int) (L : Int) (W : World) (h2 : 2 ≤ L) (h5 : L ≤ 5) (hC : Cu p a len cap zs W W)
    (ih : ∀ w, Cu p a len cap zs w w → Calls Tryz.prog 23 #[.pointer (some ⟨p, 0, none⟩), .int .i64 (L - 1)] w (SomePost p a len cap zs w)) :
    Calls Tryz.prog 23 #[.pointer (some ⟨p, 0, none⟩), .int .i64 L] W (SomePost p a len cap zs W) := by
  have H : Hid (Cu p a len cap zs W W) := hC
  have hpW := hC.lt
  clear hC
  obtain ⟨i0, hi, hz0, hz1, hz2⟩ := info_parts infoStr
  go_enter Tryz.func23, Tryz.ntmps23
  go_wp2_with fail
  refine (belowW 5 H.out (by omega) (by omega)).mono ?_
  rintro e w1 ⟨k, rfl, k0, k5, c1⟩
  have C1 : Hid (Cu p a len cap zs W w1) := c1
  clear c1
  have hcase : k = 0 ∨ k = 1 ∨ k = 2 ∨ 3 ≤ k := by omega
  rcases hcase with rfl | rfl | rfl | hk3
  · go_wp2_with fail
    refine (textW 5 C1.out.here (by omega)).mono ?_
    rintro e w2 ⟨T, rfl, hT, c2⟩
    have C2 : Hid (Cu p a len cap zs W w2) := C1.out.next c2
    clear c2
    go_wp2_with fail
    refine (spec_atom T _ (by omega)).mono ?_
    rintro e w3 ⟨rfl, hb3⟩
    have C3 := C2.out.under hb3
    go_wp2
    go_ret
    exact ⟨_, rfl, okOr_small _, C3⟩
  · go_wp2_with fail
    refine (belowW 6 C1.out.here (by omega) (by omega)).mono ?_
    rintro e w2 ⟨x, rfl, x0, x6, c2⟩
    have C2 : Hid (Cu p a len cap zs W w2) := C1.out.next c2
    clear c2
    go_wp2_with fail
    refine (spec_key _ _).mono ?_
    rintro e w3 ⟨rfl, hb3⟩
    have C3 := C2.out.under hb3
    go_wp2
    go_ret
    exact ⟨_, rfl, keyT_small _, C3⟩
  · go_wp2_with fail
    refine (belowW 6 C1.out.here (by omega) (by omega)).mono ?_
    rintro e w2 ⟨x, rfl, x0, x6, c2⟩
    have C2 : Hid (Cu p a len cap zs W w2) := C1.out.next c2
    clear c2
    go_wp2_with fail
    refine (ih _ C2.out.here).mono ?_
    rintro e w3 ⟨T, rfl, hT, c3⟩
    have C3 : Hid (Cu p a len cap zs W w3) := C2.out.next c3
    clear c3
    go_wp2_with fail
    refine (spec_seal _ T _ (by omega)).mono ?_
    rintro e w4 ⟨rfl, hb4⟩
    have C4 := C3.out.under hb4
    go_wp2
    go_ret
    exact ⟨_, rfl, sealT_small _ _, C4⟩
  · have e0 : (k == 0) = false := by simp; omega
    have e1 : (k == 1) = false := by simp; omega
    have e2 : (k == 2) = false := by simp; omega
    have hw1 := C1.out.2.size
    go_wp2_with fail
    refine (belowW 4 (C1.out.alloc _).here (by omega) (by omega)).mono ?_
    rintro e w2 ⟨n, rfl, n0, n4, c2⟩
    have C2 : Hid (Cu p a len cap zs W w2) := (C1.out.alloc _).next c2
    have ho2 : w2.ownsRow W.heap.size 9 1 (.slice (some ⟨w1.heap.size, 0, none⟩) 0 0) 0 (strV []) := own_only (World.ownsRow_lit w1 #[] 0 hw1 (by unfold maxLen; omega) rfl) c2.2 hpW
    have hpw := hpW
    clear c2 C1
    go_wp2
    go_loopw [6, 7] (fun v i wr => ∃ (m : Int) (xs : List ByteArray), 0 ≤ m ∧ (xs.length : Int) + m ≤ 3 ∧ i = .int .i64 m ∧ Hid (∀ x ∈ xs, x.size ≤ 900) ∧ wr.ownsRow W.heap.size 9 1 v xs.length (strV xs) ∧ Cu p a len cap zs W wr) (fun _ i _ => (intOf i).toNat)
    case atStart => exact ⟨n, [], by omega, by simp; omega, rfl, fun x hx => by simp at hx, ho2, C2.out⟩
    case round =>
      clear ho2 C2
      obtain ⟨m, xs, m0, hlm, rfl, G, hown, hcu⟩ := hrel
      have C : Hid (Cu p a len cap zs W wr) := hcu
      clear hcu
      by_cases hm : 0 < m
      · go_wp2_with fail
        refine (ih _ C.out.here).mono ?_
        rintro e w3 ⟨T, rfl, hT, c3⟩
        have C3 : Hid (Cu p a len cap zs W w3) := C.out.next c3
        have hown1 := own_only hown c3.2 hpW
        have hsz3 := C3.out.2.size
        clear c3 C hown
        have HP : Hid (strV xs ++ [.string T] = strV (xs ++ [T])) := (by unfold strV; rw [List.map_append]; rfl : strV xs ++ [.string T] = strV (xs ++ [T]))
        have HL : Hid ((xs ++ [T]).length = xs.length + 1) := (by rw [List.length_append]; rfl : (xs ++ [T]).length = xs.length + 1)
        have HG : Hid (∀ x ∈ xs ++ [T], x.size ≤ 900) := (by
          intro x hx
          rcases List.mem_append.1 hx with hx | hx
          · exact G.out x hx
          · simp at hx; subst hx; exact hT : ∀ x ∈ xs ++ [T], x.size ≤ 900)
        generalize hD : xs.length = D at *
        go_wp2_with (first | (at_builtin; refine wpList_append_own _ rfl _ _ 24 rfl W.heap.size 9 i0 (.string ⟨#[]⟩) 1 16 Tryz.underlying24 hi hz0 hz1 hz2 rfl (by decide) _ _ _ rfl (hown1.alloc _) ⟨w3.heap.size, 0, none⟩ 1 1 [.string T] rfl rfl (cell_one_new _ _ _) ?c2 ?c3 ?c4 ?c5 ?_) | go_in)
        case c2 => intro u hu; simp at hu; subst hu; rfl
        case c3 => unfold maxLen; omega
        case c4 => omega
        case c5 => simp; omega
        intro v' w4 hown' hgrow _
        have C4 : Hid (Cu p a len cap zs W w4) := C3.out.app hpW hgrow (fun k hk => (hown1.lt k hk).1)
        rw [HP.out] at hown'
        clear hgrow hown1 C3
        go_wp2
        go_roundw
        case rel =>
          have R : ∃ (m' : Int) (xs' : List ByteArray), 0 ≤ m' ∧ (xs'.length : Int) + m' ≤ 3 ∧ Value.int .i64 (m - 1) = .int .i64 m' ∧ Hid (∀ x ∈ xs', x.size ≤ 900) ∧ w4.ownsRow W.heap.size 9 1 v' xs'.length (strV xs') ∧ Cu p a len cap zs W w4 := by
            have hl := HL.out
            exact ⟨m - 1, xs ++ [T], by omega, by rw [hl]; omega, rfl, HG, by rw [hl]; exact hown', C4.out⟩
          first | exact R | ((repeat apply Exists.intro); exact ⟨R, rfl⟩)
        case measure => simp [intOf]; omega
      · have hs2 : ∀ x ∈ xs, x.size ≤ 1048576 := fun x hx => by have := G.out x hx; omega
        obtain ⟨a', c', rfl, _, hrow⟩ := own_row hown
        have HLs := fun w h => spec_list a' c' xs w h (by omega) hs2
        clear hs2 G hown
        go_wp2_with fail
        refine (HLs _ hrow).mono ?_
        rintro e w3 ⟨rfl, hb3⟩
        have C3 := C.out.under hb3
        go_wp2
        go_ret
        exact ⟨_, rfl, listT_small _, C3⟩
theorem someW (p : Nat) (a : Option Addr) (len cap : Nat) (zs : List Int) : ∀ (f : Nat) (L : Int) (W : World), L = (f : Int) → f ≤ 5 → Cu p a len cap zs W W →
    Calls Tryz.prog 23 #[.pointer (some ⟨p, 0, none⟩), .int .i64 L] W (SomePost p a len cap zs W) := by
  intro f
  induction f with
  | zero => intro L W hL _ hC; exact someFlat p a len cap zs L W (by omega) hC
  | succ f ih =>
    intro L W hL hf hC
    by_cases h2 : L < 2
    · exact someFlat p a len cap zs L W h2 hC
    · exact someDeep p a len cap zs L W (by omega) (by omega) hC (fun w h => ih (L - 1) w (by omega) (by omega) h)

/-- A text of which the laws make use, and how the cursor stands behind it. -/
def AnyPost (p : Nat) (a : Option Addr) (len cap : Nat) (zs : List Int) (W : World) (e : Ending) (w' : World) : Prop := ∃ T : ByteArray, e = .returned (.string T) ∧ T.size ≤ 930 ∧ Cu p a len cap zs W w'
set_option maxRecDepth 100000 in
set_option maxHeartbeats 3200000 in
theorem anyW (p : Nat) (a : Option Addr) (len cap : Nat) (zs : List Int) (W : World) (hC : Cu p a len cap zs W W) :
    Calls Tryz.prog 19 #[.pointer (some ⟨p, 0, none⟩)] W (AnyPost p a len cap zs W) := by
  have H : Hid (Cu p a len cap zs W W) := hC
  clear hC
  go_enter Tryz.func19, Tryz.ntmps19
  go_wp2_with fail
  refine (belowW 5 H.out (by omega) (by omega)).mono ?_
  rintro e w1 ⟨k, rfl, k0, k5, c1⟩
  have C1 : Hid (Cu p a len cap zs W w1) := c1
  clear c1
  go_wp2_with fail
  refine (someW p a len cap zs (1 + k).toNat (1 + k) w1 (by omega) (by omega) C1.out.here).mono ?_
  rintro e w2 ⟨S, rfl, hS, c2⟩
  have C2 : Hid (Cu p a len cap zs W w2) := C1.out.next c2
  clear c2 C1
  go_wp2_with fail
  refine (onceW 4 C2.out.here (by omega)).mono ?_
  rintro e w3 ⟨b, rfl, c3⟩
  have C3 : Hid (Cu p a len cap zs W w3) := C2.out.next c3
  clear c3 C2
  cases b with
  | true =>
    go_wp2_with fail
    refine (spoilW S C3.out.here (by omega)).mono ?_
    rintro e w4 ⟨T, rfl, hT, c4⟩
    have C4 : Hid (Cu p a len cap zs W w4) := C3.out.next c4
    clear c4 C3
    go_wp2
    go_ret
    exact ⟨_, rfl, by omega, C4.out⟩
  | false =>
    go_wp2_with fail
    refine (onceW 30 C3.out.here (by omega)).mono ?_
    rintro e w4 ⟨b, rfl, c4⟩
    have C4 : Hid (Cu p a len cap zs W w4) := C3.out.next c4
    clear c4 C3
    cases b with
    | false =>
      go_wp2
      go_ret
      exact ⟨_, rfl, by omega, C4.out⟩
    | true =>
      go_wp2
      go_loop [3, 4] (fun t i => ∃ (k : Nat) (T : ByteArray), k ≤ 9 ∧ i = .int .i64 k ∧ t = .string T ∧ T.size ≤ 900 + 2 * k) (fun _ i => 9 - (intOf i).toNat)
      case atStart => exact ⟨0, S, by omega, rfl, rfl, by omega⟩
      case round =>
        obtain ⟨j, T, hj, rfl, rfl, hT⟩ := hrel
        by_cases hlt : j < 9
        · have h1 : ¬ 9223372036854775807 < 2 + T.size := by omega
          go_wp2
          go_round
          case rel => exact ⟨j + 1, ⟨#[115, 1]⟩ ++ T, by omega, by go_num, rfl, by rw [ByteArray.size_append]; have e : (⟨#[115, 1]⟩ : ByteArray).size = 2 := rfl; omega⟩
          case measure => simp [intOf]; omega
        · go_wp2
          go_ret
          exact ⟨_, rfl, by omega, C4.out⟩
end Go.Proofs.YtkekfogepdhjhaaGreat.Draw
