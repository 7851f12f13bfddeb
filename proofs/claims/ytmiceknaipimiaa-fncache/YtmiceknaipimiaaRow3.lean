/- Auths in rows: their cells, rows that a call owns, how the laws copy, compare and mark them. -/
import Derived.Test.YtmiceknaipimiaaReg
import Derived.OwnWalk
import Derived.Laws.OwnMore
set_option linter.unusedVariables false
namespace Go.Proofs.Ytmiceknaipimiaa
open Go Go.RowKit Go.Joins Own Draw

abbrev A3 := Int × Int × Int
abbrev av (a b c : Int) : Value := .agg #[.int .i64 a, .int .i64 b, .int .i64 c]
/-- The cells from a on hold the row of Auths. -/
def ARow (w : World) (a : Option Addr) (xs : List A3) : Prop :=
  ∀ j (h : j < xs.length), ∃ b off, a = some ⟨b, off, none⟩ ∧ b < w.heap.size ∧ w.cell? ⟨b, off + j * 3, none⟩ = some (.int .i64 xs[j].1) ∧ w.cell? ⟨b, off + j * 3 + 1, none⟩ = some (.int .i64 xs[j].2.1) ∧ w.cell? ⟨b, off + j * 3 + 2, none⟩ = some (.int .i64 xs[j].2.2)
theorem ARow.later {w w' : World} {a : Option Addr} {xs : List A3} (h : ARow w a xs) (hb : Below w.heap.size w w') : ARow w' a xs := by
  intro j hj
  obtain ⟨b, off, e, hlt, h0, h1, h2⟩ := h j hj
  exact ⟨b, off, e, Nat.lt_of_lt_of_le hlt hb.size, by rw [hb.cell (p := ⟨b, off + j * 3, none⟩) hlt]; exact h0, by rw [hb.cell (p := ⟨b, off + j * 3 + 1, none⟩) hlt]; exact h1, by rw [hb.cell (p := ⟨b, off + j * 3 + 2, none⟩) hlt]; exact h2⟩
theorem ARow.nil (w : World) (a : Option Addr) : ARow w a [] := by intro j hj; simp at hj
theorem ARow.drew {w : World} {a : Option Addr} {xs : List A3} (h : ARow w a xs) : ARow w.drew a xs := h
theorem ARow.take {w : World} {a : Option Addr} {xs : List A3} (h : ARow w a xs) (k : Nat) : ARow w a (xs.take k) := by
  intro j hj
  have hj' : j < xs.length := by rw [List.length_take] at hj; omega
  rw [List.getElem_take]
  exact h j hj'

def trV (xs : List A3) : List Value := xs.flatMap fun p => [.int .i64 p.1, .int .i64 p.2.1, .int .i64 p.2.2]
theorem trV_snoc (xs : List A3) (a b c : Int) : trV xs ++ [.int .i64 a, .int .i64 b, .int .i64 c] = trV (xs ++ [(a, b, c)]) := by unfold trV; rw [List.flatMap_append]; rfl
theorem trV_app (xs ys : List A3) : trV xs ++ trV ys = trV (xs ++ ys) := by unfold trV; rw [List.flatMap_append]
theorem trV_len (xs : List A3) : (trV xs).length = xs.length * 3 := by
  induction xs with
  | nil => rfl
  | cons p xs ih =>
    have e : trV (p :: xs) = .int .i64 p.1 :: .int .i64 p.2.1 :: .int .i64 p.2.2 :: trV xs := rfl
    rw [e]
    simp only [List.length_cons]
    omega
theorem trV_get (xs : List A3) : ∀ j (h : j < xs.length), (trV xs)[j * 3]? = some (.int .i64 xs[j].1) ∧ (trV xs)[j * 3 + 1]? = some (.int .i64 xs[j].2.1) ∧ (trV xs)[j * 3 + 2]? = some (.int .i64 xs[j].2.2) := by
  induction xs with
  | nil => intro j h; simp at h
  | cons p xs ih =>
    intro j h
    cases j with
    | zero => exact ⟨rfl, rfl, rfl⟩
    | succ j =>
      have := ih j (by simpa using h)
      have e : trV (p :: xs) = .int .i64 p.1 :: .int .i64 p.2.1 :: .int .i64 p.2.2 :: trV xs := rfl
      rw [e, show (j + 1) * 3 = j * 3 + 1 + 1 + 1 by omega]
      simpa using this
theorem trV_set (xs : List A3) : ∀ (j : Nat) (a b c : Int), (((trV xs).set (j * 3) (.int .i64 a)).set (j * 3 + 1) (.int .i64 b)).set (j * 3 + 2) (.int .i64 c) = trV (xs.set j (a, b, c)) := by
  induction xs with
  | nil => intro j a b c; rfl
  | cons p xs ih =>
    intro j a b c
    have e : trV (p :: xs) = .int .i64 p.1 :: .int .i64 p.2.1 :: .int .i64 p.2.2 :: trV xs := rfl
    cases j with
    | zero => rfl
    | succ j =>
      have e2 : trV ((p :: xs).set (j + 1) (a, b, c)) = .int .i64 p.1 :: .int .i64 p.2.1 :: .int .i64 p.2.2 :: trV (xs.set j (a, b, c)) := rfl
      rw [e2, ← ih j a b c, e, show (j + 1) * 3 = j * 3 + 1 + 1 + 1 by omega]
      rfl
theorem own_shape {w : World} {B n sz : Nat} {e : TypeId} {v : Value} {xs : List Value} (h : w.ownsRow B e sz v n xs) : ∃ a cap, v = .slice a n cap ∧ n ≤ cap := by
  rcases h.2 with ⟨rfl, h0⟩ | ⟨g, cap, cur, rfl, e2, e3, e4, _⟩
  · subst h0; exact ⟨none, 0, rfl, Nat.le_refl _⟩
  · exact ⟨_, cap, rfl, e4⟩
theorem own_trips {w : World} {B n c : Nat} {a : Option Addr} {xs : List A3} (h : w.ownsRow B 28 3 (.slice a n c) n (trV xs)) (hn : xs.length = n) : ARow w a xs := by
  subst hn
  intro j hj
  rcases h.2 with ⟨e, h0⟩ | ⟨g, cap, cur, e, e2, e3, e4, _⟩
  · omega
  · injection e with e1 _ e3'
    subst e1
    subst e3'
    have hlt : g < w.heap.size := (h.lt g rfl).2
    refine ⟨g, 0, rfl, hlt, ?_, ?_, ?_⟩
    · rw [Nat.zero_add, h.cellAt (j * 3) (by omega)]; exact (trV_get xs j hj).1
    · rw [Nat.zero_add, h.cellAt (j * 3 + 1) (by omega)]; exact (trV_get xs j hj).2.1
    · rw [Nat.zero_add, h.cellAt (j * 3 + 2) (by omega)]; exact (trV_get xs j hj).2.2
/-- A row of Auths that the call owns from block B on, behind the slice (a, cap). -/
def Own3 (B : Nat) (a : Option Addr) (cap : Nat) (xs : List A3) (w : World) : Prop := w.ownsRow B 28 3 (.slice a xs.length cap) xs.length (trV xs)
theorem Own3.row {w : World} {B c : Nat} {a : Option Addr} {xs : List A3} (h : Own3 B a c xs w) : ARow w a xs := own_trips h rfl
theorem Own3.later {w w' : World} {B c : Nat} {a : Option Addr} {xs : List A3} (h : Own3 B a c xs w) (hb : Below w.heap.size w w') : Own3 B a c xs w' := own_later h hb
theorem Own3.le {w : World} {B B' c : Nat} {a : Option Addr} {xs : List A3} (h : Own3 B a c xs w) (hb : B' ≤ B) : Own3 B' a c xs w := ownsRow_le h hb
theorem Own3.nil (B : Nat) (w : World) : Own3 B none 0 [] w := ⟨rfl, Or.inl ⟨rfl, rfl⟩⟩
theorem Own3.cap {w : World} {B c : Nat} {a : Option Addr} {xs : List A3} (h : Own3 B a c xs w) : xs.length ≤ c := by
  obtain ⟨a', c', e, hl⟩ := own_shape h
  injection e with _ _ e
  subst e
  exact hl
/-- Only the row's own block has changed. -/
theorem Own3.at {w w' : World} {B c B' c' : Nat} {a a' : Option Addr} {xs ys : List A3} (h : Own3 B a c xs w) (hg : w.grownBy w' (Value.slice a' ys.length c').ownBlock) (hk : ∀ k, (Value.slice a' ys.length c').ownBlock = some k → (Value.slice a xs.length c).ownBlock ≠ some k) : Own3 B a c xs w' := by
  refine World.ownsRow.kept h hg ?_
  cases hv : (Value.slice a xs.length c).ownBlock with
  | none => exact Or.inl rfl
  | some k => right; intro e; exact hk k e.symm hv

set_option maxRecDepth 100000 in
theorem eqAuth_is (a b c : Int) (w : World) : Calls Try.prog 58 #[av a b c, av a b c] w fun e w' => e = .returned (.bool true) ∧ Below w.heap.size w w' := by
  have hb0 : Below w.heap.size w ((w.alloc (.cells #[.int .i64 a, .int .i64 b, .int .i64 c] 28)).alloc (.cells #[.int .i64 a, .int .i64 b, .int .i64 c] 28)) := ((Below.refl _ _).alloc (Nat.le_refl _) _).alloc (by simp) _
  go_enter Try.func58, Try.ntmps58
  go_wp2
  go_ret
  exact ⟨rfl, hb0⟩
theorem res_a {fn : Func} {p : Tmp} (hres : fn.results = #[.cell p 28]) (tmps : Array Value) (w : World) (g : Nat) (v0 v1 v2 : Value) (hp : tmps.getD p undef = .pointer (some ⟨g, 0, none⟩)) (h0 : w.cell? ⟨g, 0, none⟩ = some v0) (h1 : w.cell? ⟨g, 1, none⟩ = some v1) (h2 : w.cell? ⟨g, 2, none⟩ = some v2) :
    (results fn tmps).run Try.prog w = .ok (.agg #[v0, v1, v2]) w := by
  have hp' : tmps[p]?.getD undef = .pointer (some ⟨g, 0, none⟩) := by simpa using hp
  unfold results
  rw [hres]
  go_simp
set_option maxRecDepth 100000 in
theorem toAuth_is (a b c : Int) (w : World) : Calls Try.prog 24 #[av a b c] w fun e w' => e = .returned (av a b c) ∧ Below w.heap.size w w' := by
  have hb0 : Below w.heap.size w (((w.alloc (.cells #[.int .i64 a, .int .i64 b, .int .i64 c] 47)).alloc (.cells #[.int .i64 a, .int .i64 b, .int .i64 c] 28)).alloc (.cells #[.int .i64 a, .int .i64 b, .int .i64 c] 28)) :=
    (((Below.refl _ _).alloc (Nat.le_refl _) _).alloc (by simp) _).alloc (by simp; omega) _
  go_enter Try.func24, Try.ntmps24
  go_wp2
  exact bodyPost_ret (res_a rfl _ _ (w.heap.size + 1) _ _ _ rfl (by simp [go_sem]) (by simp [go_sem]) (by simp [go_sem])) rfl ⟨rfl, hb0⟩

theorem infoAuth : (Try.prog.info? 28).map (fun i => (i.zero, i.size, i.bytes)) = some (some (.agg #[.int .i64 0, .int .i64 0, .int .i64 0]), 3, 24) := by kernel_rfl
/-- The row is made anew up to the k-th Auth. -/
theorem trV_put (ys : List A3) (J : List Value) (h : 3 ≤ J.length) (a b c : Int) :
    (((trV ys ++ J).set (ys.length * 3) (.int .i64 a)).set (ys.length * 3 + 1) (.int .i64 b)).set (ys.length * 3 + 2) (.int .i64 c) = trV (ys ++ [(a, b, c)]) ++ J.drop 3 := by
  match J, h with
  | u :: v :: x :: J, _ =>
    have hl := trV_len ys
    rw [← trV_snoc, List.append_assoc, List.set_append_right _ _ (by omega), List.set_append_right _ _ (by omega), List.set_append_right _ _ (by omega), hl]
    congr 1
    rw [show ys.length * 3 - ys.length * 3 = 0 by omega, show ys.length * 3 + 1 - ys.length * 3 = 1 by omega, show ys.length * 3 + 2 - ys.length * 3 = 2 by omega]
    rfl

set_option maxRecDepth 100000 in
set_option maxHeartbeats 1600000 in
theorem toAS_is (a : Option Addr) (cap : Nat) (xs : List A3) (w : World) (hr : ARow w a xs) (hl : xs.length ≤ 1048576) :
    Calls Try.prog 44 #[.slice a xs.length cap] w fun e w' => e = .returned (.slice (some ⟨w.heap.size, 0, none⟩) xs.length xs.length) ∧ Own3 w.heap.size (some ⟨w.heap.size, 0, none⟩) xs.length xs w' ∧ Below w.heap.size w w' := by
  obtain ⟨i0, hi, hz0, hz1, hz2⟩ := info_parts infoAuth
  go_enter Try.func44, Try.ntmps44
  go_wp2_with (first | (at_make; refine wpList_make_full _ rfl _ _ 24 rfl w.heap.size 28 i0 (.agg #[.int .i64 0, .int .i64 0, .int .i64 0]) 3 Try.underlying24 hi hz0 hz1 .i64 .i64 xs.length xs.length xs.length rfl rfl rfl rfl (by rw [hz2]; omega) (by unfold maxLen; omega) (Nat.le_refl _) ?_) | go_in)
  intro w1 hown hgrow
  have hbel := (Below.refl w.heap.size w).grown hgrow (Nat.le_refl _) (by simp)
  clear hgrow
  have H0 : ∃ J : List Value, w1.ownsRow w.heap.size 28 3 (.slice (some ⟨w.heap.size, 0, none⟩) xs.length xs.length) xs.length (trV (xs.take 0) ++ J) := ⟨_, hown⟩
  clear hown
  go_wp2
  go_loopw [4] (fun i wr => ∃ k : Nat, k ≤ xs.length ∧ i = .int .i64 k ∧ (∃ J : List Value, wr.ownsRow w.heap.size 28 3 (.slice (some ⟨w.heap.size, 0, none⟩) xs.length xs.length) xs.length (trV (xs.take k) ++ J)) ∧ Below w.heap.size w wr) (fun i _ => xs.length - (intOf i).toNat)
  case atStart => exact ⟨0, by omega, rfl, H0, hbel⟩
  case round =>
    clear H0 hbel
    obtain ⟨k, hk, rfl, ⟨J, hown⟩, hbel⟩ := hrel
    have hJ : k * 3 + J.length = xs.length * 3 := by have := hown.1; rw [List.length_append, trV_len, List.length_take, Nat.min_eq_left hk] at this; exact this
    by_cases hlt : k < xs.length
    · obtain ⟨b, off, rfl, hbl, h0, h1, h2⟩ := hr k hlt
      rw [← hbel.cell (p := ⟨b, off + k * 3, none⟩) hbl] at h0
      rw [← hbel.cell (p := ⟨b, off + k * 3 + 1, none⟩) hbl] at h1
      rw [← hbel.cell (p := ⟨b, off + k * 3 + 2, none⟩) hbl] at h2
      clear hr
      have hsn : xs.take k ++ [(xs[k].1, xs[k].2.1, xs[k].2.2)] = xs.take (k + 1) := (List.take_succ_eq_append_getElem hlt).symm
      generalize xs[k].1 = x at h0 hsn
      generalize xs[k].2.1 = y at h1 hsn
      generalize xs[k].2.2 = z at h2 hsn
      go_wp2_with fail
      refine (toAuth_is x y z _).mono ?_
      rintro e w2 ⟨rfl, hb2⟩
      have hown2 := own_later hown hb2
      have hbel2 := hbel.trans (hb2.mono hbel.size)
      clear h0 h1 h2 hown hbel hb2
      have hs := (((hown2.stored (k * 3) (.int .i64 x)).1.stored (k * 3 + 1) (.int .i64 y)).1.stored (k * 3 + 2) (.int .i64 z)).1
      have hp := trV_put (xs.take k) J (by omega) x y z
      rw [List.length_take, Nat.min_eq_left hk] at hp
      rw [hp, hsn] at hs
      have HS : Hid (∃ k' : Nat, k' ≤ xs.length ∧ Value.int .i64 ((k : Int) + 1) = .int .i64 k' ∧ (∃ J : List Value, (((w2.setCell ⟨w.heap.size, k * 3, none⟩ (.int .i64 x)).setCell ⟨w.heap.size, k * 3 + 1, none⟩ (.int .i64 y)).setCell ⟨w.heap.size, k * 3 + 2, none⟩ (.int .i64 z)).ownsRow w.heap.size 28 3 (.slice (some ⟨w.heap.size, 0, none⟩) xs.length xs.length) xs.length (trV (xs.take k') ++ J)) ∧ Below w.heap.size w (((w2.setCell ⟨w.heap.size, k * 3, none⟩ (.int .i64 x)).setCell ⟨w.heap.size, k * 3 + 1, none⟩ (.int .i64 y)).setCell ⟨w.heap.size, k * 3 + 2, none⟩ (.int .i64 z))) :=
        ⟨k + 1, by omega, by go_num, ⟨_, hs⟩, ((hbel2.setCell (Nat.le_refl _) _).setCell (Nat.le_refl _) _).setCell (Nat.le_refl _) _⟩
      have hll : (trV (xs.take k) ++ J).length = xs.length * 3 := hown2.1
      have u0 : w2.cell? ⟨w.heap.size, k * 3, none⟩ = some (trV (xs.take k) ++ J)[k * 3] := by rw [hown2.cellAt _ (by omega)]; exact List.getElem?_eq_getElem (by omega)
      have u1 : w2.cell? ⟨w.heap.size, k * 3 + 1, none⟩ = some (trV (xs.take k) ++ J)[k * 3 + 1] := by rw [hown2.cellAt _ (by omega)]; exact List.getElem?_eq_getElem (by omega)
      have u2 : w2.cell? ⟨w.heap.size, k * 3 + 2, none⟩ = some (trV (xs.take k) ++ J)[k * 3 + 2] := by rw [hown2.cellAt _ (by omega)]; exact List.getElem?_eq_getElem (by omega)
      have f0 := hown2.frozenAt (k * 3)
      have f1 := hown2.frozenAt (k * 3 + 1)
      have f2 := hown2.frozenAt (k * 3 + 2)
      have hlt2 : (k : Int) < (xs.length : Int) := by omega
      clear hown2 hbel2 hs hp hsn
      generalize (trV (xs.take k) ++ J)[k * 3] = q0 at u0
      generalize (trV (xs.take k) ++ J)[k * 3 + 1] = q1 at u1
      generalize (trV (xs.take k) ++ J)[k * 3 + 2] = q2 at u2
      clear hll hJ
      go_wp2
      go_roundw
      case rel => exact HS.out
      case measure => simp [intOf]; omega
    · obtain rfl : k = xs.length := by omega
      have hj0 : J = [] := List.length_eq_zero_iff.1 (by omega)
      subst hj0
      rw [List.take_length, List.append_nil] at hown
      go_wp2
      go_ret
      exact ⟨rfl, hown, hbel⟩

set_option maxRecDepth 100000 in
theorem szAS_is (a : Option Addr) (l cap : Nat) (n : Nat) (w : World) (hn : n ≤ 1048576) (hl : l ≤ maxLen) :
    Calls Try.prog 43 #[.slice a l cap, .int .i64 n] w fun en w' => en = .returned (.int .i64 (if l ≤ n then ((n - l : Nat) : Int) else -1)) ∧ w = w' := by
  unfold maxLen at hl
  by_cases h : l ≤ n
  · have hd : ¬ ((n : Int) - (l : Int) < 0) := by omega
    have hw : ((n : Int) - (l : Int)) = ((n - l : Nat) : Int) := by omega
    rw [if_pos h]
    go_enter Try.func43, Try.ntmps43
    go_wp2
    go_ret
    exact ⟨by rw [← hw]; rfl, rfl⟩
  · have hd : ((n : Int) - (l : Int) < 0) := by omega
    rw [if_neg h]
    go_enter Try.func43, Try.ntmps43
    go_wp2
    go_ret
    exact ⟨rfl, rfl⟩

set_option maxRecDepth 100000 in
set_option maxHeartbeats 1600000 in
theorem eqAS_is (a b : Option Addr) (ca cb : Nat) (xs : List A3) (w : World) (ha : ARow w a xs) (hb : ARow w b xs) (hl : xs.length ≤ 1048576) :
    Calls Try.prog 45 #[.slice a xs.length ca, .slice b xs.length cb] w fun e w' => e = .returned (.bool true) ∧ Below w.heap.size w w' := by
  go_enter Try.func45, Try.ntmps45
  go_wp2
  go_loopw [5] (fun i wr => ∃ k : Nat, k ≤ xs.length ∧ i = .int .i64 k ∧ Below w.heap.size w wr) (fun i _ => xs.length - (intOf i).toNat)
  case atStart => exact ⟨0, by omega, rfl, Below.refl _ _⟩
  case round =>
    obtain ⟨k, hk, rfl, hbel⟩ := hrel
    by_cases hlt : k < xs.length
    · obtain ⟨b1, o1, rfl, l1, h0, h1, h2⟩ := ha k hlt
      obtain ⟨b2, o2, rfl, l2, g0, g1, g2⟩ := hb k hlt
      have hlt2 : (k : Int) < (xs.length : Int) := by omega
      have m1 : b1 < wr.drew.heap.size := Nat.lt_of_lt_of_le l1 hbel.size
      have m2 : b2 < wr.drew.heap.size := Nat.lt_of_lt_of_le l2 hbel.size
      replace h0 : wr.drew.cell? ⟨b1, o1 + k * 3, none⟩ = _ := (hbel.cell (p := ⟨b1, o1 + k * 3, none⟩) l1).trans h0
      replace h1 : wr.drew.cell? ⟨b1, o1 + k * 3 + 1, none⟩ = _ := (hbel.cell (p := ⟨b1, o1 + k * 3 + 1, none⟩) l1).trans h1
      replace h2 : wr.drew.cell? ⟨b1, o1 + k * 3 + 2, none⟩ = _ := (hbel.cell (p := ⟨b1, o1 + k * 3 + 2, none⟩) l1).trans h2
      replace g0 : wr.drew.cell? ⟨b2, o2 + k * 3, none⟩ = _ := (hbel.cell (p := ⟨b2, o2 + k * 3, none⟩) l2).trans g0
      replace g1 : wr.drew.cell? ⟨b2, o2 + k * 3 + 1, none⟩ = _ := (hbel.cell (p := ⟨b2, o2 + k * 3 + 1, none⟩) l2).trans g1
      replace g2 : wr.drew.cell? ⟨b2, o2 + k * 3 + 2, none⟩ = _ := (hbel.cell (p := ⟨b2, o2 + k * 3 + 2, none⟩) l2).trans g2
      have BD := hbel.drew
      generalize xs[k].1 = u at h0 g0
      generalize xs[k].2.1 = v at h1 g1
      generalize xs[k].2.2 = x at h2 g2
      clear ha hb
      go_wp2_with fail
      refine wp_region_held_drew (S := (fun V : World => V.cell? ⟨b1, o1 + k * 3, none⟩ = some (.int .i64 u) ∧ V.cell? ⟨b1, o1 + k * 3 + 1, none⟩ = some (.int .i64 v) ∧ V.cell? ⟨b1, o1 + k * 3 + 2, none⟩ = some (.int .i64 x) ∧ V.cell? ⟨b2, o2 + k * 3, none⟩ = some (.int .i64 u) ∧ V.cell? ⟨b2, o2 + k * 3 + 1, none⟩ = some (.int .i64 v) ∧ V.cell? ⟨b2, o2 + k * 3 + 2, none⟩ = some (.int .i64 x))) (by kernel_rfl) ⟨h0, h1, h2, g0, g1, g2⟩ (fun hHeld => ?_)
      refine take_one 0 17 (v := ?_) rfl rfl (by kernel_rfl) (by kernel_rfl) (by kernel_rfl) (fun _ _ _ h => h) (Or.inl ⟨by rfl, ?_⟩) hHeld ?_
      rotate_left
      · intro w' hSw; (try dsimp only at hSw); obtain ⟨c0, c1, c2, c3, c4, c5⟩ := hSw; go_simp; try with_reducible rfl
      try simp only [Act.put, List.setIfInBounds_toArray, List.set_cons_zero, List.set_cons_succ]
      refine take_one 1 18 (v := ?_) rfl rfl (by kernel_rfl) (by kernel_rfl) (by kernel_rfl) (fun _ _ _ h => h) (Or.inl ⟨by rfl, ?_⟩) hHeld ?_
      rotate_left
      · intro w' hSw; (try dsimp only at hSw); obtain ⟨c0, c1, c2, c3, c4, c5⟩ := hSw; go_simp; try with_reducible rfl
      try simp only [Act.put, List.setIfInBounds_toArray, List.set_cons_zero, List.set_cons_succ]
      refine take_one 2 19 (v := ?_) rfl rfl (by kernel_rfl) (by kernel_rfl) (by kernel_rfl) (fun _ _ _ h => h) (Or.inl ⟨by rfl, ?_⟩) hHeld ?_
      rotate_left
      · intro w' hSw; (try dsimp only at hSw); obtain ⟨c0, c1, c2, c3, c4, c5⟩ := hSw; go_simp; try with_reducible rfl
      try simp only [Act.put, List.setIfInBounds_toArray, List.set_cons_zero, List.set_cons_succ]
      refine take_one 3 20 (v := ?_) rfl rfl (by kernel_rfl) (by kernel_rfl) (by kernel_rfl) (fun _ _ _ h => h) (Or.inl ⟨by rfl, ?_⟩) hHeld ?_
      rotate_left
      · intro w' hSw; (try dsimp only at hSw); obtain ⟨c0, c1, c2, c3, c4, c5⟩ := hSw; go_simp; try with_reducible rfl
      try simp only [Act.put, List.setIfInBounds_toArray, List.set_cons_zero, List.set_cons_succ]
      refine take_one 4 21 (v := ?_) rfl rfl (by kernel_rfl) (by kernel_rfl) (by kernel_rfl) (fun _ _ _ h => h) (Or.inl ⟨by rfl, ?_⟩) hHeld ?_
      rotate_left
      · intro w' hSw; (try dsimp only at hSw); obtain ⟨c0, c1, c2, c3, c4, c5⟩ := hSw; go_simp; try with_reducible rfl
      try simp only [Act.put, List.setIfInBounds_toArray, List.set_cons_zero, List.set_cons_succ]
      refine take_one 5 22 (v := ?_) rfl rfl (by kernel_rfl) (by kernel_rfl) (by kernel_rfl) (fun _ _ _ h => h) (Or.inl ⟨by rfl, ?_⟩) hHeld ?_
      rotate_left
      · intro w' hSw; (try dsimp only at hSw); obtain ⟨c0, c1, c2, c3, c4, c5⟩ := hSw; go_simp; try with_reducible rfl
      try simp only [Act.put, List.setIfInBounds_toArray, List.set_cons_zero, List.set_cons_succ]
      refine take_one 6 23 (v := ?_) rfl rfl (by kernel_rfl) (by kernel_rfl) (by kernel_rfl) (fun _ _ _ h => h) (Or.inl ⟨by rfl, ?_⟩) hHeld ?_
      rotate_left
      · intro w' hSw; (try dsimp only at hSw); obtain ⟨c0, c1, c2, c3, c4, c5⟩ := hSw; go_simp; try with_reducible rfl
      try simp only [Act.put, List.setIfInBounds_toArray, List.set_cons_zero, List.set_cons_succ]
      refine take_one 7 24 (v := ?_) rfl rfl (by kernel_rfl) (by kernel_rfl) (by kernel_rfl) (fun _ _ _ h => h) (Or.inl ⟨by rfl, ?_⟩) hHeld ?_
      rotate_left
      · intro w' hSw; (try dsimp only at hSw); obtain ⟨c0, c1, c2, c3, c4, c5⟩ := hSw; go_simp; try with_reducible rfl
      try simp only [Act.put, List.setIfInBounds_toArray, List.set_cons_zero, List.set_cons_succ]
      refine wpAnyH_ready (rs := [8]) (by kernel_rfl) (by simp) ?_
      refine AllReadyH.cons (i := 8) rfl (fun K hK => ?_) AllReadyH.nil
      go_simp
      refine (eqAuth_is u v x _).mono ?_
      rintro e w2 ⟨rfl, hb2⟩
      go_wp2_with fail
      refine hK.out _ _ ⟨(hb2.cell (p := ⟨b1, o1 + k * 3, none⟩) m1).trans h0, (hb2.cell (p := ⟨b1, o1 + k * 3 + 1, none⟩) m1).trans h1, (hb2.cell (p := ⟨b1, o1 + k * 3 + 2, none⟩) m1).trans h2, (hb2.cell (p := ⟨b2, o2 + k * 3, none⟩) m2).trans g0, (hb2.cell (p := ⟨b2, o2 + k * 3 + 1, none⟩) m2).trans g1, (hb2.cell (p := ⟨b2, o2 + k * 3 + 2, none⟩) m2).trans g2⟩ (fun hHeld2 => ?_)
      clear hK K hHeld
      have hHeld := hHeld2
      clear hHeld2
      try simp only [Act.put, List.setIfInBounds_toArray, List.set_cons_zero, List.set_cons_succ]
      refine take_one 9 26 (v := ?_) rfl rfl (by kernel_rfl) (by kernel_rfl) (by kernel_rfl) (fun _ _ _ h => h) (Or.inl ⟨by rfl, ?_⟩) hHeld ?_
      rotate_left
      · intro w' hSw; (try dsimp only at hSw); obtain ⟨c0, c1, c2, c3, c4, c5⟩ := hSw; go_simp; try with_reducible rfl
      try simp only [Act.put, List.setIfInBounds_toArray, List.set_cons_zero, List.set_cons_succ]
      refine wpAnyH_done (by kernel_rfl) ?_ _
      have B2 := BD.trans (hb2.mono BD.size)
      clear hHeld h0 h1 h2 g0 g1 g2
      go_wp2
      go_roundw
      case rel => exact ⟨k + 1, by omega, by go_num, B2⟩
      case measure => simp [intOf]; omega
    · go_wp2
      go_ret
      exact ⟨rfl, hbel⟩

theorem mem_take_succ {xs : List A3} {k : Nat} (hk : k < xs.length) (p : A3) : p ∈ xs.take (k + 1) ↔ p ∈ xs.take k ∨ p = xs[k] := by
  rw [List.take_succ_eq_append_getElem hk, List.mem_append, List.mem_singleton]
set_option maxRecDepth 100000 in
set_option maxHeartbeats 1600000 in
theorem saw_is (a : Option Addr) (cap : Nat) (xs : List A3) (x y z : Int) (w : World) (hr : ARow w a xs) (hl : xs.length ≤ 1048576) :
    Calls Try.prog 41 #[.slice a xs.length cap, av x y z] w fun e w' => e = .returned (.bool (decide ((x, y, z) ∈ xs))) ∧ Below w.heap.size w w' := by
  go_enter Try.func41, Try.ntmps41
  go_wp2
  go_loopw [5] (fun i wr => ∃ k : Nat, k ≤ xs.length ∧ i = .int .i64 k ∧ (x, y, z) ∉ xs.take k ∧ Below w.heap.size w wr ∧ Blk w.heap.size [.int .i64 x, .int .i64 y, .int .i64 z] wr) (fun i _ => xs.length - (intOf i).toNat)
  case atStart => exact ⟨0, by omega, rfl, by simp, (Below.refl _ _).alloc (Nat.le_refl _) _, Blk.new _ _ _⟩
  case round =>
    obtain ⟨k, hk, rfl, hno, hbel, T⟩ := hrel
    have NO : Hid ((x, y, z) ∉ xs.take k) := hno
    clear hno
    by_cases hlt : k < xs.length
    · obtain ⟨b1, o1, rfl, l1, h0, h1, h2⟩ := hr k hlt
      rw [← hbel.cell (p := ⟨b1, o1 + k * 3, none⟩) l1] at h0
      rw [← hbel.cell (p := ⟨b1, o1 + k * 3 + 1, none⟩) l1] at h1
      rw [← hbel.cell (p := ⟨b1, o1 + k * 3 + 2, none⟩) l1] at h2
      have d0 := T.at 0 rfl
      have d1 := T.at 1 rfl
      have d2 := T.at 2 rfl
      have hlt2 : (k : Int) < (xs.length : Int) := by omega
      by_cases he : xs[k] = (x, y, z)
      · have HM : Hid (decide ((x, y, z) ∈ xs) = true) := decide_eq_true (he ▸ List.getElem_mem hlt)
        rw [he] at h0 h1 h2
        clear he hr NO T
        go_wp2
        go_region
        all_goals
          go_wp2
          go_ret
          exact ⟨by rw [HM.out]; rfl, hbel.drew⟩
      · have NO2 : Hid ((x, y, z) ∉ xs.take (k + 1)) := fun hm => by
          rcases (mem_take_succ hlt _).1 hm with hm | hm
          · exact NO.out hm
          · exact he hm.symm
        have TD := T.drew
        clear hr NO T
        by_cases e1 : xs[k].1 = x
        · by_cases e2 : xs[k].2.1 = y
          · have e3 : ¬ xs[k].2.2 = z := fun e3 => he (Prod.ext e1 (Prod.ext e2 e3))
            rw [e1] at h0
            rw [e2] at h1
            generalize xs[k].2.2 = v at h2 e3
            clear he e1 e2
            go_wp2
            go_region
            all_goals
              go_wp2
              go_roundw
              case rel => exact ⟨k + 1, by omega, by go_num, NO2.out, hbel.drew, TD⟩
              case measure => simp [intOf]; omega
          · rw [e1] at h0
            generalize xs[k].2.1 = v at h1 e2
            generalize xs[k].2.2 = u at h2
            clear he e1
            go_wp2
            go_region
            all_goals
              go_wp2
              go_roundw
              case rel => exact ⟨k + 1, by omega, by go_num, NO2.out, hbel.drew, TD⟩
              case measure => simp [intOf]; omega
        · generalize xs[k].1 = u at h0 e1
          generalize xs[k].2.1 = v at h1
          generalize xs[k].2.2 = v2 at h2
          clear he
          go_wp2
          go_region
          all_goals
            go_wp2
            go_roundw
            case rel => exact ⟨k + 1, by omega, by go_num, NO2.out, hbel.drew, TD⟩
            case measure => simp [intOf]; omega
    · obtain rfl : k = xs.length := by omega
      have HM : Hid (decide ((x, y, z) ∈ xs) = false) := decide_eq_false (by have := NO.out; rwa [List.take_length] at this)
      go_wp2
      go_ret
      exact ⟨by rw [HM.out]; rfl, hbel⟩
end Go.Proofs.Ytmiceknaipimiaa
