/- Marks on rows of any length, and on both rows of what is known. -/
import Derived.Test.YtbkemhclncmicaaReadNums
import Derived.Test.YtbkemhclncmicaaMarks
import Derived.Lib.SmallJoins
import Derived.Test.YtbkemhclncmicaaFillG
import Derived.Test.YtbkemhclncmicaaTickOk
import Derived.Test.YtbkemhclncmicaaShT
set_option linter.unusedVariables false
namespace Go.Proofs.Ytbkemhclncmicaa
open Go.RowKit Own Var Term

/-- The marks of a row of numbers, from K on. -/
def miK (K n : Nat) : List Int := (List.range n).map fun (i : Nat) => ((K : Int) + (i : Int) + 1)
def rowK (K : Nat) (vs : List Value) (k : Nat) : List Value := intV (miK K k) ++ vs.drop k
theorem miK_len (K n : Nat) : (miK K n).length = n := by simp [miK]
theorem rowK_zero (K : Nat) (vs : List Value) : rowK K vs 0 = vs := by simp [rowK, miK, intV]
theorem rowK_full (K : Nat) (vs : List Value) : rowK K vs vs.length = intV (miK K vs.length) := by simp [rowK]
theorem rowK_len (K : Nat) (vs : List Value) (k : Nat) (h : k ≤ vs.length) : (rowK K vs k).length = vs.length := by
  unfold rowK intV; rw [List.length_append, List.length_map, miK_len, List.length_drop]; omega
theorem rowK_set (K : Nat) (vs : List Value) (k : Nat) (h : k < vs.length) : (rowK K vs k).set k (.int .i64 ((K : Int) + (k : Int) + 1)) = rowK K vs (k + 1) := by
  unfold rowK intV
  rw [List.set_append_right _ _ (by rw [List.length_map, miK_len]; exact Nat.le_refl _), List.length_map, miK_len, Nat.sub_self, List.drop_eq_getElem_cons h]
  unfold miK
  rw [List.range_succ, List.map_append, List.map_append, List.append_assoc]
  rfl

set_option maxRecDepth 100000 in
set_option maxHeartbeats 800000 in
theorem markIB (B g n cap : Nat) (vs : List Value) (w : World) (K : Nat) (hK : K ≤ 1048576) (hn : n ≤ 1048576) (hown : w.ownsRow B 3 1 (.slice (some ⟨g, 0, none⟩) n cap) n vs) :
    Calls Try.prog 49 #[.slice (some ⟨g, 0, none⟩) n cap, .int .i64 ((K : Int) + 1)] w fun e w' => e = .returned (.int .i64 ((K : Int) + (n : Int) + 1)) ∧ w'.ownsRow B 3 1 (.slice (some ⟨g, 0, none⟩) n cap) n (intV (miK K n)) ∧ w.grownBy w' (some g) := by
  have hvl : vs.length = n := by have := hown.1; simpa using this
  have hg := (hown.lt g rfl).2
  go_enter Try.func49, Try.ntmps49
  go_wp2
  go_loopw [1, 5] (fun a i wr => ∃ k : Nat, k ≤ n ∧ i = .int .i64 k ∧ a = .int .i64 ((K : Int) + (k : Int) + 1) ∧ wr.ownsRow B 3 1 (.slice (some ⟨g, 0, none⟩) n cap) n (rowK K vs k) ∧ w.grownBy wr (some g)) (fun _ i _ => n - (intOf i).toNat)
  case atStart => exact ⟨0, by omega, rfl, by simp, by rw [rowK_zero]; exact hown, World.grownBy.refl w _⟩
  case round =>
    clear hown
    obtain ⟨k, hk, rfl, rfl, hown1, hgr1⟩ := hrel
    by_cases hlt : k < n
    · have HS : Hid ((rowK K vs k).set k (.int .i64 ((K : Int) + (k : Int) + 1)) = rowK K vs (k + 1)) := rowK_set K vs k (by omega)
      have hrl := rowK_len K vs k (by omega)
      have hto : ∃ v, wr.cell? ⟨g, k, none⟩ = some v := by
        rw [hown1.cellAt _ (by omega)]
        exact ⟨_, List.getElem?_eq_getElem (by omega)⟩
      obtain ⟨v, hto⟩ := hto
      have hfz := hown1.frozenAt k
      have hs := hown1.stored k (.int .i64 ((K : Int) + (k : Int) + 1))
      rw [HS.out] at hs
      have hgr2 : w.grownBy (wr.setCell ⟨g, k, none⟩ (.int .i64 ((K : Int) + (k : Int) + 1))) (some g) := ⟨hs.2.os.trans hgr1.os, hs.2.tape.trans hgr1.tape, hs.2.output.trans hgr1.output, Nat.le_trans hgr1.size hs.2.size, fun j hj hn => (hs.2.block j (Nat.lt_of_lt_of_le hj hgr1.size) hn).trans (hgr1.block j hj hn)⟩
      have R : Hid (∃ k' : Nat, k' ≤ n ∧ Value.int .i64 ((k : Int) + 1) = .int .i64 k' ∧ Value.int .i64 ((K : Int) + (k : Int) + 1 + 1) = .int .i64 ((K : Int) + (k' : Int) + 1) ∧ (wr.setCell ⟨g, k, none⟩ (.int .i64 ((K : Int) + (k : Int) + 1))).ownsRow B 3 1 (.slice (some ⟨g, 0, none⟩) n cap) n (rowK K vs k') ∧ w.grownBy (wr.setCell ⟨g, k, none⟩ (.int .i64 ((K : Int) + (k : Int) + 1))) (some g)) :=
        ⟨k + 1, by omega, by go_num, by go_num, hs.1, hgr2⟩
      clear hs hgr2 hgr1 hown1
      go_wp2
      go_roundw
      case rel => first | exact R.out | (have R := R.out; (repeat apply Exists.intro); exact ⟨R, rfl⟩)
      case measure => simp [intOf]; omega
    · obtain rfl : k = n := by omega
      have hf := rowK_full K vs
      rw [hvl] at hf
      rw [hf] at hown1
      go_wp2
      go_ret
      exact ⟨rfl, hown1, hgr1⟩

set_option maxRecDepth 100000 in
set_option maxHeartbeats 800000 in
theorem heldIB (a : Option Addr) (n cap : Nat) (w : World) (K : Nat) (hK : K ≤ 1048576) (hn : n ≤ 1048576) (hr : RowAt (Value.int .i64) w a (miK K n)) :
    Calls Try.prog 50 #[.slice a n cap, .int .i64 ((K : Int) + 1)] w fun e w' => e = .returned (.int .i64 ((K : Int) + (n : Int) + 1)) ∧ Below w.heap.size w w' := by
  go_enter Try.func50, Try.ntmps50
  go_wp2
  go_loopw [1, 5] (fun x i wr => ∃ k : Nat, k ≤ n ∧ i = .int .i64 k ∧ x = .int .i64 ((K : Int) + (k : Int) + 1) ∧ Below w.heap.size w wr) (fun _ i _ => n - (intOf i).toNat)
  case atStart => exact ⟨0, by omega, rfl, by simp, Below.refl _ _⟩
  case round =>
    obtain ⟨k, hk, rfl, rfl, hbel⟩ := hrel
    by_cases hlt : k < n
    · obtain ⟨b, off, rfl, hbl, hcell⟩ := hr k (by rw [miK_len]; exact hlt)
      have hx : (miK K n)[k]'(by rw [miK_len]; exact hlt) = (K : Int) + (k : Int) + 1 := by simp [miK]
      rw [hx, ← hbel.cell (p := ⟨b, off + k, none⟩) hbl] at hcell
      go_wp2
      go_roundw
      case rel => exact ⟨k + 1, by omega, by go_num, by go_num, hbel⟩
      case measure => simp [intOf]; omega
    · obtain rfl : k = n := by omega
      go_wp2
      go_ret
      exact ⟨rfl, hbel⟩
end Go.Proofs.Ytbkemhclncmicaa

set_option linter.unusedVariables false
namespace Go.Proofs.Ytbkemhclncmicaa
open Go.RowKit Own Var Term

/-- All blocks but two are as they were. -/
def Turn2 (w w' : World) (o1 o2 : Option Nat) : Prop :=
  w'.os = w.os ∧ w'.tape = w.tape ∧ w'.output = w.output ∧ w.heap.size ≤ w'.heap.size ∧ ∀ k, k < w.heap.size → some k ≠ o1 → some k ≠ o2 → w'.heap[k]? = w.heap[k]?
theorem Turn2.below {w w' : World} {o1 o2 : Option Nat} {B : Nat} (h : Turn2 w w' o1 o2) (h1 : ∀ k, o1 = some k → B ≤ k) (h2 : ∀ k, o2 = some k → B ≤ k) (hB : B ≤ w.heap.size) : Below B w w' :=
  ⟨h.1, h.2.1, h.2.2.1, h.2.2.2.1, fun k hk => h.2.2.2.2 k (Nat.lt_of_lt_of_le hk hB) (fun e => by have := h1 k e.symm; omega) (fun e => by have := h2 k e.symm; omega)⟩
theorem Turn2.own {w w' : World} {o1 o2 : Option Nat} {base : Nat} {e : TypeId} {sz n : Nat} {v : Value} {xs : List Value} (h : Turn2 w w' o1 o2) (ho : w.ownsRow base e sz v n xs) (h1 : ∀ k, v.ownBlock = some k → some k ≠ o1 ∧ some k ≠ o2) : w'.ownsRow base e sz v n xs := by
  refine ⟨ho.1, ?_⟩
  rcases ho.2 with h0 | ⟨g, cap, cur, e1, e2, e3, e4⟩
  · exact Or.inl h0
  · subst e1
    have := h1 g rfl
    exact Or.inr ⟨g, cap, cur, rfl, e2, (h.2.2.2.2 g (ho.lt g rfl).2 this.1 this.2).trans e3, e4⟩
theorem Turn2.row {α : Type} {f : α → Value} {w w' : World} {o1 o2 : Option Nat} {a : Option Addr} {xs : List α} (h : Turn2 w w' o1 o2) (hr : RowAt f w a xs) (h1 : ∀ p : Addr, a = some p → some p.block ≠ o1 ∧ some p.block ≠ o2) : RowAt f w' a xs := by
  intro j hj
  obtain ⟨b, off, e, hlt, hc⟩ := hr j hj
  have := h1 _ e
  exact ⟨b, off, e, Nat.lt_of_lt_of_le hlt h.2.2.2.1, by rw [World.cell?_of_block (w := w) (a := ⟨b, off + j, none⟩) (h.2.2.2.2 b hlt this.1 this.2)]; exact hc⟩

theorem markI_nilK (K : Nat) (c : Nat) (w : World) (hK : K ≤ 1048576) : Calls Try.prog 49 #[.slice none 0 c, .int .i64 ((K : Int) + 1)] w fun e w' => e = .returned (.int .i64 ((K : Int) + 1)) ∧ w = w' := by
  go_enter Try.func49, Try.ntmps49
  go_wp2
  refine wp_loop_rounds 1 ?_
  rw [rounds_succ]
  go_wp2
  go_ret
  exact ⟨rfl, rfl⟩

theorem markI_own (B : Nat) (a : Option Addr) (n c K : Nat) (vs : List Value) (w : World) (hK : K ≤ 1048576) (hn : n ≤ 1048576) (hown : w.ownsRow B 3 1 (.slice a n c) n vs) :
    Calls Try.prog 49 #[.slice a n c, .int .i64 ((K : Int) + 1)] w fun e w' => e = .returned (.int .i64 ((K : Int) + (n : Int) + 1)) ∧ w'.ownsRow B 3 1 (.slice a n c) n (intV (miK K n)) ∧ w.grownBy w' (Value.slice a n c).ownBlock := by
  rcases hown.2 with ⟨e, h0⟩ | ⟨g, cap, cur, e1, e2⟩
  · simp only [Value.slice.injEq] at e
    obtain ⟨rfl, rfl, rfl⟩ := e
    refine (markI_nilK K 0 w hK).mono ?_
    rintro e w' ⟨rfl, rfl⟩
    exact ⟨by simp, World.ownsRow_nil _ _ _ _, World.grownBy.refl w _⟩
  · simp only [Value.slice.injEq] at e1
    obtain ⟨rfl, _, rfl⟩ := e1
    exact markIB B g n c vs w K hK hn hown
end Go.Proofs.Ytbkemhclncmicaa

set_option linter.unusedVariables false
namespace Go.Proofs.Ytbkemhclncmicaa
open Go Go.RowKit Go.Joins Own Var Term

theorem own_set {w : World} {base n : Nat} {e : TypeId} {v : Value} {xs : List Value} (h : w.ownsRow base e 1 v n xs) (q i : Nat) (u : Value) (hn : ∀ k, v.ownBlock = some k → k ≠ q) : (w.setCell ⟨q, i, none⟩ u).ownsRow base e 1 v n xs := by
  refine ⟨h.1, ?_⟩
  rcases h.2 with h0 | ⟨g, cap, cur, e1, e2, e3, e4⟩
  · exact Or.inl h0
  · refine Or.inr ⟨g, cap, cur, e1, e2, ?_, e4⟩
    have : g ≠ q := hn g (by rw [e1]; rfl)
    rw [Below.heap_setCell _ _ _ _ (by first | exact this | exact fun h => this h.symm | omega)]
    exact e3
theorem own_in {w : World} {base n : Nat} {e : TypeId} {v : Value} {xs : List Value} (h : w.ownsRow base e 1 v n xs) : ∀ k, v.ownBlock = some k → base ≤ k ∧ k < w.heap.size := by
  intro k hk
  rcases h.2 with ⟨h0, _⟩ | ⟨g, cap, cur, e1, e2, e3, e4⟩
  · rw [h0] at hk; cases hk
  · subst e1
    simp only [Value.ownBlock, Option.some.injEq] at hk
    subst hk
    exact ⟨e2, (h.lt g rfl).2⟩
/-- Two rows that lie apart. -/
def Apart (u v : Value) : Prop := ∀ k, u.ownBlock = some k → v.ownBlock ≠ some k
theorem apart_of {u v : Value} {m : Nat} (hu : ∀ k, u.ownBlock = some k → k < m) (hv : ∀ k, v.ownBlock = some k → m ≤ k) : Apart u v := by
  intro k h1 h2
  have := hu k h1
  have := hv k h2
  omega
theorem apart_nil (v : Value) : Apart (.slice none 0 0) v := by intro k h; cases h

set_option maxRecDepth 100000 in
set_option maxHeartbeats 12800000 in
theorem fillT_is (p : Nat) (c0 s0 k0 a0 b0 e0 key : Int) (s : ByteArray) (w : World) (hT : Blk p [.int .i64 c0, .int .i64 s0, .int .i64 k0, .int .i64 a0, .int .i64 b0, .int .i64 e0, .slice none 0 0, .slice none 0 0, .int .i64 key] w) (hp : p < w.heap.size) (hs : s.size ≤ 1048576)
    (x0 x1 x2 x3 x4 : ByteArray) (hx : just (⟨#[]⟩ : ByteArray) (partsR (openR s key).1).1 5 = [x0, x1, x2, x3, x4]) (c sv : Int) (hw : just 0 (numsR x0).1 2 = [c, sv]) :
    Calls Try.prog 47 #[.pointer (some ⟨p, 0, none⟩), .string s] w fun en w' => ∃ (ua : Option Addr) (uc : Nat) (va : Option Addr) (vc : Nat), en = .returned (.tuple #[]) ∧
      Blk p [.int .i64 c, .int .i64 sv, .int .i64 (keyR x1).1, .int .i64 (rdA (numsR x2).1), .int .i64 (rdB (numsR x2).1), .int .i64 (rdC (numsR x2).1), .slice ua (numsR x3).1.length uc, .slice va (numsR x4).1.length vc, .int .i64 key] w' ∧
      w'.ownsRow w.heap.size 3 1 (.slice ua (numsR x3).1.length uc) (numsR x3).1.length (intV (numsR x3).1) ∧ w'.ownsRow w.heap.size 3 1 (.slice va (numsR x4).1.length vc) (numsR x4).1.length (intV (numsR x4).1) ∧
      Apart (.slice ua (numsR x3).1.length uc) (.slice va (numsR x4).1.length vc) ∧ Below p w w' := by
  have hz := just_size (openR s key).1 5
  rw [hx] at hz
  have z0 : x0.size ≤ 1048576 := Nat.le_trans (hz x0 (by simp)) (by omega)
  have z1 : x1.size ≤ 1048576 := Nat.le_trans (hz x1 (by simp)) (by omega)
  have z2 : x2.size ≤ 1048576 := Nat.le_trans (hz x2 (by simp)) (by omega)
  have z3 : x3.size ≤ 1048576 := Nat.le_trans (hz x3 (by simp)) (by omega)
  have z4 : x4.size ≤ 1048576 := Nat.le_trans (hz x4 (by simp)) (by omega)
  clear hz
  have d0 := hT.at 0 rfl
  have d1 := hT.at 1 rfl
  have d2 := hT.at 2 rfl
  have d3 := hT.at 3 rfl
  have d4 := hT.at 4 rfl
  have d5 := hT.at 5 rfl
  have d6 := hT.at 6 rfl
  have d7 := hT.at 7 rfl
  have d8 := hT.at 8 rfl
  have HP : Hid (p < w.heap.size) := hp
  clear hp
  have HK := fun w => impl_readKey x1 w z1
  have HR := fun w => implRead_is x2 w z2
  have H3 := fun w => impl_readNums x3 w z3
  have H4 := fun w => impl_readNums x4 w z4
  generalize (keyR x1).1 = kv at HK ⊢
  generalize (keyR x1).2 = kb at HK
  generalize rdA (numsR x2).1 = ra at HR ⊢
  generalize rdB (numsR x2).1 = rb at HR ⊢
  generalize rdC (numsR x2).1 = rc at HR ⊢
  generalize rdK (numsR x2).1 = rk at HR
  generalize (numsR x3).1 = PL at H3 ⊢
  generalize (numsR x3).2 = pb at H3
  generalize (numsR x4).1 = VL at H4 ⊢
  generalize (numsR x4).2 = vb at H4
  clear z1 z2 z3 z4
  go_enter Try.func47, Try.ntmps47
  go_wp2_with fail
  refine (openT_is c0 s0 k0 a0 b0 e0 none 0 0 none 0 0 key s _ hs).mono ?_
  rintro en w1 ⟨rfl, hb1⟩
  have T1 := hT.later hb1 HP.out
  have P1 : Hid (p < w1.heap.size) := Nat.lt_of_lt_of_le HP.out hb1.size
  have B1 : Below p w w1 := hb1.mono (Nat.le_of_lt HP.out)
  have M1 : w.heap.size ≤ w1.heap.size := hb1.size
  clear hT hb1 d0 d1 d2 d3 d4 d5 d6 d7 d8
  have HN := partsOf_is (openR s key).1 5 w1 (Nat.le_trans (openR_size s key) (by omega)) (by omega)
  rw [hx] at HN
  go_wp2_with fail
  refine HN.mono ?_
  rintro en w2 ⟨u, rfl, ho, hb2⟩
  clear HN
  obtain ⟨gp, capp, rfl, hcap, hg, hlt, X2⟩ := own_blk (f := Value.string) (xs := [x0, x1, x2, x3, x4]) ho (by omega)
  have T2 := T1.later hb2 P1.out
  have P2 : Hid (p < w2.heap.size) := Nat.lt_of_lt_of_le P1.out hb2.size
  have B2 : Below p w w2 := B1.trans (hb2.mono (Nat.le_of_lt P1.out))
  have M2 : w.heap.size ≤ w2.heap.size := Nat.le_trans M1 hb2.size
  have hgp : p ≠ gp := by have := P1.out; omega
  have hc5 : (5 : Int) ≤ (capp : Int) := by omega
  have X2' : Blk gp [.string x0, .string x1, .string x2, .string x3, .string x4] w2 := X2
  clear T1 B1 hb2 ho P1 hg X2 hcap M1
  have q0 := X2'.at 0 rfl
  have HN := numbersOf_is x0 2 w2 z0 (by omega)
  rw [hw] at HN
  go_wp2_with fail
  refine HN.mono ?_
  rintro en w3 ⟨u, rfl, ho, hb3⟩
  clear HN q0 z0
  obtain ⟨g5, cap5, rfl, hcap, hg, hlt5, Q3⟩ := own_blk (f := Value.int .i64) (xs := [c, sv]) ho (by omega)
  have T5 := T2.later hb3 P2.out
  have X5 := X2'.later hb3 hlt
  have hp5 : p < w3.heap.size := Nat.lt_of_lt_of_le P2.out hb3.size
  have B5 : Below p w w3 := B2.trans (hb3.mono (Nat.le_of_lt P2.out))
  have M5 : w.heap.size ≤ w3.heap.size := Nat.le_trans M2 hb3.size
  have hlt5' : gp < w3.heap.size := Nat.lt_of_lt_of_le hlt hb3.size
  have hg5 : p ≠ g5 := by have := P2.out; omega
  have hc2 : (2 : Int) ≤ (cap5 : Int) := by omega
  have Q5 : Blk g5 [.int .i64 c, .int .i64 sv] w3 := Q3
  clear T2 B2 hb3 ho P2 hg X2' Q3 hcap hlt M2 hlt5
  go_wp2_with fail
  obtain ⟨V6, hV6⟩ : ∃ V, w3.drew.setCell ⟨p, 0, none⟩ (.int .i64 c) = V := ⟨_, rfl⟩
  have T6 : Blk p [.int .i64 c, .int .i64 s0, .int .i64 k0, .int .i64 a0, .int .i64 b0, .int .i64 e0, .slice none 0 0, .slice none 0 0, .int .i64 key] V6 := by rw [← hV6]; exact T5.drew.set 0 _
  have Q6 : Blk g5 [.int .i64 c, .int .i64 sv] V6 := by rw [← hV6]; exact Q5.drew.far hg5 0 _
  have X6 : Blk gp [.string x0, .string x1, .string x2, .string x3, .string x4] V6 := by rw [← hV6]; exact X5.drew.far hgp 0 _
  have B6 : Below p w V6 := by rw [← hV6]; exact B5.drew.setCell (by dsimp only; omega) _
  have hp6 : p < V6.heap.size := by rw [← hV6]; simpa using hp5
  have hlt6 : gp < V6.heap.size := by rw [← hV6]; simpa using hlt5'
  have M6 : w.heap.size ≤ V6.heap.size := by rw [← hV6]; simpa using M5
  obtain ⟨V7, hV7⟩ : ∃ V, V6.setCell ⟨p, 1, none⟩ (.int .i64 sv) = V := ⟨_, rfl⟩
  have T7 : Blk p [.int .i64 c, .int .i64 sv, .int .i64 k0, .int .i64 a0, .int .i64 b0, .int .i64 e0, .slice none 0 0, .slice none 0 0, .int .i64 key] V7 := by rw [← hV7]; exact T6.set 1 _
  have Q7 : Blk g5 [.int .i64 c, .int .i64 sv] V7 := by rw [← hV7]; exact Q6.far hg5 1 _
  have X7 : Blk gp [.string x0, .string x1, .string x2, .string x3, .string x4] V7 := by rw [← hV7]; exact X6.far hgp 1 _
  have B7 : Below p w V7 := by rw [← hV7]; exact B6.setCell (by dsimp only; omega) _
  have hp7 : p < V7.heap.size := by rw [← hV7]; simpa using hp6
  have hlt7 : gp < V7.heap.size := by rw [← hV7]; simpa using hlt6
  have M7 : w.heap.size ≤ V7.heap.size := by rw [← hV7]; simpa using M6
  have k0 := T5.at 0 rfl
  have f0 := T5.fz 0 rfl
  have k1 := T6.at 1 rfl
  have f1 := T6.fz 1 rfl
  refine wp_region_held_drew (S := (fun Vw => Blk g5 [.int .i64 c, .int .i64 sv] Vw)) (by kernel_rfl) Q5.drew (fun hHeld => ?_)
  refine take_one 0 17 (v := ?_) rfl rfl (by kernel_rfl) (by kernel_rfl) (by kernel_rfl) (fun _ _ _ h => h) (Or.inl ⟨by rfl, ?_⟩) hHeld ?_
  rotate_left
  · intro w' hSw; (try dsimp only at hSw); have d0 := hSw.at 0 rfl; have d1 := hSw.at 1 rfl; go_simp; try with_reducible rfl
  try simp only [Act.put, List.setIfInBounds_toArray, List.set_cons_zero, List.set_cons_succ]
  refine take_one 1 18 (v := ?_) rfl rfl (by kernel_rfl) (by kernel_rfl) (by kernel_rfl) (fun _ _ _ h => h) (Or.inl ⟨by rfl, ?_⟩) hHeld ?_
  rotate_left
  · intro w' hSw; (try dsimp only at hSw); have d0 := hSw.at 0 rfl; have d1 := hSw.at 1 rfl; go_simp; try with_reducible rfl
  try simp only [Act.put, List.setIfInBounds_toArray, List.set_cons_zero, List.set_cons_succ]
  refine take_one 2 19 (v := ?_) rfl rfl (by kernel_rfl) (by kernel_rfl) (by kernel_rfl) (fun _ _ _ h => h) (Or.inl ⟨by rfl, ?_⟩) hHeld ?_
  rotate_left
  · intro w' hSw; (try dsimp only at hSw); have d0 := hSw.at 0 rfl; have d1 := hSw.at 1 rfl; go_simp; try with_reducible rfl
  try simp only [Act.put, List.setIfInBounds_toArray, List.set_cons_zero, List.set_cons_succ]
  refine take_one 3 20 (v := ?_) rfl rfl (by kernel_rfl) (by kernel_rfl) (by kernel_rfl) (fun _ _ _ h => h) (Or.inl ⟨by rfl, ?_⟩) hHeld ?_
  rotate_left
  · intro w' hSw; (try dsimp only at hSw); have d0 := hSw.at 0 rfl; have d1 := hSw.at 1 rfl; go_simp; try with_reducible rfl
  try simp only [Act.put, List.setIfInBounds_toArray, List.set_cons_zero, List.set_cons_succ]
  refine take_one 4 21 (v := ?_) rfl rfl (by kernel_rfl) (by kernel_rfl) (by kernel_rfl) (fun _ _ _ h => h) (Or.inl ⟨by rfl, ?_⟩) hHeld ?_
  rotate_left
  · intro w' hSw; (try dsimp only at hSw); have d0 := hSw.at 0 rfl; have d1 := hSw.at 1 rfl; go_simp; try with_reducible rfl
  try simp only [Act.put, List.setIfInBounds_toArray, List.set_cons_zero, List.set_cons_succ]
  refine take_one 5 22 (v := ?_) rfl rfl (by kernel_rfl) (by kernel_rfl) (by kernel_rfl) (fun _ _ _ h => h) (Or.inl ⟨by rfl, ?_⟩) hHeld ?_
  rotate_left
  · intro w' hSw; (try dsimp only at hSw); have d0 := hSw.at 0 rfl; have d1 := hSw.at 1 rfl; go_simp; try with_reducible rfl
  try simp only [Act.put, List.setIfInBounds_toArray, List.set_cons_zero, List.set_cons_succ]
  refine take_one 6 23 (v := ?_) rfl rfl (by kernel_rfl) (by kernel_rfl) (by kernel_rfl) (fun _ _ _ h => h) (Or.inl ⟨by rfl, ?_⟩) hHeld ?_
  rotate_left
  · intro w' hSw; (try dsimp only at hSw); have d0 := hSw.at 0 rfl; have d1 := hSw.at 1 rfl; go_simp; try with_reducible rfl
  try simp only [Act.put, List.setIfInBounds_toArray, List.set_cons_zero, List.set_cons_succ]
  refine take_one 7 24 (v := ?_) rfl rfl (by kernel_rfl) (by kernel_rfl) (by kernel_rfl) (fun _ _ _ h => h) (Or.inl ⟨by rfl, ?_⟩) hHeld ?_
  rotate_left
  · intro w' hSw; (try dsimp only at hSw); have d0 := hSw.at 0 rfl; have d1 := hSw.at 1 rfl; go_simp; try with_reducible rfl
  try simp only [Act.put, List.setIfInBounds_toArray, List.set_cons_zero, List.set_cons_succ]
  refine take_one 8 25 (v := ?_) rfl rfl (by kernel_rfl) (by kernel_rfl) (by kernel_rfl) (fun _ _ _ h => h) (Or.inl ⟨by rfl, ?_⟩) hHeld ?_
  rotate_left
  · intro w' hSw; (try dsimp only at hSw); have d0 := hSw.at 0 rfl; have d1 := hSw.at 1 rfl; go_simp; try with_reducible rfl
  try simp only [Act.put, List.setIfInBounds_toArray, List.set_cons_zero, List.set_cons_succ]
  refine take_one 9 26 (v := ?_) rfl rfl (by kernel_rfl) (by kernel_rfl) (by kernel_rfl) (fun _ _ _ h => h) (Or.inl ⟨by rfl, ?_⟩) hHeld ?_
  rotate_left
  · intro w' hSw; (try dsimp only at hSw); have d0 := hSw.at 0 rfl; have d1 := hSw.at 1 rfl; go_simp; try with_reducible rfl
  try simp only [Act.put, List.setIfInBounds_toArray, List.set_cons_zero, List.set_cons_succ]
  refine take_one 10 27 (v := ?_) rfl rfl (by kernel_rfl) (by kernel_rfl) (by kernel_rfl) (fun _ _ _ h => h) (Or.inl ⟨by rfl, ?_⟩) hHeld ?_
  rotate_left
  · intro w' hSw; (try dsimp only at hSw); have d0 := hSw.at 0 rfl; have d1 := hSw.at 1 rfl; go_simp; try with_reducible rfl
  try simp only [Act.put, List.setIfInBounds_toArray, List.set_cons_zero, List.set_cons_succ]
  refine take_one 11 28 (v := ?_) rfl rfl (by kernel_rfl) (by kernel_rfl) (by kernel_rfl) (fun _ _ _ h => h) (Or.inl ⟨by rfl, ?_⟩) hHeld ?_
  rotate_left
  · intro w' hSw; (try dsimp only at hSw); have d0 := hSw.at 0 rfl; have d1 := hSw.at 1 rfl; go_simp; try with_reducible rfl
  try simp only [Act.put, List.setIfInBounds_toArray, List.set_cons_zero, List.set_cons_succ]
  refine wpAnyH_ready (rs := [12]) (by kernel_rfl) (by simp) ?_
  refine AllReadyH.cons (i := 12) rfl (fun K hK => ?_) AllReadyH.nil
  go_simp
  refine hK.out _ _ Q6 (fun hHeld2 => ?_)
  clear hK K hHeld
  have hHeld := hHeld2
  clear hHeld2
  try simp only [Act.put, List.setIfInBounds_toArray, List.set_cons_zero, List.set_cons_succ]
  refine take_one 13 29 (v := ?_) rfl rfl (by kernel_rfl) (by kernel_rfl) (by kernel_rfl) (fun _ _ _ h => h) (Or.inl ⟨by rfl, ?_⟩) hHeld ?_
  rotate_left
  · intro w' hSw; (try dsimp only at hSw); have d0 := hSw.at 0 rfl; have d1 := hSw.at 1 rfl; go_simp; try with_reducible rfl
  try simp only [Act.put, List.setIfInBounds_toArray, List.set_cons_zero, List.set_cons_succ]
  refine take_one 14 30 (v := ?_) rfl rfl (by kernel_rfl) (by kernel_rfl) (by kernel_rfl) (fun _ _ _ h => h) (Or.inl ⟨by rfl, ?_⟩) hHeld ?_
  rotate_left
  · intro w' hSw; (try dsimp only at hSw); have d0 := hSw.at 0 rfl; have d1 := hSw.at 1 rfl; go_simp; try with_reducible rfl
  try simp only [Act.put, List.setIfInBounds_toArray, List.set_cons_zero, List.set_cons_succ]
  refine take_one 15 31 (v := ?_) rfl rfl (by kernel_rfl) (by kernel_rfl) (by kernel_rfl) (fun _ _ _ h => h) (Or.inl ⟨by rfl, ?_⟩) hHeld ?_
  rotate_left
  · intro w' hSw; (try dsimp only at hSw); have d0 := hSw.at 0 rfl; have d1 := hSw.at 1 rfl; go_simp; try with_reducible rfl
  try simp only [Act.put, List.setIfInBounds_toArray, List.set_cons_zero, List.set_cons_succ]
  refine take_one 16 32 (v := ?_) rfl rfl (by kernel_rfl) (by kernel_rfl) (by kernel_rfl) (fun _ _ _ h => h) (Or.inl ⟨by rfl, ?_⟩) hHeld ?_
  rotate_left
  · intro w' hSw; (try dsimp only at hSw); have d0 := hSw.at 0 rfl; have d1 := hSw.at 1 rfl; go_simp; try with_reducible rfl
  try simp only [Act.put, List.setIfInBounds_toArray, List.set_cons_zero, List.set_cons_succ]
  refine wpAnyH_ready (rs := [17]) (by kernel_rfl) (by simp) ?_
  refine AllReadyH.cons (i := 17) rfl (fun K hK => ?_) AllReadyH.nil
  go_simp
  refine hK.out _ _ Q7 (fun hHeld2 => ?_)
  clear hK K hHeld
  have hHeld := hHeld2
  clear hHeld2
  try simp only [Act.put, List.setIfInBounds_toArray, List.set_cons_zero, List.set_cons_succ]
  refine wpAnyH_done (by kernel_rfl) ?_ _
  try rw [hV6]
  try rw [hV7]
  clear hHeld k0 f0 k1 f1 hV6 hV7 T5 T6 Q5 Q6 Q7 X5 X6 B5 B6 hp5 hp6 hlt5' hlt6 M5 M6
  have q0 := X7.at 1 rfl
  go_wp2_with fail
  refine (HK _).mono ?_
  rintro en w8 ⟨rfl, hb8⟩
  have T8 := T7.later hb8 hp7
  have X8 := X7.later hb8 hlt7
  have B8 : Below p w w8 := B7.trans (hb8.mono (Nat.le_of_lt hp7))
  have hp8 : p < w8.heap.size := Nat.lt_of_lt_of_le hp7 hb8.size
  have hlt8 : gp < w8.heap.size := Nat.lt_of_lt_of_le hlt7 hb8.size
  have M8 : w.heap.size ≤ w8.heap.size := Nat.le_trans M7 hb8.size
  clear T7 X7 B7 hb8 hp7 hlt7 M7 q0 HK
  obtain ⟨V9, hV9⟩ : ∃ V, w8.setCell ⟨p, 2, none⟩ (.int .i64 kv) = V := ⟨_, rfl⟩
  have T9 : Blk p [.int .i64 c, .int .i64 sv, .int .i64 kv, .int .i64 a0, .int .i64 b0, .int .i64 e0, .slice none 0 0, .slice none 0 0, .int .i64 key] V9 := by rw [← hV9]; exact T8.set 2 _
  have X9 : Blk gp [.string x0, .string x1, .string x2, .string x3, .string x4] V9 := by rw [← hV9]; exact X8.far hgp 2 _
  have B9 : Below p w V9 := by rw [← hV9]; exact B8.setCell (by dsimp only; omega) _
  have hp9 : p < V9.heap.size := by rw [← hV9]; simpa using hp8
  have hlt9 : gp < V9.heap.size := by rw [← hV9]; simpa using hlt8
  have M9 : w.heap.size ≤ V9.heap.size := by rw [← hV9]; simpa using M8
  have k2 := T8.at 2 rfl
  have f2 := T8.fz 2 rfl
  have q0 := X9.at 2 rfl
  go_wp2_with fail
  try rw [hV9]
  refine (HR _).mono ?_
  clear k2 f2 q0 hV9 T8 X8 B8 hp8 hlt8 M8
  rintro en w10 ⟨rfl, hb10⟩
  have T10 := T9.later hb10 hp9
  have X10 := X9.later hb10 hlt9
  have B10 : Below p w w10 := B9.trans (hb10.mono (Nat.le_of_lt hp9))
  have hp10 : p < w10.heap.size := Nat.lt_of_lt_of_le hp9 hb10.size
  have hlt10 : gp < w10.heap.size := Nat.lt_of_lt_of_le hlt9 hb10.size
  have M10 : w.heap.size ≤ w10.heap.size := Nat.le_trans M9 hb10.size
  clear T9 X9 B9 hb10 hp9 hlt9 M9 HR
  obtain ⟨V11, hV11⟩ : ∃ V, (((w10).setCell ⟨p, 3, none⟩ (.int .i64 ra)).setCell ⟨p, 4, none⟩ (.int .i64 rb)).setCell ⟨p, 5, none⟩ (.int .i64 rc) = V := ⟨_, rfl⟩
  have T11 : Blk p [.int .i64 c, .int .i64 sv, .int .i64 kv, .int .i64 ra, .int .i64 rb, .int .i64 rc, .slice none 0 0, .slice none 0 0, .int .i64 key] V11 := by rw [← hV11]; exact ((T10.set 3 _).set 4 _).set 5 _
  have X11 : Blk gp [.string x0, .string x1, .string x2, .string x3, .string x4] V11 := by rw [← hV11]; exact ((X10.far hgp 3 _).far hgp 4 _).far hgp 5 _
  have B11 : Below p w V11 := by rw [← hV11]; exact (((B10.setCell (by dsimp only; omega) _).setCell (by dsimp only; omega) _).setCell (by dsimp only; omega) _)
  have hp11 : p < V11.heap.size := by rw [← hV11]; simpa using hp10
  have hlt11 : gp < V11.heap.size := by rw [← hV11]; simpa using hlt10
  have M11 : w.heap.size ≤ V11.heap.size := by rw [← hV11]; simpa using M10
  have k3 := T10.at 3 rfl
  have f3 := T10.fz 3 rfl
  have k4 := T10.at 4 rfl
  have f4 := T10.fz 4 rfl
  have k5 := T10.at 5 rfl
  have f5 := T10.fz 5 rfl
  have q0 := X11.at 3 rfl
  go_wp2_with fail
  try rw [hV11]
  refine (H3 _).mono ?_
  clear k3 f3 k4 f4 k5 f5 q0 hV11 T10 X10 B10 hp10 hlt10 M10
  rintro en w12 ⟨u, rfl, ou, hb12⟩
  obtain ⟨ua, uc, rfl, _, _⟩ := own_row (f := Value.int .i64) ou
  have iu := own_in ou
  have T12 := T11.later hb12 hp11
  have X12 := X11.later hb12 hlt11
  have B12 : Below p w w12 := B11.trans (hb12.mono (Nat.le_of_lt hp11))
  have hp12 : p < w12.heap.size := Nat.lt_of_lt_of_le hp11 hb12.size
  have hlt12 : gp < w12.heap.size := Nat.lt_of_lt_of_le hlt11 hb12.size
  have M12 : w.heap.size ≤ w12.heap.size := Nat.le_trans M11 hb12.size
  have ou' := ownsRow_le ou M11
  have nu : ∀ k, (.slice ua PL.length uc : Value).ownBlock = some k → k ≠ p := fun k h => by have := (iu k h).1; omega
  have lu : ∀ k, (.slice ua PL.length uc : Value).ownBlock = some k → k < w12.heap.size := fun k h => (iu k h).2
  clear T11 X11 B11 hb12 hp11 hlt11 M11 H3 ou iu
  obtain ⟨V13, hV13⟩ : ∃ V, w12.setCell ⟨p, 6, none⟩ (.slice ua PL.length uc) = V := ⟨_, rfl⟩
  have T13 : Blk p [.int .i64 c, .int .i64 sv, .int .i64 kv, .int .i64 ra, .int .i64 rb, .int .i64 rc, .slice ua PL.length uc, .slice none 0 0, .int .i64 key] V13 := by rw [← hV13]; exact T12.set 6 _
  have X13 : Blk gp [.string x0, .string x1, .string x2, .string x3, .string x4] V13 := by rw [← hV13]; exact X12.far hgp 6 _
  have B13 : Below p w V13 := by rw [← hV13]; exact B12.setCell (by dsimp only; omega) _
  have hp13 : p < V13.heap.size := by rw [← hV13]; simpa using hp12
  have M13 : w.heap.size ≤ V13.heap.size := by rw [← hV13]; simpa using M12
  have O13 : V13.ownsRow w.heap.size 3 1 (.slice ua PL.length uc) PL.length (intV PL) := by rw [← hV13]; exact own_set ou' p 6 _ nu
  have l13 : ∀ k, (.slice ua PL.length uc : Value).ownBlock = some k → k < V13.heap.size := by rw [← hV13]; simpa using lu
  have k6 := T12.at 6 rfl
  have f6 := T12.fz 6 rfl
  have q0 := X13.at 4 rfl
  clear lu M12
  go_wp2_with fail
  try rw [hV13]
  refine (H4 _).mono ?_
  clear k6 f6 q0 hV13 T12 X12 B12 hp12 hlt12 ou'
  rintro en w14 ⟨u, rfl, ov, hb14⟩
  obtain ⟨va, vc, rfl, _, _⟩ := own_row (f := Value.int .i64) ov
  have iv := own_in ov
  have T14 := T13.later hb14 hp13
  have O14 := own_later O13 hb14
  have B14 : Below p w w14 := B13.trans (hb14.mono (Nat.le_of_lt hp13))
  have ov' := ownsRow_le ov M13
  have nv : ∀ k, (.slice va VL.length vc : Value).ownBlock = some k → k ≠ p := fun k h => by have := (iv k h).1; omega
  have AP : Apart (.slice ua PL.length uc) (.slice va VL.length vc) := apart_of l13 (fun k h => (iv k h).1)
  have F := show Hid _ from (show Blk p [.int .i64 c, .int .i64 sv, .int .i64 kv, .int .i64 ra, .int .i64 rb, .int .i64 rc, .slice ua PL.length uc, .slice va VL.length vc, .int .i64 key] (w14.setCell ⟨p, 7, none⟩ (.slice va VL.length vc)) ∧ (w14.setCell ⟨p, 7, none⟩ (.slice va VL.length vc)).ownsRow w.heap.size 3 1 (.slice ua PL.length uc) PL.length (intV PL) ∧ (w14.setCell ⟨p, 7, none⟩ (.slice va VL.length vc)).ownsRow w.heap.size 3 1 (.slice va VL.length vc) VL.length (intV VL) ∧ Apart (.slice ua PL.length uc) (.slice va VL.length vc) ∧ Below p w (w14.setCell ⟨p, 7, none⟩ (.slice va VL.length vc)) from
    ⟨T14.set 7 _, own_set O14 p 7 _ nu, own_set ov' p 7 _ nv, AP, B14.setCell (by dsimp only; omega) _⟩)
  have k7 := T14.at 7 rfl
  have f7 := T14.fz 7 rfl
  clear T13 X13 B13 hp13 M13 O13 l13 hb14 T14 O14 B14 ov' nv AP iv ov nu H4
  go_wp2
  first | exact ⟨_, results_none rfl _ _ _, ua, uc, va, vc, rfl, F.out⟩ | exact ⟨rfl, _, results_none rfl _ _ _, ua, uc, va, vc, rfl, F.out⟩

end Go.Proofs.Ytbkemhclncmicaa

set_option linter.unusedVariables false
namespace Go.Proofs.Ytbkemhclncmicaa
open Go Go.RowKit Go.Joins Own Var Term

/-- What a text is read as: a ticket. -/
def rtX (s : ByteArray) (key : Int) (i : Nat) : ByteArray := (partsR (openR s key).1).1.getD i ⟨#[]⟩
def rtF (s : ByteArray) (key : Int) : List Int :=
  [(numsR (rtX s key 0)).1.getD 0 0, (numsR (rtX s key 0)).1.getD 1 0, (keyR (rtX s key 1)).1, rdA (numsR (rtX s key 2)).1, rdB (numsR (rtX s key 2)).1, rdC (numsR (rtX s key 2)).1]
def rtK (s : ByteArray) (key : Int) : Bool :=
  decide ((partsR (openR s key).1).1.length = 5) && ((numsR (rtX s key 0)).2 && ((keyR (rtX s key 1)).2 && (rdK (numsR (rtX s key 2)).1 && ((numsR (rtX s key 3)).2 && ((numsR (rtX s key 4)).2 && (decide ((numsR (rtX s key 0)).1.length = 2) &&
    tOk ((rtF s key).getD 0 0) ((rtF s key).getD 1 0) ((rtF s key).getD 2 0) ((rtF s key).getD 3 0) ((rtF s key).getD 4 0) ((rtF s key).getD 5 0) (numsR (rtX s key 3)).1 (numsR (rtX s key 4)).1))))))
def rtN (s : ByteArray) (key : Int) (i : Nat) : Int := if rtK s key then (rtF s key).getD i 0 else 0
def rtP (s : ByteArray) (key : Int) : List Int := if rtK s key then (numsR (rtX s key 3)).1 else []
def rtV (s : ByteArray) (key : Int) : List Int := if rtK s key then (numsR (rtX s key 4)).1 else []
theorem rtN_no {s : ByteArray} {key : Int} (h : rtK s key = false) (i : Nat) : rtN s key i = 0 := by unfold rtN; rw [h]; rfl
theorem rtP_no {s : ByteArray} {key : Int} (h : rtK s key = false) : rtP s key = [] := by unfold rtP; rw [h]; rfl
theorem rtV_no {s : ByteArray} {key : Int} (h : rtK s key = false) : rtV s key = [] := by unfold rtV; rw [h]; rfl
theorem rtK_not {s : ByteArray} {key : Int} (h : (partsR (openR s key).1).1.length ≠ 5) : rtK s key = false := by
  unfold rtK
  rw [decide_eq_false h]
  rfl
theorem rtX_at {s : ByteArray} {key : Int} {x0 x1 x2 x3 x4 : ByteArray} (h : (partsR (openR s key).1).1 = [x0, x1, x2, x3, x4]) : rtX s key 0 = x0 ∧ rtX s key 1 = x1 ∧ rtX s key 2 = x2 ∧ rtX s key 3 = x3 ∧ rtX s key 4 = x4 := by
  unfold rtX
  rw [h]
  exact ⟨rfl, rfl, rfl, rfl, rfl⟩
theorem rtK_five {s : ByteArray} {key : Int} {x0 x1 x2 x3 x4 : ByteArray} (h : (partsR (openR s key).1).1 = [x0, x1, x2, x3, x4]) :
    rtK s key = ((numsR x0).2 && ((keyR x1).2 && (rdK (numsR x2).1 && ((numsR x3).2 && ((numsR x4).2 && (decide ((numsR x0).1.length = 2) &&
      tOk ((numsR x0).1.getD 0 0) ((numsR x0).1.getD 1 0) (keyR x1).1 (rdA (numsR x2).1) (rdB (numsR x2).1) (rdC (numsR x2).1) (numsR x3).1 (numsR x4).1)))))) := by
  obtain ⟨e0, e1, e2, e3, e4⟩ := rtX_at h
  unfold rtK rtF
  rw [e0, e1, e2, e3, e4, h]
  rfl
theorem rt_five {s : ByteArray} {key : Int} {x0 x1 x2 x3 x4 : ByteArray} {c sv : Int} (h : (partsR (openR s key).1).1 = [x0, x1, x2, x3, x4]) (hw : (numsR x0).1 = [c, sv]) (hk : rtK s key = true) :
    rtN s key 0 = c ∧ rtN s key 1 = sv ∧ rtN s key 2 = (keyR x1).1 ∧ rtN s key 3 = rdA (numsR x2).1 ∧ rtN s key 4 = rdB (numsR x2).1 ∧ rtN s key 5 = rdC (numsR x2).1 ∧ rtP s key = (numsR x3).1 ∧ rtV s key = (numsR x4).1 := by
  obtain ⟨e0, e1, e2, e3, e4⟩ := rtX_at h
  unfold rtN rtF rtP rtV
  rw [hk, e0, e1, e2, e3, e4, hw]
  exact ⟨rfl, rfl, rfl, rfl, rfl, rfl, rfl, rfl⟩
theorem told_ticket (s : ByteArray) (key : Int) (x0 x1 x2 x3 x4 : ByteArray) (hx : just (⟨#[]⟩ : ByteArray) (partsR (openR s key).1).1 5 = [x0, x1, x2, x3, x4]) (c sv : Int) (hw : just 0 (numsR x0).1 2 = [c, sv]) :
    toldB (shT c sv (keyR x1).1 (rdA (numsR x2).1) (rdB (numsR x2).1) (rdC (numsR x2).1) (numsR x3).1 (numsR x4).1 key) s = rtK s key ∧
    (rtK s key = true → rtN s key 0 = c ∧ rtN s key 1 = sv ∧ rtN s key 2 = (keyR x1).1 ∧ rtN s key 3 = rdA (numsR x2).1 ∧ rtN s key 4 = rdB (numsR x2).1 ∧ rtN s key 5 = rdC (numsR x2).1 ∧ rtP s key = (numsR x3).1 ∧ rtV s key = (numsR x4).1) := by
  have HI := tick_iff s key x0 x1 x2 x3 x4 c sv (by unfold just at hx; exact hx.symm) (by unfold just at hw; exact hw.symm)
  generalize hX : shT c sv (keyR x1).1 (rdA (numsR x2).1) (rdB (numsR x2).1) (rdC (numsR x2).1) (numsR x3).1 (numsR x4).1 key = X at HI ⊢
  have HT : toldB X s = true ↔ (X.size ≠ 0 ∧ X = s) := by unfold toldB; simp
  by_cases h5 : (partsR (openR s key).1).1.length = 5
  · have hL : (partsR (openR s key).1).1 = [x0, x1, x2, x3, x4] := by unfold just at hx; rw [if_pos h5] at hx; exact hx
    by_cases h2 : (numsR x0).1.length = 2
    · have hN : (numsR x0).1 = [c, sv] := by unfold just at hw; rw [if_pos h2] at hw; exact hw
      refine ⟨?_, rt_five hL hN⟩
      rw [Bool.eq_iff_iff, HT, HI, rtK_five hL, hN]
      simp only [Bool.and_eq_true, decide_eq_true_eq]
      exact ⟨fun h => ⟨h.2.1, h.2.2.1, h.2.2.2.1, h.2.2.2.2.1, h.2.2.2.2.2.1, rfl, h.2.2.2.2.2.2.2⟩, fun h => ⟨h5, h.1, h.2.1, h.2.2.1, h.2.2.2.1, h.2.2.2.2.1, rfl, h.2.2.2.2.2.2⟩⟩
    · have hk : rtK s key = false := by rw [rtK_five hL, decide_eq_false h2]; simp
      refine ⟨?_, fun h => by rw [hk] at h; cases h⟩
      rw [hk, Bool.eq_false_iff]
      intro h
      exact h2 (HI.1 (HT.1 h)).2.2.2.2.2.2.1
  · have hk := rtK_not h5
    refine ⟨?_, fun h => by rw [hk] at h; cases h⟩
    rw [hk, Bool.eq_false_iff]
    intro h
    exact h5 (HI.1 (HT.1 h)).1

theorem own_fill8 {W : World} {base n q : Nat} {e : TypeId} {v : Value} {xs : List Value} (h : W.ownsRow base e 1 v n xs) (hn : ∀ k, v.ownBlock = some k → k ≠ q) (v0 v1 v2 v3 v4 v5 v6 v7 : Value) : (((((((((W).setCell ⟨q, 0, none⟩ (v0)).setCell ⟨q, 1, none⟩ (v1)).setCell ⟨q, 2, none⟩ (v2)).setCell ⟨q, 3, none⟩ (v3)).setCell ⟨q, 4, none⟩ (v4)).setCell ⟨q, 5, none⟩ (v5)).setCell ⟨q, 6, none⟩ (v6)).setCell ⟨q, 7, none⟩ (v7)).ownsRow base e 1 v n xs := (own_set (own_set (own_set (own_set (own_set (own_set (own_set (own_set h q 0 v0 hn) q 1 v1 hn) q 2 v2 hn) q 3 v3 hn) q 4 v4 hn) q 5 v5 hn) q 6 v6 hn) q 7 v7 hn)

set_option maxRecDepth 100000 in
set_option maxHeartbeats 12800000 in
theorem implReadT_is (s : ByteArray) (key : Int) (w : World) (hs : s.size ≤ 1048576) : Calls Try.prog 15 #[.string s, .int .i64 key] w fun en w' => ∃ (ua : Option Addr) (uc : Nat) (va : Option Addr) (vc : Nat), en = .returned (.tuple #[.agg #[.int .i64 (rtN s key 0), .int .i64 (rtN s key 1), .int .i64 (rtN s key 2), .int .i64 (rtN s key 3), .int .i64 (rtN s key 4), .int .i64 (rtN s key 5), .slice ua (rtP s key).length uc, .slice va (rtV s key).length vc], .bool (rtK s key)]) ∧
      w'.ownsRow w.heap.size 3 1 (.slice ua (rtP s key).length uc) (rtP s key).length (intV (rtP s key)) ∧ w'.ownsRow w.heap.size 3 1 (.slice va (rtV s key).length vc) (rtV s key).length (intV (rtV s key)) ∧
      Apart (.slice ua (rtP s key).length uc) (.slice va (rtV s key).length vc) ∧ Below w.heap.size w w' := by
  obtain ⟨x0, x1, x2, x3, x4, hx⟩ : ∃ x0 x1 x2 x3 x4, just (⟨#[]⟩ : ByteArray) (partsR (openR s key).1).1 5 = [x0, x1, x2, x3, x4] := by
    have hl := just_len (⟨#[]⟩ : ByteArray) (partsR (openR s key).1).1 5
    match just (⟨#[]⟩ : ByteArray) (partsR (openR s key).1).1 5, hl with
    | [x0, x1, x2, x3, x4], _ => exact ⟨x0, x1, x2, x3, x4, rfl⟩
  obtain ⟨c, sv, hw⟩ : ∃ c sv, just 0 (numsR x0).1 2 = [c, sv] := by
    have hl := just_len 0 (numsR x0).1 2
    match just 0 (numsR x0).1 2, hl with
    | [c, sv], _ => exact ⟨c, sv, rfl⟩
  have hsv : i64 sv := just_i64 x0 2 sv (by rw [hw]; simp)
  have HTD := told_ticket s key x0 x1 x2 x3 x4 hx c sv hw
  have lP : (numsR x3).1.length ≤ 1048576 := Nat.le_trans (numsR_len x3) (by omega)
  have lV : (numsR x4).1.length ≤ 1048576 := Nat.le_trans (numsR_len x4) (by omega)
  obtain ⟨W2, hW2⟩ : ∃ W2, (w.alloc (.cells #[.int .i64 0, .int .i64 0, .int .i64 0, .int .i64 0, .int .i64 0, .int .i64 0, .slice none 0 0, .slice none 0 0] 31)).alloc (.cells #[.int .i64 0, .int .i64 0, .int .i64 0, .int .i64 0, .int .i64 0, .int .i64 0, .slice none 0 0, .slice none 0 0, .int .i64 key] 71) = W2 := ⟨_, rfl⟩
  have B2 : Below w.heap.size w W2 := by rw [← hW2]; exact ((Below.refl _ _).alloc (Nat.le_refl _) _).alloc (by simp) _
  have R2 : Blk w.heap.size [.int .i64 0, .int .i64 0, .int .i64 0, .int .i64 0, .int .i64 0, .int .i64 0, .slice none 0 0, .slice none 0 0] W2 := by rw [← hW2]; exact (Blk.new w #[.int .i64 0, .int .i64 0, .int .i64 0, .int .i64 0, .int .i64 0, .int .i64 0, .slice none 0 0, .slice none 0 0] _).alloc (by simp) _
  have T2 : Blk (w.heap.size + 1) [.int .i64 0, .int .i64 0, .int .i64 0, .int .i64 0, .int .i64 0, .int .i64 0, .slice none 0 0, .slice none 0 0, .int .i64 key] W2 := by rw [← hW2]; have := Blk.new (w.alloc (.cells #[.int .i64 0, .int .i64 0, .int .i64 0, .int .i64 0, .int .i64 0, .int .i64 0, .slice none 0 0, .slice none 0 0] 31)) #[.int .i64 0, .int .i64 0, .int .i64 0, .int .i64 0, .int .i64 0, .int .i64 0, .slice none 0 0, .slice none 0 0, .int .i64 key] 71; simpa using this
  have Z2 : w.heap.size + 2 ≤ W2.heap.size := by rw [← hW2]; simp
  have HF := fillT_is (w.heap.size + 1) 0 0 0 0 0 0 key s W2 T2 (by omega) hs x0 x1 x2 x3 x4 hx c sv hw
  clear hx hw T2
  generalize (keyR x1).1 = kv at HF HTD
  generalize rdA (numsR x2).1 = ra at HF HTD
  generalize rdB (numsR x2).1 = rb at HF HTD
  generalize rdC (numsR x2).1 = rc at HF HTD
  generalize (numsR x3).1 = PL at HF HTD lP
  generalize (numsR x4).1 = VL at HF HTD lV
  have NR : ∀ (w : World) (ua : Option Addr) (uc : Nat) (va : Option Addr) (vc : Nat), w.ownsRow W2.heap.size 3 1 (.slice ua PL.length uc) PL.length (intV PL) → w.ownsRow W2.heap.size 3 1 (.slice va VL.length vc) VL.length (intV VL) → Apart (.slice ua PL.length uc) (.slice va VL.length vc) →
      ∃ (qa : Option Addr) (qc : Nat) (ta : Option Addr) (tc : Nat), (∀ w, Calls Try.prog 48 #[.agg #[.int .i64 c, .int .i64 sv, .int .i64 kv, .int .i64 ra, .int .i64 rb, .int .i64 rc, .slice ua PL.length uc, .slice va VL.length vc, .int .i64 key], .string (shT c sv kv ra rb rc PL VL key), .string s] w fun en w' => en = .returned (.tuple #[.agg #[.int .i64 (rtN s key 0), .int .i64 (rtN s key 1), .int .i64 (rtN s key 2), .int .i64 (rtN s key 3), .int .i64 (rtN s key 4), .int .i64 (rtN s key 5), .slice qa (rtP s key).length qc, .slice ta (rtV s key).length tc], .bool (rtK s key)]) ∧ Below w.heap.size w w') ∧
        w.ownsRow W2.heap.size 3 1 (.slice qa (rtP s key).length qc) (rtP s key).length (intV (rtP s key)) ∧ w.ownsRow W2.heap.size 3 1 (.slice ta (rtV s key).length tc) (rtV s key).length (intV (rtV s key)) ∧ Apart (.slice qa (rtP s key).length qc) (.slice ta (rtV s key).length tc) := by
    intro w ua uc va vc ou ov ap
    have TT := fun w => toldT_is c sv kv ra rb rc ua PL.length uc va VL.length vc key (shT c sv kv ra rb rc PL VL key) s w
    rw [HTD.1] at TT
    cases hk : rtK s key with
    | true =>
      obtain ⟨e0, e1, e2, e3, e4, e5, eP, eV⟩ := HTD.2 hk
      rw [hk] at TT
      rw [e0, e1, e2, e3, e4, e5, eP, eV]
      exact ⟨ua, uc, va, vc, TT, ou, ov, ap⟩
    | false =>
      rw [hk] at TT
      rw [rtN_no hk, rtN_no hk, rtN_no hk, rtN_no hk, rtN_no hk, rtN_no hk, rtP_no hk, rtV_no hk]
      exact ⟨none, 0, none, 0, TT, World.ownsRow_nil _ _ _ _, World.ownsRow_nil _ _ _ _, apart_nil _⟩
  clear HTD
  generalize rtN s key 0 = y0 at NR ⊢
  generalize rtN s key 1 = y1 at NR ⊢
  generalize rtN s key 2 = y2 at NR ⊢
  generalize rtN s key 3 = y3 at NR ⊢
  generalize rtN s key 4 = y4 at NR ⊢
  generalize rtN s key 5 = y5 at NR ⊢
  generalize rtK s key = kk at NR ⊢
  generalize rtP s key = QP at NR ⊢
  generalize rtV s key = QV at NR ⊢
  have ZH : Hid (w.heap.size + 2 ≤ W2.heap.size) := Z2
  clear Z2
  go_enter Try.func15, Try.ntmps15
  go_wp2_with fail
  try rw [hW2]
  refine HF.mono ?_
  clear hW2 HF
  rintro en w3 ⟨ua, uc, va, vc, rfl, TC, ou, ov, ap, hb3⟩
  obtain ⟨qa, qc, ta, tc, HT, OU, OV, AP⟩ := NR w3 ua uc va vc ou ov ap
  have OX : RowAt (Value.int .i64) w3.drew ua PL := own_rowAt (f := Value.int .i64) ou
  have OY : RowAt (Value.int .i64) w3.drew va VL := own_rowAt (f := Value.int .i64) ov
  have HS := fun w hx hy => showT_is c sv kv ra rb rc ua PL uc va VL vc key w hsv hx hy lP lV
  generalize shT c sv kv ra rb rc PL VL key = X at HT HS
  have RR := R2.lower hb3 (by omega)
  have ZC : Hid (w.heap.size + 2 ≤ w3.heap.size) := Nat.le_trans ZH.out hb3.size
  have BC := B2.trans (hb3.mono (by omega))
  have BZ : w.heap.size + 2 ≤ W2.heap.size := ZH.out
  clear R2 ZH B2 hb3 NR ou ov ap
  go_wp2_with fail
  have TCD := TC.drew
  have BCD := BC.drew
  have RRD := RR.drew
  have ZCD : Hid (w.heap.size + 2 ≤ w3.drew.heap.size) := ZC
  have OUD : w3.drew.ownsRow _ _ _ _ _ _ := OU
  have OVD : w3.drew.ownsRow _ _ _ _ _ _ := OV
  clear TC BC ZC RR OU OV
  have TC := TCD
  have BC := BCD
  have RR := RRD
  have ZC := ZCD
  have OU := OUD
  have OV := OVD
  clear TCD BCD RRD ZCD OUD OVD
  refine wp_region_held_drew (S := (fun Vw => Blk (w.heap.size + 1) [.int .i64 c, .int .i64 sv, .int .i64 kv, .int .i64 ra, .int .i64 rb, .int .i64 rc, .slice ua PL.length uc, .slice va VL.length vc, .int .i64 key] Vw)) (by kernel_rfl) TC (fun hHeld => ?_)
  refine take_one 0 12 (v := ?_) rfl rfl (by kernel_rfl) (by kernel_rfl) (by kernel_rfl) (fun _ _ _ h => h) (Or.inl ⟨by rfl, ?_⟩) hHeld ?_
  rotate_left
  · intro w' hSw; (try dsimp only at hSw); have d0 := hSw.at 0 rfl; have d1 := hSw.at 1 rfl; have d2 := hSw.at 2 rfl; have d3 := hSw.at 3 rfl; have d4 := hSw.at 4 rfl; have d5 := hSw.at 5 rfl; have d6 := hSw.at 6 rfl; have d7 := hSw.at 7 rfl; have d8 := hSw.at 8 rfl; go_simp; try with_reducible rfl
  try simp only [Act.put, List.setIfInBounds_toArray, List.set_cons_zero, List.set_cons_succ]
  refine take_one 1 13 (v := ?_) rfl rfl (by kernel_rfl) (by kernel_rfl) (by kernel_rfl) (fun _ _ _ h => h) (Or.inl ⟨by rfl, ?_⟩) hHeld ?_
  rotate_left
  · intro w' hSw; (try dsimp only at hSw); have d0 := hSw.at 0 rfl; have d1 := hSw.at 1 rfl; have d2 := hSw.at 2 rfl; have d3 := hSw.at 3 rfl; have d4 := hSw.at 4 rfl; have d5 := hSw.at 5 rfl; have d6 := hSw.at 6 rfl; have d7 := hSw.at 7 rfl; have d8 := hSw.at 8 rfl; go_simp; try with_reducible rfl
  try simp only [Act.put, List.setIfInBounds_toArray, List.set_cons_zero, List.set_cons_succ]
  refine take_one 2 14 (v := ?_) rfl rfl (by kernel_rfl) (by kernel_rfl) (by kernel_rfl) (fun _ _ _ h => h) (Or.inl ⟨by rfl, ?_⟩) hHeld ?_
  rotate_left
  · intro w' hSw; (try dsimp only at hSw); have d0 := hSw.at 0 rfl; have d1 := hSw.at 1 rfl; have d2 := hSw.at 2 rfl; have d3 := hSw.at 3 rfl; have d4 := hSw.at 4 rfl; have d5 := hSw.at 5 rfl; have d6 := hSw.at 6 rfl; have d7 := hSw.at 7 rfl; have d8 := hSw.at 8 rfl; go_simp; try with_reducible rfl
  try simp only [Act.put, List.setIfInBounds_toArray, List.set_cons_zero, List.set_cons_succ]
  refine take_one 4 16 (v := ?_) rfl rfl (by kernel_rfl) (by kernel_rfl) (by kernel_rfl) (fun _ _ _ h => h) (Or.inl ⟨by rfl, ?_⟩) hHeld ?_
  rotate_left
  · intro w' hSw; (try dsimp only at hSw); have d0 := hSw.at 0 rfl; have d1 := hSw.at 1 rfl; have d2 := hSw.at 2 rfl; have d3 := hSw.at 3 rfl; have d4 := hSw.at 4 rfl; have d5 := hSw.at 5 rfl; have d6 := hSw.at 6 rfl; have d7 := hSw.at 7 rfl; have d8 := hSw.at 8 rfl; go_simp; try with_reducible rfl
  try simp only [Act.put, List.setIfInBounds_toArray, List.set_cons_zero, List.set_cons_succ]
  have HS1 := HS _ OX OY
  refine wpAnyH_ready (rs := [3]) (by kernel_rfl) (by simp) ?_
  refine AllReadyH.cons (i := 3) rfl (fun K hK => ?_) AllReadyH.nil
  go_simp
  refine (HS1).mono ?_
  rintro en v11 ⟨rfl, hv11⟩
  have TN := TC.later hv11 (by have := ZC.out; omega)
  have ZN : Hid (w.heap.size + 2 ≤ v11.heap.size) := Nat.le_trans ZC.out hv11.size
  have BN := BC.trans (hv11.mono BC.size)
  have RRN := RR.lower hv11 (by have := ZC.out; omega)
  have OUN := own_later OU hv11
  have OVN := own_later OV hv11
  clear TC ZC BC
  have TC := TN
  have ZC := ZN
  have BC := BN
  clear TN ZN BN
  clear RR
  have RR := RRN
  clear RRN
  clear OU
  have OU := OUN
  clear OUN
  clear OV
  have OV := OVN
  clear OVN
  clear hv11
  go_wp2_with fail
  refine hK.out _ _ TC (fun hHeld2 => ?_)
  clear hK K hHeld
  have hHeld := hHeld2
  clear hHeld2
  try simp only [Act.put, List.setIfInBounds_toArray, List.set_cons_zero, List.set_cons_succ]
  clear HS1 HS
  refine wpAnyH_ready (rs := [5]) (by kernel_rfl) (by simp) ?_
  refine AllReadyH.cons (i := 5) rfl (fun K hK => ?_) AllReadyH.nil
  go_simp
  refine (HT _).mono ?_
  rintro en v12 ⟨rfl, hv12⟩
  have TN := TC.later hv12 (by have := ZC.out; omega)
  have ZN : Hid (w.heap.size + 2 ≤ v12.heap.size) := Nat.le_trans ZC.out hv12.size
  have BN := BC.trans (hv12.mono BC.size)
  have RRN := RR.lower hv12 (by have := ZC.out; omega)
  have OUN := own_later OU hv12
  have OVN := own_later OV hv12
  clear TC ZC BC
  have TC := TN
  have ZC := ZN
  have BC := BN
  clear TN ZN BN
  clear RR
  have RR := RRN
  clear RRN
  clear OU
  have OU := OUN
  clear OUN
  clear OV
  have OV := OVN
  clear OVN
  clear hv12
  go_wp2_with fail
  refine hK.out _ _ TC (fun hHeld2 => ?_)
  clear hK K hHeld
  have hHeld := hHeld2
  clear hHeld2
  try simp only [Act.put, List.setIfInBounds_toArray, List.set_cons_zero, List.set_cons_succ]
  refine take_one 6 18 (v := ?_) rfl rfl (by kernel_rfl) (by kernel_rfl) (by kernel_rfl) (fun _ _ _ h => h) (Or.inl ⟨by rfl, ?_⟩) hHeld ?_
  rotate_left
  · intro w' hSw; (try dsimp only at hSw); have d0 := hSw.at 0 rfl; have d1 := hSw.at 1 rfl; have d2 := hSw.at 2 rfl; have d3 := hSw.at 3 rfl; have d4 := hSw.at 4 rfl; have d5 := hSw.at 5 rfl; have d6 := hSw.at 6 rfl; have d7 := hSw.at 7 rfl; have d8 := hSw.at 8 rfl; go_simp; try with_reducible rfl
  try simp only [Act.put, List.setIfInBounds_toArray, List.set_cons_zero, List.set_cons_succ]
  refine take_one 7 19 (v := ?_) rfl rfl (by kernel_rfl) (by kernel_rfl) (by kernel_rfl) (fun _ _ _ h => h) (Or.inl ⟨by rfl, ?_⟩) hHeld ?_
  rotate_left
  · intro w' hSw; (try dsimp only at hSw); have d0 := hSw.at 0 rfl; have d1 := hSw.at 1 rfl; have d2 := hSw.at 2 rfl; have d3 := hSw.at 3 rfl; have d4 := hSw.at 4 rfl; have d5 := hSw.at 5 rfl; have d6 := hSw.at 6 rfl; have d7 := hSw.at 7 rfl; have d8 := hSw.at 8 rfl; go_simp; try with_reducible rfl
  try simp only [Act.put, List.setIfInBounds_toArray, List.set_cons_zero, List.set_cons_succ]
  have k0 := RR.at 0 rfl
  have f0 := RR.fz 0 rfl
  have k1 := RR.at 1 rfl
  have f1 := RR.fz 1 rfl
  have k2 := RR.at 2 rfl
  have f2 := RR.fz 2 rfl
  have k3 := RR.at 3 rfl
  have f3 := RR.fz 3 rfl
  have k4 := RR.at 4 rfl
  have f4 := RR.fz 4 rfl
  have k5 := RR.at 5 rfl
  have f5 := RR.fz 5 rfl
  have k6 := RR.at 6 rfl
  have f6 := RR.fz 6 rfl
  have k7 := RR.at 7 rfl
  have f7 := RR.fz 7 rfl
  have F := show Hid _ from RR.fill8 BC (Nat.le_refl _) (.int .i64 y0) (.int .i64 y1) (.int .i64 y2) (.int .i64 y3) (.int .i64 y4) (.int .i64 y5) (.slice qa QP.length qc) (.slice ta QV.length tc)
  have FU := show Hid _ from own_fill8 (q := w.heap.size) OU (fun k h => by have := (own_in OU k h).1; omega) (.int .i64 y0) (.int .i64 y1) (.int .i64 y2) (.int .i64 y3) (.int .i64 y4) (.int .i64 y5) (.slice qa QP.length qc) (.slice ta QV.length tc)
  have FV := show Hid _ from own_fill8 (q := w.heap.size) OV (fun k h => by have := (own_in OV k h).1; omega) (.int .i64 y0) (.int .i64 y1) (.int .i64 y2) (.int .i64 y3) (.int .i64 y4) (.int .i64 y5) (.slice qa QP.length qc) (.slice ta QV.length tc)
  refine wpAnyH_ready (rs := [8]) (by kernel_rfl) (by simp) ?_
  refine AllReadyH.cons (i := 8) rfl (fun K hK => ?_) AllReadyH.nil
  go_simp
  refine hK.out _ _ ((((((((TC.far (by omega) 0 _).far (by omega) 1 _).far (by omega) 2 _).far (by omega) 3 _).far (by omega) 4 _).far (by omega) 5 _).far (by omega) 6 _).far (by omega) 7 _) (fun hHeld2 => ?_)
  clear hK K hHeld
  have hHeld := hHeld2
  clear hHeld2
  try simp only [Act.put, List.setIfInBounds_toArray, List.set_cons_zero, List.set_cons_succ]
  refine take_one 9 5 (v := ?_) rfl rfl (by kernel_rfl) (by kernel_rfl) (by kernel_rfl) (fun _ _ _ h => h) (Or.inl ⟨by rfl, ?_⟩) hHeld ?_
  rotate_left
  · intro w' hSw; (try dsimp only at hSw); have d0 := hSw.at 0 rfl; have d1 := hSw.at 1 rfl; have d2 := hSw.at 2 rfl; have d3 := hSw.at 3 rfl; have d4 := hSw.at 4 rfl; have d5 := hSw.at 5 rfl; have d6 := hSw.at 6 rfl; have d7 := hSw.at 7 rfl; have d8 := hSw.at 8 rfl; go_simp; try with_reducible rfl
  try simp only [Act.put, List.setIfInBounds_toArray, List.set_cons_zero, List.set_cons_succ]
  refine wpAnyH_done (by kernel_rfl) ?_ _
  clear hHeld k0 f0 k1 f1 k2 f2 k3 f3 k4 f4 k5 f5 k6 f6 k7 f7 TC RR BC OU OV
  go_wp2
  have G := F.out
  refine bodyPost_ret (res_tb rfl _ _ w.heap.size _ _ _ _ _ _ _ _ (.bool kk) rfl rfl (G.1.at 0 rfl) (G.1.at 1 rfl) (G.1.at 2 rfl) (G.1.at 3 rfl) (G.1.at 4 rfl) (G.1.at 5 rfl) (G.1.at 6 rfl) (G.1.at 7 rfl)) rfl ⟨qa, qc, ta, tc, rfl, ?_, ?_, AP, G.2⟩
  · exact ownsRow_le FU.out (by omega)
  · exact ownsRow_le FV.out (by omega)

end Go.Proofs.Ytbkemhclncmicaa

set_option linter.unusedVariables false
namespace Go.Proofs.Ytbkemhclncmicaa
open Go Go.RowKit Own Var Term

theorem Blk.turn {g : Nat} {vs : List Value} {w w' : World} {o1 o2 : Option Nat} (h : Blk g vs w) (T : Turn2 w w' o1 o2) (hg : g < w.heap.size) (h1 : o1 ≠ some g) (h2 : o2 ≠ some g) : Blk g vs w' := by
  have hb := T.2.2.2.2 g hg (fun e => h1 e.symm) (fun e => h2 e.symm)
  exact ⟨fun i v e => ⟨(World.cell?_of_block (w := w) (a := ⟨g, i, none⟩) hb).trans (h.out i v e).1, (World.frozen?_of_block (w := w) (a := ⟨g, i, none⟩) hb).trans (h.out i v e).2⟩⟩
set_option maxRecDepth 100000 in
set_option maxHeartbeats 1600000 in
theorem markTicket_is (B : Nat) (y0 y1 y2 y3 y4 y5 : Int) (a b : Option Addr) (n m ca cb : Nat) (vs us : List Value) (w : World) (hn : n ≤ 1048576) (hm : m ≤ 1048576) (ho : w.ownsRow B 3 1 (.slice a n ca) n vs) (hp : w.ownsRow B 3 1 (.slice b m cb) m us) (ap : Apart (.slice a n ca) (.slice b m cb)) :
    Calls Try.prog 16 #[.agg #[.int .i64 y0, .int .i64 y1, .int .i64 y2, .int .i64 y3, .int .i64 y4, .int .i64 y5, .slice a n ca, .slice b m cb], .int .i64 1] w fun e w' => e = .returned (.int .i64 ((n : Int) + (m : Int) + 1)) ∧ w'.ownsRow B 3 1 (.slice a n ca) n (intV (miK 0 n)) ∧ w'.ownsRow B 3 1 (.slice b m cb) m (intV (miK n m)) ∧ Turn2 w w' (Value.slice a n ca).ownBlock (Value.slice b m cb).ownBlock := by
  obtain ⟨W1, hW1⟩ : ∃ W1, w.alloc (.cells #[.int .i64 y0, .int .i64 y1, .int .i64 y2, .int .i64 y3, .int .i64 y4, .int .i64 y5, .slice a n ca, .slice b m cb] 31) = W1 := ⟨_, rfl⟩
  have hb0 : Below w.heap.size w W1 := by rw [← hW1]; exact (Below.refl _ _).alloc (Nat.le_refl _) _
  have T1 : Blk w.heap.size [.int .i64 y0, .int .i64 y1, .int .i64 y2, .int .i64 y3, .int .i64 y4, .int .i64 y5, .slice a n ca, .slice b m cb] W1 := by rw [← hW1]; exact Blk.new _ _ _
  have hz : Hid (W1.heap.size = w.heap.size + 1) := by show W1.heap.size = w.heap.size + 1; rw [← hW1]; simp
  have c6 := T1.at 6 rfl
  have c7 := T1.at 7 rfl
  clear T1
  have H1 := markI_own B a n ca 0 vs W1 (by omega) hn (own_later ho hb0)
  rw [show (((0 : Nat) : Int) + 1) = 1 from rfl, show (((0 : Nat) : Int) + (n : Int) + 1) = (n : Int) + 1 by omega] at H1
  have hlt1 : ∀ k, (Value.slice a n ca).ownBlock = some k → k < w.heap.size := fun k hk => (ho.lt k hk).2
  have hlt2 : ∀ k, (Value.slice b m cb).ownBlock = some k → k < w.heap.size := fun k hk => (hp.lt k hk).2
  have NE1 : (Value.slice b m cb).ownBlock = none ∨ (Value.slice b m cb).ownBlock ≠ (Value.slice a n ca).ownBlock := by
    rcases hh : (Value.slice b m cb).ownBlock with _ | k
    · exact Or.inl rfl
    · right
      intro e
      exact ap k e.symm hh
  have NE2 : (Value.slice a n ca).ownBlock = none ∨ (Value.slice a n ca).ownBlock ≠ (Value.slice b m cb).ownBlock := by
    rcases hh : (Value.slice a n ca).ownBlock with _ | k
    · exact Or.inl rfl
    · right
      intro e
      exact ap k hh e.symm
  go_enter Try.func16, Try.ntmps16
  go_wp2_with fail
  try rw [hW1]
  refine H1.mono ?_
  clear hW1 H1
  rintro e w1 ⟨rfl, ho1, hg1⟩
  have hp1 : w1.ownsRow B 3 1 (.slice b m cb) m us := World.ownsRow.kept (own_later hp hb0) hg1 NE1
  have c7' : w1.cell? ⟨w.heap.size, 7, none⟩ = some (.slice b m cb) := by
    rw [World.cell?_of_block (w := W1) (a := ⟨w.heap.size, 7, none⟩) (hg1.block w.heap.size (by have := hz.out; omega) (fun e => by have := hlt1 _ e.symm; omega))]; exact c7
  have H2 := markI_own B b m cb n us w1 hn hm hp1
  go_wp2_with fail
  refine H2.mono ?_
  rintro e w2 ⟨rfl, hp2, hg2⟩
  have ho2 := World.ownsRow.kept ho1 hg2 NE2
  have T : Turn2 w w2 (Value.slice a n ca).ownBlock (Value.slice b m cb).ownBlock :=
    ⟨hg2.os.trans (hg1.os.trans hb0.os), hg2.tape.trans (hg1.tape.trans hb0.tape), hg2.output.trans (hg1.output.trans hb0.output), Nat.le_trans hb0.size (Nat.le_trans hg1.size hg2.size),
      fun k hk h1 h2 => (hg2.block k (Nat.lt_of_lt_of_le hk (Nat.le_trans hb0.size hg1.size)) h2).trans ((hg1.block k (Nat.lt_of_lt_of_le hk hb0.size) h1).trans (hb0.block k hk))⟩
  clear H2 hg1 hg2 hp1 ho1
  go_wp2
  go_ret
  exact ⟨rfl, ho2, hp2, T⟩
set_option maxRecDepth 100000 in
set_option maxHeartbeats 1600000 in
theorem heldTicket_is (y0 y1 y2 y3 y4 y5 : Int) (a b : Option Addr) (n m ca cb : Nat) (w : World) (hn : n ≤ 1048576) (hm : m ≤ 1048576) (ho : RowAt (Value.int .i64) w a (miK 0 n)) (hp : RowAt (Value.int .i64) w b (miK n m)) :
    Calls Try.prog 17 #[.agg #[.int .i64 y0, .int .i64 y1, .int .i64 y2, .int .i64 y3, .int .i64 y4, .int .i64 y5, .slice a n ca, .slice b m cb], .int .i64 1] w fun e w' => e = .returned (.int .i64 ((n : Int) + (m : Int) + 1)) ∧ Below w.heap.size w w' := by
  obtain ⟨W1, hW1⟩ : ∃ W1, w.alloc (.cells #[.int .i64 y0, .int .i64 y1, .int .i64 y2, .int .i64 y3, .int .i64 y4, .int .i64 y5, .slice a n ca, .slice b m cb] 31) = W1 := ⟨_, rfl⟩
  have hb0 : Below w.heap.size w W1 := by rw [← hW1]; exact (Below.refl _ _).alloc (Nat.le_refl _) _
  have T1 : Blk w.heap.size [.int .i64 y0, .int .i64 y1, .int .i64 y2, .int .i64 y3, .int .i64 y4, .int .i64 y5, .slice a n ca, .slice b m cb] W1 := by rw [← hW1]; exact Blk.new _ _ _
  have hz : Hid (w.heap.size < W1.heap.size) := by show _ < _; rw [← hW1]; simp
  have c6 := T1.at 6 rfl
  have H1 := heldIB a n ca W1 0 (by omega) hn (ho.later hb0)
  rw [show (((0 : Nat) : Int) + 1) = 1 from rfl, show (((0 : Nat) : Int) + (n : Int) + 1) = (n : Int) + 1 by omega] at H1
  have d1 : ¬ (n : Int) + 1 < 0 := by omega
  have d2 : ¬ (n : Int) + (m : Int) + 1 < 0 := by omega
  go_enter Try.func17, Try.ntmps17
  go_wp2_with fail
  try rw [hW1]
  refine H1.mono ?_
  clear hW1 H1 c6
  rintro e w1 ⟨rfl, hb1⟩
  have hb2 := hb0.trans (hb1.mono hb0.size)
  have c7 := (T1.later hb1 hz.out).at 7 rfl
  have H2 := heldIB b m cb w1 n hn hm (hp.later hb2)
  clear T1
  go_wp2_with fail
  refine H2.mono ?_
  rintro e w2 ⟨rfl, hb3⟩
  go_wp2
  go_ret
  exact ⟨rfl, hb2.trans (hb3.mono hb2.size)⟩

end Go.Proofs.Ytbkemhclncmicaa
