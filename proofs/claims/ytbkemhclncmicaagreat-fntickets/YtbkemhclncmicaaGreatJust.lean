/- Just so many: rows of a fixed length. -/
import Derived.Laws.OwnMore
import Derived.Lib.SmallJoins
import Derived.Test.YtbkemhclncmicaaGreatReadNums
import Derived.Test.YtbkemhclncmicaaGreatTick1
import Derived.Test.YtbkemhclncmicaaGreatTickMath
import Derived.Test.YtbkemhclncmicaaGreatBox
import Derived.Test.YtbkemhclncmicaaGreatRead
import Derived.Test.YtbkemhclncmicaaGreatTick2
set_option linter.unusedVariables false
namespace Go.Proofs.YtbkemhclncmicaaGreat
open Go Go.RowKit Go.Joins Own Var Term

def just {α : Type} (z : α) (L : List α) (n : Nat) : List α := if L.length = n then L else List.replicate n z
theorem just_len {α : Type} (z : α) (L : List α) (n : Nat) : (just z L n).length = n := by
  unfold just
  split
  · assumption
  · simp
theorem partsR_len (x : ByteArray) : (partsR x).1.length ≤ 12 := by
  unfold partsR
  cases hr : rk x 108 with
  | none => simp
  | some q =>
    obtain ⟨n, r⟩ := q
    obtain ⟨hn, E, hE⟩ := rk_list hr
    show (psL n r).length ≤ 12
    rw [psL_len n r E hE]
    exact hn
theorem numsR_len (x : ByteArray) : (numsR x).1.length ≤ 12 := by
  unfold numsR numsP
  split
  · simp [partsR_len]
  · simp

set_option maxRecDepth 100000 in
set_option maxHeartbeats 800000 in
theorem justnumbers_is (v : Value) (L : List Int) (n base : Nat) (w : World) (ho : w.ownsRow base 3 1 v L.length (intV L)) (hl : L.length ≤ 1048576) (hn : n ≤ 1048576) (hb : base ≤ w.heap.size) :
    Calls Tryz.prog 92 #[v, .int .i64 n] w fun e w' => ∃ u, e = .returned u ∧ w'.ownsRow base 3 1 u n (intV (just (0 : Int) L n)) ∧ Below w.heap.size w w' := by
  obtain ⟨a, cap, rfl, hcap, hrow⟩ := own_row (f := (Value.int .i64)) ho
  by_cases h : L.length = n
  · have hd : ((L.length : Int) == (n : Int)) = true := by simp; omega
    have hj : just (0 : Int) L n = L := by unfold just; rw [if_pos h]
    rw [hj]
    subst h
    clear hrow
    go_enter Tryz.func92, Tryz.ntmps92
    go_wp2
    go_ret
    exact ⟨_, rfl, ho, Below.refl _ _⟩
  · have hd : ((L.length : Int) == (n : Int)) = false := by simp; omega
    have hj : just (0 : Int) L n = List.replicate n (0 : Int) := by unfold just; rw [if_neg h]
    rw [hj]
    obtain ⟨i0, hi, hz0, hz1, hz2⟩ := info_parts infoInt
    clear hrow ho
    go_enter Tryz.func92, Tryz.ntmps92
    go_wp2_with (first | (at_make; refine wpList_make_full _ rfl _ _ 26 rfl w.heap.size 3 i0 ((Value.int .i64) (0 : Int)) 1 Tryz.underlying26 hi hz0 hz1 .i64 .i64 n n n rfl rfl rfl rfl (by rw [hz2]; omega) (by unfold maxLen; omega) (Nat.le_refl _) ?_) | go_in)
    intro w1 hown hgrow
    have hbel := (Below.refl w.heap.size w).grown hgrow (Nat.le_refl _) (by simp)
    clear hgrow
    rw [toList_madeCells_one] at hown
    go_wp2
    go_ret
    refine ⟨_, rfl, ?_, hbel⟩
    have e : intV (List.replicate n (0 : Int)) = List.replicate n ((Value.int .i64) (0 : Int)) := by unfold intV; simp
    rw [e]
    exact ownsRow_le hown hb

set_option maxRecDepth 100000 in
set_option maxHeartbeats 800000 in
theorem numbersOf_is (x : ByteArray) (n : Nat) (w : World) (hx : x.size ≤ 1048576) (hn : n ≤ 1048576) :
    Calls Tryz.prog 59 #[.string x, .int .i64 n] w fun e w' => ∃ u, e = .returned u ∧ w'.ownsRow w.heap.size 3 1 u n (intV (just (0 : Int) (numsR x).1 n)) ∧ Below w.heap.size w w' := by
  have HL : (numsR x).1.length ≤ 1048576 := Nat.le_trans (numsR_len x) (by omega)
  have HC := impl_readNums x w hx
  generalize (numsR x).1 = L at HC HL ⊢
  generalize (numsR x).2 = bb at HC
  go_enter Tryz.func59, Tryz.ntmps59
  go_wp2_with fail
  refine HC.mono ?_
  rintro e w1 ⟨v, rfl, ho, hb1⟩
  clear HC
  have HJ := justnumbers_is v L n w.heap.size w1 ho HL hn hb1.size
  obtain ⟨a, cap, rfl, _, _⟩ := own_row (f := (Value.int .i64)) ho
  clear ho
  go_wp2_with fail
  refine HJ.mono ?_
  rintro e w2 ⟨u, rfl, ho2, hb2⟩
  have B2 := hb1.trans (hb2.mono hb1.size)
  clear HJ hb1 hb2
  obtain ⟨a2, cap2, rfl, _, _⟩ := own_row (f := (Value.int .i64)) (xs := just (0 : Int) L n) ho2
  go_wp2
  go_ret
  exact ⟨_, rfl, ho2, B2⟩

set_option maxRecDepth 100000 in
set_option maxHeartbeats 800000 in
theorem justparts_is (v : Value) (L : List ByteArray) (n base : Nat) (w : World) (ho : w.ownsRow base 9 1 v L.length (strV L)) (hl : L.length ≤ 1048576) (hn : n ≤ 1048576) (hb : base ≤ w.heap.size) :
    Calls Tryz.prog 90 #[v, .int .i64 n] w fun e w' => ∃ u, e = .returned u ∧ w'.ownsRow base 9 1 u n (strV (just (⟨#[]⟩ : ByteArray) L n)) ∧ Below w.heap.size w w' := by
  obtain ⟨a, cap, rfl, hcap, hrow⟩ := own_row (f := Value.string) ho
  by_cases h : L.length = n
  · have hd : ((L.length : Int) == (n : Int)) = true := by simp; omega
    have hj : just (⟨#[]⟩ : ByteArray) L n = L := by unfold just; rw [if_pos h]
    rw [hj]
    subst h
    clear hrow
    go_enter Tryz.func90, Tryz.ntmps90
    go_wp2
    go_ret
    exact ⟨_, rfl, ho, Below.refl _ _⟩
  · have hd : ((L.length : Int) == (n : Int)) = false := by simp; omega
    have hj : just (⟨#[]⟩ : ByteArray) L n = List.replicate n (⟨#[]⟩ : ByteArray) := by unfold just; rw [if_neg h]
    rw [hj]
    obtain ⟨i0, hi, hz0, hz1, hz2⟩ := info_parts infoStr
    clear hrow ho
    go_enter Tryz.func90, Tryz.ntmps90
    go_wp2_with (first | (at_make; refine wpList_make_full _ rfl _ _ 70 rfl w.heap.size 9 i0 (Value.string (⟨#[]⟩ : ByteArray)) 1 Tryz.underlying70 hi hz0 hz1 .i64 .i64 n n n rfl rfl rfl rfl (by rw [hz2]; omega) (by unfold maxLen; omega) (Nat.le_refl _) ?_) | go_in)
    intro w1 hown hgrow
    have hbel := (Below.refl w.heap.size w).grown hgrow (Nat.le_refl _) (by simp)
    clear hgrow
    rw [toList_madeCells_one] at hown
    go_wp2
    go_ret
    refine ⟨_, rfl, ?_, hbel⟩
    have e : strV (List.replicate n (⟨#[]⟩ : ByteArray)) = List.replicate n (Value.string (⟨#[]⟩ : ByteArray)) := by unfold strV; simp
    rw [e]
    exact ownsRow_le hown hb

set_option maxRecDepth 100000 in
set_option maxHeartbeats 800000 in
theorem partsOf_is (x : ByteArray) (n : Nat) (w : World) (hx : x.size ≤ 1048576) (hn : n ≤ 1048576) :
    Calls Tryz.prog 57 #[.string x, .int .i64 n] w fun e w' => ∃ u, e = .returned u ∧ w'.ownsRow w.heap.size 9 1 u n (strV (just (⟨#[]⟩ : ByteArray) (partsR x).1 n)) ∧ Below w.heap.size w w' := by
  have HL : (partsR x).1.length ≤ 1048576 := Nat.le_trans (partsR_len x) (by omega)
  have HC := impl_parts x w hx
  generalize (partsR x).1 = L at HC HL ⊢
  generalize (partsR x).2 = bb at HC
  go_enter Tryz.func57, Tryz.ntmps57
  go_wp2_with fail
  refine HC.mono ?_
  rintro e w1 ⟨v, rfl, ho, hb1⟩
  clear HC
  have HJ := justparts_is v L n w.heap.size w1 ho HL hn hb1.size
  obtain ⟨a, cap, rfl, _, _⟩ := own_row (f := Value.string) ho
  clear ho
  go_wp2_with fail
  refine HJ.mono ?_
  rintro e w2 ⟨u, rfl, ho2, hb2⟩
  have B2 := hb1.trans (hb2.mono hb1.size)
  clear HJ hb1 hb2
  obtain ⟨a2, cap2, rfl, _, _⟩ := own_row (f := Value.string) (xs := just (⟨#[]⟩ : ByteArray) L n) ho2
  go_wp2
  go_ret
  exact ⟨_, rfl, ho2, B2⟩
end Go.Proofs.YtbkemhclncmicaaGreat

set_option linter.unusedVariables false
namespace Go.Proofs.YtbkemhclncmicaaGreat
open Go Go.RowKit Own Var Term

theorem ne_text {x s : ByteArray} (h : ¬ x = s) : (x.toList == s.toList) = false := by
  rw [beq_eq_false_iff_ne]
  intro e
  apply h
  apply ext_list
  simpa [ByteArray.toList_eq] using e
def toldB (x s : ByteArray) : Bool := decide (x.size ≠ 0) && decide (x = s)
set_option maxRecDepth 100000 in
set_option maxHeartbeats 3200000 in
theorem toldA_is (c t q : Int) (key : Int) (x s : ByteArray) (w : World) : Calls Tryz.prog 37 #[.agg #[.int .i64 c, .int .i64 t, .int .i64 q, .int .i64 key], .string x, .string s] w fun en w' => en = .returned (.tuple #[.agg #[if toldB x s then .int .i64 c else .int .i64 0, if toldB x s then .int .i64 t else .int .i64 0, if toldB x s then .int .i64 q else .int .i64 0], .bool (toldB x s)]) ∧ Below w.heap.size w w' := by
  have B2 : Below w.heap.size w ((w.alloc (.cells #[.int .i64 c, .int .i64 t, .int .i64 q, .int .i64 key] 73)).alloc (.cells #[.int .i64 c, .int .i64 t, .int .i64 q] 36)) := ((Below.refl _ _).alloc (Nat.le_refl _) _).alloc (by simp) _
  have B3 : Below w.heap.size w (((w.alloc (.cells #[.int .i64 c, .int .i64 t, .int .i64 q, .int .i64 key] 73)).alloc (.cells #[.int .i64 0, .int .i64 0, .int .i64 0] 36)).alloc (.cells #[.int .i64 0, .int .i64 0, .int .i64 0] 36)) := (((Below.refl _ _).alloc (Nat.le_refl _) _).alloc (by simp) _).alloc (by simp; omega) _
  by_cases h0 : x = ⟨#[]⟩
  · have ht : toldB x s = false := by unfold toldB; rw [h0]; rfl
    rw [ht]
    subst h0
    go_enter Tryz.func37, Tryz.ntmps37
    go_wp2
    exact bodyPost_ret (res_ab rfl _ _ (w.heap.size + 1) _ _ _ (.bool false) rfl rfl (by simp [go_sem]) (by simp [go_sem]) (by simp [go_sem])) rfl ⟨rfl, B3⟩
  · have q2 := ne_nil x (by rcases Nat.eq_zero_or_pos x.size with h | h; exact absurd (empty_of x h) h0; exact h)
    by_cases h1 : x = s
    · have ht : toldB x s = true := by unfold toldB; simp [h1]; intro h; exact h0 (h1.trans h)
      rw [ht]
      subst h1
      go_enter Tryz.func37, Tryz.ntmps37
      go_wp2
      exact bodyPost_ret (res_ab rfl _ _ (w.heap.size + 1) _ _ _ (.bool true) rfl rfl (by simp [go_sem]) (by simp [go_sem]) (by simp [go_sem])) rfl ⟨rfl, B2⟩
    · have ht : toldB x s = false := by unfold toldB; simp [h1]
      have q4 := ne_text h1
      rw [ht]
      go_enter Tryz.func37, Tryz.ntmps37
      go_wp2
      exact bodyPost_ret (res_ab rfl _ _ (w.heap.size + 1) _ _ _ (.bool false) rfl rfl (by simp [go_sem]) (by simp [go_sem]) (by simp [go_sem])) rfl ⟨rfl, B3⟩

set_option maxRecDepth 100000 in
set_option maxHeartbeats 3200000 in
theorem toldG_is (k s0 n a b e : Int) (key : Int) (x s : ByteArray) (w : World) : Calls Tryz.prog 42 #[.agg #[.int .i64 k, .int .i64 s0, .int .i64 n, .int .i64 a, .int .i64 b, .int .i64 e, .int .i64 key], .string x, .string s] w fun en w' => en = .returned (.tuple #[.agg #[if toldB x s then .int .i64 k else .int .i64 0, if toldB x s then .int .i64 s0 else .int .i64 0, if toldB x s then .int .i64 n else .int .i64 0, if toldB x s then .int .i64 a else .int .i64 0, if toldB x s then .int .i64 b else .int .i64 0, if toldB x s then .int .i64 e else .int .i64 0], .bool (toldB x s)]) ∧ Below w.heap.size w w' := by
  have B2 : Below w.heap.size w ((w.alloc (.cells #[.int .i64 k, .int .i64 s0, .int .i64 n, .int .i64 a, .int .i64 b, .int .i64 e, .int .i64 key] 80)).alloc (.cells #[.int .i64 k, .int .i64 s0, .int .i64 n, .int .i64 a, .int .i64 b, .int .i64 e] 43)) := ((Below.refl _ _).alloc (Nat.le_refl _) _).alloc (by simp) _
  have B3 : Below w.heap.size w (((w.alloc (.cells #[.int .i64 k, .int .i64 s0, .int .i64 n, .int .i64 a, .int .i64 b, .int .i64 e, .int .i64 key] 80)).alloc (.cells #[.int .i64 0, .int .i64 0, .int .i64 0, .int .i64 0, .int .i64 0, .int .i64 0] 43)).alloc (.cells #[.int .i64 0, .int .i64 0, .int .i64 0, .int .i64 0, .int .i64 0, .int .i64 0] 43)) := (((Below.refl _ _).alloc (Nat.le_refl _) _).alloc (by simp) _).alloc (by simp; omega) _
  by_cases h0 : x = ⟨#[]⟩
  · have ht : toldB x s = false := by unfold toldB; rw [h0]; rfl
    rw [ht]
    subst h0
    go_enter Tryz.func42, Tryz.ntmps42
    go_wp2
    exact bodyPost_ret (res_gb rfl _ _ (w.heap.size + 1) _ _ _ _ _ _ (.bool false) rfl rfl (by simp [go_sem]) (by simp [go_sem]) (by simp [go_sem]) (by simp [go_sem]) (by simp [go_sem]) (by simp [go_sem])) rfl ⟨rfl, B3⟩
  · have q2 := ne_nil x (by rcases Nat.eq_zero_or_pos x.size with h | h; exact absurd (empty_of x h) h0; exact h)
    by_cases h1 : x = s
    · have ht : toldB x s = true := by unfold toldB; simp [h1]; intro h; exact h0 (h1.trans h)
      rw [ht]
      subst h1
      go_enter Tryz.func42, Tryz.ntmps42
      go_wp2
      exact bodyPost_ret (res_gb rfl _ _ (w.heap.size + 1) _ _ _ _ _ _ (.bool true) rfl rfl (by simp [go_sem]) (by simp [go_sem]) (by simp [go_sem]) (by simp [go_sem]) (by simp [go_sem]) (by simp [go_sem])) rfl ⟨rfl, B2⟩
    · have ht : toldB x s = false := by unfold toldB; simp [h1]
      have q4 := ne_text h1
      rw [ht]
      go_enter Tryz.func42, Tryz.ntmps42
      go_wp2
      exact bodyPost_ret (res_gb rfl _ _ (w.heap.size + 1) _ _ _ _ _ _ (.bool false) rfl rfl (by simp [go_sem]) (by simp [go_sem]) (by simp [go_sem]) (by simp [go_sem]) (by simp [go_sem]) (by simp [go_sem])) rfl ⟨rfl, B3⟩

set_option maxRecDepth 100000 in
set_option maxHeartbeats 3200000 in
theorem toldT_is (c s0 k a b e : Int) (pa : Option Addr) (pl pc : Nat) (va : Option Addr) (vl vc : Nat) (key : Int) (x s : ByteArray) (w : World) : Calls Tryz.prog 27 #[.agg #[.int .i64 c, .int .i64 s0, .int .i64 k, .int .i64 a, .int .i64 b, .int .i64 e, .slice pa pl pc, .slice va vl vc, .int .i64 key], .string x, .string s] w fun en w' => en = .returned (.tuple #[.agg #[if toldB x s then .int .i64 c else .int .i64 0, if toldB x s then .int .i64 s0 else .int .i64 0, if toldB x s then .int .i64 k else .int .i64 0, if toldB x s then .int .i64 a else .int .i64 0, if toldB x s then .int .i64 b else .int .i64 0, if toldB x s then .int .i64 e else .int .i64 0, if toldB x s then .slice pa pl pc else .slice none 0 0, if toldB x s then .slice va vl vc else .slice none 0 0], .bool (toldB x s)]) ∧ Below w.heap.size w w' := by
  have B2 : Below w.heap.size w ((w.alloc (.cells #[.int .i64 c, .int .i64 s0, .int .i64 k, .int .i64 a, .int .i64 b, .int .i64 e, .slice pa pl pc, .slice va vl vc, .int .i64 key] 59)).alloc (.cells #[.int .i64 c, .int .i64 s0, .int .i64 k, .int .i64 a, .int .i64 b, .int .i64 e, .slice pa pl pc, .slice va vl vc] 28)) := ((Below.refl _ _).alloc (Nat.le_refl _) _).alloc (by simp) _
  have B3 : Below w.heap.size w (((w.alloc (.cells #[.int .i64 c, .int .i64 s0, .int .i64 k, .int .i64 a, .int .i64 b, .int .i64 e, .slice pa pl pc, .slice va vl vc, .int .i64 key] 59)).alloc (.cells #[.int .i64 0, .int .i64 0, .int .i64 0, .int .i64 0, .int .i64 0, .int .i64 0, .slice none 0 0, .slice none 0 0] 28)).alloc (.cells #[.int .i64 0, .int .i64 0, .int .i64 0, .int .i64 0, .int .i64 0, .int .i64 0, .slice none 0 0, .slice none 0 0] 28)) := (((Below.refl _ _).alloc (Nat.le_refl _) _).alloc (by simp) _).alloc (by simp; omega) _
  by_cases h0 : x = ⟨#[]⟩
  · have ht : toldB x s = false := by unfold toldB; rw [h0]; rfl
    rw [ht]
    subst h0
    go_enter Tryz.func27, Tryz.ntmps27
    go_wp2
    exact bodyPost_ret (res_tb rfl _ _ (w.heap.size + 1) _ _ _ _ _ _ _ _ (.bool false) rfl rfl (by simp [go_sem]) (by simp [go_sem]) (by simp [go_sem]) (by simp [go_sem]) (by simp [go_sem]) (by simp [go_sem]) (by simp [go_sem]) (by simp [go_sem])) rfl ⟨rfl, B3⟩
  · have q2 := ne_nil x (by rcases Nat.eq_zero_or_pos x.size with h | h; exact absurd (empty_of x h) h0; exact h)
    by_cases h1 : x = s
    · have ht : toldB x s = true := by unfold toldB; simp [h1]; intro h; exact h0 (h1.trans h)
      rw [ht]
      subst h1
      go_enter Tryz.func27, Tryz.ntmps27
      go_wp2
      exact bodyPost_ret (res_tb rfl _ _ (w.heap.size + 1) _ _ _ _ _ _ _ _ (.bool true) rfl rfl (by simp [go_sem]) (by simp [go_sem]) (by simp [go_sem]) (by simp [go_sem]) (by simp [go_sem]) (by simp [go_sem]) (by simp [go_sem]) (by simp [go_sem])) rfl ⟨rfl, B2⟩
    · have ht : toldB x s = false := by unfold toldB; simp [h1]
      have q4 := ne_text h1
      rw [ht]
      go_enter Tryz.func27, Tryz.ntmps27
      go_wp2
      exact bodyPost_ret (res_tb rfl _ _ (w.heap.size + 1) _ _ _ _ _ _ _ _ (.bool false) rfl rfl (by simp [go_sem]) (by simp [go_sem]) (by simp [go_sem]) (by simp [go_sem]) (by simp [go_sem]) (by simp [go_sem]) (by simp [go_sem]) (by simp [go_sem])) rfl ⟨rfl, B3⟩
end Go.Proofs.YtbkemhclncmicaaGreat

set_option linter.unusedVariables false
namespace Go.Proofs.YtbkemhclncmicaaGreat
open Go Go.RowKit Go.Joins Own Var Term

theorem Blk.lower {g n : Nat} {vs : List Value} {W W' : World} (h : Blk g vs W) (hb : Below n W W') (hg : g < n) : Blk g vs W' :=
  ⟨fun i v e => ⟨(hb.cell (p := ⟨g, i, none⟩) hg).trans (h.out i v e).1, (hb.frozen (p := ⟨g, i, none⟩) hg).trans (h.out i v e).2⟩⟩
theorem own_blk {α : Type} {f : α → Value} {w : World} {base n : Nat} {e : TypeId} {v : Value} {xs : List α} (h : w.ownsRow base e 1 v n (xs.map f)) (hn : 0 < n) :
    ∃ g cap, v = .slice (some ⟨g, 0, none⟩) n cap ∧ n ≤ cap ∧ base ≤ g ∧ g < w.heap.size ∧ Blk g (xs.map f) w := by
  have hl : xs.length = n := by have := h.1; simpa using this
  rcases h.2 with ⟨_, h0⟩ | ⟨g, cap, cur, rfl, e2, e3, e4, _⟩
  · omega
  · refine ⟨g, cap, rfl, e4, e2, (h.lt g rfl).2, ⟨fun i u hu => ⟨?_, h.frozenAt i⟩⟩⟩
    have hi : i < n := by
      obtain ⟨q, _⟩ := List.getElem?_eq_some_iff.1 hu
      simpa [hl] using q
    rw [h.cellAt i (by omega)]
    exact hu
theorem openR_size (s : ByteArray) (k : Int) : (openR s k).1.size ≤ 900 := by
  unfold openR
  cases hr : rk s 115 with
  | none => show 0 ≤ 900; omega
  | some q =>
    obtain ⟨n, t⟩ := q
    obtain ⟨_, _, _, _, _, h⟩ := rk_facts hr
    show (if (n : Int) = k then (t, true) else (⟨#[]⟩, false)).1.size ≤ 900
    split
    · exact h
    · show 0 ≤ 900; omega
theorem Blk.fill3 {m g : Nat} {w W : World} {u0 u1 u2 : Value} (h : Blk g [u0, u1, u2] W) (hb : Below m w W) (hg : m ≤ g) (v0 v1 v2 : Value) :
    Blk g [v0, v1, v2] ((((W).setCell ⟨g, 0, none⟩ (v0)).setCell ⟨g, 1, none⟩ (v1)).setCell ⟨g, 2, none⟩ (v2)) ∧ Below m w ((((W).setCell ⟨g, 0, none⟩ (v0)).setCell ⟨g, 1, none⟩ (v1)).setCell ⟨g, 2, none⟩ (v2)) :=
  ⟨(((h.set 0 v0).set 1 v1).set 2 v2), (((hb.setCell (by dsimp only; omega) _).setCell (by dsimp only; omega) _).setCell (by dsimp only; omega) _)⟩
theorem Blk.fill6 {m g : Nat} {w W : World} {u0 u1 u2 u3 u4 u5 : Value} (h : Blk g [u0, u1, u2, u3, u4, u5] W) (hb : Below m w W) (hg : m ≤ g) (v0 v1 v2 v3 v4 v5 : Value) :
    Blk g [v0, v1, v2, v3, v4, v5] (((((((W).setCell ⟨g, 0, none⟩ (v0)).setCell ⟨g, 1, none⟩ (v1)).setCell ⟨g, 2, none⟩ (v2)).setCell ⟨g, 3, none⟩ (v3)).setCell ⟨g, 4, none⟩ (v4)).setCell ⟨g, 5, none⟩ (v5)) ∧ Below m w (((((((W).setCell ⟨g, 0, none⟩ (v0)).setCell ⟨g, 1, none⟩ (v1)).setCell ⟨g, 2, none⟩ (v2)).setCell ⟨g, 3, none⟩ (v3)).setCell ⟨g, 4, none⟩ (v4)).setCell ⟨g, 5, none⟩ (v5)) :=
  ⟨((((((h.set 0 v0).set 1 v1).set 2 v2).set 3 v3).set 4 v4).set 5 v5), ((((((hb.setCell (by dsimp only; omega) _).setCell (by dsimp only; omega) _).setCell (by dsimp only; omega) _).setCell (by dsimp only; omega) _).setCell (by dsimp only; omega) _).setCell (by dsimp only; omega) _)⟩
theorem Blk.fill8 {m g : Nat} {w W : World} {u0 u1 u2 u3 u4 u5 u6 u7 : Value} (h : Blk g [u0, u1, u2, u3, u4, u5, u6, u7] W) (hb : Below m w W) (hg : m ≤ g) (v0 v1 v2 v3 v4 v5 v6 v7 : Value) :
    Blk g [v0, v1, v2, v3, v4, v5, v6, v7] (((((((((W).setCell ⟨g, 0, none⟩ (v0)).setCell ⟨g, 1, none⟩ (v1)).setCell ⟨g, 2, none⟩ (v2)).setCell ⟨g, 3, none⟩ (v3)).setCell ⟨g, 4, none⟩ (v4)).setCell ⟨g, 5, none⟩ (v5)).setCell ⟨g, 6, none⟩ (v6)).setCell ⟨g, 7, none⟩ (v7)) ∧ Below m w (((((((((W).setCell ⟨g, 0, none⟩ (v0)).setCell ⟨g, 1, none⟩ (v1)).setCell ⟨g, 2, none⟩ (v2)).setCell ⟨g, 3, none⟩ (v3)).setCell ⟨g, 4, none⟩ (v4)).setCell ⟨g, 5, none⟩ (v5)).setCell ⟨g, 6, none⟩ (v6)).setCell ⟨g, 7, none⟩ (v7)) :=
  ⟨((((((((h.set 0 v0).set 1 v1).set 2 v2).set 3 v3).set 4 v4).set 5 v5).set 6 v6).set 7 v7), ((((((((hb.setCell (by dsimp only; omega) _).setCell (by dsimp only; omega) _).setCell (by dsimp only; omega) _).setCell (by dsimp only; omega) _).setCell (by dsimp only; omega) _).setCell (by dsimp only; omega) _).setCell (by dsimp only; omega) _).setCell (by dsimp only; omega) _)⟩
end Go.Proofs.YtbkemhclncmicaaGreat

set_option linter.unusedVariables false
namespace Go.Proofs.YtbkemhclncmicaaGreat
open Go Go.RowKit Own Var Term

set_option maxRecDepth 100000 in
set_option maxHeartbeats 3200000 in
theorem fillA_is (p : Nat) (c0 t0 q0 key : Int) (s : ByteArray) (w : World) (hT : Blk p [.int .i64 c0, .int .i64 t0, .int .i64 q0, .int .i64 key] w) (hp : p < w.heap.size) (hs : s.size ≤ 1048576)
    (m c t q : Int) (hj : just 0 (numsR (openR s key).1).1 4 = [m, c, t, q]) :
    Calls Tryz.prog 36 #[.pointer (some ⟨p, 0, none⟩), .string s] w fun en w' => en = .returned (.tuple #[]) ∧ Blk p [.int .i64 c, .int .i64 t, .int .i64 q, .int .i64 key] w' ∧ Below p w w' := by
  have d0 := hT.at 0 rfl
  have d1 := hT.at 1 rfl
  have d2 := hT.at 2 rfl
  have d3 := hT.at 3 rfl
  have HP : Hid (p < w.heap.size) := hp
  clear hp
  go_enter Tryz.func36, Tryz.ntmps36
  go_wp2_with fail
  refine (openA_is c0 t0 q0 key s _ hs).mono ?_
  rintro en w1 ⟨rfl, hb1⟩
  have T1 := hT.later hb1 HP.out
  have P1 : Hid (p < w1.heap.size) := Nat.lt_of_lt_of_le HP.out hb1.size
  have B1 : Below p w w1 := hb1.mono (Nat.le_of_lt HP.out)
  clear hT HP hb1 d0 d1 d2 d3
  have HN := numbersOf_is (openR s key).1 4 w1 (Nat.le_trans (openR_size s key) (by omega)) (by omega)
  rw [hj] at HN
  go_wp2_with fail
  refine HN.mono ?_
  rintro en w2 ⟨u, rfl, ho, hb2⟩
  clear HN
  obtain ⟨g, cap, rfl, hcap, hg, hlt, Q2⟩ := own_blk (f := Value.int .i64) (xs := [m, c, t, q]) ho (by omega)
  have T2 := T1.later hb2 P1.out
  have B2 : Below p w w2 := B1.trans (hb2.mono (Nat.le_of_lt P1.out))
  have hgp : p ≠ g := by have := P1.out; omega
  have hc4 : (4 : Int) ≤ (cap : Int) := by omega
  clear T1 B1 hb2 ho P1 hg
  have QD : Blk g [.int .i64 m, .int .i64 c, .int .i64 t, .int .i64 q] w2.drew := Q2.drew
  have TD := T2.drew
  have F : Hid _ := show Hid _ from (show Blk p [.int .i64 c, .int .i64 t, .int .i64 q, .int .i64 key] ((((w2.drew).setCell ⟨p, 0, none⟩ (.int .i64 c)).setCell ⟨p, 1, none⟩ (.int .i64 t)).setCell ⟨p, 2, none⟩ (.int .i64 q)) ∧ Below p w ((((w2.drew).setCell ⟨p, 0, none⟩ (.int .i64 c)).setCell ⟨p, 1, none⟩ (.int .i64 t)).setCell ⟨p, 2, none⟩ (.int .i64 q)) from
    ⟨((TD.set 0 (.int .i64 c)).set 1 (.int .i64 t)).set 2 (.int .i64 q), (((B2.drew.setCell (by dsimp only; omega) _).setCell (by dsimp only; omega) _).setCell (by dsimp only; omega) _)⟩)
  have k0 := TD.at 0 rfl
  have k1 := TD.at 1 rfl
  have k2 := TD.at 2 rfl
  have f0 := TD.fz 0 rfl
  have f1 := TD.fz 1 rfl
  have f2 := TD.fz 2 rfl
  have k3 := T2.at 0 rfl
  have k4 := T2.at 1 rfl
  have k5 := T2.at 2 rfl
  have f3 := T2.fz 0 rfl
  have f4 := T2.fz 1 rfl
  have f5 := T2.fz 2 rfl
  clear T2 B2 Q2
  go_wp2_with fail
  refine wp_region_held_drew (S := (fun V => Blk g [.int .i64 m, .int .i64 c, .int .i64 t, .int .i64 q] V)) (by kernel_rfl) QD (fun hHeld => ?_)
  refine take_one 0 12 (v := ?_) rfl rfl (by kernel_rfl) (by kernel_rfl) (by kernel_rfl) (fun _ _ _ h => h) (Or.inl ⟨by rfl, ?_⟩) hHeld ?_
  rotate_left
  · intro w' hSw; (try dsimp only at hSw); have d0 := hSw.at 0 rfl; have d1 := hSw.at 1 rfl; have d2 := hSw.at 2 rfl; have d3 := hSw.at 3 rfl; go_simp; try with_reducible rfl
  try simp only [Act.put, List.setIfInBounds_toArray, List.set_cons_zero, List.set_cons_succ]
  refine take_one 1 13 (v := ?_) rfl rfl (by kernel_rfl) (by kernel_rfl) (by kernel_rfl) (fun _ _ _ h => h) (Or.inl ⟨by rfl, ?_⟩) hHeld ?_
  rotate_left
  · intro w' hSw; (try dsimp only at hSw); have d0 := hSw.at 0 rfl; have d1 := hSw.at 1 rfl; have d2 := hSw.at 2 rfl; have d3 := hSw.at 3 rfl; go_simp; try with_reducible rfl
  try simp only [Act.put, List.setIfInBounds_toArray, List.set_cons_zero, List.set_cons_succ]
  refine take_one 2 14 (v := ?_) rfl rfl (by kernel_rfl) (by kernel_rfl) (by kernel_rfl) (fun _ _ _ h => h) (Or.inl ⟨by rfl, ?_⟩) hHeld ?_
  rotate_left
  · intro w' hSw; (try dsimp only at hSw); have d0 := hSw.at 0 rfl; have d1 := hSw.at 1 rfl; have d2 := hSw.at 2 rfl; have d3 := hSw.at 3 rfl; go_simp; try with_reducible rfl
  try simp only [Act.put, List.setIfInBounds_toArray, List.set_cons_zero, List.set_cons_succ]
  refine take_one 3 15 (v := ?_) rfl rfl (by kernel_rfl) (by kernel_rfl) (by kernel_rfl) (fun _ _ _ h => h) (Or.inl ⟨by rfl, ?_⟩) hHeld ?_
  rotate_left
  · intro w' hSw; (try dsimp only at hSw); have d0 := hSw.at 0 rfl; have d1 := hSw.at 1 rfl; have d2 := hSw.at 2 rfl; have d3 := hSw.at 3 rfl; go_simp; try with_reducible rfl
  try simp only [Act.put, List.setIfInBounds_toArray, List.set_cons_zero, List.set_cons_succ]
  refine take_one 4 16 (v := ?_) rfl rfl (by kernel_rfl) (by kernel_rfl) (by kernel_rfl) (fun _ _ _ h => h) (Or.inl ⟨by rfl, ?_⟩) hHeld ?_
  rotate_left
  · intro w' hSw; (try dsimp only at hSw); have d0 := hSw.at 0 rfl; have d1 := hSw.at 1 rfl; have d2 := hSw.at 2 rfl; have d3 := hSw.at 3 rfl; go_simp; try with_reducible rfl
  try simp only [Act.put, List.setIfInBounds_toArray, List.set_cons_zero, List.set_cons_succ]
  refine take_one 5 17 (v := ?_) rfl rfl (by kernel_rfl) (by kernel_rfl) (by kernel_rfl) (fun _ _ _ h => h) (Or.inl ⟨by rfl, ?_⟩) hHeld ?_
  rotate_left
  · intro w' hSw; (try dsimp only at hSw); have d0 := hSw.at 0 rfl; have d1 := hSw.at 1 rfl; have d2 := hSw.at 2 rfl; have d3 := hSw.at 3 rfl; go_simp; try with_reducible rfl
  try simp only [Act.put, List.setIfInBounds_toArray, List.set_cons_zero, List.set_cons_succ]
  refine take_one 6 18 (v := ?_) rfl rfl (by kernel_rfl) (by kernel_rfl) (by kernel_rfl) (fun _ _ _ h => h) (Or.inl ⟨by rfl, ?_⟩) hHeld ?_
  rotate_left
  · intro w' hSw; (try dsimp only at hSw); have d0 := hSw.at 0 rfl; have d1 := hSw.at 1 rfl; have d2 := hSw.at 2 rfl; have d3 := hSw.at 3 rfl; go_simp; try with_reducible rfl
  try simp only [Act.put, List.setIfInBounds_toArray, List.set_cons_zero, List.set_cons_succ]
  refine take_one 7 19 (v := ?_) rfl rfl (by kernel_rfl) (by kernel_rfl) (by kernel_rfl) (fun _ _ _ h => h) (Or.inl ⟨by rfl, ?_⟩) hHeld ?_
  rotate_left
  · intro w' hSw; (try dsimp only at hSw); have d0 := hSw.at 0 rfl; have d1 := hSw.at 1 rfl; have d2 := hSw.at 2 rfl; have d3 := hSw.at 3 rfl; go_simp; try with_reducible rfl
  try simp only [Act.put, List.setIfInBounds_toArray, List.set_cons_zero, List.set_cons_succ]
  refine take_one 8 20 (v := ?_) rfl rfl (by kernel_rfl) (by kernel_rfl) (by kernel_rfl) (fun _ _ _ h => h) (Or.inl ⟨by rfl, ?_⟩) hHeld ?_
  rotate_left
  · intro w' hSw; (try dsimp only at hSw); have d0 := hSw.at 0 rfl; have d1 := hSw.at 1 rfl; have d2 := hSw.at 2 rfl; have d3 := hSw.at 3 rfl; go_simp; try with_reducible rfl
  try simp only [Act.put, List.setIfInBounds_toArray, List.set_cons_zero, List.set_cons_succ]
  refine take_one 9 21 (v := ?_) rfl rfl (by kernel_rfl) (by kernel_rfl) (by kernel_rfl) (fun _ _ _ h => h) (Or.inl ⟨by rfl, ?_⟩) hHeld ?_
  rotate_left
  · intro w' hSw; (try dsimp only at hSw); have d0 := hSw.at 0 rfl; have d1 := hSw.at 1 rfl; have d2 := hSw.at 2 rfl; have d3 := hSw.at 3 rfl; go_simp; try with_reducible rfl
  try simp only [Act.put, List.setIfInBounds_toArray, List.set_cons_zero, List.set_cons_succ]
  refine take_one 10 22 (v := ?_) rfl rfl (by kernel_rfl) (by kernel_rfl) (by kernel_rfl) (fun _ _ _ h => h) (Or.inl ⟨by rfl, ?_⟩) hHeld ?_
  rotate_left
  · intro w' hSw; (try dsimp only at hSw); have d0 := hSw.at 0 rfl; have d1 := hSw.at 1 rfl; have d2 := hSw.at 2 rfl; have d3 := hSw.at 3 rfl; go_simp; try with_reducible rfl
  try simp only [Act.put, List.setIfInBounds_toArray, List.set_cons_zero, List.set_cons_succ]
  refine take_one 11 23 (v := ?_) rfl rfl (by kernel_rfl) (by kernel_rfl) (by kernel_rfl) (fun _ _ _ h => h) (Or.inl ⟨by rfl, ?_⟩) hHeld ?_
  rotate_left
  · intro w' hSw; (try dsimp only at hSw); have d0 := hSw.at 0 rfl; have d1 := hSw.at 1 rfl; have d2 := hSw.at 2 rfl; have d3 := hSw.at 3 rfl; go_simp; try with_reducible rfl
  try simp only [Act.put, List.setIfInBounds_toArray, List.set_cons_zero, List.set_cons_succ]
  refine take_one 12 24 (v := ?_) rfl rfl (by kernel_rfl) (by kernel_rfl) (by kernel_rfl) (fun _ _ _ h => h) (Or.inl ⟨by rfl, ?_⟩) hHeld ?_
  rotate_left
  · intro w' hSw; (try dsimp only at hSw); have d0 := hSw.at 0 rfl; have d1 := hSw.at 1 rfl; have d2 := hSw.at 2 rfl; have d3 := hSw.at 3 rfl; go_simp; try with_reducible rfl
  try simp only [Act.put, List.setIfInBounds_toArray, List.set_cons_zero, List.set_cons_succ]
  refine take_one 13 25 (v := ?_) rfl rfl (by kernel_rfl) (by kernel_rfl) (by kernel_rfl) (fun _ _ _ h => h) (Or.inl ⟨by rfl, ?_⟩) hHeld ?_
  rotate_left
  · intro w' hSw; (try dsimp only at hSw); have d0 := hSw.at 0 rfl; have d1 := hSw.at 1 rfl; have d2 := hSw.at 2 rfl; have d3 := hSw.at 3 rfl; go_simp; try with_reducible rfl
  try simp only [Act.put, List.setIfInBounds_toArray, List.set_cons_zero, List.set_cons_succ]
  refine wpAnyH_ready (rs := [14]) (by kernel_rfl) (by simp) ?_
  refine AllReadyH.cons (i := 14) rfl (fun K hK => ?_) AllReadyH.nil
  go_simp
  refine hK.out _ _ (((QD.far (by omega) 0 _).far (by omega) 1 _).far (by omega) 2 _) (fun hHeld2 => ?_)
  clear hK K hHeld
  have hHeld := hHeld2
  clear hHeld2
  try simp only [Act.put, List.setIfInBounds_toArray, List.set_cons_zero, List.set_cons_succ]
  refine wpAnyH_done (by kernel_rfl) ?_ _
  clear hHeld QD TD k0 k1 k2 f0 f1 f2 k3 k4 k5 f3 f4 f5
  go_wp2
  first | exact ⟨_, results_none rfl _ _ _, rfl, F.out⟩ | exact ⟨rfl, _, results_none rfl _ _ _, rfl, F.out⟩ | trace_state
end Go.Proofs.YtbkemhclncmicaaGreat

set_option linter.unusedVariables false
namespace Go.Proofs.YtbkemhclncmicaaGreat
open Go Go.RowKit Own Var Term

theorem just_size (y : ByteArray) (n : Nat) : ∀ x ∈ just (⟨#[]⟩ : ByteArray) (partsR y).1 n, x.size ≤ 900 := by
  intro x hx
  unfold just at hx
  split at hx
  · exact parts_size y x hx
  · rw [(List.mem_replicate.1 hx).2]
    show 0 ≤ 900
    omega
theorem numR_i64 (x : ByteArray) : i64 (numR x).1 := by
  unfold numR i64
  have := rvN_le (atomR x).1
  split
  · show _ ≤ ((rvN (atomR x).1 : Nat) : Int) ∧ _ ≤ _
    omega
  · show _ ≤ (0 : Int) ∧ (0 : Int) ≤ _
    omega
theorem numsR_i64 (x : ByteArray) : ∀ z ∈ (numsR x).1, i64 z := by
  intro z hz
  unfold numsR numsP at hz
  split at hz
  · simp only [List.mem_map] at hz
    obtain ⟨y, _, rfl⟩ := hz
    exact numR_i64 y
  · simp at hz
theorem just_i64 (x : ByteArray) (n : Nat) : ∀ z ∈ just (0 : Int) (numsR x).1 n, i64 z := by
  intro z hz
  unfold just at hz
  split at hz
  · exact numsR_i64 x z hz
  · rw [(List.mem_replicate.1 hz).2]
    unfold i64
    omega

set_option maxRecDepth 100000 in
set_option maxHeartbeats 6400000 in
theorem fillG_is (p : Nat) (k0 s0 n0 a0 b0 e0 key : Int) (s : ByteArray) (w : World) (hT : Blk p [.int .i64 k0, .int .i64 s0, .int .i64 n0, .int .i64 a0, .int .i64 b0, .int .i64 e0, .int .i64 key] w) (hp : p < w.heap.size) (hs : s.size ≤ 1048576)
    (x0 x1 x2 : ByteArray) (hx : just (⟨#[]⟩ : ByteArray) (partsR (openR s key).1).1 3 = [x0, x1, x2]) (sv n : Int) (hw : just 0 (numsR x1).1 2 = [sv, n]) :
    Calls Tryz.prog 41 #[.pointer (some ⟨p, 0, none⟩), .string s] w fun en w' => en = .returned (.tuple #[]) ∧ Blk p [.int .i64 ((keyR x0).1), .int .i64 sv, .int .i64 n, .int .i64 (rdA (numsR x2).1), .int .i64 (rdB (numsR x2).1), .int .i64 (rdC (numsR x2).1), .int .i64 key] w' ∧ Below p w w' := by
  have hz := just_size (openR s key).1 3
  rw [hx] at hz
  have z0 : x0.size ≤ 1048576 := Nat.le_trans (hz x0 (by simp)) (by omega)
  have z1 : x1.size ≤ 1048576 := Nat.le_trans (hz x1 (by simp)) (by omega)
  have z2 : x2.size ≤ 1048576 := Nat.le_trans (hz x2 (by simp)) (by omega)
  clear hz
  have d0 := hT.at 0 rfl
  have d1 := hT.at 1 rfl
  have d2 := hT.at 2 rfl
  have d3 := hT.at 3 rfl
  have d4 := hT.at 4 rfl
  have d5 := hT.at 5 rfl
  have d6 := hT.at 6 rfl
  have HP : Hid (p < w.heap.size) := hp
  clear hp
  have HK := fun w => impl_readKey x0 w z0
  have HR := fun w => implRead_is x2 w z2
  generalize (keyR x0).1 = kv at HK ⊢
  generalize (keyR x0).2 = kb at HK
  generalize rdA (numsR x2).1 = ra at HR ⊢
  generalize rdB (numsR x2).1 = rb at HR ⊢
  generalize rdC (numsR x2).1 = rc at HR ⊢
  generalize rdK (numsR x2).1 = rk at HR
  clear z0 z2
  go_enter Tryz.func41, Tryz.ntmps41
  go_wp2_with fail
  refine (openG_is k0 s0 n0 a0 b0 e0 key s _ hs).mono ?_
  rintro en w1 ⟨rfl, hb1⟩
  have T1 := hT.later hb1 HP.out
  have P1 : Hid (p < w1.heap.size) := Nat.lt_of_lt_of_le HP.out hb1.size
  have B1 : Below p w w1 := hb1.mono (Nat.le_of_lt HP.out)
  clear hT HP hb1 d0 d1 d2 d3 d4 d5 d6
  have HN := partsOf_is (openR s key).1 3 w1 (Nat.le_trans (openR_size s key) (by omega)) (by omega)
  rw [hx] at HN
  go_wp2_with fail
  refine HN.mono ?_
  rintro en w2 ⟨u, rfl, ho, hb2⟩
  clear HN
  obtain ⟨gp, capp, rfl, hcap, hg, hlt, X2⟩ := own_blk (f := Value.string) (xs := [x0, x1, x2]) ho (by omega)
  have T2 := T1.later hb2 P1.out
  have P2 : Hid (p < w2.heap.size) := Nat.lt_of_lt_of_le P1.out hb2.size
  have B2 : Below p w w2 := B1.trans (hb2.mono (Nat.le_of_lt P1.out))
  have hgp : p ≠ gp := by have := P1.out; omega
  have hc3 : (3 : Int) ≤ (capp : Int) := by omega
  have X2' : Blk gp [.string x0, .string x1, .string x2] w2 := X2
  clear T1 B1 hb2 ho P1 hg X2 hcap
  have q0 := X2'.at 1 rfl
  have HN := numbersOf_is x1 2 w2 z1 (by omega)
  rw [hw] at HN
  go_wp2_with fail
  refine HN.mono ?_
  rintro en w3 ⟨u, rfl, ho, hb3⟩
  clear HN q0
  obtain ⟨g5, cap5, rfl, hcap, hg, hlt5, Q3⟩ := own_blk (f := Value.int .i64) (xs := [sv, n]) ho (by omega)
  have T3 := T2.later hb3 P2.out
  have X3 := X2'.later hb3 hlt
  have P3 : Hid (p < w3.heap.size) := Nat.lt_of_lt_of_le P2.out hb3.size
  have B3 : Below p w w3 := B2.trans (hb3.mono (Nat.le_of_lt P2.out))
  have hlt3 : gp < w3.heap.size := Nat.lt_of_lt_of_le hlt hb3.size
  have hg5 : p ≠ g5 := by have := P2.out; omega
  have hc2 : (2 : Int) ≤ (cap5 : Int) := by omega
  have Q3' : Blk g5 [.int .i64 sv, .int .i64 n] w3 := Q3
  clear T2 B2 hb3 ho P2 hg X2' Q3 hcap hlt
  have q0 := X3.at 0 rfl
  go_wp2_with fail
  refine (HK _).mono ?_
  rintro en w4 ⟨rfl, hb4⟩
  have T4 := T3.later hb4 P3.out
  have X4 := X3.later hb4 hlt3
  have Q4 := Q3'.later hb4 hlt5
  have P4 : p < w4.heap.size := Nat.lt_of_lt_of_le P3.out hb4.size
  have B4 : Below p w w4 := B3.trans (hb4.mono (Nat.le_of_lt P3.out))
  have hlt4 : gp < w4.heap.size := Nat.lt_of_lt_of_le hlt3 hb4.size
  clear T3 B3 hb4 P3 X3 Q3' q0 hlt3 hlt5
  obtain ⟨V5, hV5⟩ : ∃ V, w4.setCell ⟨p, 0, none⟩ (.int .i64 kv) = V := ⟨_, rfl⟩
  have T5 : Blk p [.int .i64 (kv), .int .i64 s0, .int .i64 n0, .int .i64 a0, .int .i64 b0, .int .i64 e0, .int .i64 key] V5 := by rw [← hV5]; exact T4.set 0 _
  have X5 : Blk gp [.string x0, .string x1, .string x2] V5 := by rw [← hV5]; exact X4.far hgp 0 _
  have Q5 : Blk g5 [.int .i64 sv, .int .i64 n] V5 := by rw [← hV5]; exact Q4.far hg5 0 _
  have B5 : Below p w V5 := by rw [← hV5]; exact B4.setCell (by dsimp only; omega) _
  have hp5 : p < V5.heap.size := by rw [← hV5]; simpa using P4
  have hlt5 : gp < V5.heap.size := by rw [← hV5]; simpa using hlt4
  have k0 := T4.at 0 rfl
  have f0 := T4.fz 0 rfl
  clear X4 Q4 B4 P4 hlt4
  go_wp2_with fail
  try rw [hV5]
  clear k0 f0 hV5 T4
  obtain ⟨V6, hV6⟩ : ∃ V, V5.drew.setCell ⟨p, 1, none⟩ (.int .i64 sv) = V := ⟨_, rfl⟩
  have T6 : Blk p [.int .i64 (kv), .int .i64 sv, .int .i64 n0, .int .i64 a0, .int .i64 b0, .int .i64 e0, .int .i64 key] V6 := by rw [← hV6]; exact T5.drew.set 1 _
  have Q6 : Blk g5 [.int .i64 sv, .int .i64 n] V6 := by rw [← hV6]; exact Q5.drew.far hg5 1 _
  have X6 : Blk gp [.string x0, .string x1, .string x2] V6 := by rw [← hV6]; exact X5.drew.far hgp 1 _
  have B6 : Below p w V6 := by rw [← hV6]; exact B5.drew.setCell (by dsimp only; omega) _
  have hp6 : p < V6.heap.size := by rw [← hV6]; simpa using hp5
  have hlt6 : gp < V6.heap.size := by rw [← hV6]; simpa using hlt5
  obtain ⟨V7, hV7⟩ : ∃ V, V6.setCell ⟨p, 2, none⟩ (.int .i64 n) = V := ⟨_, rfl⟩
  have T7 : Blk p [.int .i64 (kv), .int .i64 sv, .int .i64 n, .int .i64 a0, .int .i64 b0, .int .i64 e0, .int .i64 key] V7 := by rw [← hV7]; exact T6.set 2 _
  have Q7 : Blk g5 [.int .i64 sv, .int .i64 n] V7 := by rw [← hV7]; exact Q6.far hg5 2 _
  have X7 : Blk gp [.string x0, .string x1, .string x2] V7 := by rw [← hV7]; exact X6.far hgp 2 _
  have B7 : Below p w V7 := by rw [← hV7]; exact B6.setCell (by dsimp only; omega) _
  have hp7 : p < V7.heap.size := by rw [← hV7]; simpa using hp6
  have hlt7 : gp < V7.heap.size := by rw [← hV7]; simpa using hlt6
  have k1 := T5.at 1 rfl
  have f1 := T5.fz 1 rfl
  have k2 := T6.at 2 rfl
  have f2 := T6.fz 2 rfl
  refine wp_region_held_drew (S := (fun Vw => Blk g5 [.int .i64 sv, .int .i64 n] Vw)) (by kernel_rfl) Q5.drew (fun hHeld => ?_)
  refine take_one 0 29 (v := ?_) rfl rfl (by kernel_rfl) (by kernel_rfl) (by kernel_rfl) (fun _ _ _ h => h) (Or.inl ⟨by rfl, ?_⟩) hHeld ?_
  rotate_left
  · intro w' hSw; (try dsimp only at hSw); have d0 := hSw.at 0 rfl; have d1 := hSw.at 1 rfl; go_simp; try with_reducible rfl
  try simp only [Act.put, List.setIfInBounds_toArray, List.set_cons_zero, List.set_cons_succ]
  refine take_one 1 30 (v := ?_) rfl rfl (by kernel_rfl) (by kernel_rfl) (by kernel_rfl) (fun _ _ _ h => h) (Or.inl ⟨by rfl, ?_⟩) hHeld ?_
  rotate_left
  · intro w' hSw; (try dsimp only at hSw); have d0 := hSw.at 0 rfl; have d1 := hSw.at 1 rfl; go_simp; try with_reducible rfl
  try simp only [Act.put, List.setIfInBounds_toArray, List.set_cons_zero, List.set_cons_succ]
  refine take_one 2 31 (v := ?_) rfl rfl (by kernel_rfl) (by kernel_rfl) (by kernel_rfl) (fun _ _ _ h => h) (Or.inl ⟨by rfl, ?_⟩) hHeld ?_
  rotate_left
  · intro w' hSw; (try dsimp only at hSw); have d0 := hSw.at 0 rfl; have d1 := hSw.at 1 rfl; go_simp; try with_reducible rfl
  try simp only [Act.put, List.setIfInBounds_toArray, List.set_cons_zero, List.set_cons_succ]
  refine take_one 3 32 (v := ?_) rfl rfl (by kernel_rfl) (by kernel_rfl) (by kernel_rfl) (fun _ _ _ h => h) (Or.inl ⟨by rfl, ?_⟩) hHeld ?_
  rotate_left
  · intro w' hSw; (try dsimp only at hSw); have d0 := hSw.at 0 rfl; have d1 := hSw.at 1 rfl; go_simp; try with_reducible rfl
  try simp only [Act.put, List.setIfInBounds_toArray, List.set_cons_zero, List.set_cons_succ]
  refine take_one 4 33 (v := ?_) rfl rfl (by kernel_rfl) (by kernel_rfl) (by kernel_rfl) (fun _ _ _ h => h) (Or.inl ⟨by rfl, ?_⟩) hHeld ?_
  rotate_left
  · intro w' hSw; (try dsimp only at hSw); have d0 := hSw.at 0 rfl; have d1 := hSw.at 1 rfl; go_simp; try with_reducible rfl
  try simp only [Act.put, List.setIfInBounds_toArray, List.set_cons_zero, List.set_cons_succ]
  refine take_one 5 34 (v := ?_) rfl rfl (by kernel_rfl) (by kernel_rfl) (by kernel_rfl) (fun _ _ _ h => h) (Or.inl ⟨by rfl, ?_⟩) hHeld ?_
  rotate_left
  · intro w' hSw; (try dsimp only at hSw); have d0 := hSw.at 0 rfl; have d1 := hSw.at 1 rfl; go_simp; try with_reducible rfl
  try simp only [Act.put, List.setIfInBounds_toArray, List.set_cons_zero, List.set_cons_succ]
  refine take_one 6 35 (v := ?_) rfl rfl (by kernel_rfl) (by kernel_rfl) (by kernel_rfl) (fun _ _ _ h => h) (Or.inl ⟨by rfl, ?_⟩) hHeld ?_
  rotate_left
  · intro w' hSw; (try dsimp only at hSw); have d0 := hSw.at 0 rfl; have d1 := hSw.at 1 rfl; go_simp; try with_reducible rfl
  try simp only [Act.put, List.setIfInBounds_toArray, List.set_cons_zero, List.set_cons_succ]
  refine take_one 7 36 (v := ?_) rfl rfl (by kernel_rfl) (by kernel_rfl) (by kernel_rfl) (fun _ _ _ h => h) (Or.inl ⟨by rfl, ?_⟩) hHeld ?_
  rotate_left
  · intro w' hSw; (try dsimp only at hSw); have d0 := hSw.at 0 rfl; have d1 := hSw.at 1 rfl; go_simp; try with_reducible rfl
  try simp only [Act.put, List.setIfInBounds_toArray, List.set_cons_zero, List.set_cons_succ]
  refine take_one 8 37 (v := ?_) rfl rfl (by kernel_rfl) (by kernel_rfl) (by kernel_rfl) (fun _ _ _ h => h) (Or.inl ⟨by rfl, ?_⟩) hHeld ?_
  rotate_left
  · intro w' hSw; (try dsimp only at hSw); have d0 := hSw.at 0 rfl; have d1 := hSw.at 1 rfl; go_simp; try with_reducible rfl
  try simp only [Act.put, List.setIfInBounds_toArray, List.set_cons_zero, List.set_cons_succ]
  refine take_one 9 38 (v := ?_) rfl rfl (by kernel_rfl) (by kernel_rfl) (by kernel_rfl) (fun _ _ _ h => h) (Or.inl ⟨by rfl, ?_⟩) hHeld ?_
  rotate_left
  · intro w' hSw; (try dsimp only at hSw); have d0 := hSw.at 0 rfl; have d1 := hSw.at 1 rfl; go_simp; try with_reducible rfl
  try simp only [Act.put, List.setIfInBounds_toArray, List.set_cons_zero, List.set_cons_succ]
  refine take_one 10 39 (v := ?_) rfl rfl (by kernel_rfl) (by kernel_rfl) (by kernel_rfl) (fun _ _ _ h => h) (Or.inl ⟨by rfl, ?_⟩) hHeld ?_
  rotate_left
  · intro w' hSw; (try dsimp only at hSw); have d0 := hSw.at 0 rfl; have d1 := hSw.at 1 rfl; go_simp; try with_reducible rfl
  try simp only [Act.put, List.setIfInBounds_toArray, List.set_cons_zero, List.set_cons_succ]
  refine take_one 11 40 (v := ?_) rfl rfl (by kernel_rfl) (by kernel_rfl) (by kernel_rfl) (fun _ _ _ h => h) (Or.inl ⟨by rfl, ?_⟩) hHeld ?_
  rotate_left
  · intro w' hSw; (try dsimp only at hSw); have d0 := hSw.at 0 rfl; have d1 := hSw.at 1 rfl; go_simp; try with_reducible rfl
  try simp only [Act.put, List.setIfInBounds_toArray, List.set_cons_zero, List.set_cons_succ]
  refine wpAnyH_ready (rs := [12]) (by kernel_rfl) (by simp) ?_
  refine AllReadyH.cons (i := 12) rfl (fun K hK => ?_) AllReadyH.nil
  go_simp
  refine hK.out _ _ Q6 (fun hHeld2 => ?_)
  clear hK K hHeld
  have hHeld := hHeld2
  clear hHeld2
  try simp only [Act.put, List.setIfInBounds_toArray, List.set_cons_zero, List.set_cons_succ]
  refine take_one 13 41 (v := ?_) rfl rfl (by kernel_rfl) (by kernel_rfl) (by kernel_rfl) (fun _ _ _ h => h) (Or.inl ⟨by rfl, ?_⟩) hHeld ?_
  rotate_left
  · intro w' hSw; (try dsimp only at hSw); have d0 := hSw.at 0 rfl; have d1 := hSw.at 1 rfl; go_simp; try with_reducible rfl
  try simp only [Act.put, List.setIfInBounds_toArray, List.set_cons_zero, List.set_cons_succ]
  refine take_one 14 42 (v := ?_) rfl rfl (by kernel_rfl) (by kernel_rfl) (by kernel_rfl) (fun _ _ _ h => h) (Or.inl ⟨by rfl, ?_⟩) hHeld ?_
  rotate_left
  · intro w' hSw; (try dsimp only at hSw); have d0 := hSw.at 0 rfl; have d1 := hSw.at 1 rfl; go_simp; try with_reducible rfl
  try simp only [Act.put, List.setIfInBounds_toArray, List.set_cons_zero, List.set_cons_succ]
  refine take_one 15 43 (v := ?_) rfl rfl (by kernel_rfl) (by kernel_rfl) (by kernel_rfl) (fun _ _ _ h => h) (Or.inl ⟨by rfl, ?_⟩) hHeld ?_
  rotate_left
  · intro w' hSw; (try dsimp only at hSw); have d0 := hSw.at 0 rfl; have d1 := hSw.at 1 rfl; go_simp; try with_reducible rfl
  try simp only [Act.put, List.setIfInBounds_toArray, List.set_cons_zero, List.set_cons_succ]
  refine take_one 16 44 (v := ?_) rfl rfl (by kernel_rfl) (by kernel_rfl) (by kernel_rfl) (fun _ _ _ h => h) (Or.inl ⟨by rfl, ?_⟩) hHeld ?_
  rotate_left
  · intro w' hSw; (try dsimp only at hSw); have d0 := hSw.at 0 rfl; have d1 := hSw.at 1 rfl; go_simp; try with_reducible rfl
  try simp only [Act.put, List.setIfInBounds_toArray, List.set_cons_zero, List.set_cons_succ]
  refine wpAnyH_ready (rs := [17]) (by kernel_rfl) (by simp) ?_
  refine AllReadyH.cons (i := 17) rfl (fun K hK => ?_) AllReadyH.nil
  go_simp
  refine hK.out _ _ Q7 (fun hHeld2 => ?_)
  clear hK K hHeld
  have hHeld := hHeld2
  clear hHeld2
  try simp only [Act.put, List.setIfInBounds_toArray, List.set_cons_zero, List.set_cons_succ]
  refine wpAnyH_done (by kernel_rfl) ?_ _
  try rw [hV6]
  try rw [hV7]
  clear hHeld k1 f1 k2 f2 hV6 hV7 T5 T6 Q5 Q6 Q7 X5 X6 B5 B6 hp5 hp6 hlt5 hlt6
  have q0 := X7.at 2 rfl
  go_wp2_with fail
  refine (HR _).mono ?_
  rintro en w8 ⟨rfl, hb8⟩
  have T8 := T7.later hb8 hp7
  have B8 : Below p w w8 := B7.trans (hb8.mono (Nat.le_of_lt hp7))
  clear T7 X7 B7 hb8 hp7 hlt7 q0
  have F := show Hid _ from (show Blk p [.int .i64 kv, .int .i64 sv, .int .i64 n, .int .i64 ra, .int .i64 rb, .int .i64 rc, .int .i64 key] ((((w8).setCell ⟨p, 3, none⟩ (.int .i64 ra)).setCell ⟨p, 4, none⟩ (.int .i64 rb)).setCell ⟨p, 5, none⟩ (.int .i64 rc)) ∧ Below p w ((((w8).setCell ⟨p, 3, none⟩ (.int .i64 ra)).setCell ⟨p, 4, none⟩ (.int .i64 rb)).setCell ⟨p, 5, none⟩ (.int .i64 rc)) from
    ⟨((T8.set 3 (.int .i64 ra)).set 4 (.int .i64 rb)).set 5 (.int .i64 rc), (((B8.setCell (by dsimp only; omega) _).setCell (by dsimp only; omega) _).setCell (by dsimp only; omega) _)⟩)
  have k3 := T8.at 3 rfl
  have f3 := T8.fz 3 rfl
  have k4 := T8.at 4 rfl
  have f4 := T8.fz 4 rfl
  have k5 := T8.at 5 rfl
  have f5 := T8.fz 5 rfl
  clear T8 B8
  go_wp2
  first | exact ⟨_, results_none rfl _ _ _, rfl, F.out⟩ | exact ⟨rfl, _, results_none rfl _ _ _, rfl, F.out⟩
end Go.Proofs.YtbkemhclncmicaaGreat

set_option linter.unusedVariables false
namespace Go.Proofs.YtbkemhclncmicaaGreat
open Go Go.RowKit Go.Joins Own Var Term

theorem own_set {w : World} {base n : Nat} {e : TypeId} {v : Value} {xs : List Value} (h : w.ownsRow base e 1 v n xs) (q i : Nat) (u : Value) (hn : ∀ k, v.ownBlock = some k → k ≠ q) : (w.setCell ⟨q, i, none⟩ u).ownsRow base e 1 v n xs := by
  refine ⟨h.1, ?_⟩
  rcases h.2 with h0 | ⟨g, cap, cur, e1, e2, e3, e4⟩
  · exact Or.inl h0
  · refine Or.inr ⟨g, cap, cur, e1, e2, ?_, e4⟩
    have : g ≠ q := hn g (by rw [e1]; rfl)
    rw [Below.heap_setCell _ _ _ _ (by first | exact this | exact fun h => this h.symm | omega)]
    exact e3
theorem own_in {w : World} {base n : Nat} {e : TypeId} {v : Value} {xs : List Value} (h : w.ownsRow base e 1 v n xs) : ∀ k, v.ownBlock = some k → base ≤ k ∧ k < w.heap.size := by
  intro k hk
  rcases h.2 with ⟨h0, _⟩ | ⟨g, cap, cur, e1, e2, e3, e4⟩
  · rw [h0] at hk; cases hk
  · subst e1
    simp only [Value.ownBlock, Option.some.injEq] at hk
    subst hk
    exact ⟨e2, (h.lt g rfl).2⟩
/-- Two rows that lie apart. -/
def Apart (u v : Value) : Prop := ∀ k, u.ownBlock = some k → v.ownBlock ≠ some k
theorem apart_of {u v : Value} {m : Nat} (hu : ∀ k, u.ownBlock = some k → k < m) (hv : ∀ k, v.ownBlock = some k → m ≤ k) : Apart u v := by
  intro k h1 h2
  have := hu k h1
  have := hv k h2
  omega
theorem apart_nil (v : Value) : Apart (.slice none 0 0) v := by intro k h; cases h

set_option maxRecDepth 100000 in
set_option maxHeartbeats 12800000 in
theorem fillT_is (p : Nat) (c0 s0 k0 a0 b0 e0 key : Int) (s : ByteArray) (w : World) (hT : Blk p [.int .i64 c0, .int .i64 s0, .int .i64 k0, .int .i64 a0, .int .i64 b0, .int .i64 e0, .slice none 0 0, .slice none 0 0, .int .i64 key] w) (hp : p < w.heap.size) (hs : s.size ≤ 1048576)
    (x0 x1 x2 x3 x4 : ByteArray) (hx : just (⟨#[]⟩ : ByteArray) (partsR (openR s key).1).1 5 = [x0, x1, x2, x3, x4]) (c sv : Int) (hw : just 0 (numsR x0).1 2 = [c, sv]) :
    Calls Tryz.prog 26 #[.pointer (some ⟨p, 0, none⟩), .string s] w fun en w' => ∃ (ua : Option Addr) (uc : Nat) (va : Option Addr) (vc : Nat), en = .returned (.tuple #[]) ∧
      Blk p [.int .i64 c, .int .i64 sv, .int .i64 (keyR x1).1, .int .i64 (rdA (numsR x2).1), .int .i64 (rdB (numsR x2).1), .int .i64 (rdC (numsR x2).1), .slice ua (numsR x3).1.length uc, .slice va (numsR x4).1.length vc, .int .i64 key] w' ∧
      w'.ownsRow w.heap.size 3 1 (.slice ua (numsR x3).1.length uc) (numsR x3).1.length (intV (numsR x3).1) ∧ w'.ownsRow w.heap.size 3 1 (.slice va (numsR x4).1.length vc) (numsR x4).1.length (intV (numsR x4).1) ∧
      Apart (.slice ua (numsR x3).1.length uc) (.slice va (numsR x4).1.length vc) ∧ Below p w w' := by
  have hz := just_size (openR s key).1 5
  rw [hx] at hz
  have z0 : x0.size ≤ 1048576 := Nat.le_trans (hz x0 (by simp)) (by omega)
  have z1 : x1.size ≤ 1048576 := Nat.le_trans (hz x1 (by simp)) (by omega)
  have z2 : x2.size ≤ 1048576 := Nat.le_trans (hz x2 (by simp)) (by omega)
  have z3 : x3.size ≤ 1048576 := Nat.le_trans (hz x3 (by simp)) (by omega)
  have z4 : x4.size ≤ 1048576 := Nat.le_trans (hz x4 (by simp)) (by omega)
  clear hz
  have d0 := hT.at 0 rfl
  have d1 := hT.at 1 rfl
  have d2 := hT.at 2 rfl
  have d3 := hT.at 3 rfl
  have d4 := hT.at 4 rfl
  have d5 := hT.at 5 rfl
  have d6 := hT.at 6 rfl
  have d7 := hT.at 7 rfl
  have d8 := hT.at 8 rfl
  have HP : Hid (p < w.heap.size) := hp
  clear hp
  have HK := fun w => impl_readKey x1 w z1
  have HR := fun w => implRead_is x2 w z2
  have H3 := fun w => impl_readNums x3 w z3
  have H4 := fun w => impl_readNums x4 w z4
  generalize (keyR x1).1 = kv at HK ⊢
  generalize (keyR x1).2 = kb at HK
  generalize rdA (numsR x2).1 = ra at HR ⊢
  generalize rdB (numsR x2).1 = rb at HR ⊢
  generalize rdC (numsR x2).1 = rc at HR ⊢
  generalize rdK (numsR x2).1 = rk at HR
  generalize (numsR x3).1 = PL at H3 ⊢
  generalize (numsR x3).2 = pb at H3
  generalize (numsR x4).1 = VL at H4 ⊢
  generalize (numsR x4).2 = vb at H4
  clear z1 z2 z3 z4
  go_enter Tryz.func26, Tryz.ntmps26
  go_wp2_with fail
  refine (openT_is c0 s0 k0 a0 b0 e0 none 0 0 none 0 0 key s _ hs).mono ?_
  rintro en w1 ⟨rfl, hb1⟩
  have T1 := hT.later hb1 HP.out
  have P1 : Hid (p < w1.heap.size) := Nat.lt_of_lt_of_le HP.out hb1.size
  have B1 : Below p w w1 := hb1.mono (Nat.le_of_lt HP.out)
  have M1 : w.heap.size ≤ w1.heap.size := hb1.size
  clear hT hb1 d0 d1 d2 d3 d4 d5 d6 d7 d8
  have HN := partsOf_is (openR s key).1 5 w1 (Nat.le_trans (openR_size s key) (by omega)) (by omega)
  rw [hx] at HN
  go_wp2_with fail
  refine HN.mono ?_
  rintro en w2 ⟨u, rfl, ho, hb2⟩
  clear HN
  obtain ⟨gp, capp, rfl, hcap, hg, hlt, X2⟩ := own_blk (f := Value.string) (xs := [x0, x1, x2, x3, x4]) ho (by omega)
  have T2 := T1.later hb2 P1.out
  have P2 : Hid (p < w2.heap.size) := Nat.lt_of_lt_of_le P1.out hb2.size
  have B2 : Below p w w2 := B1.trans (hb2.mono (Nat.le_of_lt P1.out))
  have M2 : w.heap.size ≤ w2.heap.size := Nat.le_trans M1 hb2.size
  have hgp : p ≠ gp := by have := P1.out; omega
  have hc5 : (5 : Int) ≤ (capp : Int) := by omega
  have X2' : Blk gp [.string x0, .string x1, .string x2, .string x3, .string x4] w2 := X2
  clear T1 B1 hb2 ho P1 hg X2 hcap M1
  have q0 := X2'.at 0 rfl
  have HN := numbersOf_is x0 2 w2 z0 (by omega)
  rw [hw] at HN
  go_wp2_with fail
  refine HN.mono ?_
  rintro en w3 ⟨u, rfl, ho, hb3⟩
  clear HN q0 z0
  obtain ⟨g5, cap5, rfl, hcap, hg, hlt5, Q3⟩ := own_blk (f := Value.int .i64) (xs := [c, sv]) ho (by omega)
  have T5 := T2.later hb3 P2.out
  have X5 := X2'.later hb3 hlt
  have hp5 : p < w3.heap.size := Nat.lt_of_lt_of_le P2.out hb3.size
  have B5 : Below p w w3 := B2.trans (hb3.mono (Nat.le_of_lt P2.out))
  have M5 : w.heap.size ≤ w3.heap.size := Nat.le_trans M2 hb3.size
  have hlt5' : gp < w3.heap.size := Nat.lt_of_lt_of_le hlt hb3.size
  have hg5 : p ≠ g5 := by have := P2.out; omega
  have hc2 : (2 : Int) ≤ (cap5 : Int) := by omega
  have Q5 : Blk g5 [.int .i64 c, .int .i64 sv] w3 := Q3
  clear T2 B2 hb3 ho P2 hg X2' Q3 hcap hlt M2 hlt5
  go_wp2_with fail
  obtain ⟨V6, hV6⟩ : ∃ V, w3.drew.setCell ⟨p, 0, none⟩ (.int .i64 c) = V := ⟨_, rfl⟩
  have T6 : Blk p [.int .i64 c, .int .i64 s0, .int .i64 k0, .int .i64 a0, .int .i64 b0, .int .i64 e0, .slice none 0 0, .slice none 0 0, .int .i64 key] V6 := by rw [← hV6]; exact T5.drew.set 0 _
  have Q6 : Blk g5 [.int .i64 c, .int .i64 sv] V6 := by rw [← hV6]; exact Q5.drew.far hg5 0 _
  have X6 : Blk gp [.string x0, .string x1, .string x2, .string x3, .string x4] V6 := by rw [← hV6]; exact X5.drew.far hgp 0 _
  have B6 : Below p w V6 := by rw [← hV6]; exact B5.drew.setCell (by dsimp only; omega) _
  have hp6 : p < V6.heap.size := by rw [← hV6]; simpa using hp5
  have hlt6 : gp < V6.heap.size := by rw [← hV6]; simpa using hlt5'
  have M6 : w.heap.size ≤ V6.heap.size := by rw [← hV6]; simpa using M5
  obtain ⟨V7, hV7⟩ : ∃ V, V6.setCell ⟨p, 1, none⟩ (.int .i64 sv) = V := ⟨_, rfl⟩
  have T7 : Blk p [.int .i64 c, .int .i64 sv, .int .i64 k0, .int .i64 a0, .int .i64 b0, .int .i64 e0, .slice none 0 0, .slice none 0 0, .int .i64 key] V7 := by rw [← hV7]; exact T6.set 1 _
  have Q7 : Blk g5 [.int .i64 c, .int .i64 sv] V7 := by rw [← hV7]; exact Q6.far hg5 1 _
  have X7 : Blk gp [.string x0, .string x1, .string x2, .string x3, .string x4] V7 := by rw [← hV7]; exact X6.far hgp 1 _
  have B7 : Below p w V7 := by rw [← hV7]; exact B6.setCell (by dsimp only; omega) _
  have hp7 : p < V7.heap.size := by rw [← hV7]; simpa using hp6
  have hlt7 : gp < V7.heap.size := by rw [← hV7]; simpa using hlt6
  have M7 : w.heap.size ≤ V7.heap.size := by rw [← hV7]; simpa using M6
  have k0 := T5.at 0 rfl
  have f0 := T5.fz 0 rfl
  have k1 := T6.at 1 rfl
  have f1 := T6.fz 1 rfl
  refine wp_region_held_drew (S := (fun Vw => Blk g5 [.int .i64 c, .int .i64 sv] Vw)) (by kernel_rfl) Q5.drew (fun hHeld => ?_)
  refine take_one 0 17 (v := ?_) rfl rfl (by kernel_rfl) (by kernel_rfl) (by kernel_rfl) (fun _ _ _ h => h) (Or.inl ⟨by rfl, ?_⟩) hHeld ?_
  rotate_left
  · intro w' hSw; (try dsimp only at hSw); have d0 := hSw.at 0 rfl; have d1 := hSw.at 1 rfl; go_simp; try with_reducible rfl
  try simp only [Act.put, List.setIfInBounds_toArray, List.set_cons_zero, List.set_cons_succ]
  refine take_one 1 18 (v := ?_) rfl rfl (by kernel_rfl) (by kernel_rfl) (by kernel_rfl) (fun _ _ _ h => h) (Or.inl ⟨by rfl, ?_⟩) hHeld ?_
  rotate_left
  · intro w' hSw; (try dsimp only at hSw); have d0 := hSw.at 0 rfl; have d1 := hSw.at 1 rfl; go_simp; try with_reducible rfl
  try simp only [Act.put, List.setIfInBounds_toArray, List.set_cons_zero, List.set_cons_succ]
  refine take_one 2 19 (v := ?_) rfl rfl (by kernel_rfl) (by kernel_rfl) (by kernel_rfl) (fun _ _ _ h => h) (Or.inl ⟨by rfl, ?_⟩) hHeld ?_
  rotate_left
  · intro w' hSw; (try dsimp only at hSw); have d0 := hSw.at 0 rfl; have d1 := hSw.at 1 rfl; go_simp; try with_reducible rfl
  try simp only [Act.put, List.setIfInBounds_toArray, List.set_cons_zero, List.set_cons_succ]
  refine take_one 3 20 (v := ?_) rfl rfl (by kernel_rfl) (by kernel_rfl) (by kernel_rfl) (fun _ _ _ h => h) (Or.inl ⟨by rfl, ?_⟩) hHeld ?_
  rotate_left
  · intro w' hSw; (try dsimp only at hSw); have d0 := hSw.at 0 rfl; have d1 := hSw.at 1 rfl; go_simp; try with_reducible rfl
  try simp only [Act.put, List.setIfInBounds_toArray, List.set_cons_zero, List.set_cons_succ]
  refine take_one 4 21 (v := ?_) rfl rfl (by kernel_rfl) (by kernel_rfl) (by kernel_rfl) (fun _ _ _ h => h) (Or.inl ⟨by rfl, ?_⟩) hHeld ?_
  rotate_left
  · intro w' hSw; (try dsimp only at hSw); have d0 := hSw.at 0 rfl; have d1 := hSw.at 1 rfl; go_simp; try with_reducible rfl
  try simp only [Act.put, List.setIfInBounds_toArray, List.set_cons_zero, List.set_cons_succ]
  refine take_one 5 22 (v := ?_) rfl rfl (by kernel_rfl) (by kernel_rfl) (by kernel_rfl) (fun _ _ _ h => h) (Or.inl ⟨by rfl, ?_⟩) hHeld ?_
  rotate_left
  · intro w' hSw; (try dsimp only at hSw); have d0 := hSw.at 0 rfl; have d1 := hSw.at 1 rfl; go_simp; try with_reducible rfl
  try simp only [Act.put, List.setIfInBounds_toArray, List.set_cons_zero, List.set_cons_succ]
  refine take_one 6 23 (v := ?_) rfl rfl (by kernel_rfl) (by kernel_rfl) (by kernel_rfl) (fun _ _ _ h => h) (Or.inl ⟨by rfl, ?_⟩) hHeld ?_
  rotate_left
  · intro w' hSw; (try dsimp only at hSw); have d0 := hSw.at 0 rfl; have d1 := hSw.at 1 rfl; go_simp; try with_reducible rfl
  try simp only [Act.put, List.setIfInBounds_toArray, List.set_cons_zero, List.set_cons_succ]
  refine take_one 7 24 (v := ?_) rfl rfl (by kernel_rfl) (by kernel_rfl) (by kernel_rfl) (fun _ _ _ h => h) (Or.inl ⟨by rfl, ?_⟩) hHeld ?_
  rotate_left
  · intro w' hSw; (try dsimp only at hSw); have d0 := hSw.at 0 rfl; have d1 := hSw.at 1 rfl; go_simp; try with_reducible rfl
  try simp only [Act.put, List.setIfInBounds_toArray, List.set_cons_zero, List.set_cons_succ]
  refine take_one 8 25 (v := ?_) rfl rfl (by kernel_rfl) (by kernel_rfl) (by kernel_rfl) (fun _ _ _ h => h) (Or.inl ⟨by rfl, ?_⟩) hHeld ?_
  rotate_left
  · intro w' hSw; (try dsimp only at hSw); have d0 := hSw.at 0 rfl; have d1 := hSw.at 1 rfl; go_simp; try with_reducible rfl
  try simp only [Act.put, List.setIfInBounds_toArray, List.set_cons_zero, List.set_cons_succ]
  refine take_one 9 26 (v := ?_) rfl rfl (by kernel_rfl) (by kernel_rfl) (by kernel_rfl) (fun _ _ _ h => h) (Or.inl ⟨by rfl, ?_⟩) hHeld ?_
  rotate_left
  · intro w' hSw; (try dsimp only at hSw); have d0 := hSw.at 0 rfl; have d1 := hSw.at 1 rfl; go_simp; try with_reducible rfl
  try simp only [Act.put, List.setIfInBounds_toArray, List.set_cons_zero, List.set_cons_succ]
  refine take_one 10 27 (v := ?_) rfl rfl (by kernel_rfl) (by kernel_rfl) (by kernel_rfl) (fun _ _ _ h => h) (Or.inl ⟨by rfl, ?_⟩) hHeld ?_
  rotate_left
  · intro w' hSw; (try dsimp only at hSw); have d0 := hSw.at 0 rfl; have d1 := hSw.at 1 rfl; go_simp; try with_reducible rfl
  try simp only [Act.put, List.setIfInBounds_toArray, List.set_cons_zero, List.set_cons_succ]
  refine take_one 11 28 (v := ?_) rfl rfl (by kernel_rfl) (by kernel_rfl) (by kernel_rfl) (fun _ _ _ h => h) (Or.inl ⟨by rfl, ?_⟩) hHeld ?_
  rotate_left
  · intro w' hSw; (try dsimp only at hSw); have d0 := hSw.at 0 rfl; have d1 := hSw.at 1 rfl; go_simp; try with_reducible rfl
  try simp only [Act.put, List.setIfInBounds_toArray, List.set_cons_zero, List.set_cons_succ]
  refine wpAnyH_ready (rs := [12]) (by kernel_rfl) (by simp) ?_
  refine AllReadyH.cons (i := 12) rfl (fun K hK => ?_) AllReadyH.nil
  go_simp
  refine hK.out _ _ Q6 (fun hHeld2 => ?_)
  clear hK K hHeld
  have hHeld := hHeld2
  clear hHeld2
  try simp only [Act.put, List.setIfInBounds_toArray, List.set_cons_zero, List.set_cons_succ]
  refine take_one 13 29 (v := ?_) rfl rfl (by kernel_rfl) (by kernel_rfl) (by kernel_rfl) (fun _ _ _ h => h) (Or.inl ⟨by rfl, ?_⟩) hHeld ?_
  rotate_left
  · intro w' hSw; (try dsimp only at hSw); have d0 := hSw.at 0 rfl; have d1 := hSw.at 1 rfl; go_simp; try with_reducible rfl
  try simp only [Act.put, List.setIfInBounds_toArray, List.set_cons_zero, List.set_cons_succ]
  refine take_one 14 30 (v := ?_) rfl rfl (by kernel_rfl) (by kernel_rfl) (by kernel_rfl) (fun _ _ _ h => h) (Or.inl ⟨by rfl, ?_⟩) hHeld ?_
  rotate_left
  · intro w' hSw; (try dsimp only at hSw); have d0 := hSw.at 0 rfl; have d1 := hSw.at 1 rfl; go_simp; try with_reducible rfl
  try simp only [Act.put, List.setIfInBounds_toArray, List.set_cons_zero, List.set_cons_succ]
  refine take_one 15 31 (v := ?_) rfl rfl (by kernel_rfl) (by kernel_rfl) (by kernel_rfl) (fun _ _ _ h => h) (Or.inl ⟨by rfl, ?_⟩) hHeld ?_
  rotate_left
  · intro w' hSw; (try dsimp only at hSw); have d0 := hSw.at 0 rfl; have d1 := hSw.at 1 rfl; go_simp; try with_reducible rfl
  try simp only [Act.put, List.setIfInBounds_toArray, List.set_cons_zero, List.set_cons_succ]
  refine take_one 16 32 (v := ?_) rfl rfl (by kernel_rfl) (by kernel_rfl) (by kernel_rfl) (fun _ _ _ h => h) (Or.inl ⟨by rfl, ?_⟩) hHeld ?_
  rotate_left
  · intro w' hSw; (try dsimp only at hSw); have d0 := hSw.at 0 rfl; have d1 := hSw.at 1 rfl; go_simp; try with_reducible rfl
  try simp only [Act.put, List.setIfInBounds_toArray, List.set_cons_zero, List.set_cons_succ]
  refine wpAnyH_ready (rs := [17]) (by kernel_rfl) (by simp) ?_
  refine AllReadyH.cons (i := 17) rfl (fun K hK => ?_) AllReadyH.nil
  go_simp
  refine hK.out _ _ Q7 (fun hHeld2 => ?_)
  clear hK K hHeld
  have hHeld := hHeld2
  clear hHeld2
  try simp only [Act.put, List.setIfInBounds_toArray, List.set_cons_zero, List.set_cons_succ]
  refine wpAnyH_done (by kernel_rfl) ?_ _
  try rw [hV6]
  try rw [hV7]
  clear hHeld k0 f0 k1 f1 hV6 hV7 T5 T6 Q5 Q6 Q7 X5 X6 B5 B6 hp5 hp6 hlt5' hlt6 M5 M6
  have q0 := X7.at 1 rfl
  go_wp2_with fail
  refine (HK _).mono ?_
  rintro en w8 ⟨rfl, hb8⟩
  have T8 := T7.later hb8 hp7
  have X8 := X7.later hb8 hlt7
  have B8 : Below p w w8 := B7.trans (hb8.mono (Nat.le_of_lt hp7))
  have hp8 : p < w8.heap.size := Nat.lt_of_lt_of_le hp7 hb8.size
  have hlt8 : gp < w8.heap.size := Nat.lt_of_lt_of_le hlt7 hb8.size
  have M8 : w.heap.size ≤ w8.heap.size := Nat.le_trans M7 hb8.size
  clear T7 X7 B7 hb8 hp7 hlt7 M7 q0 HK
  obtain ⟨V9, hV9⟩ : ∃ V, w8.setCell ⟨p, 2, none⟩ (.int .i64 kv) = V := ⟨_, rfl⟩
  have T9 : Blk p [.int .i64 c, .int .i64 sv, .int .i64 kv, .int .i64 a0, .int .i64 b0, .int .i64 e0, .slice none 0 0, .slice none 0 0, .int .i64 key] V9 := by rw [← hV9]; exact T8.set 2 _
  have X9 : Blk gp [.string x0, .string x1, .string x2, .string x3, .string x4] V9 := by rw [← hV9]; exact X8.far hgp 2 _
  have B9 : Below p w V9 := by rw [← hV9]; exact B8.setCell (by dsimp only; omega) _
  have hp9 : p < V9.heap.size := by rw [← hV9]; simpa using hp8
  have hlt9 : gp < V9.heap.size := by rw [← hV9]; simpa using hlt8
  have M9 : w.heap.size ≤ V9.heap.size := by rw [← hV9]; simpa using M8
  have k2 := T8.at 2 rfl
  have f2 := T8.fz 2 rfl
  have q0 := X9.at 2 rfl
  go_wp2_with fail
  try rw [hV9]
  refine (HR _).mono ?_
  clear k2 f2 q0 hV9 T8 X8 B8 hp8 hlt8 M8
  rintro en w10 ⟨rfl, hb10⟩
  have T10 := T9.later hb10 hp9
  have X10 := X9.later hb10 hlt9
  have B10 : Below p w w10 := B9.trans (hb10.mono (Nat.le_of_lt hp9))
  have hp10 : p < w10.heap.size := Nat.lt_of_lt_of_le hp9 hb10.size
  have hlt10 : gp < w10.heap.size := Nat.lt_of_lt_of_le hlt9 hb10.size
  have M10 : w.heap.size ≤ w10.heap.size := Nat.le_trans M9 hb10.size
  clear T9 X9 B9 hb10 hp9 hlt9 M9 HR
  obtain ⟨V11, hV11⟩ : ∃ V, (((w10).setCell ⟨p, 3, none⟩ (.int .i64 ra)).setCell ⟨p, 4, none⟩ (.int .i64 rb)).setCell ⟨p, 5, none⟩ (.int .i64 rc) = V := ⟨_, rfl⟩
  have T11 : Blk p [.int .i64 c, .int .i64 sv, .int .i64 kv, .int .i64 ra, .int .i64 rb, .int .i64 rc, .slice none 0 0, .slice none 0 0, .int .i64 key] V11 := by rw [← hV11]; exact ((T10.set 3 _).set 4 _).set 5 _
  have X11 : Blk gp [.string x0, .string x1, .string x2, .string x3, .string x4] V11 := by rw [← hV11]; exact ((X10.far hgp 3 _).far hgp 4 _).far hgp 5 _
  have B11 : Below p w V11 := by rw [← hV11]; exact (((B10.setCell (by dsimp only; omega) _).setCell (by dsimp only; omega) _).setCell (by dsimp only; omega) _)
  have hp11 : p < V11.heap.size := by rw [← hV11]; simpa using hp10
  have hlt11 : gp < V11.heap.size := by rw [← hV11]; simpa using hlt10
  have M11 : w.heap.size ≤ V11.heap.size := by rw [← hV11]; simpa using M10
  have k3 := T10.at 3 rfl
  have f3 := T10.fz 3 rfl
  have k4 := T10.at 4 rfl
  have f4 := T10.fz 4 rfl
  have k5 := T10.at 5 rfl
  have f5 := T10.fz 5 rfl
  have q0 := X11.at 3 rfl
  go_wp2_with fail
  try rw [hV11]
  refine (H3 _).mono ?_
  clear k3 f3 k4 f4 k5 f5 q0 hV11 T10 X10 B10 hp10 hlt10 M10
  rintro en w12 ⟨u, rfl, ou, hb12⟩
  obtain ⟨ua, uc, rfl, _, _⟩ := own_row (f := Value.int .i64) ou
  have iu := own_in ou
  have T12 := T11.later hb12 hp11
  have X12 := X11.later hb12 hlt11
  have B12 : Below p w w12 := B11.trans (hb12.mono (Nat.le_of_lt hp11))
  have hp12 : p < w12.heap.size := Nat.lt_of_lt_of_le hp11 hb12.size
  have hlt12 : gp < w12.heap.size := Nat.lt_of_lt_of_le hlt11 hb12.size
  have M12 : w.heap.size ≤ w12.heap.size := Nat.le_trans M11 hb12.size
  have ou' := ownsRow_le ou M11
  have nu : ∀ k, (.slice ua PL.length uc : Value).ownBlock = some k → k ≠ p := fun k h => by have := (iu k h).1; omega
  have lu : ∀ k, (.slice ua PL.length uc : Value).ownBlock = some k → k < w12.heap.size := fun k h => (iu k h).2
  clear T11 X11 B11 hb12 hp11 hlt11 M11 H3 ou iu
  obtain ⟨V13, hV13⟩ : ∃ V, w12.setCell ⟨p, 6, none⟩ (.slice ua PL.length uc) = V := ⟨_, rfl⟩
  have T13 : Blk p [.int .i64 c, .int .i64 sv, .int .i64 kv, .int .i64 ra, .int .i64 rb, .int .i64 rc, .slice ua PL.length uc, .slice none 0 0, .int .i64 key] V13 := by rw [← hV13]; exact T12.set 6 _
  have X13 : Blk gp [.string x0, .string x1, .string x2, .string x3, .string x4] V13 := by rw [← hV13]; exact X12.far hgp 6 _
  have B13 : Below p w V13 := by rw [← hV13]; exact B12.setCell (by dsimp only; omega) _
  have hp13 : p < V13.heap.size := by rw [← hV13]; simpa using hp12
  have M13 : w.heap.size ≤ V13.heap.size := by rw [← hV13]; simpa using M12
  have O13 : V13.ownsRow w.heap.size 3 1 (.slice ua PL.length uc) PL.length (intV PL) := by rw [← hV13]; exact own_set ou' p 6 _ nu
  have l13 : ∀ k, (.slice ua PL.length uc : Value).ownBlock = some k → k < V13.heap.size := by rw [← hV13]; simpa using lu
  have k6 := T12.at 6 rfl
  have f6 := T12.fz 6 rfl
  have q0 := X13.at 4 rfl
  clear lu M12
  go_wp2_with fail
  try rw [hV13]
  refine (H4 _).mono ?_
  clear k6 f6 q0 hV13 T12 X12 B12 hp12 hlt12 ou'
  rintro en w14 ⟨u, rfl, ov, hb14⟩
  obtain ⟨va, vc, rfl, _, _⟩ := own_row (f := Value.int .i64) ov
  have iv := own_in ov
  have T14 := T13.later hb14 hp13
  have O14 := own_later O13 hb14
  have B14 : Below p w w14 := B13.trans (hb14.mono (Nat.le_of_lt hp13))
  have ov' := ownsRow_le ov M13
  have nv : ∀ k, (.slice va VL.length vc : Value).ownBlock = some k → k ≠ p := fun k h => by have := (iv k h).1; omega
  have AP : Apart (.slice ua PL.length uc) (.slice va VL.length vc) := apart_of l13 (fun k h => (iv k h).1)
  have F := show Hid _ from (show Blk p [.int .i64 c, .int .i64 sv, .int .i64 kv, .int .i64 ra, .int .i64 rb, .int .i64 rc, .slice ua PL.length uc, .slice va VL.length vc, .int .i64 key] (w14.setCell ⟨p, 7, none⟩ (.slice va VL.length vc)) ∧ (w14.setCell ⟨p, 7, none⟩ (.slice va VL.length vc)).ownsRow w.heap.size 3 1 (.slice ua PL.length uc) PL.length (intV PL) ∧ (w14.setCell ⟨p, 7, none⟩ (.slice va VL.length vc)).ownsRow w.heap.size 3 1 (.slice va VL.length vc) VL.length (intV VL) ∧ Apart (.slice ua PL.length uc) (.slice va VL.length vc) ∧ Below p w (w14.setCell ⟨p, 7, none⟩ (.slice va VL.length vc)) from
    ⟨T14.set 7 _, own_set O14 p 7 _ nu, own_set ov' p 7 _ nv, AP, B14.setCell (by dsimp only; omega) _⟩)
  have k7 := T14.at 7 rfl
  have f7 := T14.fz 7 rfl
  clear T13 X13 B13 hp13 M13 O13 l13 hb14 T14 O14 B14 ov' nv AP iv ov nu H4
  go_wp2
  first | exact ⟨_, results_none rfl _ _ _, ua, uc, va, vc, rfl, F.out⟩ | exact ⟨rfl, _, results_none rfl _ _ _, ua, uc, va, vc, rfl, F.out⟩
end Go.Proofs.YtbkemhclncmicaaGreat
