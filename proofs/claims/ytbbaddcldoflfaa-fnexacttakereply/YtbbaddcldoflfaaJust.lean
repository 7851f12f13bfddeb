/- Just so many: rows of a fixed length. -/
import Derived.Laws.OwnMore
import Derived.Lib.SmallJoins
import Derived.Test.YtbbaddcldoflfaaReadNums
import Derived.Test.YtbbaddcldoflfaaTick4
set_option linter.unusedVariables false
namespace Go.Proofs.Ytbbaddcldoflfaa
open Go Go.RowKit Go.Joins Own Var Term

def just {α : Type} (z : α) (L : List α) (n : Nat) : List α := if L.length = n then L else List.replicate n z
theorem just_len {α : Type} (z : α) (L : List α) (n : Nat) : (just z L n).length = n := by
  unfold just
  split
  · assumption
  · simp
theorem partsR_len (x : ByteArray) : (partsR x).1.length ≤ 12 := by
  unfold partsR
  cases hr : rk x 108 with
  | none => simp
  | some q =>
    obtain ⟨n, r⟩ := q
    obtain ⟨hn, E, hE⟩ := rk_list hr
    show (psL n r).length ≤ 12
    rw [psL_len n r E hE]
    exact hn
theorem numsR_len (x : ByteArray) : (numsR x).1.length ≤ 12 := by
  unfold numsR numsP
  split
  · simp [partsR_len]
  · simp

set_option maxRecDepth 100000 in
set_option maxHeartbeats 800000 in
theorem justnumbers_is (v : Value) (L : List Int) (n base : Nat) (w : World) (ho : w.ownsRow base 3 1 v L.length (intV L)) (hl : L.length ≤ 1048576) (hn : n ≤ 1048576) (hb : base ≤ w.heap.size) :
    Calls Try.prog 51 #[v, .int .i64 n] w fun e w' => ∃ u, e = .returned u ∧ w'.ownsRow base 3 1 u n (intV (just (0 : Int) L n)) ∧ Below w.heap.size w w' := by
  obtain ⟨a, cap, rfl, hcap, hrow⟩ := own_row (f := (Value.int .i64)) ho
  by_cases h : L.length = n
  · have hd : ((L.length : Int) == (n : Int)) = true := by simp; omega
    have hj : just (0 : Int) L n = L := by unfold just; rw [if_pos h]
    rw [hj]
    subst h
    clear hrow
    go_enter Try.func51, Try.ntmps51
    go_wp2
    go_ret
    exact ⟨_, rfl, ho, Below.refl _ _⟩
  · have hd : ((L.length : Int) == (n : Int)) = false := by simp; omega
    have hj : just (0 : Int) L n = List.replicate n (0 : Int) := by unfold just; rw [if_neg h]
    rw [hj]
    obtain ⟨i0, hi, hz0, hz1, hz2⟩ := info_parts infoInt
    clear hrow ho
    go_enter Try.func51, Try.ntmps51
    go_wp2_with (first | (at_make; refine wpList_make_full _ rfl _ _ 52 rfl w.heap.size 3 i0 ((Value.int .i64) (0 : Int)) 1 Try.underlying52 hi hz0 hz1 .i64 .i64 n n n rfl rfl rfl rfl (by rw [hz2]; omega) (by unfold maxLen; omega) (Nat.le_refl _) ?_) | go_in)
    intro w1 hown hgrow
    have hbel := (Below.refl w.heap.size w).grown hgrow (Nat.le_refl _) (by simp)
    clear hgrow
    rw [toList_madeCells_one] at hown
    go_wp2
    go_ret
    refine ⟨_, rfl, ?_, hbel⟩
    have e : intV (List.replicate n (0 : Int)) = List.replicate n ((Value.int .i64) (0 : Int)) := by unfold intV; simp
    rw [e]
    exact ownsRow_le hown hb

set_option maxRecDepth 100000 in
set_option maxHeartbeats 800000 in
theorem numbersOf_is (x : ByteArray) (n : Nat) (w : World) (hx : x.size ≤ 1048576) (hn : n ≤ 1048576) :
    Calls Try.prog 27 #[.string x, .int .i64 n] w fun e w' => ∃ u, e = .returned u ∧ w'.ownsRow w.heap.size 3 1 u n (intV (just (0 : Int) (numsR x).1 n)) ∧ Below w.heap.size w w' := by
  have HL : (numsR x).1.length ≤ 1048576 := Nat.le_trans (numsR_len x) (by omega)
  have HC := impl_readNums x w hx
  generalize (numsR x).1 = L at HC HL ⊢
  generalize (numsR x).2 = bb at HC
  go_enter Try.func27, Try.ntmps27
  go_wp2_with fail
  refine HC.mono ?_
  rintro e w1 ⟨v, rfl, ho, hb1⟩
  clear HC
  have HJ := justnumbers_is v L n w.heap.size w1 ho HL hn hb1.size
  obtain ⟨a, cap, rfl, _, _⟩ := own_row (f := (Value.int .i64)) ho
  clear ho
  go_wp2_with fail
  refine HJ.mono ?_
  rintro e w2 ⟨u, rfl, ho2, hb2⟩
  have B2 := hb1.trans (hb2.mono hb1.size)
  clear HJ hb1 hb2
  obtain ⟨a2, cap2, rfl, _, _⟩ := own_row (f := (Value.int .i64)) (xs := just (0 : Int) L n) ho2
  go_wp2
  go_ret
  exact ⟨_, rfl, ho2, B2⟩

set_option maxRecDepth 100000 in
set_option maxHeartbeats 800000 in
theorem justparts_is (v : Value) (L : List ByteArray) (n base : Nat) (w : World) (ho : w.ownsRow base 9 1 v L.length (strV L)) (hl : L.length ≤ 1048576) (hn : n ≤ 1048576) (hb : base ≤ w.heap.size) :
    Calls Try.prog 49 #[v, .int .i64 n] w fun e w' => ∃ u, e = .returned u ∧ w'.ownsRow base 9 1 u n (strV (just (⟨#[]⟩ : ByteArray) L n)) ∧ Below w.heap.size w w' := by
  obtain ⟨a, cap, rfl, hcap, hrow⟩ := own_row (f := Value.string) ho
  by_cases h : L.length = n
  · have hd : ((L.length : Int) == (n : Int)) = true := by simp; omega
    have hj : just (⟨#[]⟩ : ByteArray) L n = L := by unfold just; rw [if_pos h]
    rw [hj]
    subst h
    clear hrow
    go_enter Try.func49, Try.ntmps49
    go_wp2
    go_ret
    exact ⟨_, rfl, ho, Below.refl _ _⟩
  · have hd : ((L.length : Int) == (n : Int)) = false := by simp; omega
    have hj : just (⟨#[]⟩ : ByteArray) L n = List.replicate n (⟨#[]⟩ : ByteArray) := by unfold just; rw [if_neg h]
    rw [hj]
    obtain ⟨i0, hi, hz0, hz1, hz2⟩ := info_parts infoStr
    clear hrow ho
    go_enter Try.func49, Try.ntmps49
    go_wp2_with (first | (at_make; refine wpList_make_full _ rfl _ _ 49 rfl w.heap.size 9 i0 (Value.string (⟨#[]⟩ : ByteArray)) 1 Try.underlying49 hi hz0 hz1 .i64 .i64 n n n rfl rfl rfl rfl (by rw [hz2]; omega) (by unfold maxLen; omega) (Nat.le_refl _) ?_) | go_in)
    intro w1 hown hgrow
    have hbel := (Below.refl w.heap.size w).grown hgrow (Nat.le_refl _) (by simp)
    clear hgrow
    rw [toList_madeCells_one] at hown
    go_wp2
    go_ret
    refine ⟨_, rfl, ?_, hbel⟩
    have e : strV (List.replicate n (⟨#[]⟩ : ByteArray)) = List.replicate n (Value.string (⟨#[]⟩ : ByteArray)) := by unfold strV; simp
    rw [e]
    exact ownsRow_le hown hb

set_option maxRecDepth 100000 in
set_option maxHeartbeats 800000 in
theorem partsOf_is (x : ByteArray) (n : Nat) (w : World) (hx : x.size ≤ 1048576) (hn : n ≤ 1048576) :
    Calls Try.prog 26 #[.string x, .int .i64 n] w fun e w' => ∃ u, e = .returned u ∧ w'.ownsRow w.heap.size 9 1 u n (strV (just (⟨#[]⟩ : ByteArray) (partsR x).1 n)) ∧ Below w.heap.size w w' := by
  have HL : (partsR x).1.length ≤ 1048576 := Nat.le_trans (partsR_len x) (by omega)
  have HC := impl_parts x w hx
  generalize (partsR x).1 = L at HC HL ⊢
  generalize (partsR x).2 = bb at HC
  go_enter Try.func26, Try.ntmps26
  go_wp2_with fail
  refine HC.mono ?_
  rintro e w1 ⟨v, rfl, ho, hb1⟩
  clear HC
  have HJ := justparts_is v L n w.heap.size w1 ho HL hn hb1.size
  obtain ⟨a, cap, rfl, _, _⟩ := own_row (f := Value.string) ho
  clear ho
  go_wp2_with fail
  refine HJ.mono ?_
  rintro e w2 ⟨u, rfl, ho2, hb2⟩
  have B2 := hb1.trans (hb2.mono hb1.size)
  clear HJ hb1 hb2
  obtain ⟨a2, cap2, rfl, _, _⟩ := own_row (f := Value.string) (xs := just (⟨#[]⟩ : ByteArray) L n) ho2
  go_wp2
  go_ret
  exact ⟨_, rfl, ho2, B2⟩
end Go.Proofs.Ytbbaddcldoflfaa
