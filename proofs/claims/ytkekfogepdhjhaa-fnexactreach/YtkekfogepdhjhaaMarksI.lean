/- How the laws mark a row of numbers that was handed out, and look whether it still bears the marks. -/
import Derived.Test.YtkekfogepdhjhaaReadNums
set_option linter.unusedVariables false
namespace Go.Proofs.Ytkekfogepdhjhaa
open Go.RowKit Own Var Term

/-- The marks of a row. -/
def miL (n : Nat) : List Int := (List.range n).map fun (i : Nat) => ((i : Int) + 1)
/-- The cells of a row of which the first k are marked. -/
def rowI (vs : List Value) (k : Nat) : List Value := intV (miL k) ++ vs.drop k
theorem miL_len (n : Nat) : (miL n).length = n := by simp [miL]
theorem rowI_zero (vs : List Value) : rowI vs 0 = vs := by simp [rowI, miL, intV]
theorem rowI_full (vs : List Value) : rowI vs vs.length = intV (miL vs.length) := by simp [rowI]
theorem rowI_len (vs : List Value) (k : Nat) (h : k ≤ vs.length) : (rowI vs k).length = vs.length := by
  unfold rowI intV; rw [List.length_append, List.length_map, miL_len, List.length_drop]; omega
theorem rowI_set (vs : List Value) (k : Nat) (h : k < vs.length) : (rowI vs k).set k (.int .i64 ((k : Int) + 1)) = rowI vs (k + 1) := by
  unfold rowI intV
  rw [List.set_append_right _ _ (by rw [List.length_map, miL_len]; exact Nat.le_refl _), List.length_map, miL_len, Nat.sub_self, List.drop_eq_getElem_cons h]
  unfold miL
  rw [List.range_succ, List.map_append, List.map_append, List.append_assoc]
  rfl

set_option maxRecDepth 100000 in
set_option maxHeartbeats 800000 in
theorem markI_is (B g n cap : Nat) (vs : List Value) (w : World) (hn : n ≤ 12) (hown : w.ownsRow B 3 1 (.slice (some ⟨g, 0, none⟩) n cap) n vs) :
    Calls Try.prog 34 #[.slice (some ⟨g, 0, none⟩) n cap, .int .i64 1] w fun e w' => e = .returned (.int .i64 ((n : Int) + 1)) ∧ w'.ownsRow B 3 1 (.slice (some ⟨g, 0, none⟩) n cap) n (intV (miL n)) ∧ w.grownBy w' (some g) := by
  have hvl : vs.length = n := by have := hown.1; simpa using this
  have hg := (hown.lt g rfl).2
  go_enter Try.func34, Try.ntmps34
  go_wp2
  go_loopw [1, 5] (fun a i wr => ∃ k : Nat, k ≤ n ∧ i = .int .i64 k ∧ a = .int .i64 ((k : Int) + 1) ∧ wr.ownsRow B 3 1 (.slice (some ⟨g, 0, none⟩) n cap) n (rowI vs k) ∧ w.grownBy wr (some g)) (fun _ i _ => n - (intOf i).toNat)
  case atStart => exact ⟨0, by omega, rfl, rfl, by rw [rowI_zero]; exact hown, World.grownBy.refl w _⟩
  case round =>
    clear hown
    obtain ⟨k, hk, rfl, rfl, hown1, hgr1⟩ := hrel
    by_cases hlt : k < n
    · have HS : Hid ((rowI vs k).set k (.int .i64 ((k : Int) + 1)) = rowI vs (k + 1)) := rowI_set vs k (by omega)
      have hrl := rowI_len vs k (by omega)
      have hto : ∃ v, wr.cell? ⟨g, k, none⟩ = some v := by
        rw [hown1.cellAt _ (by omega)]
        exact ⟨_, List.getElem?_eq_getElem (by omega)⟩
      obtain ⟨v, hto⟩ := hto
      have hfz := hown1.frozenAt k
      have hs := hown1.stored k (.int .i64 ((k : Int) + 1))
      rw [HS.out] at hs
      have hgr2 : w.grownBy (wr.setCell ⟨g, k, none⟩ (.int .i64 ((k : Int) + 1))) (some g) := ⟨hs.2.os.trans hgr1.os, hs.2.tape.trans hgr1.tape, hs.2.output.trans hgr1.output, Nat.le_trans hgr1.size hs.2.size, fun j hj hn => (hs.2.block j (Nat.lt_of_lt_of_le hj hgr1.size) hn).trans (hgr1.block j hj hn)⟩
      have R : Hid (∃ k' : Nat, k' ≤ n ∧ Value.int .i64 ((k : Int) + 1) = .int .i64 k' ∧ Value.int .i64 ((k : Int) + 1 + 1) = .int .i64 ((k' : Int) + 1) ∧ (wr.setCell ⟨g, k, none⟩ (.int .i64 ((k : Int) + 1))).ownsRow B 3 1 (.slice (some ⟨g, 0, none⟩) n cap) n (rowI vs k') ∧ w.grownBy (wr.setCell ⟨g, k, none⟩ (.int .i64 ((k : Int) + 1))) (some g)) :=
        ⟨k + 1, by omega, by go_num, by go_num, hs.1, hgr2⟩
      clear hs hgr2 hgr1 hown1
      go_wp2
      go_roundw
      case rel => first | exact R.out | (have R := R.out; (repeat apply Exists.intro); exact ⟨R, rfl⟩)
      case measure => simp [intOf]; omega
    · obtain rfl : k = n := by omega
      have hf := rowI_full vs
      rw [hvl] at hf
      rw [hf] at hown1
      go_wp2
      go_ret
      exact ⟨rfl, hown1, hgr1⟩
set_option maxRecDepth 100000 in
set_option maxHeartbeats 800000 in
theorem heldI_is (a : Option Addr) (n cap : Nat) (w : World) (hn : n ≤ 12) (hr : RowAt (Value.int .i64) w a (miL n)) :
    Calls Try.prog 35 #[.slice a n cap, .int .i64 1] w fun e w' => e = .returned (.int .i64 ((n : Int) + 1)) ∧ Below w.heap.size w w' := by
  go_enter Try.func35, Try.ntmps35
  go_wp2
  go_loopw [1, 5] (fun x i wr => ∃ k : Nat, k ≤ n ∧ i = .int .i64 k ∧ x = .int .i64 ((k : Int) + 1) ∧ Below w.heap.size w wr) (fun _ i _ => n - (intOf i).toNat)
  case atStart => exact ⟨0, by omega, rfl, rfl, Below.refl _ _⟩
  case round =>
    obtain ⟨k, hk, rfl, rfl, hbel⟩ := hrel
    by_cases hlt : k < n
    · obtain ⟨b, off, rfl, hbl, hcell⟩ := hr k (by rw [miL_len]; exact hlt)
      have hx : (miL n)[k]'(by rw [miL_len]; exact hlt) = (k : Int) + 1 := by simp [miL]
      rw [hx, ← hbel.cell (p := ⟨b, off + k, none⟩) hbl] at hcell
      go_wp2
      go_roundw
      case rel => exact ⟨k + 1, by omega, by go_num, by go_num, hbel⟩
      case measure => simp [intOf]; omega
    · obtain rfl : k = n := by omega
      go_wp2
      go_ret
      exact ⟨rfl, hbel⟩
theorem numsP_len (xs : List ByteArray) (b : Bool) (h : xs.length ≤ 12) : (numsP xs b).1.length ≤ 12 := by
  unfold numsP
  split
  · rw [List.length_map]; exact h
  · simp
theorem nums_len (s : ByteArray) : (numsR s).1.length ≤ 12 := numsP_len _ _ (parts_len s)
theorem markI_nil (c : Nat) (w : World) : Calls Try.prog 34 #[.slice none 0 c, .int .i64 1] w fun e w' => e = .returned (.int .i64 1) ∧ w = w' := by
  go_enter Try.func34, Try.ntmps34
  go_wp2
  go_loop [1, 5] (fun a i => a = .int .i64 1 ∧ i = .int .i64 0) (fun _ _ => 0)
  case atStart => exact ⟨rfl, rfl⟩
  case round =>
    obtain ⟨rfl, rfl⟩ := hrel
    go_wp2
    go_ret
    exact ⟨rfl, rfl⟩
/-- A row that was handed out takes the marks, and nothing else is written into. -/
theorem markI_any (B : Nat) (a : Option Addr) (n c : Nat) (vs : List Value) (w0 w : World) (hn : n ≤ 12) (hb : Below B w0 w) (hown : w.ownsRow B 3 1 (.slice a n c) n vs) :
    Calls Try.prog 34 #[.slice a n c, .int .i64 1] w fun e w' => e = .returned (.int .i64 ((n : Int) + 1)) ∧ RowAt (Value.int .i64) w' a (miL n) ∧ Below B w0 w' := by
  rcases hown.2 with ⟨h1, h2⟩ | ⟨g, cap, cur, h1, h2, _⟩
  · injection h1 with e1 e2 e3
    subst e1 e3 h2
    refine (markI_nil 0 w).mono ?_
    rintro e w' ⟨rfl, rfl⟩
    exact ⟨rfl, RowAt.nil _ _, hb⟩
  · injection h1 with e1 e2 e3
    subst e1 e3
    refine (markI_is B g n c vs w hn hown).mono ?_
    rintro e w' ⟨rfl, ho, hg⟩
    have hgl := (hown.lt g rfl).2
    exact ⟨rfl, RowAt.own ho, hb.grown hg (by omega) (fun k hk => by injection hk with hk; omega)⟩
end Go.Proofs.Ytkekfogepdhjhaa
