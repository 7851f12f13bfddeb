/- What is kept of a table: plain. -/
import Derived.Test.YtkfjpgkpmdbnoaaTb0
set_option linter.unusedVariables false
set_option maxRecDepth 100000
namespace Go.Proofs.Ytkfjpgkpmdbnoaa
open Go Go.RowKit Go.Joins Own Draw

/-- How many of a holder stand behind a place, ahead of another one. -/
def beG (xs : List TS) (who : Int) (k j : Nat) : Nat := ((xs.take j).drop (k + 1)).countP (fun p => p.1 == who)
theorem beG_zero (xs : List TS) (who : Int) (k : Nat) : beG xs who k (k + 1) = 0 := by
  unfold beG
  rw [List.drop_eq_nil_of_le (by rw [List.length_take]; omega)]
  rfl
theorem beG_at {xs : List TS} {who : Int} {k j : Nat} (h : j < xs.length) (hk : k + 1 ≤ j) : beG xs who k (j + 1) = beG xs who k j + (if xs[j].1 = who then 1 else 0) := by
  unfold beG
  rw [List.take_succ_eq_append_getElem h, List.drop_append_of_le_length (by rw [List.length_take]; omega), List.countP_append]
  by_cases e : xs[j].1 = who
  · rw [if_pos e, List.countP_singleton, if_pos (by simpa using e)]
  · rw [if_neg e, List.countP_singleton, if_neg (by simpa using e)]
theorem beG_le (xs : List TS) (who : Int) (k j : Nat) : beG xs who k j ≤ j := by
  unfold beG
  exact Nat.le_trans List.countP_le_length (by rw [List.length_drop, List.length_take]; omega)
/-- What is kept of the first ones. -/
def keG (xs : List TS) (n : Int) : Nat → List TS
  | 0 => []
  | m + 1 => keG xs n m ++ (if h : m < xs.length then (if ((beG xs xs[m].1 m xs.length : Nat) : Int) < n then [xs[m]] else []) else [])
def keT (xs : List TS) (n : Int) : List TS := if tabB xs then keG xs n xs.length else []
theorem keG_yes {xs : List TS} {n : Int} {k : Nat} (h : k < xs.length) (hb : ((beG xs xs[k].1 k xs.length : Nat) : Int) < n) : keG xs n (k + 1) = keG xs n k ++ [xs[k]] := by
  show keG xs n k ++ _ = _
  rw [dif_pos h, if_pos hb]
theorem keG_no {xs : List TS} {n : Int} {k : Nat} (h : k < xs.length) (hb : ¬ ((beG xs xs[k].1 k xs.length : Nat) : Int) < n) : keG xs n (k + 1) = keG xs n k := by
  show keG xs n k ++ _ = _
  rw [dif_pos h, if_neg hb, List.append_nil]
theorem keG_len (xs : List TS) (n : Int) : ∀ m, (keG xs n m).length ≤ m
  | 0 => Nat.le_refl _
  | m + 1 => by
    have := keG_len xs n m
    show (keG xs n m ++ _).length ≤ _
    rw [List.length_append]
    split
    · split
      · simp; omega
      · simp; omega
    · simp; omega
theorem keT_bad {xs : List TS} {n : Int} (h : tabB xs = false) : keT xs n = [] := by unfold keT; rw [h]; rfl
theorem keT_ok {xs : List TS} {n : Int} (h : tabB xs = true) : keT xs n = keG xs n xs.length := by unfold keT; rw [h]; rfl
theorem keT_len (xs : List TS) (n : Int) : (keT xs n).length ≤ xs.length := by
  unfold keT
  split
  · exact keG_len xs n _
  · exact Nat.zero_le _
theorem news3 (w : World) (x y z : Value) (t : TypeId) : ∀ j u, [x, y, z][j]? = some u → (w.alloc (.cells #[x, y, z] t)).cell? ((⟨w.heap.size, 0, none⟩ : Addr).add j) = some u := by
  intro j u e
  have := (Blk.new w #[x, y, z] t).at j e
  rw [Addr.add_lit, Nat.zero_add]
  exact this
end Go.Proofs.Ytkfjpgkpmdbnoaa
