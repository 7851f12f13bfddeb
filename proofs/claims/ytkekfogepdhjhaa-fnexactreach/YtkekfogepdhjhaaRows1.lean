/- Rows of texts and of numbers that lie in memory: how the laws count, copy and compare them. -/
import Derived.Test.YtkekfogepdhjhaaFaces2
import Derived.OwnWalk
import Derived.Laws.OwnMore
set_option linter.unusedVariables false
namespace Go.Proofs.Ytkekfogepdhjhaa
open Go.RowKit Own Var Term

/-- The cells from a on hold the row. -/
def RowAt {α : Type} (f : α → Value) (w : World) (a : Option Addr) (xs : List α) : Prop :=
  ∀ j (h : j < xs.length), ∃ b off, a = some ⟨b, off, none⟩ ∧ b < w.heap.size ∧ w.cell? ⟨b, off + j, none⟩ = some (f xs[j])
theorem RowAt.later {α : Type} {f : α → Value} {w w' : World} {a : Option Addr} {xs : List α} (h : RowAt f w a xs) (hb : Below w.heap.size w w') : RowAt f w' a xs := by
  intro j hj
  obtain ⟨b, off, e, hlt, hc⟩ := h j hj
  exact ⟨b, off, e, Nat.lt_of_lt_of_le hlt hb.size, by rw [hb.cell (p := ⟨b, off + j, none⟩) hlt]; exact hc⟩
theorem RowAt.own {α : Type} {f : α → Value} {w : World} {base g cap n : Nat} {e : TypeId} {xs : List α} (h : w.ownsRow base e 1 (.slice (some ⟨g, 0, none⟩) n cap) n (xs.map f)) : RowAt f w (some ⟨g, 0, none⟩) xs := by
  have hl : xs.length = n := by have := h.1; simpa using this
  intro j hj
  refine ⟨g, 0, rfl, (h.lt g rfl).2, ?_⟩
  rw [Nat.zero_add, h.cellAt j (by omega)]
  simp [hj]
theorem RowAt.nil {α : Type} {f : α → Value} (w : World) (a : Option Addr) : RowAt f w a [] := by intro j hj; simp at hj

theorem infoStr : (Try.prog.info? 9).map (fun i => (i.zero, i.size, i.bytes)) = some (some (.string ⟨#[]⟩), 1, 16) := by kernel_rfl
theorem infoInt : (Try.prog.info? 3).map (fun i => (i.zero, i.size, i.bytes)) = some (some (.int .i64 0), 1, 8) := by kernel_rfl

set_option maxRecDepth 100000 in
set_option maxHeartbeats 800000 in
theorem sz_is (a : Option Addr) (cap : Nat) (xs : List ByteArray) (w : World) (hr : RowAt Value.string w a xs) (hl : xs.length ≤ maxLen) (hs : ∀ x ∈ xs, x.size ≤ maxLen) :
    Calls Try.prog 56 #[.slice a xs.length cap, .int .i64 1048576] w fun e w' => ∃ r : Int, e = .returned (.int .i64 r) ∧ (0 ≤ r → xs.length ≤ 1048576 ∧ ∀ x ∈ xs, x.size ≤ 1048576) ∧ w = w' := by
  unfold maxLen at hl hs
  by_cases h0 : xs.length ≤ 1048576
  · have h0' : ¬ (1048576 : Int) - (xs.length : Int) < 0 := by omega
    go_enter Try.func56, Try.ntmps56
    go_wp2
    go_loop [1, 5] (fun l i => ∃ (k : Nat) (L : Int), k ≤ xs.length ∧ 0 ≤ L ∧ L ≤ 1048576 ∧ l = .int .i64 L ∧ i = .int .i64 k ∧ Hid (∀ j (h : j < xs.length), j < k → xs[j].size ≤ 1048576)) (fun _ i => xs.length - (intOf i).toNat)
    case atStart => exact ⟨0, 1048576 - xs.length, by omega, by omega, by omega, rfl, rfl, fun j h hj => absurd hj (by omega)⟩
    case round =>
      obtain ⟨k, L, hk, hL0, hL1, rfl, rfl, G⟩ := hrel
      by_cases hlt : k < xs.length
      · obtain ⟨b, off, rfl, hbl, hcell⟩ := hr k hlt
        have hx := hs xs[k] (List.getElem_mem hlt)
        have hG : xs[k].size ≤ 1048576 → ∀ j (h : j < xs.length), j < k + 1 → xs[j].size ≤ 1048576 := by
          intro hz j h hj
          by_cases e : j = k
          · subst e; exact hz
          · exact G.out j h (by omega)
        have HG : Hid (xs[k].size ≤ 1048576 → ∀ j (h : j < xs.length), j < k + 1 → xs[j].size ≤ 1048576) := hG
        clear hG
        generalize xs[k] = x at hcell hx HG
        by_cases hd : L - (x.size : Int) < 0
        · have hd' : decide (L - (x.size : Int) < 0) = true := by simpa using hd
          go_wp2
          go_ret
          exact ⟨-1, rfl, fun h => absurd h (by omega), rfl⟩
        · have hd1 : x.size ≤ 1048576 := by omega
          go_wp2
          go_round
          case rel => exact ⟨k + 1, L - x.size, by omega, by omega, by omega, rfl, by go_num, HG.out hd1⟩
          case measure => simp [intOf]; omega
      · go_wp2
        go_ret
        have H : ∀ x ∈ xs, x.size ≤ 1048576 := by
          intro x hx
          obtain ⟨j, hj, rfl⟩ := List.getElem_of_mem hx
          exact G.out j hj (by omega)
        exact ⟨L, rfl, fun _ => by first | exact H | exact ⟨h0, H⟩, rfl⟩
  · have h0' : (1048576 : Int) - (xs.length : Int) < 0 := by omega
    go_enter Try.func56, Try.ntmps56
    go_wp2
    go_ret
    exact ⟨-1, rfl, fun h => absurd h (by omega), rfl⟩

set_option maxRecDepth 100000 in
set_option maxHeartbeats 800000 in
theorem toS_is (a : Option Addr) (cap : Nat) (xs : List ByteArray) (w : World) (hr : RowAt Value.string w a xs) (hl : xs.length ≤ 1048576) :
    Calls Try.prog 58 #[.slice a xs.length cap] w fun e w' => e = .returned (.slice (some ⟨w.heap.size, 0, none⟩) xs.length xs.length) ∧ w'.ownsRow w.heap.size 9 1 (.slice (some ⟨w.heap.size, 0, none⟩) xs.length xs.length) xs.length (xs.map Value.string) ∧ Below w.heap.size w w' := by
  obtain ⟨i0, hi, hz0, hz1, hz2⟩ := info_parts infoStr
  go_enter Try.func58, Try.ntmps58
  go_wp2_with (first | (at_make; refine wpList_make_full _ rfl _ _ 24 rfl w.heap.size 9 i0 (.string ⟨#[]⟩) 1 Try.underlying24 hi hz0 hz1 .i64 .i64 xs.length xs.length xs.length rfl rfl rfl rfl (by rw [hz2]; omega) (by unfold maxLen; omega) (Nat.le_refl _) ?_) | go_in)
  intro w1 hown hgrow
  have hbel := (Below.refl w.heap.size w).grown hgrow (Nat.le_refl _) (by simp)
  have hsz := hgrow.size
  clear hgrow
  have hlm : (madeCells #[Value.string ⟨#[]⟩] xs.length).toList.length = xs.length := by simp [size_madeCells]
  go_wp2
  go_loopw [4] (fun i wr => ∃ k : Nat, k ≤ xs.length ∧ i = .int .i64 k ∧ wr.ownsRow w.heap.size 9 1 (.slice (some ⟨w.heap.size, 0, none⟩) xs.length xs.length) xs.length ((xs.take k).map Value.string ++ (madeCells #[Value.string ⟨#[]⟩] xs.length).toList.drop k) ∧ Below w.heap.size w wr) (fun i _ => xs.length - (intOf i).toNat)
  case atStart => exact ⟨0, by omega, rfl, by simpa using hown, hbel⟩
  case round =>
    clear hown hbel
    obtain ⟨k, hk, rfl, hown, hbel⟩ := hrel
    by_cases hlt : k < xs.length
    · obtain ⟨b, off, rfl, hbl, hcell0⟩ := hr k hlt
      have hcell := (hbel.cell (p := ⟨b, off + k, none⟩) hbl).trans hcell0
      have hto : ∃ v, wr.cell? ⟨w.heap.size, k, none⟩ = some v := by
        rw [hown.cellAt _ (by omega)]
        exact ⟨_, List.getElem?_eq_getElem (by rw [List.length_append, List.length_map, List.length_take, List.length_drop, hlm]; omega)⟩
      obtain ⟨v, hto⟩ := hto
      have hfz := hown.frozenAt k
      have hs := (hown.stored k (.string xs[k])).1
      have hset : ((xs.take k).map Value.string ++ (madeCells #[Value.string ⟨#[]⟩] xs.length).toList.drop k).set k (.string xs[k]) = (xs.take (k + 1)).map Value.string ++ (madeCells #[Value.string ⟨#[]⟩] xs.length).toList.drop (k + 1) := by
        rw [List.set_append_right _ _ (by simp; omega), List.take_succ_eq_append_getElem hlt, List.map_append, List.append_assoc]
        congr 1
        have e : k - ((xs.take k).map Value.string).length = 0 := by simp; omega
        rw [e, List.drop_eq_getElem_cons (by omega)]
        rfl
      rw [hset] at hs
      have HS : Hid (∃ k' : Nat, k' ≤ xs.length ∧ Value.int .i64 ((k : Int) + 1) = .int .i64 k' ∧ (wr.setCell ⟨w.heap.size, k, none⟩ (.string xs[k])).ownsRow w.heap.size 9 1 (.slice (some ⟨w.heap.size, 0, none⟩) xs.length xs.length) xs.length ((xs.take k').map Value.string ++ (madeCells #[Value.string ⟨#[]⟩] xs.length).toList.drop k') ∧ Below w.heap.size w (wr.setCell ⟨w.heap.size, k, none⟩ (.string xs[k]))) :=
        ⟨k + 1, by omega, by go_num, hs, hbel.setCell (Nat.le_refl _) _⟩
      clear hs hset hcell0 hr
      go_wp2
      go_roundw
      case rel => exact HS.out
      case measure => simp [intOf]; omega
    · obtain rfl : k = xs.length := by omega
      rw [List.take_length, List.drop_of_length_le (by omega), List.append_nil] at hown
      go_wp2
      go_ret
      exact ⟨rfl, hown, hbel⟩

set_option maxRecDepth 100000 in
set_option maxHeartbeats 800000 in
theorem eqS_is (a b : Option Addr) (ca cb : Nat) (xs : List ByteArray) (w : World) (ha : RowAt Value.string w a xs) (hb : RowAt Value.string w b xs) (hl : xs.length ≤ 1048576) :
    Calls Try.prog 62 #[.slice a xs.length ca, .slice b xs.length cb] w fun e w' => e = .returned (.bool true) ∧ Below w.heap.size w w' := by
  go_enter Try.func62, Try.ntmps62
  go_wp2
  go_loopw [5] (fun i wr => ∃ k : Nat, k ≤ xs.length ∧ i = .int .i64 k ∧ Below w.heap.size w wr) (fun i _ => xs.length - (intOf i).toNat)
  case atStart => exact ⟨0, by omega, rfl, Below.refl _ _⟩
  case round =>
    obtain ⟨k, hk, rfl, hbel⟩ := hrel
    by_cases hlt : k < xs.length
    · obtain ⟨b1, o1, rfl, l1, hc1⟩ := ha k hlt
      obtain ⟨b2, o2, rfl, l2, hc2⟩ := hb k hlt
      rw [← hbel.cell (p := ⟨b1, o1 + k, none⟩) l1] at hc1
      rw [← hbel.cell (p := ⟨b2, o2 + k, none⟩) l2] at hc2
      generalize xs[k] = x at hc1 hc2
      go_wp2
      go_region
      all_goals
        go_wp2
        go_roundw
        case rel => exact ⟨k + 1, by omega, by go_num, hbel.drew⟩
        case measure => simp [intOf]; omega
    · go_wp2
      go_ret
      exact ⟨rfl, hbel⟩
end Go.Proofs.Ytkekfogepdhjhaa
