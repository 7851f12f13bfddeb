/- Rows of texts copied and compared. -/
import Derived.Test.YtbpodcfbijhboaaNd0
set_option linter.unusedVariables false
set_option maxRecDepth 100000
namespace Go.Proofs.Ytbpodcfbijhboaa.Nd
open Go Go.RowKit Go.Joins Own Draw

theorem infoCS : (Try.prog.info? 9).map (fun i => (i.zero, i.size, i.bytes)) = some (some (.string ⟨#[]⟩), 1, 16) := by kernel_rfl
set_option maxRecDepth 100000 in
set_option maxHeartbeats 800000 in
theorem toSS_is (a : Option Addr) (cap : Nat) (xs : List ByteArray) (w : World) (hr : RowAt (Value.string) w a xs) (hl : xs.length ≤ 1048576) :
    Calls Try.prog 44 #[.slice a xs.length cap] w fun e w' => e = .returned (.slice (some ⟨w.heap.size, 0, none⟩) xs.length xs.length) ∧ w'.ownsRow w.heap.size 9 1 (.slice (some ⟨w.heap.size, 0, none⟩) xs.length xs.length) xs.length (xs.map (Value.string)) ∧ Below w.heap.size w w' := by
  obtain ⟨i0, hi, hz0, hz1, hz2⟩ := info_parts infoCS
  go_enter Try.func44, Try.ntmps44
  go_wp2_with (first | (at_make; refine wpList_make_full _ rfl _ _ 24 rfl w.heap.size 9 i0 (.string ⟨#[]⟩) 1 Try.underlying24 hi hz0 hz1 .i64 .i64 xs.length xs.length xs.length rfl rfl rfl rfl (by rw [hz2]; omega) (by unfold maxLen; omega) (Nat.le_refl _) ?_) | go_in)
  intro w1 hown hgrow
  have hbel := (Below.refl w.heap.size w).grown hgrow (Nat.le_refl _) (by simp)
  have hsz := hgrow.size
  clear hgrow
  have hlm : (madeCells #[.string ⟨#[]⟩] xs.length).toList.length = xs.length := by simp [size_madeCells]
  go_wp2
  go_loopw [4] (fun i wr => ∃ k : Nat, k ≤ xs.length ∧ i = .int .i64 k ∧ wr.ownsRow w.heap.size 9 1 (.slice (some ⟨w.heap.size, 0, none⟩) xs.length xs.length) xs.length ((xs.take k).map (Value.string) ++ (madeCells #[.string ⟨#[]⟩] xs.length).toList.drop k) ∧ Below w.heap.size w wr) (fun i _ => xs.length - (intOf i).toNat)
  case atStart => exact ⟨0, by omega, rfl, by simpa using hown, hbel⟩
  case round =>
    clear hown hbel
    obtain ⟨k, hk, rfl, hown, hbel⟩ := hrel
    by_cases hlt : k < xs.length
    · obtain ⟨b, off, rfl, hbl, hcell0⟩ := hr k hlt
      have hcell := (hbel.cell (p := ⟨b, off + k, none⟩) hbl).trans hcell0
      have hto : ∃ v, wr.cell? ⟨w.heap.size, k, none⟩ = some v := by
        rw [hown.cellAt _ (by omega)]
        exact ⟨_, List.getElem?_eq_getElem (by rw [List.length_append, List.length_map, List.length_take, List.length_drop, hlm]; omega)⟩
      obtain ⟨v, hto⟩ := hto
      have hfz := hown.frozenAt k
      have hs := (hown.stored k (Value.string xs[k])).1
      have hset : ((xs.take k).map (Value.string) ++ (madeCells #[.string ⟨#[]⟩] xs.length).toList.drop k).set k (Value.string xs[k]) = (xs.take (k + 1)).map (Value.string) ++ (madeCells #[.string ⟨#[]⟩] xs.length).toList.drop (k + 1) := by
        rw [List.set_append_right _ _ (by simp; omega), List.take_succ_eq_append_getElem hlt, List.map_append, List.append_assoc]
        congr 1
        have e : k - ((xs.take k).map (Value.string)).length = 0 := by simp; omega
        rw [e, List.drop_eq_getElem_cons (by omega)]
        rfl
      rw [hset] at hs
      have HS : Hid (∃ k' : Nat, k' ≤ xs.length ∧ Value.int .i64 ((k : Int) + 1) = .int .i64 k' ∧ (wr.setCell ⟨w.heap.size, k, none⟩ (Value.string xs[k])).ownsRow w.heap.size 9 1 (.slice (some ⟨w.heap.size, 0, none⟩) xs.length xs.length) xs.length ((xs.take k').map (Value.string) ++ (madeCells #[.string ⟨#[]⟩] xs.length).toList.drop k') ∧ Below w.heap.size w (wr.setCell ⟨w.heap.size, k, none⟩ (Value.string xs[k]))) :=
        ⟨k + 1, by omega, by go_num, hs, hbel.setCell (Nat.le_refl _) _⟩
      clear hs hset hcell0 hr
      go_wp2
      go_roundw
      case rel => exact HS.out
      case measure => simp [intOf]; omega
    · obtain rfl : k = xs.length := by omega
      rw [List.take_length, List.drop_of_length_le (by omega), List.append_nil] at hown
      go_wp2
      go_ret
      exact ⟨rfl, hown, hbel⟩
set_option maxRecDepth 100000 in
set_option maxHeartbeats 800000 in
theorem eqSS_is (a b : Option Addr) (ca cb : Nat) (xs : List ByteArray) (w : World) (ha : RowAt (Value.string) w a xs) (hb : RowAt (Value.string) w b xs) (hl : xs.length ≤ 1048576) :
    Calls Try.prog 48 #[.slice a xs.length ca, .slice b xs.length cb] w fun e w' => e = .returned (.bool true) ∧ Below w.heap.size w w' := by
  go_enter Try.func48, Try.ntmps48
  go_wp2
  go_loopw [5] (fun i wr => ∃ k : Nat, k ≤ xs.length ∧ i = .int .i64 k ∧ Below w.heap.size w wr) (fun i _ => xs.length - (intOf i).toNat)
  case atStart => exact ⟨0, by omega, rfl, Below.refl _ _⟩
  case round =>
    obtain ⟨k, hk, rfl, hbel⟩ := hrel
    by_cases hlt : k < xs.length
    · obtain ⟨b1, o1, rfl, l1, hc1⟩ := ha k hlt
      obtain ⟨b2, o2, rfl, l2, hc2⟩ := hb k hlt
      rw [← hbel.cell (p := ⟨b1, o1 + k, none⟩) l1] at hc1
      rw [← hbel.cell (p := ⟨b2, o2 + k, none⟩) l2] at hc2
      generalize xs[k] = x at hc1 hc2
      go_wp2
      go_region
      all_goals
        go_wp2
        go_roundw
        case rel => exact ⟨k + 1, by omega, by go_num, hbel.drew⟩
        case measure => simp [intOf]; omega
    · go_wp2
      go_ret
      exact ⟨rfl, hbel⟩
theorem toSS_u (r : Rw ByteArray) (w : World) (hd : RpS w r) (hl : rtS r ≤ 1048576) : Calls Try.prog 44 #[.slice r.1 r.2.2.length r.2.1] w fun en w' => ∃ y : Rw ByteArray, en = .returned (.slice y.1 y.2.2.length y.2.1) ∧ rsS y = rsS r ∧ RoS w.heap.size w' y ∧ Below w.heap.size w w' :=
  (toSS_is r.1 r.2.1 r.2.2 w hd (Nat.le_trans (rtS_len r) hl)).mono fun e w' h => ⟨(some ⟨w.heap.size, 0, none⟩, r.2.2.length, r.2.2), h.1, rfl, h.2.1, h.2.2⟩
theorem eqSS_u (r q : Rw ByteArray) (w : World) (hr : RpS w r) (hq : RpS w q) (hs : rsS r = rsS q) (hl : rtS r ≤ 1048576) : Calls Try.prog 48 #[.slice r.1 r.2.2.length r.2.1, .slice q.1 q.2.2.length q.2.1] w fun en w' => en = .returned (.bool true) ∧ Below w.heap.size w w' := by
  obtain ⟨a, c, xs⟩ := r
  obtain ⟨b, d, ys⟩ := q
  obtain rfl : xs = ys := hs
  exact eqSS_is a b c d xs w hr hq (Nat.le_trans (rtS_len (a, c, xs)) hl)
end Go.Proofs.Ytbpodcfbijhboaa.Nd
