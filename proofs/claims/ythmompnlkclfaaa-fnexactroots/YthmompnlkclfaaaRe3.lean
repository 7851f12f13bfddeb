/- Rows of events. -/
import Derived.Test.YthmompnlkclfaaaRe2
set_option linter.unusedVariables false
set_option maxRecDepth 100000
namespace Go.Proofs.Ythmompnlkclfaaa
open Go Go.RowKit Go.Joins Own Draw

theorem infoE : (Try.prog.info? 48).map (fun i => (i.zero, i.size, i.bytes)) = some (some (.agg #[.int .i64 0, .int .i64 0, .int .i64 0, .int .i64 0, .int .i64 0, .int .i64 0, .int .i64 0, .int .i64 0, .int .i64 0, .int .i64 0, .int .i64 0]), 11, 88) := by kernel_rfl
set_option maxRecDepth 100000 in
set_option maxHeartbeats 1600000 in
theorem toSE_is (a : Option Addr) (cap : Nat) (xs : List TE) (w : World) (hr : FRow 11 cE w a xs) (hl : xs.length ≤ 1048576) :
    Calls Try.prog 8 #[.slice a xs.length cap] w fun e w' => e = .returned (.slice (some ⟨w.heap.size, 0, none⟩) xs.length xs.length) ∧ FOwn 48 11 cE w.heap.size (some ⟨w.heap.size, 0, none⟩) xs.length xs w' ∧ Below w.heap.size w w' := by
  obtain ⟨i0, hi, hz0, hz1, hz2⟩ := info_parts infoE
  go_enter Try.func8, Try.ntmps8
  go_wp2_with (first | (at_make; refine wpList_make_full _ rfl _ _ 25 rfl w.heap.size 48 i0 (.agg #[.int .i64 0, .int .i64 0, .int .i64 0, .int .i64 0, .int .i64 0, .int .i64 0, .int .i64 0, .int .i64 0, .int .i64 0, .int .i64 0, .int .i64 0]) 11 Try.underlying25 hi hz0 hz1 .i64 .i64 xs.length xs.length xs.length rfl rfl rfl rfl (by rw [hz2]; omega) (by unfold maxLen; omega) (Nat.le_refl _) ?_) | go_in)
  intro w1 hown hgrow
  have hbel := (Below.refl w.heap.size w).grown hgrow (Nat.le_refl _) (by simp)
  clear hgrow
  have H0 : ∃ J : List Value, w1.ownsRow w.heap.size 48 11 (.slice (some ⟨w.heap.size, 0, none⟩) xs.length xs.length) xs.length (fl cE (xs.take 0) ++ J) := ⟨_, hown⟩
  clear hown
  go_wp2
  go_loopw [4] (fun i wr => ∃ k : Nat, k ≤ xs.length ∧ i = .int .i64 k ∧ (∃ J : List Value, wr.ownsRow w.heap.size 48 11 (.slice (some ⟨w.heap.size, 0, none⟩) xs.length xs.length) xs.length (fl cE (xs.take k) ++ J)) ∧ Below w.heap.size w wr) (fun i _ => xs.length - (intOf i).toNat)
  case atStart => exact ⟨0, by omega, rfl, H0, hbel⟩
  case round =>
    clear H0 hbel
    obtain ⟨k, hk, rfl, ⟨J, hown⟩, hbel⟩ := hrel
    have hJ : k * 11 + J.length = xs.length * 11 := by have := hown.1; rw [List.length_append, fl_len lE, List.length_take, Nat.min_eq_left hk] at this; exact this
    by_cases hlt : k < xs.length
    · obtain ⟨b, off, rfl, hbl, hc⟩ := hr k hlt
      have h0 : wr.cell? ⟨b, off + k * 11, none⟩ = some (.int .i64 xs[k].1) := (hbel.cell (p := ⟨b, off + k * 11, none⟩) hbl).trans (hc 0 _ rfl)
      have h1 : wr.cell? ⟨b, off + k * 11 + 1, none⟩ = some (.int .i64 xs[k].2.1) := (hbel.cell (p := ⟨b, off + k * 11 + 1, none⟩) hbl).trans (hc 1 _ rfl)
      have h2 : wr.cell? ⟨b, off + k * 11 + 2, none⟩ = some (.int .i64 xs[k].2.2.1) := (hbel.cell (p := ⟨b, off + k * 11 + 2, none⟩) hbl).trans (hc 2 _ rfl)
      have h3 : wr.cell? ⟨b, off + k * 11 + 3, none⟩ = some (.int .i64 xs[k].2.2.2.1) := (hbel.cell (p := ⟨b, off + k * 11 + 3, none⟩) hbl).trans (hc 3 _ rfl)
      have h4 : wr.cell? ⟨b, off + k * 11 + 4, none⟩ = some (.int .i64 xs[k].2.2.2.2.1) := (hbel.cell (p := ⟨b, off + k * 11 + 4, none⟩) hbl).trans (hc 4 _ rfl)
      have h5 : wr.cell? ⟨b, off + k * 11 + 5, none⟩ = some (.int .i64 xs[k].2.2.2.2.2.1) := (hbel.cell (p := ⟨b, off + k * 11 + 5, none⟩) hbl).trans (hc 5 _ rfl)
      have h6 : wr.cell? ⟨b, off + k * 11 + 6, none⟩ = some (.int .i64 xs[k].2.2.2.2.2.2.1) := (hbel.cell (p := ⟨b, off + k * 11 + 6, none⟩) hbl).trans (hc 6 _ rfl)
      have h7 : wr.cell? ⟨b, off + k * 11 + 7, none⟩ = some (.int .i64 xs[k].2.2.2.2.2.2.2.1) := (hbel.cell (p := ⟨b, off + k * 11 + 7, none⟩) hbl).trans (hc 7 _ rfl)
      have h8 : wr.cell? ⟨b, off + k * 11 + 8, none⟩ = some (.int .i64 xs[k].2.2.2.2.2.2.2.2.1) := (hbel.cell (p := ⟨b, off + k * 11 + 8, none⟩) hbl).trans (hc 8 _ rfl)
      have h9 : wr.cell? ⟨b, off + k * 11 + 9, none⟩ = some (.int .i64 xs[k].2.2.2.2.2.2.2.2.2.1) := (hbel.cell (p := ⟨b, off + k * 11 + 9, none⟩) hbl).trans (hc 9 _ rfl)
      have h10 : wr.cell? ⟨b, off + k * 11 + 10, none⟩ = some (.int .i64 xs[k].2.2.2.2.2.2.2.2.2.2) := (hbel.cell (p := ⟨b, off + k * 11 + 10, none⟩) hbl).trans (hc 10 _ rfl)
      clear hr hc
      have hsn : xs.take k ++ [(xs[k].1, xs[k].2.1, xs[k].2.2.1, xs[k].2.2.2.1, xs[k].2.2.2.2.1, xs[k].2.2.2.2.2.1, xs[k].2.2.2.2.2.2.1, xs[k].2.2.2.2.2.2.2.1, xs[k].2.2.2.2.2.2.2.2.1, xs[k].2.2.2.2.2.2.2.2.2.1, xs[k].2.2.2.2.2.2.2.2.2.2)] = xs.take (k + 1) := (List.take_succ_eq_append_getElem hlt).symm
      generalize xs[k].1 = x0 at h0 hsn
      generalize xs[k].2.1 = x1 at h1 hsn
      generalize xs[k].2.2.1 = x2 at h2 hsn
      generalize xs[k].2.2.2.1 = x3 at h3 hsn
      generalize xs[k].2.2.2.2.1 = x4 at h4 hsn
      generalize xs[k].2.2.2.2.2.1 = x5 at h5 hsn
      generalize xs[k].2.2.2.2.2.2.1 = x6 at h6 hsn
      generalize xs[k].2.2.2.2.2.2.2.1 = x7 at h7 hsn
      generalize xs[k].2.2.2.2.2.2.2.2.1 = x8 at h8 hsn
      generalize xs[k].2.2.2.2.2.2.2.2.2.1 = x9 at h9 hsn
      generalize xs[k].2.2.2.2.2.2.2.2.2.2 = x10 at h10 hsn
      go_wp2_with fail
      refine (toE_is x0 x1 x2 x3 x4 x5 x6 x7 x8 x9 x10 _).mono ?_
      rintro e w2 ⟨rfl, hb2⟩
      have hown2 := own_later hown hb2
      have hbel2 := hbel.trans (hb2.mono hbel.size)
      clear h0 h1 h2 h3 h4 h5 h6 h7 h8 h9 h10 hown hbel hb2
      have hs := (((((((((((hown2.stored (k * 11) (.int .i64 x0)).1.stored (k * 11 + 1) (.int .i64 x1)).1.stored (k * 11 + 2) (.int .i64 x2)).1.stored (k * 11 + 3) (.int .i64 x3)).1.stored (k * 11 + 4) (.int .i64 x4)).1.stored (k * 11 + 5) (.int .i64 x5)).1.stored (k * 11 + 6) (.int .i64 x6)).1.stored (k * 11 + 7) (.int .i64 x7)).1.stored (k * 11 + 8) (.int .i64 x8)).1.stored (k * 11 + 9) (.int .i64 x9)).1.stored (k * 11 + 10) (.int .i64 x10)).1
      have hp : ((((((((((((fl cE (xs.take k) ++ J)).set (k * 11) (.int .i64 x0)).set (k * 11 + 1) (.int .i64 x1)).set (k * 11 + 2) (.int .i64 x2)).set (k * 11 + 3) (.int .i64 x3)).set (k * 11 + 4) (.int .i64 x4)).set (k * 11 + 5) (.int .i64 x5)).set (k * 11 + 6) (.int .i64 x6)).set (k * 11 + 7) (.int .i64 x7)).set (k * 11 + 8) (.int .i64 x8)).set (k * 11 + 9) (.int .i64 x9)).set (k * 11 + 10) (.int .i64 x10) = fl cE (xs.take k ++ [(x0, x1, x2, x3, x4, x5, x6, x7, x8, x9, x10)]) ++ J.drop 11 := by
        have := fl_put (f := cE) lE (xs.take k) J (x0, x1, x2, x3, x4, x5, x6, x7, x8, x9, x10) (by omega)
        rw [List.length_take, Nat.min_eq_left hk] at this
        exact this
      rw [hp, hsn] at hs
      have HS : Hid (∃ k' : Nat, k' ≤ xs.length ∧ Value.int .i64 ((k : Int) + 1) = .int .i64 k' ∧ (∃ J : List Value, (((((((((((w2.setCell ⟨w.heap.size, k * 11, none⟩ (.int .i64 x0)).setCell ⟨w.heap.size, k * 11 + 1, none⟩ (.int .i64 x1)).setCell ⟨w.heap.size, k * 11 + 2, none⟩ (.int .i64 x2)).setCell ⟨w.heap.size, k * 11 + 3, none⟩ (.int .i64 x3)).setCell ⟨w.heap.size, k * 11 + 4, none⟩ (.int .i64 x4)).setCell ⟨w.heap.size, k * 11 + 5, none⟩ (.int .i64 x5)).setCell ⟨w.heap.size, k * 11 + 6, none⟩ (.int .i64 x6)).setCell ⟨w.heap.size, k * 11 + 7, none⟩ (.int .i64 x7)).setCell ⟨w.heap.size, k * 11 + 8, none⟩ (.int .i64 x8)).setCell ⟨w.heap.size, k * 11 + 9, none⟩ (.int .i64 x9)).setCell ⟨w.heap.size, k * 11 + 10, none⟩ (.int .i64 x10)).ownsRow w.heap.size 48 11 (.slice (some ⟨w.heap.size, 0, none⟩) xs.length xs.length) xs.length (fl cE (xs.take k') ++ J)) ∧ Below w.heap.size w (((((((((((w2.setCell ⟨w.heap.size, k * 11, none⟩ (.int .i64 x0)).setCell ⟨w.heap.size, k * 11 + 1, none⟩ (.int .i64 x1)).setCell ⟨w.heap.size, k * 11 + 2, none⟩ (.int .i64 x2)).setCell ⟨w.heap.size, k * 11 + 3, none⟩ (.int .i64 x3)).setCell ⟨w.heap.size, k * 11 + 4, none⟩ (.int .i64 x4)).setCell ⟨w.heap.size, k * 11 + 5, none⟩ (.int .i64 x5)).setCell ⟨w.heap.size, k * 11 + 6, none⟩ (.int .i64 x6)).setCell ⟨w.heap.size, k * 11 + 7, none⟩ (.int .i64 x7)).setCell ⟨w.heap.size, k * 11 + 8, none⟩ (.int .i64 x8)).setCell ⟨w.heap.size, k * 11 + 9, none⟩ (.int .i64 x9)).setCell ⟨w.heap.size, k * 11 + 10, none⟩ (.int .i64 x10))) :=
        ⟨k + 1, by omega, by go_num, ⟨_, hs⟩, (((((((((((hbel2.setCell (Nat.le_refl _) _).setCell (Nat.le_refl _) _).setCell (Nat.le_refl _) _).setCell (Nat.le_refl _) _).setCell (Nat.le_refl _) _).setCell (Nat.le_refl _) _).setCell (Nat.le_refl _) _).setCell (Nat.le_refl _) _).setCell (Nat.le_refl _) _).setCell (Nat.le_refl _) _).setCell (Nat.le_refl _) _)⟩
      have hll : (fl cE (xs.take k) ++ J).length = xs.length * 11 := hown2.1
      have u0 : w2.cell? ⟨w.heap.size, k * 11, none⟩ = some (fl cE (xs.take k) ++ J)[k * 11] := by rw [hown2.cellAt _ (by omega)]; exact List.getElem?_eq_getElem (by omega)
      have f0 := hown2.frozenAt (k * 11)
      have u1 : w2.cell? ⟨w.heap.size, k * 11 + 1, none⟩ = some (fl cE (xs.take k) ++ J)[k * 11 + 1] := by rw [hown2.cellAt _ (by omega)]; exact List.getElem?_eq_getElem (by omega)
      have f1 := hown2.frozenAt (k * 11 + 1)
      have u2 : w2.cell? ⟨w.heap.size, k * 11 + 2, none⟩ = some (fl cE (xs.take k) ++ J)[k * 11 + 2] := by rw [hown2.cellAt _ (by omega)]; exact List.getElem?_eq_getElem (by omega)
      have f2 := hown2.frozenAt (k * 11 + 2)
      have u3 : w2.cell? ⟨w.heap.size, k * 11 + 3, none⟩ = some (fl cE (xs.take k) ++ J)[k * 11 + 3] := by rw [hown2.cellAt _ (by omega)]; exact List.getElem?_eq_getElem (by omega)
      have f3 := hown2.frozenAt (k * 11 + 3)
      have u4 : w2.cell? ⟨w.heap.size, k * 11 + 4, none⟩ = some (fl cE (xs.take k) ++ J)[k * 11 + 4] := by rw [hown2.cellAt _ (by omega)]; exact List.getElem?_eq_getElem (by omega)
      have f4 := hown2.frozenAt (k * 11 + 4)
      have u5 : w2.cell? ⟨w.heap.size, k * 11 + 5, none⟩ = some (fl cE (xs.take k) ++ J)[k * 11 + 5] := by rw [hown2.cellAt _ (by omega)]; exact List.getElem?_eq_getElem (by omega)
      have f5 := hown2.frozenAt (k * 11 + 5)
      have u6 : w2.cell? ⟨w.heap.size, k * 11 + 6, none⟩ = some (fl cE (xs.take k) ++ J)[k * 11 + 6] := by rw [hown2.cellAt _ (by omega)]; exact List.getElem?_eq_getElem (by omega)
      have f6 := hown2.frozenAt (k * 11 + 6)
      have u7 : w2.cell? ⟨w.heap.size, k * 11 + 7, none⟩ = some (fl cE (xs.take k) ++ J)[k * 11 + 7] := by rw [hown2.cellAt _ (by omega)]; exact List.getElem?_eq_getElem (by omega)
      have f7 := hown2.frozenAt (k * 11 + 7)
      have u8 : w2.cell? ⟨w.heap.size, k * 11 + 8, none⟩ = some (fl cE (xs.take k) ++ J)[k * 11 + 8] := by rw [hown2.cellAt _ (by omega)]; exact List.getElem?_eq_getElem (by omega)
      have f8 := hown2.frozenAt (k * 11 + 8)
      have u9 : w2.cell? ⟨w.heap.size, k * 11 + 9, none⟩ = some (fl cE (xs.take k) ++ J)[k * 11 + 9] := by rw [hown2.cellAt _ (by omega)]; exact List.getElem?_eq_getElem (by omega)
      have f9 := hown2.frozenAt (k * 11 + 9)
      have u10 : w2.cell? ⟨w.heap.size, k * 11 + 10, none⟩ = some (fl cE (xs.take k) ++ J)[k * 11 + 10] := by rw [hown2.cellAt _ (by omega)]; exact List.getElem?_eq_getElem (by omega)
      have f10 := hown2.frozenAt (k * 11 + 10)
      have hlt2 : (k : Int) < (xs.length : Int) := by omega
      clear hown2 hbel2 hs hp hsn
      generalize (fl cE (xs.take k) ++ J)[k * 11] = q0 at u0
      generalize (fl cE (xs.take k) ++ J)[k * 11 + 1] = q1 at u1
      generalize (fl cE (xs.take k) ++ J)[k * 11 + 2] = q2 at u2
      generalize (fl cE (xs.take k) ++ J)[k * 11 + 3] = q3 at u3
      generalize (fl cE (xs.take k) ++ J)[k * 11 + 4] = q4 at u4
      generalize (fl cE (xs.take k) ++ J)[k * 11 + 5] = q5 at u5
      generalize (fl cE (xs.take k) ++ J)[k * 11 + 6] = q6 at u6
      generalize (fl cE (xs.take k) ++ J)[k * 11 + 7] = q7 at u7
      generalize (fl cE (xs.take k) ++ J)[k * 11 + 8] = q8 at u8
      generalize (fl cE (xs.take k) ++ J)[k * 11 + 9] = q9 at u9
      generalize (fl cE (xs.take k) ++ J)[k * 11 + 10] = q10 at u10
      clear hll hJ
      go_wp2
      go_roundw
      case rel => exact HS.out
      case measure => simp [intOf]; omega
    · obtain rfl : k = xs.length := by omega
      have hj0 : J = [] := List.length_eq_zero_iff.1 (by omega)
      subst hj0
      rw [List.take_length, List.append_nil] at hown
      go_wp2
      go_ret
      exact ⟨rfl, hown, hbel⟩
end Go.Proofs.Ythmompnlkclfaaa
