/- Rules copied by the law: no two with their Sets in one place. -/
import Derived.Test.YtjbbhegijlnndaaNc6
import Derived.Test.YtjbbhegijlnndaaRd0
set_option linter.unusedVariables false
set_option maxRecDepth 100000
namespace Go.Proofs.Ytjbbhegijlnndaa.Nd
open Go Go.RowKit Go.Joins Own Draw Go.Proofs.Ytjbbhegijlnndaa

def AL (ys : List TT) : Prop := ys.Pairwise (fun x y => ∀ k, kbT x = some k → kbT y ≠ some k)
theorem al_put {B : Nat} {w w2 : World} {ys : List TT} {y : TT} (h : AL ys) (hO : ∀ x ∈ ys, OwT B w x) (hy : OwT w.heap.size w2 y) : AL (ys ++ [y]) := by
  unfold AL
  rw [List.pairwise_append]
  refine ⟨h, by simp, fun x hx z hz k e c => ?_⟩
  rw [List.mem_singleton] at hz
  subst hz
  have h1 := (World.ownsRow.lt (hO x hx) k e).2
  have h2 := (World.ownsRow.lt hy k c).1
  omega
set_option maxRecDepth 100000 in
set_option maxHeartbeats 3200000 in
theorem toSA_is (r : Rw TT) (w : World) (hd : RpT w r) (hl : rtT r ≤ 1048576) : Calls Try.prog 31 #[.slice r.1 r.2.2.length r.2.1] w fun en w' => ∃ y : Rw TT, en = .returned (.slice y.1 y.2.2.length y.2.1) ∧ rsT y = rsT r ∧ RoT w.heap.size w' y ∧ ApT y ∧ Below w.heap.size w w' := by
  obtain ⟨a, cap, xs⟩ := r
  obtain ⟨hr, hDp⟩ := hd
  dsimp only at hr hDp hl ⊢
  have hxl := rtT_len (a, cap, xs)
  dsimp only at hxl
  have hte : ∀ x ∈ xs, totT x ≤ 1048576 := fun x hx => by
    have h1 : totT x ≤ (xs.map totT).sum := le_sum_of_mem (List.mem_map_of_mem hx)
    have h2 : rtT (a, cap, xs) = xs.length + (xs.map totT).sum := rfl
    omega
  obtain ⟨i0, hi, hz0, hz1, hz2⟩ := info_parts infoTr
  obtain ⟨ie, hie, his⟩ := info_T
  go_enter Try.func31, Try.ntmps31
  go_wp2_with (first | (at_make; refine wpList_make_full _ rfl _ _ 24 rfl w.heap.size 59 i0 (.agg #[.int .i64 0, .slice none 0 0, .int .i64 0]) 3 Try.underlying24 hi hz0 hz1 .i64 .i64 xs.length xs.length xs.length rfl rfl rfl rfl (by rw [hz2]; omega) (by unfold maxLen; omega) (Nat.le_refl _) ?_) | go_in)
  intro w1 hown hgrow
  have hbel := (Below.refl w.heap.size w).grown hgrow (Nat.le_refl _) (by simp)
  clear hgrow
  have H0 : ∃ (ys : List TT) (Jk : List Value), ys.length = 0 ∧ ys.map stT = (xs.take 0).map stT ∧ w1.ownsRow w.heap.size 59 3 (.slice (some ⟨w.heap.size, 0, none⟩) xs.length xs.length) xs.length (fl cT ys ++ Jk) ∧ (∀ y ∈ ys, OwT (w.heap.size + 1) w1 y) ∧ Hid (AL ys) := ⟨[], _, rfl, rfl, hown, (fun y hy => by cases hy), List.Pairwise.nil⟩
  clear hown
  go_wp2
  go_loopw [4] (fun iv wr => ∃ k : Nat, k ≤ xs.length ∧ iv = .int .i64 k ∧ (∃ (ys : List TT) (Jk : List Value), ys.length = k ∧ ys.map stT = (xs.take k).map stT ∧ wr.ownsRow w.heap.size 59 3 (.slice (some ⟨w.heap.size, 0, none⟩) xs.length xs.length) xs.length (fl cT ys ++ Jk) ∧ (∀ y ∈ ys, OwT (w.heap.size + 1) wr y) ∧ Hid (AL ys)) ∧ Below w.heap.size w wr) (fun iv _ => xs.length - (intOf iv).toNat)
  case atStart => exact ⟨0, by omega, rfl, H0, hbel⟩
  case round =>
    clear H0 hbel
    obtain ⟨k, hk, rfl, ⟨ys, Jk, hyl, hys, hown, hO, hA⟩, hbel⟩ := hrel
    have hJ : k * 3 + Jk.length = xs.length * 3 := by have := hown.1; rw [List.length_append, fl_len lT, hyl] at this; exact this
    by_cases hlt : k < xs.length
    · obtain ⟨b1, o1, rfl, l1, hcc⟩ := hr k hlt
      have c0 : wr.cell? ⟨b1, o1 + k * 3, none⟩ = some (.int .i64 xs[k].1) := (hbel.cell (p := ⟨b1, o1 + k * 3, none⟩) l1).trans (hcc 0 _ rfl)
      have c1 : wr.cell? ⟨b1, o1 + k * 3 + 1, none⟩ = some (.slice xs[k].2.1.1 xs[k].2.1.2.2.length xs[k].2.1.2.1) := (hbel.cell (p := ⟨b1, o1 + k * 3 + 1, none⟩) l1).trans (hcc 1 _ rfl)
      have c2 : wr.cell? ⟨b1, o1 + k * 3 + 2, none⟩ = some (.int .i64 xs[k].2.2) := (hbel.cell (p := ⟨b1, o1 + k * 3 + 2, none⟩) l1).trans (hcc 2 _ rfl)
      have K1 := toT_is xs[k] wr ((hDp _ (List.getElem_mem hlt)).later hbel) (hte _ (List.getElem_mem hlt))
      have hsn : (xs.take (k + 1)).map stT = (xs.take k).map stT ++ [stT xs[k]] := by rw [List.take_succ_eq_append_getElem hlt, List.map_append]; rfl
      have hlt2 : (k : Int) < (xs.length : Int) := by omega
      have hgw : w.heap.size < wr.heap.size := (hown.lt _ rfl).2
      generalize xs[k] = x at K1 hsn c0 c1 c2
      clear hcc
      go_wp2_with fail
      refine K1.mono ?_
      clear K1 c0 c1 c2
      rintro en w2 ⟨y, rfl, hsy, hoy, hb2⟩
      have hA2 : Hid (AL (ys ++ [y])) := al_put hA.out hO hoy
      replace hown := own_later hown hb2
      replace hbel := hbel.trans (hb2.mono hbel.size)
      replace hO : ∀ y ∈ ys, OwT (w.heap.size + 1) w2 y := fun z hz => (hO z hz).later hb2
      replace hoy := hoy.le (by omega : w.heap.size + 1 ≤ wr.heap.size)
      clear hb2
      have hp := fl_put (f := cT) lT ys Jk y (by omega)
      rw [hyl] at hp
      have hG := sets_grown w.heap.size (cT y) (k * 3) w2
      have hS := own_sets (cT y) (k * 3) w2 _ rfl hown
      rw [hp] at hS
      have hO2 : ∀ z ∈ ys ++ [y], OwT (w.heap.size + 1) (w2.setCells w.heap.size (k * 3) (cT y)) z := by
        intro z hz
        rcases List.mem_append.1 hz with hz | hz
        · exact (hO z hz).far hG (by omega)
        · rw [List.mem_singleton.1 hz]; exact hoy.far hG (by omega)
      have B2 := below_sets (m := w.heap.size) (Nat.le_refl _) (cT y) (k * 3) w2 hbel
      have hco : ∀ j, j < xs.length * 3 → (∃ u, w2.cell? ⟨w.heap.size, j, none⟩ = some u) ∧ w2.frozen? ⟨w.heap.size, j, none⟩ = false := fun j hj => by
        have h1 := hown.cellAt j (by have := hown.1; omega)
        have h2 : j < (fl cT ys ++ Jk).length := by have := hown.1; omega
        rw [List.getElem?_eq_getElem h2] at h1
        exact ⟨⟨_, h1⟩, hown.frozenAt j⟩
      obtain ⟨W3, hW3⟩ : ∃ V, w2.setCells w.heap.size (k * 3) (cT y) = V := ⟨_, rfl⟩
      rw [hW3] at hS hO2 B2
      have HR : Hid (∃ k' : Nat, k' ≤ xs.length ∧ Value.int .i64 ((k : Int) + 1) = .int .i64 k' ∧ (∃ (ys : List TT) (Jk : List Value), ys.length = k' ∧ ys.map stT = (xs.take k').map stT ∧ W3.ownsRow w.heap.size 59 3 (.slice (some ⟨w.heap.size, 0, none⟩) xs.length xs.length) xs.length (fl cT ys ++ Jk) ∧ (∀ y ∈ ys, OwT (w.heap.size + 1) W3 y) ∧ Hid (AL ys)) ∧ Below w.heap.size w W3) :=
        ⟨k + 1, by omega, by go_num, ⟨ys ++ [y], _, by simp [hyl], by rw [List.map_append, hys, hsn, ← hsy]; rfl, hS, hO2, hA2⟩, B2⟩
      have hk16 : k * 3 + 3 ≤ xs.length * 3 := by have := Nat.mul_le_mul_right 3 hlt; omega
      clear hS hO2 B2 hG hp hO hoy hA hA2 hown hys hsn hyl hJ
      go_wp2_with (first | (refine wpList_stO 59 _ _ w.heap.size (k * 3) [.int .i64 y.1, .slice y.2.1.1 y.2.1.2.2.length y.2.1.2.1, .int .i64 y.2.2] ie hie his.symm rfl (fun j hj => hco _ (by simp at hj; omega)) rfl rfl rfl rfl ?_; rw [hW3]) | go_in)
      go_roundw
      case rel => exact HR.out
      case measure => simp [intOf]; omega
    · obtain rfl : k = xs.length := by omega
      have hj0 : Jk = [] := List.length_eq_zero_iff.1 (by omega)
      subst hj0
      rw [List.append_nil] at hown
      rw [List.take_length] at hys
      go_wp2
      go_ret
      refine ⟨(some ⟨w.heap.size, 0, none⟩, xs.length, ys), by rw [hyl]; rfl, hys, ⟨?_, fun y hy => (hO y hy).le (Nat.le_succ _)⟩, hA.out, hbel⟩
      show World.ownsRow _ _ _ _ (.slice _ ys.length _) ys.length _
      rw [hyl]; exact hown
end Go.Proofs.Ytjbbhegijlnndaa.Nd
