/- Marks of rules that are held: the law's own call. -/
import Derived.Test.YtjbbhegijlnndaaMr1
set_option linter.unusedVariables false
set_option maxRecDepth 100000
namespace Go.Proofs.Ytjbbhegijlnndaa.Nd
open Go Go.RowKit Go.Joins Own Draw Go.Proofs.Ytjbbhegijlnndaa

theorem mkL_split (k0 : Nat) (xs : List TT) (j : Nat) (h : j < xs.length) : mkL k0 xs = mkL k0 (xs.take j) ++ mkT (k0 + adL (xs.take j)) xs[j] :: mkL (k0 + adL (xs.take j) + adT xs[j]) (xs.drop (j + 1)) := by
  have app : ∀ (k : Nat) (l m : List TT), mkL k (l ++ m) = mkL k l ++ mkL (k + adL l) m := by
    intro k l m
    induction l generalizing k with
    | nil => simp [mkL, adL]
    | cons x l ih =>
      simp only [List.cons_append, mkL, ih (k + adT x)]
      congr 2
      unfold adL
      rw [List.map_cons, List.sum_cons, Nat.add_assoc]
  conv => lhs; rw [← List.take_append_drop j xs, List.drop_eq_getElem_cons h, app]
  rfl
set_option maxHeartbeats 3200000 in
theorem heldR_is (B k0 : Nat) (a : Option Addr) (cap : Nat) (xs : List TT) (w : World) (h : RoT B w (a, cap, mkL k0 xs)) (h0 : 1 ≤ k0) (hA : k0 + adL xs ≤ 4000000) :
    Calls Try.prog 39 #[.slice a xs.length cap, .int .i64 (k0 : Int)] w fun e w' => e = .returned (.int .i64 ((k0 + adL xs : Nat) : Int)) ∧ Below w.heap.size w w' := by
  have hln := mkL_len k0 xs
  rcases h.1.2 with ⟨e, e0⟩ | ⟨g, cap', cur, e, _⟩
  · injection e with e1 e2 e3
    subst e1 e3
    have hx : xs = [] := List.length_eq_zero_iff.1 (by rw [← hln]; exact e0)
    subst hx
    go_enter Try.func39, Try.ntmps39
    go_wp2
    go_loopw [1, 5] (fun kv i wr => i = .int .i64 0 ∧ kv = .int .i64 (k0 : Int) ∧ w = wr) (fun _ _ _ => 0)
    case atStart => exact ⟨rfl, rfl, rfl⟩
    case round =>
      obtain ⟨rfl, rfl, rfl⟩ := hrel
      go_wp2
      go_ret
      exact ⟨by simp [adL], Below.refl _ _⟩
  · injection e with e1 e2 e3
    subst e1 e3
    go_enter Try.func39, Try.ntmps39
    go_wp2
    go_loopw [1, 5] (fun kv i wr => ∃ j k : Nat, j ≤ xs.length ∧ k = k0 + adL (xs.take j) ∧ i = .int .i64 j ∧ kv = .int .i64 k ∧ Below w.heap.size w wr) (fun _ i _ => xs.length - (intOf i).toNat)
    case atStart => exact ⟨0, k0, by omega, by simp [adL], rfl, rfl, Below.refl _ _⟩
    case round =>
      obtain ⟨j, k, hj, hk, rfl, rfl, hbl⟩ := hrel
      by_cases hlt : j < xs.length
      · have hlt2 : (j : Int) < (xs.length : Int) := by omega
        have hjb : (j : Int) ≤ 4000000 := by have := adL_len xs; omega
        have hpl : (mkL k0 (xs.take j)).length = j := by rw [mkL_len, List.length_take]; omega
        have had := adL_take xs j hlt
        have hle := adL_le xs (j + 1)
        have hro := RoT.later h hbl
        rw [mkL_split k0 xs j hlt, ← hk] at hro
        have HNX : Hid (∀ W : World, Below w.heap.size w W → ∃ j' k' : Nat, j' ≤ xs.length ∧ k' = k0 + adL (xs.take j') ∧ Value.int .i64 ((j : Int) + 1) = .int .i64 j' ∧ Value.int .i64 ((k + adT xs[j] : Nat) : Int) = .int .i64 k' ∧ Below w.heap.size w W) := fun W hb => ⟨j + 1, k + adT xs[j], by omega, by rw [had, hk]; omega, by go_num, rfl, hb⟩
        have hka : k + adT xs[j] ≤ 4000000 := by omega
        generalize xs[j] = x at hro HNX hka
        generalize mkL k0 (xs.take j) = pre at hro hpl
        generalize mkL (k + adT x) (xs.drop (j + 1)) = post at hro
        have hka2 : k + 2 + x.2.1.2.2.length ≤ 4000000 := by unfold adT at hka; omega
        have y0 := row_cell hro 0 rfl
        have y1 := row_cell hro 1 rfl
        have y2 := row_cell hro 2 rfl
        rw [hpl] at y0 y1 y2
        rw [Nat.add_zero] at y0
        dsimp only [mkT] at y0 y1 y2
        rw [rg_len] at y1
        rw [show (((k + 1 + x.2.1.2.2.length : Nat)) : Int) = (k : Int) + 1 + x.2.1.2.2.length by omega] at y2
        have hko := hro.2 (mkT k x) (List.mem_append.2 (Or.inr (List.mem_cons_self ..)))
        have hki : (k : Int) ≤ 4000000 := by omega
        have hgl : g < wr.heap.size := (World.ownsRow.lt (RoT.later h hbl).1 g rfl).2
        clear hk had hle hka hro
        unfold OwT RoI mkT at hko
        dsimp only at hko
        rw [rg_len, rg_mks] at hko
        have KK := heldI_is B (k + 1) x.2.1.1 x.2.1.2.2.length x.2.1.2.1 wr hko (by omega) (by omega)
        rw [show (((k + 1 : Nat)) : Int) = (k : Int) + 1 by omega] at KK
        clear hko
        go_wp2_with fail
        refine KK.mono ?_
        clear KK y0 y1
        rintro en v2 ⟨rfl, hb⟩
        replace y2 := (hb.cell (p := ⟨g, j * 3 + 2, none⟩) hgl).trans y2
        have HR := HNX.out v2 (hbl.trans (hb.mono hbl.size))
        rw [show k + adT x = k + 2 + x.2.1.2.2.length by unfold adT; omega, show (((k + 2 + x.2.1.2.2.length : Nat)) : Int) = (k : Int) + 1 + x.2.1.2.2.length + 1 by omega] at HR
        rw [show (((k + 1 + x.2.1.2.2.length : Nat)) : Int) = (k : Int) + 1 + x.2.1.2.2.length by omega]
        have hpos : ¬ ((k : Int) + 1 + (x.2.1.2.2.length : Int) < 0) := by omega
        clear HNX hb
        go_wp2
        go_roundw
        case rel => exact HR
        case measure => simp [intOf]; omega
      · obtain rfl : j = xs.length := by omega
        have hlt2 : ¬ ((xs.length : Nat) : Int) < (xs.length : Int) := by omega
        rw [List.take_length] at hk
        go_wp2
        go_ret
        exact ⟨rfl, hbl⟩
end Go.Proofs.Ytjbbhegijlnndaa.Nd
