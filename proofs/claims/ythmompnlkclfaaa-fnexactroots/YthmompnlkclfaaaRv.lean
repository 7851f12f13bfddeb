/- A row turned round. -/
import Derived.Test.YthmompnlkclfaaaBw
set_option linter.unusedVariables false
set_option maxRecDepth 100000
namespace Go.Proofs.Ythmompnlkclfaaa
open Go Go.RowKit Go.Joins Own Draw

/-- A row after k exchanges from both ends. -/
def Hlf (ys zs : List Int) (k : Nat) : Prop := ∃ e : zs.length = ys.length, ∀ t (h : t < ys.length), zs[t] = if t < k ∨ ys.length - k ≤ t then ys[ys.length - 1 - t] else ys[t]
theorem Hlf.zero (ys : List Int) : Hlf ys ys 0 := ⟨rfl, fun t h => by rw [if_neg (by omega)]⟩
theorem Hlf.step {ys zs : List Int} {k : Nat} (h : Hlf ys zs k) (hk : k < ys.length - 1 - k) (h1 : k < zs.length) (h2 : ys.length - 1 - k < zs.length) : Hlf ys ((zs.set k zs[ys.length - 1 - k]).set (ys.length - 1 - k) zs[k]) (k + 1) := by
  obtain ⟨e, h⟩ := h
  refine ⟨by simp [e], fun t ht => ?_⟩
  rw [List.getElem_set]
  by_cases e1 : ys.length - 1 - k = t
  · subst e1
    rw [if_pos rfl, if_pos (by omega), h k (by omega), if_neg (by omega)]
    congr 1; omega
  · rw [if_neg e1, List.getElem_set]
    by_cases e2 : k = t
    · subst e2
      rw [if_pos rfl, if_pos (by omega), h _ (by omega), if_neg (by omega)]
    · rw [if_neg e2, h t ht]
      by_cases e3 : t < k ∨ ys.length - k ≤ t
      · rw [if_pos e3, if_pos (by omega)]
      · rw [if_neg e3, if_neg (by omega)]
theorem Hlf.done {ys zs : List Int} {k : Nat} (h : Hlf ys zs k) (hk : ¬ (k : Int) < (ys.length : Int) - 1 - k) : zs = ys.reverse := by
  obtain ⟨e, h⟩ := h
  refine List.ext_getElem (by simp [e]) fun t h1 h2 => ?_
  rw [List.getElem_reverse, h t (by omega)]
  split
  · rfl
  · congr 1; omega
set_option maxRecDepth 100000 in
set_option maxHeartbeats 3200000 in
theorem rev_is (B : Nat) (a : Option Addr) (cap : Nat) (ys : List Int) (w : World) (h : w.ownsRow B 3 1 (.slice a ys.length cap) ys.length (ys.map (Value.int .i64))) (hl : ys.length ≤ 2000000) :
    Calls Try.prog 51 #[.slice a ys.length cap] w fun e w' => e = .returned (.tuple #[]) ∧ w'.ownsRow B 3 1 (.slice a ys.length cap) ys.length (ys.reverse.map (Value.int .i64)) ∧ Below B w w' := by
  rcases h.2 with ⟨e, h0⟩ | ⟨g, cap', cur, e, _⟩
  · injection e with e1 e2 e3
    subst e1 e3
    have hy : ys = [] := List.length_eq_zero_iff.1 h0
    subst hy
    go_enter Try.func51, Try.ntmps51
    go_wp2
    go_loopw [2, 3] (fun i j wr => i = .int .i64 0 ∧ j = .int .i64 (-1) ∧ w = wr) (fun _ _ _ => 0)
    case atStart => exact ⟨rfl, rfl, rfl⟩
    case round =>
      obtain ⟨rfl, rfl, rfl⟩ := hrel
      go_wp2
      go_end0
      exact ⟨rfl, h, Below.refl _ _⟩
  · injection e with e1 e2 e3
    subst e1 e3
    have hG0 : w.grownBy w (some g) := World.grownBy.refl _ _
    have hgB : B ≤ g := (h.lt g rfl).1
    have hBw : B ≤ w.heap.size := by have := (h.lt g rfl).2; omega
    go_enter Try.func51, Try.ntmps51
    go_wp2
    go_loopw [2, 3] (fun i j wr => ∃ (k : Nat) (zs : List Int), i = .int .i64 k ∧ j = .int .i64 ((ys.length : Int) - 1 - k) ∧ Hlf ys zs k ∧ wr.ownsRow B 3 1 (.slice (some ⟨g, 0, none⟩) ys.length cap) ys.length (zs.map (Value.int .i64)) ∧ w.grownBy wr (some g)) (fun i _ _ => ys.length - (intOf i).toNat)
    case atStart => exact ⟨0, ys, rfl, by simp, Hlf.zero ys, h, hG0⟩
    case round =>
      clear h hG0
      obtain ⟨k, zs, rfl, rfl, hH, hown, hG⟩ := hrel
      by_cases hlt : (k : Int) < (ys.length : Int) - 1 - k
      · have he := hH.1
        obtain ⟨j, hj⟩ : ∃ j : Nat, ys.length - 1 - k = j := ⟨_, rfl⟩
        have hjz : (ys.length : Int) - 1 - k = (j : Int) := by omega
        have hk1 : k < zs.length := by omega
        have hj1 : j < zs.length := by omega
        have H2 := hH.step (by omega) hk1 (by omega)
        have hs0 := hown.stored k (.int .i64 zs[j])
        have hs1 := hs0.1.stored j (.int .i64 zs[k])
        have hs := hs1.1
        have hE : ((zs.map (Value.int .i64)).set k (.int .i64 zs[j])).set j (.int .i64 zs[k]) = ((zs.set k zs[j]).set j zs[k]).map (Value.int .i64) := by rw [List.map_set, List.map_set]
        rw [hE] at hs
        have hG2 := grown_to (grown_to hG hs0.2) hs1.2
        simp only [hj] at H2
        have ck : wr.cell? ⟨g, k, none⟩ = some (.int .i64 zs[k]) := by rw [hown.cellAt _ (by simp; omega)]; simp [hk1]
        have cj : wr.cell? ⟨g, j, none⟩ = some (.int .i64 zs[j]) := by rw [hown.cellAt _ (by simp; omega)]; simp [hj1]
        have fk := hown.frozenAt k
        have fj := hown.frozenAt j
        have hne : ¬ k = j := by omega
        have HR : Hid (∃ (k' : Nat) (zs' : List Int), Value.int .i64 ((k : Int) + 1) = .int .i64 k' ∧ Value.int .i64 ((j : Int) - 1) = .int .i64 ((ys.length : Int) - 1 - k') ∧ Hlf ys zs' k' ∧ ((wr.setCell ⟨g, k, none⟩ (.int .i64 zs[j])).setCell ⟨g, j, none⟩ (.int .i64 zs[k])).ownsRow B 3 1 (.slice (some ⟨g, 0, none⟩) ys.length cap) ys.length (zs'.map (Value.int .i64)) ∧ w.grownBy ((wr.setCell ⟨g, k, none⟩ (.int .i64 zs[j])).setCell ⟨g, j, none⟩ (.int .i64 zs[k])) (some g)) :=
          ⟨k + 1, _, by go_num, by congr 1; omega, H2, hs, hG2⟩
        rw [hjz] at hlt ⊢
        have hk2 : (k : Int) < (ys.length : Int) := by omega
        have hj2 : (j : Int) < (ys.length : Int) := by omega
        have hk3 : (k : Int) ≤ 2000000 := by omega
        have hj3 : (j : Int) ≤ 2000000 := by omega
        generalize zs[k] = x at ck HR
        generalize zs[j] = y at cj HR
        clear hs hs0 hs1 hE hG2 H2 hown hG hH he hk1 hj1 hj hjz hne
        go_wp2_with fail
        go_region
        go_wp2
        go_roundw
        case rel =>
          obtain ⟨k', zs', a1, a2, a3, a4, a5⟩ := HR.out
          exact ⟨k', zs', a1, a2, a3, a4.drew, ⟨a5.os, a5.tape, a5.output, a5.size, a5.block⟩⟩
        case measure => simp [intOf]; omega
      · have hz := hH.done (by omega)
        rw [hz] at hown
        go_wp2
        go_end0
        exact ⟨rfl, by rw [← List.map_reverse]; exact hown, (Below.refl B w).grown hG hBw (fun k e => by cases e; exact hgB)⟩
end Go.Proofs.Ythmompnlkclfaaa
