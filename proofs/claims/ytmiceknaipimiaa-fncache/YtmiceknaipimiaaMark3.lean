/- Marks in a row of Auths: what the laws write into it, and what they find of it. -/
import Derived.Test.YtmiceknaipimiaaRow3
set_option linter.unusedVariables false
namespace Go.Proofs.Ytmiceknaipimiaa
open Go Go.RowKit Go.Joins Own Draw

/-- The first n marks, by three. -/
def mk3 (n : Nat) : List A3 := (List.range n).map fun i : Nat => ((i : Int) * 3 + 1, (i : Int) * 3 + 2, (i : Int) * 3 + 3)
theorem mk3_len (n : Nat) : (mk3 n).length = n := by unfold mk3; simp
theorem mk3_succ (n : Nat) : mk3 (n + 1) = mk3 n ++ [((n : Int) * 3 + 1, (n : Int) * 3 + 2, (n : Int) * 3 + 3)] := by unfold mk3; rw [List.range_succ, List.map_append]; rfl
theorem mk3_get (n k : Nat) (h : k < (mk3 n).length) : (mk3 n)[k] = ((k : Int) * 3 + 1, (k : Int) * 3 + 2, (k : Int) * 3 + 3) := by
  have e : (mk3 n)[k]? = some ((k : Int) * 3 + 1, (k : Int) * 3 + 2, (k : Int) * 3 + 3) := by
    unfold mk3
    rw [List.getElem?_map, List.getElem?_range (by rw [mk3_len] at h; exact h)]
    rfl
  rw [List.getElem?_eq_getElem h] at e
  exact Option.some.inj e
theorem mk3_put (xs : List A3) (k : Nat) (h : k < xs.length) : (mk3 k ++ xs.drop k).set k ((k : Int) * 3 + 1, (k : Int) * 3 + 2, (k : Int) * 3 + 3) = mk3 (k + 1) ++ xs.drop (k + 1) := by
  rw [List.set_append_right _ _ (by rw [mk3_len]; omega), mk3_len, Nat.sub_self, mk3_succ, List.append_assoc, List.drop_eq_getElem_cons h]
  rfl
theorem grown_to {w w1 w2 : World} {r : Option Nat} (h : w.grownBy w1 r) (k : w1.grownBy w2 r) : w.grownBy w2 r :=
  ⟨k.os.trans h.os, k.tape.trans h.tape, k.output.trans h.output, Nat.le_trans h.size k.size, fun j hj hn => (k.block j (Nat.lt_of_lt_of_le hj h.size) hn).trans (h.block j hj hn)⟩

set_option maxRecDepth 100000 in
set_option maxHeartbeats 1600000 in
theorem markAS_is (B : Nat) (a : Option Addr) (cap : Nat) (xs : List A3) (w : World) (h : Own3 B a cap xs w) (hl : xs.length ≤ 1048576) :
    Calls Try.prog 46 #[.slice a xs.length cap, .int .i64 1] w fun e w' => e = .returned (.int .i64 ((xs.length * 3 + 1 : Nat) : Int)) ∧ w'.ownsRow B 28 3 (.slice a xs.length cap) xs.length (trV (mk3 xs.length)) ∧ w.grownBy w' (Value.slice a xs.length cap).ownBlock := by
  rcases h.2 with ⟨e, h0⟩ | ⟨g, cap', cur, e, _⟩
  · injection e with e1 e2 e3
    have hx : xs = [] := List.length_eq_zero_iff.1 h0
    subst e1 e3 hx
    go_enter Try.func46, Try.ntmps46
    go_wp2
    go_loopw [1, 5] (fun kv i wr => i = .int .i64 0 ∧ kv = .int .i64 1 ∧ w = wr) (fun _ _ _ => 0)
    case atStart => exact ⟨rfl, rfl, rfl⟩
    case round =>
      obtain ⟨rfl, rfl, rfl⟩ := hrel
      go_wp2
      go_ret
      exact ⟨rfl, h, World.grownBy.refl _ _⟩
  · injection e with e1 e2 e3
    subst e1 e3
    have H0 : w.ownsRow B 28 3 (.slice (some ⟨g, 0, none⟩) xs.length cap) xs.length (trV (mk3 0 ++ xs.drop 0)) := h
    have hG0 : w.grownBy w (some g) := World.grownBy.refl _ _
    clear h
    go_enter Try.func46, Try.ntmps46
    go_wp2
    go_loopw [1, 5] (fun kv i wr => ∃ k m : Nat, k ≤ xs.length ∧ m = k * 3 + 1 ∧ i = .int .i64 k ∧ kv = .int .i64 m ∧ wr.ownsRow B 28 3 (.slice (some ⟨g, 0, none⟩) xs.length cap) xs.length (trV (mk3 k ++ xs.drop k)) ∧ w.grownBy wr (some g)) (fun _ i _ => xs.length - (intOf i).toNat)
    case atStart => exact ⟨0, 1, by omega, rfl, rfl, rfl, H0, hG0⟩
    case round =>
      clear H0 hG0
      obtain ⟨k, m, hk, hm, rfl, rfl, hown, hG⟩ := hrel
      by_cases hlt : k < xs.length
      · have hs0 := hown.stored (k * 3) (.int .i64 (m : Int))
        have hs1 := hs0.1.stored (k * 3 + 1) (.int .i64 ((m : Int) + 1))
        have hs2 := hs1.1.stored (k * 3 + 2) (.int .i64 ((m : Int) + 1 + 1))
        have hs := hs2.1
        rw [trV_set, show (((m : Int), (m : Int) + 1, (m : Int) + 1 + 1) : A3) = ((k : Int) * 3 + 1, (k : Int) * 3 + 2, (k : Int) * 3 + 3) by rw [hm]; refine Prod.ext (by simp) (Prod.ext ?_ ?_) <;> (simp; omega), mk3_put xs k hlt] at hs
        have HS : Hid (∃ k' m' : Nat, k' ≤ xs.length ∧ m' = k' * 3 + 1 ∧ Value.int .i64 ((k : Int) + 1) = .int .i64 k' ∧ Value.int .i64 ((m : Int) + 1 + 1 + 1) = .int .i64 m' ∧ (((wr.setCell ⟨g, k * 3, none⟩ (.int .i64 (m : Int))).setCell ⟨g, k * 3 + 1, none⟩ (.int .i64 ((m : Int) + 1))).setCell ⟨g, k * 3 + 2, none⟩ (.int .i64 ((m : Int) + 1 + 1))).ownsRow B 28 3 (.slice (some ⟨g, 0, none⟩) xs.length cap) xs.length (trV (mk3 k' ++ xs.drop k')) ∧ w.grownBy (((wr.setCell ⟨g, k * 3, none⟩ (.int .i64 (m : Int))).setCell ⟨g, k * 3 + 1, none⟩ (.int .i64 ((m : Int) + 1))).setCell ⟨g, k * 3 + 2, none⟩ (.int .i64 ((m : Int) + 1 + 1))) (some g)) :=
          ⟨k + 1, m + 1 + 1 + 1, by omega, by omega, by go_num, by go_num, hs, grown_to (grown_to (grown_to hG hs0.2) hs1.2) hs2.2⟩
        have hll : (trV (mk3 k ++ xs.drop k)).length = xs.length * 3 := hown.1
        have u0 : wr.cell? ⟨g, k * 3, none⟩ = some (trV (mk3 k ++ xs.drop k))[k * 3] := by rw [hown.cellAt _ (by omega)]; exact List.getElem?_eq_getElem (by omega)
        have u1 : wr.cell? ⟨g, k * 3 + 1, none⟩ = some (trV (mk3 k ++ xs.drop k))[k * 3 + 1] := by rw [hown.cellAt _ (by omega)]; exact List.getElem?_eq_getElem (by omega)
        have u2 : wr.cell? ⟨g, k * 3 + 2, none⟩ = some (trV (mk3 k ++ xs.drop k))[k * 3 + 2] := by rw [hown.cellAt _ (by omega)]; exact List.getElem?_eq_getElem (by omega)
        have f0 := hown.frozenAt (k * 3)
        have f1 := hown.frozenAt (k * 3 + 1)
        have f2 := hown.frozenAt (k * 3 + 2)
        have hlt2 : (k : Int) < (xs.length : Int) := by omega
        have hm2 : (m : Int) ≤ 4000000 := by omega
        generalize (trV (mk3 k ++ xs.drop k))[k * 3] = q0 at u0
        generalize (trV (mk3 k ++ xs.drop k))[k * 3 + 1] = q1 at u1
        generalize (trV (mk3 k ++ xs.drop k))[k * 3 + 2] = q2 at u2
        clear hown hG hs hs0 hs1 hs2 hll hm
        go_wp2
        go_roundw
        case rel => exact HS.out
        case measure => simp [intOf]; omega
      · obtain rfl : k = xs.length := by omega
        rw [List.drop_length, List.append_nil] at hown
        go_wp2
        go_ret
        exact ⟨by rw [hm]; rfl, hown, hG⟩

set_option maxRecDepth 100000 in
set_option maxHeartbeats 1600000 in
theorem heldAS_is (a : Option Addr) (n cap : Nat) (w : World) (hr : ARow w a (mk3 n)) (hl : n ≤ 1048576) :
    Calls Try.prog 47 #[.slice a n cap, .int .i64 1] w fun e w' => e = .returned (.int .i64 ((n * 3 + 1 : Nat) : Int)) ∧ Below w.heap.size w w' := by
  go_enter Try.func47, Try.ntmps47
  go_wp2
  go_loopw [1, 5] (fun kv i wr => ∃ k m : Nat, k ≤ n ∧ m = k * 3 + 1 ∧ i = .int .i64 k ∧ kv = .int .i64 m ∧ Below w.heap.size w wr) (fun _ i _ => n - (intOf i).toNat)
  case atStart => exact ⟨0, 1, by omega, rfl, rfl, rfl, Below.refl _ _⟩
  case round =>
    obtain ⟨k, m, hk, hm, rfl, rfl, hbel⟩ := hrel
    by_cases hlt : k < n
    · obtain ⟨b1, o1, rfl, l1, h0, h1, h2⟩ := hr k (by rw [mk3_len]; exact hlt)
      rw [← hbel.cell (p := ⟨b1, o1 + k * 3, none⟩) l1, mk3_get, show ((k : Int) * 3 + 1) = (m : Int) by omega] at h0
      rw [← hbel.cell (p := ⟨b1, o1 + k * 3 + 1, none⟩) l1, mk3_get, show ((k : Int) * 3 + 2) = (m : Int) + 1 by omega] at h1
      rw [← hbel.cell (p := ⟨b1, o1 + k * 3 + 2, none⟩) l1, mk3_get, show ((k : Int) * 3 + 3) = (m : Int) + 1 + 1 by omega] at h2
      have hlt2 : (k : Int) < (n : Int) := by omega
      have hm2 : (m : Int) ≤ 4000000 := by omega
      have hm3 : m + 1 + 1 + 1 = (k + 1) * 3 + 1 := by omega
      clear hr hm
      go_wp2
      go_roundw
      case rel => exact ⟨k + 1, m + 1 + 1 + 1, by omega, hm3, by go_num, by go_num, hbel⟩
      case measure => simp [intOf]; omega
    · obtain rfl : k = n := by omega
      go_wp2
      go_ret
      exact ⟨by rw [hm]; rfl, hbel⟩
end Go.Proofs.Ytmiceknaipimiaa
