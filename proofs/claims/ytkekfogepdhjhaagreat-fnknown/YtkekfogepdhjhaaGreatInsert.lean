/- A number put into a row of the call's own: slices.Insert, and the place that slices.BinarySearch finds for it. -/
import Derived.Test.YtkekfogepdhjhaaGreatShelf
import Derived.Test.YtkekfogepdhjhaaGreatKeys2
import Derived.Test.YtkekfogepdhjhaaGreatLearn3
set_option linter.unusedVariables false
namespace Go.Proofs.YtkekfogepdhjhaaGreat
open Go.RowKit Own Var Term

theorem pair_of {ks : List Int} (h : kKeys ks = true) : ks.Pairwise (· < ·) := by
  unfold kKeys at h
  rw [List.all_eq_true] at h
  have adj : ∀ j (hj : j + 1 < ks.length), ks[j] < ks[j + 1] := by
    intro j hj
    have := h (j + 1) (List.mem_range.2 hj)
    unfold goodK at this
    simp only [Nat.add_sub_cancel, Bool.and_eq_true, Bool.or_eq_true, decide_eq_true_eq] at this
    rcases this.2 with c | c
    · simp at c
    · rwa [getD_at (by omega), getD_at hj] at c
  rw [List.pairwise_iff_getElem]
  intro i j hi hj hij
  induction j with
  | zero => omega
  | succ j ih =>
    by_cases e : i = j
    · subst e; exact adj i hj
    · exact Int.lt_trans (ih (by omega) (by omega)) (adj j hj)
theorem putL_at : ∀ {ks : List Int} {x : Int}, ks.Pairwise (· < ·) → ¬ x ∈ ks → putL ks x = ks.take (ks.countP (· < x)) ++ x :: ks.drop (ks.countP (· < x)) := by
  intro ks x hp hx
  induction ks with
  | nil => rfl
  | cons y r ih =>
    rw [List.pairwise_cons] at hp
    have hne : x ≠ y := fun e => hx (by rw [e]; exact List.mem_cons_self ..)
    by_cases h : x < y
    · have hc : (y :: r).countP (· < x) = 0 := by
        rw [List.countP_eq_zero]
        intro z hz
        rcases List.mem_cons.1 hz with rfl | hz
        · simp; omega
        · have := hp.1 z hz; simp; omega
      rw [hc, putL_stop h]; rfl
    · have hy : y < x := by omega
      have hc : (y :: r).countP (· < x) = r.countP (· < x) + 1 := by rw [List.countP_cons]; simp [hy]
      rw [hc, putL_pass h, ih hp.2 (fun c => hx (List.mem_cons_of_mem _ c))]
      simp

theorem heap_cells {e : TypeId} {g : Nat} : ∀ (vs : List Value) (o : Nat) (w : World) (cur : Array Value), w.heap[g]? = some (.cells cur e (0, 0)) → o + vs.length ≤ cur.size →
    ∃ cur', (w.setCells g o vs).heap[g]? = some (.cells cur' e (0, 0)) ∧ cur'.toList = cur.toList.take o ++ vs ++ cur.toList.drop (o + vs.length) := by
  intro vs
  induction vs with
  | nil => intro o w cur h _; exact ⟨cur, h, by simp⟩
  | cons v r ih =>
    intro o w cur h hs
    simp only [List.length_cons] at hs
    obtain ⟨c2, h2, e2⟩ := ih (o + 1) (w.setCell ⟨g, o, none⟩ v) (cur.setIfInBounds o v) (heap_setCell_same w g o cur e v h) (by simp; omega)
    refine ⟨c2, h2, ?_⟩
    have hl : cur.toList.length = cur.size := rfl
    rw [e2, Array.toList_setIfInBounds]
    have t1 : (cur.toList.set o v).take (o + 1) = cur.toList.take o ++ [v] := by
      rw [List.take_succ_eq_append_getElem (by simp; omega), List.take_set_of_le (by omega)]
      simp
    have t2 : (cur.toList.set o v).drop (o + 1 + r.length) = cur.toList.drop (o + (v :: r).length) := by
      rw [List.drop_set_of_lt (by omega)]
      congr 1
      simp; omega
    rw [t1, t2]
    simp
theorem grown_cells (g : Nat) : ∀ (vs : List Value) (o : Nat) (w : World), w.grownBy (w.setCells g o vs) (some g) := by
  intro vs
  induction vs with
  | nil => intro o w; exact World.grownBy.refl w _
  | cons v r ih =>
    intro o w
    have h1 : w.grownBy (w.setCell ⟨g, o, none⟩ v) (some g) := ⟨rfl, rfl, rfl, by simp, fun k _ hk => heap_setCell_other w ⟨g, o, none⟩ k v (fun e => hk (by simp [e]))⟩
    have h2 := ih (o + 1) (w.setCell ⟨g, o, none⟩ v)
    exact ⟨h2.os.trans h1.os, h2.tape.trans h1.tape, h2.output.trans h1.output, Nat.le_trans h1.size h2.size, fun j hj hn => (h2.block j (Nat.lt_of_lt_of_le hj h1.size) hn).trans (h1.block j hj hn)⟩

/-- Where slices.BinarySearch finds x, or its place. -/
theorem bin_some (g off c : Nat) (ks : List Int) (x : Int) (w : World) (hr : RowAt (Value.int .i64) w (some ⟨g, off, none⟩) ks) (hl : ks.length ≤ 1048576) (hp : ks.Pairwise (· < ·)) :
    Calls Tryz.prog 43 #[.slice (some ⟨g, off, none⟩) ks.length c, .int .i64 x] w fun e w' => e = .returned (.tuple #[.int .i64 (ks.countP (· < x) : Nat), .bool (hasB ks x)]) ∧ Below w.heap.size w w' := by
  have H := Any.slices_BinarySearch_int Tryz.laysNm225 g off ks.length c ks x w (Nat.le_refl _) (by omega) (fun j hj => by
    obtain ⟨b, o, e, _, hc⟩ := hr j hj
    simp only [Option.some.injEq, Addr.mk.injEq] at e
    obtain ⟨rfl, rfl, _⟩ := e
    rw [hc, getD_at hj]) (by rw [List.take_length]; exact hp.imp (fun h => Int.le_of_lt h))
  rw [List.take_length] at H
  refine H.mono ?_
  rintro e w' ⟨rfl, q, rfl⟩
  exact ⟨rfl, below_drewN (Below.refl _ _) q⟩
set_option maxRecDepth 100000 in
set_option maxHeartbeats 800000 in
theorem bin_is (a : Option Addr) (c : Nat) (ks : List Int) (x : Int) (w : World) (hr : RowAt (Value.int .i64) w a ks) (hl : ks.length ≤ 1048576) (hp : ks.Pairwise (· < ·)) :
    Calls Tryz.prog 43 #[.slice a ks.length c, .int .i64 x] w fun e w' => e = .returned (.tuple #[.int .i64 (ks.countP (· < x) : Nat), .bool (hasB ks x)]) ∧ Below w.heap.size w w' := by
  cases ks with
  | cons k r =>
    obtain ⟨g, off, e, _⟩ := hr 0 (by simp)
    subst e
    exact bin_some g off c (k :: r) x w hr hl hp
  | nil =>
    go_enter Tryz.func43, Tryz.ntmps43
    go_wp2
    refine wp_loop_rounds 1 ?_
    rw [rounds_succ]
    go_wp2
    go_ret2
    exact ⟨rfl, Below.refl _ _⟩
end Go.Proofs.YtkekfogepdhjhaaGreat
