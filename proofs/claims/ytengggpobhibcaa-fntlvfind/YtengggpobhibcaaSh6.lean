/- A message is right: as the model asks it, and as the stack does. -/
import Derived.Test.YtengggpobhibcaaSh5
set_option linter.unusedVariables false
set_option maxRecDepth 100000
namespace Go.Proofs.Ytengggpobhibcaa.Nd
open Go Go.RowKit Go.Joins Own Draw Var

theorem cnt_nat (v : Nat) : ∀ (ks : List Int), (∀ k ∈ ks, 0 ≤ k) → (ks.map Int.toNat).count v = ks.count (v : Int)
  | [], _ => rfl
  | k :: ks, h => by
    rw [List.map_cons, List.count_cons, List.count_cons, cnt_nat v ks (fun x hx => h x (by simp [hx]))]
    have hk := h k (by simp)
    congr 1
    by_cases e : k = (v : Int)
    · rw [e]; simp
    · rw [if_neg (by simp; omega), if_neg (by simpa using e)]
theorem ndN_map {xs : List TT} {i : Nat} (h : i < xs.length) : ndN (xs.map stT) i = stT xs[i] :=
  Option.some.inj ((ndN_eq (by rw [List.length_map]; exact h)).symm.trans (by rw [List.getElem?_map, List.getElem?_eq_getElem h]; rfl))
theorem cnt_eq {xs : List TT} (hK : KdB (xs.map stT)) (v : Nat) : ∀ n, n ≤ xs.length → (kdN (xs.map stT) n).count v = ((xs.take n).map (fun x => x.2.2.2.2.2.count (v : Int))).sum
  | 0, _ => by simp [kdN]
  | n + 1, h => by
    rw [kdN_succ, List.count_append, cnt_eq hK v n (by omega), List.take_succ_eq_append_getElem (by omega), List.map_append, List.sum_append]
    congr 1
    unfold kiN
    rw [ndN_map (by omega)]
    have hx : (xs.map stT)[n]? = some (stT xs[n]) := by rw [List.getElem?_map, List.getElem?_eq_getElem (by omega)]; rfl
    rw [cnt_nat v _ (fun k hk => (hK n _ hx k hk).1)]
    simp [stT, rsI]
theorem cnt_all {xs : List TT} (hK : KdB (xs.map stT)) (v : Nat) : (kdN (xs.map stT) (xs.map stT).length).count v = cnT xs v := by
  rw [List.length_map, cnt_eq hK v xs.length (Nat.le_refl _), List.take_length]
  rfl
theorem kd_of {xs : List TT} (h : ∀ i (h : i < xs.length), NdK i xs[i]) : KdB (xs.map stT) := by
  intro i x hx k hk
  have hi : i < xs.length := by
    rcases Nat.lt_or_ge i xs.length with h | h
    · exact h
    · rw [List.getElem?_eq_none (by rw [List.length_map]; exact h)] at hx; cases hx
  have e : x = stT xs[i] := by rw [List.getElem?_map, List.getElem?_eq_getElem hi] at hx; exact (Option.some.inj hx).symm
  subst e
  exact (h i hi).2 k hk
/-- What the model asks. -/
def OkP (xs : List TT) : Prop := TreeP xs ∧ rdT (shT (xs.map stT) (xs.length - 1)) = (xs.map stT, 0)
theorem ok_shows {xs : List TT} (h : OkP xs) : shM (xs.map stT) = some (shT (xs.map stT) (xs.length - 1)) := read_shows h.2
theorem shows_ok {xs : List TT} {T : ByteArray} (h : shM (xs.map stT) = some T) : OkP xs ∧ shT (xs.map stT) (xs.length - 1) = T := by
  obtain ⟨h1, h2, hK, hr, hc, ht⟩ := shM_tree h
  rw [List.length_map] at h1 h2 ht
  have hT := shows_read h
  refine ⟨⟨⟨⟨h1, h2⟩, fun i hi => ⟨?_, ?_⟩, fun i hi => ?_⟩, by rw [ht]; exact hT⟩, ht⟩
  · have := hr i (by rw [List.length_map]; exact hi)
    rw [ndN_map hi] at this
    refine ⟨this.1, fun c => ?_, fun c => ?_⟩
    · have h2 := this.2
      rw [if_pos (show (stT xs[i]).2.1 = true from c.1)] at h2
      have h3 : xs[i].2.2.2.2.2.length = 0 := h2.1
      omega
    · have h2 := this.2
      rw [if_neg (show ¬ (stT xs[i]).2.1 = true by rw [show (stT xs[i]).2.1 = false from c.1]; simp)] at h2
      exact c.2 h2
  · intro k hk
    exact hK i _ (by rw [List.getElem?_map, List.getElem?_eq_getElem hi]; rfl) k hk
  · have := hc i (by rw [List.length_map]; exact hi)
    rw [cnt_all hK] at this
    exact this
theorem da_le {xs : List TT} : ∀ n, n ≤ xs.length → daN (xs.map stT) n ≤ 8 * n + (xs.map (fun x => x.2.2.1.size)).sum
  | n, h => by
    have key : ∀ n, n ≤ xs.length → daN (xs.map stT) n = 8 * n + ((xs.take n).map (fun x => x.2.2.1.size)).sum := by
      intro n
      induction n with
      | zero => intro _; simp [daN]
      | succ n ih =>
        intro h
        rw [daN_succ, ih (by omega), List.take_succ_eq_append_getElem (by omega), List.map_append, List.sum_append, ndN_map (by omega)]
        simp [stT]
        omega
    rw [key n h]
    have e : (xs.map (fun x => x.2.2.1.size)).sum = ((xs.take n).map (fun x => x.2.2.1.size)).sum + ((xs.drop n).map (fun x => x.2.2.1.size)).sum := by rw [← List.sum_append, ← List.map_append, List.take_append_drop]
    omega
/-- What l14Show wants of a tree. -/
theorem tree_small {xs : List TT} (h : TreeP xs) (hd : (xs.map (fun x => x.2.2.1.size)).sum ≤ 1048576) : KdB (xs.map stT) ∧ (∀ x ∈ xs, 1 ≤ x.1 ∧ x.1 ≤ 100) ∧ ∀ i, i < xs.length → ((kiN (xs.map stT) i).map (szN (xs.map stT))).sum ≤ 6000000000 := by
  have hK := kd_of h.2.1
  refine ⟨hK, fun x hx => ?_, fun i hi => ?_⟩
  · obtain ⟨i, hi, rfl⟩ := List.getElem_of_mem hx
    have := (h.2.1 i hi).1.1
    unfold tgOk at this
    rw [Bool.and_eq_true] at this
    exact ⟨of_decide_eq_true this.1, of_decide_eq_true this.2⟩
  · have hs := small_all hK (fun j hj => by rw [cnt_all hK]; rw [List.length_map] at hj; have := h.2.2 j hj; omega) (by rw [List.length_map]; exact h.1.2) (C := 1049056) (by omega) (fun n hn => by
      rw [List.length_map] at hn
      have := da_le (xs := xs) n hn
      have := h.1.2
      omega) xs.length (by rw [List.length_map]; exact Nat.le_refl _)
    have := hs.2.2 i hi
    omega
end Go.Proofs.Ytengggpobhibcaa.Nd
