/- What the stack shows is a tree, and its text is the model's. -/
import Derived.Test.YtengggpobhibcaaSh4
set_option linter.unusedVariables false
set_option maxRecDepth 100000
namespace Go.Proofs.Ytengggpobhibcaa.Nd
open Go Go.RowKit Go.Joins Own Draw Var

/-- What the stack keeps: each number once, as a Kid so far or on it; Kids ahead; right ones; texts. -/
structure StK (m : List PT) (i : Nat) (st : List En) : Prop where
  kd : ∀ j, j < i → ∀ k ∈ (ndN m j).2.2.2, 0 ≤ k ∧ k < (j : Int)
  ri : ∀ j, j < i → riS (ndN m j)
  ct : ∀ v, (kdN m i).count v + (st.map (·.1)).count v = if v < i then 1 else 0
  tx : KdB m → ∀ e ∈ st, shT m e.1 = e.2.1
  lt : ∀ e ∈ st, e.1 < i
theorem map_toNat (es : List En) : (es.map (fun e => (e.1 : Int))).map Int.toNat = es.map (·.1) := by
  rw [List.map_map]
  apply List.map_congr_left
  intro e _
  simp
theorem inS_caS : ∀ (es : List En) (d : ByteArray), inS d es = (es.map (fun e => e.2.1)).foldl (fun a t => a ++ t) d
  | [], d => rfl
  | e :: es, d => by rw [inS_cons, inS_caS es]; rfl
theorem stk_step {m : List PT} {i : Nat} (hi : i < m.length) {st st' : List En} (h : StK m i st) (hs : stS i (ndN m i) st = some st') : StK m (i + 1) st' := by
  obtain ⟨t, es, rfl, hri, hfi, rfl⟩ := stS_some hs
  have hk := hfi.1
  have hle : ∀ e ∈ es, e.1 < i := fun e he => h.lt e (by simp [he])
  have hki : kiN m i = es.map (·.1) := by unfold kiN; rw [hk, map_toNat]
  refine ⟨fun j hj k hkm => ?_, fun j hj => ?_, fun v => ?_, fun hK e he => ?_, fun e he => ?_⟩
  · by_cases e : j = i
    · subst e
      rw [hk] at hkm
      obtain ⟨e, he, rfl⟩ := List.mem_map.1 hkm
      have := hle e he
      omega
    · exact h.kd j (by omega) k hkm
  · by_cases e : j = i
    · subst e; exact hri
    · exact h.ri j (by omega)
  · have hc := h.ct v
    rw [kdN_succ, List.count_append, hki]
    rw [List.map_append, List.count_append] at hc ⊢
    have h1 : (([(i, txS (ndN m i) (inS (ndN m i).2.2.1 es), neS es)] : List En).map (·.1)).count v = if v = i then 1 else 0 := by
      simp only [List.map_cons, List.map_nil, List.count_singleton]
      by_cases e : v = i
      · subst e; simp
      · rw [if_neg e, if_neg (by simp; omega)]
    rw [h1]
    by_cases e : v = i
    · rw [if_pos e]
      rw [if_neg (by omega)] at hc
      rw [if_pos (by omega)]
      omega
    · rw [if_neg e]
      by_cases e2 : v < i
      · rw [if_pos e2] at hc
        rw [if_pos (by omega)]
        omega
      · rw [if_neg e2] at hc
        rw [if_neg (by omega)]
        omega
  · rcases List.mem_append.1 he with h1 | h1
    · exact h.tx hK e (by simp [h1])
    · rw [List.mem_singleton] at h1
      subst h1
      dsimp only
      rw [shT_eq hK (ndN_eq hi)]
      congr 1
      have hr2 := hri.2
      by_cases hl : (ndN m i).2.1 = true
      · rw [if_pos hl] at hr2 ⊢
        have he0 : es = [] := by
          have := congrArg List.length hk
          rw [List.length_map, hr2.1] at this
          exact List.eq_nil_of_length_eq_zero this.symm
        rw [he0]
        rfl
      · rw [if_neg hl] at hr2 ⊢
        rw [hr2, inS_caS, hk, List.map_map]
        unfold caS
        congr 1
        apply List.map_congr_left
        intro e he2
        show shT m (Int.toNat (e.1 : Int)) = e.2.1
        rw [Int.toNat_natCast]
        exact h.tx hK e (by simp [he2])
  · rcases List.mem_append.1 he with h1 | h1
    · have := h.lt e (by simp [h1]); omega
    · rw [List.mem_singleton] at h1
      subst h1
      dsimp only
      omega
theorem stk_run {m : List PT} : ∀ (rest : List PT) (i : Nat) (st st' : List En), i ≤ m.length → StK m i st → m.drop i = rest → ruS i rest st = some st' → StK m m.length st'
  | [], i, st, st', hi, hC, hd, h => by
    have e : st = st' := Option.some.inj h
    subst e
    have hl := List.drop_eq_nil_iff.1 hd
    have : i = m.length := by omega
    rw [← this]
    exact hC
  | x :: rest, i, st, st', hil, hC, hd, h => by
    have hi : i < m.length := by
      rcases Nat.lt_or_ge i m.length with h | h
      · exact h
      · rw [List.drop_of_length_le h] at hd; cases hd
    have hd2 := List.drop_eq_getElem_cons hi
    rw [hd] at hd2
    injection hd2 with e1 e2
    have hx : ndN m i = x := by rw [e1]; exact Option.some.inj ((ndN_eq hi).symm.trans (List.getElem?_eq_getElem hi))
    unfold ruS at h
    cases hs : stS i x st with
    | none => rw [hs] at h; cases h
    | some t =>
      rw [hs] at h
      exact stk_run rest (i + 1) t st' (by omega) (stk_step hi hC (by rw [hx]; exact hs)) e2.symm h
theorem stk_zero (m : List PT) : StK m 0 [] := ⟨fun j h => by omega, fun j h => by omega, fun v => by simp [kdN], fun _ e h => (by cases h), fun e h => (by cases h)⟩
/-- What a message that the stack shows is. -/
theorem shM_tree {m : List PT} {T : ByteArray} (h : shM m = some T) : 1 ≤ m.length ∧ m.length ≤ 60 ∧ KdB m ∧ (∀ j, j < m.length → riS (ndN m j)) ∧ (∀ v, v + 1 < m.length → (kdN m m.length).count v = 1) ∧ shT m (m.length - 1) = T := by
  obtain ⟨hl, e, hr, rfl⟩ := shM_some h
  have hC := run_b m 0 [] [e] rfl rfl hr
  have he : e.1 + 1 = m.length := hC.2
  have hS := stk_run m 0 [] [e] (Nat.zero_le _) (stk_zero m) rfl hr
  have hK : KdB m := by
    intro i x hx k hk
    have hi : i < m.length := by
      rcases Nat.lt_or_ge i m.length with h | h
      · exact h
      · rw [List.getElem?_eq_none h] at hx; cases hx
    have e1 : x = ndN m i := Option.some.inj (hx.symm.trans (ndN_eq hi))
    subst e1
    exact hS.kd i hi k hk
  refine ⟨by omega, hl, hK, hS.ri, fun v hv => ?_, ?_⟩
  · have := hS.ct v
    rw [if_pos (by omega)] at this
    have h0 : (([e] : List En).map (·.1)).count v = 0 := by
      rw [List.count_eq_zero]
      simp
      omega
    omega
  · rw [← hS.tx hK e (by simp), ← he]
    rfl
end Go.Proofs.Ytengggpobhibcaa.Nd
