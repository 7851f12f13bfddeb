/- What is learned takes nothing away, and what can be built adds no key: plain facts. -/
import Derived.Test.YtkekfogepdhjhaaGreatBuiltMath
import Derived.Test.YtkekfogepdhjhaaGreatLearn1
set_option linter.unusedVariables false
namespace Go.Proofs.YtkekfogepdhjhaaGreat
open Go.RowKit Go.Proofs.YtkekfogepdhjhaaGreat.Own Var Term

theorem reach_more {xs xs' : List ByteArray} {ks ks' : List Int} (hx : ∀ x, x ∈ xs → x ∈ xs') (hk : ∀ k, k ∈ ks → k ∈ ks') {k : Int} (h : ReachT xs ks k) : ReachT xs' ks' k :=
  fun S K hc => h S K ⟨fun t ht => hc.1 t (hx t ht), fun k hk' => hc.2.1 k (hk k hk'), hc.2.2⟩

/-- What can be built adds no key. -/
theorem built_no_more {xs : List ByteArray} {ks : List Int} {t : ByteArray} (h : kOk xs ks = true) (ht : isT t = true) (hc : CanB xs ks t) {k : Int} (hr : ReachT (xs ++ [t]) ks k) : ReachT xs ks k := by
  obtain ⟨S, K, hS, hK⟩ := seen_lists h
  rw [canB_iff hS hK] at hc
  have hL := closed_least xs ks
  have seen : ∀ u, SeenT xs ks u → bld S K 8 u = true := fun u hu => bld_seen ((inB_iff _ _).2 ((hS u).2 hu))
  refine hr (fun u => isT u = true ∧ bld S K 8 u = true) (ReachT xs ks) ⟨?_, hL.2.1, ?_, ?_, ?_⟩
  · intro u hu
    rw [List.mem_append, List.mem_singleton] at hu
    rcases hu with hu | rfl
    · exact ⟨(kOk_facts h).1 u hu, seen u (hL.1 u hu)⟩
    · exact ⟨ht, hc⟩
  · rintro l p ⟨hl, hb⟩ hp
    refine ⟨part_isT hp, ?_⟩
    cases hin : inB S l with
    | true => exact seen p (hL.2.2.1 l p ((hS l).1 ((inB_iff _ _).1 hin)) hp)
    | false =>
      unfold partsR at hp
      split at hp
      · rename_i n r hk
        obtain ⟨hcu, hat⟩ : cut l = some (n, r) ∧ at_ l 0 = 108 := by
          unfold rk at hk
          split at hk
          · rename_i hh; exact ⟨hk, hh.2⟩
          · cases hk
        obtain ⟨hz, r0, hb8, hr0⟩ := (isT_iff _).1 hl
        rw [bh_some hcu, if_neg (by omega), if_pos hat] at hb8
        have hd := psL_deep (f := 7) (by omega) n r r0 hb8 p hp
        rw [bld_not hin hcu, if_neg (by omega), if_neg (by omega), if_pos hat, List.all_eq_true] at hb
        rw [bld_deep 7 8 (by omega) (by omega) p _ hd]
        exact hb p hp
      · simp at hp
  · rintro s n u ⟨hs, hb⟩ hk hn
    refine ⟨inside_isT hk, ?_⟩
    cases hin : inB S s with
    | true => exact seen u (hL.2.2.2.1 s n u ((hS s).1 ((inB_iff _ _).1 hin)) hk hn)
    | false =>
      obtain ⟨hcu, hat⟩ : cut s = some (n, u) ∧ at_ s 0 = 115 := by
        unfold rk at hk
        split at hk
        · rename_i hh; exact ⟨hk, hh.2⟩
        · cases hk
      obtain ⟨hz, r0, hb8, hr0⟩ := (isT_iff _).1 hs
      rw [bh_some hcu, if_neg (by omega), if_neg (by omega), if_pos hat] at hb8
      rw [bld_not hin hcu, if_neg (by omega), if_neg (by omega), if_neg (by omega), Bool.and_eq_true] at hb
      rw [bld_deep 7 8 (by omega) (by omega) u _ hb8]
      exact hb.2
  · rintro s n r ⟨hs, hb⟩ hk
    cases hin : inB S s with
    | true => exact hL.2.2.2.2 s n r ((hS s).1 ((inB_iff _ _).1 hin)) hk
    | false =>
      obtain ⟨hcu, hat⟩ : cut s = some (n, r) ∧ at_ s 0 = 107 := by
        unfold rk at hk
        split at hk
        · rename_i hh; exact ⟨hk, hh.2⟩
        · cases hk
      rw [bld_not hin hcu, if_neg (by omega), if_pos hat, hasB_iff] at hb
      exact (hK _).1 hb

theorem kOk_of {xs : List ByteArray} {ks : List Int} (h1 : xs.length ≤ 60) (h2 : ∀ x, x ∈ xs → isT x = true) (h3 : xs.Nodup) (h4 : ks.length ≤ 40) (h5 : ∀ k, k ∈ ks → 1 ≤ k ∧ k ≤ 1000000) (h6 : ks.Pairwise (· < ·)) : kOk xs ks = true := by
  have hT : kTerms xs = true := kTerms_yes fun j hj => by
    rw [goodT_at hj, Bool.and_eq_true]
    refine ⟨h2 _ (List.getElem_mem hj), ?_⟩
    rw [Bool.not_eq_true', Bool.eq_false_iff]
    intro c
    obtain ⟨i, hi, e⟩ := List.mem_take_iff_getElem.1 ((inB_iff _ _).1 c)
    rw [List.nodup_iff_pairwise_ne, List.pairwise_iff_getElem] at h3
    exact h3 i j (by omega) hj (by omega) e
  have hK : kKeys ks = true := kKeys_yes fun j hj => by
    rw [goodK_at hj, Bool.and_eq_true, Bool.and_eq_true, decide_eq_true_eq, decide_eq_true_eq, decide_eq_true_eq]
    refine ⟨h5 _ (List.getElem_mem hj), ?_⟩
    have h7 := h5 _ (List.getElem_mem hj)
    unfold lastK
    split
    · omega
    · rename_i j
      rw [List.pairwise_iff_getElem] at h6
      rw [getD_at (by omega)]
      exact h6 _ _ (by omega) hj (by omega)
  unfold kOk
  rw [hT, hK]
  simp [h1, h4]

theorem putT_ok {xs : List ByteArray} {ks : List Int} (h : kOk xs ks = true) (t : ByteArray) : kOk (putT xs t) ks = true := by
  unfold putT
  split
  · rename_i c
    obtain ⟨f1, f2, f3⟩ := kOk_facts h
    obtain ⟨l1, l2⟩ := kOk_len h
    refine kOk_of (by rw [List.length_append]; simp; omega) ?_ ?_ l2 f3 (pair_of' (kOk_keys' h))
    · intro x hx
      rw [List.mem_append, List.mem_singleton] at hx
      rcases hx with hx | rfl
      · exact f1 x hx
      · exact c.1
    · rw [List.nodup_append]
      refine ⟨f2, by simp, ?_⟩
      intro a ha b hb e
      rw [List.mem_singleton] at hb
      subst hb; subst e
      rw [(inB_iff _ _).2 ha] at c
      exact absurd c.2.1 (by simp)
  · exact h

theorem putT_sub {xs : List ByteArray} {t x : ByteArray} (h : x ∈ xs) : x ∈ putT xs t := by
  unfold putT
  split
  · exact List.mem_append_left _ h
  · exact h

/-- Learning what can be built adds no key. -/
theorem put_no_more {xs : List ByteArray} {ks : List Int} {t : ByteArray} (h : kOk xs ks = true) (hb : isT t = true ∧ CanB xs ks t) (k : Int) : ReachT (putT xs t) ks k ↔ ReachT xs ks k := by
  refine ⟨fun hr => ?_, reach_more (fun x hx => putT_sub hx) (fun _ hk => hk)⟩
  unfold putT at hr
  split at hr
  · exact built_no_more h hb.1 hb.2 hr
  · exact hr

theorem putL_pw {ks : List Int} {x : Int} (h : ks.Pairwise (· < ·)) (hx : ¬ x ∈ ks) : (putL ks x).Pairwise (· < ·) := by
  induction ks with
  | nil => simp [putL]
  | cons y r ih =>
    rw [List.pairwise_cons] at h
    rw [List.mem_cons] at hx
    rw [putL]
    split
    · rename_i c
      rw [List.pairwise_cons]
      refine ⟨?_, List.pairwise_cons.2 h⟩
      intro z hz
      rw [List.mem_cons] at hz
      rcases hz with rfl | hz
      · exact c
      · exact Int.lt_trans c (h.1 z hz)
    · rename_i c
      rw [List.pairwise_cons]
      refine ⟨?_, ih h.2 (fun c => hx (Or.inr c))⟩
      intro z hz
      rw [putL_mem] at hz
      rcases hz with rfl | hz
      · have : z ≠ y := fun e => hx (Or.inl e)
        omega
      · exact h.1 z hz
theorem putL_ok {xs : List ByteArray} {ks : List Int} {x : Int} (h : kOk xs ks = true) (hx : 1 ≤ x ∧ x ≤ 1000000) (hn : ¬ x ∈ ks) (hl : ks.length < 40) : kOk xs (putL ks x) = true := by
  obtain ⟨f1, f2, f3⟩ := kOk_facts h
  obtain ⟨l1, l2⟩ := kOk_len h
  refine kOk_of l1 f1 f2 (by rw [putL_len]; omega) ?_ (putL_pw (pair_of' (kOk_keys' h)) hn)
  intro k hk
  rw [putL_mem] at hk
  rcases hk with rfl | hk
  · exact hx
  · exact f3 k hk
/-- Two lists of numbers that rise and have the same members are one. -/
theorem rise_eq : ∀ {K L : List Int}, K.Pairwise (· < ·) → L.Pairwise (· < ·) → (∀ k, k ∈ K ↔ k ∈ L) → K = L := by
  intro K
  induction K with
  | nil =>
    intro L _ _ h
    cases L with
    | nil => rfl
    | cons y r => exact absurd ((h y).2 (by simp)) (by simp)
  | cons x K ih =>
    intro L hK hL h
    cases L with
    | nil => exact absurd ((h x).1 (by simp)) (by simp)
    | cons y L =>
      rw [List.pairwise_cons] at hK hL
      have e : x = y := by
        have a := (h x).1 (by simp)
        have b := (h y).2 (by simp)
        rw [List.mem_cons] at a b
        rcases a with a | a
        · exact a
        · rcases b with b | b
          · exact b.symm
          · have := hK.1 y b; have := hL.1 x a; omega
      subst e
      rw [ih hK.2 hL.2 (fun k => ?_)]
      have := h k
      rw [List.mem_cons, List.mem_cons] at this
      constructor
      · intro c
        rcases this.1 (Or.inr c) with e | e
        · subst e; exact absurd (hK.1 k c) (by omega)
        · exact e
      · intro c
        rcases this.2 (Or.inr c) with e | e
        · subst e; exact absurd (hL.1 k c) (by omega)
        · exact e
end Go.Proofs.YtkekfogepdhjhaaGreat
