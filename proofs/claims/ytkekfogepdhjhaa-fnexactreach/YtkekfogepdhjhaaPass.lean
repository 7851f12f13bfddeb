/- Plain mathematics: going through what is seen, each term once, comes to all of it. -/
import Derived.Test.YtkekfogepdhjhaaView3
import Derived.Test.YtkekfogepdhjhaaClose2
set_option linter.unusedVariables false
namespace Go.Proofs.Ytkekfogepdhjhaa
open Own Var Term

theorem sum_other (f g : Int → Nat) (k : Int) (h : ∀ j, j ≠ k → g j = f j) : ∀ (K : List Int), ¬ k ∈ K → (K.map g).sum = (K.map f).sum := by
  intro K
  induction K with
  | nil => intro _; rfl
  | cons j K ih =>
    intro hk
    simp only [List.mem_cons, not_or] at hk
    simp only [List.map_cons, List.sum_cons, ih hk.2, h j (Ne.symm hk.1)]
/-- What is said of one key is said anew: the sum over unlike keys. -/
theorem sum_put (f g : Int → Nat) (k : Int) (h : ∀ j, j ≠ k → g j = f j) (K : List Int) (hK : K.Nodup) : ∃ K' : List Int, K'.Nodup ∧ ¬ k ∈ K' ∧ (K.map g).sum ≤ g k + (K'.map f).sum := by
  refine ⟨K.filter (fun x => x != k), List.Pairwise.filter _ hK, by simp, ?_⟩
  have key : ∀ (L : List Int), L.Nodup → (L.map g).sum ≤ (if k ∈ L then g k else 0) + ((L.filter (fun x => x != k)).map f).sum := by
    intro L
    induction L with
    | nil => intro _; simp
    | cons a L ihL =>
      intro hL
      obtain ⟨ha, hL'⟩ := List.nodup_cons.1 hL
      by_cases ea : a = k
      · subst ea
        have e1 : (L.filter fun x => x != a) = L := List.filter_eq_self.2 (fun x hx => by simp; intro e3; subst e3; exact ha hx)
        have e2 : (List.filter (fun x => x != a) (a :: L)) = L := by simp [e1]
        rw [e2, if_pos (List.mem_cons_self)]
        simp only [List.map_cons, List.sum_cons, sum_other f g a h L ha]
        omega
      · have e4 : (k ∈ a :: L) ↔ k ∈ L := by simp [Ne.symm ea]
        have e2 : (List.filter (fun x => x != k) (a :: L)) = a :: L.filter (fun x => x != k) := by simp [ea]
        have e5 := ihL hL'
        rw [e2]
        simp only [List.map_cons, List.sum_cons, h a ea, e4]
        omega
  have := key K hK
  split at this <;> omega

/-- How it stands while one goes through: xs and ks are known, kd of the keys are reached already. -/
structure AI (xs : List ByteArray) (ks kd : List Int) (s : VS) : Prop where
  nd : s.T.Nodup
  seenT : ∀ t, t ∈ s.T → SeenT xs ks t
  seenA : ∀ t, t ∈ s.A → SeenT xs ks t
  shutB : ∀ k t, t ∈ (s.F k).2 → ∃ u, u ∈ s.T ∧ ∃ n : Nat, k = n ∧ rk u 115 = some (n, t)
  reach : ∀ k, (s.F k).1 = true → ReachT xs ks k
  hx : ∀ t, t ∈ xs → t ∈ s.A ∨ t ∈ s.T
  hk : ∀ k, k ∈ kd → (s.F k).1 = true
  parts : ∀ l, l ∈ s.T → ∀ q, q ∈ (partsR l).1 → q ∈ s.A ∨ q ∈ s.T
  keyed : ∀ t, t ∈ s.T → ∀ (n : Nat) r, rk t 107 = some (n, r) → (s.F n).1 = true
  sealed : ∀ t, t ∈ s.T → ∀ (n : Nat) r, rk t 115 = some (n, r) → ((s.F n).1 = true ∧ (r ∈ s.A ∨ r ∈ s.T)) ∨ ((s.F n).1 = false ∧ r ∈ (s.F n).2)
  tot : ∀ K : List Int, K.Nodup → s.A.length + (K.map fun k => (s.F k).2.length).sum ≤ xs.length + 12 * s.T.length

theorem sum_zero : ∀ K : List Int, (K.map fun _ => (0 : Nat)).sum = 0 := by
  intro K
  induction K with
  | nil => rfl
  | cons a K ih => simp only [List.map_cons, List.sum_cons, ih]
theorem AI.start (xs : List ByteArray) (ks : List Int) : AI xs ks [] ⟨xs, [], fun _ => (false, [])⟩ := by
  constructor
  · exact List.nodup_nil
  · intro t h; cases h
  · intro t h S K hc; exact hc.1 t h
  · intro k t h; cases h
  · intro k h; cases h
  · intro t h; exact Or.inl h
  · intro k h; cases h
  · intro l h; cases h
  · intro t h; cases h
  · intro t h; cases h
  · intro K _
    have := sum_zero K
    show xs.length + (K.map fun _ => (0 : Nat)).sum ≤ xs.length + 12 * 0
    omega

theorem AI.ofReach {xs : List ByteArray} {ks kd : List Int} {s : VS} (h : AI xs ks kd s) {k : Int} (hr : ReachT xs ks k) : AI xs ks (kd ++ [k]) (s.reach k) := by
  have hmem : ∀ t, t ∈ (s.F k).2 → SeenT xs ks t := fun t ht => by
    obtain ⟨u, hu, n, rfl, hn⟩ := h.shutB k t ht
    intro S K hc
    exact hc.2.2.2.1 u n t (h.seenT u hu S K hc) hn (hr S K hc)
  have eF : ∀ j, (s.reach k).F j = if j = k then (true, []) else s.F j := fun _ => rfl
  refine ⟨h.nd, h.seenT, fun t ht => ?_, fun j t ht => ?_, fun j hj => ?_, fun t ht => ?_, fun j hj => ?_, fun l hl q hq => ?_, fun t ht n r hn => ?_, fun t ht n r hn => ?_, fun K hK => ?_⟩
  · rcases List.mem_append.1 ht with h1 | h1
    · exact h.seenA t h1
    · exact hmem t h1
  · rw [eF] at ht
    by_cases e : j = k
    · rw [if_pos e] at ht; cases ht
    · rw [if_neg e] at ht; exact h.shutB j t ht
  · rw [eF] at hj
    by_cases e : j = k
    · rw [e]; exact hr
    · rw [if_neg e] at hj; exact h.reach j hj
  · rcases h.hx t ht with h1 | h1
    · exact Or.inl (List.mem_append_left _ h1)
    · exact Or.inr h1
  · rw [eF]
    by_cases e : j = k
    · rw [if_pos e]
    · rw [if_neg e]
      rcases List.mem_append.1 hj with h1 | h1
      · exact h.hk j h1
      · simp at h1; exact absurd h1 e
  · rcases h.parts l hl q hq with h1 | h1
    · exact Or.inl (List.mem_append_left _ h1)
    · exact Or.inr h1
  · rw [eF]
    by_cases e : (n : Int) = k
    · rw [if_pos e]
    · rw [if_neg e]; exact h.keyed t ht n r hn
  · rw [eF]
    by_cases e : (n : Int) = k
    · rw [if_pos e]
      left
      refine ⟨rfl, ?_⟩
      rcases h.sealed t ht n r hn with ⟨_, h1 | h1⟩ | ⟨_, h1⟩
      · exact Or.inl (List.mem_append_left _ h1)
      · exact Or.inr h1
      · exact Or.inl (List.mem_append_right _ (by rw [← e]; exact h1))
    · rw [if_neg e]
      rcases h.sealed t ht n r hn with ⟨h0, h1 | h1⟩ | h1
      · exact Or.inl ⟨h0, Or.inl (List.mem_append_left _ h1)⟩
      · exact Or.inl ⟨h0, Or.inr h1⟩
      · exact Or.inr h1
  · obtain ⟨K', h1, h2, h3⟩ := sum_put (fun j => (s.F j).2.length) (fun j => ((s.reach k).F j).2.length) k (fun j hj => by rw [eF, if_neg hj]) K hK
    have h4 := h.tot (k :: K') (List.nodup_cons.2 ⟨h2, h1⟩)
    simp only [List.map_cons, List.sum_cons] at h4
    have e0 : ((s.reach k).F k).2.length = 0 := by rw [eF, if_pos rfl]; rfl
    rw [e0] at h3
    show (s.A ++ (s.F k).2).length + _ ≤ xs.length + 12 * s.T.length
    rw [List.length_append]
    omega

/-- A term that is there already is passed over. -/
theorem AI.pass {xs : List ByteArray} {ks kd : List Int} {t : ByteArray} {A T : List ByteArray} {F : Int → Bool × List ByteArray} (h : AI xs ks kd ⟨t :: A, T, F⟩) (ht : t ∈ T) : AI xs ks kd ⟨A, T, F⟩ := by
  have mv : ∀ u, (u ∈ t :: A ∨ u ∈ T) → (u ∈ A ∨ u ∈ T) := fun u hu => by
    rcases hu with hu | hu
    · rcases List.mem_cons.1 hu with rfl | hu
      · exact Or.inr ht
      · exact Or.inl hu
    · exact Or.inr hu
  refine ⟨h.nd, h.seenT, fun u hu => h.seenA u (List.mem_cons_of_mem _ hu), h.shutB, h.reach, fun u hu => mv u (h.hx u hu), h.hk, fun l hl q hq => mv q (h.parts l hl q hq), h.keyed, fun u hu n r hn => ?_, fun K hK => ?_⟩
  · rcases h.sealed u hu n r hn with ⟨h0, h1⟩ | h1
    · exact Or.inl ⟨h0, mv r h1⟩
    · exact Or.inr h1
  · have := h.tot K hK
    simp only [List.length_cons] at this
    exact (by omega : A.length + (K.map fun k => (F k).2.length).sum ≤ xs.length + 12 * T.length)

/-- A term that is not there yet is put there, and what follows of it is seen. -/
theorem AI.new {xs : List ByteArray} {ks kd : List Int} {t : ByteArray} {A T : List ByteArray} {F : Int → Bool × List ByteArray} (h : AI xs ks kd ⟨t :: A, T, F⟩) (ht : ¬ t ∈ T) : ∃ kd', (∀ k, k ∈ kd → k ∈ kd') ∧ AI xs ks kd' ((⟨A, T ++ [t], F⟩ : VS).follow t) := by
  have hst : SeenT xs ks t := h.seenA t (List.mem_cons_self)
  have hnd : (T ++ [t]).Nodup := nodup_snoc h.nd ht
  have hsT : ∀ u, u ∈ T ++ [t] → SeenT xs ks u := fun u hu => by
    rcases List.mem_append.1 hu with hu | hu
    · exact h.seenT u hu
    · simp at hu; rw [hu]; exact hst
  have mv : ∀ u, (u ∈ t :: A ∨ u ∈ T) → (u ∈ A ∨ u ∈ T ++ [t]) := fun u hu => by
    rcases hu with hu | hu
    · rcases List.mem_cons.1 hu with rfl | hu
      · exact Or.inr (by simp)
      · exact Or.inl hu
    · exact Or.inr (List.mem_append_left _ hu)
  have hsh : ∀ k u, u ∈ (F k).2 → ∃ u', u' ∈ T ++ [t] ∧ ∃ n : Nat, k = n ∧ rk u' 115 = some (n, u) := fun k u hu => by
    obtain ⟨u', h1, h2⟩ := h.shutB k u hu
    exact ⟨u', List.mem_append_left _ h1, h2⟩
  have htot : ∀ K : List Int, K.Nodup → A.length + 1 + (K.map fun k => (F k).2.length).sum ≤ xs.length + 12 * T.length := fun K hK => by
    have := h.tot K hK
    simp only [List.length_cons] at this
    exact this
  have hl : (T ++ [t]).length = T.length + 1 := by simp
  cases h7 : rk t 107 with
  | some q =>
    obtain ⟨n, r⟩ := q
    have hr : ReachT xs ks (n : Int) := fun S K hc => hc.2.2.2.2 t n r (hst S K hc) h7
    have e1 : ((⟨A, T ++ [t], F⟩ : VS).follow t) = (⟨A, T ++ [t], F⟩ : VS).reach n := by unfold VS.follow; rw [h7]
    rw [e1]
    have no5 : rk t 115 = none := by
      have a1 := (rk_facts h7).2.2.1
      unfold rk
      rw [if_neg (fun h5 => by have := h5.2; omega)]
    have noP : (partsR t).1 = [] := parts_none (by
      have a1 := (rk_facts h7).2.2.1
      unfold rk
      rw [if_neg (fun h5 => by have := h5.2; omega)])
    have eF : ∀ j, ((⟨A, T ++ [t], F⟩ : VS).reach n).F j = if j = (n : Int) then (true, []) else F j := fun _ => rfl
    have hmem : ∀ u, u ∈ (F n).2 → SeenT xs ks u := fun u hu => by
      obtain ⟨u', hu', m, hm, hn⟩ := h.shutB n u hu
      have : n = m := by omega
      subst this
      intro S K hc
      exact hc.2.2.2.1 u' n u (h.seenT u' hu' S K hc) hn (hr S K hc)
    refine ⟨kd ++ [(n : Int)], fun k hk => List.mem_append_left _ hk, hnd, hsT, fun u hu => ?_, fun j u hu => ?_, fun j hj => ?_, fun u hu => ?_, fun j hj => ?_, fun l hl2 q hq => ?_, fun u hu m r2 hm => ?_, fun u hu m r2 hm => ?_, fun K hK => ?_⟩
    · rcases List.mem_append.1 hu with hu | hu
      · exact h.seenA u (List.mem_cons_of_mem _ hu)
      · exact hmem u hu
    · rw [eF] at hu
      by_cases e : j = (n : Int)
      · rw [if_pos e] at hu; cases hu
      · rw [if_neg e] at hu; exact hsh j u hu
    · rw [eF] at hj
      by_cases e : j = (n : Int)
      · rw [e]; exact hr
      · rw [if_neg e] at hj; exact h.reach j hj
    · rcases mv u (h.hx u hu) with h1 | h1
      · exact Or.inl (List.mem_append_left _ h1)
      · exact Or.inr h1
    · rw [eF]
      by_cases e : j = (n : Int)
      · rw [if_pos e]
      · rw [if_neg e]
        rcases List.mem_append.1 hj with h1 | h1
        · exact h.hk j h1
        · simp at h1; exact absurd h1 e
    · rcases List.mem_append.1 hl2 with h1 | h1
      · rcases mv q (h.parts l h1 q hq) with h2 | h2
        · exact Or.inl (List.mem_append_left _ h2)
        · exact Or.inr h2
      · simp at h1; subst h1; rw [noP] at hq; cases hq
    · rw [eF]
      by_cases e : (m : Int) = (n : Int)
      · rw [if_pos e]
      · rw [if_neg e]
        rcases List.mem_append.1 hu with h1 | h1
        · exact h.keyed u h1 m r2 hm
        · simp at h1; subst h1; rw [h7] at hm; cases hm; exact absurd rfl e
    · rcases List.mem_append.1 hu with h1 | h1
      · rw [eF]
        by_cases e : (m : Int) = (n : Int)
        · rw [if_pos e]
          left
          refine ⟨rfl, ?_⟩
          rcases h.sealed u h1 m r2 hm with ⟨_, h3⟩ | ⟨_, h3⟩
          · rcases mv r2 h3 with h4 | h4
            · exact Or.inl (List.mem_append_left _ h4)
            · exact Or.inr h4
          · exact Or.inl (List.mem_append_right _ (by rw [← e]; exact h3))
        · rw [if_neg e]
          rcases h.sealed u h1 m r2 hm with ⟨h0, h3⟩ | h3
          · rcases mv r2 h3 with h4 | h4
            · exact Or.inl ⟨h0, Or.inl (List.mem_append_left _ h4)⟩
            · exact Or.inl ⟨h0, Or.inr h4⟩
          · exact Or.inr h3
      · simp at h1; subst h1; rw [no5] at hm; cases hm
    · obtain ⟨K', h1, h2, h3⟩ := sum_put (fun j => (F j).2.length) (fun j => (((⟨A, T ++ [t], F⟩ : VS).reach n).F j).2.length) n (fun j hj => by rw [eF, if_neg hj]) K hK
      have h4 := htot ((n : Int) :: K') (List.nodup_cons.2 ⟨h2, h1⟩)
      simp only [List.map_cons, List.sum_cons] at h4
      have e0 : (((⟨A, T ++ [t], F⟩ : VS).reach n).F n).2.length = 0 := by rw [eF, if_pos rfl]; rfl
      rw [e0] at h3
      show (A ++ (F n).2).length + _ ≤ xs.length + 12 * (T ++ [t]).length
      rw [List.length_append, hl]
      omega
  | none =>
    cases h5 : rk t 115 with
    | some q =>
      obtain ⟨n, r⟩ := q
      have noP : (partsR t).1 = [] := parts_none (by
        have a1 := (rk_facts h5).2.2.1
        unfold rk
        rw [if_neg (fun h5 => by have := h5.2; omega)])
      by_cases hF : (F n).1 = true
      · have e1 : ((⟨A, T ++ [t], F⟩ : VS).follow t) = ⟨A ++ [r], T ++ [t], F⟩ := by
          unfold VS.follow
          rw [h7, h5]
          simp only [if_pos hF]
        rw [e1]
        have hrs : SeenT xs ks r := fun S K hc => hc.2.2.2.1 t n r (hst S K hc) h5 (h.reach n hF S K hc)
        have mv2 : ∀ u, (u ∈ t :: A ∨ u ∈ T) → (u ∈ A ++ [r] ∨ u ∈ T ++ [t]) := fun u hu => by
          rcases mv u hu with h1 | h1
          · exact Or.inl (List.mem_append_left _ h1)
          · exact Or.inr h1
        refine ⟨kd, fun _ hk => hk, hnd, hsT, fun u hu => ?_, hsh, h.reach, fun u hu => mv2 u (h.hx u hu), h.hk, fun l hl2 q hq => ?_, fun u hu m r2 hm => ?_, fun u hu m r2 hm => ?_, fun K hK => ?_⟩
        · rcases List.mem_append.1 hu with hu | hu
          · exact h.seenA u (List.mem_cons_of_mem _ hu)
          · simp at hu; rw [hu]; exact hrs
        · rcases List.mem_append.1 hl2 with h1 | h1
          · exact mv2 q (h.parts l h1 q hq)
          · simp at h1; subst h1; rw [noP] at hq; cases hq
        · rcases List.mem_append.1 hu with h1 | h1
          · exact h.keyed u h1 m r2 hm
          · simp at h1; subst h1; rw [h7] at hm; cases hm
        · rcases List.mem_append.1 hu with h1 | h1
          · rcases h.sealed u h1 m r2 hm with ⟨h0, h3⟩ | h3
            · exact Or.inl ⟨h0, mv2 r2 h3⟩
            · exact Or.inr h3
          · simp at h1; subst h1; rw [h5] at hm; cases hm
            exact Or.inl ⟨hF, Or.inl (by simp)⟩
        · have := htot K hK
          have e9 : (A ++ [r]).length + (K.map fun k => (F k).2.length).sum ≤ xs.length + 12 * (T ++ [t]).length := by
            rw [List.length_append, hl]
            simp only [List.length_cons, List.length_nil]
            omega
          exact e9
      · have hF' : (F n).1 = false := by simpa using hF
        have e1 : ((⟨A, T ++ [t], F⟩ : VS).follow t) = ⟨A, T ++ [t], fun j => if j = (n : Int) then (false, (F n).2 ++ [r]) else F j⟩ := by
          unfold VS.follow
          rw [h7, h5]
          simp [hF']
        rw [e1]
        have eF : ∀ j, ((⟨A, T ++ [t], fun j => if j = (n : Int) then (false, (F n).2 ++ [r]) else F j⟩ : VS)).F j = if j = (n : Int) then (false, (F n).2 ++ [r]) else F j := fun _ => rfl
        have e1F : ∀ j : Int, (if j = (n : Int) then (false, (F n).2 ++ [r]) else F j).1 = (F j).1 := fun j => by
          by_cases e : j = (n : Int)
          · rw [if_pos e, e, hF']
          · rw [if_neg e]
        refine ⟨kd, fun _ hk => hk, hnd, hsT, fun u hu => h.seenA u (List.mem_cons_of_mem _ hu), fun j u hu => ?_, fun j hj => h.reach j (by rw [← e1F]; exact hj), fun u hu => mv u (h.hx u hu), fun j hj => by rw [eF, e1F]; exact h.hk j hj, fun l hl2 q hq => ?_, fun u hu m r2 hm => ?_, fun u hu m r2 hm => ?_, fun K hK => ?_⟩
        · rw [eF] at hu
          by_cases e : j = (n : Int)
          · rw [if_pos e] at hu
            rcases List.mem_append.1 hu with h1 | h1
            · rw [e]; exact hsh n u h1
            · simp at h1; exact ⟨t, by simp, n, e, by rw [h1]; exact h5⟩
          · rw [if_neg e] at hu; exact hsh j u hu
        · rcases List.mem_append.1 hl2 with h1 | h1
          · exact mv q (h.parts l h1 q hq)
          · simp at h1; subst h1; rw [noP] at hq; cases hq
        · rw [eF, e1F]
          rcases List.mem_append.1 hu with h1 | h1
          · exact h.keyed u h1 m r2 hm
          · simp at h1; subst h1; rw [h7] at hm; cases hm
        · rw [eF]
          rcases List.mem_append.1 hu with h1 | h1
          · rcases h.sealed u h1 m r2 hm with ⟨h0, h3⟩ | ⟨h0, h3⟩
            · exact Or.inl ⟨by rw [e1F]; exact h0, mv r2 h3⟩
            · refine Or.inr ⟨by rw [e1F]; exact h0, ?_⟩
              by_cases e : (m : Int) = (n : Int)
              · rw [if_pos e]; exact List.mem_append_left _ (by rw [← e]; exact h3)
              · rw [if_neg e]; exact h3
          · simp at h1; subst h1; rw [h5] at hm; cases hm
            refine Or.inr ⟨by rw [e1F]; exact hF', ?_⟩
            rw [if_pos rfl]; simp
        · obtain ⟨K', h1, h2, h3⟩ := sum_put (fun j => (F j).2.length) (fun j => ((if j = (n : Int) then (false, (F n).2 ++ [r]) else F j) : Bool × List ByteArray).2.length) n (fun j hj => by rw [if_neg hj]) K hK
          have h8 := htot ((n : Int) :: K') (List.nodup_cons.2 ⟨h2, h1⟩)
          simp only [List.map_cons, List.sum_cons] at h8
          have e0 : ((if (n : Int) = (n : Int) then (false, (F n).2 ++ [r]) else F n) : Bool × List ByteArray).2.length = (F n).2.length + 1 := by rw [if_pos rfl]; simp
          rw [e0] at h3
          show A.length + _ ≤ xs.length + 12 * (T ++ [t]).length
          rw [hl]
          exact Nat.le_trans (Nat.add_le_add_left h3 _) (by omega)
    | none =>
      have e1 : ((⟨A, T ++ [t], F⟩ : VS).follow t) = ⟨A ++ (partsR t).1, T ++ [t], F⟩ := by
        unfold VS.follow
        rw [h7, h5]
      rw [e1]
      have mv2 : ∀ u, (u ∈ t :: A ∨ u ∈ T) → (u ∈ A ++ (partsR t).1 ∨ u ∈ T ++ [t]) := fun u hu => by
        rcases mv u hu with h1 | h1
        · exact Or.inl (List.mem_append_left _ h1)
        · exact Or.inr h1
      refine ⟨kd, fun _ hk => hk, hnd, hsT, fun u hu => ?_, hsh, h.reach, fun u hu => mv2 u (h.hx u hu), h.hk, fun l hl2 q hq => ?_, fun u hu m r2 hm => ?_, fun u hu m r2 hm => ?_, fun K hK => ?_⟩
      · rcases List.mem_append.1 hu with hu | hu
        · exact h.seenA u (List.mem_cons_of_mem _ hu)
        · exact fun S K hc => hc.2.2.1 t u (hst S K hc) hu
      · rcases List.mem_append.1 hl2 with h1 | h1
        · exact mv2 q (h.parts l h1 q hq)
        · simp at h1; subst h1; exact Or.inl (List.mem_append_right _ hq)
      · rcases List.mem_append.1 hu with h1 | h1
        · exact h.keyed u h1 m r2 hm
        · simp at h1; subst h1; rw [h7] at hm; cases hm
      · rcases List.mem_append.1 hu with h1 | h1
        · rcases h.sealed u h1 m r2 hm with ⟨h0, h3⟩ | h3
          · exact Or.inl ⟨h0, mv2 r2 h3⟩
          · exact Or.inr h3
        · simp at h1; subst h1; rw [h5] at hm; cases hm
      · have := htot K hK
        have hp := parts_len t
        have e9 : (A ++ (partsR t).1).length + (K.map fun k => (F k).2.length).sum ≤ xs.length + 12 * (T ++ [t]).length := by
          rw [List.length_append, hl]
          omega
        exact e9

/-- Where nothing lies ahead, what is there is what is seen, and what is reached is reached. -/
theorem AI.done {xs : List ByteArray} {ks kd : List Int} {T : List ByteArray} {F : Int → Bool × List ByteArray} (h : AI xs ks kd ⟨[], T, F⟩) (hk : ∀ k, k ∈ ks → k ∈ kd) : (∀ t, t ∈ T ↔ SeenT xs ks t) ∧ ∀ k, (F k).1 = true ↔ ReachT xs ks k := by
  have no : ∀ u, (u ∈ ([] : List ByteArray) ∨ u ∈ T) → u ∈ T := fun u hu => by
    rcases hu with hu | hu
    · cases hu
    · exact hu
  have hc : Closed xs ks (fun t => t ∈ T) (fun k => (F k).1 = true) := by
    refine ⟨fun t ht => no t (h.hx t ht), fun k hk' => h.hk k (hk k hk'), fun l q hl hq => no q (h.parts l hl q hq), ?_, fun u n r hu hn => h.keyed u hu n r hn⟩
    intro u n r hu hn hF
    rcases h.sealed u hu n r hn with ⟨_, h1⟩ | ⟨h1, _⟩
    · exact no r h1
    · have hF' : (F n).1 = true := hF
      have h1' : (F n).1 = false := h1
      rw [h1'] at hF'; cases hF'
  exact ⟨fun t => ⟨h.seenT t, fun hs => hs _ _ hc⟩, fun k => ⟨h.reach k, fun hr => hr _ _ hc⟩⟩
end Go.Proofs.Ytkekfogepdhjhaa
