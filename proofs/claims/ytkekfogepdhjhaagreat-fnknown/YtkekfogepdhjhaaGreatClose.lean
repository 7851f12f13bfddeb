/- Plain mathematics: what is seen and what is reached, as the least that is closed; how much of it there can be. -/
import Derived.Test.YtkekfogepdhjhaaGreatTrip
import Derived.Test.YtkekfogepdhjhaaGreatKeys
set_option linter.unusedVariables false
namespace Go.Proofs.YtkekfogepdhjhaaGreat
open Own Var Term

/-- Closed under what the document says of seen and reached. -/
def Closed (xs : List ByteArray) (ks : List Int) (S : ByteArray → Prop) (K : Int → Prop) : Prop :=
  (∀ t, t ∈ xs → S t) ∧ (∀ k, k ∈ ks → K k) ∧ (∀ l p, S l → p ∈ (partsR l).1 → S p) ∧ (∀ s (n : Nat) t, S s → rk s 115 = some (n, t) → K n → S t) ∧ (∀ s (n : Nat) r, S s → rk s 107 = some (n, r) → K n)
def SeenT (xs : List ByteArray) (ks : List Int) (t : ByteArray) : Prop := ∀ S K, Closed xs ks S K → S t
def ReachT (xs : List ByteArray) (ks : List Int) (k : Int) : Prop := ∀ S K, Closed xs ks S K → K k
theorem closed_least (xs : List ByteArray) (ks : List Int) : Closed xs ks (SeenT xs ks) (ReachT xs ks) :=
  ⟨fun t ht S K h => h.1 t ht, fun k hk S K h => h.2.1 k hk, fun l p hl hp S K h => h.2.2.1 l p (hl S K h) hp, fun s n t hs hr hk S K h => h.2.2.2.1 s n t (hs S K h) hr (hk S K h), fun s n r hs hr S K h => h.2.2.2.2 s n r (hs S K h) hr⟩
/-- What is closed, and no more than seen and reached, is just that. -/
theorem just_seen {xs : List ByteArray} {ks : List Int} {S : List ByteArray} {K : List Int} (hc : Closed xs ks (fun t => t ∈ S) (fun k => k ∈ K)) (hs : ∀ t, t ∈ S → SeenT xs ks t) (t : ByteArray) : t ∈ S ↔ SeenT xs ks t := ⟨hs t, fun h => h _ _ hc⟩
theorem just_reached {xs : List ByteArray} {ks : List Int} {S : List ByteArray} {K : List Int} (hc : Closed xs ks (fun t => t ∈ S) (fun k => k ∈ K)) (hk : ∀ k, k ∈ K → ReachT xs ks k) (k : Int) : k ∈ K ↔ ReachT xs ks k := ⟨hk k, fun h => h _ _ hc⟩

/-- t stands in x. -/
def Sub (x t : ByteArray) : Prop := t.data.toList <:+: x.data.toList
theorem Sub.refl (x : ByteArray) : Sub x x := List.infix_refl _
theorem Sub.trans {x y z : ByteArray} (h : Sub x y) (k : Sub y z) : Sub x z := List.IsInfix.trans k h
theorem sub_extract (x : ByteArray) (i j : Nat) : Sub x (x.extract i j) := by
  unfold Sub
  rw [extract_list]
  exact List.IsInfix.trans (List.take_prefix _ _).isInfix (List.drop_suffix _ _).isInfix
theorem sub_suf (x : ByteArray) (i : Nat) : Sub x (suf x i) := sub_extract x i x.size
theorem sub_psL : ∀ (n : Nat) (r : ByteArray), ∀ p, p ∈ psL n r → Sub r p := by
  intro n
  induction n with
  | zero => intro r p hp; simp [psL] at hp
  | succ n ih =>
    intro r p hp
    rw [psL] at hp
    cases h : bh 8 r with
    | none => rw [h] at hp; simp at hp
    | some r' =>
      rw [h] at hp
      rcases List.mem_cons.1 hp with rfl | hp
      · exact sub_extract _ _ _
      · obtain ⟨j, _, _, rfl⟩ := bh_suf 8 r r' h
        exact (sub_suf r j).trans (ih _ p hp)
theorem sub_cut {s r : ByteArray} {n : Nat} (h : cut s = some (n, r)) : Sub s r := by
  obtain ⟨_, _, j, _, _, rfl⟩ := cut_size h
  exact sub_suf s j
theorem sub_parts {l p : ByteArray} (h : p ∈ (partsR l).1) : Sub l p := by
  unfold partsR at h
  cases hr : rk l 108 with
  | none => rw [hr] at h; simp at h
  | some q =>
    obtain ⟨n, r⟩ := q
    rw [hr] at h
    exact (sub_cut (rk_facts hr).2.2.2.1).trans (sub_psL n r p h)
theorem sub_size {x t : ByteArray} (h : Sub x t) : t.size ≤ x.size := List.IsInfix.length_le h

/-- Parts of a term are terms. -/
theorem part_isT {l p : ByteArray} (h : p ∈ (partsR l).1) : isT p = true := by
  have hsub := sub_parts h
  unfold partsR at h
  cases hr : rk l 108 with
  | none => rw [hr] at h; simp at h
  | some q =>
    obtain ⟨n, r⟩ := q
    rw [hr] at h
    obtain ⟨_, _, _, _, hs9, _⟩ := rk_facts hr
    obtain ⟨_, E, hE⟩ := rk_list hr
    have hb := (psL_back n r E hE).2 p h
    rw [isT_iff]
    exact ⟨Nat.le_trans (sub_size hsub) hs9, _, hb, rfl⟩
/-- What is sealed is a term. -/
theorem inside_isT {s t : ByteArray} {n : Nat} (h : rk s 115 = some (n, t)) : isT t = true := by
  obtain ⟨hT, h2, hat, hc, hs9, ht9⟩ := rk_facts h
  obtain ⟨_, r, hb, hr0⟩ := (isT_iff s).1 hT
  rw [bh_some hc] at hb
  rw [if_neg (by omega), if_neg (by omega), if_pos hat] at hb
  rw [isT_iff]
  exact ⟨ht9, r, bh_mono 7 t r hb, hr0⟩
theorem seen_isT {xs : List ByteArray} {ks : List Int} (hx : ∀ x, x ∈ xs → isT x = true) {t : ByteArray} (h : SeenT xs ks t) : isT t = true :=
  h (fun t => isT t = true) (fun _ => True) ⟨hx, fun _ _ => trivial, fun l p _ hp => part_isT hp, fun s n t _ hr _ => inside_isT hr, fun _ _ _ _ _ => trivial⟩
theorem seen_sub {xs : List ByteArray} {ks : List Int} {t : ByteArray} (h : SeenT xs ks t) : ∃ x, x ∈ xs ∧ Sub x t :=
  h (fun t => ∃ x, x ∈ xs ∧ Sub x t) (fun _ => True) ⟨fun t ht => ⟨t, ht, Sub.refl t⟩, fun _ _ => trivial, fun l p ⟨x, hx, hs⟩ hp => ⟨x, hx, hs.trans (sub_parts hp)⟩, fun s n t ⟨x, hx, hs⟩ hr _ => ⟨x, hx, hs.trans (sub_cut (rk_facts hr).2.2.2.1)⟩, fun _ _ _ _ _ => trivial⟩
theorem key_range {s r : ByteArray} {n : Nat} (h : rk s 107 = some (n, r)) : 1 ≤ n ∧ n ≤ 1000000 := by
  obtain ⟨hT, h2, hat, hc, _, _⟩ := rk_facts h
  unfold cut at hc
  split at hc
  · rename_i c
    simp only [Option.some.injEq, Prod.mk.injEq] at hc
    have := c.2.2
    rw [hc.1, hat] at this
    unfold hdOk at this
    simp at this
    exact this
  · simp at hc
theorem reach_range {xs : List ByteArray} {ks : List Int} (hk : ∀ k, k ∈ ks → 1 ≤ k ∧ k ≤ 1000000) {k : Int} (h : ReachT xs ks k) : 1 ≤ k ∧ k ≤ 1000000 :=
  h (fun _ => True) (fun k => 1 ≤ k ∧ k ≤ 1000000) ⟨fun _ _ => trivial, hk, fun _ _ _ _ => trivial, fun _ _ _ _ _ _ => trivial, fun s n r _ hr => by have := key_range hr; omega⟩

/-- A list without repeats within another one is no longer. -/
theorem nodup_le {α : Type} [DecidableEq α] : ∀ (S U : List α), S.Nodup → (∀ x, x ∈ S → x ∈ U) → S.length ≤ U.length := by
  intro S
  induction S with
  | nil => intro U _ _; exact Nat.zero_le _
  | cons x r ih =>
    intro U hn hs
    rw [List.nodup_cons] at hn
    have hx := hs x (List.mem_cons_self ..)
    have := ih (U.erase x) hn.2 (fun y hy => (List.mem_erase_of_ne (fun e => hn.1 (by rw [← e]; exact hy))).2 (hs y (List.mem_cons_of_mem _ hy)))
    rw [List.length_erase_of_mem hx] at this
    have := List.length_pos_of_mem hx
    simp only [List.length_cons]
    omega
/-- All that stands in a text. -/
def inf (x : List UInt8) : List (List UInt8) := (List.range (x.length + 1)).flatMap fun i => (List.range (x.length + 1)).map fun j => (x.drop i).take j
theorem mem_inf {x t : List UInt8} (h : t <:+: x) : t ∈ inf x := by
  obtain ⟨p, q, rfl⟩ := h
  unfold inf
  rw [List.mem_flatMap]
  refine ⟨p.length, List.mem_range.2 (by simp; omega), ?_⟩
  rw [List.mem_map]
  refine ⟨t.length, List.mem_range.2 (by simp; omega), ?_⟩
  simp
theorem sum_const (c : Nat) : ∀ l : List Nat, (l.map fun _ => c).sum = l.length * c := by
  intro l
  induction l with
  | nil => simp
  | cons y r ih => rw [List.map_cons, List.sum_cons, ih, List.length_cons, Nat.succ_mul]; omega
theorem inf_len (x : List UInt8) : (inf x).length = (x.length + 1) * (x.length + 1) := by
  unfold inf
  rw [List.length_flatMap]
  simp only [List.length_map, List.length_range]
  rw [sum_const, List.length_range]
def allInf (xs : List ByteArray) : List (List UInt8) := xs.flatMap fun x => inf x.data.toList
theorem allInf_len : ∀ (xs : List ByteArray), (∀ x, x ∈ xs → x.size ≤ 900) → (allInf xs).length ≤ xs.length * 811801 := by
  intro xs
  induction xs with
  | nil => intro _; exact Nat.zero_le _
  | cons x r ih =>
    intro h
    have h1 := h x (List.mem_cons_self ..)
    have h2 := ih (fun y hy => h y (List.mem_cons_of_mem _ hy))
    have h3 : (inf x.data.toList).length ≤ 811801 := by
      rw [inf_len]
      have h4 : x.data.toList.length + 1 ≤ 901 := by have : x.data.toList.length = x.size := rfl; omega
      exact Nat.mul_le_mul h4 h4
    have h5 : allInf (x :: r) = inf x.data.toList ++ allInf r := rfl
    rw [h5, List.length_append, List.length_cons, Nat.succ_mul]
    omega
theorem data_inj {a b : ByteArray} (h : a.data.toList = b.data.toList) : a = b := ext_list h
theorem seen_len {xs : List ByteArray} {ks : List Int} {S : List ByteArray} (hn : S.Nodup) (hs : ∀ t, t ∈ S → SeenT xs ks t) : S.length ≤ (allInf xs).length := by
  have h1 : (S.map fun t => t.data.toList).Nodup := by
    rw [List.nodup_iff_pairwise_ne] at hn ⊢
    rw [List.pairwise_map]
    exact hn.imp (fun h e => h (data_inj e))
  have := nodup_le _ (allInf xs) h1 (fun d hd => by
    obtain ⟨t, ht, rfl⟩ := List.mem_map.1 hd
    obtain ⟨x, hx, hs2⟩ := seen_sub (hs t ht)
    unfold allInf
    rw [List.mem_flatMap]
    exact ⟨x, hx, mem_inf hs2⟩)
  rwa [List.length_map] at this
end Go.Proofs.YtkekfogepdhjhaaGreat
