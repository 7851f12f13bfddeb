/- All that is seen and reached: the model. -/
import Derived.Test.YtkekfogepdhjhaaGreatWide
import Derived.Test.YtkekfogepdhjhaaGreatLearn4
set_option linter.unusedVariables false
namespace Go.Proofs.YtkekfogepdhjhaaGreat
open Go.RowKit Own Var Term

/-- What the model holds of what is seen and reached is right, so far. -/
def Inv (xs : List ByteArray) (ks : List Int) (S : List ByteArray) (K : List Int) : Prop :=
  S.Nodup ∧ (∀ t, t ∈ S → SeenT xs ks t) ∧ (∀ k, k ∈ K → ReachT xs ks k) ∧ K.Pairwise (· < ·) ∧ (∀ t, t ∈ xs → t ∈ S) ∧ (∀ k, k ∈ ks → k ∈ K)
/-- The terms ahead of place i have been gone through in this round, which began with the keys K0. -/
def Done (K0 : List Int) (S : List ByteArray) (K : List Int) (i : Nat) : Prop :=
  ∀ j (h : j < S.length), j < i → (∀ (n : Nat) r, rk S[j] 107 = some (n, r) → (n : Int) ∈ K) ∧ (∀ p, p ∈ (partsR S[j]).1 → p ∈ S) ∧ (∀ (n : Nat) t, rk S[j] 115 = some (n, t) → (n : Int) ∈ K0 → t ∈ S)
/-- The keys have not turned, or they are more. -/
def Grew (K0 K : List Int) : Prop := K = K0 ∨ K0.length < K.length
theorem Inv.closed {xs : List ByteArray} {ks : List Int} {S : List ByteArray} {K : List Int} (h : Inv xs ks S K) (hd : Done K S K S.length) : Closed xs ks (fun t => t ∈ S) (fun k => k ∈ K) := by
  refine ⟨h.2.2.2.2.1, h.2.2.2.2.2, fun l p hl hp => ?_, fun s n t hs hr hk => ?_, fun s n r hs hr => ?_⟩
  · obtain ⟨j, hj, rfl⟩ := List.getElem_of_mem hl
    exact (hd j hj hj).2.1 p hp
  · obtain ⟨j, hj, rfl⟩ := List.getElem_of_mem hs
    exact (hd j hj hj).2.2 n t hr hk
  · obtain ⟨j, hj, rfl⟩ := List.getElem_of_mem hs
    exact (hd j hj hj).1 n r hr
theorem Inv.key {xs : List ByteArray} {ks : List Int} {S : List ByteArray} {K : List Int} (h : Inv xs ks S K) {s r : ByteArray} {n : Nat} (hs : s ∈ S) (hr : rk s 107 = some (n, r)) : Inv xs ks S (putI K n) := by
  refine ⟨h.1, h.2.1, fun k hk => ?_, putI_rises h.2.2.2.1, h.2.2.2.2.1, fun k hk => (putI_mem K n k).2 (Or.inr (h.2.2.2.2.2 k hk))⟩
  rcases (putI_mem K n k).1 hk with rfl | hk
  · exact (closed_least xs ks).2.2.2.2 s n r (h.2.1 s hs) hr
  · exact h.2.2.1 k hk
theorem nodup_snoc {S : List ByteArray} {t : ByteArray} (h : S.Nodup) (ht : ¬ t ∈ S) : (S ++ [t]).Nodup := by
  rw [List.nodup_append]
  refine ⟨h, by simp, fun a ha b hb => ?_⟩
  rw [List.mem_singleton] at hb
  subst hb
  exact fun e => ht (e ▸ ha)
theorem Inv.more {xs : List ByteArray} {ks : List Int} {S : List ByteArray} {K : List Int} (h : Inv xs ks S K) {t : ByteArray} (ht : SeenT xs ks t) (hn : ¬ t ∈ S) : Inv xs ks (S ++ [t]) K := by
  refine ⟨nodup_snoc h.1 hn, fun u hu => ?_, h.2.2.1, h.2.2.2.1, fun u hu => List.mem_append_left _ (h.2.2.2.2.1 u hu), h.2.2.2.2.2⟩
  rcases List.mem_append.1 hu with hu | hu
  · exact h.2.1 u hu
  · rw [List.mem_singleton] at hu; subst hu; exact ht
theorem Done.more {K0 : List Int} {S : List ByteArray} {K : List Int} {i : Nat} (h : Done K0 S K i) (hi : i ≤ S.length) (t : ByteArray) : Done K0 (S ++ [t]) K i := by
  intro j hj hji
  have hjs : j < S.length := by omega
  rw [List.getElem_append_left hjs]
  obtain ⟨h1, h2, h3⟩ := h j hjs hji
  exact ⟨h1, fun p hp => List.mem_append_left _ (h2 p hp), fun n u hr hk => List.mem_append_left _ (h3 n u hr hk)⟩
theorem Done.key {K0 : List Int} {S : List ByteArray} {K : List Int} {i : Nat} (h : Done K0 S K i) (x : Int) : Done K0 S (putI K x) i := by
  intro j hj hji
  obtain ⟨h1, h2, h3⟩ := h j hj hji
  exact ⟨fun n r hr => (putI_mem K x n).2 (Or.inr (h1 n r hr)), h2, h3⟩
theorem Done.step {K0 : List Int} {S : List ByteArray} {K : List Int} {i : Nat} (h : Done K0 S K i) (hi : i < S.length)
    (h1 : ∀ (n : Nat) r, rk S[i] 107 = some (n, r) → (n : Int) ∈ K) (h2 : ∀ p, p ∈ (partsR S[i]).1 → p ∈ S) (h3 : ∀ (n : Nat) t, rk S[i] 115 = some (n, t) → (n : Int) ∈ K0 → t ∈ S) : Done K0 S K (i + 1) := by
  intro j hj hji
  by_cases e : j = i
  · subst e; exact ⟨h1, h2, h3⟩
  · exact h j hj (by omega)
theorem Grew.put {K0 K : List Int} (h : Grew K0 K) (x : Int) : Grew K0 (putI K x) := by
  rcases putI_grow K x with e | e
  · rw [e]; exact h
  · right
    rcases h with h | h
    · rw [← h]; exact e
    · omega
theorem Inv.len {xs : List ByteArray} {ks : List Int} {S : List ByteArray} {K : List Int} (h : Inv xs ks S K) (hk : ∀ k, k ∈ ks → 1 ≤ k ∧ k ≤ 1000000) : S.length ≤ (allInf xs).length ∧ K.length ≤ 1000000 :=
  ⟨seen_len h.1 h.2.1, rises_len 1000000 h.2.2.2.1 (fun k hk2 => reach_range hk (h.2.2.1 k hk2))⟩
end Go.Proofs.YtkekfogepdhjhaaGreat
