/- Numbers that rise: plain facts. -/
import Derived.Test.YtlmpfkbgknbcnaaGreatFn
import Derived.Lib.SlicesCompact
set_option linter.unusedVariables false
set_option maxRecDepth 100000
namespace Go.Proofs.YtlmpfkbgknbcnaaGreat.Nd
open Go Go.RowKit Go.Joins Own Draw
/-- Numbers that rise stay so with one more in its place. -/
theorem putL_mem : ∀ (ks : List Int) (x y : Int),y ∈ putL ks x ↔ y = x ∨ y ∈ ks:=by
 intro ks x y
 induction ks with
 | nil => simp [putL]
 | cons z r ih =>
  rw [putL]
  split
  ·simp
  ·rw [List.mem_cons,ih,List.mem_cons]
   constructor
   ·rintro (h | h | h)
    ·exact Or.inr (Or.inl h)
    ·exact Or.inl h
    ·exact Or.inr (Or.inr h)
   ·rintro (h | h | h)
    ·exact Or.inr (Or.inl h)
    ·exact Or.inl h
    ·exact Or.inr (Or.inr h)
theorem putL_rises : ∀ {ks : List Int} {x : Int},ks.Pairwise (· < ·) → ¬ x ∈ ks → (putL ks x).Pairwise (· < ·):=by
 intro ks x hp hx
 induction ks with
 | nil => simp [putL]
 | cons z r ih =>
  rw [List.pairwise_cons] at hp
  have hne : x ≠ z:=fun e => hx (by rw [e]; exact List.mem_cons_self ..)
  rw [putL]
  split
  ·rename_i h
   rw [List.pairwise_cons]
   refine ⟨fun y hy => ?_,List.pairwise_cons.2 hp⟩
   rcases List.mem_cons.1 hy with rfl | hy
   ·exact h
   ·exact Int.lt_trans h (hp.1 y hy)
  ·rw [List.pairwise_cons]
   refine ⟨fun y hy => ?_,ih hp.2 (fun c => hx (List.mem_cons_of_mem _ c))⟩
   rcases (putL_mem r x y).1 hy with rfl | hy
   ·omega
   ·exact hp.1 y hy
theorem putI_mem (ks : List Int) (x y : Int) : y ∈ putI ks x ↔ y = x ∨ y ∈ ks:=by
 unfold putI
 split
 ·rename_i h
  have:=(hasB_iff ks x).1 h
  constructor
  ·exact Or.inr
  ·rintro (rfl | h)
   ·exact this
   ·exact h
 ·exact putL_mem ks x y
theorem putI_rises {ks : List Int} {x : Int} (hp : ks.Pairwise (· < ·)) : (putI ks x).Pairwise (· < ·):=by
 unfold putI
 split
 ·exact hp
 ·rename_i h
  exact putL_rises hp (fun c => h ((hasB_iff ks x).2 c))
theorem sorted_ext : ∀ (A B : List Int),A.Pairwise (· < ·) → B.Pairwise (· < ·) → (∀ k,k ∈ A ↔ k ∈ B) → A = B:=by
 intro A
 induction A with
 | nil =>
  intro B _ _ h
  cases B with
  | nil => rfl
  | cons b B => exact absurd ((h b).2 (by simp)) (by simp)
 | cons a A ih =>
  intro B hA hB h
  cases B with
  | nil => exact absurd ((h a).1 (by simp)) (by simp)
  | cons b B =>
   rw [List.pairwise_cons] at hA hB
   have hab : a = b:=by
    rcases List.mem_cons.1 ((h a).1 (by simp)) with h1 | h1
    ·exact h1
    ·rcases List.mem_cons.1 ((h b).2 (by simp)) with h2 | h2
     ·exact h2.symm
     ·have h3:=hA.1 b h2
      have h4:=hB.1 a h1
      omega
   subst hab
   rw [ih B hA.2 hB.2 (fun k => ?_)]
   constructor
   ·intro hk
    rcases List.mem_cons.1 ((h k).1 (List.mem_cons_of_mem _ hk)) with e | e
    ·have h3:=hA.1 k hk
     omega
    ·exact e
   ·intro hk
    rcases List.mem_cons.1 ((h k).2 (List.mem_cons_of_mem _ hk)) with e | e
    ·have h3:=hB.1 k hk
     omega
    ·exact e
theorem cmp_mem (d : Array Int) : ∀ m,∀ z,z ∈ Lib.compactUpTo d m ↔ ∃ j,j < m ∧ d[j]! = z
 | 0,z => by simp [Lib.compactUpTo]
 | m + 1,z => by
  rw [Lib.compactUpTo_succ,List.mem_append,cmp_mem d m z]
  by_cases hk : Lib.keeps d m = true
  ·rw [if_pos hk,List.mem_singleton]
   constructor
   ·rintro (⟨j,hj,e⟩ | e)
    ·exact ⟨j,by omega,e⟩
    ·exact ⟨m,by omega,e.symm⟩
   ·rintro ⟨j,hj,e⟩
    by_cases hm : j = m
    ·subst hm; exact Or.inr e.symm
    ·exact Or.inl ⟨j,by omega,e⟩
  ·rw [if_neg hk]
   unfold Lib.keeps at hk
   simp only [decide_eq_true_eq,not_or,Decidable.not_not] at hk
   constructor
   ·rintro (⟨j,hj,e⟩ | e)
    ·exact ⟨j,by omega,e⟩
    ·cases e
   ·rintro ⟨j,hj,e⟩
    by_cases hm : j = m
    ·subst hm; exact Or.inl ⟨j - 1,by omega,by rw [← hk.2]; exact e⟩
    ·exact Or.inl ⟨j,by omega,e⟩
theorem cmp_pair (d : Array Int) (hs : ∀ i j,i ≤ j → j < d.size → d[i]! ≤ d[j]!) : ∀ m,m ≤ d.size → (Lib.compactUpTo d m).Pairwise (· < ·)
 | 0,_ => by simp [Lib.compactUpTo]
 | m + 1,hm => by
  rw [Lib.compactUpTo_succ,List.pairwise_append]
  refine ⟨cmp_pair d hs m (by omega),by split <;> simp,?_⟩
  intro a ha b hb
  by_cases hk : Lib.keeps d m = true
  ·rw [if_pos hk,List.mem_singleton] at hb
   subst hb
   obtain ⟨j,hj,rfl⟩:=(cmp_mem d m a).1 ha
   unfold Lib.keeps at hk
   simp only [decide_eq_true_eq] at hk
   rcases hk with hk | hk
   ·omega
   ·have h1:=hs j (m - 1) (by omega) (by omega)
    have h2:=hs (m - 1) m (by omega) (by omega)
    have h3 : d[m - 1]! ≠ d[m]!:=fun e => hk e.symm
    omega
  ·rw [if_neg hk] at hb; cases hb
/-- In their order, each once. -/
def riL (ks : List Int) : List Int:=Lib.compact (ks.mergeSort fun x y => decide (x ≤ y))
theorem getB (ys : List Int) (j : Nat) (h : j < ys.length) : ys.toArray[j]! = ys[j]:=by simp [h]
theorem riL_mem (ks : List Int) (z : Int) : z ∈ riL ks ↔ z ∈ ks:=by
 unfold riL Lib.compact
 rw [cmp_mem,← List.mem_mergeSort (le:=fun x y => decide (x ≤ y)) (l:=ks)]
 generalize (ks.mergeSort fun x y => decide (x ≤ y)) = ys
 constructor
 ·rintro ⟨j,hj,rfl⟩
  rw [getB ys j hj]
  exact List.getElem_mem hj
 ·intro h
  obtain ⟨j,hj,e⟩:=List.getElem_of_mem h
  exact ⟨j,hj,by rw [getB ys j hj,e]⟩
theorem riL_rises (ks : List Int) : (riL ks).Pairwise (· < ·):=by
 have h1 : (ks.mergeSort fun x y => decide (x ≤ y)).Pairwise (fun x y => decide (x ≤ y) = true):=List.pairwise_mergeSort (fun a b c h1 h2 => by simp at *; omega) (fun a b => by simp; omega) ks
 unfold riL Lib.compact
 generalize (ks.mergeSort fun x y => decide (x ≤ y)) = ys at h1
 refine cmp_pair _ (fun i j hij hj => ?_) _ (by simp)
 have hj' : j < ys.length:=by simpa using hj
 rw [getB ys i (by omega),getB ys j hj']
 by_cases e : i = j
 ·subst e; exact Int.le_refl _
 ·have:=List.pairwise_iff_getElem.1 h1 i j (by omega) hj' (by omega)
  simpa using this
theorem cmp_len (zs : List Int) : (Lib.compact zs).length ≤ zs.length:=by
 unfold Lib.compact Lib.compactUpTo
 rw [List.length_map]
 exact Nat.le_trans (List.length_filter_le _ _) (by simp)
theorem riL_len (ks : List Int) : (riL ks).length ≤ ks.length:=by
 unfold riL
 exact Nat.le_trans (cmp_len _) (by rw [List.length_mergeSort]; exact Nat.le_refl _)
end Go.Proofs.YtlmpfkbgknbcnaaGreat.Nd
