/- Plain mathematics: going through what is seen, each term once, comes to all of it. -/
import Derived.Test.YtlmpfkbgknbcnaaGreatAb
import Derived.Test.YtlmpfkbgknbcnaaGreatKView4
import Derived.Test.YtlmpfkbgknbcnaaGreatKnow3
import Derived.Test.YtlmpfkbgknbcnaaGreatKWide
import Derived.RangeFuncNested
import Derived.RangeFuncBound
import Derived.RangeFuncCalls
import Derived.RangeFuncLeaves
import Derived.WalkKit
import Derived.OwnWalkIn
import Derived.TacticsInMore
import Derived.LoopNIn
import Derived.LoopIn
set_option linter.unusedVariables false
namespace Go.Proofs.YtlmpfkbgknbcnaaGreat.Kn
open _root_.Go.Proofs.YtlmpfkbgknbcnaaGreat.Own Var Term
theorem sum_other (f g : Int → Nat) (k : Int) (h : ∀ j,j ≠ k → g j = f j) : ∀ (K : List Int),¬ k ∈ K → (K.map g).sum = (K.map f).sum:=by
 intro K
 induction K with
 | nil => intro _; rfl
 | cons j K ih =>
  intro hk
  simp only [List.mem_cons,not_or] at hk
  simp only [List.map_cons,List.sum_cons,ih hk.2,h j (Ne.symm hk.1)]
/-- What is said of one key is said anew: the sum over unlike keys. -/
theorem sum_put (f g : Int → Nat) (k : Int) (h : ∀ j,j ≠ k → g j = f j) (K : List Int) (hK : K.Nodup) : ∃ K' : List Int,K'.Nodup ∧ ¬ k ∈ K' ∧ (K.map g).sum ≤ g k + (K'.map f).sum:=by
 refine ⟨K.filter (fun x => x != k),List.Pairwise.filter _ hK,by simp,?_⟩
 have key : ∀ (L : List Int),L.Nodup → (L.map g).sum ≤ (if k ∈ L then g k else 0) + ((L.filter (fun x => x != k)).map f).sum:=by
  intro L
  induction L with
  | nil => intro _; simp
  | cons a L ihL =>
   intro hL
   obtain ⟨ha,hL'⟩:=List.nodup_cons.1 hL
   by_cases ea : a = k
   ·subst ea
    have e1 : (L.filter fun x => x != a) = L:=List.filter_eq_self.2 (fun x hx => by simp; intro e3; subst e3; exact ha hx)
    have e2 : (List.filter (fun x => x != a) (a :: L)) = L:=by simp [e1]
    rw [e2,if_pos (List.mem_cons_self)]
    simp only [List.map_cons,List.sum_cons,sum_other f g a h L ha]
    omega
   ·have e4 : (k ∈ a :: L) ↔ k ∈ L:=by simp [Ne.symm ea]
    have e2 : (List.filter (fun x => x != k) (a :: L)) = a :: L.filter (fun x => x != k):=by simp [ea]
    have e5:=ihL hL'
    rw [e2]
    simp only [List.map_cons,List.sum_cons,h a ea,e4]
    omega
 have:=key K hK
 split at this <;> omega
/-- How it stands while one goes through: xs and ks are known, kd of the keys are reached already. -/
structure AI (xs : List ByteArray) (ks kd : List Int) (s : VS) : Prop where
 nd : s.T.Nodup
 seenT : ∀ t,t ∈ s.T → SeenT xs ks t
 seenA : ∀ t,t ∈ s.A → SeenT xs ks t
 shutB : ∀ k t,t ∈ (s.F k).2 → ∃ u,u ∈ s.T ∧ ∃ n : Nat,k = n ∧ rk u 115 = some (n,t)
 reach : ∀ k,(s.F k).1 = true → ReachT xs ks k
 hx : ∀ t,t ∈ xs → t ∈ s.A ∨ t ∈ s.T
 hk : ∀ k,k ∈ kd → (s.F k).1 = true
 parts : ∀ l,l ∈ s.T → ∀ q,q ∈ (partsR l).1 → q ∈ s.A ∨ q ∈ s.T
 keyed : ∀ t,t ∈ s.T → ∀ (n : Nat) r,rk t 107 = some (n,r) → (s.F n).1 = true
 sealed : ∀ t,t ∈ s.T → ∀ (n : Nat) r,rk t 115 = some (n,r) → ((s.F n).1 = true ∧ (r ∈ s.A ∨ r ∈ s.T)) ∨ ((s.F n).1 = false ∧ r ∈ (s.F n).2)
 tot : ∀ K : List Int,K.Nodup → s.A.length + (K.map fun k => (s.F k).2.length).sum ≤ xs.length + 12 * s.T.length
theorem sum_zero : ∀ K : List Int,(K.map fun _ => (0 : Nat)).sum = 0:=by
 intro K
 induction K with
 | nil => rfl
 | cons a K ih => simp only [List.map_cons,List.sum_cons,ih]
theorem AI.start (xs : List ByteArray) (ks : List Int) : AI xs ks [] ⟨xs,[],fun _ => (false,[])⟩:=by
 constructor
 ·exact List.nodup_nil
 ·intro t h; cases h
 ·intro t h S K hc; exact hc.1 t h
 ·intro k t h; cases h
 ·intro k h; cases h
 ·intro t h; exact Or.inl h
 ·intro k h; cases h
 ·intro l h; cases h
 ·intro t h; cases h
 ·intro t h; cases h
 ·intro K _
  have:=sum_zero K
  show xs.length + (K.map fun _ => (0 : Nat)).sum ≤ xs.length + 12 * 0
  omega
theorem AI.ofReach {xs : List ByteArray} {ks kd : List Int} {s : VS} (h : AI xs ks kd s) {k : Int} (hr : ReachT xs ks k) : AI xs ks (kd ++ [k]) (s.reach k):=by
 have hmem : ∀ t,t ∈ (s.F k).2 → SeenT xs ks t:=fun t ht => by
  obtain ⟨u,hu,n,rfl,hn⟩:=h.shutB k t ht
  intro S K hc
  exact hc.2.2.2.1 u n t (h.seenT u hu S K hc) hn (hr S K hc)
 have eF : ∀ j,(s.reach k).F j = if j = k then (true,[]) else s.F j:=fun _ => rfl
 refine ⟨h.nd,h.seenT,fun t ht => ?_,fun j t ht => ?_,fun j hj => ?_,fun t ht => ?_,fun j hj => ?_,fun l hl q hq => ?_,fun t ht n r hn => ?_,fun t ht n r hn => ?_,fun K hK => ?_⟩
 ·rcases List.mem_append.1 ht with h1 | h1
  ·exact h.seenA t h1
  ·exact hmem t h1
 ·rw [eF] at ht
  by_cases e : j = k
  ·rw [if_pos e] at ht; cases ht
  ·rw [if_neg e] at ht; exact h.shutB j t ht
 ·rw [eF] at hj
  by_cases e : j = k
  ·rw [e]; exact hr
  ·rw [if_neg e] at hj; exact h.reach j hj
 ·rcases h.hx t ht with h1 | h1
  ·exact Or.inl (List.mem_append_left _ h1)
  ·exact Or.inr h1
 ·rw [eF]
  by_cases e : j = k
  ·rw [if_pos e]
  ·rw [if_neg e]
   rcases List.mem_append.1 hj with h1 | h1
   ·exact h.hk j h1
   ·simp at h1; exact absurd h1 e
 ·rcases h.parts l hl q hq with h1 | h1
  ·exact Or.inl (List.mem_append_left _ h1)
  ·exact Or.inr h1
 ·rw [eF]
  by_cases e : (n : Int) = k
  ·rw [if_pos e]
  ·rw [if_neg e]; exact h.keyed t ht n r hn
 ·rw [eF]
  by_cases e : (n : Int) = k
  ·rw [if_pos e]
   left
   refine ⟨rfl,?_⟩
   rcases h.sealed t ht n r hn with ⟨_,h1 | h1⟩ | ⟨_,h1⟩
   ·exact Or.inl (List.mem_append_left _ h1)
   ·exact Or.inr h1
   ·exact Or.inl (List.mem_append_right _ (by rw [← e]; exact h1))
  ·rw [if_neg e]
   rcases h.sealed t ht n r hn with ⟨h0,h1 | h1⟩ | h1
   ·exact Or.inl ⟨h0,Or.inl (List.mem_append_left _ h1)⟩
   ·exact Or.inl ⟨h0,Or.inr h1⟩
   ·exact Or.inr h1
 ·obtain ⟨K',h1,h2,h3⟩:=sum_put (fun j => (s.F j).2.length) (fun j => ((s.reach k).F j).2.length) k (fun j hj => by rw [eF,if_neg hj]) K hK
  have h4:=h.tot (k :: K') (List.nodup_cons.2 ⟨h2,h1⟩)
  simp only [List.map_cons,List.sum_cons] at h4
  have e0 : ((s.reach k).F k).2.length = 0:=by rw [eF,if_pos rfl]; rfl
  rw [e0] at h3
  show (s.A ++ (s.F k).2).length + _ ≤ xs.length + 12 * s.T.length
  rw [List.length_append]
  omega
/-- A term that is there already is passed over. -/
theorem AI.pass {xs : List ByteArray} {ks kd : List Int} {t : ByteArray} {A T : List ByteArray} {F : Int → Bool × List ByteArray} (h : AI xs ks kd ⟨t :: A,T,F⟩) (ht : t ∈ T) : AI xs ks kd ⟨A,T,F⟩:=by
 have mv : ∀ u,(u ∈ t :: A ∨ u ∈ T) → (u ∈ A ∨ u ∈ T):=fun u hu => by
  rcases hu with hu | hu
  ·rcases List.mem_cons.1 hu with rfl | hu
   ·exact Or.inr ht
   ·exact Or.inl hu
  ·exact Or.inr hu
 refine ⟨h.nd,h.seenT,fun u hu => h.seenA u (List.mem_cons_of_mem _ hu),h.shutB,h.reach,fun u hu => mv u (h.hx u hu),h.hk,fun l hl q hq => mv q (h.parts l hl q hq),h.keyed,fun u hu n r hn => ?_,fun K hK => ?_⟩
 ·rcases h.sealed u hu n r hn with ⟨h0,h1⟩ | h1
  ·exact Or.inl ⟨h0,mv r h1⟩
  ·exact Or.inr h1
 ·have:=h.tot K hK
  simp only [List.length_cons] at this
  exact (by omega : A.length + (K.map fun k => (F k).2.length).sum ≤ xs.length + 12 * T.length)
/-- A term that is not there yet is put there, and what follows of it is seen. -/
theorem AI.new {xs : List ByteArray} {ks kd : List Int} {t : ByteArray} {A T : List ByteArray} {F : Int → Bool × List ByteArray} (h : AI xs ks kd ⟨t :: A,T,F⟩) (ht : ¬ t ∈ T) : ∃ kd',(∀ k,k ∈ kd → k ∈ kd') ∧ AI xs ks kd' ((⟨A,T ++ [t],F⟩ : VS).follow t):=by
 have hst : SeenT xs ks t:=h.seenA t (List.mem_cons_self)
 have hnd : (T ++ [t]).Nodup:=nodup_snoc h.nd ht
 have hsT : ∀ u,u ∈ T ++ [t] → SeenT xs ks u:=fun u hu => by
  rcases List.mem_append.1 hu with hu | hu
  ·exact h.seenT u hu
  ·simp at hu; rw [hu]; exact hst
 have mv : ∀ u,(u ∈ t :: A ∨ u ∈ T) → (u ∈ A ∨ u ∈ T ++ [t]):=fun u hu => by
  rcases hu with hu | hu
  ·rcases List.mem_cons.1 hu with rfl | hu
   ·exact Or.inr (by simp)
   ·exact Or.inl hu
  ·exact Or.inr (List.mem_append_left _ hu)
 have hsh : ∀ k u,u ∈ (F k).2 → ∃ u',u' ∈ T ++ [t] ∧ ∃ n : Nat,k = n ∧ rk u' 115 = some (n,u):=fun k u hu => by
  obtain ⟨u',h1,h2⟩:=h.shutB k u hu
  exact ⟨u',List.mem_append_left _ h1,h2⟩
 have htot : ∀ K : List Int,K.Nodup → A.length + 1 + (K.map fun k => (F k).2.length).sum ≤ xs.length + 12 * T.length:=fun K hK => by
  have:=h.tot K hK
  simp only [List.length_cons] at this
  exact this
 have hl : (T ++ [t]).length = T.length + 1:=by simp
 cases h7 : rk t 107 with
 | some q =>
  obtain ⟨n,r⟩:=q
  have hr : ReachT xs ks (n : Int):=fun S K hc => hc.2.2.2.2 t n r (hst S K hc) h7
  have e1 : ((⟨A,T ++ [t],F⟩ : VS).follow t) = (⟨A,T ++ [t],F⟩ : VS).reach n:=by unfold VS.follow; rw [h7]
  rw [e1]
  have no5 : rk t 115 = none:=by
   have a1:=(rk_facts h7).2.2.1
   unfold rk
   rw [if_neg (fun h5 => by have:=h5.2; omega)]
  have noP : (partsR t).1 = []:=parts_none (by
   have a1:=(rk_facts h7).2.2.1
   unfold rk
   rw [if_neg (fun h5 => by have:=h5.2; omega)])
  have eF : ∀ j,((⟨A,T ++ [t],F⟩ : VS).reach n).F j = if j = (n : Int) then (true,[]) else F j:=fun _ => rfl
  have hmem : ∀ u,u ∈ (F n).2 → SeenT xs ks u:=fun u hu => by
   obtain ⟨u',hu',m,hm,hn⟩:=h.shutB n u hu
   have : n = m:=by omega
   subst this
   intro S K hc
   exact hc.2.2.2.1 u' n u (h.seenT u' hu' S K hc) hn (hr S K hc)
  refine ⟨kd ++ [(n : Int)],fun k hk => List.mem_append_left _ hk,hnd,hsT,fun u hu => ?_,fun j u hu => ?_,fun j hj => ?_,fun u hu => ?_,fun j hj => ?_,fun l hl2 q hq => ?_,fun u hu m r2 hm => ?_,fun u hu m r2 hm => ?_,fun K hK => ?_⟩
  ·rcases List.mem_append.1 hu with hu | hu
   ·exact h.seenA u (List.mem_cons_of_mem _ hu)
   ·exact hmem u hu
  ·rw [eF] at hu
   by_cases e : j = (n : Int)
   ·rw [if_pos e] at hu; cases hu
   ·rw [if_neg e] at hu; exact hsh j u hu
  ·rw [eF] at hj
   by_cases e : j = (n : Int)
   ·rw [e]; exact hr
   ·rw [if_neg e] at hj; exact h.reach j hj
  ·rcases mv u (h.hx u hu) with h1 | h1
   ·exact Or.inl (List.mem_append_left _ h1)
   ·exact Or.inr h1
  ·rw [eF]
   by_cases e : j = (n : Int)
   ·rw [if_pos e]
   ·rw [if_neg e]
    rcases List.mem_append.1 hj with h1 | h1
    ·exact h.hk j h1
    ·simp at h1; exact absurd h1 e
  ·rcases List.mem_append.1 hl2 with h1 | h1
   ·rcases mv q (h.parts l h1 q hq) with h2 | h2
    ·exact Or.inl (List.mem_append_left _ h2)
    ·exact Or.inr h2
   ·simp at h1; subst h1; rw [noP] at hq; cases hq
  ·rw [eF]
   by_cases e : (m : Int) = (n : Int)
   ·rw [if_pos e]
   ·rw [if_neg e]
    rcases List.mem_append.1 hu with h1 | h1
    ·exact h.keyed u h1 m r2 hm
    ·simp at h1; subst h1; rw [h7] at hm; cases hm; exact absurd rfl e
  ·rcases List.mem_append.1 hu with h1 | h1
   ·rw [eF]
    by_cases e : (m : Int) = (n : Int)
    ·rw [if_pos e]
     left
     refine ⟨rfl,?_⟩
     rcases h.sealed u h1 m r2 hm with ⟨_,h3⟩ | ⟨_,h3⟩
     ·rcases mv r2 h3 with h4 | h4
      ·exact Or.inl (List.mem_append_left _ h4)
      ·exact Or.inr h4
     ·exact Or.inl (List.mem_append_right _ (by rw [← e]; exact h3))
    ·rw [if_neg e]
     rcases h.sealed u h1 m r2 hm with ⟨h0,h3⟩ | h3
     ·rcases mv r2 h3 with h4 | h4
      ·exact Or.inl ⟨h0,Or.inl (List.mem_append_left _ h4)⟩
      ·exact Or.inl ⟨h0,Or.inr h4⟩
     ·exact Or.inr h3
   ·simp at h1; subst h1; rw [no5] at hm; cases hm
  ·obtain ⟨K',h1,h2,h3⟩:=sum_put (fun j => (F j).2.length) (fun j => (((⟨A,T ++ [t],F⟩ : VS).reach n).F j).2.length) n (fun j hj => by rw [eF,if_neg hj]) K hK
   have h4:=htot ((n : Int) :: K') (List.nodup_cons.2 ⟨h2,h1⟩)
   simp only [List.map_cons,List.sum_cons] at h4
   have e0 : (((⟨A,T ++ [t],F⟩ : VS).reach n).F n).2.length = 0:=by rw [eF,if_pos rfl]; rfl
   rw [e0] at h3
   show (A ++ (F n).2).length + _ ≤ xs.length + 12 * (T ++ [t]).length
   rw [List.length_append,hl]
   omega
 | none =>
  cases h5 : rk t 115 with
  | some q =>
   obtain ⟨n,r⟩:=q
   have noP : (partsR t).1 = []:=parts_none (by
    have a1:=(rk_facts h5).2.2.1
    unfold rk
    rw [if_neg (fun h5 => by have:=h5.2; omega)])
   by_cases hF : (F n).1 = true
   ·have e1 : ((⟨A,T ++ [t],F⟩ : VS).follow t) = ⟨A ++ [r],T ++ [t],F⟩:=by
     unfold VS.follow
     rw [h7,h5]
     simp only [if_pos hF]
    rw [e1]
    have hrs : SeenT xs ks r:=fun S K hc => hc.2.2.2.1 t n r (hst S K hc) h5 (h.reach n hF S K hc)
    have mv2 : ∀ u,(u ∈ t :: A ∨ u ∈ T) → (u ∈ A ++ [r] ∨ u ∈ T ++ [t]):=fun u hu => by
     rcases mv u hu with h1 | h1
     ·exact Or.inl (List.mem_append_left _ h1)
     ·exact Or.inr h1
    refine ⟨kd,fun _ hk => hk,hnd,hsT,fun u hu => ?_,hsh,h.reach,fun u hu => mv2 u (h.hx u hu),h.hk,fun l hl2 q hq => ?_,fun u hu m r2 hm => ?_,fun u hu m r2 hm => ?_,fun K hK => ?_⟩
    ·rcases List.mem_append.1 hu with hu | hu
     ·exact h.seenA u (List.mem_cons_of_mem _ hu)
     ·simp at hu; rw [hu]; exact hrs
    ·rcases List.mem_append.1 hl2 with h1 | h1
     ·exact mv2 q (h.parts l h1 q hq)
     ·simp at h1; subst h1; rw [noP] at hq; cases hq
    ·rcases List.mem_append.1 hu with h1 | h1
     ·exact h.keyed u h1 m r2 hm
     ·simp at h1; subst h1; rw [h7] at hm; cases hm
    ·rcases List.mem_append.1 hu with h1 | h1
     ·rcases h.sealed u h1 m r2 hm with ⟨h0,h3⟩ | h3
      ·exact Or.inl ⟨h0,mv2 r2 h3⟩
      ·exact Or.inr h3
     ·simp at h1; subst h1; rw [h5] at hm; cases hm
      exact Or.inl ⟨hF,Or.inl (by simp)⟩
    ·have:=htot K hK
     have e9 : (A ++ [r]).length + (K.map fun k => (F k).2.length).sum ≤ xs.length + 12 * (T ++ [t]).length:=by
      rw [List.length_append,hl]
      simp only [List.length_cons,List.length_nil]
      omega
     exact e9
   ·have hF' : (F n).1 = false:=by simpa using hF
    have e1 : ((⟨A,T ++ [t],F⟩ : VS).follow t) = ⟨A,T ++ [t],fun j => if j = (n : Int) then (false,(F n).2 ++ [r]) else F j⟩:=by
     unfold VS.follow
     rw [h7,h5]
     simp [hF']
    rw [e1]
    have eF : ∀ j,((⟨A,T ++ [t],fun j => if j = (n : Int) then (false,(F n).2 ++ [r]) else F j⟩ : VS)).F j = if j = (n : Int) then (false,(F n).2 ++ [r]) else F j:=fun _ => rfl
    have e1F : ∀ j : Int,(if j = (n : Int) then (false,(F n).2 ++ [r]) else F j).1 = (F j).1:=fun j => by
     by_cases e : j = (n : Int)
     ·rw [if_pos e,e,hF']
     ·rw [if_neg e]
    refine ⟨kd,fun _ hk => hk,hnd,hsT,fun u hu => h.seenA u (List.mem_cons_of_mem _ hu),fun j u hu => ?_,fun j hj => h.reach j (by rw [← e1F]; exact hj),fun u hu => mv u (h.hx u hu),fun j hj => by rw [eF,e1F]; exact h.hk j hj,fun l hl2 q hq => ?_,fun u hu m r2 hm => ?_,fun u hu m r2 hm => ?_,fun K hK => ?_⟩
    ·rw [eF] at hu
     by_cases e : j = (n : Int)
     ·rw [if_pos e] at hu
      rcases List.mem_append.1 hu with h1 | h1
      ·rw [e]; exact hsh n u h1
      ·simp at h1; exact ⟨t,by simp,n,e,by rw [h1]; exact h5⟩
     ·rw [if_neg e] at hu; exact hsh j u hu
    ·rcases List.mem_append.1 hl2 with h1 | h1
     ·exact mv q (h.parts l h1 q hq)
     ·simp at h1; subst h1; rw [noP] at hq; cases hq
    ·rw [eF,e1F]
     rcases List.mem_append.1 hu with h1 | h1
     ·exact h.keyed u h1 m r2 hm
     ·simp at h1; subst h1; rw [h7] at hm; cases hm
    ·rw [eF]
     rcases List.mem_append.1 hu with h1 | h1
     ·rcases h.sealed u h1 m r2 hm with ⟨h0,h3⟩ | ⟨h0,h3⟩
      ·exact Or.inl ⟨by rw [e1F]; exact h0,mv r2 h3⟩
      ·refine Or.inr ⟨by rw [e1F]; exact h0,?_⟩
       by_cases e : (m : Int) = (n : Int)
       ·rw [if_pos e]; exact List.mem_append_left _ (by rw [← e]; exact h3)
       ·rw [if_neg e]; exact h3
     ·simp at h1; subst h1; rw [h5] at hm; cases hm
      refine Or.inr ⟨by rw [e1F]; exact hF',?_⟩
      rw [if_pos rfl]; simp
    ·obtain ⟨K',h1,h2,h3⟩:=sum_put (fun j => (F j).2.length) (fun j => ((if j = (n : Int) then (false,(F n).2 ++ [r]) else F j) : Bool × List ByteArray).2.length) n (fun j hj => by rw [if_neg hj]) K hK
     have h8:=htot ((n : Int) :: K') (List.nodup_cons.2 ⟨h2,h1⟩)
     simp only [List.map_cons,List.sum_cons] at h8
     have e0 : ((if (n : Int) = (n : Int) then (false,(F n).2 ++ [r]) else F n) : Bool × List ByteArray).2.length = (F n).2.length + 1:=by rw [if_pos rfl]; simp
     rw [e0] at h3
     show A.length + _ ≤ xs.length + 12 * (T ++ [t]).length
     rw [hl]
     exact Nat.le_trans (Nat.add_le_add_left h3 _) (by omega)
  | none =>
   have e1 : ((⟨A,T ++ [t],F⟩ : VS).follow t) = ⟨A ++ (partsR t).1,T ++ [t],F⟩:=by
    unfold VS.follow
    rw [h7,h5]
   rw [e1]
   have mv2 : ∀ u,(u ∈ t :: A ∨ u ∈ T) → (u ∈ A ++ (partsR t).1 ∨ u ∈ T ++ [t]):=fun u hu => by
    rcases mv u hu with h1 | h1
    ·exact Or.inl (List.mem_append_left _ h1)
    ·exact Or.inr h1
   refine ⟨kd,fun _ hk => hk,hnd,hsT,fun u hu => ?_,hsh,h.reach,fun u hu => mv2 u (h.hx u hu),h.hk,fun l hl2 q hq => ?_,fun u hu m r2 hm => ?_,fun u hu m r2 hm => ?_,fun K hK => ?_⟩
   ·rcases List.mem_append.1 hu with hu | hu
    ·exact h.seenA u (List.mem_cons_of_mem _ hu)
    ·exact fun S K hc => hc.2.2.1 t u (hst S K hc) hu
   ·rcases List.mem_append.1 hl2 with h1 | h1
    ·exact mv2 q (h.parts l h1 q hq)
    ·simp at h1; subst h1; exact Or.inl (List.mem_append_right _ hq)
   ·rcases List.mem_append.1 hu with h1 | h1
    ·exact h.keyed u h1 m r2 hm
    ·simp at h1; subst h1; rw [h7] at hm; cases hm
   ·rcases List.mem_append.1 hu with h1 | h1
    ·rcases h.sealed u h1 m r2 hm with ⟨h0,h3⟩ | h3
     ·exact Or.inl ⟨h0,mv2 r2 h3⟩
     ·exact Or.inr h3
    ·simp at h1; subst h1; rw [h5] at hm; cases hm
   ·have:=htot K hK
    have hp:=parts_len t
    have e9 : (A ++ (partsR t).1).length + (K.map fun k => (F k).2.length).sum ≤ xs.length + 12 * (T ++ [t]).length:=by
     rw [List.length_append,hl]
     omega
    exact e9
/-- Where nothing lies ahead, what is there is what is seen, and what is reached is reached. -/
theorem AI.done {xs : List ByteArray} {ks kd : List Int} {T : List ByteArray} {F : Int → Bool × List ByteArray} (h : AI xs ks kd ⟨[],T,F⟩) (hk : ∀ k,k ∈ ks → k ∈ kd) : (∀ t,t ∈ T ↔ SeenT xs ks t) ∧ ∀ k,(F k).1 = true ↔ ReachT xs ks k:=by
 have no : ∀ u,(u ∈ ([] : List ByteArray) ∨ u ∈ T) → u ∈ T:=fun u hu => by
  rcases hu with hu | hu
  ·cases hu
  ·exact hu
 have hc : Closed xs ks (fun t => t ∈ T) (fun k => (F k).1 = true):=by
  refine ⟨fun t ht => no t (h.hx t ht),fun k hk' => h.hk k (hk k hk'),fun l q hl hq => no q (h.parts l hl q hq),?_,fun u n r hu hn => h.keyed u hu n r hn⟩
  intro u n r hu hn hF
  rcases h.sealed u hu n r hn with ⟨_,h1⟩ | ⟨h1,_⟩
  ·exact no r h1
  ·have hF' : (F n).1 = true:=hF
   have h1' : (F n).1 = false:=h1
   rw [h1'] at hF'; cases hF'
 exact ⟨fun t => ⟨h.seenT t,fun hs => hs _ _ hc⟩,fun k => ⟨h.reach k,fun hr => hr _ _ hc⟩⟩
set_option linter.unusedVariables false
end Go.Proofs.YtlmpfkbgknbcnaaGreat.Kn
namespace Go.Proofs.YtlmpfkbgknbcnaaGreat.Kn
open Go.RowKit Var Term
attribute [local go_sem] Oper.semAt_some
/-- The least number of which I is told at a world. -/
theorem least (I : Nat → Prop) : ∀ m,I m → ∃ k,I k ∧ ∀ j,I j → k ≤ j:=by
 intro m
 induction m using Nat.strongRecOn with
 | ind m ih =>
  intro hm
  by_cases h : ∃ j,j < m ∧ I j
  ·obtain ⟨j,hj,hi⟩:=h
   exact ih j hj hi
  ·exact ⟨m,hm,fun j hj => Nat.not_lt.1 (fun hlt => h ⟨j,hlt,hj⟩)⟩
theorem exists_gm (I : Nat → World → Prop) : ∃ f : World → Nat,∀ w,∀ m,I m w → I (f w) w ∧ f w ≤ m:=by
 have h : ∀ w,∃ k,∀ m,I m w → I k w ∧ k ≤ m:=by
  intro w
  by_cases hw : ∃ m,I m w
  ·obtain ⟨m,hm⟩:=hw
   obtain ⟨k,hk,hmin⟩:=least (fun m => I m w) m hm
   exact ⟨k,fun j hj => ⟨hk,hmin j hj⟩⟩
  ·exact ⟨0,fun m hm => absurd ⟨m,hm⟩ hw⟩
 exact Classical.axiomOfChoice h
/-- Only blocks of X have changed. -/
structure Out (X : Nat → Prop) (w w' : World) : Prop where
 size : w.heap.size ≤ w'.heap.size
 block : ∀ k,k < w.heap.size → ¬ X k → w'.heap[k]? = w.heap[k]?
theorem ViewAt.out {X : Nat → Prop} {p N : Nat} {s : VS} {w w' : World} (h : ViewAt X p N s w) (ho : Out X w w') : ViewAt X p N s w':=by
 obtain ⟨mT,mL,DT,DL,rv,h⟩:=h
 exact ⟨mT,mL,DT,DL,rv,h.kept ho.size ho.block (fun k hk => ⟨Nat.lt_of_lt_of_le (h.xlt k hk) ho.size,Or.inl hk⟩)⟩
def InvL (X : Nat → Prop) (p N0 M : Nat) (xs : List ByteArray) (ks kd0 : List Int) (J : List ByteArray → World → Prop) (m : Nat) (w : World) : Prop :=
 ∃ s kd N,(∀ k,k ∈ kd0 → k ∈ kd) ∧ AI xs ks kd s ∧ ViewAt X p N s w ∧ J s.T w ∧ N ≤ N0 + 2 * s.T.length ∧ m = (M - s.T.length) * (xs.length + 12 * M + 13) + s.A.length
/-- The first term that lies ahead is taken away. -/
theorem ViewM.pop {X : Nat → Prop} {p N mT mL : Nat} {DT DL : DataW Value} {rv : Option Int → Value} {t : ByteArray} {A T : List ByteArray} {F : Int → Bool × List ByteArray} {w : World} {b off cap n : Nat} (h : ViewM X p N mT mL DT DL rv ⟨t :: A,T,F⟩ w) (hv : rv none = .slice (some ⟨b,off,none⟩) n cap) (w' : World)
  (hw : w' = w.setCell ⟨p,0,none⟩ (.slice (if cap = 1 then some ⟨b,off,none⟩ else some ⟨b,off + 1,none⟩) A.length (cap - 1))) : ViewAt X p N ⟨A,T,F⟩ w' ∧ Keep X w w':=by
 have hq:=h.q none
 rw [hv] at hq
 have en : n = (t :: A).length:=by
  obtain ⟨a,c,e,_⟩:=hq.shape
  injection e
 subst en
 have hq2:=hq.tail
 generalize hv2 : (Value.slice (if cap = 1 then some ⟨b,off,none⟩ else some ⟨b,off + 1,none⟩) A.length (cap - 1)) = v2 at hq2 hw
 have ob : ∀ k,v2.ownBlock = some k → (rv none).ownBlock = some k:=by
  intro k hk
  rw [← hv2] at hk
  rw [hv]
  by_cases e : cap = 1
  ·rw [if_pos e] at hk; exact hk
  ·rw [if_neg e] at hk; exact hk
 have es : ∀ k,k ≠ p → w'.heap[k]? = w.heap[k]?:=fun k hk => by rw [hw]; exact Below.heap_setCell w ⟨p,0,none⟩ v2 k (fun e => hk e)
 have hz : w'.heap.size = w.heap.size:=by rw [hw]; simp
 have hB:=(Below.refl 0 w).setCell (p:=⟨p,0,none⟩) (Nat.zero_le _) v2
 rw [← hw] at hB
 refine ⟨⟨mT,mL,DT,DL,(fun i => match i with | none => v2 | some k => rv (some k)),?_⟩,⟨hB.os,hB.tape,hB.output,hB.size,fun k hk => es k (fun e => h.xp (e ▸ hk))⟩⟩
 refine ⟨h.xp,h.xT,h.xL,h.pT,h.pL,h.tL,h.pm,fun k hk => by rw [hz]; exact h.xlt k hk,?_,?_,?_,?_,?_,h.ht,?_,fun k hk => h.hl k hk,?_,?_,?_⟩
 ·rw [hw]; exact World.cell?_setCell_same' _ _ _ (by rw [h.c0]; rfl)
 ·rw [hw,World.cell?_setCell_other _ _ _ _ (by simp)]; exact h.c1
 ·rw [hw,World.cell?_setCell_other _ _ _ _ (by simp)]; exact h.c2
 ·rw [hw,World.frozen?_setCell]; exact h.f0
 ·obtain ⟨es',clock,hb',F',hs',hD⟩:=h.mt
  exact ⟨es',clock,(es mT (Ne.symm h.pT)).trans hb',F',hs',hD⟩
 ·obtain ⟨es',clock,hb',F',hs',hD⟩:=h.ml
  exact ⟨es',clock,(es mL (Ne.symm h.pL)).trans hb',F',hs',hD⟩
 ·intro i
  cases i with
  | none => exact hq2.kept (Nat.le_of_eq hz.symm) fun k hk => es k (h.far none k (ob k hk)).1
  | some k => exact (h.q (some k)).kept (Nat.le_of_eq hz.symm) fun b hb => es b (h.far (some k) b hb).1
 ·intro i j b hi hj
  cases i with
  | none =>
   cases j with
   | none => rfl
   | some k => exact h.ne none (some k) b (ob b hi) hj
  | some k =>
   cases j with
   | none => exact h.ne (some k) none b hi (ob b hj)
   | some k' => exact h.ne (some k) (some k') b hi hj
 ·intro i b hi
  cases i with
  | none => exact h.far none b (ob b hi)
  | some k => exact h.far (some k) b hi
/-- How the iterator ends: all is seen, or it was told to stop. -/
def SeenPost (X : Nat → Prop) (p : Nat) (xs : List ByteArray) (ks kd0 : List Int) (J Jx : List ByteArray → World → Prop) (W' : World) : Prop :=
 (∃ T F kd N,(∀ k,k ∈ kd0 → k ∈ kd) ∧ AI xs ks kd ⟨[],T,F⟩ ∧ ViewAt X p N ⟨[],T,F⟩ W' ∧ J T W') ∨ (∃ s kd N,AI xs ks kd s ∧ ViewAt X p N s W' ∧ Jx s.T W')
theorem meas_lt (M a W A A' : Nat) (h : a + 1 ≤ M) (hA : A' < W) : (M - (a + 1)) * W + A' < (M - a) * W + A:=by
 have e1 : M - a = (M - (a + 1)) + 1:=by omega
 rw [e1,Nat.succ_mul]
 generalize (M - (a + 1)) * W = q
 omega
theorem follow_T (s : VS) (t : ByteArray) : (s.follow t).T = s.T:=by
 unfold VS.follow
 split
 ·rfl
 ·split
  ·split <;> rfl
  ·rfl
set_option maxRecDepth 100000 in
set_option maxHeartbeats 6400000 in
theorem seen_iter {X : Nat → Prop} {p N0 bx l M : Nat} {xs : List ByteArray} {ks kd0 : List Int} (J Jx : List ByteArray → World → Prop) (hxs : ∀ x,x ∈ xs → isT x = true) (hM : (allInf xs).length ≤ M) (hM2 : M ≤ 50000000) (hx60 : xs.length ≤ 60) (hN0 : N0 ≤ 1000000) (hXb : X bx)
  (hJ : ∀ pre W W',J pre W → Keep X W W' → J pre W') (hJb : ∀ pre W,J pre W → W.cell? ⟨bx,0,none⟩ = some (.pointer (some ⟨p,0,none⟩)))
  (hY : ∀ m pre x W1,SeenT xs ks x → J pre W1 → YieldAt Fence.wide m Tryz.prog l #[.string x] W1 fun e W' => Out X W1 W' ∧ ((e = .returned (.bool true) ∧ J (pre ++ [x]) W') ∨ (e = .returned (.bool false) ∧ Jx (pre ++ [x]) W')))
  (W : World) (s0 : VS) (hT0 : s0.T = []) (h0 : AI xs ks kd0 s0) (hv : ViewAt X p N0 s0 W) (hj : J [] W) :
  Calls Tryz.prog 183 #[.func (.yield l) #[] #[],.pointer (some ⟨bx,0,none⟩)] W fun e W' => e = .returned (.tuple #[]) ∧
   SeenPost X p xs ks kd0 J Jx W':=by
 have I0 : InvL X p N0 M xs ks kd0 J ((M - s0.T.length) * (xs.length + 12 * M + 13) + s0.A.length) W:=⟨s0,kd0,N0,fun _ h => h,h0,hv,by rw [hT0]; exact hj,by omega,rfl⟩
 have HY : Hid (∀ m pre x W1,SeenT xs ks x → J pre W1 → YieldAt Fence.wide m Tryz.prog l #[.string x] W1 fun e W' => Out X W1 W' ∧ ((e = .returned (.bool true) ∧ J (pre ++ [x]) W') ∨ (e = .returned (.bool false) ∧ Jx (pre ++ [x]) W'))):=hY
 have HJ : Hid (∀ pre W W',J pre W → Keep X W W' → J pre W'):=hJ
 have HB : Hid (∀ pre W,J pre W → W.cell? ⟨bx,0,none⟩ = some (.pointer (some ⟨p,0,none⟩))):=hJb
 clear hY hJ hJb h0 hv hj
 obtain ⟨gm,gmS⟩:=exists_gm (InvL X p N0 M xs ks kd0 J)
 have GS : Hid (∀ w,∀ m,InvL X p N0 M xs ks kd0 J m w → InvL X p N0 M xs ks kd0 J (gm w) w ∧ gm w ≤ m):=gmS
 clear gmS
 go_enter Tryz.func183,Tryz.ntmps183
 go_wp2_with fail
 go_loopw [3] (fun _ wr => ∃ m,InvL X p N0 M xs ks kd0 J m wr) (fun _ wr => gm wr)
 case atStart => exact ⟨_,I0⟩
 case round =>
  clear I0 hT0
  obtain ⟨m0,hm0⟩:=hrel
  obtain ⟨s,kd,Nn,hkd,hAI,hV,hj,hNn,hme⟩:=(GS.out _ _ hm0).1
  have HG : Hid (gm wr = (M - s.T.length) * (xs.length + 12 * M + 13) + s.A.length):=hme
  clear hme hm0
  have hTM : s.T.length ≤ M:=Nat.le_trans (seen_len hAI.nd hAI.seenT) hM
  have hbx:=HB.out _ _ hj
  obtain ⟨A,T,F⟩:=s
  cases A with
  | nil =>
   have hAN:=hV
   obtain ⟨mT,mL,DT,DL,rv,hm⟩:=hV
   obtain ⟨a,cap,hsl,_⟩:=(hm.q none).shape
   have c0:=hm.c0
   rw [hsl] at c0
   have HF : Hid (SeenPost X p xs ks kd0 J Jx wr):=Or.inl ⟨T,F,kd,Nn,hkd,hAI,hAN,hj⟩
   clear hm hAN hAI hsl
   go_wp2
   go_end0
   exact ⟨rfl,HF.out⟩
  | cons t A =>
   have hAN:=hV
   have hst : SeenT xs ks t:=hAI.seenA t (List.mem_cons_self)
   have hTt:=seen_isT hxs hst
   have hsz:=((isT_iff t).1 hTt).1
   obtain ⟨mT,mL,DT,DL,rv,hm⟩:=hV
   obtain ⟨cap,q1,q2,q3⟩:=hm.q none
   rcases q3 with ⟨_,q3,_⟩ | ⟨b,off,hsl,_,_,hcell,_⟩
   ·cases q3
   have q4:=hcell 0 (by simp [VS.row])
   have c0:=hm.c0
   rw [hsl] at c0
   obtain ⟨W1,hW1⟩ : ∃ W1,wr.drew.setCell ⟨p,0,none⟩ (.slice (if cap = 1 then some ⟨b,off,none⟩ else some ⟨b,off + 1,none⟩) A.length (cap - 1)) = W1:=⟨_,rfl⟩
   have hp:=(hm.below (Below.refl _ _).drew).pop hsl W1 hW1.symm
   have hv1:=hp.1
   have K1 : Keep X wr W1:=(Keep.ofBelow (Below.refl wr.heap.size wr).drew hm.xlt).trans hp.2
   have f0:=hm.f0
   have hA1 : (1 : Int) ≤ (A.length : Int) + 1:=by omega
   simp only [VS.row,List.length_cons,Nat.add_zero,List.getElem_cons_zero] at c0 q4 q1
   have hcap1 : 1 ≤ cap:=by omega
   clear hcell
   go_wp2_with fail
   refine wp_region_any (by kernel_rfl) ?_
   show wpAny _ _ _ _ _ _ _ wr.drew
   refine wpAny_ready (rs:=[0,1]) (by kernel_rfl) (by simp) ?_
   refine AllReady.cons (i:=0) rfl (fun K hK => ?_) (AllReady.cons (i:=1) rfl (fun K hK => ?_) AllReady.nil)
   ·
    go_simp
    refine hK _ _ ?_
    clear hK K
    try simp only [Act.put,pa,pb,pc]
    refine wpAny_ready (rs:=[1]) (by kernel_rfl) (by simp) ?_
    refine AllReady.cons (i:=1) rfl (fun K hK => ?_) AllReady.nil
    go_simp
    refine hK _ _ ?_
    clear hK K
    try simp only [Act.put,pa,pb,pc]
    refine Vw.take_any 2 18 (v:=?_) rfl rfl (by kernel_rfl) (by kernel_rfl) (by kernel_rfl) (fun _ _ _ h => h) (Or.inl ⟨by rfl,?_⟩) ?_
    rotate_left
    ·intro w'; go_simp; try with_reducible rfl
    try simp only [Act.put,pa,pb,pc]
    refine Vw.take_any 3 19 (v:=?_) rfl rfl (by kernel_rfl) (by kernel_rfl) (by kernel_rfl) (fun _ _ _ h => h) (Or.inl ⟨by rfl,?_⟩) ?_
    rotate_left
    ·intro w'; go_simp; try with_reducible rfl
    try simp only [Act.put,pa,pb,pc]
    refine wpAny_ready (rs:=[4]) (by kernel_rfl) (by simp) ?_
    refine AllReady.cons (i:=4) rfl (fun K hK => ?_) AllReady.nil
    go_simp
    refine hK _ _ ?_
    clear hK K
    try simp only [Act.put,pa,pb,pc]
    refine Vw.take_any 5 21 (v:=?_) rfl rfl (by kernel_rfl) (by kernel_rfl) (by kernel_rfl) (fun _ _ _ h => h) (Or.inl ⟨by rfl,?_⟩) ?_
    rotate_left
    ·intro w'; go_simp; try with_reducible rfl
    try simp only [Act.put,pa,pb,pc]
    refine Vw.take_any 6 22 (v:=?_) rfl rfl (by kernel_rfl) (by kernel_rfl) (by kernel_rfl) (fun _ _ _ h => h) (Or.inl ⟨by rfl,?_⟩) ?_
    rotate_left
    ·intro w'; go_simp; try with_reducible rfl
    try simp only [Act.put,pa,pb,pc]
    refine Vw.take_any 7 23 (v:=?_) rfl rfl (by kernel_rfl) (by kernel_rfl) (by kernel_rfl) (fun _ _ _ h => h) (Or.inl ⟨by rfl,?_⟩) ?_
    rotate_left
    ·intro w'; go_simp; try with_reducible rfl
    try simp only [Act.put,pa,pb,pc]
    refine wpAny_ready (rs:=[8]) (by kernel_rfl) (by simp) ?_
    refine AllReady.cons (i:=8) rfl (fun K hK => ?_) AllReady.nil
    go_simp
    try rw [hW1]
    refine hK _ _ ?_
    clear hK K
    refine wpAny_done (by kernel_rfl) ?_ _
    clear hW1
    have bx1:=(K1.cell hXb 0).trans hbx
    generalize (if cap = 1 then some (⟨b,off,none⟩ : Addr) else some ⟨b,off + 1,none⟩) = ad
    go_wp2_with fail
    refine (saw_is hv1 (t:=t) (by omega)).mono ?_
    rintro e w2 ⟨sb,rfl,hsb,hv2,hb2⟩
    have K2 : Keep X wr w2:=K1.trans (Keep.ofBelow hb2 hv1.xlt)
    have j2:=HJ.out _ _ _ hj K2
    cases sb with
    | true =>
     have hAI2:=hAI.pass (hsb.1 rfl)
     have hI2 : InvL X p N0 M xs ks kd0 J ((M - T.length) * (xs.length + 12 * M + 13) + A.length) w2:=⟨⟨A,T,F⟩,kd,Nn,hkd,hAI2,hv2,j2,hNn,rfl⟩
     have HI2 : Hid (InvL X p N0 M xs ks kd0 J ((M - T.length) * (xs.length + 12 * M + 13) + A.length) w2):=hI2
     clear hI2 hAI2 hAI hv2 hv1 hp hm hAN K1 K2 j2 hj hb2 hsb
     go_wp2
     go_roundw
     case rel => exact ⟨_,HI2.out⟩
     case measure =>
      have h1:=(GS.out _ _ HI2.out).2
      have h2:=HG.out
      simp only [List.length_cons] at h2
      rw [h2]
      omega
    | false =>
     have hnT : ¬ t ∈ T:=fun h => by have:=hsb.2 h; cases this
     obtain ⟨kd2,hkd2,hAI4⟩:=hAI.new hnT
     have hT4 : ((⟨A,T ++ [t],F⟩ : VS).follow t).T = T ++ [t]:=follow_T _ _
     have hlen4 : (T ++ [t]).length ≤ M:=by rw [← hT4]; exact Nat.le_trans (seen_len hAI4.nd hAI4.seenT) hM
     have htot:=fun k => hAI.tot [k] (by simp)
     have htot4:=hAI4.tot [] List.nodup_nil
     rw [hT4] at htot4
     obtain ⟨mT2,mL2,DT2,DL2,rv2,hm2⟩:=hv2
     have cT:=hm2.c1
     obtain ⟨w3,hrun3,hk3,hv3⟩:=hm2.see (by omega) (t:=t) (by omega)
     have hb3:=(hk3.cell (g:=bx) (hXb) 0).trans (HB.out _ _ j2)
     have H4:=follow_is hv3 (by omega) hTt (fun k => by have:=htot k; simp only [List.map_cons,List.map_nil,List.sum_cons,List.sum_nil,List.length_cons] at this; simp only [List.length_append,List.length_cons,List.length_nil] at hlen4; show A.length + (F k).2.length + 20 ≤ 8589934592; omega)
     have bx2:=HB.out _ _ j2
     have K3:=K2.trans hk3
     clear hm2 hv1 hp hm hAN K1 K2 hb2 hsb hv3 hk3
     go_wp2_with fail
     refine H4.mono ?_
     clear H4
     rintro e w4 ⟨rfl,hv4,hk4⟩
     have j4:=HJ.out _ _ _ hj (K3.trans hk4)
     obtain ⟨fn,tmps,assign,body,hy,hR⟩:=HY.out 8 T t w4 hst j4
     have bx4:=HB.out _ _ j4
     simp only []
     go_step
     go_step
     go_step
     go_step
     go_step
     refine (wpIn_wide (n:=9)).1 ?_
     gi_wp2_with fail
     refine hR.mono ?_
     rintro e w5 ⟨ho5,⟨rfl,hj5⟩ | ⟨rfl,hx5⟩⟩
     ·have hv5:=hv4.out ho5
      have hI5 : InvL X p N0 M xs ks kd0 J ((M - (T ++ [t]).length) * (xs.length + 12 * M + 13) + ((⟨A,T ++ [t],F⟩ : VS).follow t).A.length) w5:=⟨_,kd2,_,fun k hk => hkd2 k (hkd k hk),hAI4,hv5,by rw [hT4]; exact hj5,by rw [hT4]; simp only [List.length_append,List.length_cons,List.length_nil]; omega,by rw [hT4]⟩
      have HI5 : Hid (InvL X p N0 M xs ks kd0 J ((M - (T ++ [t]).length) * (xs.length + 12 * M + 13) + ((⟨A,T ++ [t],F⟩ : VS).follow t).A.length) w5):=hI5
      have HL : Hid (((⟨A,T ++ [t],F⟩ : VS).follow t).A.length < xs.length + 12 * M + 13):=by
       simp only [List.map_nil,List.sum_nil] at htot4
       show _ < _
       omega
      have HM : Hid (T.length + 1 ≤ M):=by have h9:=hlen4; simp only [List.length_append,List.length_cons,List.length_nil] at h9; exact h9
      clear hI5 hAI4 hAI hv5 hv4 hj5 hj j2 j4 ho5 hy hR K3 hk4 htot4 htot hlen4
      gi_wp2_with fail
      go_wp2
      go_roundw
      case rel => exact ⟨_,HI5.out⟩
      case measure =>
       refine Nat.lt_of_le_of_lt (GS.out _ _ HI5.out).2 ?_
       rw [HG.out]
       have:=meas_lt M T.length (xs.length + 12 * M + 13) (t :: A).length ((⟨A,T ++ [t],F⟩ : VS).follow t).A.length HM.out HL.out
       rw [List.length_append]
       exact this
     ·have hv5:=hv4.out ho5
      have HF : Hid (SeenPost X p xs ks kd0 J Jx w5):=Or.inr ⟨_,kd2,_,hAI4,hv5,by rw [hT4]; exact hx5⟩
      clear hAI4 hAI hv5 hv4 hx5 hj j2 j4 ho5 hy hR K3 hk4 htot4 htot hlen4
      gi_wp2_with fail
      go_wp2
      exact bodyPost_ret (results_none rfl _ _ _) rfl ⟨rfl,HF.out⟩
   ·
    go_simp
    refine hK _ _ ?_
    clear hK K
    try simp only [Act.put,pa,pb,pc]
    refine Vw.take_any 2 18 (v:=?_) rfl rfl (by kernel_rfl) (by kernel_rfl) (by kernel_rfl) (fun _ _ _ h => h) (Or.inl ⟨by rfl,?_⟩) ?_
    rotate_left
    ·intro w'; go_simp; try with_reducible rfl
    try simp only [Act.put,pa,pb,pc]
    refine Vw.take_any 3 19 (v:=?_) rfl rfl (by kernel_rfl) (by kernel_rfl) (by kernel_rfl) (fun _ _ _ h => h) (Or.inl ⟨by rfl,?_⟩) ?_
    rotate_left
    ·intro w'; go_simp; try with_reducible rfl
    try simp only [Act.put,pa,pb,pc]
    refine wpAny_ready (rs:=[0,4]) (by kernel_rfl) (by simp) ?_
    refine AllReady.cons (i:=0) rfl (fun K hK => ?_) (AllReady.cons (i:=4) rfl (fun K hK => ?_) AllReady.nil)
    ·
     go_simp
     refine hK _ _ ?_
     clear hK K
     try simp only [Act.put,pa,pb,pc]
     refine wpAny_ready (rs:=[4]) (by kernel_rfl) (by simp) ?_
     refine AllReady.cons (i:=4) rfl (fun K hK => ?_) AllReady.nil
     go_simp
     refine hK _ _ ?_
     clear hK K
     try simp only [Act.put,pa,pb,pc]
     refine Vw.take_any 5 21 (v:=?_) rfl rfl (by kernel_rfl) (by kernel_rfl) (by kernel_rfl) (fun _ _ _ h => h) (Or.inl ⟨by rfl,?_⟩) ?_
     rotate_left
     ·intro w'; go_simp; try with_reducible rfl
     try simp only [Act.put,pa,pb,pc]
     refine Vw.take_any 6 22 (v:=?_) rfl rfl (by kernel_rfl) (by kernel_rfl) (by kernel_rfl) (fun _ _ _ h => h) (Or.inl ⟨by rfl,?_⟩) ?_
     rotate_left
     ·intro w'; go_simp; try with_reducible rfl
     try simp only [Act.put,pa,pb,pc]
     refine Vw.take_any 7 23 (v:=?_) rfl rfl (by kernel_rfl) (by kernel_rfl) (by kernel_rfl) (fun _ _ _ h => h) (Or.inl ⟨by rfl,?_⟩) ?_
     rotate_left
     ·intro w'; go_simp; try with_reducible rfl
     try simp only [Act.put,pa,pb,pc]
     refine wpAny_ready (rs:=[8]) (by kernel_rfl) (by simp) ?_
     refine AllReady.cons (i:=8) rfl (fun K hK => ?_) AllReady.nil
     go_simp
     try rw [hW1]
     refine hK _ _ ?_
     clear hK K
     refine wpAny_done (by kernel_rfl) ?_ _
     clear hW1
     have bx1:=(K1.cell hXb 0).trans hbx
     generalize (if cap = 1 then some (⟨b,off,none⟩ : Addr) else some ⟨b,off + 1,none⟩) = ad
     go_wp2_with fail
     refine (saw_is hv1 (t:=t) (by omega)).mono ?_
     rintro e w2 ⟨sb,rfl,hsb,hv2,hb2⟩
     have K2 : Keep X wr w2:=K1.trans (Keep.ofBelow hb2 hv1.xlt)
     have j2:=HJ.out _ _ _ hj K2
     cases sb with
     | true =>
      have hAI2:=hAI.pass (hsb.1 rfl)
      have hI2 : InvL X p N0 M xs ks kd0 J ((M - T.length) * (xs.length + 12 * M + 13) + A.length) w2:=⟨⟨A,T,F⟩,kd,Nn,hkd,hAI2,hv2,j2,hNn,rfl⟩
      have HI2 : Hid (InvL X p N0 M xs ks kd0 J ((M - T.length) * (xs.length + 12 * M + 13) + A.length) w2):=hI2
      clear hI2 hAI2 hAI hv2 hv1 hp hm hAN K1 K2 j2 hj hb2 hsb
      go_wp2
      go_roundw
      case rel => exact ⟨_,HI2.out⟩
      case measure =>
       have h1:=(GS.out _ _ HI2.out).2
       have h2:=HG.out
       simp only [List.length_cons] at h2
       rw [h2]
       omega
     | false =>
      have hnT : ¬ t ∈ T:=fun h => by have:=hsb.2 h; cases this
      obtain ⟨kd2,hkd2,hAI4⟩:=hAI.new hnT
      have hT4 : ((⟨A,T ++ [t],F⟩ : VS).follow t).T = T ++ [t]:=follow_T _ _
      have hlen4 : (T ++ [t]).length ≤ M:=by rw [← hT4]; exact Nat.le_trans (seen_len hAI4.nd hAI4.seenT) hM
      have htot:=fun k => hAI.tot [k] (by simp)
      have htot4:=hAI4.tot [] List.nodup_nil
      rw [hT4] at htot4
      obtain ⟨mT2,mL2,DT2,DL2,rv2,hm2⟩:=hv2
      have cT:=hm2.c1
      obtain ⟨w3,hrun3,hk3,hv3⟩:=hm2.see (by omega) (t:=t) (by omega)
      have hb3:=(hk3.cell (g:=bx) (hXb) 0).trans (HB.out _ _ j2)
      have H4:=follow_is hv3 (by omega) hTt (fun k => by have:=htot k; simp only [List.map_cons,List.map_nil,List.sum_cons,List.sum_nil,List.length_cons] at this; simp only [List.length_append,List.length_cons,List.length_nil] at hlen4; show A.length + (F k).2.length + 20 ≤ 8589934592; omega)
      have bx2:=HB.out _ _ j2
      have K3:=K2.trans hk3
      clear hm2 hv1 hp hm hAN K1 K2 hb2 hsb hv3 hk3
      go_wp2_with fail
      refine H4.mono ?_
      clear H4
      rintro e w4 ⟨rfl,hv4,hk4⟩
      have j4:=HJ.out _ _ _ hj (K3.trans hk4)
      obtain ⟨fn,tmps,assign,body,hy,hR⟩:=HY.out 8 T t w4 hst j4
      have bx4:=HB.out _ _ j4
      simp only []
      go_step
      go_step
      go_step
      go_step
      go_step
      refine (wpIn_wide (n:=9)).1 ?_
      gi_wp2_with fail
      refine hR.mono ?_
      rintro e w5 ⟨ho5,⟨rfl,hj5⟩ | ⟨rfl,hx5⟩⟩
      ·have hv5:=hv4.out ho5
       have hI5 : InvL X p N0 M xs ks kd0 J ((M - (T ++ [t]).length) * (xs.length + 12 * M + 13) + ((⟨A,T ++ [t],F⟩ : VS).follow t).A.length) w5:=⟨_,kd2,_,fun k hk => hkd2 k (hkd k hk),hAI4,hv5,by rw [hT4]; exact hj5,by rw [hT4]; simp only [List.length_append,List.length_cons,List.length_nil]; omega,by rw [hT4]⟩
       have HI5 : Hid (InvL X p N0 M xs ks kd0 J ((M - (T ++ [t]).length) * (xs.length + 12 * M + 13) + ((⟨A,T ++ [t],F⟩ : VS).follow t).A.length) w5):=hI5
       have HL : Hid (((⟨A,T ++ [t],F⟩ : VS).follow t).A.length < xs.length + 12 * M + 13):=by
        simp only [List.map_nil,List.sum_nil] at htot4
        show _ < _
        omega
       have HM : Hid (T.length + 1 ≤ M):=by have h9:=hlen4; simp only [List.length_append,List.length_cons,List.length_nil] at h9; exact h9
       clear hI5 hAI4 hAI hv5 hv4 hj5 hj j2 j4 ho5 hy hR K3 hk4 htot4 htot hlen4
       gi_wp2_with fail
       go_wp2
       go_roundw
       case rel => exact ⟨_,HI5.out⟩
       case measure =>
        refine Nat.lt_of_le_of_lt (GS.out _ _ HI5.out).2 ?_
        rw [HG.out]
        have:=meas_lt M T.length (xs.length + 12 * M + 13) (t :: A).length ((⟨A,T ++ [t],F⟩ : VS).follow t).A.length HM.out HL.out
        rw [List.length_append]
        exact this
      ·have hv5:=hv4.out ho5
       have HF : Hid (SeenPost X p xs ks kd0 J Jx w5):=Or.inr ⟨_,kd2,_,hAI4,hv5,by rw [hT4]; exact hx5⟩
       clear hAI4 hAI hv5 hv4 hx5 hj j2 j4 ho5 hy hR K3 hk4 htot4 htot hlen4
       gi_wp2_with fail
       go_wp2
       exact bodyPost_ret (results_none rfl _ _ _) rfl ⟨rfl,HF.out⟩
    ·
     go_simp
     refine hK _ _ ?_
     clear hK K
     try simp only [Act.put,pa,pb,pc]
     refine Vw.take_any 5 21 (v:=?_) rfl rfl (by kernel_rfl) (by kernel_rfl) (by kernel_rfl) (fun _ _ _ h => h) (Or.inl ⟨by rfl,?_⟩) ?_
     rotate_left
     ·intro w'; go_simp; try with_reducible rfl
     try simp only [Act.put,pa,pb,pc]
     refine wpAny_ready (rs:=[0]) (by kernel_rfl) (by simp) ?_
     refine AllReady.cons (i:=0) rfl (fun K hK => ?_) AllReady.nil
     go_simp
     refine hK _ _ ?_
     clear hK K
     try simp only [Act.put,pa,pb,pc]
     refine Vw.take_any 6 22 (v:=?_) rfl rfl (by kernel_rfl) (by kernel_rfl) (by kernel_rfl) (fun _ _ _ h => h) (Or.inl ⟨by rfl,?_⟩) ?_
     rotate_left
     ·intro w'; go_simp; try with_reducible rfl
     try simp only [Act.put,pa,pb,pc]
     refine Vw.take_any 7 23 (v:=?_) rfl rfl (by kernel_rfl) (by kernel_rfl) (by kernel_rfl) (fun _ _ _ h => h) (Or.inl ⟨by rfl,?_⟩) ?_
     rotate_left
     ·intro w'; go_simp; try with_reducible rfl
     try simp only [Act.put,pa,pb,pc]
     refine wpAny_ready (rs:=[8]) (by kernel_rfl) (by simp) ?_
     refine AllReady.cons (i:=8) rfl (fun K hK => ?_) AllReady.nil
     go_simp
     try rw [hW1]
     refine hK _ _ ?_
     clear hK K
     refine wpAny_done (by kernel_rfl) ?_ _
     clear hW1
     have bx1:=(K1.cell hXb 0).trans hbx
     generalize (if cap = 1 then some (⟨b,off,none⟩ : Addr) else some ⟨b,off + 1,none⟩) = ad
     go_wp2_with fail
     refine (saw_is hv1 (t:=t) (by omega)).mono ?_
     rintro e w2 ⟨sb,rfl,hsb,hv2,hb2⟩
     have K2 : Keep X wr w2:=K1.trans (Keep.ofBelow hb2 hv1.xlt)
     have j2:=HJ.out _ _ _ hj K2
     cases sb with
     | true =>
      have hAI2:=hAI.pass (hsb.1 rfl)
      have hI2 : InvL X p N0 M xs ks kd0 J ((M - T.length) * (xs.length + 12 * M + 13) + A.length) w2:=⟨⟨A,T,F⟩,kd,Nn,hkd,hAI2,hv2,j2,hNn,rfl⟩
      have HI2 : Hid (InvL X p N0 M xs ks kd0 J ((M - T.length) * (xs.length + 12 * M + 13) + A.length) w2):=hI2
      clear hI2 hAI2 hAI hv2 hv1 hp hm hAN K1 K2 j2 hj hb2 hsb
      go_wp2
      go_roundw
      case rel => exact ⟨_,HI2.out⟩
      case measure =>
       have h1:=(GS.out _ _ HI2.out).2
       have h2:=HG.out
       simp only [List.length_cons] at h2
       rw [h2]
       omega
     | false =>
      have hnT : ¬ t ∈ T:=fun h => by have:=hsb.2 h; cases this
      obtain ⟨kd2,hkd2,hAI4⟩:=hAI.new hnT
      have hT4 : ((⟨A,T ++ [t],F⟩ : VS).follow t).T = T ++ [t]:=follow_T _ _
      have hlen4 : (T ++ [t]).length ≤ M:=by rw [← hT4]; exact Nat.le_trans (seen_len hAI4.nd hAI4.seenT) hM
      have htot:=fun k => hAI.tot [k] (by simp)
      have htot4:=hAI4.tot [] List.nodup_nil
      rw [hT4] at htot4
      obtain ⟨mT2,mL2,DT2,DL2,rv2,hm2⟩:=hv2
      have cT:=hm2.c1
      obtain ⟨w3,hrun3,hk3,hv3⟩:=hm2.see (by omega) (t:=t) (by omega)
      have hb3:=(hk3.cell (g:=bx) (hXb) 0).trans (HB.out _ _ j2)
      have H4:=follow_is hv3 (by omega) hTt (fun k => by have:=htot k; simp only [List.map_cons,List.map_nil,List.sum_cons,List.sum_nil,List.length_cons] at this; simp only [List.length_append,List.length_cons,List.length_nil] at hlen4; show A.length + (F k).2.length + 20 ≤ 8589934592; omega)
      have bx2:=HB.out _ _ j2
      have K3:=K2.trans hk3
      clear hm2 hv1 hp hm hAN K1 K2 hb2 hsb hv3 hk3
      go_wp2_with fail
      refine H4.mono ?_
      clear H4
      rintro e w4 ⟨rfl,hv4,hk4⟩
      have j4:=HJ.out _ _ _ hj (K3.trans hk4)
      obtain ⟨fn,tmps,assign,body,hy,hR⟩:=HY.out 8 T t w4 hst j4
      have bx4:=HB.out _ _ j4
      simp only []
      go_step
      go_step
      go_step
      go_step
      go_step
      refine (wpIn_wide (n:=9)).1 ?_
      gi_wp2_with fail
      refine hR.mono ?_
      rintro e w5 ⟨ho5,⟨rfl,hj5⟩ | ⟨rfl,hx5⟩⟩
      ·have hv5:=hv4.out ho5
       have hI5 : InvL X p N0 M xs ks kd0 J ((M - (T ++ [t]).length) * (xs.length + 12 * M + 13) + ((⟨A,T ++ [t],F⟩ : VS).follow t).A.length) w5:=⟨_,kd2,_,fun k hk => hkd2 k (hkd k hk),hAI4,hv5,by rw [hT4]; exact hj5,by rw [hT4]; simp only [List.length_append,List.length_cons,List.length_nil]; omega,by rw [hT4]⟩
       have HI5 : Hid (InvL X p N0 M xs ks kd0 J ((M - (T ++ [t]).length) * (xs.length + 12 * M + 13) + ((⟨A,T ++ [t],F⟩ : VS).follow t).A.length) w5):=hI5
       have HL : Hid (((⟨A,T ++ [t],F⟩ : VS).follow t).A.length < xs.length + 12 * M + 13):=by
        simp only [List.map_nil,List.sum_nil] at htot4
        show _ < _
        omega
       have HM : Hid (T.length + 1 ≤ M):=by have h9:=hlen4; simp only [List.length_append,List.length_cons,List.length_nil] at h9; exact h9
       clear hI5 hAI4 hAI hv5 hv4 hj5 hj j2 j4 ho5 hy hR K3 hk4 htot4 htot hlen4
       gi_wp2_with fail
       go_wp2
       go_roundw
       case rel => exact ⟨_,HI5.out⟩
       case measure =>
        refine Nat.lt_of_le_of_lt (GS.out _ _ HI5.out).2 ?_
        rw [HG.out]
        have:=meas_lt M T.length (xs.length + 12 * M + 13) (t :: A).length ((⟨A,T ++ [t],F⟩ : VS).follow t).A.length HM.out HL.out
        rw [List.length_append]
        exact this
      ·have hv5:=hv4.out ho5
       have HF : Hid (SeenPost X p xs ks kd0 J Jx w5):=Or.inr ⟨_,kd2,_,hAI4,hv5,by rw [hT4]; exact hx5⟩
       clear hAI4 hAI hv5 hv4 hx5 hj j2 j4 ho5 hy hR K3 hk4 htot4 htot hlen4
       gi_wp2_with fail
       go_wp2
       exact bodyPost_ret (results_none rfl _ _ _) rfl ⟨rfl,HF.out⟩
set_option linter.unusedVariables false
end Go.Proofs.YtlmpfkbgknbcnaaGreat.Kn
namespace Go.Proofs.YtlmpfkbgknbcnaaGreat.Kn
open Go.RowKit Var Term
attribute [local go_sem] Oper.semAt_some
theorem Keep.putObj {X : Nat → Prop} {w : World} {l : Nat} (o : Obj) (hl : ¬ X l) : Keep X w (w.putObj l o) :=
 ⟨rfl,rfl,rfl,by simp [World.putObj],fun k hk => World.putObj_heap_other (fun e => hl (e ▸ hk))⟩
theorem Out.putObj {X : Nat → Prop} {w : World} {l : Nat} (o : Obj) (hl : X l) : Out X w (w.putObj l o) :=
 ⟨by simp [World.putObj],fun k _ hk => World.putObj_heap_other (fun e => hk (e ▸ hl))⟩
theorem Out.trans {X : Nat → Prop} {a b c : World} (h : Out X a b) (k : Out X b c) : Out X a c :=
 ⟨Nat.le_trans h.size k.size,fun i hi hx => (k.block i (Nat.lt_of_lt_of_le hi h.size) hx).trans (h.block i hi hx)⟩
theorem Out.mono {X Y : Nat → Prop} {a b : World} (h : Out X a b) (hy : ∀ k,X k → Y k) : Out Y a b:=⟨h.size,fun i hi hx => h.block i hi (fun e => hx (hy i e))⟩
/-- How a round may be left: by its end, or by 'return'. -/
def RPost (X : Nat → Prop) (l D : Nat) (I Ix : List ByteArray → World → Prop) (pre : List ByteArray) (Wb : World) : Exit → Act → World → Prop
 | .normal,_,W' => Out X Wb W' ∧ (∀ k,k = l ∨ k = D → W'.heap[k]? = Wb.heap[k]?) ∧ I pre W'
 | .ret,_,W' => Out X Wb W' ∧ (∀ k,k = l ∨ k = D → W'.heap[k]? = Wb.heap[k]?) ∧ Ix pre W'
 | _,_,_ => False
theorem range_seen {X : Nat → Prop} {p bx N0 M n : Nat} {xs : List ByteArray} {ks kd0 : List Int} {s0 : VS} {g : Operand} {q : Tmp} {assign body : Code} {Q : Exit → Act → World → Prop} {a : Act} {w : World}
  (hg : a.eval g = .func (.func 183) #[] #[.pointer (some ⟨bx,0,none⟩)]) (hn : 3 ≤ n)
  (hxs : ∀ x,x ∈ xs → isT x = true) (hM : (allInf xs).length ≤ M) (hM2 : M ≤ 50000000) (hx60 : xs.length ≤ 60) (hN0 : N0 ≤ 1000000) (hXb : X bx) (hT0 : s0.T = []) (h0 : AI xs ks kd0 s0) (hv : ViewAt X p N0 s0 w)
  (I Ix : List ByteArray → World → Prop) (hI : ∀ pre W W',I pre W → Keep X W W' → I pre W') (hIx : ∀ pre W W',Ix pre W → Keep X W W' → Ix pre W') (hIb : ∀ pre W,I pre W → W.cell? ⟨bx,0,none⟩ = some (.pointer (some ⟨p,0,none⟩))) (hi0 : I [] w)
  (hround : ∀ (l D : Nat) (pre : List ByteArray) (x : ByteArray) (W : World),SeenT xs ks x → I pre W → ¬ X l → ¬ X D → (∀ k,X k → k < W.heap.size) →
   assign.wpIn (Fence.wide.inRound l) (n - 1 - 1) Tryz.prog (Exit.then (fun a₁ w₁ => w₁ = W ∧ ∀ Wb,I pre Wb → (∀ k,X k → k < Wb.heap.size) → body.wpIn (Fence.wide.inRound l) (n - 1 - 1) Tryz.prog (RPost X l D I Ix (pre ++ [x]) Wb) a₁ Wb) (fun _ _ _ => False)) { tmps:=a.tmps.setIfInBounds q (.string x),defers:=[] } W)
  (hdone : ∀ (D : Nat) T F kd N W,w.heap.size ≤ D → (∀ k,k ∈ kd0 → k ∈ kd) → AI xs ks kd ⟨[],T,F⟩ → ViewAt (fun k => X k ∨ k = D) p N ⟨[],T,F⟩ W → I T W → W.heap[D]? = some (.deferred (some [])) → Q .normal { a with defers:={ target:=.collected D,args:=#[] } :: a.defers } W)
  (hstop : ∀ (D : Nat) s kd N W,w.heap.size ≤ D → AI xs ks kd s → ViewAt (fun k => X k ∨ k = D) p N s W → Ix s.T W → W.heap[D]? = some (.deferred (some [])) → Code.ret.wpIn Fence.wide n Tryz.prog Q { a with defers:={ target:=.collected D,args:=#[] } :: a.defers } W) :
  (Code.rangeFunc g #[q] assign body).wpIn Fence.wide n Tryz.prog Q a w:=by
 have eg : ∀ args w,(callFunc 183 args).run Tryz.prog w = .ok (.enter 183 args) w:=enters_of Tryz.func183 (by kernel_rfl) rfl
 refine wpIn_rangeFunc ?_
 intro fn hfn
 obtain ⟨rec,hrec⟩ : ∃ rec : LoopState → Option Code → Loop,rec = fun st pe => { state:=st,pending:=pe,fn,tmps:=a.tmps,params:=#[q],assign,body,defers:=w.heap.size }:=⟨_,rfl⟩
 obtain ⟨W1,hW1⟩ : ∃ W1,(w.alloc (.deferred (some []))).alloc (.loop (rec .ready none)) = W1:=⟨_,rfl⟩
 have hL1 : W1.heap[w.heap.size + 1]? = some (.loop (rec .ready none)):=by
  rw [← hW1]; have:=World.alloc_heap_new (w.alloc (.deferred (some []))) (.loop (rec .ready none)); rwa [World.size_alloc] at this
 have hK1 : W1.heap[w.heap.size]? = some (.deferred (some [])):=by
  rw [← hW1]; exact (Below.heap_alloc _ _ _ (by simp)).trans (World.alloc_heap_new w _)
 have hB1 : Below w.heap.size w W1:=by rw [← hW1]; exact ((Below.refl _ w).alloc (Nat.le_refl _) _).alloc (by simp) _
 have hI1 : I [] W1:=hI _ _ _ hi0 (Keep.ofBelow hB1 hv.xlt)
 have nl : ¬ X (w.heap.size + 1):=fun h => by have:=hv.xlt _ h; omega
 have nD : ¬ X w.heap.size:=fun h => by have:=hv.xlt _ h; omega
 have hV1 : ViewAt (fun k => X k ∨ k = w.heap.size ∨ k = w.heap.size + 1) p N0 s0 W1:=by
  have:=(hv.apart (.deferred (some []))).apart (.loop (rec .ready none))
  rw [hW1] at this
  refine this.less (fun k hk => ?_)
  rcases hk with h | h | h
  ·exact Or.inl (Or.inl h)
  ·exact Or.inl (Or.inr h)
  ·exact Or.inr (by rw [World.size_alloc]; exact h)
 refine ⟨w.heap.size + 1,[{ target:=.collected w.heap.size,args:=#[] }],W1,{ target:=.fn (.func 183) #[.pointer (some ⟨bx,0,none⟩)],args:=#[.func (.yield (w.heap.size + 1)) #[] #[]] },W1,183,
  #[.func (.yield (w.heap.size + 1)) #[] #[]] ++ #[.pointer (some ⟨bx,0,none⟩)],W1,?_,?_,?_,?_,fun _ => by omega,?_⟩
 ·rw [← hW1,hrec]; exact run_enterLoop_outer _ _ _ _ _
 ·simp only [resolve,hg]
  simp [go_sem]
 ·intro f' hf'; trivial
 ·simp [invoke,go_sem,eg]
 ·refine callsIn_wide.2 ?_
  refine (seen_iter (X:=fun k => X k ∨ k = w.heap.size ∨ k = w.heap.size + 1) (l:=w.heap.size + 1) (bx:=bx) (M:=M) (xs:=xs) (ks:=ks) (kd0:=kd0)
   (fun pre W => I pre W ∧ W.heap[w.heap.size + 1]? = some (.loop (rec .ready none)) ∧ W.heap[w.heap.size]? = some (.deferred (some [])))
   (fun pre W => Ix pre W ∧ W.heap[w.heap.size + 1]? = some (.loop (rec .done (some .ret))) ∧ W.heap[w.heap.size]? = some (.deferred (some [])))
   hxs hM hM2 hx60 hN0 (Or.inl hXb) ?_ (fun pre W h => hIb pre W h.1) ?_ W1 s0 hT0 h0 hV1 ⟨hI1,hL1,hK1⟩).mono ?_
  ·intro pre W W' h hk
   exact ⟨hI _ _ _ h.1 (hk.mono (fun k hk => Or.inl hk)),(hk.block _ (Or.inr (Or.inr rfl))).trans h.2.1,(hk.block _ (Or.inr (Or.inl rfl))).trans h.2.2⟩
  ·intro m pre x W hst ⟨hi,hl,hk⟩
   have hlt : w.heap.size + 1 < W.heap.size:=(Array.getElem?_eq_some_iff.1 hl).1
   have hlD : w.heap.size < W.heap.size:=by omega
   have hxW : ∀ k,X k → k < W.heap.size:=fun k hk => by have:=hv.xlt k hk; omega
   have hy:=run_yield (P:=Tryz.prog) (args:=#[.string x]) hl (by rw [hrec]; rfl)
   rw [hrec] at hy
   have et : ((#[q] : Array Tmp).zip #[Value.string x]).foldl (fun t (p,v) => t.setIfInBounds p v) a.tmps = a.tmps.setIfInBounds q (.string x):=by simp
   simp only [et] at hy
   refine ⟨fn,_,assign,body,hy,?_⟩
   have HR:=hround (w.heap.size + 1) w.heap.size pre x W hst hi nl nD hxW
   have HR2 : RoundIn Fence.wide (n - 1 - 1) Tryz.prog (w.heap.size + 1) fn (a.tmps.setIfInBounds q (.string x)) assign body W fun e W' => Out (fun k => X k ∨ k = w.heap.size ∨ k = w.heap.size + 1) W W' ∧
     ((e = .returned (.bool true) ∧ (I (pre ++ [x]) W' ∧ W'.heap[w.heap.size + 1]? = some (.loop (rec .ready none)) ∧ W'.heap[w.heap.size]? = some (.deferred (some [])))) ∨ (e = .returned (.bool false) ∧ (Ix (pre ++ [x]) W' ∧ W'.heap[w.heap.size + 1]? = some (.loop (rec .done (some .ret))) ∧ W'.heap[w.heap.size]? = some (.deferred (some []))))):=by
    refine roundIn_of_wpIn trivial (wpIn_mono HR ?_)
    intro e a1 w1 h1
    cases e with
    | normal =>
     obtain ⟨rfl,hb⟩:=h1
     refine ⟨_,run_beginRound hl (by rw [hrec]),?_⟩
     have hl2 : (w1.putObj (w.heap.size + 1) (.loop { rec .ready none with state:=.busy })).heap[w.heap.size + 1]? = some (.loop { rec .ready none with state:=.busy }):=World.putObj_heap_same hlt
     have hk2 : (w1.putObj (w.heap.size + 1) (.loop { rec .ready none with state:=.busy })).heap[w.heap.size]? = some (.deferred (some [])):=(World.putObj_heap_other (by omega)).trans hk
     have hsz2 : (w1.putObj (w.heap.size + 1) (.loop { rec .ready none with state:=.busy })).heap.size = w1.heap.size:=by simp [World.putObj]
     have hB:=hb (w1.putObj (w.heap.size + 1) (.loop { rec .ready none with state:=.busy })) (hI _ _ _ hi (Keep.putObj _ nl)) (fun k hk => by rw [hsz2]; exact hxW k hk)
     refine wpIn_mono hB ?_
     intro e3 a3 W3 hp
     have fin : ∀ (jump : Option Code),Out X (w1.putObj (w.heap.size + 1) (.loop { rec .ready none with state:=.busy })) W3 → (∀ k,k = w.heap.size + 1 ∨ k = w.heap.size → W3.heap[k]? = (w1.putObj (w.heap.size + 1) (.loop { rec .ready none with state:=.busy })).heap[k]?) →
       (Instr.endRound (w.heap.size + 1) jump).run Tryz.prog W3 = .ok (.bool jump.isNone) (W3.putObj (w.heap.size + 1) (.loop (rec (if jump.isNone then .ready else .done) jump))) ∧
       Out (fun k => X k ∨ k = w.heap.size ∨ k = w.heap.size + 1) w1 (W3.putObj (w.heap.size + 1) (.loop (rec (if jump.isNone then .ready else .done) jump))) ∧
       (W3.putObj (w.heap.size + 1) (.loop (rec (if jump.isNone then .ready else .done) jump))).heap[w.heap.size + 1]? = some (.loop (rec (if jump.isNone then .ready else .done) jump)) ∧
       (W3.putObj (w.heap.size + 1) (.loop (rec (if jump.isNone then .ready else .done) jump))).heap[w.heap.size]? = some (.deferred (some [])):=by
      intro jump ho hsame
      have hl3:=(hsame _ (Or.inl rfl)).trans hl2
      have hk3:=(hsame _ (Or.inr rfl)).trans hk2
      have hr:=run_endRound (P:=Tryz.prog) jump hl3
      refine ⟨by rw [hrec] at hr ⊢; exact hr,?_,World.putObj_heap_same (Array.getElem?_eq_some_iff.1 hl3).1,(World.putObj_heap_other (by omega)).trans hk3⟩
      exact (Out.putObj _ (Or.inr (Or.inr rfl))).trans ((ho.mono (fun k hk => Or.inl hk)).trans (Out.putObj _ (Or.inr (Or.inr rfl))))
     cases e3 with
     | normal =>
      obtain ⟨ho,hsame,hi3⟩:=hp
      obtain ⟨hr,ho4,hl4,hk4⟩:=fin none ho hsame
      exact ⟨_,_,hr,ho4,Or.inl ⟨rfl,hI _ _ _ hi3 (Keep.putObj _ nl),hl4,hk4⟩⟩
     | ret =>
      obtain ⟨ho,hsame,hi3⟩:=hp
      obtain ⟨hr,ho4,hl4,hk4⟩:=fin (some .ret) ho hsame
      exact ⟨_,_,hr,ho4,Or.inr ⟨rfl,hIx _ _ _ hi3 (Keep.putObj _ nl),hl4,hk4⟩⟩
     | exit id => exact hp.elim
     | goto t => exact hp.elim
     | panic ch => exact hp.elim
     | outgrown => exact hp.elim
    | ret => exact h1
    | exit id => exact h1
    | goto t => exact h1
    | panic ch => exact h1
    | outgrown => exact h1
   exact ⟨HR2.1,fun c cs _ => HR2.2 c cs (room_wide _)⟩
  ·rintro e W2 ⟨rfl,hpost⟩
   rcases hpost with ⟨T,F,kd,N,hkd,hAI,hV,hi,hl,hk⟩ | ⟨s,kd,N,hAI,hV,hi,hl,hk⟩
   ·have hV2 : ViewAt (fun k => X k ∨ k = w.heap.size) p N ⟨[],T,F⟩ (W2.putObj (w.heap.size + 1) (.loop { rec .ready none with state:=.exhausted })):=(hV.out (Out.putObj _ (Or.inr (Or.inr rfl)))).less (fun k hk => hk.elim Or.inl (fun h => Or.inr (Or.inl h)))
    exact ⟨none,_,by have:=run_endLoop (P:=Tryz.prog) hl (by rw [hrec]; simp); rw [hrec] at this ⊢; exact this,hdone _ T F kd N _ (Nat.le_refl _) hkd hAI hV2 (hI _ _ _ hi (Keep.putObj _ nl)) ((World.putObj_heap_other (by omega)).trans hk)⟩
   ·have hV2 : ViewAt (fun k => X k ∨ k = w.heap.size) p N s (W2.putObj (w.heap.size + 1) (.loop { rec .done (some .ret) with state:=.exhausted })):=(hV.out (Out.putObj _ (Or.inr (Or.inr rfl)))).less (fun k hk => hk.elim Or.inl (fun h => Or.inr (Or.inl h)))
    exact ⟨some .ret,_,by have:=run_endLoop (P:=Tryz.prog) hl (by rw [hrec]; simp); rw [hrec] at this ⊢; exact this,hstop _ s kd N _ (Nat.le_refl _) hAI hV2 (hIx _ _ _ hi (Keep.putObj _ nl)) ((World.putObj_heap_other (by omega)).trans hk)⟩
set_option linter.unusedVariables false
end Go.Proofs.YtlmpfkbgknbcnaaGreat.Kn
namespace Go.Proofs.YtlmpfkbgknbcnaaGreat.Kn
open Go.RowKit Var Term
attribute [local go_sem] Oper.semAt_some
theorem seen79 (p : Nat) (w : World) : Calls Tryz.prog 145 #[.pointer (some ⟨p,0,none⟩)] w fun e w' => e = .returned (.func (.func 183) #[] #[.pointer (some ⟨w.heap.size,0,none⟩)]) ∧ w' = w.alloc (.cells #[.pointer (some ⟨p,0,none⟩)] 159):=by
 have hmf : ∀ (fn : Fn) (first cap : Array Value) (w : World),(Instr.makeFunc fn first cap).run Tryz.prog w = .ok (.func fn first cap) w:=fun _ _ _ _ => rfl
 go_enter Tryz.func145,Tryz.ntmps145
 go_wp2
 go_ret
 exact ⟨rfl,rfl⟩
theorem Out.refl (X : Nat → Prop) (w : World) : Out X w w:=⟨Nat.le_refl _,fun _ _ _ => rfl⟩
set_option maxRecDepth 100000 in
set_option maxHeartbeats 3200000 in
theorem seeAll_is {X : Nat → Prop} {p N0 M : Nat} {xs : List ByteArray} {ks kd0 : List Int} {s0 : VS} {w : World} (hxs : ∀ x,x ∈ xs → isT x = true) (hM : (allInf xs).length ≤ M) (hM2 : M ≤ 50000000) (hx60 : xs.length ≤ 60) (hN0 : N0 ≤ 1000000) (hT0 : s0.T = []) (h0 : AI xs ks kd0 s0) (hv : ViewAt X p N0 s0 w) :
  Calls Tryz.prog 100 #[.pointer (some ⟨p,0,none⟩)] w fun e w' => e = .returned (.tuple #[]) ∧ ∃ T F kd N,(∀ k,k ∈ kd0 → k ∈ kd) ∧ AI xs ks kd ⟨[],T,F⟩ ∧ ViewAt X p N ⟨[],T,F⟩ w' ∧ Keep X w w':=by
 obtain ⟨W1,hW1⟩ : ∃ W1,w.alloc (.cells #[.pointer (some ⟨p,0,none⟩)] 159) = W1:=⟨_,rfl⟩
 have hb1 : Below w.heap.size w W1:=by rw [← hW1]; exact (Below.refl _ _).alloc (Nat.le_refl _) _
 have hc1 : W1.cell? ⟨w.heap.size,0,none⟩ = some (.pointer (some ⟨p,0,none⟩)):=by rw [← hW1]; simp [go_sem]
 have hv1 : ViewAt (fun k => X k ∨ k = w.heap.size) p N0 s0 W1:=by rw [← hW1]; exact hv.apart _
 have hk1 : Keep X w W1:=Keep.ofBelow hb1 hv.xlt
 refine (callsIn_wide (n:=9)).1 ?_
 refine callsIn_of_wp_marks Tryz.func100 rfl trivial ?_ rfl
 simp only [Tryz.ntmps100,List.size_toArray,List.length_cons,List.length_nil,Nat.reduceAdd,Nat.reduceSub,Array.replicate_succ,Array.replicate_zero,List.push_toArray,List.append_toArray,List.nil_append,List.cons_append]
 gi_wp2_with (refine ⟨trivial,?_⟩; gi_at_call 145; refine (callsIn_wide.2 (seen79 p w)).mono ?_; rintro e w' ⟨rfl,rfl⟩)
 try rw [hW1]
 refine range_seen (X:=fun k => X k ∨ k = w.heap.size) (p:=p) (bx:=w.heap.size) (N0:=N0) (M:=M) (xs:=xs) (ks:=ks) (kd0:=kd0) (s0:=s0) rfl (by omega) hxs hM hM2 hx60 hN0 (Or.inr rfl) hT0 h0 hv1
  (fun pre W => Keep X w W ∧ W.cell? ⟨w.heap.size,0,none⟩ = some (.pointer (some ⟨p,0,none⟩))) (fun _ _ => False)
  (fun pre W W' h hk => ⟨h.1.trans (hk.mono (fun k hk => Or.inl hk)),(hk.cell (Or.inr rfl) 0).trans h.2⟩) (fun _ _ _ h _ => h) (fun pre W h => h.2) ⟨hk1,hc1⟩ ?round ?done ?stop
 case round =>
  intro l D pre x W hst hi nl nD hx
  refine wpIn_skip ?_
  refine ⟨rfl,fun Wb hb hxb => ?_⟩
  refine wpIn_block (wpIn_skip ?_)
  exact ⟨Out.refl _ _,fun _ _ => rfl,hb⟩
 case done =>
  intro D T F kd N W hD hkd hAI hV hi hK
  have hDX : ¬ X D:=fun h => by have:=hv.xlt D h; have:=hb1.size; omega
  have HP : Hid (∃ T F kd N,(∀ k,k ∈ kd0 → k ∈ kd) ∧ AI xs ks kd ⟨[],T,F⟩ ∧ ViewAt X p N ⟨[],T,F⟩ (W.putObj D (.deferred none)) ∧ Keep X w (W.putObj D (.deferred none))) :=
   ⟨T,F,kd,N,hkd,hAI,(hV.out (Out.putObj _ (Or.inr rfl))).less (fun k hk => Or.inl (Or.inl hk)),hi.1.trans (Keep.putObj _ hDX)⟩
  clear hAI hV hi
  gi_wp2
  refine ⟨by simp,.inl ⟨_,_,rfl,run_takeDeferred hK,?_⟩⟩
  exact ⟨_,results_none rfl _ _ _,rfl,HP.out⟩
 case stop =>
  intro D s kd N W _ _ _ h _
  exact h.elim
set_option linter.unusedVariables false
end Go.Proofs.YtlmpfkbgknbcnaaGreat.Kn
namespace Go.Proofs.YtlmpfkbgknbcnaaGreat.Kn
open Go.RowKit Var Term
end Go.Proofs.YtlmpfkbgknbcnaaGreat.Kn
