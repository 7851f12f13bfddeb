/- Keys that rise, with one more: the model. -/
import Derived.Test.YtlmpfkbgknbcnaaGreatAb
import Derived.Test.YtlmpfkbgknbcnaaGreatKView4
import Derived.Test.YtlmpfkbgknbcnaaGreatKnow3
set_option linter.unusedVariables false
namespace Go.Proofs.YtlmpfkbgknbcnaaGreat.Kn
open Go.RowKit _root_.Go.Proofs.YtlmpfkbgknbcnaaGreat.Own Var Term
/-- x ahead of the first that is greater. -/
def putL : List Int → Int → List Int
 | [],x => [x]
 | y :: r,x => if x < y then x :: y :: r else y :: putL r x
/-- Is x among the numbers? -/
def hasB (ks : List Int) (x : Int) : Bool:=ks.contains x
theorem hasB_iff (ks : List Int) (x : Int) : hasB ks x = true ↔ x ∈ ks:=by unfold hasB; exact List.contains_iff_mem
theorem hasB_no {ks : List Int} {x : Int} (h : ¬ x ∈ ks) : hasB ks x = false:=by
 rw [Bool.eq_false_iff]; intro hh; exact h ((hasB_iff ks x).1 hh)
/-- With x in its place, unless it is there. -/
def putI (ks : List Int) (x : Int) : List Int:=if hasB ks x = true then ks else putL ks x
theorem putL_len (ks : List Int) (x : Int) : (putL ks x).length = ks.length + 1:=by
 induction ks with
 | nil => rfl
 | cons y r ih => rw [putL]; split <;> simp [ih]
theorem putI_len (ks : List Int) (x : Int) : (putI ks x).length ≤ ks.length + 1:=by
 unfold putI; split
 ·omega
 ·rw [putL_len]; omega
theorem putL_pass {y : Int} {r : List Int} {x : Int} (h : ¬ x < y) : putL (y :: r) x = y :: putL r x:=by rw [putL,if_neg h]
theorem putL_stop {y : Int} {r : List Int} {x : Int} (h : x < y) : putL (y :: r) x = x :: y :: r:=by rw [putL,if_pos h]
set_option maxRecDepth 100000 in
set_option maxHeartbeats 800000 in
theorem l3Has_is (a : Option Addr) (cap : Nat) (ks : List Int) (x : Int) (w : World) (hr : RowAt (Value.int .i64) w a ks) (hl : ks.length ≤ 1048576) :
  Calls Tryz.prog 52 #[.slice a ks.length cap,I x] w fun e w' => e = .returned (.bool (hasB ks x)) ∧ w = w':=by
 go_enter Tryz.func52,Tryz.ntmps52
 go_wp2
 go_loop [5] (fun i => ∃ k : Nat,k ≤ ks.length ∧ i = I k ∧ Hid (¬ x ∈ ks.take k)) (fun i => ks.length - (intOf i).toNat)
 case atStart => exact ⟨0,by omega,rfl,by simp [Hid]⟩
 case round =>
  obtain ⟨k,hk,rfl,hx⟩:=hrel
  by_cases hlt : k < ks.length
  ·obtain ⟨b1,o1,rfl,l1,hc1⟩:=hr k hlt
   have HM : Hid (x ∈ ks.take (k + 1) ↔ x ∈ ks.take k ∨ x = ks[k]):=mem_take_succ hlt x
   have HI : Hid (ks[k] ∈ ks):=List.getElem_mem hlt
   generalize ks[k] = y at hc1 HM HI
   by_cases he : y = x
   ·subst he
    have hT : hasB ks y = true:=(hasB_iff _ _).2 HI.out
    go_wp2
    all_goals
     go_ret
     exact ⟨by first | rfl | (rw [hT]; rfl),rfl⟩
   ·have hd : (y == x) = false:=by simpa using he
    have HN : Hid (¬ x ∈ ks.take (k + 1)):=by
     intro h
     rcases HM.out.1 h with h | h
     ·exact hx.out h
     ·exact he h.symm
    go_wp2
    go_round
    case rel => exact ⟨k + 1,by omega,by go_num,HN⟩
    case measure => simp [intOf]; omega
  ·have hF : hasB ks x = false:=by have:=hx.out; rw [List.take_of_length_le (by omega)] at this; exact hasB_no this
   go_wp2
   go_ret
   exact ⟨by first | rfl | (rw [hF]; rfl),rfl⟩
/-- How far the model's loop has come: what is out so far, and has x been put? -/
def PutAt (ks : List Int) (x : Int) (k : Nat) (out : List Int) (p : Bool) : Prop :=
 (p = false ∧ out = ks.take k ∧ putL ks x = ks.take k ++ putL (ks.drop k) x) ∨ (p = true ∧ out ++ ks.drop k = putL ks x)
theorem PutAt.start (ks : List Int) (x : Int) : PutAt ks x 0 [] false:=Or.inl ⟨rfl,rfl,rfl⟩
theorem drop_at {ks : List Int} {k : Nat} (h : k < ks.length) : ks.drop k = ks[k] :: ks.drop (k + 1):=List.drop_eq_getElem_cons h
theorem PutAt.pass {ks : List Int} {x : Int} {k : Nat} {out : List Int} (h : k < ks.length) (hx : ¬ x < ks[k]) (H : PutAt ks x k out false) : PutAt ks x (k + 1) (out ++ [ks[k]]) false:=by
 rcases H with ⟨_,rfl,e⟩ | ⟨c,_⟩
 ·refine Or.inl ⟨rfl,(List.take_succ_eq_append_getElem h).symm,?_⟩
  rw [e,drop_at h,putL_pass hx,List.take_succ_eq_append_getElem h,List.append_assoc]
  rfl
 ·cases c
theorem PutAt.put {ks : List Int} {x : Int} {k : Nat} {out : List Int} (h : k < ks.length) (hx : x < ks[k]) (H : PutAt ks x k out false) : PutAt ks x (k + 1) (out ++ [x] ++ [ks[k]]) true:=by
 rcases H with ⟨_,rfl,e⟩ | ⟨c,_⟩
 ·refine Or.inr ⟨rfl,?_⟩
  rw [e,drop_at h,putL_stop hx]
  simp
 ·cases c
theorem PutAt.on {ks : List Int} {x : Int} {k : Nat} {out : List Int} (h : k < ks.length) (H : PutAt ks x k out true) : PutAt ks x (k + 1) (out ++ [ks[k]]) true:=by
 rcases H with ⟨c,_⟩ | ⟨_,e⟩
 ·cases c
 ·refine Or.inr ⟨rfl,?_⟩
  rw [← e,drop_at h]
  simp
theorem PutAt.done {ks : List Int} {x : Int} {k : Nat} {out : List Int} (h : ks.length ≤ k) (H : PutAt ks x k out true) : out = putL ks x:=by
 rcases H with ⟨c,_⟩ | ⟨_,e⟩
 ·cases c
 ·rw [← e,List.drop_of_length_le h,List.append_nil]
theorem PutAt.last {ks : List Int} {x : Int} {k : Nat} {out : List Int} (h : ks.length ≤ k) (H : PutAt ks x k out false) : out ++ [x] = putL ks x:=by
 rcases H with ⟨_,rfl,e⟩ | ⟨c,_⟩
 ·rw [e,List.drop_of_length_le h]; rfl
 ·cases c
theorem intV_snoc (xs : List Int) (t : Int) : intV xs ++ [I t] = intV (xs ++ [t]):=by unfold intV; rw [List.map_append]; rfl
set_option maxRecDepth 100000 in
set_option maxHeartbeats 3200000 in
theorem l3Put_no (a : Option Addr) (cap : Nat) (ks : List Int) (x : Int) (w : World) (hr : RowAt (Value.int .i64) w a ks) (hl : ks.length ≤ 1048576) (hH : hasB ks x = false) :
  Calls Tryz.prog 91 #[.slice a ks.length cap,I x] w fun e w' => ∃ v,e = .returned v ∧ w'.ownsRow w.heap.size 3 1 v (putL ks x).length (intV (putL ks x)) ∧ Below w.heap.size w w':=by
 obtain ⟨i0,hi,hz0,hz1,hz2⟩:=info_parts infoInt
 have hC:=l3Has_is a cap ks x w hr hl
 rw [hH] at hC
 have hb0 : Below w.heap.size w (w.alloc (.cells #[] 3)):=(Below.refl _ _).alloc (Nat.le_refl _) _
 have hlit : (w.alloc (.cells #[] 3)).ownsRow w.heap.size 3 1 (.slice (some ⟨w.heap.size,0,none⟩) 0 0) 0 (intV []):=World.ownsRow_lit _ _ _ (Nat.le_refl _) (by unfold maxLen; omega) rfl
 go_enter Tryz.func91,Tryz.ntmps91
 go_wp2_with fail
 refine hC.mono ?_
 rintro e w1 ⟨rfl,rfl⟩
 clear hC
 go_wp2
 go_loopw [5,6,7] (fun v p i wr => ∃ (k : Nat) (out : List Int) (b : Bool),k ≤ ks.length ∧ i = I k ∧ p = .bool b ∧ Hid (PutAt ks x k out b) ∧ Hid (out.length ≤ k + 1) ∧ wr.ownsRow w.heap.size 3 1 v out.length (intV out) ∧ Below w.heap.size w wr) (fun _ _ i _ => ks.length - (intOf i).toNat)
 case atStart => exact ⟨0,[],false,by omega,rfl,rfl,PutAt.start ks x,by show 0 ≤ 0 + 1; omega,hlit,hb0⟩
 case round =>
  clear hlit hb0
  obtain ⟨k,out,p,hk,rfl,rfl,HP,HL,hown,hbel⟩:=hrel
  by_cases hlt : k < ks.length
  ·obtain ⟨b1,o1,rfl,l1,hc⟩:=hr k hlt
   rw [← hbel.cell (p:=⟨b1,o1 + k,none⟩) l1] at hc
   have hol:=HL.out
   cases p with
   | true =>
    have HP2 : Hid (PutAt ks x (k + 1) (out ++ [ks[k]]) true):=PutAt.on hlt HP.out
    have HV : Hid (intV out ++ [I ks[k]] = intV (out ++ [ks[k]])):=intV_snoc _ _
    clear HP
    generalize ks[k] = y at hc HP2 HV
    go_wp2_with (first | (at_builtin; refine wpList_append_own _ rfl _ _ 22 rfl w.heap.size 3 i0 (I 0) 1 8 Tryz.underlying22 hi hz0 hz1 hz2 rfl (by decide) _ _ _ rfl (hown.alloc _) ⟨wr.heap.size,0,none⟩ 1 1 [I y] rfl rfl (cell_one_new _ _ _) ?c2 ?c3 ?c4 ?c5 ?_) | go_in)
    case c2 => first | rfl | (intro u hu; simp at hu; subst hu; rfl)
    case c3 => unfold maxLen; omega
    case c4 => omega
    case c5 => have:=hbel.size; simp; omega
    intro v' w2 hown' hgrow _
    have hb3:=below_app hbel (Nat.le_refl _) hown hgrow
    rw [HV.out] at hown'
    clear hgrow hown hbel
    go_wp2
    go_roundw
    case rel =>
     have R : ∃ (k₁ : Nat) (out₁ : List Int) (b₁ : Bool),k₁ ≤ ks.length ∧ Value.int .i64 ((k : Int) + 1) = I k₁ ∧ Value.bool true = .bool b₁ ∧ Hid (PutAt ks x k₁ out₁ b₁) ∧ Hid (out₁.length ≤ k₁ + 1) ∧ w2.ownsRow w.heap.size 3 1 v' out₁.length (intV out₁) ∧ Below w.heap.size w w2 :=
      ⟨k + 1,out ++ [y],true,by omega,by go_num,rfl,HP2,by show (out ++ [y]).length ≤ _; simp; omega,by rw [List.length_append]; exact hown',hb3⟩
     first | exact R | ((repeat apply Exists.intro); exact ⟨R,rfl⟩)
    case measure => simp [intOf]; omega
   | false =>
    by_cases hlt2 : x < ks[k]
    ·have HP2 : Hid (PutAt ks x (k + 1) (out ++ [x] ++ [ks[k]]) true):=PutAt.put hlt hlt2 HP.out
     have HV : Hid (intV out ++ [I x] = intV (out ++ [x])):=intV_snoc _ _
     have HV2 : Hid (intV (out ++ [x]) ++ [I ks[k]] = intV (out ++ [x] ++ [ks[k]])):=intV_snoc _ _
     have hol2 : out.length ≤ k:=by
      rcases HP.out with ⟨_,e,_⟩ | ⟨c,_⟩
      ·rw [e,List.length_take]; omega
      ·cases c
     clear HP
     generalize ks[k] = y at hc HP2 HV2 hlt2
     have hd : decide (x < y) = true:=decide_eq_true hlt2
     go_wp2_with (first | (at_builtin; refine wpList_append_own _ rfl _ _ 22 rfl w.heap.size 3 i0 (I 0) 1 8 Tryz.underlying22 hi hz0 hz1 hz2 rfl (by decide) _ _ _ rfl (hown.alloc _) ⟨wr.heap.size,0,none⟩ 1 1 [I x] rfl rfl (cell_one_new _ _ _) ?c2 ?c3 ?c4 ?c5 ?_) | go_in)
     case c2 => first | rfl | (intro u hu; simp at hu; subst hu; rfl)
     case c3 => unfold maxLen; omega
     case c4 => omega
     case c5 => have:=hbel.size; simp; omega
     intro v' w2 hown' hgrow _
     have hb3:=below_app hbel (Nat.le_refl _) hown hgrow
     rw [HV.out] at hown'
     have hc2 : w2.cell? ⟨b1,o1 + k,none⟩ = some (I y):=(hb3.cell (p:=⟨b1,o1 + k,none⟩) l1).trans ((hbel.cell (p:=⟨b1,o1 + k,none⟩) l1).symm.trans hc)
     have hln : (out ++ [x]).length = out.length + 1:=by simp
     rw [← hln] at hown'
     have hln2 : (out ++ [x]).length ≤ 1048577:=by omega
     clear hgrow hown hbel hc hln
     go_wp2_with (first | (at_builtin; refine wpList_append_own _ rfl _ _ 22 rfl w.heap.size 3 i0 (I 0) 1 8 Tryz.underlying22 hi hz0 hz1 hz2 rfl (by decide) _ _ _ rfl (hown'.alloc _) ⟨w2.heap.size,0,none⟩ 1 1 [I y] rfl rfl (cell_one_new _ _ _) ?c2 ?c3 ?c4 ?c5 ?_) | go_in)
     case c2 => first | rfl | (intro u hu; simp at hu; subst hu; rfl)
     case c3 => unfold maxLen; omega
     case c4 => omega
     case c5 => have:=hb3.size; simp; omega
     intro v'' w3 hown'' hgrow2 _
     have hb4:=below_app hb3 (Nat.le_refl _) hown' hgrow2
     rw [HV2.out] at hown''
     clear hgrow2 hown' hb3
     go_wp2
     go_roundw
     case rel =>
      have R : ∃ (k₁ : Nat) (out₁ : List Int) (b₁ : Bool),k₁ ≤ ks.length ∧ Value.int .i64 ((k : Int) + 1) = I k₁ ∧ Value.bool true = .bool b₁ ∧ Hid (PutAt ks x k₁ out₁ b₁) ∧ Hid (out₁.length ≤ k₁ + 1) ∧ w3.ownsRow w.heap.size 3 1 v'' out₁.length (intV out₁) ∧ Below w.heap.size w w3 :=
       ⟨k + 1,out ++ [x] ++ [y],true,by omega,by go_num,rfl,HP2,by show (out ++ [x] ++ [y]).length ≤ _; simp; omega,(by simp : (out ++ [x] ++ [y]).length = out.length + 1 + 1) ▸ hown'',hb4⟩
      first | exact R | ((repeat apply Exists.intro); exact ⟨R,rfl⟩)
     case measure => simp [intOf]; omega
    ·have HP2 : Hid (PutAt ks x (k + 1) (out ++ [ks[k]]) false):=PutAt.pass hlt hlt2 HP.out
     have HV : Hid (intV out ++ [I ks[k]] = intV (out ++ [ks[k]])):=intV_snoc _ _
     clear HP
     generalize ks[k] = y at hc HP2 HV hlt2
     have hd : decide (x < y) = false:=decide_eq_false hlt2
     go_wp2_with (first | (at_builtin; refine wpList_append_own _ rfl _ _ 22 rfl w.heap.size 3 i0 (I 0) 1 8 Tryz.underlying22 hi hz0 hz1 hz2 rfl (by decide) _ _ _ rfl (hown.alloc _) ⟨wr.heap.size,0,none⟩ 1 1 [I y] rfl rfl (cell_one_new _ _ _) ?c2 ?c3 ?c4 ?c5 ?_) | go_in)
     case c2 => first | rfl | (intro u hu; simp at hu; subst hu; rfl)
     case c3 => unfold maxLen; omega
     case c4 => omega
     case c5 => have:=hbel.size; simp; omega
     intro v' w2 hown' hgrow _
     have hb3:=below_app hbel (Nat.le_refl _) hown hgrow
     rw [HV.out] at hown'
     clear hgrow hown hbel
     go_wp2
     go_roundw
     case rel =>
      have R : ∃ (k₁ : Nat) (out₁ : List Int) (b₁ : Bool),k₁ ≤ ks.length ∧ Value.int .i64 ((k : Int) + 1) = I k₁ ∧ Value.bool false = .bool b₁ ∧ Hid (PutAt ks x k₁ out₁ b₁) ∧ Hid (out₁.length ≤ k₁ + 1) ∧ w2.ownsRow w.heap.size 3 1 v' out₁.length (intV out₁) ∧ Below w.heap.size w w2 :=
       ⟨k + 1,out ++ [y],false,by omega,by go_num,rfl,HP2,by show (out ++ [y]).length ≤ _; simp; omega,by rw [List.length_append]; exact hown',hb3⟩
      first | exact R | ((repeat apply Exists.intro); exact ⟨R,rfl⟩)
     case measure => simp [intOf]; omega
  ·have hol:=HL.out
   cases p with
   | true =>
    have e:=PutAt.done (by omega) HP.out
    clear HP
    subst e
    go_wp2
    go_ret
    exact ⟨_,rfl,hown,hbel⟩
   | false =>
    have e:=PutAt.last (by omega) HP.out
    clear HP
    have HE : Hid (out ++ [x] = putL ks x):=e
    clear e
    have HV : Hid (intV out ++ [I x] = intV (out ++ [x])):=intV_snoc _ _
    go_wp2_with (first | (at_builtin; refine wpList_append_own _ rfl _ _ 22 rfl w.heap.size 3 i0 (I 0) 1 8 Tryz.underlying22 hi hz0 hz1 hz2 rfl (by decide) _ _ _ rfl (hown.alloc _) ⟨wr.heap.size,0,none⟩ 1 1 [I x] rfl rfl (cell_one_new _ _ _) ?c2 ?c3 ?c4 ?c5 ?_) | go_in)
    case c2 => first | rfl | (intro u hu; simp at hu; subst hu; rfl)
    case c3 => unfold maxLen; omega
    case c4 => omega
    case c5 => have:=hbel.size; simp; omega
    intro v' w2 hown' hgrow _
    have hb3:=below_app hbel (Nat.le_refl _) hown hgrow
    rw [HV.out] at hown'
    go_wp2
    go_ret
    exact ⟨_,rfl,by rw [← HE.out,List.length_append]; exact hown',hb3⟩
end Go.Proofs.YtlmpfkbgknbcnaaGreat.Kn

set_option linter.unusedVariables false
namespace Go.Proofs.YtlmpfkbgknbcnaaGreat.Kn
open _root_.Go.Proofs.YtlmpfkbgknbcnaaGreat.Own Var Term
/-- Closed under what the document says of seen and reached. -/
def Closed (xs : List ByteArray) (ks : List Int) (S : ByteArray → Prop) (K : Int → Prop) : Prop :=
 (∀ t,t ∈ xs → S t) ∧ (∀ k,k ∈ ks → K k) ∧ (∀ l p,S l → p ∈ (partsR l).1 → S p) ∧ (∀ s (n : Nat) t,S s → rk s 115 = some (n,t) → K n → S t) ∧ (∀ s (n : Nat) r,S s → rk s 107 = some (n,r) → K n)
def SeenT (xs : List ByteArray) (ks : List Int) (t : ByteArray) : Prop:=∀ S K,Closed xs ks S K → S t
def ReachT (xs : List ByteArray) (ks : List Int) (k : Int) : Prop:=∀ S K,Closed xs ks S K → K k
theorem closed_least (xs : List ByteArray) (ks : List Int) : Closed xs ks (SeenT xs ks) (ReachT xs ks) :=
 ⟨fun t ht S K h => h.1 t ht,fun k hk S K h => h.2.1 k hk,fun l p hl hp S K h => h.2.2.1 l p (hl S K h) hp,fun s n t hs hr hk S K h => h.2.2.2.1 s n t (hs S K h) hr (hk S K h),fun s n r hs hr S K h => h.2.2.2.2 s n r (hs S K h) hr⟩
/-- What is closed, and no more than seen and reached, is just that. -/
theorem just_seen {xs : List ByteArray} {ks : List Int} {S : List ByteArray} {K : List Int} (hc : Closed xs ks (fun t => t ∈ S) (fun k => k ∈ K)) (hs : ∀ t,t ∈ S → SeenT xs ks t) (t : ByteArray) : t ∈ S ↔ SeenT xs ks t:=⟨hs t,fun h => h _ _ hc⟩
theorem just_reached {xs : List ByteArray} {ks : List Int} {S : List ByteArray} {K : List Int} (hc : Closed xs ks (fun t => t ∈ S) (fun k => k ∈ K)) (hk : ∀ k,k ∈ K → ReachT xs ks k) (k : Int) : k ∈ K ↔ ReachT xs ks k:=⟨hk k,fun h => h _ _ hc⟩
/-- t stands in x. -/
def Sub (x t : ByteArray) : Prop:=t.data.toList <:+: x.data.toList
theorem Sub.refl (x : ByteArray) : Sub x x:=List.infix_refl _
theorem Sub.trans {x y z : ByteArray} (h : Sub x y) (k : Sub y z) : Sub x z:=List.IsInfix.trans k h
theorem sub_extract (x : ByteArray) (i j : Nat) : Sub x (x.extract i j):=by
 unfold Sub
 rw [extract_list]
 exact List.IsInfix.trans (List.take_prefix _ _).isInfix (List.drop_suffix _ _).isInfix
theorem sub_suf (x : ByteArray) (i : Nat) : Sub x (suf x i):=sub_extract x i x.size
theorem sub_psL : ∀ (n : Nat) (r : ByteArray),∀ p,p ∈ psL n r → Sub r p:=by
 intro n
 induction n with
 | zero => intro r p hp; simp [psL] at hp
 | succ n ih =>
  intro r p hp
  rw [psL] at hp
  cases h : bh 8 r with
  | none => rw [h] at hp; simp at hp
  | some r' =>
   rw [h] at hp
   rcases List.mem_cons.1 hp with rfl | hp
   ·exact sub_extract _ _ _
   ·obtain ⟨j,_,_,rfl⟩:=bh_suf 8 r r' h
    exact (sub_suf r j).trans (ih _ p hp)
theorem sub_cut {s r : ByteArray} {n : Nat} (h : cut s = some (n,r)) : Sub s r:=by
 obtain ⟨_,_,j,_,_,rfl⟩:=cut_size h
 exact sub_suf s j
theorem sub_parts {l p : ByteArray} (h : p ∈ (partsR l).1) : Sub l p:=by
 unfold partsR at h
 cases hr : rk l 108 with
 | none => rw [hr] at h; simp at h
 | some q =>
  obtain ⟨n,r⟩:=q
  rw [hr] at h
  exact (sub_cut (rk_facts hr).2.2.2.1).trans (sub_psL n r p h)
theorem sub_size {x t : ByteArray} (h : Sub x t) : t.size ≤ x.size:=List.IsInfix.length_le h
/-- Parts of a term are terms. -/
theorem part_isT {l p : ByteArray} (h : p ∈ (partsR l).1) : isT p = true:=by
 have hsub:=sub_parts h
 unfold partsR at h
 cases hr : rk l 108 with
 | none => rw [hr] at h; simp at h
 | some q =>
  obtain ⟨n,r⟩:=q
  rw [hr] at h
  obtain ⟨_,_,_,_,hs9,_⟩:=rk_facts hr
  obtain ⟨_,E,hE⟩:=rk_list hr
  have hb:=(psL_back n r E hE).2 p h
  rw [isT_iff]
  exact ⟨Nat.le_trans (sub_size hsub) hs9,_,hb,rfl⟩
/-- What is sealed is a term. -/
theorem inside_isT {s t : ByteArray} {n : Nat} (h : rk s 115 = some (n,t)) : isT t = true:=by
 obtain ⟨hT,h2,hat,hc,hs9,ht9⟩:=rk_facts h
 obtain ⟨_,r,hb,hr0⟩:=(isT_iff s).1 hT
 rw [bh_some hc] at hb
 rw [if_neg (by omega),if_neg (by omega),if_pos hat] at hb
 rw [isT_iff]
 exact ⟨ht9,r,bh_mono 7 t r hb,hr0⟩
theorem seen_isT {xs : List ByteArray} {ks : List Int} (hx : ∀ x,x ∈ xs → isT x = true) {t : ByteArray} (h : SeenT xs ks t) : isT t = true :=
 h (fun t => isT t = true) (fun _ => True) ⟨hx,fun _ _ => trivial,fun l p _ hp => part_isT hp,fun s n t _ hr _ => inside_isT hr,fun _ _ _ _ _ => trivial⟩
theorem seen_sub {xs : List ByteArray} {ks : List Int} {t : ByteArray} (h : SeenT xs ks t) : ∃ x,x ∈ xs ∧ Sub x t :=
 h (fun t => ∃ x,x ∈ xs ∧ Sub x t) (fun _ => True) ⟨fun t ht => ⟨t,ht,Sub.refl t⟩,fun _ _ => trivial,fun l p ⟨x,hx,hs⟩ hp => ⟨x,hx,hs.trans (sub_parts hp)⟩,fun s n t ⟨x,hx,hs⟩ hr _ => ⟨x,hx,hs.trans (sub_cut (rk_facts hr).2.2.2.1)⟩,fun _ _ _ _ _ => trivial⟩
theorem key_range {s r : ByteArray} {n : Nat} (h : rk s 107 = some (n,r)) : 1 ≤ n ∧ n ≤ 1000000:=by
 obtain ⟨hT,h2,hat,hc,_,_⟩:=rk_facts h
 unfold cut at hc
 split at hc
 ·rename_i c
  simp only [Option.some.injEq,Prod.mk.injEq] at hc
  have:=c.2.2
  rw [hc.1,hat] at this
  unfold hdOk at this
  simp at this
  exact this
 ·simp at hc
theorem reach_range {xs : List ByteArray} {ks : List Int} (hk : ∀ k,k ∈ ks → 1 ≤ k ∧ k ≤ 1000000) {k : Int} (h : ReachT xs ks k) : 1 ≤ k ∧ k ≤ 1000000 :=
 h (fun _ => True) (fun k => 1 ≤ k ∧ k ≤ 1000000) ⟨fun _ _ => trivial,hk,fun _ _ _ _ => trivial,fun _ _ _ _ _ _ => trivial,fun s n r _ hr => by have:=key_range hr; omega⟩
/-- A list without repeats within another one is no longer. -/
theorem nodup_le {α : Type} [DecidableEq α] : ∀ (S U : List α),S.Nodup → (∀ x,x ∈ S → x ∈ U) → S.length ≤ U.length:=by
 intro S
 induction S with
 | nil => intro U _ _; exact Nat.zero_le _
 | cons x r ih =>
  intro U hn hs
  rw [List.nodup_cons] at hn
  have hx:=hs x (List.mem_cons_self ..)
  have:=ih (U.erase x) hn.2 (fun y hy => (List.mem_erase_of_ne (fun e => hn.1 (by rw [← e]; exact hy))).2 (hs y (List.mem_cons_of_mem _ hy)))
  rw [List.length_erase_of_mem hx] at this
  have:=List.length_pos_of_mem hx
  simp only [List.length_cons]
  omega
/-- All that stands in a text. -/
def inf (x : List UInt8) : List (List UInt8):=(List.range (x.length + 1)).flatMap fun i => (List.range (x.length + 1)).map fun j => (x.drop i).take j
theorem mem_inf {x t : List UInt8} (h : t <:+: x) : t ∈ inf x:=by
 obtain ⟨p,q,rfl⟩:=h
 unfold inf
 rw [List.mem_flatMap]
 refine ⟨p.length,List.mem_range.2 (by simp; omega),?_⟩
 rw [List.mem_map]
 refine ⟨t.length,List.mem_range.2 (by simp; omega),?_⟩
 simp
theorem sum_const (c : Nat) : ∀ l : List Nat,(l.map fun _ => c).sum = l.length * c:=by
 intro l
 induction l with
 | nil => simp
 | cons y r ih => rw [List.map_cons,List.sum_cons,ih,List.length_cons,Nat.succ_mul]; omega
theorem inf_len (x : List UInt8) : (inf x).length = (x.length + 1) * (x.length + 1):=by
 unfold inf
 rw [List.length_flatMap]
 simp only [List.length_map,List.length_range]
 rw [sum_const,List.length_range]
def allInf (xs : List ByteArray) : List (List UInt8):=xs.flatMap fun x => inf x.data.toList
theorem allInf_len : ∀ (xs : List ByteArray),(∀ x,x ∈ xs → x.size ≤ 900) → (allInf xs).length ≤ xs.length * 811801:=by
 intro xs
 induction xs with
 | nil => intro _; exact Nat.zero_le _
 | cons x r ih =>
  intro h
  have h1:=h x (List.mem_cons_self ..)
  have h2:=ih (fun y hy => h y (List.mem_cons_of_mem _ hy))
  have h3 : (inf x.data.toList).length ≤ 811801:=by
   rw [inf_len]
   have h4 : x.data.toList.length + 1 ≤ 901:=by have : x.data.toList.length = x.size:=rfl; omega
   exact Nat.mul_le_mul h4 h4
  have h5 : allInf (x :: r) = inf x.data.toList ++ allInf r:=rfl
  rw [h5,List.length_append,List.length_cons,Nat.succ_mul]
  omega
theorem data_inj {a b : ByteArray} (h : a.data.toList = b.data.toList) : a = b:=ext_list h
theorem seen_len {xs : List ByteArray} {ks : List Int} {S : List ByteArray} (hn : S.Nodup) (hs : ∀ t,t ∈ S → SeenT xs ks t) : S.length ≤ (allInf xs).length:=by
 have h1 : (S.map fun t => t.data.toList).Nodup:=by
  rw [List.nodup_iff_pairwise_ne] at hn ⊢
  rw [List.pairwise_map]
  exact hn.imp (fun h e => h (data_inj e))
 have:=nodup_le _ (allInf xs) h1 (fun d hd => by
  obtain ⟨t,ht,rfl⟩:=List.mem_map.1 hd
  obtain ⟨x,hx,hs2⟩:=seen_sub (hs t ht)
  unfold allInf
  rw [List.mem_flatMap]
  exact ⟨x,hx,mem_inf hs2⟩)
 rwa [List.length_map] at this
end Go.Proofs.YtlmpfkbgknbcnaaGreat.Kn
