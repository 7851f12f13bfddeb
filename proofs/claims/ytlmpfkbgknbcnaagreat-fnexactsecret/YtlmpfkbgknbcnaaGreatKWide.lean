/- The model's seeking and putting on rows of any length that can come up. -/
import Derived.Test.YtlmpfkbgknbcnaaGreatAb
import Derived.Test.YtlmpfkbgknbcnaaGreatKKeys
import Derived.Test.YtlmpfkbgknbcnaaGreatKnow3
import Derived.Test.YtlmpfkbgknbcnaaGreatKView4
set_option linter.unusedVariables false
namespace Go.Proofs.YtlmpfkbgknbcnaaGreat.Kn
open Go.RowKit _root_.Go.Proofs.YtlmpfkbgknbcnaaGreat.Own Var Term
set_option maxRecDepth 100000 in
set_option maxHeartbeats 3200000 in
theorem l3InW (a : Option Addr) (cap : Nat) (xs : List ByteArray) (x : ByteArray) (w : World) (hr : RowAt Value.string w a xs) (hl : xs.length ≤ 1000000000) :
  Calls Tryz.prog 64 #[.slice a xs.length cap,.string x] w fun e w' => e = .returned (.bool (inB xs x)) ∧ w = w':=by
 go_enter Tryz.func64,Tryz.ntmps64
 go_wp2
 go_loop [5] (fun i => ∃ k : Nat,k ≤ xs.length ∧ i = I k ∧ Hid (¬ x ∈ xs.take k)) (fun i => xs.length - (intOf i).toNat)
 case atStart => exact ⟨0,by omega,rfl,by simp [Hid]⟩
 case round =>
  obtain ⟨k,hk,rfl,hx⟩:=hrel
  by_cases hlt : k < xs.length
  ·obtain ⟨b1,o1,rfl,l1,hc1⟩:=hr k hlt
   have HM : Hid (x ∈ xs.take (k + 1) ↔ x ∈ xs.take k ∨ x = xs[k]):=mem_take_succ hlt x
   have HI : Hid (xs[k] ∈ xs):=List.getElem_mem hlt
   generalize xs[k] = y at hc1 HM HI
   by_cases he : y = x
   ·subst he
    have hd : (y.toList == y.toList) = true:=beq_self_eq_true _
    have hT : inB xs y = true:=(inB_iff _ _).2 HI.out
    go_wp2
    all_goals
     go_ret
     exact ⟨by first | rfl | (rw [hT]; rfl),rfl⟩
   ·have hd:=same_list he
    have HN : Hid (¬ x ∈ xs.take (k + 1)):=by
     intro h
     rcases HM.out.1 h with h | h
     ·exact hx.out h
     ·exact he h.symm
    go_wp2
    go_round
    case rel => exact ⟨k + 1,by omega,by go_num,HN⟩
    case measure => simp [intOf]; omega
  ·have hF : inB xs x = false:=by have:=hx.out; rw [List.take_of_length_le (by omega)] at this; exact inB_no this
   go_wp2
   go_ret
   exact ⟨by first | rfl | (rw [hF]; rfl),rfl⟩
set_option maxRecDepth 100000 in
set_option maxHeartbeats 3200000 in
theorem l3HasW (a : Option Addr) (cap : Nat) (ks : List Int) (x : Int) (w : World) (hr : RowAt (Value.int .i64) w a ks) (hl : ks.length ≤ 1000000000) :
  Calls Tryz.prog 52 #[.slice a ks.length cap,I x] w fun e w' => e = .returned (.bool (hasB ks x)) ∧ w = w':=by
 go_enter Tryz.func52,Tryz.ntmps52
 go_wp2
 go_loop [5] (fun i => ∃ k : Nat,k ≤ ks.length ∧ i = I k ∧ Hid (¬ x ∈ ks.take k)) (fun i => ks.length - (intOf i).toNat)
 case atStart => exact ⟨0,by omega,rfl,by simp [Hid]⟩
 case round =>
  obtain ⟨k,hk,rfl,hx⟩:=hrel
  by_cases hlt : k < ks.length
  ·obtain ⟨b1,o1,rfl,l1,hc1⟩:=hr k hlt
   have HM : Hid (x ∈ ks.take (k + 1) ↔ x ∈ ks.take k ∨ x = ks[k]):=mem_take_succ hlt x
   have HI : Hid (ks[k] ∈ ks):=List.getElem_mem hlt
   generalize ks[k] = y at hc1 HM HI
   by_cases he : y = x
   ·subst he
    have hT : hasB ks y = true:=(hasB_iff _ _).2 HI.out
    go_wp2
    all_goals
     go_ret
     exact ⟨by first | rfl | (rw [hT]; rfl),rfl⟩
   ·have hd : (y == x) = false:=by simpa using he
    have HN : Hid (¬ x ∈ ks.take (k + 1)):=by
     intro h
     rcases HM.out.1 h with h | h
     ·exact hx.out h
     ·exact he h.symm
    go_wp2
    go_round
    case rel => exact ⟨k + 1,by omega,by go_num,HN⟩
    case measure => simp [intOf]; omega
  ·have hF : hasB ks x = false:=by have:=hx.out; rw [List.take_of_length_le (by omega)] at this; exact hasB_no this
   go_wp2
   go_ret
   exact ⟨by first | rfl | (rw [hF]; rfl),rfl⟩
set_option maxRecDepth 100000 in
set_option maxHeartbeats 3200000 in
theorem l3PutW_no (a : Option Addr) (cap : Nat) (ks : List Int) (x : Int) (w : World) (hr : RowAt (Value.int .i64) w a ks) (hl : ks.length ≤ 1000000000) (hH : hasB ks x = false) :
  Calls Tryz.prog 91 #[.slice a ks.length cap,I x] w fun e w' => ∃ v,e = .returned v ∧ w'.ownsRow w.heap.size 3 1 v (putL ks x).length (intV (putL ks x)) ∧ Below w.heap.size w w':=by
 obtain ⟨i0,hi,hz0,hz1,hz2⟩:=info_parts infoInt
 have hC:=l3HasW a cap ks x w hr hl
 rw [hH] at hC
 have hb0 : Below w.heap.size w (w.alloc (.cells #[] 3)):=(Below.refl _ _).alloc (Nat.le_refl _) _
 have hlit : (w.alloc (.cells #[] 3)).ownsRow w.heap.size 3 1 (.slice (some ⟨w.heap.size,0,none⟩) 0 0) 0 (intV []):=World.ownsRow_lit _ _ _ (Nat.le_refl _) (by unfold maxLen; omega) rfl
 go_enter Tryz.func91,Tryz.ntmps91
 go_wp2_with fail
 refine hC.mono ?_
 rintro e w1 ⟨rfl,rfl⟩
 clear hC
 go_wp2
 go_loopw [5,6,7] (fun v p i wr => ∃ (k : Nat) (out : List Int) (b : Bool),k ≤ ks.length ∧ i = I k ∧ p = .bool b ∧ Hid (PutAt ks x k out b) ∧ Hid (out.length ≤ k + 1) ∧ wr.ownsRow w.heap.size 3 1 v out.length (intV out) ∧ Below w.heap.size w wr) (fun _ _ i _ => ks.length - (intOf i).toNat)
 case atStart => exact ⟨0,[],false,by omega,rfl,rfl,PutAt.start ks x,by show 0 ≤ 0 + 1; omega,hlit,hb0⟩
 case round =>
  clear hlit hb0
  obtain ⟨k,out,p,hk,rfl,rfl,HP,HL,hown,hbel⟩:=hrel
  by_cases hlt : k < ks.length
  ·obtain ⟨b1,o1,rfl,l1,hc⟩:=hr k hlt
   rw [← hbel.cell (p:=⟨b1,o1 + k,none⟩) l1] at hc
   have hol:=HL.out
   cases p with
   | true =>
    have HP2 : Hid (PutAt ks x (k + 1) (out ++ [ks[k]]) true):=PutAt.on hlt HP.out
    have HV : Hid (intV out ++ [I ks[k]] = intV (out ++ [ks[k]])):=intV_snoc _ _
    clear HP
    generalize ks[k] = y at hc HP2 HV
    go_wp2_with (first | (at_builtin; refine wpList_append_own _ rfl _ _ 22 rfl w.heap.size 3 i0 (I 0) 1 8 Tryz.underlying22 hi hz0 hz1 hz2 rfl (by decide) _ _ _ rfl (hown.alloc _) ⟨wr.heap.size,0,none⟩ 1 1 [I y] rfl rfl (cell_one_new _ _ _) ?c2 ?c3 ?c4 ?c5 ?_) | go_in)
    case c2 => first | rfl | (intro u hu; simp at hu; subst hu; rfl)
    case c3 => unfold maxLen; omega
    case c4 => omega
    case c5 => have:=hbel.size; simp; omega
    intro v' w2 hown' hgrow _
    have hb3:=below_app hbel (Nat.le_refl _) hown hgrow
    rw [HV.out] at hown'
    clear hgrow hown hbel
    go_wp2
    go_roundw
    case rel =>
     have R : ∃ (k₁ : Nat) (out₁ : List Int) (b₁ : Bool),k₁ ≤ ks.length ∧ Value.int .i64 ((k : Int) + 1) = I k₁ ∧ Value.bool true = .bool b₁ ∧ Hid (PutAt ks x k₁ out₁ b₁) ∧ Hid (out₁.length ≤ k₁ + 1) ∧ w2.ownsRow w.heap.size 3 1 v' out₁.length (intV out₁) ∧ Below w.heap.size w w2 :=
      ⟨k + 1,out ++ [y],true,by omega,by go_num,rfl,HP2,by show (out ++ [y]).length ≤ _; simp; omega,by rw [List.length_append]; exact hown',hb3⟩
     first | exact R | ((repeat apply Exists.intro); exact ⟨R,rfl⟩)
    case measure => simp [intOf]; omega
   | false =>
    by_cases hlt2 : x < ks[k]
    ·have HP2 : Hid (PutAt ks x (k + 1) (out ++ [x] ++ [ks[k]]) true):=PutAt.put hlt hlt2 HP.out
     have HV : Hid (intV out ++ [I x] = intV (out ++ [x])):=intV_snoc _ _
     have HV2 : Hid (intV (out ++ [x]) ++ [I ks[k]] = intV (out ++ [x] ++ [ks[k]])):=intV_snoc _ _
     have hol2 : out.length ≤ k:=by
      rcases HP.out with ⟨_,e,_⟩ | ⟨c,_⟩
      ·rw [e,List.length_take]; omega
      ·cases c
     clear HP
     generalize ks[k] = y at hc HP2 HV2 hlt2
     have hd : decide (x < y) = true:=decide_eq_true hlt2
     go_wp2_with (first | (at_builtin; refine wpList_append_own _ rfl _ _ 22 rfl w.heap.size 3 i0 (I 0) 1 8 Tryz.underlying22 hi hz0 hz1 hz2 rfl (by decide) _ _ _ rfl (hown.alloc _) ⟨wr.heap.size,0,none⟩ 1 1 [I x] rfl rfl (cell_one_new _ _ _) ?c2 ?c3 ?c4 ?c5 ?_) | go_in)
     case c2 => first | rfl | (intro u hu; simp at hu; subst hu; rfl)
     case c3 => unfold maxLen; omega
     case c4 => omega
     case c5 => have:=hbel.size; simp; omega
     intro v' w2 hown' hgrow _
     have hb3:=below_app hbel (Nat.le_refl _) hown hgrow
     rw [HV.out] at hown'
     have hc2 : w2.cell? ⟨b1,o1 + k,none⟩ = some (I y):=(hb3.cell (p:=⟨b1,o1 + k,none⟩) l1).trans ((hbel.cell (p:=⟨b1,o1 + k,none⟩) l1).symm.trans hc)
     have hln : (out ++ [x]).length = out.length + 1:=by simp
     rw [← hln] at hown'
     have hln2 : (out ++ [x]).length ≤ 1000000001:=by omega
     clear hgrow hown hbel hc hln
     go_wp2_with (first | (at_builtin; refine wpList_append_own _ rfl _ _ 22 rfl w.heap.size 3 i0 (I 0) 1 8 Tryz.underlying22 hi hz0 hz1 hz2 rfl (by decide) _ _ _ rfl (hown'.alloc _) ⟨w2.heap.size,0,none⟩ 1 1 [I y] rfl rfl (cell_one_new _ _ _) ?c2 ?c3 ?c4 ?c5 ?_) | go_in)
     case c2 => first | rfl | (intro u hu; simp at hu; subst hu; rfl)
     case c3 => unfold maxLen; omega
     case c4 => omega
     case c5 => have:=hb3.size; simp; omega
     intro v'' w3 hown'' hgrow2 _
     have hb4:=below_app hb3 (Nat.le_refl _) hown' hgrow2
     rw [HV2.out] at hown''
     clear hgrow2 hown' hb3
     go_wp2
     go_roundw
     case rel =>
      have R : ∃ (k₁ : Nat) (out₁ : List Int) (b₁ : Bool),k₁ ≤ ks.length ∧ Value.int .i64 ((k : Int) + 1) = I k₁ ∧ Value.bool true = .bool b₁ ∧ Hid (PutAt ks x k₁ out₁ b₁) ∧ Hid (out₁.length ≤ k₁ + 1) ∧ w3.ownsRow w.heap.size 3 1 v'' out₁.length (intV out₁) ∧ Below w.heap.size w w3 :=
       ⟨k + 1,out ++ [x] ++ [y],true,by omega,by go_num,rfl,HP2,by show (out ++ [x] ++ [y]).length ≤ _; simp; omega,(by simp : (out ++ [x] ++ [y]).length = out.length + 1 + 1) ▸ hown'',hb4⟩
      first | exact R | ((repeat apply Exists.intro); exact ⟨R,rfl⟩)
     case measure => simp [intOf]; omega
    ·have HP2 : Hid (PutAt ks x (k + 1) (out ++ [ks[k]]) false):=PutAt.pass hlt hlt2 HP.out
     have HV : Hid (intV out ++ [I ks[k]] = intV (out ++ [ks[k]])):=intV_snoc _ _
     clear HP
     generalize ks[k] = y at hc HP2 HV hlt2
     have hd : decide (x < y) = false:=decide_eq_false hlt2
     go_wp2_with (first | (at_builtin; refine wpList_append_own _ rfl _ _ 22 rfl w.heap.size 3 i0 (I 0) 1 8 Tryz.underlying22 hi hz0 hz1 hz2 rfl (by decide) _ _ _ rfl (hown.alloc _) ⟨wr.heap.size,0,none⟩ 1 1 [I y] rfl rfl (cell_one_new _ _ _) ?c2 ?c3 ?c4 ?c5 ?_) | go_in)
     case c2 => first | rfl | (intro u hu; simp at hu; subst hu; rfl)
     case c3 => unfold maxLen; omega
     case c4 => omega
     case c5 => have:=hbel.size; simp; omega
     intro v' w2 hown' hgrow _
     have hb3:=below_app hbel (Nat.le_refl _) hown hgrow
     rw [HV.out] at hown'
     clear hgrow hown hbel
     go_wp2
     go_roundw
     case rel =>
      have R : ∃ (k₁ : Nat) (out₁ : List Int) (b₁ : Bool),k₁ ≤ ks.length ∧ Value.int .i64 ((k : Int) + 1) = I k₁ ∧ Value.bool false = .bool b₁ ∧ Hid (PutAt ks x k₁ out₁ b₁) ∧ Hid (out₁.length ≤ k₁ + 1) ∧ w2.ownsRow w.heap.size 3 1 v' out₁.length (intV out₁) ∧ Below w.heap.size w w2 :=
       ⟨k + 1,out ++ [y],false,by omega,by go_num,rfl,HP2,by show (out ++ [y]).length ≤ _; simp; omega,by rw [List.length_append]; exact hown',hb3⟩
      first | exact R | ((repeat apply Exists.intro); exact ⟨R,rfl⟩)
     case measure => simp [intOf]; omega
  ·have hol:=HL.out
   cases p with
   | true =>
    have e:=PutAt.done (by omega) HP.out
    clear HP
    subst e
    go_wp2
    go_ret
    exact ⟨_,rfl,hown,hbel⟩
   | false =>
    have e:=PutAt.last (by omega) HP.out
    clear HP
    have HE : Hid (out ++ [x] = putL ks x):=e
    clear e
    have HV : Hid (intV out ++ [I x] = intV (out ++ [x])):=intV_snoc _ _
    go_wp2_with (first | (at_builtin; refine wpList_append_own _ rfl _ _ 22 rfl w.heap.size 3 i0 (I 0) 1 8 Tryz.underlying22 hi hz0 hz1 hz2 rfl (by decide) _ _ _ rfl (hown.alloc _) ⟨wr.heap.size,0,none⟩ 1 1 [I x] rfl rfl (cell_one_new _ _ _) ?c2 ?c3 ?c4 ?c5 ?_) | go_in)
    case c2 => first | rfl | (intro u hu; simp at hu; subst hu; rfl)
    case c3 => unfold maxLen; omega
    case c4 => omega
    case c5 => have:=hbel.size; simp; omega
    intro v' w2 hown' hgrow _
    have hb3:=below_app hbel (Nat.le_refl _) hown hgrow
    rw [HV.out] at hown'
    go_wp2
    go_ret
    exact ⟨_,rfl,by rw [← HE.out,List.length_append]; exact hown',hb3⟩
theorem l3PutW (B : Nat) (a : Option Addr) (cap : Nat) (ks : List Int) (x : Int) (w : World) (ho : w.ownsRow B 3 1 (.slice a ks.length cap) ks.length (intV ks)) (hl : ks.length ≤ 1000000000) (hB : B ≤ w.heap.size) :
  Calls Tryz.prog 91 #[.slice a ks.length cap,I x] w fun e w' => ∃ v,e = .returned v ∧ w'.ownsRow B 3 1 v (putI ks x).length (intV (putI ks x)) ∧ Below w.heap.size w w':=by
 have hr : RowAt (Value.int .i64) w a ks:=by
  obtain ⟨a',c',e,_,hr⟩:=own_row ho
  simp only [Value.slice.injEq] at e
  rw [e.1]; exact hr
 unfold putI
 cases hH : hasB ks x with
 | true =>
  have hC:=l3HasW a cap ks x w hr hl
  rw [hH] at hC
  simp only [if_true]
  go_enter Tryz.func91,Tryz.ntmps91
  go_wp2_with fail
  refine hC.mono ?_
  rintro e w1 ⟨rfl,rfl⟩
  go_wp2
  go_ret
  exact ⟨_,rfl,ho,Below.refl _ _⟩
 | false =>
  simp only [Bool.false_eq_true,if_false]
  refine (l3PutW_no a cap ks x w hr hl hH).mono ?_
  rintro e w' ⟨v,rfl,h,hb⟩
  refine ⟨v,rfl,⟨h.1,?_⟩,hb⟩
  rcases h.2 with h0 | ⟨g,c,cur,e1,e2,e3⟩
  ·exact Or.inl h0
  ·exact Or.inr ⟨g,c,cur,e1,Nat.le_trans hB e2,e3⟩
/-- Numbers that rise stay so with one more in its place. -/
theorem putL_mem : ∀ (ks : List Int) (x y : Int),y ∈ putL ks x ↔ y = x ∨ y ∈ ks:=by
 intro ks x y
 induction ks with
 | nil => simp [putL]
 | cons z r ih =>
  rw [putL]
  split
  ·simp
  ·rw [List.mem_cons,ih,List.mem_cons]
   constructor
   ·rintro (h | h | h)
    ·exact Or.inr (Or.inl h)
    ·exact Or.inl h
    ·exact Or.inr (Or.inr h)
   ·rintro (h | h | h)
    ·exact Or.inr (Or.inl h)
    ·exact Or.inl h
    ·exact Or.inr (Or.inr h)
theorem putL_rises : ∀ {ks : List Int} {x : Int},ks.Pairwise (· < ·) → ¬ x ∈ ks → (putL ks x).Pairwise (· < ·):=by
 intro ks x hp hx
 induction ks with
 | nil => simp [putL]
 | cons z r ih =>
  rw [List.pairwise_cons] at hp
  have hne : x ≠ z:=fun e => hx (by rw [e]; exact List.mem_cons_self ..)
  rw [putL]
  split
  ·rename_i h
   rw [List.pairwise_cons]
   refine ⟨fun y hy => ?_,List.pairwise_cons.2 hp⟩
   rcases List.mem_cons.1 hy with rfl | hy
   ·exact h
   ·exact Int.lt_trans h (hp.1 y hy)
  ·rw [List.pairwise_cons]
   refine ⟨fun y hy => ?_,ih hp.2 (fun c => hx (List.mem_cons_of_mem _ c))⟩
   rcases (putL_mem r x y).1 hy with rfl | hy
   ·omega
   ·exact hp.1 y hy
theorem putI_mem (ks : List Int) (x y : Int) : y ∈ putI ks x ↔ y = x ∨ y ∈ ks:=by
 unfold putI
 split
 ·rename_i h
  have:=(hasB_iff ks x).1 h
  constructor
  ·exact Or.inr
  ·rintro (rfl | h)
   ·exact this
   ·exact h
 ·exact putL_mem ks x y
theorem putI_rises {ks : List Int} {x : Int} (hp : ks.Pairwise (· < ·)) : (putI ks x).Pairwise (· < ·):=by
 unfold putI
 split
 ·exact hp
 ·rename_i h
  exact putL_rises hp (fun c => h ((hasB_iff ks x).2 c))
theorem putI_grow (ks : List Int) (x : Int) : putI ks x = ks ∨ ks.length < (putI ks x).length:=by
 unfold putI
 split
 ·exact Or.inl rfl
 ·right; rw [putL_len]; omega
theorem rises_len (m : Nat) {K : List Int} (hp : K.Pairwise (· < ·)) (hr : ∀ k,k ∈ K → 1 ≤ k ∧ k ≤ (m : Int)) : K.length ≤ m:=by
 have:=nodup_le K ((List.range m).map fun (i : Nat) => ((i : Int) + 1)) (hp.imp (fun h => by omega)) (fun k hk => by
  have:=hr k hk
  rw [List.mem_map]
  exact ⟨(k - 1).toNat,List.mem_range.2 (by omega),by omega⟩)
 simpa using this
end Go.Proofs.YtlmpfkbgknbcnaaGreat.Kn

set_option linter.unusedVariables false
namespace Go.Proofs.YtlmpfkbgknbcnaaGreat.Kn
open Go.RowKit _root_.Go.Proofs.YtlmpfkbgknbcnaaGreat.Own Var Term
end Go.Proofs.YtlmpfkbgknbcnaaGreat.Kn
namespace Go.Proofs.YtlmpfkbgknbcnaaGreat.Kn
open Go.RowKit _root_.Go.Proofs.YtlmpfkbgknbcnaaGreat.Own Var Term
/-- All blocks but two are as they were. -/
def Turn2 (w w' : World) (o1 o2 : Option Nat) : Prop :=
 w'.os = w.os ∧ w'.tape = w.tape ∧ w'.output = w.output ∧ w.heap.size ≤ w'.heap.size ∧ ∀ k,k < w.heap.size → some k ≠ o1 → some k ≠ o2 → w'.heap[k]? = w.heap[k]?
theorem Turn2.below {w w' : World} {o1 o2 : Option Nat} {B : Nat} (h : Turn2 w w' o1 o2) (h1 : ∀ k,o1 = some k → B ≤ k) (h2 : ∀ k,o2 = some k → B ≤ k) (hB : B ≤ w.heap.size) : Below B w w' :=
 ⟨h.1,h.2.1,h.2.2.1,h.2.2.2.1,fun k hk => h.2.2.2.2 k (Nat.lt_of_lt_of_le hk hB) (fun e => by have:=h1 k e.symm; omega) (fun e => by have:=h2 k e.symm; omega)⟩
theorem Turn2.own {w w' : World} {o1 o2 : Option Nat} {base : Nat} {e : TypeId} {sz n : Nat} {v : Value} {xs : List Value} (h : Turn2 w w' o1 o2) (ho : w.ownsRow base e sz v n xs) (h1 : ∀ k,v.ownBlock = some k → some k ≠ o1 ∧ some k ≠ o2) : w'.ownsRow base e sz v n xs:=by
 refine ⟨ho.1,?_⟩
 rcases ho.2 with h0 | ⟨g,cap,cur,e1,e2,e3,e4⟩
 ·exact Or.inl h0
 ·subst e1
  have:=h1 g rfl
  exact Or.inr ⟨g,cap,cur,rfl,e2,(h.2.2.2.2 g (ho.lt g rfl).2 this.1 this.2).trans e3,e4⟩
theorem Turn2.row {α : Type} {f : α → Value} {w w' : World} {o1 o2 : Option Nat} {a : Option Addr} {xs : List α} (h : Turn2 w w' o1 o2) (hr : RowAt f w a xs) (h1 : ∀ p : Addr,a = some p → some p.block ≠ o1 ∧ some p.block ≠ o2) : RowAt f w' a xs:=by
 intro j hj
 obtain ⟨b,off,e,hlt,hc⟩:=hr j hj
 have:=h1 _ e
 exact ⟨b,off,e,Nat.lt_of_lt_of_le hlt h.2.2.2.1,by rw [World.cell?_of_block (w:=w) (a:=⟨b,off + j,none⟩) (h.2.2.2.2 b hlt this.1 this.2)]; exact hc⟩
end Go.Proofs.YtlmpfkbgknbcnaaGreat.Kn

set_option linter.unusedVariables false
namespace Go.Proofs.YtlmpfkbgknbcnaaGreat.Kn
open Go.RowKit _root_.Go.Proofs.YtlmpfkbgknbcnaaGreat.Own Var Term
/-- A block of two cells. -/
def Bx (w : World) (p : Nat) (v0 v1 : Value) : Prop:=p < w.heap.size ∧ w.cell? ⟨p,0,none⟩ = some v0 ∧ w.cell? ⟨p,1,none⟩ = some v1
theorem Bx.later {w w' : World} {p : Nat} {v0 v1 : Value} (h : Bx w p v0 v1) (hb : Below w.heap.size w w') : Bx w' p v0 v1 :=
 ⟨Nat.lt_of_lt_of_le h.1 hb.size,(hb.cell (p:=⟨p,0,none⟩) h.1).trans h.2.1,(hb.cell (p:=⟨p,1,none⟩) h.1).trans h.2.2⟩
theorem Bx.new (w : World) (v0 v1 : Value) (t : TypeId) : Bx (w.alloc (.cells #[v0,v1] t)) w.heap.size v0 v1:=by
 refine ⟨by simp,?_,?_⟩ <;> simp [go_sem]
/-- Rows that the call owns, as rows. -/
theorem row_own9 {w : World} {B : Nat} {a : Option Addr} {c : Nat} {xs : List ByteArray} (h : w.ownsRow B 9 1 (.slice a xs.length c) xs.length (strV xs)) : RowAt Value.string w a xs:=by
 obtain ⟨a',c',e,_,hr⟩:=own_row h
 simp only [Value.slice.injEq] at e
 rw [e.1]; exact hr
theorem row_own3 {w : World} {B : Nat} {a : Option Addr} {c : Nat} {xs : List Int} (h : w.ownsRow B 3 1 (.slice a xs.length c) xs.length (intV xs)) : RowAt (Value.int .i64) w a xs:=by
 obtain ⟨a',c',e,_,hr⟩:=own_row h
 simp only [Value.slice.injEq] at e
 rw [e.1]; exact hr
end Go.Proofs.YtlmpfkbgknbcnaaGreat.Kn

set_option linter.unusedVariables false
namespace Go.Proofs.YtlmpfkbgknbcnaaGreat.Kn
open Go.RowKit _root_.Go.Proofs.YtlmpfkbgknbcnaaGreat.Own Var Term
/-- What the model holds of what is seen and reached is right, so far. -/
def Inv (xs : List ByteArray) (ks : List Int) (S : List ByteArray) (K : List Int) : Prop :=
 S.Nodup ∧ (∀ t,t ∈ S → SeenT xs ks t) ∧ (∀ k,k ∈ K → ReachT xs ks k) ∧ K.Pairwise (· < ·) ∧ (∀ t,t ∈ xs → t ∈ S) ∧ (∀ k,k ∈ ks → k ∈ K)
/-- The terms ahead of place i have been gone through in this round, which began with the keys K0. -/
def Done (K0 : List Int) (S : List ByteArray) (K : List Int) (i : Nat) : Prop :=
 ∀ j (h : j < S.length),j < i → (∀ (n : Nat) r,rk S[j] 107 = some (n,r) → (n : Int) ∈ K) ∧ (∀ p,p ∈ (partsR S[j]).1 → p ∈ S) ∧ (∀ (n : Nat) t,rk S[j] 115 = some (n,t) → (n : Int) ∈ K0 → t ∈ S)
/-- The keys have not turned, or they are more. -/
def Grew (K0 K : List Int) : Prop:=K = K0 ∨ K0.length < K.length
theorem Inv.closed {xs : List ByteArray} {ks : List Int} {S : List ByteArray} {K : List Int} (h : Inv xs ks S K) (hd : Done K S K S.length) : Closed xs ks (fun t => t ∈ S) (fun k => k ∈ K):=by
 refine ⟨h.2.2.2.2.1,h.2.2.2.2.2,fun l p hl hp => ?_,fun s n t hs hr hk => ?_,fun s n r hs hr => ?_⟩
 ·obtain ⟨j,hj,rfl⟩:=List.getElem_of_mem hl
  exact (hd j hj hj).2.1 p hp
 ·obtain ⟨j,hj,rfl⟩:=List.getElem_of_mem hs
  exact (hd j hj hj).2.2 n t hr hk
 ·obtain ⟨j,hj,rfl⟩:=List.getElem_of_mem hs
  exact (hd j hj hj).1 n r hr
theorem Inv.key {xs : List ByteArray} {ks : List Int} {S : List ByteArray} {K : List Int} (h : Inv xs ks S K) {s r : ByteArray} {n : Nat} (hs : s ∈ S) (hr : rk s 107 = some (n,r)) : Inv xs ks S (putI K n):=by
 refine ⟨h.1,h.2.1,fun k hk => ?_,putI_rises h.2.2.2.1,h.2.2.2.2.1,fun k hk => (putI_mem K n k).2 (Or.inr (h.2.2.2.2.2 k hk))⟩
 rcases (putI_mem K n k).1 hk with rfl | hk
 ·exact (closed_least xs ks).2.2.2.2 s n r (h.2.1 s hs) hr
 ·exact h.2.2.1 k hk
theorem nodup_snoc {S : List ByteArray} {t : ByteArray} (h : S.Nodup) (ht : ¬ t ∈ S) : (S ++ [t]).Nodup:=by
 rw [List.nodup_append]
 refine ⟨h,by simp,fun a ha b hb => ?_⟩
 rw [List.mem_singleton] at hb
 subst hb
 exact fun e => ht (e ▸ ha)
theorem Inv.more {xs : List ByteArray} {ks : List Int} {S : List ByteArray} {K : List Int} (h : Inv xs ks S K) {t : ByteArray} (ht : SeenT xs ks t) (hn : ¬ t ∈ S) : Inv xs ks (S ++ [t]) K:=by
 refine ⟨nodup_snoc h.1 hn,fun u hu => ?_,h.2.2.1,h.2.2.2.1,fun u hu => List.mem_append_left _ (h.2.2.2.2.1 u hu),h.2.2.2.2.2⟩
 rcases List.mem_append.1 hu with hu | hu
 ·exact h.2.1 u hu
 ·rw [List.mem_singleton] at hu; subst hu; exact ht
theorem Done.more {K0 : List Int} {S : List ByteArray} {K : List Int} {i : Nat} (h : Done K0 S K i) (hi : i ≤ S.length) (t : ByteArray) : Done K0 (S ++ [t]) K i:=by
 intro j hj hji
 have hjs : j < S.length:=by omega
 rw [List.getElem_append_left hjs]
 obtain ⟨h1,h2,h3⟩:=h j hjs hji
 exact ⟨h1,fun p hp => List.mem_append_left _ (h2 p hp),fun n u hr hk => List.mem_append_left _ (h3 n u hr hk)⟩
theorem Done.key {K0 : List Int} {S : List ByteArray} {K : List Int} {i : Nat} (h : Done K0 S K i) (x : Int) : Done K0 S (putI K x) i:=by
 intro j hj hji
 obtain ⟨h1,h2,h3⟩:=h j hj hji
 exact ⟨fun n r hr => (putI_mem K x n).2 (Or.inr (h1 n r hr)),h2,h3⟩
theorem Done.step {K0 : List Int} {S : List ByteArray} {K : List Int} {i : Nat} (h : Done K0 S K i) (hi : i < S.length)
  (h1 : ∀ (n : Nat) r,rk S[i] 107 = some (n,r) → (n : Int) ∈ K) (h2 : ∀ p,p ∈ (partsR S[i]).1 → p ∈ S) (h3 : ∀ (n : Nat) t,rk S[i] 115 = some (n,t) → (n : Int) ∈ K0 → t ∈ S) : Done K0 S K (i + 1):=by
 intro j hj hji
 by_cases e : j = i
 ·subst e; exact ⟨h1,h2,h3⟩
 ·exact h j hj (by omega)
theorem Grew.put {K0 K : List Int} (h : Grew K0 K) (x : Int) : Grew K0 (putI K x):=by
 rcases putI_grow K x with e | e
 ·rw [e]; exact h
 ·right
  rcases h with h | h
  ·rw [← h]; exact e
  ·omega
theorem Inv.len {xs : List ByteArray} {ks : List Int} {S : List ByteArray} {K : List Int} (h : Inv xs ks S K) (hk : ∀ k,k ∈ ks → 1 ≤ k ∧ k ≤ 1000000) : S.length ≤ (allInf xs).length ∧ K.length ≤ 1000000 :=
 ⟨seen_len h.1 h.2.1,rises_len 1000000 h.2.2.2.1 (fun k hk2 => reach_range hk (h.2.2.1 k hk2))⟩
end Go.Proofs.YtlmpfkbgknbcnaaGreat.Kn
