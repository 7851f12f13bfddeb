/- Chapter 9: Creds that are right, program and model; Creds copied. -/
import Derived.Test.YtlmpfkbgknbcnaaGreatAb
import Derived.Test.YtlmpfkbgknbcnaaGreatFl
import Derived.Test.YtlmpfkbgknbcnaaGreatRest3
import Derived.Test.YtlmpfkbgknbcnaaGreatTermSpec
import Derived.Test.YtlmpfkbgknbcnaaGreatVarWalks
import Derived.Deep.RegionHeld3
set_option linter.unusedVariables false
set_option maxRecDepth 100000
namespace Go.Proofs.YtlmpfkbgknbcnaaGreat
open Go Go.RowKit Own Var Term
/-- Is a Cred right? -/
def crOk (o cl sv k a b e : Int) (tk : ByteArray) : Bool:=btw o 0 5 && (btw cl 0 5 && (svOk sv && (btw k 1 1000000 && (rOk a b e && isT tk))))
set_option maxRecDepth 100000 in
set_option maxHeartbeats 1600000 in
theorem credRight_is (o cl sv k a b e : Int) (tk : ByteArray) (w : World) (hs : i64 sv) (ht : tk.size ≤ 1048576) : Calls Tryz.prog 132 #[.agg #[I o,I cl,I sv,I k,I a,I b,I e,.string tk]] w fun en w' => en = .returned (.bool (crOk o cl sv k a b e tk)) ∧ Below w.heap.size w w':=by
 obtain ⟨W1,hW1⟩ : ∃ W1,w.alloc (.cells #[I o,I cl,I sv,I k,I a,I b,I e,.string tk] 72) = W1:=⟨_,rfl⟩
 have B0 : Below w.heap.size w W1:=by rw [← hW1]; exact (Below.refl _ _).alloc (Nat.le_refl _) _
 have T0 : Blk w.heap.size [I o,I cl,I sv,I k,I a,I b,I e,.string tk] W1:=by rw [← hW1]; exact Blk.new _ _ _
 have Z0 : Hid (w.heap.size < W1.heap.size):=by show _ < _; rw [← hW1]; simp
 have d0:=T0.at 0 rfl
 have d1:=T0.at 1 rfl
 have d2:=T0.at 2 rfl
 have d3:=T0.at 3 rfl
 have d4:=T0.at 4 rfl
 have d5:=T0.at 5 rfl
 have d6:=T0.at 6 rfl
 have d7:=T0.at 7 rfl
 go_enter Tryz.func132,Tryz.ntmps132
 go_wp2_with fail
 try rw [hW1]
 refine (prin_is o _).mono ?_
 clear hW1
 rintro e wx ⟨rfl,rfl⟩
 by_cases h0 : btw o 0 5 = true
 ·rw [h0]
  go_wp2_with fail
  refine (prin_is cl _).mono ?_
  rintro e wx ⟨rfl,rfl⟩
  by_cases h1 : btw cl 0 5 = true
  ·rw [h1]
   go_wp2_with fail
   refine (recv_is sv _ hs).mono ?_
   rintro e wx ⟨rfl,rfl⟩
   by_cases h2 : svOk sv = true
   ·rw [h2]
    go_wp2_with fail
    refine (keyOk_is k _).mono ?_
    rintro e wx ⟨rfl,rfl⟩
    rw [show (decide (1 ≤ k) && decide (k ≤ 1000000)) = btw k 1 1000000 from rfl]
    by_cases h3 : btw k 1 1000000 = true
    ·rw [h3]
     go_wp2_with fail
     refine (right_is a b e _).mono ?_
     rintro e w6 ⟨rfl,hb6⟩
     have B6:=B0.trans (hb6.mono B0.size)
     clear d0 d1 d2 d3 d4 d5 d6 d7
     have T6:=T0.later hb6 Z0.out
     have Z6 : Hid (w.heap.size < w6.heap.size):=Nat.lt_of_lt_of_le Z0.out hb6.size
     clear T0 Z0 hb6
     have d0:=T6.at 0 rfl
     have d1:=T6.at 1 rfl
     have d2:=T6.at 2 rfl
     have d3:=T6.at 3 rfl
     have d4:=T6.at 4 rfl
     have d5:=T6.at 5 rfl
     have d6:=T6.at 6 rfl
     have d7:=T6.at 7 rfl
     by_cases h4 : rOk a b e = true
     ·rw [h4]
      go_wp2_with fail
      refine (impl_ok tk _ (by omega)).mono ?_
      rintro e w7 ⟨rfl,hb7⟩
      have B7:=B6.trans (hb7.mono B6.size)
      clear d0 d1 d2 d3 d4 d5 d6 d7
      have T7:=T6.later hb7 Z6.out
      have Z7 : Hid (w.heap.size < w7.heap.size):=Nat.lt_of_lt_of_le Z6.out hb7.size
      clear T6 Z6 hb7
      have d0:=T7.at 0 rfl
      have d1:=T7.at 1 rfl
      have d2:=T7.at 2 rfl
      have d3:=T7.at 3 rfl
      have d4:=T7.at 4 rfl
      have d5:=T7.at 5 rfl
      have d6:=T7.at 6 rfl
      have d7:=T7.at 7 rfl
      clear d0 d1 d2 d3 d4 d5 d6 d7
      generalize hval : isT tk = bb
      go_wp2
      go_ret
      exact ⟨by unfold crOk; rw [h0,h1,h2,h3,h4,hval]; rfl,B7⟩
     ·rw [Bool.not_eq_true] at h4
      rw [h4]
      clear d0 d1 d2 d3 d4 d5 d6 d7
      go_wp2
      go_ret
      exact ⟨by unfold crOk; rw [h0,h1,h2,h3,h4]; rfl,B6⟩
    ·rw [Bool.not_eq_true] at h3
     rw [h3]
     clear d0 d1 d2 d3 d4 d5 d6 d7
     go_wp2
     go_ret
     exact ⟨by unfold crOk; rw [h0,h1,h2,h3]; rfl,B0⟩
   ·rw [Bool.not_eq_true] at h2
    rw [h2]
    clear d0 d1 d2 d3 d4 d5 d6 d7
    go_wp2
    go_ret
    exact ⟨by unfold crOk; rw [h0,h1,h2]; rfl,B0⟩
  ·rw [Bool.not_eq_true] at h1
   rw [h1]
   clear d0 d1 d2 d3 d4 d5 d6 d7
   go_wp2
   go_ret
   exact ⟨by unfold crOk; rw [h0,h1]; rfl,B0⟩
 ·rw [Bool.not_eq_true] at h0
  rw [h0]
  clear d0 d1 d2 d3 d4 d5 d6 d7
  go_wp2
  go_ret
  exact ⟨by unfold crOk; rw [h0]; rfl,B0⟩
set_option maxRecDepth 100000 in
set_option maxHeartbeats 1600000 in
theorem specCred_is (o cl sv k a b e : Int) (tk : ByteArray) (w : World) (ht : tk.size ≤ 1048576) : Calls Tryz.prog 26 #[.agg #[I o,I cl,I sv,I k,I a,I b,I e,.string tk]] w fun en w' => en = .returned (.bool (crOk o cl sv k a b e tk)) ∧ Below w.heap.size w w':=by
 obtain ⟨W1,hW1⟩ : ∃ W1,w.alloc (.cells #[I o,I cl,I sv,I k,I a,I b,I e,.string tk] 72) = W1:=⟨_,rfl⟩
 have B0 : Below w.heap.size w W1:=by rw [← hW1]; exact (Below.refl _ _).alloc (Nat.le_refl _) _
 have T0 : Blk w.heap.size [I o,I cl,I sv,I k,I a,I b,I e,.string tk] W1:=by rw [← hW1]; exact Blk.new _ _ _
 have Z0 : Hid (w.heap.size < W1.heap.size):=by show _ < _; rw [← hW1]; simp
 have d0:=T0.at 0 rfl
 have d1:=T0.at 1 rfl
 have d2:=T0.at 2 rfl
 have d3:=T0.at 3 rfl
 have d4:=T0.at 4 rfl
 have d5:=T0.at 5 rfl
 have d6:=T0.at 6 rfl
 have d7:=T0.at 7 rfl
 go_enter Tryz.func26,Tryz.ntmps26
 go_wp2_with fail
 try rw [hW1]
 refine (spec_prin o _).mono ?_
 clear hW1
 rintro e wx ⟨rfl,rfl⟩
 by_cases h0 : btw o 0 5 = true
 ·rw [h0]
  go_wp2_with fail
  refine (spec_prin cl _).mono ?_
  rintro e wx ⟨rfl,rfl⟩
  by_cases h1 : btw cl 0 5 = true
  ·rw [h1]
   go_wp2_with fail
   refine (spec_serv sv _).mono ?_
   rintro e wx ⟨rfl,rfl⟩
   by_cases h2 : svOk sv = true
   ·rw [h2]
    go_wp2_with fail
    refine (in_is k 1 1000000 _).mono ?_
    rintro e wx ⟨rfl,rfl⟩
    rw [show (decide (1 ≤ k) && decide (k ≤ 1000000)) = btw k 1 1000000 from rfl]
    by_cases h3 : btw k 1 1000000 = true
    ·rw [h3]
     go_wp2_with fail
     refine (specOk_is a b e _).mono ?_
     rintro e w6 ⟨rfl,hb6⟩
     have B6:=B0.trans (hb6.mono B0.size)
     clear d0 d1 d2 d3 d4 d5 d6 d7
     have T6:=T0.later hb6 Z0.out
     have Z6 : Hid (w.heap.size < w6.heap.size):=Nat.lt_of_lt_of_le Z0.out hb6.size
     clear T0 Z0 hb6
     have d0:=T6.at 0 rfl
     have d1:=T6.at 1 rfl
     have d2:=T6.at 2 rfl
     have d3:=T6.at 3 rfl
     have d4:=T6.at 4 rfl
     have d5:=T6.at 5 rfl
     have d6:=T6.at 6 rfl
     have d7:=T6.at 7 rfl
     by_cases h4 : rOk a b e = true
     ·rw [h4]
      go_wp2_with fail
      refine (spec_ok tk _ ht).mono ?_
      rintro e w7 ⟨rfl,hb7⟩
      have B7:=B6.trans (hb7.mono B6.size)
      clear d0 d1 d2 d3 d4 d5 d6 d7
      have T7:=T6.later hb7 Z6.out
      have Z7 : Hid (w.heap.size < w7.heap.size):=Nat.lt_of_lt_of_le Z6.out hb7.size
      clear T6 Z6 hb7
      have d0:=T7.at 0 rfl
      have d1:=T7.at 1 rfl
      have d2:=T7.at 2 rfl
      have d3:=T7.at 3 rfl
      have d4:=T7.at 4 rfl
      have d5:=T7.at 5 rfl
      have d6:=T7.at 6 rfl
      have d7:=T7.at 7 rfl
      clear d0 d1 d2 d3 d4 d5 d6 d7
      generalize hval : isT tk = bb
      go_wp2
      go_ret
      exact ⟨by unfold crOk; rw [h0,h1,h2,h3,h4,hval]; rfl,B7⟩
     ·rw [Bool.not_eq_true] at h4
      rw [h4]
      clear d0 d1 d2 d3 d4 d5 d6 d7
      go_wp2
      go_ret
      exact ⟨by unfold crOk; rw [h0,h1,h2,h3,h4]; rfl,B6⟩
    ·rw [Bool.not_eq_true] at h3
     rw [h3]
     clear d0 d1 d2 d3 d4 d5 d6 d7
     go_wp2
     go_ret
     exact ⟨by unfold crOk; rw [h0,h1,h2,h3]; rfl,B0⟩
   ·rw [Bool.not_eq_true] at h2
    rw [h2]
    clear d0 d1 d2 d3 d4 d5 d6 d7
    go_wp2
    go_ret
    exact ⟨by unfold crOk; rw [h0,h1,h2]; rfl,B0⟩
  ·rw [Bool.not_eq_true] at h1
   rw [h1]
   clear d0 d1 d2 d3 d4 d5 d6 d7
   go_wp2
   go_ret
   exact ⟨by unfold crOk; rw [h0,h1]; rfl,B0⟩
 ·rw [Bool.not_eq_true] at h0
  rw [h0]
  clear d0 d1 d2 d3 d4 d5 d6 d7
  go_wp2
  go_ret
  exact ⟨by unfold crOk; rw [h0]; rfl,B0⟩
end Go.Proofs.YtlmpfkbgknbcnaaGreat

set_option linter.unusedVariables false
namespace Go.Proofs.YtlmpfkbgknbcnaaGreat.Kn
open Go.RowKit Own Var Term
theorem RowAt.take {α : Type} {f : α → Value} {w : World} {a : Option Addr} {xs : List α} (h : RowAt f w a xs) (k : Nat) : RowAt f w a (xs.take k):=by
 intro j hj
 rw [List.length_take] at hj
 obtain ⟨b,off,e,hlt,hc⟩:=h j (by omega)
 exact ⟨b,off,e,hlt,by rw [hc,List.getElem_take]⟩
theorem mem_take_succ {α : Type} {xs : List α} {k : Nat} (h : k < xs.length) (x : α) : x ∈ xs.take (k + 1) ↔ x ∈ xs.take k ∨ x = xs[k]:=by
 rw [List.take_succ_eq_append_getElem h,List.mem_append,List.mem_singleton]
theorem same_list {x y : ByteArray} (h : ¬ x = y) : (x.toList == y.toList) = false:=by
 rw [Bool.eq_false_iff]
 intro hh
 have h2:=eq_of_beq hh
 rw [ByteArray.toList_eq,ByteArray.toList_eq] at h2
 exact h (ext_list h2)
/-- Is x among them? -/
def inB (xs : List ByteArray) (x : ByteArray) : Bool:=xs.any fun y => y.toList == x.toList
theorem inB_iff (xs : List ByteArray) (x : ByteArray) : inB xs x = true ↔ x ∈ xs:=by
 unfold inB
 rw [List.any_eq_true]
 constructor
 ·rintro ⟨y,hy,he⟩
  have h2:=eq_of_beq he
  rw [ByteArray.toList_eq,ByteArray.toList_eq] at h2
  rwa [← ext_list h2]
 ·intro h
  exact ⟨x,h,beq_self_eq_true _⟩
theorem inB_no {xs : List ByteArray} {x : ByteArray} (h : ¬ x ∈ xs) : inB xs x = false:=by
 rw [Bool.eq_false_iff]; intro hh; exact h ((inB_iff xs x).1 hh)
set_option maxRecDepth 100000 in
set_option maxHeartbeats 800000 in
theorem index_is (a : Option Addr) (cap : Nat) (xs : List ByteArray) (x : ByteArray) (w : World) (hr : RowAt Value.string w a xs) (hl : xs.length ≤ 1048576) :
  Calls Tryz.prog 203 #[.slice a xs.length cap,.string x] w fun e w' => ∃ r : Int,e = .returned (I r) ∧ (0 ≤ r ↔ x ∈ xs) ∧ w = w':=by
 go_enter Tryz.func203,Tryz.ntmps203
 go_wp2
 go_loop [8] (fun i => ∃ k : Nat,k ≤ xs.length ∧ i = I k ∧ Hid (¬ x ∈ xs.take k)) (fun i => xs.length - (intOf i).toNat)
 case atStart => exact ⟨0,by omega,rfl,by simp [Hid]⟩
 case round =>
  obtain ⟨k,hk,rfl,hx⟩:=hrel
  by_cases hlt : k < xs.length
  ·obtain ⟨b1,o1,rfl,l1,hc1⟩:=hr k hlt
   have HM : Hid (x ∈ xs.take (k + 1) ↔ x ∈ xs.take k ∨ x = xs[k]):=mem_take_succ hlt x
   have HI : Hid (xs[k] ∈ xs):=List.getElem_mem hlt
   generalize xs[k] = y at hc1 HM HI
   by_cases he : x = y
   ·subst he
    have hd : (x.toList == x.toList) = true:=beq_self_eq_true _
    go_wp2
    all_goals
     go_ret
     exact ⟨k,rfl,⟨fun _ => HI.out,fun _ => by omega⟩,rfl⟩
   ·have hd:=same_list he
    have HN : Hid (¬ x ∈ xs.take (k + 1)):=by
     intro h
     rcases HM.out.1 h with h | h
     ·exact hx.out h
     ·exact he h
    go_wp2
    go_round
    case rel => exact ⟨k + 1,by omega,by go_num,HN⟩
    case measure => simp [intOf]; omega
  ·go_wp2
   go_ret
   exact ⟨-1,rfl,⟨fun h => absurd h (by omega),fun h => absurd h (by have:=hx.out; rwa [List.take_of_length_le (by omega)] at this)⟩,rfl⟩
set_option maxRecDepth 100000 in
theorem contains_is (a : Option Addr) (cap : Nat) (xs : List ByteArray) (x : ByteArray) (w : World) (hr : RowAt Value.string w a xs) (hl : xs.length ≤ 1048576) :
  Calls Tryz.prog 170 #[.slice a xs.length cap,.string x] w fun e w' => e = .returned (.bool (inB xs x)) ∧ w = w':=by
 go_enter Tryz.func170,Tryz.ntmps170
 go_wp2_with fail
 refine (index_is a cap xs x w hr hl).mono ?_
 rintro e w1 ⟨r,rfl,hR,rfl⟩
 go_wp2
 go_ret
 refine ⟨?_,rfl⟩
 have h2 : decide (r ≥ 0) = inB xs x:=by
  rw [Bool.eq_iff_iff,decide_eq_true_iff,inB_iff]
  exact hR
 rw [← h2]
 rfl
set_option maxRecDepth 100000 in
set_option maxHeartbeats 800000 in
theorem l3In_is (a : Option Addr) (cap : Nat) (xs : List ByteArray) (x : ByteArray) (w : World) (hr : RowAt Value.string w a xs) (hl : xs.length ≤ 1048576) :
  Calls Tryz.prog 64 #[.slice a xs.length cap,.string x] w fun e w' => e = .returned (.bool (inB xs x)) ∧ w = w':=by
 go_enter Tryz.func64,Tryz.ntmps64
 go_wp2
 go_loop [5] (fun i => ∃ k : Nat,k ≤ xs.length ∧ i = I k ∧ Hid (¬ x ∈ xs.take k)) (fun i => xs.length - (intOf i).toNat)
 case atStart => exact ⟨0,by omega,rfl,by simp [Hid]⟩
 case round =>
  obtain ⟨k,hk,rfl,hx⟩:=hrel
  by_cases hlt : k < xs.length
  ·obtain ⟨b1,o1,rfl,l1,hc1⟩:=hr k hlt
   have HM : Hid (x ∈ xs.take (k + 1) ↔ x ∈ xs.take k ∨ x = xs[k]):=mem_take_succ hlt x
   have HI : Hid (xs[k] ∈ xs):=List.getElem_mem hlt
   generalize xs[k] = y at hc1 HM HI
   by_cases he : y = x
   ·subst he
    have hd : (y.toList == y.toList) = true:=beq_self_eq_true _
    have hT : inB xs y = true:=(inB_iff _ _).2 HI.out
    go_wp2
    all_goals
     go_ret
     exact ⟨by first | rfl | (rw [hT]; rfl),rfl⟩
   ·have hd:=same_list he
    have HN : Hid (¬ x ∈ xs.take (k + 1)):=by
     intro h
     rcases HM.out.1 h with h | h
     ·exact hx.out h
     ·exact he h.symm
    go_wp2
    go_round
    case rel => exact ⟨k + 1,by omega,by go_num,HN⟩
    case measure => simp [intOf]; omega
  ·have hF : inB xs x = false:=by have:=hx.out; rw [List.take_of_length_le (by omega)] at this; exact inB_no this
   go_wp2
   go_ret
   exact ⟨by first | rfl | (rw [hF]; rfl),rfl⟩
end Go.Proofs.YtlmpfkbgknbcnaaGreat.Kn

set_option linter.unusedVariables false
namespace Go.Proofs.YtlmpfkbgknbcnaaGreat.Kn
open Go.RowKit Own Var Term
def goodT (xs : List ByteArray) (j : Nat) : Bool:=isT (xs.getD j ⟨#[]⟩) && !(inB (xs.take j) (xs.getD j ⟨#[]⟩))
def kTerms (xs : List ByteArray) : Bool:=(List.range xs.length).all (goodT xs)
theorem kTerms_no {xs : List ByteArray} {j : Nat} (hj : j < xs.length) (h : goodT xs j = false) : kTerms xs = false:=by
 rw [Bool.eq_false_iff]; unfold kTerms; intro hh
 rw [List.all_eq_true] at hh
 rw [hh j (List.mem_range.2 hj)] at h; cases h
theorem kTerms_yes {xs : List ByteArray} (h : ∀ j,j < xs.length → goodT xs j = true) : kTerms xs = true:=by
 unfold kTerms; rw [List.all_eq_true]; intro j hj; exact h j (List.mem_range.1 hj)
theorem goodT_at {xs : List ByteArray} {j : Nat} (h : j < xs.length) : goodT xs j = (isT xs[j] && !(inB (xs.take j) xs[j])):=by
 unfold goodT; rw [List.getD_eq_getElem?_getD,List.getElem?_eq_getElem h]; rfl
set_option maxRecDepth 100000 in
set_option maxHeartbeats 800000 in
theorem unlike_is (a : Option Addr) (cap : Nat) (xs : List ByteArray) (w : World) (hr : RowAt Value.string w a xs) (hl : xs.length ≤ 1048576) (hcap : xs.length ≤ cap) (hs : ∀ x ∈ xs,x.size ≤ 1048576) :
  Calls Tryz.prog 127 #[.slice a xs.length cap] w fun e w' => e = .returned (.bool (kTerms xs)) ∧ Below w.heap.size w w':=by
 go_enter Tryz.func127,Tryz.ntmps127
 go_wp2
 go_loopw [7] (fun i wr => ∃ k : Nat,k ≤ xs.length ∧ i = I k ∧ Hid (∀ j,j < k → goodT xs j = true) ∧ Below w.heap.size w wr) (fun i _ => xs.length - (intOf i).toNat)
 case atStart => exact ⟨0,by omega,rfl,fun j hj => absurd hj (by omega),Below.refl _ _⟩
 case round =>
  obtain ⟨k,hk,rfl,hx,hbel⟩:=hrel
  by_cases hlt : k < xs.length
  ·obtain ⟨b1,o1,rfl,l1,hc1⟩:=hr k hlt
   rw [← hbel.cell (p:=⟨b1,o1 + k,none⟩) l1] at hc1
   have hG:=goodT_at hlt
   have hz:=hs _ (List.getElem_mem hlt)
   have htk : (xs.take k).length = k:=by rw [List.length_take]; omega
   have hC:=fun w' (hb : Below w.heap.size w w') => contains_is (some ⟨b1,o1,none⟩) cap (xs.take k) xs[k] w' (RowAt.take (hr.later hb) k) (by omega)
   rw [htk] at hC
   generalize xs[k] = y at hc1 hG hz hC
   have hO:=fun w' => impl_ok y w' (by omega)
   cases hT : isT y with
   | false =>
    rw [hT] at hG hO
    have hF : kTerms xs = false:=kTerms_no hlt (by rw [hG]; rfl)
    clear hG hT hC
    go_wp2_with fail
    refine (hO _).mono ?_
    rintro e w1 ⟨rfl,hb1⟩
    have hb2:=hbel.trans (hb1.mono hbel.size)
    go_wp2
    all_goals
     go_ret
     exact ⟨by first | rfl | (rw [hF]; rfl),hb2⟩
   | true =>
    rw [hT] at hG hO
    clear hT
    cases hI : inB (xs.take k) y with
    | true =>
     rw [hI] at hG
     simp only [hI] at hC
     have hF : kTerms xs = false:=kTerms_no hlt (by rw [hG]; rfl)
     clear hG hI
     go_wp2_with fail
     refine (hO _).mono ?_
     rintro e w1 ⟨rfl,hb1⟩
     have hb2:=hbel.trans (hb1.mono hbel.size)
     go_wp2_with fail
     refine (hC _ hb2).mono ?_
     rintro e w2 ⟨rfl,rfl⟩
     go_wp2
     all_goals
      go_ret
      exact ⟨by first | rfl | (rw [hF]; rfl),hb2⟩
    | false =>
     rw [hI] at hG
     simp only [hI] at hC
     have HN : Hid (∀ j,j < k + 1 → goodT xs j = true):=by
      intro j hj
      by_cases e : j = k
      ·subst e; rw [hG]; rfl
      ·exact hx.out j (by omega)
     clear hG hI
     go_wp2_with fail
     refine (hO _).mono ?_
     rintro e w1 ⟨rfl,hb1⟩
     have hb2:=hbel.trans (hb1.mono hbel.size)
     go_wp2_with fail
     refine (hC _ hb2).mono ?_
     rintro e w2 ⟨rfl,rfl⟩
     clear hbel hb1
     go_wp2
     go_roundw
     case rel => exact ⟨k + 1,by omega,by go_num,HN,hb2⟩
     case measure => simp [intOf]; omega
  ·have hF : kTerms xs = true:=kTerms_yes (fun j hj => hx.out j (by omega))
   go_wp2
   go_ret
   exact ⟨by first | rfl | (rw [hF]; rfl),hbel⟩
def goodK (ks : List Int) (j : Nat) : Bool:=(decide (1 ≤ ks.getD j 0) && decide (ks.getD j 0 ≤ 1000000)) && (j == 0 || decide (ks.getD (j - 1) 0 < ks.getD j 0))
def kKeys (ks : List Int) : Bool:=(List.range ks.length).all (goodK ks)
theorem kKeys_no {xs : List Int} {j : Nat} (hj : j < xs.length) (h : goodK xs j = false) : kKeys xs = false:=by
 rw [Bool.eq_false_iff]; unfold kKeys; intro hh
 rw [List.all_eq_true] at hh
 rw [hh j (List.mem_range.2 hj)] at h; cases h
theorem kKeys_yes {xs : List Int} (h : ∀ j,j < xs.length → goodK xs j = true) : kKeys xs = true:=by
 unfold kKeys; rw [List.all_eq_true]; intro j hj; exact h j (List.mem_range.1 hj)
theorem getD_at {xs : List Int} {j : Nat} (h : j < xs.length) : xs.getD j 0 = xs[j]:=by
 rw [List.getD_eq_getElem?_getD,List.getElem?_eq_getElem h]; rfl
/-- The key ahead of place k; 0 ahead of the first. -/
def lastK (ks : List Int) (k : Nat) : Int:=if k = 0 then 0 else ks.getD (k - 1) 0
theorem goodK_at {ks : List Int} {k : Nat} (h : k < ks.length) : goodK ks k = ((decide (1 ≤ ks[k]) && decide (ks[k] ≤ 1000000)) && decide (lastK ks k < ks[k])):=by
 unfold goodK lastK
 rw [getD_at h]
 by_cases e : k = 0
 ·subst e
  simp
  omega
 ·have e' : (k == 0) = false:=by simpa using e
  simp [e,e']
set_option maxRecDepth 100000 in
set_option maxHeartbeats 800000 in
theorem rising_is (a : Option Addr) (cap : Nat) (ks : List Int) (w : World) (hr : RowAt (Value.int .i64) w a ks) (hl : ks.length ≤ 1048576) :
  Calls Tryz.prog 128 #[.slice a ks.length cap] w fun e w' => e = .returned (.bool (kKeys ks)) ∧ w = w':=by
 go_enter Tryz.func128,Tryz.ntmps128
 go_wp2
 go_loop [3,8] (fun l i => ∃ k : Nat,k ≤ ks.length ∧ i = I k ∧ l = I (lastK ks k) ∧ Hid (∀ j,j < k → goodK ks j = true)) (fun _ i => ks.length - (intOf i).toNat)
 case atStart => exact ⟨0,by omega,rfl,rfl,fun j hj => absurd hj (by omega)⟩
 case round =>
  obtain ⟨k,hk,rfl,rfl,hx⟩:=hrel
  by_cases hlt : k < ks.length
  ·obtain ⟨b1,o1,rfl,l1,hc1⟩:=hr k hlt
   have hG:=goodK_at hlt
   have hL : lastK ks (k + 1) = ks[k]:=by unfold lastK; rw [if_neg (by omega),Nat.add_sub_cancel,getD_at hlt]
   have hO:=fun w' => keyOk_is ks[k] w'
   generalize ks[k] = y at hc1 hG hL hO
   generalize hLk : lastK ks k = L at hG
   cases hT : (decide (1 ≤ y) && decide (y ≤ 1000000)) with
   | false =>
    rw [hT] at hG hO
    have hF : kKeys ks = false:=kKeys_no hlt (by rw [hG]; rfl)
    clear hG hT
    go_wp2_with fail
    refine (hO _).mono ?_
    rintro e w1 ⟨rfl,rfl⟩
    go_wp2
    all_goals
     go_ret
     exact ⟨by first | rfl | (rw [hF]; rfl),rfl⟩
   | true =>
    rw [hT] at hG hO
    clear hT
    by_cases hI : L < y
    ·have hI' : decide (y ≤ L) = false:=by simp; omega
     rw [decide_eq_true hI] at hG
     have HN : Hid (∀ j,j < k + 1 → goodK ks j = true):=by
      intro j hj
      by_cases e : j = k
      ·subst e; rw [hG]; rfl
      ·exact hx.out j (by omega)
     clear hG
     go_wp2_with fail
     refine (hO _).mono ?_
     rintro e w1 ⟨rfl,rfl⟩
     go_wp2
     go_round
     case rel => exact ⟨k + 1,by omega,by go_num,by rw [hL],HN⟩
     case measure => simp [intOf]; omega
    ·have hI' : decide (y ≤ L) = true:=by simp; omega
     rw [decide_eq_false hI] at hG
     have hF : kKeys ks = false:=kKeys_no hlt (by rw [hG]; rfl)
     clear hG
     go_wp2_with fail
     refine (hO _).mono ?_
     rintro e w1 ⟨rfl,rfl⟩
     go_wp2
     all_goals
      go_ret
      exact ⟨by first | rfl | (rw [hF]; rfl),rfl⟩
  ·have hF : kKeys ks = true:=kKeys_yes (fun j hj => hx.out j (by omega))
   go_wp2
   go_ret
   exact ⟨by first | rfl | (rw [hF]; rfl),rfl⟩
end Go.Proofs.YtlmpfkbgknbcnaaGreat.Kn

set_option linter.unusedVariables false
namespace Go.Proofs.YtlmpfkbgknbcnaaGreat.Kn
open Go.RowKit Own Var Term
def kOk (xs : List ByteArray) (ks : List Int) : Bool:=((decide (xs.length ≤ 60) && kTerms xs) && decide (ks.length ≤ 40)) && kKeys ks
set_option maxRecDepth 100000 in
set_option maxHeartbeats 800000 in
theorem impl_knownOk (a b : Option Addr) (ca cb : Nat) (xs : List ByteArray) (ks : List Int) (w : World) (hr : RowAt Value.string w a xs) (hq : RowAt (Value.int .i64) w b ks)
  (hl : xs.length ≤ 1048576) (hl2 : ks.length ≤ 1048576) (hcap : xs.length ≤ ca) (hs : ∀ x ∈ xs,x.size ≤ 1048576) :
  Calls Tryz.prog 81 #[.agg #[.slice a xs.length ca,.slice b ks.length cb]] w fun e w' => e = .returned (.bool (kOk xs ks)) ∧ Below w.heap.size w w':=by
 have hb0 : Below w.heap.size w (w.alloc (.cells #[.slice a xs.length ca,.slice b ks.length cb] 41)):=(Below.refl _ _).alloc (Nat.le_refl _) _
 have hU:=unlike_is a ca xs _ (hr.later hb0) hl hcap hs
 have hR:=fun w' (hb : Below w.heap.size w w') => rising_is b cb ks w' (hq.later hb) hl2
 unfold kOk
 by_cases h1 : xs.length ≤ 60
 ·have h1' : decide ((xs.length : Int) ≤ 60) = true:=by simp; omega
  rw [decide_eq_true h1]
  cases hT : kTerms xs with
  | false =>
   rw [hT] at hU
   go_enter Tryz.func81,Tryz.ntmps81
   go_wp2_with fail
   refine hU.mono ?_
   rintro e w1 ⟨rfl,hb1⟩
   have hb2:=hb0.trans (hb1.mono hb0.size)
   go_wp2
   go_ret
   exact ⟨rfl,hb2⟩
  | true =>
   rw [hT] at hU
   by_cases h2 : ks.length ≤ 40
   ·have h2' : decide ((ks.length : Int) ≤ 40) = true:=by simp; omega
    rw [decide_eq_true h2]
    go_enter Tryz.func81,Tryz.ntmps81
    go_wp2_with fail
    refine hU.mono ?_
    rintro e w1 ⟨rfl,hb1⟩
    have hb2:=hb0.trans (hb1.mono hb0.size)
    have hc1 : w1.cell? ⟨w.heap.size,1,none⟩ = some (.slice b ks.length cb):=(hb1.cell (p:=⟨w.heap.size,1,none⟩) (by simp)).trans (by simp [go_sem])
    go_wp2_with fail
    refine (hR _ hb2).mono ?_
    rintro e w2 ⟨rfl,rfl⟩
    go_wp2
    go_ret
    exact ⟨by simp,hb2⟩
   ·have h2' : decide ((ks.length : Int) ≤ 40) = false:=by simp; omega
    rw [decide_eq_false h2]
    go_enter Tryz.func81,Tryz.ntmps81
    go_wp2_with fail
    refine hU.mono ?_
    rintro e w1 ⟨rfl,hb1⟩
    have hb2:=hb0.trans (hb1.mono hb0.size)
    have hc1 : w1.cell? ⟨w.heap.size,1,none⟩ = some (.slice b ks.length cb):=(hb1.cell (p:=⟨w.heap.size,1,none⟩) (by simp)).trans (by simp [go_sem])
    go_wp2
    go_ret
    exact ⟨rfl,hb2⟩
 ·have h1' : decide ((xs.length : Int) ≤ 60) = false:=by simp; omega
  rw [decide_eq_false h1]
  go_enter Tryz.func81,Tryz.ntmps81
  go_wp2
  go_ret
  exact ⟨rfl,hb0⟩
end Go.Proofs.YtlmpfkbgknbcnaaGreat.Kn
