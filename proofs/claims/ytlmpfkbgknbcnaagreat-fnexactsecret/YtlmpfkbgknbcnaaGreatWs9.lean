/- Worlds that hold the same are as right, and as great. -/
import Derived.Test.YtlmpfkbgknbcnaaGreatWs8
import Derived.Test.YtlmpfkbgknbcnaaGreatNo1
import Derived.Test.YtlmpfkbgknbcnaaGreatAb
import Derived.Test.YtlmpfkbgknbcnaaGreatConf2
import Derived.Test.YtlmpfkbgknbcnaaGreatRi
import Derived.Test.YtlmpfkbgknbcnaaGreatCpA
import Derived.Test.YtlmpfkbgknbcnaaGreatPair2
import Derived.Deep.RegionWith
set_option linter.unusedVariables false
set_option maxRecDepth 100000
namespace Go.Proofs.YtlmpfkbgknbcnaaGreat.Nd
open Go Go.RowKit Go.Joins Own Draw Term
theorem sum_map {α β : Type} (f : β → Nat) (g : α → β) (h : α → Nat) (e : ∀ x,h x = f (g x)) (l : List α) : (l.map h).sum = ((l.map g).map f).sum:=by
 rw [List.map_map]; congr 1; exact List.map_congr_left (fun x _ => e x)
theorem tot_st {d d' : TD} (h : stD d = stD d') : totD d = totD d':=by
 obtain ⟨f0,f1,f2,f3,f4,f5,f6,f7,f8,f9,f10⟩:=d
 obtain ⟨g0,g1,g2,g3,g4,g5,g6,g7,g8,g9,g10⟩:=d'
 unfold stD at h
 simp only [Prod.mk.injEq] at h
 obtain ⟨e0,e1,e2,e3,e4,e5,e6,e7,e8,e9,e10⟩:=h
 have q0 : totF f0 = totF g0:=by
  unfold stF at e0
  simp only [Prod.mk.injEq] at e0
  obtain ⟨a0,a1,a2,a3,a4⟩:=e0
  unfold totF rtI rtP
  rw [rsI_len a0,rsI_len a1,rsP_len a2,rsP_len a3]
 have q4 : totN f4 = totN g4:=by
  unfold stN at e4
  simp only [Prod.mk.injEq] at e4
  obtain ⟨a0,a1⟩:=e4
  unfold rsS at a0
  unfold totN rtS rtI
  rw [a0,rsI_len a1]
 have q3 : rtS f3 = rtS g3:=by unfold rsS at e3; unfold rtS; rw [e3]
 have q5 : rtW f5 = rtW g5:=rsW_len e5
 have q6 : rtC f6 = rtC g6:=by unfold rsC at e6; unfold rtC; rw [e6]
 have q8 : rtE f8 = rtE g8:=rsE_len e8
 have q10 : rtI f10 = rtI g10:=rsI_len e10
 have q7 : rtK f7 = rtK g7:=by
  have hl:=rsK_len e7
  unfold rsK at e7
  unfold rtK
  rw [hl,sum_map (fun q : PK => q.2.length) stK totK (fun x => rfl),sum_map (fun q : PK => q.2.length) stK totK (fun x => rfl),e7]
 have q9 : rtQ f9 = rtQ g9:=by
  have hl:=rsQ_len e9
  unfold rsQ at e9
  unfold rtQ
  rw [hl,sum_map (fun q : PQ => q.2.2.2.2.2.2.2.1.length + q.2.2.2.2.2.2.2.2.1.length + q.2.2.2.2.2.2.2.2.2.2.size) stQ totQ (fun x => rfl),sum_map (fun q : PQ => q.2.2.2.2.2.2.2.1.length + q.2.2.2.2.2.2.2.2.1.length + q.2.2.2.2.2.2.2.2.2.2.size) stQ totQ (fun x => rfl),e9]
 unfold totD
 dsimp only
 rw [q0,q3,q4,q5,q6,q7,q8,q9,q10]
theorem all_map_eq {α β : Type} (f : β → Bool) (g : α → β) (h : α → Bool) (e : ∀ x,h x = f (g x)) (l : List α) : (l.all h) = ((l.map g).all f):=by
 rw [List.all_map]; congr 1; funext x; exact e x
theorem wok_st {d d' : TD} (h : stD d = stD d') : wokB d = wokB d':=by
 obtain ⟨f0,f1,f2,f3,f4,f5,f6,f7,f8,f9,f10⟩:=d
 obtain ⟨g0,g1,g2,g3,g4,g5,g6,g7,g8,g9,g10⟩:=d'
 unfold stD at h
 simp only [Prod.mk.injEq] at h
 obtain ⟨e0,e1,e2,e3,e4,e5,e6,e7,e8,e9,e10⟩:=h
 have q0 : confB (cfOf f0) = confB (cfOf g0):=by
  unfold stF rsI rsP at e0
  simp only [Prod.mk.injEq] at e0
  obtain ⟨a0,a1,a2,a3,a4⟩:=e0
  unfold confB cfOf
  dsimp only
  rw [a0,a1,a2,a3,a4]
 have q4 : knB f4 = knB g4:=by
  unfold stN rsS rsI at e4
  simp only [Prod.mk.injEq] at e4
  obtain ⟨a0,a1⟩:=e4
  unfold knB
  rw [a0,a1]
 have l7:=rsK_len e7
 have l8:=rsE_len e8
 have l9:=rsQ_len e9
 have l10:=rsI_len e10
 have q7 : (f7.2.2.all fun x => caB x) = (g7.2.2.all fun x => caB x):=by
  unfold rsK at e7
  rw [all_map_eq (fun q : PK => Ch.cOk q.1 q.2) stK (fun x => caB x) (fun x => rfl),all_map_eq (fun q : PK => Ch.cOk q.1 q.2) stK (fun x => caB x) (fun x => rfl),e7]
 have q9 : ∀ n,(f9.2.2.all fun x => acB n x) = (g9.2.2.all fun x => acB n x):=by
  intro n
  unfold rsQ at e9
  rw [all_map_eq (fun q : PQ => btw q.1 0 2 && (btw q.2.1 0 5 && (btw q.2.2.2.2.2.2.2.2.2.1 0 (n : Int) && (allB q.2.2.2.2.2.2.2.1 6 && allB q.2.2.2.2.2.2.2.2.1 4)))) stQ (fun x => acB n x) (fun x => rfl),all_map_eq (fun q : PQ => btw q.1 0 2 && (btw q.2.1 0 5 && (btw q.2.2.2.2.2.2.2.2.2.1 0 (n : Int) && (allB q.2.2.2.2.2.2.2.1 6 && allB q.2.2.2.2.2.2.2.2.1 4)))) stQ (fun x => acB n x) (fun x => rfl),e9]
 unfold rsS at e3
 unfold rsW at e5
 unfold rsC at e6
 unfold wokB endB recB
 dsimp only
 rw [q0,q4,q7,q9,l7,l8,l9,l10,e1,e2,e3,e5,e6]
theorem wd_of {B : Nat} {w : World} {d y : TD} (ho : OwD B w y) (hs : stD y = stD d) (hl : totD d ≤ 1048576) (hk : OkD d) : WdOk B w y:=by
 refine ⟨ho,by rw [tot_st hs]; exact hl,?_⟩
 have e6 : y.2.2.2.2.2.2.1.2.2 = d.2.2.2.2.2.2.1.2.2:=by
  unfold stD at hs
  simp only [Prod.mk.injEq] at hs
  exact hs.2.2.2.2.2.2.1
 rw [e6]
 intro x hx
 have h6 : RkC d.2.2.2.2.2.2.1:=hk.2.2.2.2.2.1
 exact (h6 x hx).2.2.1
end Go.Proofs.YtlmpfkbgknbcnaaGreat.Nd

set_option linter.unusedVariables false
set_option maxRecDepth 100000
namespace Go.Proofs.YtlmpfkbgknbcnaaGreat
open Go Go.RowKit Draw Var Term
set_option maxRecDepth 100000 in
theorem specRealm_is (n : Int) (w : World) : Calls Tryz.prog 142 #[I n] w fun e w' => e = .returned (.bool (btw n 0 2)) ∧ w = w':=by
 have h : btw n 0 2 = (decide (0 ≤ n) && decide (n < 3)):=by unfold btw; congr 1; apply decide_eq_decide.2; omega
 rw [h]
 by_cases h0 : 0 ≤ n
 ·go_enter Tryz.func142,Tryz.ntmps142
  go_wp2
  go_ret
  exact ⟨by simp [h0],rfl⟩
 ·go_enter Tryz.func142,Tryz.ntmps142
  go_wp2
  go_ret
  exact ⟨by simp; omega,rfl⟩
set_option maxRecDepth 100000 in
theorem implCK_is (r : Int) (w : World) : Calls Tryz.prog 154 #[I r] w fun e w' => e = .returned (I (ckV r)) ∧ w = w':=by
 go_enter Tryz.func154,Tryz.ntmps154
 go_wp2_with fail
 refine (realm_is r _).mono ?_
 rintro e w1 ⟨rfl,rfl⟩
 by_cases h : btw r 0 2 = true
 ·have h':=(btw_iff _ _ _).1 h
  rw [h]
  go_wp2
  go_ret
  exact ⟨congrArg (fun z => Ending.returned (Value.int .i64 z)) (show 21 + r = ckV r from Eq.symm (by unfold ckV; rw [if_pos h])),rfl⟩
 ·skip
  rw [Bool.not_eq_true] at h
  rw [h]
  go_wp2
  go_ret
  exact ⟨congrArg (fun z => Ending.returned (Value.int .i64 z)) (show 0 = ckV r from Eq.symm (by unfold ckV; rw [h,if_neg (by simp)])),rfl⟩
set_option maxRecDepth 100000 in
theorem specCK_is (r : Int) (w : World) : Calls Tryz.prog 96 #[I r] w fun e w' => e = .returned (I (ckV r)) ∧ w = w':=by
 go_enter Tryz.func96,Tryz.ntmps96
 go_wp2_with fail
 refine (specRealm_is r _).mono ?_
 rintro e w1 ⟨rfl,rfl⟩
 by_cases h : btw r 0 2 = true
 ·have h':=(btw_iff _ _ _).1 h
  rw [h]
  go_wp2
  go_ret
  exact ⟨congrArg (fun z => Ending.returned (Value.int .i64 z)) (show 21 + r = ckV r from Eq.symm (by unfold ckV; rw [if_pos h])),rfl⟩
 ·skip
  rw [Bool.not_eq_true] at h
  rw [h]
  go_wp2
  go_ret
  exact ⟨congrArg (fun z => Ending.returned (Value.int .i64 z)) (show 0 = ckV r from Eq.symm (by unfold ckV; rw [h,if_neg (by simp)])),rfl⟩
set_option maxRecDepth 100000 in
theorem implLK_is (a b : Int) (w : World) : Calls Tryz.prog 155 #[I a,I b] w fun e w' => e = .returned (I (lkV a b)) ∧ w = w':=by
 go_enter Tryz.func155,Tryz.ntmps155
 go_wp2_with fail
 refine (realm_is a _).mono ?_
 rintro e w1 ⟨rfl,rfl⟩
 by_cases h : btw a 0 2 = true
 ·have h':=(btw_iff _ _ _).1 h
  rw [h]
  go_wp2_with fail
  refine (realm_is b _).mono ?_
  rintro e w1 ⟨rfl,rfl⟩
  by_cases g : btw b 0 2 = true
  ·have g':=(btw_iff _ _ _).1 g
   rw [g]
   go_wp2
   go_ret
   exact ⟨congrArg (fun z => Ending.returned (Value.int .i64 z)) (show 31 + 3 * a + b = lkV a b from Eq.symm (by unfold lkV; rw [h,g]; rfl)),rfl⟩
  ·rw [Bool.not_eq_true] at g
   rw [g]
   go_wp2
   go_ret
   exact ⟨congrArg (fun z => Ending.returned (Value.int .i64 z)) (show 0 = lkV a b from Eq.symm (by unfold lkV; rw [h,g]; rfl)),rfl⟩
 ·rw [Bool.not_eq_true] at h
  rw [h]
  go_wp2
  go_ret
  exact ⟨congrArg (fun z => Ending.returned (Value.int .i64 z)) (show 0 = lkV a b from Eq.symm (by unfold lkV; rw [h]; rfl)),rfl⟩
set_option maxRecDepth 100000 in
theorem specLK_is (a b : Int) (w : World) : Calls Tryz.prog 97 #[I a,I b] w fun e w' => e = .returned (I (lkV a b)) ∧ w = w':=by
 go_enter Tryz.func97,Tryz.ntmps97
 go_wp2_with fail
 refine (specRealm_is a _).mono ?_
 rintro e w1 ⟨rfl,rfl⟩
 by_cases h : btw a 0 2 = true
 ·have h':=(btw_iff _ _ _).1 h
  rw [h]
  go_wp2_with fail
  refine (specRealm_is b _).mono ?_
  rintro e w1 ⟨rfl,rfl⟩
  by_cases g : btw b 0 2 = true
  ·have g':=(btw_iff _ _ _).1 g
   rw [g]
   go_wp2
   go_ret
   exact ⟨congrArg (fun z => Ending.returned (Value.int .i64 z)) (show 31 + 3 * a + b = lkV a b from Eq.symm (by unfold lkV; rw [h,g]; rfl)),rfl⟩
  ·rw [Bool.not_eq_true] at g
   rw [g]
   go_wp2
   go_ret
   exact ⟨congrArg (fun z => Ending.returned (Value.int .i64 z)) (show 0 = lkV a b from Eq.symm (by unfold lkV; rw [h,g]; rfl)),rfl⟩
 ·rw [Bool.not_eq_true] at h
  rw [h]
  go_wp2
  go_ret
  exact ⟨congrArg (fun z => Ending.returned (Value.int .i64 z)) (show 0 = lkV a b from Eq.symm (by unfold lkV; rw [h]; rfl)),rfl⟩
end Go.Proofs.YtlmpfkbgknbcnaaGreat

set_option linter.unusedVariables false
set_option maxRecDepth 100000
namespace Go.Proofs.YtlmpfkbgknbcnaaGreat.Nd
open Go Go.RowKit Go.Joins Own Draw
set_option maxRecDepth 100000 in
set_option maxHeartbeats 3200000 in
theorem cloI_is (x : Int) (fp : Nat) (w : World) (hfp : fp < w.heap.size) (hc : w.cell? ⟨fp,0,none⟩ = some (.func (.func 78) #[] #[])) (HG : ∀ w',Below w.heap.size w w' → Calls Tryz.prog 78 #[I x] w' fun e w'' => e = .returned (.bool (btw x 1 1000000)) ∧ Below w'.heap.size w' w'') :
  Calls Tryz.prog 158 #[I x,.pointer (some ⟨fp,0,none⟩)] w fun e w' => e = .returned (.bool (!(btw x 1 1000000))) ∧ Below w.heap.size w w':=by
 generalize btw x 1 1000000 = b at HG ⊢
 have BC : Below w.heap.size w w:=Below.refl _ _
 have K1:=HG w BC
 have c0:=hc
 clear HG
 go_enter Tryz.func158,Tryz.ntmps158
 go_wp2_with fail
 refine K1.mono ?_
 clear K1
 rintro en v0 ⟨rfl,hb⟩
 replace BC:=BC.trans (hb.mono BC.size)
 clear hb
 cases b with
 | true =>
  go_wp2
  go_ret
  exact ⟨rfl,BC⟩
 | false =>
  go_wp2
  go_ret
  exact ⟨rfl,BC⟩
set_option maxRecDepth 100000 in
set_option maxHeartbeats 3200000 in
theorem idxI_is (a : Option Addr) (cap : Nat) (xs : List Int) (fp : Nat) (w : World) (hr : RowAt (Value.int .i64) w a xs) (hl : xs.length ≤ 4000000) (hfp : fp < w.heap.size) (hc : w.cell? ⟨fp,0,none⟩ = some (.func (.func 78) #[] #[])) (HG : ∀ x ∈ xs,∀ w',Below w.heap.size w w' → Calls Tryz.prog 78 #[I x] w' fun e w'' => e = .returned (.bool (btw x 1 1000000)) ∧ Below w'.heap.size w' w'') :
  Calls Tryz.prog 199 #[.slice a xs.length cap,.func (.func 158) #[] #[.pointer (some ⟨fp,0,none⟩)]] w fun e w' => IdxP (xs.all (fun x => btw x 1 1000000)) e ∧ Below w.heap.size w w':=by
 go_enter Tryz.func199,Tryz.ntmps199
 go_wp2
 go_loopw [8] (fun i wr => ∃ k : Nat,k ≤ xs.length ∧ i = I k ∧ Hid (∀ j (h : j < xs.length),j < k → (fun x => btw x 1 1000000) xs[j] = true) ∧ Below w.heap.size w wr) (fun i _ => xs.length - (intOf i).toNat)
 case atStart => exact ⟨0,by omega,rfl,fun j h hj => absurd hj (by omega),Below.refl _ _⟩
 case round =>
  obtain ⟨k,hk,rfl,hno,hbel⟩:=hrel
  by_cases hlt : k < xs.length
  ·obtain ⟨b1,o1,rfl,l1,hcc⟩:=hr k hlt
   have c0 : wr.cell? ⟨b1,o1 + k,none⟩ = some (I xs[k]):=(hbel.cell (p:=⟨b1,o1 + k,none⟩) l1).trans hcc
   have hlt2 : (k : Int) < (xs.length : Int):=by omega
   have K1:=cloI_is xs[k] fp wr (Nat.lt_of_lt_of_le hfp hbel.size) ((hbel.cell (p:=⟨fp,0,none⟩) hfp).trans hc) (fun w' hb => HG xs[k] (List.getElem_mem hlt) w' (hbel.trans (hb.mono hbel.size)))
   have hno2 : (fun x => btw x 1 1000000) xs[k] = true → Hid (∀ j (h : j < xs.length),j < k + 1 → (fun x => btw x 1 1000000) xs[j] = true):=fun he j h hj => by
    by_cases e : j = k
    ·subst e; exact he
    ·exact hno.out j h (by omega)
   have hbad : (fun x => btw x 1 1000000) xs[k] = false → Hid (xs.all (fun x => btw x 1 1000000) = false):=fun he => by
    show _ = _
    rw [List.all_eq_false]
    exact ⟨xs[k],List.getElem_mem hlt,fun h => absurd (h.symm.trans he) (by decide)⟩
   clear HG hno
   generalize hxk : xs[k] = x at K1 hno2 hbad c0
   clear hxk hcc
   dsimp only at hno2 hbad
   generalize hb0 : btw x 1 1000000 = b at K1 hno2 hbad
   clear hb0
   go_wp2_with fail
   refine K1.mono ?_
   clear K1 c0
   rintro en v0 ⟨rfl,hb⟩
   replace hbel:=hbel.trans (hb.mono hbel.size)
   clear hb
   cases b with
   | true =>
    have hno3:=hno2 rfl
    clear hno2 hbad
    go_wp2
    go_roundw
    case rel => exact ⟨k + 1,by omega,by go_num,hno3,hbel⟩
    case measure => simp [intOf]; omega
   | false =>
    have hbd:=hbad rfl
    clear hno2 hbad
    go_wp2
    go_ret
    refine ⟨?_,hbel⟩
    rw [hbd.out]
    exact ⟨(k : Int),rfl,by simp⟩
  ·have HV : Hid (xs.all (fun x => btw x 1 1000000) = true):=by
    show _ = _
    rw [List.all_eq_true]
    intro x hx
    obtain ⟨j,hj,rfl⟩:=List.mem_iff_getElem.1 hx
    exact hno.out j hj (by omega)
   have hlt2 : ¬ (k : Int) < (xs.length : Int):=by omega
   clear hno HG hr
   go_wp2
   go_ret
   refine ⟨?_,hbel⟩
   rw [HV.out]
   exact ⟨-1,rfl,by simp⟩
set_option maxRecDepth 100000 in
set_option maxHeartbeats 3200000 in
theorem allI_is (a : Option Addr) (cap : Nat) (xs : List Int) (w : World) (hr : RowAt (Value.int .i64) w a xs) (hl : xs.length ≤ 4000000) (HG : ∀ x ∈ xs,∀ w',Below w.heap.size w w' → Calls Tryz.prog 78 #[I x] w' fun e w'' => e = .returned (.bool (btw x 1 1000000)) ∧ Below w'.heap.size w' w'') :
  Calls Tryz.prog 108 #[.slice a xs.length cap,.func (.func 78) #[] #[]] w fun e w' => e = .returned (.bool (xs.all (fun x => btw x 1 1000000))) ∧ Below w.heap.size w w':=by
 obtain ⟨V,hV⟩ : ∃ V,w.alloc (.cells #[.func (.func 78) #[] #[]] 81) = V:=⟨_,rfl⟩
 have TV : Blk w.heap.size [.func (.func 78) #[] #[]] V:=by rw [← hV]; exact Blk.new _ _ _
 have BC : Below w.heap.size w V:=by rw [← hV]; exact (Below.refl _ _).alloc (Nat.le_refl _) _
 have sV : w.heap.size < V.heap.size:=by rw [← hV]; simp
 have K1:=idxI_is a cap xs w.heap.size V (hr.later BC) hl sV (TV.at 0 rfl) (fun x hx w' hb => HG x hx w' (BC.trans (hb.mono BC.size)))
 clear HG hr TV sV
 generalize xs.all (fun x => btw x 1 1000000) = b at K1 ⊢
 have K2 : Calls Tryz.prog 157 #[.slice a xs.length cap,.func (.func 158) #[] #[.pointer (some ⟨w.heap.size,0,none⟩)]] V fun e w' => e = .returned (.bool (!b)) ∧ Below V.heap.size V w':=by
  go_enter Tryz.func157,Tryz.ntmps157
  go_wp2_with fail
  refine K1.mono ?_
  clear K1
  rintro en v0 ⟨⟨r,rfl,hd⟩,hb⟩
  cases b with
  | true =>
   have hr2 : ¬ (0 ≤ r):=by simpa using hd
   go_wp2
   go_ret
   exact ⟨rfl,hb⟩
  | false =>
   have hr2 : 0 ≤ r:=by simpa using hd
   go_wp2
   go_ret
   exact ⟨rfl,hb⟩
 clear K1
 go_enter Tryz.func108,Tryz.ntmps108
 go_wp2_with fail
 try rw [hV]
 refine K2.mono ?_
 clear K2
 rintro en v0 ⟨rfl,hb⟩
 replace BC:=BC.trans (hb.mono BC.size)
 clear hb
 cases b with
 | true =>
  go_wp2
  go_ret
  exact ⟨rfl,BC⟩
 | false =>
  go_wp2
  go_ret
  exact ⟨rfl,BC⟩
abbrev reE (p : TE) : Int:=p.2.1
abbrev byE (p : TE) : Int:=p.2.2.1
abbrev seE (p : TE) : Int:=p.2.2.2.2.1
/-- The key of a service as principal. -/
def skV (s : Int) : Int:=if btw s 0 2 then pkV (3 + s) else 0
/-- What an event hangs on besides what comes ahead of it. -/
def ownR (p : TE) : List Int:=if kdE p = 1 then [pkV (byE p),ckV (reE p)] else if kdE p = 3 then [lkV (reE p) (wrap64 (seE p - 10))] else [skV (seE p)]
set_option maxRecDepth 100000 in
theorem sk_is (s : Int) (w : World) : Calls Tryz.prog 156 #[I s] w fun e w' => e = .returned (I (skV s)) ∧ w = w':=by
 by_cases h : btw s 0 2 = true
 ·have h':=(btw_iff _ _ _).1 h
  have HV : Hid (skV s = pkV (3 + s)):=by show _ = _; unfold skV; rw [if_pos h]
  have K1:=serv_is s w
  rw [h] at K1
  clear h
  go_enter Tryz.func156,Tryz.ntmps156
  go_wp2_with fail
  refine K1.mono ?_
  rintro e w1 ⟨rfl,rfl⟩
  clear K1
  go_wp2_with fail
  refine (implPK_is (3 + s) _).mono ?_
  rintro e w1 ⟨rfl,rfl⟩
  go_wp2
  go_ret
  exact ⟨by rw [HV.out]; rfl,rfl⟩
 ·rw [Bool.not_eq_true] at h
  have HV : Hid (skV s = 0):=by show _ = _; unfold skV; rw [h]; rfl
  have K1:=serv_is s w
  rw [h] at K1
  clear h
  go_enter Tryz.func156,Tryz.ntmps156
  go_wp2_with fail
  refine K1.mono ?_
  rintro e w1 ⟨rfl,rfl⟩
  clear K1
  go_wp2
  go_ret
  exact ⟨by rw [HV.out]; rfl,rfl⟩
theorem one_lit (W : World) (B : Nat) (vs : List Value) (n : Nat) (hn : vs.length = n) (h1 : n ≤ 2) (hB : B ≤ W.heap.size) : (W.alloc (.cells vs.toArray 3)).ownsRow B 3 1 (.slice (some ⟨W.heap.size,0,none⟩) n n) n vs:=by
 subst hn
 exact World.ownsRow_lit _ _ _ hB (by unfold maxLen; omega) (by simp)
set_option maxRecDepth 100000 in
set_option maxHeartbeats 3200000 in
theorem own_is (p : TE) (w : World) : Calls Tryz.prog 107 #[vE p] w fun e w' => ∃ g c,e = .returned (.slice (some ⟨g,0,none⟩) (ownR p).length c) ∧ w'.ownsRow w.heap.size 3 1 (.slice (some ⟨g,0,none⟩) (ownR p).length c) (ownR p).length (intV (ownR p)) ∧ Below w.heap.size w w':=by
 obtain ⟨p0,p1,p2,p3,p4,p5,p6,p7,p8,p9,p10⟩:=p
 obtain ⟨V,hV⟩ : ∃ V,w.alloc (.cells #[I p0,I p1,I p2,I p3,I p4,I p5,I p6,I p7,I p8,I p9,I p10] 106) = V:=⟨_,rfl⟩
 have TV : Blk w.heap.size [I p0,I p1,I p2,I p3,I p4,I p5,I p6,I p7,I p8,I p9,I p10] V:=by rw [← hV]; exact Blk.new _ _ _
 have bV : Below w.heap.size w V:=by rw [← hV]; exact (Below.refl _ _).alloc (Nat.le_refl _) _
 have d0:=TV.at 0 rfl
 have d1:=TV.at 1 rfl
 have d2:=TV.at 2 rfl
 have d4:=TV.at 4 rfl
 go_enter Tryz.func107,Tryz.ntmps107
 by_cases e1 : p0 = 1
 ·subst e1
  have HO : Hid (ownR (1,p1,p2,p3,p4,p5,p6,p7,p8,p9,p10) = [pkV p2,ckV p1]):=(rfl : ownR (1,p1,p2,p3,p4,p5,p6,p7,p8,p9,p10) = _)
  have HL:=fun U : World => one_lit U w.heap.size [I (pkV p2),I (ckV p1)] 2 rfl (by omega)
  go_wp2
  go_region_with (first | (go_at_call 153; refine (implPK_is _ _).mono ?_; rintro e w1 ⟨rfl,rfl⟩) | (go_at_call 154; refine (implCK_is _ _).mono ?_; rintro e w1 ⟨rfl,rfl⟩))
  all_goals
   go_wp2
   go_ret
   rw [HO.out]
   refine ⟨_,_,rfl,HL _ bV.size,?_⟩
   first | exact bV.drew.alloc bV.size _ | exact (bV.alloc bV.size _).drew
 by_cases e3 : p0 = 3
 ·subst e3
  have HO : Hid (ownR (3,p1,p2,p3,p4,p5,p6,p7,p8,p9,p10) = [lkV p1 (wrap64 (p4 - 10))]):=(rfl : ownR (3,p1,p2,p3,p4,p5,p6,p7,p8,p9,p10) = _)
  have HL:=fun U : World => one_lit U w.heap.size [I (lkV p1 (wrap64 (p4 - 10)))] 1 rfl (by omega)
  go_wp2_with fail
  refine (implLK_is _ _ _).mono ?_
  rintro e w1 ⟨rfl,rfl⟩
  go_wp2
  go_ret
  rw [HO.out]
  exact ⟨_,_,rfl,HL _ bV.size,bV.alloc bV.size _⟩
 ·have HO : Hid (ownR (p0,p1,p2,p3,p4,p5,p6,p7,p8,p9,p10) = [skV p4]):=by
   show ownR (p0,p1,p2,p3,p4,p5,p6,p7,p8,p9,p10) = _
   unfold ownR kdE
   rw [if_neg e1,if_neg e3]
  have HL:=fun U : World => one_lit U w.heap.size [I (skV p4)] 1 rfl (by omega)
  have q1 : (p0 == 1) = false:=beq_eq_false_iff_ne.2 e1
  have q3 : (p0 == 3) = false:=beq_eq_false_iff_ne.2 e3
  clear e1 e3
  go_wp2_with fail
  refine (sk_is p4 _).mono ?_
  rintro e w1 ⟨rfl,rfl⟩
  go_wp2
  go_ret
  rw [HO.out]
  exact ⟨_,_,rfl,HL _ bV.size,bV.alloc bV.size _⟩
end Go.Proofs.YtlmpfkbgknbcnaaGreat.Nd
