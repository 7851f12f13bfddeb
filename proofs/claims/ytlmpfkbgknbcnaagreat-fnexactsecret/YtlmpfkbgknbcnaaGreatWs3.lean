/- All of a row say yes. -/
import Derived.Test.YtlmpfkbgknbcnaaGreatAb
import Derived.Test.YtlmpfkbgknbcnaaGreatConf2
set_option linter.unusedVariables false
set_option maxRecDepth 100000
namespace Go.Proofs.YtlmpfkbgknbcnaaGreat.Nd
open Go Go.RowKit Go.Joins Own Draw Term
def crB (p : TC) : Bool:=crOk p.1 p.2.1 p.2.2.1 p.2.2.2.1 p.2.2.2.2.1 p.2.2.2.2.2.1 p.2.2.2.2.2.2.1 p.2.2.2.2.2.2.2
def caB (p : TK) : Bool:=Ch.cOk p.1 p.2.2.2
set_option maxRecDepth 100000 in
set_option maxHeartbeats 3200000 in
theorem cloC_is (x : TC) (fp : Nat) (w : World) (hfp : fp < w.heap.size) (hc : w.cell? ⟨fp,0,none⟩ = some (.func (.func 132) #[] #[])) (HG : ∀ w',Below w.heap.size w w' → Calls Tryz.prog 132 #[.agg #[I x.1,I x.2.1,I x.2.2.1,I x.2.2.2.1,I x.2.2.2.2.1,I x.2.2.2.2.2.1,I x.2.2.2.2.2.2.1,.string x.2.2.2.2.2.2.2]] w' fun e w'' => e = .returned (.bool (crB x)) ∧ Below w'.heap.size w' w'') :
  Calls Tryz.prog 175 #[.agg #[I x.1,I x.2.1,I x.2.2.1,I x.2.2.2.1,I x.2.2.2.2.1,I x.2.2.2.2.2.1,I x.2.2.2.2.2.2.1,.string x.2.2.2.2.2.2.2],.pointer (some ⟨fp,0,none⟩)] w fun e w' => e = .returned (.bool (!(crB x))) ∧ Below w.heap.size w w':=by
 generalize crB x = b at HG ⊢
 obtain ⟨V,hV⟩ : ∃ V,w.alloc (.cells #[I x.1,I x.2.1,I x.2.2.1,I x.2.2.2.1,I x.2.2.2.2.1,I x.2.2.2.2.2.1,I x.2.2.2.2.2.2.1,.string x.2.2.2.2.2.2.2] 72) = V:=⟨_,rfl⟩
 have TV : Blk w.heap.size [I x.1,I x.2.1,I x.2.2.1,I x.2.2.2.1,I x.2.2.2.2.1,I x.2.2.2.2.2.1,I x.2.2.2.2.2.2.1,.string x.2.2.2.2.2.2.2] V:=by rw [← hV]; exact Blk.new _ _ _
 have BC : Below w.heap.size w V:=by rw [← hV]; exact (Below.refl _ _).alloc (Nat.le_refl _) _
 have K1:=HG V BC
 have c0:=(BC.cell (p:=⟨fp,0,none⟩) hfp).trans hc
 have d0:=TV.at 0 rfl
 have d1:=TV.at 1 rfl
 have d2:=TV.at 2 rfl
 have d3:=TV.at 3 rfl
 have d4:=TV.at 4 rfl
 have d5:=TV.at 5 rfl
 have d6:=TV.at 6 rfl
 have d7:=TV.at 7 rfl
 clear HG
 go_enter Tryz.func175,Tryz.ntmps175
 go_wp2_with fail
 try rw [hV]
 refine K1.mono ?_
 clear K1
 rintro en v0 ⟨rfl,hb⟩
 replace BC:=BC.trans (hb.mono BC.size)
 clear hb
 cases b with
 | true =>
  go_wp2
  go_ret
  exact ⟨rfl,BC⟩
 | false =>
  go_wp2
  go_ret
  exact ⟨rfl,BC⟩
set_option maxRecDepth 100000 in
set_option maxHeartbeats 3200000 in
theorem idxC_is (a : Option Addr) (cap : Nat) (xs : List TC) (fp : Nat) (w : World) (hr : FRow 8 cC w a xs) (hl : xs.length ≤ 1048576) (hfp : fp < w.heap.size) (hc : w.cell? ⟨fp,0,none⟩ = some (.func (.func 132) #[] #[])) (HG : ∀ x ∈ xs,∀ w',Below w.heap.size w w' → Calls Tryz.prog 132 #[.agg #[I x.1,I x.2.1,I x.2.2.1,I x.2.2.2.1,I x.2.2.2.2.1,I x.2.2.2.2.2.1,I x.2.2.2.2.2.2.1,.string x.2.2.2.2.2.2.2]] w' fun e w'' => e = .returned (.bool (crB x)) ∧ Below w'.heap.size w' w'') :
  Calls Tryz.prog 205 #[.slice a xs.length cap,.func (.func 175) #[] #[.pointer (some ⟨fp,0,none⟩)]] w fun e w' => IdxP (xs.all (fun x => crB x)) e ∧ Below w.heap.size w w':=by
 go_enter Tryz.func205,Tryz.ntmps205
 go_wp2
 go_loopw [8] (fun i wr => ∃ k : Nat,k ≤ xs.length ∧ i = I k ∧ Hid (∀ j (h : j < xs.length),j < k → (fun x => crB x) xs[j] = true) ∧ Below w.heap.size w wr) (fun i _ => xs.length - (intOf i).toNat)
 case atStart => exact ⟨0,by omega,rfl,fun j h hj => absurd hj (by omega),Below.refl _ _⟩
 case round =>
  obtain ⟨k,hk,rfl,hno,hbel⟩:=hrel
  by_cases hlt : k < xs.length
  ·obtain ⟨b1,o1,rfl,l1,hcc⟩:=hr k hlt
   have c0 : wr.cell? ⟨b1,o1 + k * 8,none⟩ = some (I xs[k].1):=(hbel.cell (p:=⟨b1,o1 + k * 8,none⟩) l1).trans (hcc 0 _ rfl)
   have c1 : wr.cell? ⟨b1,o1 + k * 8 + 1,none⟩ = some (I xs[k].2.1):=(hbel.cell (p:=⟨b1,o1 + k * 8 + 1,none⟩) l1).trans (hcc 1 _ rfl)
   have c2 : wr.cell? ⟨b1,o1 + k * 8 + 2,none⟩ = some (I xs[k].2.2.1):=(hbel.cell (p:=⟨b1,o1 + k * 8 + 2,none⟩) l1).trans (hcc 2 _ rfl)
   have c3 : wr.cell? ⟨b1,o1 + k * 8 + 3,none⟩ = some (I xs[k].2.2.2.1):=(hbel.cell (p:=⟨b1,o1 + k * 8 + 3,none⟩) l1).trans (hcc 3 _ rfl)
   have c4 : wr.cell? ⟨b1,o1 + k * 8 + 4,none⟩ = some (I xs[k].2.2.2.2.1):=(hbel.cell (p:=⟨b1,o1 + k * 8 + 4,none⟩) l1).trans (hcc 4 _ rfl)
   have c5 : wr.cell? ⟨b1,o1 + k * 8 + 5,none⟩ = some (I xs[k].2.2.2.2.2.1):=(hbel.cell (p:=⟨b1,o1 + k * 8 + 5,none⟩) l1).trans (hcc 5 _ rfl)
   have c6 : wr.cell? ⟨b1,o1 + k * 8 + 6,none⟩ = some (I xs[k].2.2.2.2.2.2.1):=(hbel.cell (p:=⟨b1,o1 + k * 8 + 6,none⟩) l1).trans (hcc 6 _ rfl)
   have c7 : wr.cell? ⟨b1,o1 + k * 8 + 7,none⟩ = some (.string xs[k].2.2.2.2.2.2.2):=(hbel.cell (p:=⟨b1,o1 + k * 8 + 7,none⟩) l1).trans (hcc 7 _ rfl)
   have hlt2 : (k : Int) < (xs.length : Int):=by omega
   have K1:=cloC_is xs[k] fp wr (Nat.lt_of_lt_of_le hfp hbel.size) ((hbel.cell (p:=⟨fp,0,none⟩) hfp).trans hc) (fun w' hb => HG xs[k] (List.getElem_mem hlt) w' (hbel.trans (hb.mono hbel.size)))
   have hno2 : (fun x => crB x) xs[k] = true → Hid (∀ j (h : j < xs.length),j < k + 1 → (fun x => crB x) xs[j] = true):=fun he j h hj => by
    by_cases e : j = k
    ·subst e; exact he
    ·exact hno.out j h (by omega)
   have hbad : (fun x => crB x) xs[k] = false → Hid (xs.all (fun x => crB x) = false):=fun he => by
    show _ = _
    rw [List.all_eq_false]
    exact ⟨xs[k],List.getElem_mem hlt,fun h => absurd (h.symm.trans he) (by decide)⟩
   clear HG hno
   generalize hxk : xs[k] = x at K1 hno2 hbad c0 c1 c2 c3 c4 c5 c6 c7
   clear hxk hcc
   dsimp only at hno2 hbad
   generalize hb0 : crB x = b at K1 hno2 hbad
   clear hb0
   go_wp2_with fail
   refine K1.mono ?_
   clear K1 c0 c1 c2 c3 c4 c5 c6 c7
   rintro en v0 ⟨rfl,hb⟩
   replace hbel:=hbel.trans (hb.mono hbel.size)
   clear hb
   cases b with
   | true =>
    have hno3:=hno2 rfl
    clear hno2 hbad
    go_wp2
    go_roundw
    case rel => exact ⟨k + 1,by omega,by go_num,hno3,hbel⟩
    case measure => simp [intOf]; omega
   | false =>
    have hbd:=hbad rfl
    clear hno2 hbad
    go_wp2
    go_ret
    refine ⟨?_,hbel⟩
    rw [hbd.out]
    exact ⟨(k : Int),rfl,by simp⟩
  ·have HV : Hid (xs.all (fun x => crB x) = true):=by
    show _ = _
    rw [List.all_eq_true]
    intro x hx
    obtain ⟨j,hj,rfl⟩:=List.mem_iff_getElem.1 hx
    exact hno.out j hj (by omega)
   have hlt2 : ¬ (k : Int) < (xs.length : Int):=by omega
   clear hno HG hr
   go_wp2
   go_ret
   refine ⟨?_,hbel⟩
   rw [HV.out]
   exact ⟨-1,rfl,by simp⟩
set_option maxRecDepth 100000 in
set_option maxHeartbeats 3200000 in
theorem allC_is (a : Option Addr) (cap : Nat) (xs : List TC) (w : World) (hr : FRow 8 cC w a xs) (hl : xs.length ≤ 1048576) (HG : ∀ x ∈ xs,∀ w',Below w.heap.size w w' → Calls Tryz.prog 132 #[.agg #[I x.1,I x.2.1,I x.2.2.1,I x.2.2.2.1,I x.2.2.2.2.1,I x.2.2.2.2.2.1,I x.2.2.2.2.2.2.1,.string x.2.2.2.2.2.2.2]] w' fun e w'' => e = .returned (.bool (crB x)) ∧ Below w'.heap.size w' w'') :
  Calls Tryz.prog 131 #[.slice a xs.length cap,.func (.func 132) #[] #[]] w fun e w' => e = .returned (.bool (xs.all (fun x => crB x))) ∧ Below w.heap.size w w':=by
 obtain ⟨V,hV⟩ : ∃ V,w.alloc (.cells #[.func (.func 132) #[] #[]] 68) = V:=⟨_,rfl⟩
 have TV : Blk w.heap.size [.func (.func 132) #[] #[]] V:=by rw [← hV]; exact Blk.new _ _ _
 have BC : Below w.heap.size w V:=by rw [← hV]; exact (Below.refl _ _).alloc (Nat.le_refl _) _
 have sV : w.heap.size < V.heap.size:=by rw [← hV]; simp
 have K1:=idxC_is a cap xs w.heap.size V (hr.later BC) hl sV (TV.at 0 rfl) (fun x hx w' hb => HG x hx w' (BC.trans (hb.mono BC.size)))
 clear HG hr TV sV
 generalize xs.all (fun x => crB x) = b at K1 ⊢
 have K2 : Calls Tryz.prog 174 #[.slice a xs.length cap,.func (.func 175) #[] #[.pointer (some ⟨w.heap.size,0,none⟩)]] V fun e w' => e = .returned (.bool (!b)) ∧ Below V.heap.size V w':=by
  go_enter Tryz.func174,Tryz.ntmps174
  go_wp2_with fail
  refine K1.mono ?_
  clear K1
  rintro en v0 ⟨⟨r,rfl,hd⟩,hb⟩
  cases b with
  | true =>
   have hr2 : ¬ (0 ≤ r):=by simpa using hd
   go_wp2
   go_ret
   exact ⟨rfl,hb⟩
  | false =>
   have hr2 : 0 ≤ r:=by simpa using hd
   go_wp2
   go_ret
   exact ⟨rfl,hb⟩
 clear K1
 go_enter Tryz.func131,Tryz.ntmps131
 go_wp2_with fail
 try rw [hV]
 refine K2.mono ?_
 clear K2
 rintro en v0 ⟨rfl,hb⟩
 replace BC:=BC.trans (hb.mono BC.size)
 clear hb
 cases b with
 | true =>
  go_wp2
  go_ret
  exact ⟨rfl,BC⟩
 | false =>
  go_wp2
  go_ret
  exact ⟨rfl,BC⟩
set_option maxRecDepth 100000 in
set_option maxHeartbeats 3200000 in
theorem cloK_is (x : TK) (fp : Nat) (w : World) (hfp : fp < w.heap.size) (hc : w.cell? ⟨fp,0,none⟩ = some (.func (.func 134) #[] #[])) (HG : ∀ w',Below w.heap.size w w' → Calls Tryz.prog 134 #[.agg #[I x.1,.slice x.2.1 x.2.2.2.length x.2.2.1]] w' fun e w'' => e = .returned (.bool (caB x)) ∧ Below w'.heap.size w' w'') :
  Calls Tryz.prog 179 #[.agg #[I x.1,.slice x.2.1 x.2.2.2.length x.2.2.1],.pointer (some ⟨fp,0,none⟩)] w fun e w' => e = .returned (.bool (!(caB x))) ∧ Below w.heap.size w w':=by
 generalize caB x = b at HG ⊢
 obtain ⟨V,hV⟩ : ∃ V,w.alloc (.cells #[I x.1,.slice x.2.1 x.2.2.2.length x.2.2.1] 76) = V:=⟨_,rfl⟩
 have TV : Blk w.heap.size [I x.1,.slice x.2.1 x.2.2.2.length x.2.2.1] V:=by rw [← hV]; exact Blk.new _ _ _
 have BC : Below w.heap.size w V:=by rw [← hV]; exact (Below.refl _ _).alloc (Nat.le_refl _) _
 have K1:=HG V BC
 have c0:=(BC.cell (p:=⟨fp,0,none⟩) hfp).trans hc
 have d0:=TV.at 0 rfl
 have d1:=TV.at 1 rfl
 clear HG
 go_enter Tryz.func179,Tryz.ntmps179
 go_wp2_with fail
 try rw [hV]
 refine K1.mono ?_
 clear K1
 rintro en v0 ⟨rfl,hb⟩
 replace BC:=BC.trans (hb.mono BC.size)
 clear hb
 cases b with
 | true =>
  go_wp2
  go_ret
  exact ⟨rfl,BC⟩
 | false =>
  go_wp2
  go_ret
  exact ⟨rfl,BC⟩
set_option maxRecDepth 100000 in
set_option maxHeartbeats 3200000 in
theorem idxK_is (a : Option Addr) (cap : Nat) (xs : List TK) (fp : Nat) (w : World) (hr : FRow 2 cK w a xs) (hl : xs.length ≤ 1048576) (hfp : fp < w.heap.size) (hc : w.cell? ⟨fp,0,none⟩ = some (.func (.func 134) #[] #[])) (HG : ∀ x ∈ xs,∀ w',Below w.heap.size w w' → Calls Tryz.prog 134 #[.agg #[I x.1,.slice x.2.1 x.2.2.2.length x.2.2.1]] w' fun e w'' => e = .returned (.bool (caB x)) ∧ Below w'.heap.size w' w'') :
  Calls Tryz.prog 206 #[.slice a xs.length cap,.func (.func 179) #[] #[.pointer (some ⟨fp,0,none⟩)]] w fun e w' => IdxP (xs.all (fun x => caB x)) e ∧ Below w.heap.size w w':=by
 go_enter Tryz.func206,Tryz.ntmps206
 go_wp2
 go_loopw [8] (fun i wr => ∃ k : Nat,k ≤ xs.length ∧ i = I k ∧ Hid (∀ j (h : j < xs.length),j < k → (fun x => caB x) xs[j] = true) ∧ Below w.heap.size w wr) (fun i _ => xs.length - (intOf i).toNat)
 case atStart => exact ⟨0,by omega,rfl,fun j h hj => absurd hj (by omega),Below.refl _ _⟩
 case round =>
  obtain ⟨k,hk,rfl,hno,hbel⟩:=hrel
  by_cases hlt : k < xs.length
  ·obtain ⟨b1,o1,rfl,l1,hcc⟩:=hr k hlt
   have c0 : wr.cell? ⟨b1,o1 + k * 2,none⟩ = some (I xs[k].1):=(hbel.cell (p:=⟨b1,o1 + k * 2,none⟩) l1).trans (hcc 0 _ rfl)
   have c1 : wr.cell? ⟨b1,o1 + k * 2 + 1,none⟩ = some (.slice xs[k].2.1 xs[k].2.2.2.length xs[k].2.2.1):=(hbel.cell (p:=⟨b1,o1 + k * 2 + 1,none⟩) l1).trans (hcc 1 _ rfl)
   have hlt2 : (k : Int) < (xs.length : Int):=by omega
   have K1:=cloK_is xs[k] fp wr (Nat.lt_of_lt_of_le hfp hbel.size) ((hbel.cell (p:=⟨fp,0,none⟩) hfp).trans hc) (fun w' hb => HG xs[k] (List.getElem_mem hlt) w' (hbel.trans (hb.mono hbel.size)))
   have hno2 : (fun x => caB x) xs[k] = true → Hid (∀ j (h : j < xs.length),j < k + 1 → (fun x => caB x) xs[j] = true):=fun he j h hj => by
    by_cases e : j = k
    ·subst e; exact he
    ·exact hno.out j h (by omega)
   have hbad : (fun x => caB x) xs[k] = false → Hid (xs.all (fun x => caB x) = false):=fun he => by
    show _ = _
    rw [List.all_eq_false]
    exact ⟨xs[k],List.getElem_mem hlt,fun h => absurd (h.symm.trans he) (by decide)⟩
   clear HG hno
   generalize hxk : xs[k] = x at K1 hno2 hbad c0 c1
   clear hxk hcc
   dsimp only at hno2 hbad
   generalize hb0 : caB x = b at K1 hno2 hbad
   clear hb0
   go_wp2_with fail
   refine K1.mono ?_
   clear K1 c0 c1
   rintro en v0 ⟨rfl,hb⟩
   replace hbel:=hbel.trans (hb.mono hbel.size)
   clear hb
   cases b with
   | true =>
    have hno3:=hno2 rfl
    clear hno2 hbad
    go_wp2
    go_roundw
    case rel => exact ⟨k + 1,by omega,by go_num,hno3,hbel⟩
    case measure => simp [intOf]; omega
   | false =>
    have hbd:=hbad rfl
    clear hno2 hbad
    go_wp2
    go_ret
    refine ⟨?_,hbel⟩
    rw [hbd.out]
    exact ⟨(k : Int),rfl,by simp⟩
  ·have HV : Hid (xs.all (fun x => caB x) = true):=by
    show _ = _
    rw [List.all_eq_true]
    intro x hx
    obtain ⟨j,hj,rfl⟩:=List.mem_iff_getElem.1 hx
    exact hno.out j hj (by omega)
   have hlt2 : ¬ (k : Int) < (xs.length : Int):=by omega
   clear hno HG hr
   go_wp2
   go_ret
   refine ⟨?_,hbel⟩
   rw [HV.out]
   exact ⟨-1,rfl,by simp⟩
set_option maxRecDepth 100000 in
set_option maxHeartbeats 3200000 in
theorem allK_is (a : Option Addr) (cap : Nat) (xs : List TK) (w : World) (hr : FRow 2 cK w a xs) (hl : xs.length ≤ 1048576) (HG : ∀ x ∈ xs,∀ w',Below w.heap.size w w' → Calls Tryz.prog 134 #[.agg #[I x.1,.slice x.2.1 x.2.2.2.length x.2.2.1]] w' fun e w'' => e = .returned (.bool (caB x)) ∧ Below w'.heap.size w' w'') :
  Calls Tryz.prog 133 #[.slice a xs.length cap,.func (.func 134) #[] #[]] w fun e w' => e = .returned (.bool (xs.all (fun x => caB x))) ∧ Below w.heap.size w w':=by
 obtain ⟨V,hV⟩ : ∃ V,w.alloc (.cells #[.func (.func 134) #[] #[]] 73) = V:=⟨_,rfl⟩
 have TV : Blk w.heap.size [.func (.func 134) #[] #[]] V:=by rw [← hV]; exact Blk.new _ _ _
 have BC : Below w.heap.size w V:=by rw [← hV]; exact (Below.refl _ _).alloc (Nat.le_refl _) _
 have sV : w.heap.size < V.heap.size:=by rw [← hV]; simp
 have K1:=idxK_is a cap xs w.heap.size V (hr.later BC) hl sV (TV.at 0 rfl) (fun x hx w' hb => HG x hx w' (BC.trans (hb.mono BC.size)))
 clear HG hr TV sV
 generalize xs.all (fun x => caB x) = b at K1 ⊢
 have K2 : Calls Tryz.prog 178 #[.slice a xs.length cap,.func (.func 179) #[] #[.pointer (some ⟨w.heap.size,0,none⟩)]] V fun e w' => e = .returned (.bool (!b)) ∧ Below V.heap.size V w':=by
  go_enter Tryz.func178,Tryz.ntmps178
  go_wp2_with fail
  refine K1.mono ?_
  clear K1
  rintro en v0 ⟨⟨r,rfl,hd⟩,hb⟩
  cases b with
  | true =>
   have hr2 : ¬ (0 ≤ r):=by simpa using hd
   go_wp2
   go_ret
   exact ⟨rfl,hb⟩
  | false =>
   have hr2 : 0 ≤ r:=by simpa using hd
   go_wp2
   go_ret
   exact ⟨rfl,hb⟩
 clear K1
 go_enter Tryz.func133,Tryz.ntmps133
 go_wp2_with fail
 try rw [hV]
 refine K2.mono ?_
 clear K2
 rintro en v0 ⟨rfl,hb⟩
 replace BC:=BC.trans (hb.mono BC.size)
 clear hb
 cases b with
 | true =>
  go_wp2
  go_ret
  exact ⟨rfl,BC⟩
 | false =>
  go_wp2
  go_ret
  exact ⟨rfl,BC⟩
end Go.Proofs.YtlmpfkbgknbcnaaGreat.Nd

set_option linter.unusedVariables false
set_option maxRecDepth 100000
namespace Go.Proofs.YtlmpfkbgknbcnaaGreat.Nd
open Go Go.RowKit Go.Joins Own Draw Term
def acB (n : Nat) (p : TQ) : Bool:=btw p.1 0 2 && (btw p.2.1 0 5 && (btw p.2.2.2.2.2.2.2.2.2.1 0 (n : Int) && (allB p.2.2.2.2.2.2.2.1.2.2 6 && allB p.2.2.2.2.2.2.2.2.1.2.2 4)))
set_option maxRecDepth 100000 in
set_option maxHeartbeats 3200000 in
theorem cloQ_is (lp n : Nat) (x : TQ) (fp : Nat) (w : World) (hfp : fp < w.heap.size) (hc : w.cell? ⟨fp,0,none⟩ = some (.func (.func 136) #[] #[.pointer (some ⟨lp,0,none⟩)])) (HG : ∀ w',Below w.heap.size w w' → Calls Tryz.prog 136 #[.agg #[I x.1,I x.2.1,I x.2.2.1,I x.2.2.2.1,I x.2.2.2.2.1,I x.2.2.2.2.2.1.1,I x.2.2.2.2.2.1.2.1,I x.2.2.2.2.2.1.2.2,I x.2.2.2.2.2.2.1.1,I x.2.2.2.2.2.2.1.2.1,I x.2.2.2.2.2.2.1.2.2,.slice x.2.2.2.2.2.2.2.1.1 x.2.2.2.2.2.2.2.1.2.2.length x.2.2.2.2.2.2.2.1.2.1,.slice x.2.2.2.2.2.2.2.2.1.1 x.2.2.2.2.2.2.2.2.1.2.2.length x.2.2.2.2.2.2.2.2.1.2.1,I x.2.2.2.2.2.2.2.2.2.1,.string x.2.2.2.2.2.2.2.2.2.2],.pointer (some ⟨lp,0,none⟩)] w' fun e w'' => e = .returned (.bool (acB n x)) ∧ Below w'.heap.size w' w'') :
  Calls Tryz.prog 182 #[.agg #[I x.1,I x.2.1,I x.2.2.1,I x.2.2.2.1,I x.2.2.2.2.1,I x.2.2.2.2.2.1.1,I x.2.2.2.2.2.1.2.1,I x.2.2.2.2.2.1.2.2,I x.2.2.2.2.2.2.1.1,I x.2.2.2.2.2.2.1.2.1,I x.2.2.2.2.2.2.1.2.2,.slice x.2.2.2.2.2.2.2.1.1 x.2.2.2.2.2.2.2.1.2.2.length x.2.2.2.2.2.2.2.1.2.1,.slice x.2.2.2.2.2.2.2.2.1.1 x.2.2.2.2.2.2.2.2.1.2.2.length x.2.2.2.2.2.2.2.2.1.2.1,I x.2.2.2.2.2.2.2.2.2.1,.string x.2.2.2.2.2.2.2.2.2.2],.pointer (some ⟨fp,0,none⟩)] w fun e w' => e = .returned (.bool (!(acB n x))) ∧ Below w.heap.size w w':=by
 generalize acB n x = b at HG ⊢
 obtain ⟨V,hV⟩ : ∃ V,w.alloc (.cells #[I x.1,I x.2.1,I x.2.2.1,I x.2.2.2.1,I x.2.2.2.2.1,I x.2.2.2.2.2.1.1,I x.2.2.2.2.2.1.2.1,I x.2.2.2.2.2.1.2.2,I x.2.2.2.2.2.2.1.1,I x.2.2.2.2.2.2.1.2.1,I x.2.2.2.2.2.2.1.2.2,.slice x.2.2.2.2.2.2.2.1.1 x.2.2.2.2.2.2.2.1.2.2.length x.2.2.2.2.2.2.2.1.2.1,.slice x.2.2.2.2.2.2.2.2.1.1 x.2.2.2.2.2.2.2.2.1.2.2.length x.2.2.2.2.2.2.2.2.1.2.1,I x.2.2.2.2.2.2.2.2.2.1,.string x.2.2.2.2.2.2.2.2.2.2] 80) = V:=⟨_,rfl⟩
 have TV : Blk w.heap.size [I x.1,I x.2.1,I x.2.2.1,I x.2.2.2.1,I x.2.2.2.2.1,I x.2.2.2.2.2.1.1,I x.2.2.2.2.2.1.2.1,I x.2.2.2.2.2.1.2.2,I x.2.2.2.2.2.2.1.1,I x.2.2.2.2.2.2.1.2.1,I x.2.2.2.2.2.2.1.2.2,.slice x.2.2.2.2.2.2.2.1.1 x.2.2.2.2.2.2.2.1.2.2.length x.2.2.2.2.2.2.2.1.2.1,.slice x.2.2.2.2.2.2.2.2.1.1 x.2.2.2.2.2.2.2.2.1.2.2.length x.2.2.2.2.2.2.2.2.1.2.1,I x.2.2.2.2.2.2.2.2.2.1,.string x.2.2.2.2.2.2.2.2.2.2] V:=by rw [← hV]; exact Blk.new _ _ _
 have BC : Below w.heap.size w V:=by rw [← hV]; exact (Below.refl _ _).alloc (Nat.le_refl _) _
 have K1:=HG V BC
 have c0:=(BC.cell (p:=⟨fp,0,none⟩) hfp).trans hc
 have d0:=TV.at 0 rfl
 have d1:=TV.at 1 rfl
 have d2:=TV.at 2 rfl
 have d3:=TV.at 3 rfl
 have d4:=TV.at 4 rfl
 have d5:=TV.at 5 rfl
 have d6:=TV.at 6 rfl
 have d7:=TV.at 7 rfl
 have d8:=TV.at 8 rfl
 have d9:=TV.at 9 rfl
 have d10:=TV.at 10 rfl
 have d11:=TV.at 11 rfl
 have d12:=TV.at 12 rfl
 have d13:=TV.at 13 rfl
 have d14:=TV.at 14 rfl
 clear HG
 go_enter Tryz.func182,Tryz.ntmps182
 go_wp2_with fail
 try rw [hV]
 refine K1.mono ?_
 clear K1
 rintro en v0 ⟨rfl,hb⟩
 replace BC:=BC.trans (hb.mono BC.size)
 clear hb
 cases b with
 | true =>
  go_wp2
  go_ret
  exact ⟨rfl,BC⟩
 | false =>
  go_wp2
  go_ret
  exact ⟨rfl,BC⟩
set_option maxRecDepth 100000 in
set_option maxHeartbeats 3200000 in
theorem idxQ_is (lp n : Nat) (a : Option Addr) (cap : Nat) (xs : List TQ) (fp : Nat) (w : World) (hr : FRow 15 cQ w a xs) (hl : xs.length ≤ 1048576) (hfp : fp < w.heap.size) (hc : w.cell? ⟨fp,0,none⟩ = some (.func (.func 136) #[] #[.pointer (some ⟨lp,0,none⟩)])) (HG : ∀ x ∈ xs,∀ w',Below w.heap.size w w' → Calls Tryz.prog 136 #[.agg #[I x.1,I x.2.1,I x.2.2.1,I x.2.2.2.1,I x.2.2.2.2.1,I x.2.2.2.2.2.1.1,I x.2.2.2.2.2.1.2.1,I x.2.2.2.2.2.1.2.2,I x.2.2.2.2.2.2.1.1,I x.2.2.2.2.2.2.1.2.1,I x.2.2.2.2.2.2.1.2.2,.slice x.2.2.2.2.2.2.2.1.1 x.2.2.2.2.2.2.2.1.2.2.length x.2.2.2.2.2.2.2.1.2.1,.slice x.2.2.2.2.2.2.2.2.1.1 x.2.2.2.2.2.2.2.2.1.2.2.length x.2.2.2.2.2.2.2.2.1.2.1,I x.2.2.2.2.2.2.2.2.2.1,.string x.2.2.2.2.2.2.2.2.2.2],.pointer (some ⟨lp,0,none⟩)] w' fun e w'' => e = .returned (.bool (acB n x)) ∧ Below w'.heap.size w' w'') :
  Calls Tryz.prog 209 #[.slice a xs.length cap,.func (.func 182) #[] #[.pointer (some ⟨fp,0,none⟩)]] w fun e w' => IdxP (xs.all (fun x => acB n x)) e ∧ Below w.heap.size w w':=by
 go_enter Tryz.func209,Tryz.ntmps209
 go_wp2
 go_loopw [8] (fun i wr => ∃ k : Nat,k ≤ xs.length ∧ i = I k ∧ Hid (∀ j (h : j < xs.length),j < k → (fun x => acB n x) xs[j] = true) ∧ Below w.heap.size w wr) (fun i _ => xs.length - (intOf i).toNat)
 case atStart => exact ⟨0,by omega,rfl,fun j h hj => absurd hj (by omega),Below.refl _ _⟩
 case round =>
  obtain ⟨k,hk,rfl,hno,hbel⟩:=hrel
  by_cases hlt : k < xs.length
  ·obtain ⟨b1,o1,rfl,l1,hcc⟩:=hr k hlt
   have c0 : wr.cell? ⟨b1,o1 + k * 15,none⟩ = some (I xs[k].1):=(hbel.cell (p:=⟨b1,o1 + k * 15,none⟩) l1).trans (hcc 0 _ rfl)
   have c1 : wr.cell? ⟨b1,o1 + k * 15 + 1,none⟩ = some (I xs[k].2.1):=(hbel.cell (p:=⟨b1,o1 + k * 15 + 1,none⟩) l1).trans (hcc 1 _ rfl)
   have c2 : wr.cell? ⟨b1,o1 + k * 15 + 2,none⟩ = some (I xs[k].2.2.1):=(hbel.cell (p:=⟨b1,o1 + k * 15 + 2,none⟩) l1).trans (hcc 2 _ rfl)
   have c3 : wr.cell? ⟨b1,o1 + k * 15 + 3,none⟩ = some (I xs[k].2.2.2.1):=(hbel.cell (p:=⟨b1,o1 + k * 15 + 3,none⟩) l1).trans (hcc 3 _ rfl)
   have c4 : wr.cell? ⟨b1,o1 + k * 15 + 4,none⟩ = some (I xs[k].2.2.2.2.1):=(hbel.cell (p:=⟨b1,o1 + k * 15 + 4,none⟩) l1).trans (hcc 4 _ rfl)
   have c5 : wr.cell? ⟨b1,o1 + k * 15 + 5,none⟩ = some (I xs[k].2.2.2.2.2.1.1):=(hbel.cell (p:=⟨b1,o1 + k * 15 + 5,none⟩) l1).trans (hcc 5 _ rfl)
   have c6 : wr.cell? ⟨b1,o1 + k * 15 + 6,none⟩ = some (I xs[k].2.2.2.2.2.1.2.1):=(hbel.cell (p:=⟨b1,o1 + k * 15 + 6,none⟩) l1).trans (hcc 6 _ rfl)
   have c7 : wr.cell? ⟨b1,o1 + k * 15 + 7,none⟩ = some (I xs[k].2.2.2.2.2.1.2.2):=(hbel.cell (p:=⟨b1,o1 + k * 15 + 7,none⟩) l1).trans (hcc 7 _ rfl)
   have c8 : wr.cell? ⟨b1,o1 + k * 15 + 8,none⟩ = some (I xs[k].2.2.2.2.2.2.1.1):=(hbel.cell (p:=⟨b1,o1 + k * 15 + 8,none⟩) l1).trans (hcc 8 _ rfl)
   have c9 : wr.cell? ⟨b1,o1 + k * 15 + 9,none⟩ = some (I xs[k].2.2.2.2.2.2.1.2.1):=(hbel.cell (p:=⟨b1,o1 + k * 15 + 9,none⟩) l1).trans (hcc 9 _ rfl)
   have c10 : wr.cell? ⟨b1,o1 + k * 15 + 10,none⟩ = some (I xs[k].2.2.2.2.2.2.1.2.2):=(hbel.cell (p:=⟨b1,o1 + k * 15 + 10,none⟩) l1).trans (hcc 10 _ rfl)
   have c11 : wr.cell? ⟨b1,o1 + k * 15 + 11,none⟩ = some (.slice xs[k].2.2.2.2.2.2.2.1.1 xs[k].2.2.2.2.2.2.2.1.2.2.length xs[k].2.2.2.2.2.2.2.1.2.1):=(hbel.cell (p:=⟨b1,o1 + k * 15 + 11,none⟩) l1).trans (hcc 11 _ rfl)
   have c12 : wr.cell? ⟨b1,o1 + k * 15 + 12,none⟩ = some (.slice xs[k].2.2.2.2.2.2.2.2.1.1 xs[k].2.2.2.2.2.2.2.2.1.2.2.length xs[k].2.2.2.2.2.2.2.2.1.2.1):=(hbel.cell (p:=⟨b1,o1 + k * 15 + 12,none⟩) l1).trans (hcc 12 _ rfl)
   have c13 : wr.cell? ⟨b1,o1 + k * 15 + 13,none⟩ = some (I xs[k].2.2.2.2.2.2.2.2.2.1):=(hbel.cell (p:=⟨b1,o1 + k * 15 + 13,none⟩) l1).trans (hcc 13 _ rfl)
   have c14 : wr.cell? ⟨b1,o1 + k * 15 + 14,none⟩ = some (.string xs[k].2.2.2.2.2.2.2.2.2.2):=(hbel.cell (p:=⟨b1,o1 + k * 15 + 14,none⟩) l1).trans (hcc 14 _ rfl)
   have hlt2 : (k : Int) < (xs.length : Int):=by omega
   have K1:=cloQ_is lp n xs[k] fp wr (Nat.lt_of_lt_of_le hfp hbel.size) ((hbel.cell (p:=⟨fp,0,none⟩) hfp).trans hc) (fun w' hb => HG xs[k] (List.getElem_mem hlt) w' (hbel.trans (hb.mono hbel.size)))
   have hno2 : (fun x => acB n x) xs[k] = true → Hid (∀ j (h : j < xs.length),j < k + 1 → (fun x => acB n x) xs[j] = true):=fun he j h hj => by
    by_cases e : j = k
    ·subst e; exact he
    ·exact hno.out j h (by omega)
   have hbad : (fun x => acB n x) xs[k] = false → Hid (xs.all (fun x => acB n x) = false):=fun he => by
    show _ = _
    rw [List.all_eq_false]
    exact ⟨xs[k],List.getElem_mem hlt,fun h => absurd (h.symm.trans he) (by decide)⟩
   clear HG hno
   generalize hxk : xs[k] = x at K1 hno2 hbad c0 c1 c2 c3 c4 c5 c6 c7 c8 c9 c10 c11 c12 c13 c14
   clear hxk hcc
   dsimp only at hno2 hbad
   generalize hb0 : acB n x = b at K1 hno2 hbad
   clear hb0
   go_wp2_with fail
   refine K1.mono ?_
   clear K1 c0 c1 c2 c3 c4 c5 c6 c7 c8 c9 c10 c11 c12 c13 c14
   rintro en v0 ⟨rfl,hb⟩
   replace hbel:=hbel.trans (hb.mono hbel.size)
   clear hb
   cases b with
   | true =>
    have hno3:=hno2 rfl
    clear hno2 hbad
    go_wp2
    go_roundw
    case rel => exact ⟨k + 1,by omega,by go_num,hno3,hbel⟩
    case measure => simp [intOf]; omega
   | false =>
    have hbd:=hbad rfl
    clear hno2 hbad
    go_wp2
    go_ret
    refine ⟨?_,hbel⟩
    rw [hbd.out]
    exact ⟨(k : Int),rfl,by simp⟩
  ·have HV : Hid (xs.all (fun x => acB n x) = true):=by
    show _ = _
    rw [List.all_eq_true]
    intro x hx
    obtain ⟨j,hj,rfl⟩:=List.mem_iff_getElem.1 hx
    exact hno.out j hj (by omega)
   have hlt2 : ¬ (k : Int) < (xs.length : Int):=by omega
   clear hno HG hr
   go_wp2
   go_ret
   refine ⟨?_,hbel⟩
   rw [HV.out]
   exact ⟨-1,rfl,by simp⟩
set_option maxRecDepth 100000 in
set_option maxHeartbeats 3200000 in
theorem allQ_is (lp n : Nat) (a : Option Addr) (cap : Nat) (xs : List TQ) (w : World) (hr : FRow 15 cQ w a xs) (hl : xs.length ≤ 1048576) (HG : ∀ x ∈ xs,∀ w',Below w.heap.size w w' → Calls Tryz.prog 136 #[.agg #[I x.1,I x.2.1,I x.2.2.1,I x.2.2.2.1,I x.2.2.2.2.1,I x.2.2.2.2.2.1.1,I x.2.2.2.2.2.1.2.1,I x.2.2.2.2.2.1.2.2,I x.2.2.2.2.2.2.1.1,I x.2.2.2.2.2.2.1.2.1,I x.2.2.2.2.2.2.1.2.2,.slice x.2.2.2.2.2.2.2.1.1 x.2.2.2.2.2.2.2.1.2.2.length x.2.2.2.2.2.2.2.1.2.1,.slice x.2.2.2.2.2.2.2.2.1.1 x.2.2.2.2.2.2.2.2.1.2.2.length x.2.2.2.2.2.2.2.2.1.2.1,I x.2.2.2.2.2.2.2.2.2.1,.string x.2.2.2.2.2.2.2.2.2.2],.pointer (some ⟨lp,0,none⟩)] w' fun e w'' => e = .returned (.bool (acB n x)) ∧ Below w'.heap.size w' w'') :
  Calls Tryz.prog 135 #[.slice a xs.length cap,.func (.func 136) #[] #[.pointer (some ⟨lp,0,none⟩)]] w fun e w' => e = .returned (.bool (xs.all (fun x => acB n x))) ∧ Below w.heap.size w w':=by
 obtain ⟨V,hV⟩ : ∃ V,w.alloc (.cells #[.func (.func 136) #[] #[.pointer (some ⟨lp,0,none⟩)]] 196) = V:=⟨_,rfl⟩
 have TV : Blk w.heap.size [.func (.func 136) #[] #[.pointer (some ⟨lp,0,none⟩)]] V:=by rw [← hV]; exact Blk.new _ _ _
 have BC : Below w.heap.size w V:=by rw [← hV]; exact (Below.refl _ _).alloc (Nat.le_refl _) _
 have sV : w.heap.size < V.heap.size:=by rw [← hV]; simp
 have K1:=idxQ_is lp n a cap xs w.heap.size V (hr.later BC) hl sV (TV.at 0 rfl) (fun x hx w' hb => HG x hx w' (BC.trans (hb.mono BC.size)))
 clear HG hr TV sV
 generalize xs.all (fun x => acB n x) = b at K1 ⊢
 have K2 : Calls Tryz.prog 181 #[.slice a xs.length cap,.func (.func 182) #[] #[.pointer (some ⟨w.heap.size,0,none⟩)]] V fun e w' => e = .returned (.bool (!b)) ∧ Below V.heap.size V w':=by
  go_enter Tryz.func181,Tryz.ntmps181
  go_wp2_with fail
  refine K1.mono ?_
  clear K1
  rintro en v0 ⟨⟨r,rfl,hd⟩,hb⟩
  cases b with
  | true =>
   have hr2 : ¬ (0 ≤ r):=by simpa using hd
   go_wp2
   go_ret
   exact ⟨rfl,hb⟩
  | false =>
   have hr2 : 0 ≤ r:=by simpa using hd
   go_wp2
   go_ret
   exact ⟨rfl,hb⟩
 clear K1
 go_enter Tryz.func135,Tryz.ntmps135
 go_wp2_with fail
 try rw [hV]
 refine K2.mono ?_
 clear K2
 rintro en v0 ⟨rfl,hb⟩
 replace BC:=BC.trans (hb.mono BC.size)
 clear hb
 cases b with
 | true =>
  go_wp2
  go_ret
  exact ⟨rfl,BC⟩
 | false =>
  go_wp2
  go_ret
  exact ⟨rfl,BC⟩
end Go.Proofs.YtlmpfkbgknbcnaaGreat.Nd
