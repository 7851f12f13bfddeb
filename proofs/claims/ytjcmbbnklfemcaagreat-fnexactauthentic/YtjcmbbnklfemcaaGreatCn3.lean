/- Is an Accept honest: the program. -/
import Derived.Test.YtjcmbbnklfemcaaGreatCn1
import Derived.Test.YtjcmbbnklfemcaaGreatWs7
set_option linter.unusedVariables false
set_option maxRecDepth 100000
namespace Go.Proofs.YtjcmbbnklfemcaaGreat.Nd
open Go Go.RowKit Go.Joins Own Draw Term
/-- It is none of them. -/
def nin (lk:List Int) (x:Int):Bool := !(lk.contains x)
set_option maxRecDepth 100000 in
theorem na1_is (x:Int) (lp:Nat) (la:Option Addr) (lc:Nat) (lk:List Int) (w:World) (hc:w.cell? ⟨lp,0,none⟩=some (.slice la lk.length lc)) (hr:RowAt (Value.int .i64) w la lk) (hl:lk.length≤1048576) :
  Calls Tryz.prog 137 #[.int .i64 x,.pointer (some ⟨lp,0,none⟩)] w fun e w'=>e=.returned (.bool (nin lk x))∧Below w.heap.size w w' := by
 unfold nin
 have K1 := has_is la lc lk x w hr hl
 generalize lk.contains x=b at K1 ⊢
 go_enter Tryz.func137,Tryz.ntmps137
 go_wp2_with fail
 refine K1.mono ?_
 rintro en w1 ⟨rfl,rfl⟩
 clear K1
 cases b with
 | true =>
  go_wp2
  go_ret
  exact ⟨rfl,Below.refl _ _⟩
 | false =>
  go_wp2
  go_ret
  exact ⟨rfl,Below.refl _ _⟩
set_option maxRecDepth 100000 in
set_option maxHeartbeats 3200000 in
theorem cloIn_is (lp:Nat) (lk:List Int) (x:Int) (fp:Nat) (w:World) (hfp:fp < w.heap.size) (hc:w.cell? ⟨fp,0,none⟩=some (.func (.func 137) #[] #[.pointer (some ⟨lp,0,none⟩)])) (HG:∀ w',Below w.heap.size w w'→Calls Tryz.prog 137 #[.int .i64 x,.pointer (some ⟨lp,0,none⟩)] w' fun e w''=>e=.returned (.bool (nin lk x))∧Below w'.heap.size w' w'') :
  Calls Tryz.prog 171 #[.int .i64 x,.pointer (some ⟨fp,0,none⟩)] w fun e w'=>e=.returned (.bool (!(nin lk x)))∧Below w.heap.size w w' := by
 generalize nin lk x=b at HG ⊢
 have BC:Below w.heap.size w w := Below.refl _ _
 have K1 := HG w BC
 have c0 := hc
 clear HG
 go_enter Tryz.func171,Tryz.ntmps171
 go_wp2_with fail
 refine K1.mono ?_
 clear K1
 rintro en v0 ⟨rfl,hb⟩
 replace BC := BC.trans (hb.mono BC.size)
 clear hb
 cases b with
 | true =>
  go_wp2
  go_ret
  exact ⟨rfl,BC⟩
 | false =>
  go_wp2
  go_ret
  exact ⟨rfl,BC⟩
set_option maxRecDepth 100000 in
set_option maxHeartbeats 3200000 in
theorem idxIn_is (lp:Nat) (lk:List Int) (a:Option Addr) (cap:Nat) (xs:List Int) (fp:Nat) (w:World) (hr:RowAt (Value.int .i64) w a xs) (hl:xs.length≤1048576) (hfp:fp < w.heap.size) (hc:w.cell? ⟨fp,0,none⟩=some (.func (.func 137) #[] #[.pointer (some ⟨lp,0,none⟩)])) (HG:∀ x∈xs,∀ w',Below w.heap.size w w'→Calls Tryz.prog 137 #[.int .i64 x,.pointer (some ⟨lp,0,none⟩)] w' fun e w''=>e=.returned (.bool (nin lk x))∧Below w'.heap.size w' w'') :
  Calls Tryz.prog 194 #[.slice a xs.length cap,.func (.func 171) #[] #[.pointer (some ⟨fp,0,none⟩)]] w fun e w'=>IdxP (xs.all (fun x=>nin lk x)) e∧Below w.heap.size w w' := by
 go_enter Tryz.func194,Tryz.ntmps194
 go_wp2
 go_loopw [8] (fun i wr=>∃ k:Nat,k≤xs.length∧i=.int .i64 k∧Hid (∀ j (h:j < xs.length),j < k→(fun x=>nin lk x) xs[j]=true)∧Below w.heap.size w wr) (fun i _=>xs.length - (intOf i).toNat)
 case atStart=>exact ⟨0,by omega,rfl,fun j h hj=>absurd hj (by omega),Below.refl _ _⟩
 case round =>
  obtain ⟨k,hk,rfl,hno,hbel⟩ := hrel
  by_cases hlt:k < xs.length
  ·obtain ⟨b1,o1,rfl,l1,hcc⟩ := hr k hlt
   have c0:wr.cell? ⟨b1,o1 + k,none⟩=some (.int .i64 xs[k]) := (hbel.cell (p := ⟨b1,o1 + k,none⟩) l1).trans hcc
   have hlt2:(k:Int) < (xs.length:Int) := by omega
   have K1 := cloIn_is lp lk xs[k] fp wr (Nat.lt_of_lt_of_le hfp hbel.size) ((hbel.cell (p := ⟨fp,0,none⟩) hfp).trans hc) (fun w' hb=>HG xs[k] (List.getElem_mem hlt) w' (hbel.trans (hb.mono hbel.size)))
   have hno2:(fun x=>nin lk x) xs[k]=true→Hid (∀ j (h:j < xs.length),j < k + 1→(fun x=>nin lk x) xs[j]=true) := fun he j h hj=>by
    by_cases e:j=k
    ·subst e;exact he
    ·exact hno.out j h (by omega)
   have hbad:(fun x=>nin lk x) xs[k]=false→Hid (xs.all (fun x=>nin lk x)=false) := fun he=>by
    show _=_
    rw [List.all_eq_false]
    exact ⟨xs[k],List.getElem_mem hlt,fun h=>absurd (h.symm.trans he) (by decide)⟩
   clear HG hno
   generalize hxk:xs[k]=x at K1 hno2 hbad c0
   clear hxk hcc
   dsimp only at hno2 hbad
   generalize hb0:nin lk x=b at K1 hno2 hbad
   clear hb0
   go_wp2_with fail
   refine K1.mono ?_
   clear K1 c0
   rintro en v0 ⟨rfl,hb⟩
   replace hbel := hbel.trans (hb.mono hbel.size)
   clear hb
   cases b with
   | true =>
    have hno3 := hno2 rfl
    clear hno2 hbad
    go_wp2
    go_roundw
    case rel=>exact ⟨k + 1,by omega,by go_num,hno3,hbel⟩
    case measure=>simp [intOf];omega
   | false =>
    have hbd := hbad rfl
    clear hno2 hbad
    go_wp2
    go_ret
    refine ⟨?_,hbel⟩
    rw [hbd.out]
    exact ⟨(k:Int),rfl,by simp⟩
  ·have HV:Hid (xs.all (fun x=>nin lk x)=true) := by
    show _=_
    rw [List.all_eq_true]
    intro x hx
    obtain ⟨j,hj,rfl⟩ := List.mem_iff_getElem.1 hx
    exact hno.out j hj (by omega)
   have hlt2:¬ (k:Int) < (xs.length:Int) := by omega
   clear hno HG hr
   go_wp2
   go_ret
   refine ⟨?_,hbel⟩
   rw [HV.out]
   exact ⟨-1,rfl,by simp⟩
set_option maxRecDepth 100000 in
set_option maxHeartbeats 3200000 in
theorem allIn_is (lp:Nat) (lk:List Int) (a:Option Addr) (cap:Nat) (xs:List Int) (w:World) (hr:RowAt (Value.int .i64) w a xs) (hl:xs.length≤1048576) (HG:∀ x∈xs,∀ w',Below w.heap.size w w'→Calls Tryz.prog 137 #[.int .i64 x,.pointer (some ⟨lp,0,none⟩)] w' fun e w''=>e=.returned (.bool (nin lk x))∧Below w'.heap.size w' w'') :
  Calls Tryz.prog 136 #[.slice a xs.length cap,.func (.func 137) #[] #[.pointer (some ⟨lp,0,none⟩)]] w fun e w'=>e=.returned (.bool (xs.all (fun x=>nin lk x)))∧Below w.heap.size w w' := by
 obtain ⟨V,hV⟩:∃ V,w.alloc (.cells #[.func (.func 137) #[] #[.pointer (some ⟨lp,0,none⟩)]] 83)=V := ⟨_,rfl⟩
 have TV:Blk w.heap.size [.func (.func 137) #[] #[.pointer (some ⟨lp,0,none⟩)]] V := by rw [← hV];exact Blk.new _ _ _
 have BC:Below w.heap.size w V := by rw [← hV];exact (Below.refl _ _).alloc (Nat.le_refl _) _
 have sV:w.heap.size < V.heap.size := by rw [← hV];simp
 have K1 := idxIn_is lp lk a cap xs w.heap.size V (hr.later BC) hl sV (TV.at 0 rfl) (fun x hx w' hb=>HG x hx w' (BC.trans (hb.mono BC.size)))
 clear HG hr TV sV
 generalize xs.all (fun x=>nin lk x)=b at K1 ⊢
 have K2:Calls Tryz.prog 170 #[.slice a xs.length cap,.func (.func 171) #[] #[.pointer (some ⟨w.heap.size,0,none⟩)]] V fun e w'=>e=.returned (.bool (!b))∧Below V.heap.size V w' := by
  go_enter Tryz.func170,Tryz.ntmps170
  go_wp2_with fail
  refine K1.mono ?_
  clear K1
  rintro en v0 ⟨⟨r,rfl,hd⟩,hb⟩
  cases b with
  | true =>
   have hr2:¬ (0≤r) := by simpa using hd
   go_wp2
   go_ret
   exact ⟨rfl,hb⟩
  | false =>
   have hr2:0≤r := by simpa using hd
   go_wp2
   go_ret
   exact ⟨rfl,hb⟩
 clear K1
 go_enter Tryz.func136,Tryz.ntmps136
 go_wp2_with fail
 try rw [hV]
 refine K2.mono ?_
 clear K2
 rintro en v0 ⟨rfl,hb⟩
 replace BC := BC.trans (hb.mono BC.size)
 clear hb
 cases b with
 | true =>
  go_wp2
  go_ret
  exact ⟨rfl,BC⟩
 | false =>
  go_wp2
  go_ret
  exact ⟨rfl,BC⟩
set_option maxRecDepth 100000 in
set_option maxHeartbeats 6400000 in
theorem none_is (a:Option Addr) (cap:Nat) (ks:List Int) (la:Option Addr) (lc:Nat) (lk:List Int) (w:World) (hk:RowAt (Value.int .i64) w a ks) (hr:RowAt (Value.int .i64) w la lk) (hkl:ks.length≤1048576) (hl:lk.length≤1048576) :
  Calls Tryz.prog 94 #[.slice a ks.length cap,.slice la lk.length lc] w fun e w'=>e=.returned (.bool (ks.all fun x=>nin lk x))∧Below w.heap.size w w' := by
 obtain ⟨V,hV⟩:∃ V,w.alloc (.cells #[.slice la lk.length lc] 22)=V := ⟨_,rfl⟩
 have TV:Blk w.heap.size [.slice la lk.length lc] V := by rw [← hV];exact Blk.new _ _ _
 have BC:Below w.heap.size w V := by rw [← hV];exact (Below.refl _ _).alloc (Nat.le_refl _) _
 have K1 := allIn_is w.heap.size lk a cap ks V (hk.later BC) hkl (fun x _ w' hb=>na1_is x w.heap.size la lc lk w' ((TV.later hb TV.lt).at 0 rfl) ((hr.later BC).later hb) hl)
 generalize (ks.all fun x=>nin lk x)=b at K1 ⊢
 go_enter Tryz.func94,Tryz.ntmps94
 go_wp2_with fail
 try rw [hV]
 refine K1.mono ?_
 rintro en w1 ⟨rfl,hb⟩
 clear K1 hV
 replace BC := BC.trans (hb.mono BC.size)
 go_wp2
 go_ret
 exact ⟨rfl,BC⟩
/-- The first Leaks of what leaked. -/
def lkQ (d:TD) (p:TQ):List Int := d.2.2.2.2.2.2.2.2.2.2.2.2.take (leQ p).toNat
def honB (d:TD) (p:TQ):Bool := (riL (cnL (cfOf d.1) p)).all fun x=>nin (lkQ d p) x
theorem row_take {w:World} {a:Option Addr} {xs:List Int} (h:RowAt (Value.int .i64) w a xs) (m:Nat):RowAt (Value.int .i64) w a (xs.take m) := by
 intro j hj
 rw [List.length_take] at hj
 obtain ⟨b,o,e,l,hc⟩ := h j (by omega)
 exact ⟨b,o,e,l,by rw [hc,List.getElem_take]⟩
theorem wok_parts {d:TD} (h:wokB d=true):confB (cfOf d.1)=true∧(∀ p∈d.2.2.2.2.2.2.2.2.2.1.2.2,acB d.2.2.2.2.2.2.2.2.2.2.2.2.length p=true)∧d.2.2.2.2.2.2.2.2.2.2.2.2.length≤40 := by
 unfold wokB recB at h
 simp only [Bool.and_eq_true] at h
 have h9 := h.2.2.2.2.2.2.2.2
 exact ⟨h.1,fun p hp=>List.all_eq_true.1 h9.2.2.2 p hp,of_decide_eq_true h9.2.2.1⟩
theorem ac_parts {n:Nat} {p:TQ} (h:acB n p=true):btw (seQ p) 0 2=true∧btw (clQ p) 0 5=true∧btw (leQ p) 0 (n:Int)=true∧allB (paQ p) 6=true∧allB (viQ p) 4=true := by
 unfold acB at h
 simp only [Bool.and_eq_true] at h
 exact h
theorem ac_se {n:Nat} {p:TQ} (h:acB n p=true):btw (seQ p) 0 2=true := (ac_parts h).1
theorem ac_cl {n:Nat} {p:TQ} (h:acB n p=true):btw (clQ p) 0 5=true := (ac_parts h).2.1
theorem ac_le {n:Nat} {p:TQ} (h:acB n p=true):0≤leQ p∧leQ p≤(n:Int) := (btw_iff _ _ _).1 (ac_parts h).2.2.1
theorem all_le {l:List Int} {n:Nat} (h:allB l n=true):l.length≤n∧∀ x∈l,btw x 0 2=true := by
 unfold allB at h
 simp only [Bool.and_eq_true] at h
 exact ⟨of_decide_eq_true h.1,fun x hx=>List.all_eq_true.1 h.2 x hx⟩
theorem ac_pl {n:Nat} {p:TQ} (h:acB n p=true):(paQ p).length≤6 := (all_le (ac_parts h).2.2.2.1).1
theorem ac_vl {n:Nat} {p:TQ} (h:acB n p=true):(viQ p).length≤4 := (all_le (ac_parts h).2.2.2.2).1
theorem cn_short {n:Nat} (c:Cf) (p:TQ) (h:acB n p=true):(riL (cnL c p)).length≤1048576 := by
 have h1 := riL_len (cnL c p)
 have h2:(cnL c p).length≤12 + 2 + 4 := by
  unfold cnL
  have := rkL_len (rlP c p) (rlP_len c p)
  have := ac_vl h
  simp only [List.length_append,List.length_map,List.length_cons,List.length_nil]
  omega
 omega
set_option maxRecDepth 100000 in
set_option maxHeartbeats 6400000 in
theorem honest_is (B:Nat) (d:TD) (p:TQ) (w:World) (hd:WdOk B w d) (hw:wokB d=true) (hp:p∈d.2.2.2.2.2.2.2.2.2.1.2.2) :
  Calls Tryz.prog 57 #[vD d,vQ p] w fun e w'=>e=.returned (.bool (honB d p))∧Below w.heap.size w w' := by
 obtain ⟨ic,hic,hics⟩ := info_F
 obtain ⟨iq,hiq,hiqs⟩ := info_Q
 obtain ⟨V,hV⟩:∃ V,(w.alloc (.cells #[.slice d.1.1.1 d.1.1.2.2.length d.1.1.2.1,.slice d.1.2.1.1 d.1.2.1.2.2.length d.1.2.1.2.1,.slice d.1.2.2.1.1 d.1.2.2.1.2.2.length d.1.2.2.1.2.1,.slice d.1.2.2.2.1.1 d.1.2.2.2.1.2.2.length d.1.2.2.2.1.2.1,.int .i64 d.1.2.2.2.2,.int .i64 d.2.1,.int .i64 d.2.2.1,.slice d.2.2.2.1.1 d.2.2.2.1.2.2.length d.2.2.2.1.2.1,.slice d.2.2.2.2.1.1.1 d.2.2.2.2.1.1.2.2.length d.2.2.2.2.1.1.2.1,.slice d.2.2.2.2.1.2.1 d.2.2.2.2.1.2.2.2.length d.2.2.2.2.1.2.2.1,.slice d.2.2.2.2.2.1.1 d.2.2.2.2.2.1.2.2.length d.2.2.2.2.2.1.2.1,.slice d.2.2.2.2.2.2.1.1 d.2.2.2.2.2.2.1.2.2.length d.2.2.2.2.2.2.1.2.1,.slice d.2.2.2.2.2.2.2.1.1 d.2.2.2.2.2.2.2.1.2.2.length d.2.2.2.2.2.2.2.1.2.1,.slice d.2.2.2.2.2.2.2.2.1.1 d.2.2.2.2.2.2.2.2.1.2.2.length d.2.2.2.2.2.2.2.2.1.2.1,.slice d.2.2.2.2.2.2.2.2.2.1.1 d.2.2.2.2.2.2.2.2.2.1.2.2.length d.2.2.2.2.2.2.2.2.2.1.2.1,.slice d.2.2.2.2.2.2.2.2.2.2.1 d.2.2.2.2.2.2.2.2.2.2.2.2.length d.2.2.2.2.2.2.2.2.2.2.2.1] 48)).alloc (.cells #[.int .i64 p.1,.int .i64 p.2.1,.int .i64 p.2.2.1,.int .i64 p.2.2.2.1,.int .i64 p.2.2.2.2.1,.int .i64 p.2.2.2.2.2.1.1,.int .i64 p.2.2.2.2.2.1.2.1,.int .i64 p.2.2.2.2.2.1.2.2,.int .i64 p.2.2.2.2.2.2.1.1,.int .i64 p.2.2.2.2.2.2.1.2.1,.int .i64 p.2.2.2.2.2.2.1.2.2,.slice p.2.2.2.2.2.2.2.1.1 p.2.2.2.2.2.2.2.1.2.2.length p.2.2.2.2.2.2.2.1.2.1,.slice p.2.2.2.2.2.2.2.2.1.1 p.2.2.2.2.2.2.2.2.1.2.2.length p.2.2.2.2.2.2.2.2.1.2.1,.int .i64 p.2.2.2.2.2.2.2.2.2.1,.string p.2.2.2.2.2.2.2.2.2.2] 82)=V := ⟨_,rfl⟩
 have BC:Below w.heap.size w V := by rw [← hV];exact ((Below.refl _ _).alloc (Nat.le_refl _) _).alloc (by simp) _
 have TC:Blk w.heap.size [.slice d.1.1.1 d.1.1.2.2.length d.1.1.2.1,.slice d.1.2.1.1 d.1.2.1.2.2.length d.1.2.1.2.1,.slice d.1.2.2.1.1 d.1.2.2.1.2.2.length d.1.2.2.1.2.1,.slice d.1.2.2.2.1.1 d.1.2.2.2.1.2.2.length d.1.2.2.2.1.2.1,.int .i64 d.1.2.2.2.2,.int .i64 d.2.1,.int .i64 d.2.2.1,.slice d.2.2.2.1.1 d.2.2.2.1.2.2.length d.2.2.2.1.2.1,.slice d.2.2.2.2.1.1.1 d.2.2.2.2.1.1.2.2.length d.2.2.2.2.1.1.2.1,.slice d.2.2.2.2.1.2.1 d.2.2.2.2.1.2.2.2.length d.2.2.2.2.1.2.2.1,.slice d.2.2.2.2.2.1.1 d.2.2.2.2.2.1.2.2.length d.2.2.2.2.2.1.2.1,.slice d.2.2.2.2.2.2.1.1 d.2.2.2.2.2.2.1.2.2.length d.2.2.2.2.2.2.1.2.1,.slice d.2.2.2.2.2.2.2.1.1 d.2.2.2.2.2.2.2.1.2.2.length d.2.2.2.2.2.2.2.1.2.1,.slice d.2.2.2.2.2.2.2.2.1.1 d.2.2.2.2.2.2.2.2.1.2.2.length d.2.2.2.2.2.2.2.2.1.2.1,.slice d.2.2.2.2.2.2.2.2.2.1.1 d.2.2.2.2.2.2.2.2.2.1.2.2.length d.2.2.2.2.2.2.2.2.2.1.2.1,.slice d.2.2.2.2.2.2.2.2.2.2.1 d.2.2.2.2.2.2.2.2.2.2.2.2.length d.2.2.2.2.2.2.2.2.2.2.2.1] V := by rw [← hV];exact (Blk.new _ _ _).alloc (by simp) _
 have TQ:Blk (w.heap.size + 1) [.int .i64 p.1,.int .i64 p.2.1,.int .i64 p.2.2.1,.int .i64 p.2.2.2.1,.int .i64 p.2.2.2.2.1,.int .i64 p.2.2.2.2.2.1.1,.int .i64 p.2.2.2.2.2.1.2.1,.int .i64 p.2.2.2.2.2.1.2.2,.int .i64 p.2.2.2.2.2.2.1.1,.int .i64 p.2.2.2.2.2.2.1.2.1,.int .i64 p.2.2.2.2.2.2.1.2.2,.slice p.2.2.2.2.2.2.2.1.1 p.2.2.2.2.2.2.2.1.2.2.length p.2.2.2.2.2.2.2.1.2.1,.slice p.2.2.2.2.2.2.2.2.1.1 p.2.2.2.2.2.2.2.2.1.2.2.length p.2.2.2.2.2.2.2.2.1.2.1,.int .i64 p.2.2.2.2.2.2.2.2.2.1,.string p.2.2.2.2.2.2.2.2.2.2] V := by rw [← hV];have := Blk.new (w.alloc (.cells #[.slice d.1.1.1 d.1.1.2.2.length d.1.1.2.1,.slice d.1.2.1.1 d.1.2.1.2.2.length d.1.2.1.2.1,.slice d.1.2.2.1.1 d.1.2.2.1.2.2.length d.1.2.2.1.2.1,.slice d.1.2.2.2.1.1 d.1.2.2.2.1.2.2.length d.1.2.2.2.1.2.1,.int .i64 d.1.2.2.2.2,.int .i64 d.2.1,.int .i64 d.2.2.1,.slice d.2.2.2.1.1 d.2.2.2.1.2.2.length d.2.2.2.1.2.1,.slice d.2.2.2.2.1.1.1 d.2.2.2.2.1.1.2.2.length d.2.2.2.2.1.1.2.1,.slice d.2.2.2.2.1.2.1 d.2.2.2.2.1.2.2.2.length d.2.2.2.2.1.2.2.1,.slice d.2.2.2.2.2.1.1 d.2.2.2.2.2.1.2.2.length d.2.2.2.2.2.1.2.1,.slice d.2.2.2.2.2.2.1.1 d.2.2.2.2.2.2.1.2.2.length d.2.2.2.2.2.2.1.2.1,.slice d.2.2.2.2.2.2.2.1.1 d.2.2.2.2.2.2.2.1.2.2.length d.2.2.2.2.2.2.2.1.2.1,.slice d.2.2.2.2.2.2.2.2.1.1 d.2.2.2.2.2.2.2.2.1.2.2.length d.2.2.2.2.2.2.2.2.1.2.1,.slice d.2.2.2.2.2.2.2.2.2.1.1 d.2.2.2.2.2.2.2.2.2.1.2.2.length d.2.2.2.2.2.2.2.2.2.1.2.1,.slice d.2.2.2.2.2.2.2.2.2.2.1 d.2.2.2.2.2.2.2.2.2.2.2.2.length d.2.2.2.2.2.2.2.2.2.2.2.1] 48)) #[.int .i64 p.1,.int .i64 p.2.1,.int .i64 p.2.2.1,.int .i64 p.2.2.2.1,.int .i64 p.2.2.2.2.1,.int .i64 p.2.2.2.2.2.1.1,.int .i64 p.2.2.2.2.2.1.2.1,.int .i64 p.2.2.2.2.2.1.2.2,.int .i64 p.2.2.2.2.2.2.1.1,.int .i64 p.2.2.2.2.2.2.1.2.1,.int .i64 p.2.2.2.2.2.2.1.2.2,.slice p.2.2.2.2.2.2.2.1.1 p.2.2.2.2.2.2.2.1.2.2.length p.2.2.2.2.2.2.2.1.2.1,.slice p.2.2.2.2.2.2.2.2.1.1 p.2.2.2.2.2.2.2.2.1.2.2.length p.2.2.2.2.2.2.2.2.1.2.1,.int .i64 p.2.2.2.2.2.2.2.2.2.1,.string p.2.2.2.2.2.2.2.2.2.2] 82;simpa using this
 have lC:w.heap.size < V.drew.heap.size := TC.lt
 have lQ:w.heap.size + 1 < V.drew.heap.size := TQ.lt
 obtain ⟨hcf,hac,hl40⟩ := wok_parts hw
 have hap := hac p hp
 have hm0 := ac_le hap
 obtain ⟨m,hm⟩:∃ m:Nat,p.2.2.2.2.2.2.2.2.2.1=(m:Int) := ⟨(leQ p).toNat,by have := hm0.1;show leQ p=_;omega⟩
 have hml:m≤d.2.2.2.2.2.2.2.2.2.2.2.2.length := by have := hm0.2;have e:leQ p=(m:Int) := hm;omega
 have hmc:d.2.2.2.2.2.2.2.2.2.2.2.2.length≤d.2.2.2.2.2.2.2.2.2.2.2.1 := own_cap hd.ow.2.2.2.2.2.2.2.2
 have hml2:m≤d.2.2.2.2.2.2.2.2.2.2.2.1 := Nat.le_trans hml hmc
 have hF:OwF B w d.1 := hd.ow.1
 have hQ:DpQ w p := (hd.ow.2.2.2.2.2.2.2.1.2 p hp).dp
 have hlt := tot_parts hd.le
 have K1 := implConcerns_is (cfOf d.1) p V.drew (((cf_at hF).later BC).later (Below.refl _ _).drew) (cf_ok hF hlt.1.1 hlt.1.2.1 hlt.1.2.2.1 hlt.1.2.2.2) ((hQ.later BC).later (Below.refl _ _).drew) hcf (ac_se hap) (ac_cl hap) (ac_pl hap) (ac_vl hap)
 have hlkl:(lkQ d p).length=m := by
  have e:leQ p=(m:Int) := hm
  have e2:(leQ p).toNat=m := by omega
  unfold lkQ
  rw [List.length_take]
  omega
 have K2 := fun (U:World) (ra:Option Addr) (rc:Nat) (ho:U.ownsRow V.drew.heap.size 3 1 (.slice ra (riL (cnL (cfOf d.1) p)).length rc) (riL (cnL (cfOf d.1) p)).length (intV (riL (cnL (cfOf d.1) p)))) (h:Below V.drew.heap.size V.drew U)=>none_is ra rc (riL (cnL (cfOf d.1) p)) d.2.2.2.2.2.2.2.2.2.2.1 d.2.2.2.2.2.2.2.2.2.2.2.1 (lkQ d p) U (irow_of ho) ((row_take (hd.ow.2.2.2.2.2.2.2.2.dp) _ |>.later BC |>.later (Below.refl _ _).drew).later h) (cn_short _ p hap) (by rw [hlkl];omega)
 rw [show ((riL (cnL (cfOf d.1) p)).all fun x=>nin (lkQ d p) x)=honB d p from rfl] at K2
 generalize honB d p=hb at K2 ⊢
 rw [hlkl] at K2
 have HM:Hid (p.2.2.2.2.2.2.2.2.2.1=(m:Int)) := hm
 clear hlkl hd hw hp hcf hac hap hm0 hF hQ hlt hl40 hm hml hmc
 go_enter Tryz.func57,Tryz.ntmps57
 go_wp2_with fail
 try rw [hV]
 clear hV
 refine wp_region_held_drew (S := (fun U:World=>Blk w.heap.size [.slice d.1.1.1 d.1.1.2.2.length d.1.1.2.1,.slice d.1.2.1.1 d.1.2.1.2.2.length d.1.2.1.2.1,.slice d.1.2.2.1.1 d.1.2.2.1.2.2.length d.1.2.2.1.2.1,.slice d.1.2.2.2.1.1 d.1.2.2.2.1.2.2.length d.1.2.2.2.1.2.1,.int .i64 d.1.2.2.2.2,.int .i64 d.2.1,.int .i64 d.2.2.1,.slice d.2.2.2.1.1 d.2.2.2.1.2.2.length d.2.2.2.1.2.1,.slice d.2.2.2.2.1.1.1 d.2.2.2.2.1.1.2.2.length d.2.2.2.2.1.1.2.1,.slice d.2.2.2.2.1.2.1 d.2.2.2.2.1.2.2.2.length d.2.2.2.2.1.2.2.1,.slice d.2.2.2.2.2.1.1 d.2.2.2.2.2.1.2.2.length d.2.2.2.2.2.1.2.1,.slice d.2.2.2.2.2.2.1.1 d.2.2.2.2.2.2.1.2.2.length d.2.2.2.2.2.2.1.2.1,.slice d.2.2.2.2.2.2.2.1.1 d.2.2.2.2.2.2.2.1.2.2.length d.2.2.2.2.2.2.2.1.2.1,.slice d.2.2.2.2.2.2.2.2.1.1 d.2.2.2.2.2.2.2.2.1.2.2.length d.2.2.2.2.2.2.2.2.1.2.1,.slice d.2.2.2.2.2.2.2.2.2.1.1 d.2.2.2.2.2.2.2.2.2.1.2.2.length d.2.2.2.2.2.2.2.2.2.1.2.1,.slice d.2.2.2.2.2.2.2.2.2.2.1 d.2.2.2.2.2.2.2.2.2.2.2.2.length d.2.2.2.2.2.2.2.2.2.2.2.1] U∧Blk (w.heap.size + 1) [.int .i64 p.1,.int .i64 p.2.1,.int .i64 p.2.2.1,.int .i64 p.2.2.2.1,.int .i64 p.2.2.2.2.1,.int .i64 p.2.2.2.2.2.1.1,.int .i64 p.2.2.2.2.2.1.2.1,.int .i64 p.2.2.2.2.2.1.2.2,.int .i64 p.2.2.2.2.2.2.1.1,.int .i64 p.2.2.2.2.2.2.1.2.1,.int .i64 p.2.2.2.2.2.2.1.2.2,.slice p.2.2.2.2.2.2.2.1.1 p.2.2.2.2.2.2.2.1.2.2.length p.2.2.2.2.2.2.2.1.2.1,.slice p.2.2.2.2.2.2.2.2.1.1 p.2.2.2.2.2.2.2.2.1.2.2.length p.2.2.2.2.2.2.2.2.1.2.1,.int .i64 p.2.2.2.2.2.2.2.2.2.1,.string p.2.2.2.2.2.2.2.2.2.2] U)) (by kernel_rfl) ⟨TC.drew,TQ.drew⟩ (fun hHeld=>?_)
 refine take_one 0 5 (v := ?_) rfl rfl (by kernel_rfl) (by kernel_rfl) (by kernel_rfl) (fun _ _ _ h=>h) (Or.inl ⟨by rfl,?_⟩) hHeld ?_
 rotate_left
 ·intro w' hSw;(try dsimp only at hSw);obtain ⟨bD,bQ⟩ := hSw;have q9 := bQ.at 13 rfl;rw [HM.out] at q9;have l9 := bD.at 15 rfl;go_simp;try with_reducible rfl
 try simp only [Act.put,List.setIfInBounds_toArray,List.set_cons_zero,List.set_cons_succ]
 refine take_one 1 6 (v := .agg #[.slice d.1.1.1 d.1.1.2.2.length d.1.1.2.1,.slice d.1.2.1.1 d.1.2.1.2.2.length d.1.2.1.2.1,.slice d.1.2.2.1.1 d.1.2.2.1.2.2.length d.1.2.2.1.2.1,.slice d.1.2.2.2.1.1 d.1.2.2.2.1.2.2.length d.1.2.2.2.1.2.1,.int .i64 d.1.2.2.2.2]) rfl rfl (by kernel_rfl) (by kernel_rfl) (by kernel_rfl) (fun _ _ _ h=>h) (Or.inl ⟨by rfl,?_⟩) hHeld ?_
 ·intro w' hSw;(try dsimp only at hSw);obtain ⟨bD,bQ⟩ := hSw;have hl := ldB (P := Tryz.prog) 40 ic hic (Tryz.isAgg40) (o := 0) [.slice d.1.1.1 d.1.1.2.2.length d.1.1.2.1,.slice d.1.2.1.1 d.1.2.1.2.2.length d.1.2.1.2.1,.slice d.1.2.2.1.1 d.1.2.2.1.2.2.length d.1.2.2.1.2.1,.slice d.1.2.2.2.1.1 d.1.2.2.2.1.2.2.length d.1.2.2.2.1.2.1,.int .i64 d.1.2.2.2.2] bD hics.symm rfl;exact exec_ld 40 _ rfl rfl hl
 try simp only [Act.put,List.setIfInBounds_toArray,List.set_cons_zero,List.set_cons_succ]
 refine take_one 2 7 (v := .agg #[.int .i64 p.1,.int .i64 p.2.1,.int .i64 p.2.2.1,.int .i64 p.2.2.2.1,.int .i64 p.2.2.2.2.1,.int .i64 p.2.2.2.2.2.1.1,.int .i64 p.2.2.2.2.2.1.2.1,.int .i64 p.2.2.2.2.2.1.2.2,.int .i64 p.2.2.2.2.2.2.1.1,.int .i64 p.2.2.2.2.2.2.1.2.1,.int .i64 p.2.2.2.2.2.2.1.2.2,.slice p.2.2.2.2.2.2.2.1.1 p.2.2.2.2.2.2.2.1.2.2.length p.2.2.2.2.2.2.2.1.2.1,.slice p.2.2.2.2.2.2.2.2.1.1 p.2.2.2.2.2.2.2.2.1.2.2.length p.2.2.2.2.2.2.2.2.1.2.1,.int .i64 p.2.2.2.2.2.2.2.2.2.1,.string p.2.2.2.2.2.2.2.2.2.2]) rfl rfl (by kernel_rfl) (by kernel_rfl) (by kernel_rfl) (fun _ _ _ h=>h) (Or.inl ⟨by rfl,?_⟩) hHeld ?_
 ·intro w' hSw;(try dsimp only at hSw);obtain ⟨bD,bQ⟩ := hSw;have hl := ldB (P := Tryz.prog) 82 iq hiq (Tryz.isAgg82) (o := 0) [.int .i64 p.1,.int .i64 p.2.1,.int .i64 p.2.2.1,.int .i64 p.2.2.2.1,.int .i64 p.2.2.2.2.1,.int .i64 p.2.2.2.2.2.1.1,.int .i64 p.2.2.2.2.2.1.2.1,.int .i64 p.2.2.2.2.2.1.2.2,.int .i64 p.2.2.2.2.2.2.1.1,.int .i64 p.2.2.2.2.2.2.1.2.1,.int .i64 p.2.2.2.2.2.2.1.2.2,.slice p.2.2.2.2.2.2.2.1.1 p.2.2.2.2.2.2.2.1.2.2.length p.2.2.2.2.2.2.2.1.2.1,.slice p.2.2.2.2.2.2.2.2.1.1 p.2.2.2.2.2.2.2.2.1.2.2.length p.2.2.2.2.2.2.2.2.1.2.1,.int .i64 p.2.2.2.2.2.2.2.2.2.1,.string p.2.2.2.2.2.2.2.2.2.2] bQ hiqs.symm rfl;exact exec_ld 82 _ rfl rfl hl
 try simp only [Act.put,List.setIfInBounds_toArray,List.set_cons_zero,List.set_cons_succ]
 refine take_one 4 9 (v := ?_) rfl rfl (by kernel_rfl) (by kernel_rfl) (by kernel_rfl) (fun _ _ _ h=>h) (Or.inl ⟨by rfl,?_⟩) hHeld ?_
 rotate_left
 ·intro w' hSw;(try dsimp only at hSw);obtain ⟨bD,bQ⟩ := hSw;have q9 := bQ.at 13 rfl;rw [HM.out] at q9;have l9 := bD.at 15 rfl;go_simp;try with_reducible rfl
 try simp only [Act.put,List.setIfInBounds_toArray,List.set_cons_zero,List.set_cons_succ]
 refine take_one 5 10 (v := ?_) rfl rfl (by kernel_rfl) (by kernel_rfl) (by kernel_rfl) (fun _ _ _ h=>h) (Or.inl ⟨by rfl,?_⟩) hHeld ?_
 rotate_left
 ·intro w' hSw;(try dsimp only at hSw);obtain ⟨bD,bQ⟩ := hSw;have q9 := bQ.at 13 rfl;rw [HM.out] at q9;have l9 := bD.at 15 rfl;go_simp;try with_reducible rfl
 try simp only [Act.put,List.setIfInBounds_toArray,List.set_cons_zero,List.set_cons_succ]
 refine take_one 6 11 (v := ?_) rfl rfl (by kernel_rfl) (by kernel_rfl) (by kernel_rfl) (fun _ _ _ h=>h) (Or.inl ⟨by rfl,?_⟩) hHeld ?_
 rotate_left
 ·intro w' hSw;(try dsimp only at hSw);obtain ⟨bD,bQ⟩ := hSw;have q9 := bQ.at 13 rfl;rw [HM.out] at q9;have l9 := bD.at 15 rfl;go_simp;try with_reducible rfl
 try simp only [Act.put,List.setIfInBounds_toArray,List.set_cons_zero,List.set_cons_succ]
 refine take_one 7 12 (v := ?_) rfl rfl (by kernel_rfl) (by kernel_rfl) (by kernel_rfl) (fun _ _ _ h=>h) (Or.inl ⟨by rfl,?_⟩) hHeld ?_
 rotate_left
 ·intro w' hSw;(try dsimp only at hSw);obtain ⟨bD,bQ⟩ := hSw;have q9 := bQ.at 13 rfl;rw [HM.out] at q9;have l9 := bD.at 15 rfl;go_simp;try with_reducible rfl
 try simp only [Act.put,List.setIfInBounds_toArray,List.set_cons_zero,List.set_cons_succ]
 refine take_one 8 13 (v := ?_) rfl rfl (by kernel_rfl) (by kernel_rfl) (by kernel_rfl) (fun _ _ _ h=>h) (Or.inl ⟨by rfl,?_⟩) hHeld ?_
 rotate_left
 ·intro w' hSw;(try dsimp only at hSw);obtain ⟨bD,bQ⟩ := hSw;have q9 := bQ.at 13 rfl;rw [HM.out] at q9;have l9 := bD.at 15 rfl;go_simp;try with_reducible rfl
 try simp only [Act.put,List.setIfInBounds_toArray,List.set_cons_zero,List.set_cons_succ]
 refine wpAnyH_ready (rs := [3]) (by kernel_rfl) (by simp) ?_
 refine AllReadyH.cons (i := 3) rfl (fun K hK=>?_) AllReadyH.nil
 go_simp
 refine (K1).mono ?_
 rintro en u1 ⟨ra,rca,rfl,ho1,h1⟩
 clear K1
 go_wp2_with fail
 refine hK.out _ _ ⟨TC.drew.later h1 lC,TQ.drew.later h1 lQ⟩ (fun hHeld2=>?_)
 clear hK K hHeld
 have hHeld := hHeld2
 clear hHeld2
 try simp only [Act.put,List.setIfInBounds_toArray,List.set_cons_zero,List.set_cons_succ]
 refine wpAnyH_ready (rs := [9]) (by kernel_rfl) (by simp) ?_
 refine AllReadyH.cons (i := 9) rfl (fun K hK=>?_) AllReadyH.nil
 go_simp
 refine (K2 u1 ra rca ho1 h1).mono ?_
 rintro en u2 ⟨rfl,h2⟩
 clear K2 ho1
 go_wp2_with fail
 refine hK.out _ _ ⟨TC.drew.later (h1.trans (h2.mono h1.size)) lC,TQ.drew.later (h1.trans (h2.mono h1.size)) lQ⟩ (fun hHeld2=>?_)
 clear hK K hHeld
 have hHeld := hHeld2
 clear hHeld2
 try simp only [Act.put,List.setIfInBounds_toArray,List.set_cons_zero,List.set_cons_succ]
 refine take_one 10 4 (v := ?_) rfl rfl (by kernel_rfl) (by kernel_rfl) (by kernel_rfl) (fun _ _ _ h=>h) (Or.inl ⟨by rfl,?_⟩) hHeld ?_
 rotate_left
 ·intro w' hSw;(try dsimp only at hSw);obtain ⟨bD,bQ⟩ := hSw;have q9 := bQ.at 13 rfl;rw [HM.out] at q9;have l9 := bD.at 15 rfl;go_simp;try with_reducible rfl
 try simp only [Act.put,List.setIfInBounds_toArray,List.set_cons_zero,List.set_cons_succ]
 refine wpAnyH_done (by kernel_rfl) ?_ _
 have BF:Below w.heap.size w u2 := BC.trans (((Below.refl _ V).drew.trans (h1.trans (h2.mono h1.size))).mono BC.size)
 clear hHeld h1 h2 TC TQ lC lQ BC
 go_wp2
 go_ret
 exact ⟨rfl,BF⟩
end Go.Proofs.YtjcmbbnklfemcaaGreat.Nd

set_option linter.unusedVariables false
set_option maxRecDepth 100000
namespace Go.Proofs.YtjcmbbnklfemcaaGreat.Nd
open Go Go.RowKit Go.Joins Own Draw Term
theorem wanted_yes {ops : Array Oper} {tmps : Array Value} {o : Oper} {j d : Nat} {b : Bool} (hg : o.guard = some (j, b)) (hd : (ops[j]?).bind (·.dst) = some d) (ht : tmps[d]? = some (.bool b)) : Region.wanted o (yielded ops tmps) = true := by
  have hy : yielded ops tmps j = some b := by unfold yielded; rw [hd]; simp only [Option.bind_some, ht]
  unfold Region.wanted
  rw [hg]
  simp only [hy]
  simp
theorem wpList_ldG {P : Program} {ops : Array Oper} {rest : List Oper} {o : Oper} {a : Act} {w : World} {Q : Exit → Act → World → Prop} (ty : TypeId) (x : Operand) (g off : Nat) (us vs : List Value) (ie : TypeInfo) (hie : P.info? ty = some ie) (hagg : ∀ w, (isAgg ty).run P w = .ok true w) (h : Blk g us w) (hs : vs.length = ie.size) (hv : (us.drop off).take vs.length = vs) {j d : Nat} {b : Bool}
    (hg : o.guard = some (j, b)) (hd : (ops[j]?).bind (·.dst) = some d) (ht : a.tmps[d]? = some (.bool b)) (ho : o.op = .load ty x) (hx : a.eval x = .pointer (some ⟨g, off, none⟩))
    (hn : wpList P ops Q rest (a.put o.dst (.agg vs.toArray)) w) : wpList P ops Q (o :: rest) a w := by
  refine BigFrame.wpList_want (wanted_yes hg hd ht) fun K hK => ?_
  unfold Oper.wp execOp
  simp only [ho, hx, Instr.loadAt, Instr.sureAddr, Sem.run_bind, Sem.run_pure, Result.andThen_ok, ldB ty ie hie hagg vs h hs hv]
  exact hK _ _ hn
theorem wok_acc {d : TD} (h : wokB d = true) : d.2.2.2.2.2.2.2.2.2.1.2.2.length ≤ 40 := by
  unfold wokB recB at h
  simp only [Bool.and_eq_true] at h
  exact of_decide_eq_true h.2.2.2.2.2.2.2.2.2.1
end Go.Proofs.YtjcmbbnklfemcaaGreat.Nd
