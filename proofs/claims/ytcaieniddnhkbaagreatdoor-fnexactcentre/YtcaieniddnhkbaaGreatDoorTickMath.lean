/- Plain mathematics: tickets, authenticators and grants are told from a text just where they are shown as it. -/
import Derived.Test.YtcaieniddnhkbaaGreatDoorAb
import Derived.Test.YtcaieniddnhkbaaGreatDoorTrip2
import Derived.Test.YtcaieniddnhkbaaGreatDoorWalks
import Derived.Test.YtcaieniddnhkbaaGreatDoorReadNums
import Derived.Test.YtcaieniddnhkbaaGreatDoorRows
import Derived.WalkKit
import Derived.WalkSpells
import Derived.WalkLawsBesides
import Derived.Deep.QuietTactic
import Derived.BigQuiet
import Derived.WalkSmall
import Derived.Laws.IdiomStrings
import Derived.Test.YtcaieniddnhkbaaGreatDoorVarWalks
import Derived.Test.YtcaieniddnhkbaaGreatDoorFaces2
import Derived.Test.YtcaieniddnhkbaaGreatDoorNums
import Derived.Deep.RegionHeld3
import Derived.Maps.AppendAt
import Derived.Below
import Derived.Lib.SmallJoins
set_option linter.unusedVariables false
namespace Go.Proofs.YtcaieniddnhkbaaGreatDoor
open Go.RowKit Own Var Term
theorem var_back (d:ByteArray) (h1:1 ≤ rvK d) (h2:rvK d=d.size):varOf (rvN d:Int)=d:=by
 have hA:=rv_ans d
 have hn:=rvN_le d
 rcases hA with ⟨_,hk0,_⟩ | ⟨k1,k7,ks,hc,hv⟩
 ·omega
 ·have hcv:=(canonK_iff d (rvK d - 1) (by omega)).1 hc
  rw [(by omega:rvK d - 1 + 1=rvK d),← hv] at hcv
  rw [varOf_nat _ hn]
  apply ext_list
  have e2:(⟨(varB (rvN d)).toArray⟩:ByteArray).data.toList=varB (rvN d):=by simp
  rw [e2,hcv,h2,size_list,List.take_length]
theorem atom_back (x:ByteArray) (h:(atomR x).2=true):atomT (atomR x).1=x:=by
 unfold atomR at h ⊢
 cases hr:rk x 97 with
 | none=>rw [hr] at h;cases h
 | some q =>
  obtain ⟨n,d⟩:=q
  obtain ⟨hT,_,hk,hc,_,_⟩:=rk_facts hr
  obtain ⟨c,e,hok,hat,hn⟩:=cut_form hc
  obtain ⟨_,r',hb,hr0⟩:=(isT_iff x).1 hT
  rw [bh_some hc,if_pos hk] at hb
  have hc97:c.toNat=97:=by omega
  have ec:c=97:=by apply UInt8.toNat_inj.1;rw [hc97];rfl
  subst ec
  by_cases hnd:n ≤ d.size
  ·rw [if_pos hnd,Option.some.injEq] at hb
   subst hb
   rw [suf_size] at hr0
   have hnd':n=d.size:=by omega
   show atomT d=x
   unfold atomT
   rw [← hnd',← e,okOr_yes hT]
  ·rw [if_neg hnd] at hb;cases hb
theorem num_back (x:ByteArray) (h:(numR x).2=true):numT (numR x).1=x:=by
 have hh:1 ≤ rvK (atomR x).1∧rvK (atomR x).1=(atomR x).1.size:=by
  by_cases c:1 ≤ rvK (atomR x).1∧rvK (atomR x).1=(atomR x).1.size
  ·exact c
  ·unfold numR at h;rw [if_neg c] at h;cases h
 have ha:(atomR x).2=true:=by
  cases hq:(atomR x).2 with
  | true=>rfl
  | false=>rw [atomR_no x hq,rvK_nil] at hh;omega
 have e:(numR x).1=(rvN (atomR x).1:Int):=by unfold numR;rw [if_pos hh]
 have v:=var_back _ hh.1 hh.2
 rw [e]
 unfold numT
 rw [v,if_neg (by omega)]
 exact atom_back x ha
theorem nums_back (s:ByteArray) (h:(numsR s).2=true):numsT (numsR s).1=s:=by
 unfold numsR numsP at h ⊢
 by_cases c:((partsR s).2 && (partsR s).1.all fun x=>(numR x).2)=true
 ·rw [if_pos c]
  rw [Bool.and_eq_true,List.all_eq_true] at c
  show listT (((partsR s).1.map fun x=>(numR x).1).map numT)=s
  rw [List.map_map]
  have:∀ x ∈ (partsR s).1,(numT ∘ fun x=>(numR x).1) x=x:=fun x hx=>num_back x (c.2 x hx)
  rw [List.map_congr_left this,List.map_id']
  exact list_back s c.1
 ·rw [if_neg c] at h;cases h
theorem key_trip (k:Int) (h:(keyT k).size ≠ 0):keyR (keyT k)=(k,true):=by
 have hk:1 ≤ k∧k ≤ 1000000:=by
  by_cases c:1 ≤ k∧k ≤ 1000000
  ·exact c
  ·unfold keyT at h;rw [if_neg c] at h;exact absurd rfl h
 obtain ⟨n,rfl⟩:=Int.eq_ofNat_of_zero_le (by omega:0 ≤ k)
 have e:keyT (n:Int)=hdT 107 n:=by unfold keyT;rw [if_pos hk]
 have hT:isT (hdT 107 n ++ ⟨#[]⟩)=true:=by
  rw [app_nil]
  have:=okOr_full (s:=hdT 107 (n:Int)) (by rw [keyT_ok];exact h)
  exact this.1
 have hr:=rk_made (kind:=107) (by omega) hT rfl
 rw [app_nil] at hr
 unfold keyR
 rw [e,hr]
theorem isT_full {s:ByteArray} (h:isT s=true):s.size ≠ 0:=by
 intro h0
 rw [empty_of s h0,isT_nil] at h
 cases h
theorem list_all {xs:List ByteArray} (h:(listT xs).size ≠ 0):∀ x ∈ xs,isT x=true:=by
 unfold listT at h
 by_cases hc:xs.length ≤ 12∧xs.all isT=true
 ·exact List.all_eq_true.1 hc.2
 ·rw [if_neg hc] at h;exact absurd rfl h
theorem seal_in (k:Int) (t:ByteArray) (h:(sealT k t).size ≠ 0):isT t=true:=by
 cases ht:isT t with
 | true=>rfl
 | false=>rw [sealT_part k t ht] at h;exact absurd rfl h
theorem open_full (s:ByteArray) (k:Int) (h:(openR s k).2=true):s.size ≠ 0:=isT_full (seal_kind s k h).1
theorem nums_ok (s:ByteArray) (h:(numsR s).1 ≠ []):(numsR s).2=true:=by
 cases hh:(numsR s).2 with
 | true=>rfl
 | false=>exact absurd (nums_len s hh) h
theorem numsR_nil:numsR ⟨#[]⟩=([],false):=by
 unfold numsR partsR
 rw [rk_nil]
 rfl
theorem partsR_nil:partsR ⟨#[]⟩=([],false):=by
 unfold partsR
 rw [rk_nil]
theorem openR_no (s:ByteArray) (k:Int) (h:(openR s k).2=false):(openR s k).1=⟨#[]⟩:=by
 unfold openR at h ⊢
 cases hr:rk s 115 with
 | none=>rfl
 | some q =>
  obtain ⟨n,t⟩:=q
  rw [hr] at h
  simp only at h ⊢
  by_cases c:(n:Int)=k
  ·rw [if_pos c] at h;cases h
  ·rw [if_neg c]
/-! Rests. -/
theorem rdK_len {L:List Int} (h:rdK L=true):∃ a b c,L=[a,b,c]∧rOk a b c=true:=by
 unfold rdK at h
 rw [Bool.and_eq_true,decide_eq_true_eq] at h
 match L,h with
 | [a,b,c],h=>exact ⟨a,b,c,rfl,h.2⟩
theorem rest_back (x:ByteArray) (h:rdK (numsR x).1=true):shR (rdA (numsR x).1) (rdB (numsR x).1) (rdC (numsR x).1)=x:=by
 obtain ⟨a,b,c,e,hr⟩:=rdK_len h
 have ht:=nums_ok x (by rw [e];simp)
 have hb:=nums_back x ht
 rw [e] at hb ⊢
 have ea:rdA [a,b,c]=a:=by unfold rdA;rw [if_pos ⟨rfl,hr⟩];rfl
 have eb:rdB [a,b,c]=b:=by unfold rdB;rw [if_pos ⟨rfl,hr⟩];rfl
 have ec:rdC [a,b,c]=c:=by unfold rdC;rw [if_pos ⟨rfl,hr⟩];rfl
 rw [ea,eb,ec]
 unfold shR
 rw [hr]
 exact hb
theorem rest_trip (a b c:Int) (h:(shR a b c).size ≠ 0):rdK (numsR (shR a b c)).1=true∧rdA (numsR (shR a b c)).1=a∧rdB (numsR (shR a b c)).1=b∧rdC (numsR (shR a b c)).1=c:=by
 have hr:rOk a b c=true:=by
  cases hr:rOk a b c with
  | true=>rfl
  | false=>unfold shR at h;rw [hr] at h;exact absurd rfl h
 have e:shR a b c=numsT [a,b,c]:=by unfold shR;rw [hr];rfl
 rw [e] at h ⊢
 have ht:=nums_trip [a,b,c]
 rw [if_neg h] at ht
 rw [ht]
 refine ⟨?_,?_,?_,?_⟩
 ·unfold rdK;simp [hr]
 ·unfold rdA;rw [if_pos ⟨rfl,hr⟩];rfl
 ·unfold rdB;rw [if_pos ⟨rfl,hr⟩];rfl
 ·unfold rdC;rw [if_pos ⟨rfl,hr⟩];rfl
/-! What is shown. -/
def inT (c s k a b e:Int) (P V:List Int):ByteArray:=listT [numsT [c,s],keyT k,shR a b e,numsT P,numsT V]
def shT (c s k a b e:Int) (P V:List Int) (key:Int):ByteArray:=if tOk c s k a b e P V then sealT key (inT c s k a b e P V) else ⟨#[]⟩
def shA (c t q key:Int):ByteArray:=if aOk c t q then sealT key (numsT [7,c,t,q]) else ⟨#[]⟩
def inG (k s n a b e:Int):ByteArray:=listT [keyT k,numsT [s,n],shR a b e]
def shG (k s n a b e key:Int):ByteArray:=if gOk k s n a b e then sealT key (inG k s n a b e) else ⟨#[]⟩
theorem if_full {b:Bool} {x:ByteArray} (h:(if b then x else ⟨#[]⟩:ByteArray).size ≠ 0):b=true∧(if b then x else ⟨#[]⟩:ByteArray)=x:=by
 cases b with
 | true=>exact ⟨rfl,rfl⟩
 | false=>exact absurd rfl h
theorem tick_iff (s:ByteArray) (key:Int) (x0 x1 x2 x3 x4:ByteArray) (c sv:Int)
  (hx:[x0,x1,x2,x3,x4]=if (partsR (openR s key).1).1.length=5 then (partsR (openR s key).1).1 else [⟨#[]⟩,⟨#[]⟩,⟨#[]⟩,⟨#[]⟩,⟨#[]⟩])
  (hw:[c,sv]=if (numsR x0).1.length=2 then (numsR x0).1 else [0,0]) :
  ((shT c sv (keyR x1).1 (rdA (numsR x2).1) (rdB (numsR x2).1) (rdC (numsR x2).1) (numsR x3).1 (numsR x4).1 key).size ≠ 0∧shT c sv (keyR x1).1 (rdA (numsR x2).1) (rdB (numsR x2).1) (rdC (numsR x2).1) (numsR x3).1 (numsR x4).1 key=s) ↔
  ((partsR (openR s key).1).1.length=5∧(numsR x0).2=true∧(keyR x1).2=true∧rdK (numsR x2).1=true∧(numsR x3).2=true∧(numsR x4).2=true∧(numsR x0).1.length=2 ∧
   tOk c sv (keyR x1).1 (rdA (numsR x2).1) (rdB (numsR x2).1) (rdC (numsR x2).1) (numsR x3).1 (numsR x4).1=true):=by
 constructor
 ·rintro ⟨h0,hs⟩
  obtain ⟨hok,e⟩:=if_full h0
  have e':shT c sv (keyR x1).1 (rdA (numsR x2).1) (rdB (numsR x2).1) (rdC (numsR x2).1) (numsR x3).1 (numsR x4).1 key=sealT key (inT c sv (keyR x1).1 (rdA (numsR x2).1) (rdB (numsR x2).1) (rdC (numsR x2).1) (numsR x3).1 (numsR x4).1):=e
  rw [e'] at h0 hs
  have ho:=(seal_trip _ _ h0).1
  have hi:=isT_full (seal_in _ _ h0)
  unfold inT at hi
  rw [hs] at ho
  have hl:=list_trip [numsT [c,sv],keyT (keyR x1).1,shR (rdA (numsR x2).1) (rdB (numsR x2).1) (rdC (numsR x2).1),numsT (numsR x3).1,numsT (numsR x4).1]
  rw [if_neg hi] at hl
  have hp:(partsR (openR s key).1).1=[numsT [c,sv],keyT (keyR x1).1,shR (rdA (numsR x2).1) (rdB (numsR x2).1) (rdC (numsR x2).1),numsT (numsR x3).1,numsT (numsR x4).1]:=by
   rw [ho];show (partsR (listT _)).1=_;rw [hl]
  have hall:=list_all hi
  rw [hp,if_pos (by rfl)] at hx
  simp only [List.cons.injEq,and_true] at hx
  obtain ⟨q0,q1,q2,q3,q4⟩:=hx
  have t0:=nums_trip [c,sv]
  have t3:=nums_trip (numsR x3).1
  have t4:=nums_trip (numsR x4).1
  have i0:=isT_full (hall _ (by simp:numsT [c,sv] ∈ _))
  have i1:=isT_full (hall _ (by simp:keyT (keyR x1).1 ∈ _))
  have i2:=isT_full (hall _ (by simp:shR (rdA (numsR x2).1) (rdB (numsR x2).1) (rdC (numsR x2).1) ∈ _))
  have i3:=isT_full (hall _ (by simp:numsT (numsR x3).1 ∈ _))
  have i4:=isT_full (hall _ (by simp:numsT (numsR x4).1 ∈ _))
  rw [if_neg i0,← q0] at t0
  rw [if_neg i3,← q3] at t3
  rw [if_neg i4,← q4] at t4
  have t1:=key_trip _ i1
  rw [← q1] at t1
  have t2:=(rest_trip _ _ _ i2).1
  rw [← q2] at t2
  exact ⟨by rw [hp];rfl,by rw [t0],by rw [t1],t2,by rw [t3],by rw [t4],by rw [t0];rfl,hok⟩
 ·rintro ⟨h5,k0,k1,k2,k3,k4,hl2,hok⟩
  rw [if_pos h5] at hx
  rw [if_pos hl2] at hw
  have hopen:(openR s key).2=true:=by
   cases ho:(openR s key).2 with
   | true=>rfl
   | false=>rw [openR_no s key ho,partsR_nil] at h5;cases h5
  have hparts:(partsR (openR s key).1).2=true:=by
   cases hp:(partsR (openR s key).1).2 with
   | true=>rfl
   | false=>rw [parts_no _ hp] at h5;cases h5
  have b0:=nums_back _ k0
  rw [← hw] at b0
  have e:shT c sv (keyR x1).1 (rdA (numsR x2).1) (rdB (numsR x2).1) (rdC (numsR x2).1) (numsR x3).1 (numsR x4).1 key=s:=by
   unfold shT inT
   rw [hok,b0,key_back _ k1,rest_back _ k2,nums_back _ k3,nums_back _ k4,hx,list_back _ hparts]
   exact seal_back s key hopen
  exact ⟨by rw [e];exact open_full s key hopen,e⟩
theorem auth_iff (s:ByteArray) (key:Int) (m c t q:Int)
  (hx:[m,c,t,q]=if (numsR (openR s key).1).1.length=4 then (numsR (openR s key).1).1 else [0,0,0,0]) :
  ((shA c t q key).size ≠ 0∧shA c t q key=s) ↔ ((numsR (openR s key).1).2=true∧(numsR (openR s key).1).1.length=4∧m=7∧aOk c t q=true):=by
 constructor
 ·rintro ⟨h0,hs⟩
  obtain ⟨hok,e⟩:=if_full h0
  have e':shA c t q key=sealT key (numsT [7,c,t,q]):=e
  rw [e'] at h0 hs
  have ho:=(seal_trip _ _ h0).1
  have hi:=isT_full (seal_in _ _ h0)
  rw [hs] at ho
  have hl:=nums_trip [7,c,t,q]
  rw [if_neg hi] at hl
  rw [ho,hl] at hx ⊢
  simp at hx
  exact ⟨rfl,rfl,hx,hok⟩
 ·rintro ⟨k,h4,rfl,hok⟩
  rw [if_pos h4] at hx
  have hopen:(openR s key).2=true:=by
   cases ho:(openR s key).2 with
   | true=>rfl
   | false=>rw [openR_no s key ho,numsR_nil] at h4;cases h4
  have e:shA c t q key=s:=by
   unfold shA
   rw [hok,hx,nums_back _ k]
   exact seal_back s key hopen
  exact ⟨by rw [e];exact open_full s key hopen,e⟩
end Go.Proofs.YtcaieniddnhkbaaGreatDoor
set_option linter.unusedVariables false
namespace Go.Proofs.YtcaieniddnhkbaaGreatDoor
open Go Go.RowKit Own Var Term
theorem res_ab {fn:Func} {p:Tmp} {x:Tmp} (hres:fn.results=#[.cell p 116,.tmp x]) (tmps:Array Value) (w:World) (g:Nat) (v0 v1 v2:Value) (u0:Value) (hx:tmps.getD x undef=u0) (hp:tmps.getD p undef=.pointer (some ⟨g,0,none⟩)) (h0:w.cell? ⟨g,0,none⟩=some v0) (h1:w.cell? ⟨g,1,none⟩=some v1) (h2:w.cell? ⟨g,2,none⟩=some v2) :
  (results fn tmps).run Tryz.prog w=.ok (.tuple #[.agg #[v0,v1,v2],u0]) w:=by
 have hp':tmps[p]?.getD undef=.pointer (some ⟨g,0,none⟩):=by simpa using hp
 have hx':tmps[x]?.getD undef=u0:=by simpa using hx
 simp [results,hres,hp',hx',asAddr,go_sem,h0,h1,h2,loadVar,Tryz.isAgg116,Tryz.sizeOf116]
theorem res_tb {fn:Func} {p:Tmp} {x:Tmp} (hres:fn.results=#[.cell p 43,.tmp x]) (tmps:Array Value) (w:World) (g:Nat) (v0 v1 v2 v3 v4 v5 v6 v7:Value) (u0:Value) (hx:tmps.getD x undef=u0) (hp:tmps.getD p undef=.pointer (some ⟨g,0,none⟩)) (h0:w.cell? ⟨g,0,none⟩=some v0) (h1:w.cell? ⟨g,1,none⟩=some v1) (h2:w.cell? ⟨g,2,none⟩=some v2) (h3:w.cell? ⟨g,3,none⟩=some v3) (h4:w.cell? ⟨g,4,none⟩=some v4) (h5:w.cell? ⟨g,5,none⟩=some v5) (h6:w.cell? ⟨g,6,none⟩=some v6) (h7:w.cell? ⟨g,7,none⟩=some v7) :
  (results fn tmps).run Tryz.prog w=.ok (.tuple #[.agg #[v0,v1,v2,v3,v4,v5,v6,v7],u0]) w:=by
 have hp':tmps[p]?.getD undef=.pointer (some ⟨g,0,none⟩):=by simpa using hp
 have hx':tmps[x]?.getD undef=u0:=by simpa using hx
 simp [results,hres,hp',hx',asAddr,go_sem,h0,h1,h2,h3,h4,h5,h6,h7,loadVar,Tryz.isAgg43,Tryz.sizeOf43]
end Go.Proofs.YtcaieniddnhkbaaGreatDoor
set_option linter.unusedVariables false
namespace Go.Proofs.YtcaieniddnhkbaaGreatDoor
open Go Go.RowKit Own Var Term
theorem ne_text {x s:ByteArray} (h:¬ x=s):(x.toList == s.toList)=false:=by
 rw [beq_eq_false_iff_ne]
 intro e
 apply h
 apply ext_list
 simpa [ByteArray.toList_eq] using e
def toldB (x s:ByteArray):Bool:=decide (x.size ≠ 0) && decide (x=s)
set_option maxRecDepth 100000 in
set_option maxHeartbeats 3200000 in
theorem toldA_is (c t q:Int) (key:Int) (x s:ByteArray) (w:World):Calls Tryz.prog 184 #[.agg #[I c,I t,I q,I key],.string x,.string s] w fun en w'=>en=.returned (.tuple #[.agg #[if toldB x s then I c else I 0,if toldB x s then I t else I 0,if toldB x s then I q else I 0],.bool (toldB x s)])∧Below w.heap.size w w':=by
 have B2:Below w.heap.size w ((w.alloc (.cells #[I c,I t,I q,I key] 227)).alloc (.cells #[I c,I t,I q] 116)):=((Below.refl _ _).alloc (Nat.le_refl _) _).alloc (by simp) _
 have B3:Below w.heap.size w (((w.alloc (.cells #[I c,I t,I q,I key] 227)).alloc (.cells #[I 0,I 0,I 0] 116)).alloc (.cells #[I 0,I 0,I 0] 116)):=(((Below.refl _ _).alloc (Nat.le_refl _) _).alloc (by simp) _).alloc (by simp;omega) _
 by_cases h0:x=⟨#[]⟩
 ·have ht:toldB x s=false:=by unfold toldB;rw [h0];rfl
  rw [ht]
  subst h0
  go_enter Tryz.func184,Tryz.ntmps184
  go_wp2
  exact bodyPost_ret (res_ab rfl _ _ (w.heap.size + 1) _ _ _ (.bool false) rfl rfl (by simp [go_sem]) (by simp [go_sem]) (by simp [go_sem])) rfl ⟨rfl,B3⟩
 ·have q2:=ne_nil x (by rcases Nat.eq_zero_or_pos x.size with h | h;exact absurd (empty_of x h) h0;exact h)
  by_cases h1:x=s
  ·have ht:toldB x s=true:=by unfold toldB;simp [h1];intro h;exact h0 (h1.trans h)
   rw [ht]
   subst h1
   go_enter Tryz.func184,Tryz.ntmps184
   go_wp2
   exact bodyPost_ret (res_ab rfl _ _ (w.heap.size + 1) _ _ _ (.bool true) rfl rfl (by simp [go_sem]) (by simp [go_sem]) (by simp [go_sem])) rfl ⟨rfl,B2⟩
  ·have ht:toldB x s=false:=by unfold toldB;simp [h1]
   have q4:=ne_text h1
   rw [ht]
   go_enter Tryz.func184,Tryz.ntmps184
   go_wp2
   exact bodyPost_ret (res_ab rfl _ _ (w.heap.size + 1) _ _ _ (.bool false) rfl rfl (by simp [go_sem]) (by simp [go_sem]) (by simp [go_sem])) rfl ⟨rfl,B3⟩
set_option maxRecDepth 100000 in
set_option maxHeartbeats 3200000 in
theorem toldT_is (c s0 k a b e:Int) (pa:Option Addr) (pl pc:Nat) (va:Option Addr) (vl vc:Nat) (key:Int) (x s:ByteArray) (w:World):Calls Tryz.prog 182 #[.agg #[I c,I s0,I k,I a,I b,I e,.slice pa pl pc,.slice va vl vc,I key],.string x,.string s] w fun en w'=>en=.returned (.tuple #[.agg #[if toldB x s then I c else I 0,if toldB x s then I s0 else I 0,if toldB x s then I k else I 0,if toldB x s then I a else I 0,if toldB x s then I b else I 0,if toldB x s then I e else I 0,if toldB x s then .slice pa pl pc else .slice none 0 0,if toldB x s then .slice va vl vc else .slice none 0 0],.bool (toldB x s)])∧Below w.heap.size w w':=by
 have B2:Below w.heap.size w ((w.alloc (.cells #[I c,I s0,I k,I a,I b,I e,.slice pa pl pc,.slice va vl vc,I key] 194)).alloc (.cells #[I c,I s0,I k,I a,I b,I e,.slice pa pl pc,.slice va vl vc] 43)):=((Below.refl _ _).alloc (Nat.le_refl _) _).alloc (by simp) _
 have B3:Below w.heap.size w (((w.alloc (.cells #[I c,I s0,I k,I a,I b,I e,.slice pa pl pc,.slice va vl vc,I key] 194)).alloc (.cells #[I 0,I 0,I 0,I 0,I 0,I 0,.slice none 0 0,.slice none 0 0] 43)).alloc (.cells #[I 0,I 0,I 0,I 0,I 0,I 0,.slice none 0 0,.slice none 0 0] 43)):=(((Below.refl _ _).alloc (Nat.le_refl _) _).alloc (by simp) _).alloc (by simp;omega) _
 by_cases h0:x=⟨#[]⟩
 ·have ht:toldB x s=false:=by unfold toldB;rw [h0];rfl
  rw [ht]
  subst h0
  go_enter Tryz.func182,Tryz.ntmps182
  go_wp2
  exact bodyPost_ret (res_tb rfl _ _ (w.heap.size + 1) _ _ _ _ _ _ _ _ (.bool false) rfl rfl (by simp [go_sem]) (by simp [go_sem]) (by simp [go_sem]) (by simp [go_sem]) (by simp [go_sem]) (by simp [go_sem]) (by simp [go_sem]) (by simp [go_sem])) rfl ⟨rfl,B3⟩
 ·have q2:=ne_nil x (by rcases Nat.eq_zero_or_pos x.size with h | h;exact absurd (empty_of x h) h0;exact h)
  by_cases h1:x=s
  ·have ht:toldB x s=true:=by unfold toldB;simp [h1];intro h;exact h0 (h1.trans h)
   rw [ht]
   subst h1
   go_enter Tryz.func182,Tryz.ntmps182
   go_wp2
   exact bodyPost_ret (res_tb rfl _ _ (w.heap.size + 1) _ _ _ _ _ _ _ _ (.bool true) rfl rfl (by simp [go_sem]) (by simp [go_sem]) (by simp [go_sem]) (by simp [go_sem]) (by simp [go_sem]) (by simp [go_sem]) (by simp [go_sem]) (by simp [go_sem])) rfl ⟨rfl,B2⟩
  ·have ht:toldB x s=false:=by unfold toldB;simp [h1]
   have q4:=ne_text h1
   rw [ht]
   go_enter Tryz.func182,Tryz.ntmps182
   go_wp2
   exact bodyPost_ret (res_tb rfl _ _ (w.heap.size + 1) _ _ _ _ _ _ _ _ (.bool false) rfl rfl (by simp [go_sem]) (by simp [go_sem]) (by simp [go_sem]) (by simp [go_sem]) (by simp [go_sem]) (by simp [go_sem]) (by simp [go_sem]) (by simp [go_sem])) rfl ⟨rfl,B3⟩
end Go.Proofs.YtcaieniddnhkbaaGreatDoor
set_option linter.unusedVariables false
namespace Go.Proofs.YtcaieniddnhkbaaGreatDoor
open Go Go.RowKit Go.Joins Own Var Term
theorem Blk.lower {g n:Nat} {vs:List Value} {W W':World} (h:Blk g vs W) (hb:Below n W W') (hg:g < n):Blk g vs W' :=
 ⟨fun i v e=>⟨(hb.cell (p:=⟨g,i,none⟩) hg).trans (h.out i v e).1,(hb.frozen (p:=⟨g,i,none⟩) hg).trans (h.out i v e).2⟩⟩
theorem own_blk {α:Type} {f:α → Value} {w:World} {base n:Nat} {e:TypeId} {v:Value} {xs:List α} (h:w.ownsRow base e 1 v n (xs.map f)) (hn:0 < n) :
  ∃ g cap,v=.slice (some ⟨g,0,none⟩) n cap∧n ≤ cap∧base ≤ g∧g < w.heap.size∧Blk g (xs.map f) w:=by
 have hl:xs.length=n:=by have:=h.1;simpa using this
 rcases h.2 with ⟨_,h0⟩ | ⟨g,cap,cur,rfl,e2,e3,e4,_⟩
 ·omega
 ·refine ⟨g,cap,rfl,e4,e2,(h.lt g rfl).2,⟨fun i u hu=>⟨?_,h.frozenAt i⟩⟩⟩
  have hi:i < n:=by
   obtain ⟨q,_⟩:=List.getElem?_eq_some_iff.1 hu
   simpa [hl] using q
  rw [h.cellAt i (by omega)]
  exact hu
theorem openR_size (s:ByteArray) (k:Int):(openR s k).1.size ≤ 900:=by
 unfold openR
 cases hr:rk s 115 with
 | none=>show 0 ≤ 900;omega
 | some q =>
  obtain ⟨n,t⟩:=q
  obtain ⟨_,_,_,_,_,h⟩:=rk_facts hr
  show (if (n:Int)=k then (t,true) else (⟨#[]⟩,false)).1.size ≤ 900
  split
  ·exact h
  ·show 0 ≤ 900;omega
theorem Blk.fill3 {m g:Nat} {w W:World} {u0 u1 u2:Value} (h:Blk g [u0,u1,u2] W) (hb:Below m w W) (hg:m ≤ g) (v0 v1 v2:Value) :
  Blk g [v0,v1,v2] ((((W).setCell ⟨g,0,none⟩ (v0)).setCell ⟨g,1,none⟩ (v1)).setCell ⟨g,2,none⟩ (v2))∧Below m w ((((W).setCell ⟨g,0,none⟩ (v0)).setCell ⟨g,1,none⟩ (v1)).setCell ⟨g,2,none⟩ (v2)) :=
 ⟨(((h.set 0 v0).set 1 v1).set 2 v2),(((hb.setCell (by dsimp only;omega) _).setCell (by dsimp only;omega) _).setCell (by dsimp only;omega) _)⟩
theorem Blk.fill8 {m g:Nat} {w W:World} {u0 u1 u2 u3 u4 u5 u6 u7:Value} (h:Blk g [u0,u1,u2,u3,u4,u5,u6,u7] W) (hb:Below m w W) (hg:m ≤ g) (v0 v1 v2 v3 v4 v5 v6 v7:Value) :
  Blk g [v0,v1,v2,v3,v4,v5,v6,v7] (((((((((W).setCell ⟨g,0,none⟩ (v0)).setCell ⟨g,1,none⟩ (v1)).setCell ⟨g,2,none⟩ (v2)).setCell ⟨g,3,none⟩ (v3)).setCell ⟨g,4,none⟩ (v4)).setCell ⟨g,5,none⟩ (v5)).setCell ⟨g,6,none⟩ (v6)).setCell ⟨g,7,none⟩ (v7))∧Below m w (((((((((W).setCell ⟨g,0,none⟩ (v0)).setCell ⟨g,1,none⟩ (v1)).setCell ⟨g,2,none⟩ (v2)).setCell ⟨g,3,none⟩ (v3)).setCell ⟨g,4,none⟩ (v4)).setCell ⟨g,5,none⟩ (v5)).setCell ⟨g,6,none⟩ (v6)).setCell ⟨g,7,none⟩ (v7)) :=
 ⟨((((((((h.set 0 v0).set 1 v1).set 2 v2).set 3 v3).set 4 v4).set 5 v5).set 6 v6).set 7 v7),((((((((hb.setCell (by dsimp only;omega) _).setCell (by dsimp only;omega) _).setCell (by dsimp only;omega) _).setCell (by dsimp only;omega) _).setCell (by dsimp only;omega) _).setCell (by dsimp only;omega) _).setCell (by dsimp only;omega) _).setCell (by dsimp only;omega) _)⟩
end Go.Proofs.YtcaieniddnhkbaaGreatDoor
set_option linter.unusedVariables false
namespace Go.Proofs.YtcaieniddnhkbaaGreatDoor.Draw
open Go Go.RowKit
/-- The state of a cursor: how many bytes are taken, and the number that is mixed in. -/
structure St where
 i:Nat
 h:Int
/-- The cursor lies in block p and stands so. -/
structure CurAt (W:World) (p:Nat) (a:Option Addr) (len cap:Nat) (s:St):Prop where
 b:W.cell? ⟨p,0,none⟩=some (.slice a len cap)
 i:W.cell? ⟨p,1,none⟩=some (I (s.i:Int))
 h:W.cell? ⟨p,2,none⟩=some (I s.h)
 f:∀ o,W.frozen? ⟨p,o,none⟩=false
/-- The bytes of the code lie below block p. -/
def CodeAt (W:World) (p:Nat) (a:Option Addr) (len:Nat) (zs:List Int):Prop :=
 len ≤ 1048576∧∀ j,j < len → (0 ≤ zs.getD j 0∧zs.getD j 0 ≤ 255)∧∃ b off,a=some ⟨b,off,none⟩∧b < p∧W.cell? ⟨b,off + j,none⟩=some (.int .u8 (zs.getD j 0))
theorem CodeAt.lt {W:World} {p:Nat} {a:Option Addr} {len:Nat} {zs:List Int} (h:CodeAt W p a len zs) {q:Nat} (hq:p ≤ q):CodeAt W q a len zs:=by
 refine ⟨h.1,fun j hj=>?_⟩
 obtain ⟨h1,b,off,e,hp,hc⟩:=h.2 j hj
 exact ⟨h1,b,off,e,by omega,hc⟩
theorem CodeAt.below {W W':World} {p:Nat} {a:Option Addr} {len:Nat} {zs:List Int} (h:CodeAt W p a len zs) (hb:Below p W W'):CodeAt W' p a len zs:=by
 refine ⟨h.1,fun j hj=>?_⟩
 obtain ⟨h1,b,off,e,hp,hc⟩:=h.2 j hj
 exact ⟨h1,b,off,e,hp,by rw [hb.cell (p:=⟨b,off + j,none⟩) hp];exact hc⟩
theorem set_other (W:World) (p o o':Nat) (v:Value) (h:o ≠ o'):(W.setCell ⟨p,o,none⟩ v).cell? ⟨p,o',none⟩=W.cell? ⟨p,o',none⟩:=by
 apply World.cell?_setCell_other
 exact fun e=>h (by injection e)
theorem set_same (W:World) (p o:Nat) (u v:Value) (h:W.cell? ⟨p,o,none⟩=some u):(W.setCell ⟨p,o,none⟩ v).cell? ⟨p,o,none⟩=some v:=by
 apply World.cell?_setCell_same
 exact h
/-- w' is W but for what block p holds, and for new blocks. -/
def Only (p:Nat) (W w':World):Prop:=W.grownBy w' (some p)
theorem Only.refl (p:Nat) (W:World):Only p W W:=World.grownBy.refl W _
theorem Only.trans {p:Nat} {a b c:World} (h:Only p a b) (k:Only p b c):Only p a c :=
 ⟨k.os.trans h.os,k.tape.trans h.tape,k.output.trans h.output,Nat.le_trans h.size k.size,fun j hj hn=>(k.block j (Nat.lt_of_lt_of_le hj h.size) hn).trans (h.block j hj hn)⟩
theorem Only.setCell {p:Nat} {a w:World} (h:Only p a w) (o:Nat) (v:Value):Only p a (w.setCell ⟨p,o,none⟩ v) :=
 ⟨h.os,h.tape,h.output,by have:=h.size;simpa using this,fun j hj hn=>(Below.heap_setCell w ⟨p,o,none⟩ v j (fun e=>hn (by rw [e]))).trans (h.block j hj hn)⟩
theorem Only.drewN {p:Nat} {a w:World} (h:Only p a w) (n:Nat):Only p a (w.drewN n):=⟨h.os,h.tape,h.output,h.size,h.block⟩
theorem Only.alloc {p:Nat} {a w:World} (h:Only p a w) (o:Obj):Only p a (w.alloc o) :=
 ⟨h.os,h.tape,h.output,by have:=h.size;simp;omega,fun j hj hn=>(Below.heap_alloc w o j (Nat.lt_of_lt_of_le hj h.size)).trans (h.block j hj hn)⟩
theorem Only.below {p B:Nat} {W w':World} (h:Only p W w') (hB:B ≤ p) (hp:p < W.heap.size):Below B W w' :=
 ⟨h.os,h.tape,h.output,h.size,fun j hj=>h.block j (by omega) (by simp;omega)⟩
theorem Only.cell {p:Nat} {W w':World} (h:Only p W w') {q:Addr} (hq:q.block < W.heap.size) (hn:q.block ≠ p):w'.cell? q=W.cell? q :=
 World.cell?_of_block (h.block q.block hq (by simp;exact hn))
theorem Only.frozen {p:Nat} {W w':World} (h:Only p W w') {q:Addr} (hq:q.block < W.heap.size) (hn:q.block ≠ p):w'.frozen? q=W.frozen? q :=
 World.frozen?_of_block (h.block q.block hq (by simp;exact hn))
theorem CurAt.lt {W:World} {p:Nat} {a:Option Addr} {len cap:Nat} {s:St} (h:CurAt W p a len cap s):p < W.heap.size:=World.block_lt_of_cell? W _ h.b
end Go.Proofs.YtcaieniddnhkbaaGreatDoor.Draw
set_option linter.unusedVariables false
namespace Go.Proofs.YtcaieniddnhkbaaGreatDoor.Draw
open Go Go.RowKit
/-- The cursor stands so, and its code can be read. -/
structure Dr (W:World) (p:Nat) (a:Option Addr) (len cap:Nat) (zs:List Int) (s:St):Prop where
 cur:CurAt W p a len cap s
 code:CodeAt W p a len zs
 le:s.i ≤ len
theorem Dr.next {W w':World} {p:Nat} {a:Option Addr} {len cap:Nat} {zs:List Int} {s s':St} (h:Dr W p a len cap zs s) (c:CurAt w' p a len cap s') (b:Only p W w') (le:s'.i ≤ len):Dr w' p a len cap zs s' :=
 ⟨c,h.code.below (b.below (Nat.le_refl _) h.cur.lt),le⟩
theorem Dr.alloc {W:World} {p:Nat} {a:Option Addr} {len cap:Nat} {zs:List Int} {s:St} (h:Dr W p a len cap zs s) (o:Obj):Dr (W.alloc o) p a len cap zs s:=by
 have hl:=h.cur.lt
 have e:∀ q:Addr,q.block < W.heap.size → (W.alloc o).cell? q=W.cell? q:=fun q hq=>World.cell?_of_block (Below.heap_alloc W o q.block hq)
 have ef:∀ q:Addr,q.block < W.heap.size → (W.alloc o).frozen? q=W.frozen? q:=fun q hq=>World.frozen?_of_block (Below.heap_alloc W o q.block hq)
 exact ⟨⟨(e _ hl).trans h.cur.b,(e _ hl).trans h.cur.i,(e _ hl).trans h.cur.h,fun k=>(ef _ hl).trans (h.cur.f k)⟩,h.code.below ((Below.refl p W).alloc (Nat.le_of_lt hl) o),h.le⟩
theorem Dr.drewN {W:World} {p:Nat} {a:Option Addr} {len cap:Nat} {zs:List Int} {s:St} (h:Dr W p a len cap zs s) (n:Nat):Dr (W.drewN n) p a len cap zs s :=
 ⟨⟨h.cur.b,h.cur.i,h.cur.h,h.cur.f⟩,h.code,h.le⟩
end Go.Proofs.YtcaieniddnhkbaaGreatDoor.Draw
set_option linter.unusedVariables false
namespace Go.Proofs.YtcaieniddnhkbaaGreatDoor.Draw
open Go Go.RowKit
theorem Dr.grown {W w':World} {p:Nat} {a:Option Addr} {len cap:Nat} {zs:List Int} {s:St} {row:Option Nat} (h:Dr W p a len cap zs s) (hg:W.grownBy w' row) (hr:∀ k,row=some k → p < k):Dr w' p a len cap zs s:=by
 have hl:=h.cur.lt
 have e:∀ q:Addr,q.block=p → w'.cell? q=W.cell? q:=fun q hq=>World.cell?_of_block (by rw [hq];exact hg.block p hl (fun e=>by have:=hr p e.symm;omega))
 have ef:∀ q:Addr,q.block=p → w'.frozen? q=W.frozen? q:=fun q hq=>World.frozen?_of_block (by rw [hq];exact hg.block p hl (fun e=>by have:=hr p e.symm;omega))
 refine ⟨⟨(e _ rfl).trans h.cur.b,(e _ rfl).trans h.cur.i,(e _ rfl).trans h.cur.h,fun k=>(ef _ rfl).trans (h.cur.f k)⟩,h.code.below ⟨hg.os,hg.tape,hg.output,hg.size,fun j hj=>hg.block j (by omega) (fun e=>by have:=hr j e.symm;omega)⟩,h.le⟩
/-- The cursor stands somewhere, its code can be read, and nothing else was written into since W. -/
def Cu (p:Nat) (a:Option Addr) (len cap:Nat) (zs:List Int) (W w:World):Prop:=(∃ s,Dr w p a len cap zs s)∧Only p W w
theorem Cu.lt {p:Nat} {a:Option Addr} {len cap:Nat} {zs:List Int} {W w:World} (h:Cu p a len cap zs W w):p < w.heap.size:=by obtain ⟨⟨s,h⟩,_⟩:=h;exact h.cur.lt
theorem Cu.next {p:Nat} {a:Option Addr} {len cap:Nat} {zs:List Int} {W w w':World} (h:Cu p a len cap zs W w) (k:Cu p a len cap zs w w'):Cu p a len cap zs W w':=⟨k.1,h.2.trans k.2⟩
theorem Cu.alloc {p:Nat} {a:Option Addr} {len cap:Nat} {zs:List Int} {W w:World} (h:Cu p a len cap zs W w) (o:Obj):Cu p a len cap zs W (w.alloc o):=by
 obtain ⟨⟨s,h⟩,k⟩:=h
 exact ⟨⟨s,h.alloc o⟩,k.alloc o⟩
theorem Cu.drew {p:Nat} {a:Option Addr} {len cap:Nat} {zs:List Int} {W w:World} (h:Cu p a len cap zs W w):Cu p a len cap zs W w.drew:=by
 obtain ⟨⟨s,h⟩,k⟩:=h
 exact ⟨⟨s,h.drewN 1⟩,k.drewN 1⟩
theorem Cu.setCell {p:Nat} {a:Option Addr} {len cap:Nat} {zs:List Int} {W w:World} (h:Cu p a len cap zs W w) (hp:p < W.heap.size) {g:Nat} (hg:W.heap.size ≤ g) (o:Nat) (v:Value):Cu p a len cap zs W (w.setCell ⟨g,o,none⟩ v):=by
 obtain ⟨⟨s,h⟩,k⟩:=h
 refine ⟨⟨s,h.grown (row:=some g) ⟨rfl,rfl,rfl,by simp,fun j hj hn=>Below.heap_setCell w ⟨g,o,none⟩ v j (fun e=>hn (by rw [e]))⟩ (fun k hk=>by cases hk;omega)⟩,⟨k.os,k.tape,k.output,by have:=k.size;simpa using this,fun j hj hn=>(Below.heap_setCell w ⟨g,o,none⟩ v j (fun e=>by have:j=g:=e;omega)).trans (k.block j hj hn)⟩⟩
theorem Cu.cell {p:Nat} {a:Option Addr} {len cap:Nat} {zs:List Int} {W w:World} (h:Cu p a len cap zs W w) {g:Nat} (hg:g < W.heap.size) (hn:p < g) (o:Nat):w.cell? ⟨g,o,none⟩=W.cell? ⟨g,o,none⟩:=h.2.cell (q:=⟨g,o,none⟩) hg (by show g ≠ p;omega)
theorem Cu.frozen {p:Nat} {a:Option Addr} {len cap:Nat} {zs:List Int} {W w:World} (h:Cu p a len cap zs W w) {g:Nat} (hg:g < W.heap.size) (hn:p < g) (o:Nat):w.frozen? ⟨g,o,none⟩=W.frozen? ⟨g,o,none⟩:=h.2.frozen (q:=⟨g,o,none⟩) hg (by show g ≠ p;omega)
theorem Cu.size {p:Nat} {a:Option Addr} {len cap:Nat} {zs:List Int} {W w:World} (h:Cu p a len cap zs W w):W.heap.size ≤ w.heap.size:=h.2.size
end Go.Proofs.YtcaieniddnhkbaaGreatDoor.Draw
set_option linter.unusedVariables false
namespace Go.Proofs.YtcaieniddnhkbaaGreatDoor
open Go Go.RowKit Go.Joins Own Var Term Draw
set_option maxRecDepth 100000 in
theorem szI_is (a:Option Addr) (l cap:Nat) (n:Nat) (w:World) (hn:n ≤ 1048576) (hl:l ≤ maxLen) :
  Calls Tryz.prog 47 #[.slice a l cap,I n] w fun en w'=>en=.returned (I (if l ≤ n then ((n - l:Nat):Int) else -1))∧w=w':=by
 unfold maxLen at hl
 by_cases h:l ≤ n
 ·have hd:¬ ((n:Int) - (l:Int) < 0):=by omega
  have hw:((n:Int) - (l:Int))=((n - l:Nat):Int):=by omega
  rw [if_pos h]
  go_enter Tryz.func47,Tryz.ntmps47
  go_wp2
  go_ret
  exact ⟨by rw [← hw];rfl,rfl⟩
 ·have hd:((n:Int) - (l:Int) < 0):=by omega
  rw [if_neg h]
  go_enter Tryz.func47,Tryz.ntmps47
  go_wp2
  go_ret
  exact ⟨rfl,rfl⟩
theorem RowAt.set {α:Type} {f:α → Value} {w:World} {a:Option Addr} {xs:List α} (h:RowAt f w a xs) (q i:Nat) (u:Value) (hn:∀ p:Addr,a=some p → p.block ≠ q):RowAt f (w.setCell ⟨q,i,none⟩ u) a xs:=by
 intro j hj
 obtain ⟨b,off,e,hlt,hc⟩:=h j hj
 refine ⟨b,off,e,by simpa using hlt,?_⟩
 have:=hn _ e
 rw [World.cell?_setCell_other _ _ _ _ (by intro he;simp only [Addr.mk.injEq] at he;exact this he.1.symm)]
 exact hc
end Go.Proofs.YtcaieniddnhkbaaGreatDoor
