/- Links in a map by an array of two: what stands in it. -/
import Derived.Test.YtcaieniddnhkbaaGreatDoorAb
import Derived.Test.YtcaieniddnhkbaaGreatDoorKeys
import Derived.Maps.Own
import Derived.Maps.OwnSet
import Derived.Maps.Views
import Derived.WideKeyPair
import Derived.WideKeyEntry
import Derived.DeepKeys4
import Derived.Test.YtcaieniddnhkbaaGreatDoorTickMath
import Derived.OwnWalk
import Derived.Laws.OwnMore
set_option linter.unusedVariables false
set_option maxRecDepth 100000
namespace Go.Proofs.YtcaieniddnhkbaaGreatDoor
open Go Go.RowKit Var Term Go.WideMaps Go.Maps Go.WideElems
abbrev pv (a b:Int):Value:=.agg #[I a,I b]
set_option maxRecDepth 100000 in
theorem lkLaid:laidOutB Tryz.prog=true:=by kernel_rfl
set_option maxRecDepth 100000 in
theorem row79:(237:TypeId) < Tryz.prog.types.size:=of_decide_eq_true (by kernel_rfl)
theorem cells79:Tryz.prog.cellsOf 237=2:=by kernel_rfl
theorem arr79:ArrKey Tryz.prog 237 3 2:=⟨Tryz.underlying237,by kernel_rfl,by kernel_rfl,cells79⟩
theorem wide79:(match Tryz.prog.underlying 237 with | some (.array _ _) | some (.struct _)=>true | _=>false)=true:=by rw [Tryz.underlying237]
set_option maxRecDepth 100000 in
theorem klaw:KeyLaw Tryz.prog 237:=deep_law_laid lkLaid (m:=2) (by omega) row79 (by kernel_rfl) wide79
theorem keyd:Keyed Tryz.prog 237:=Keyed.of_law klaw
set_option maxRecDepth 100000 in
theorem typesS:∃ m,Tryz.prog.types.size=m + 1:=⟨_,show Tryz.prog.types.size=272 + 1 by kernel_rfl⟩
theorem zero3 (w:World):(zeroValue 3).run Tryz.prog w=.ok (I 0) w:=by kernel_rfl
def kl (a b:Int):Lit:=.string (keyBytes [.int .i64 a,.int .i64 b])
theorem wf_of (a:Int) (h:i64 a):(Lit.int .i64 a).wf=true:=by
 unfold i64 at h
 simp [Lit.wf,IntKind.min,IntKind.max,IntKind.signed,IntKind.bits]
 omega
theorem kl_of {a b:Int} (ha:i64 a) (hb:i64 b):keyOf Tryz.prog 237 (pv a b)=some (kl a b):=keyOf_pair arr79 Tryz.underlying3 typesS (wf_of a ha) (wf_of b hb)
theorem kl_inj {a b c d:Int} (ha:i64 a) (hb:i64 b) (hc:i64 c) (hd:i64 d) (h:kl a b=kl c d):(a,b)=(c,d):=by
 have h1:=kl_of ha hb
 have h2:=kl_of hc hd
 rw [← h] at h2
 have:=klaw.inj h1 h2
 injection this with e
 injection e with e
 simp only [List.cons.injEq,Value.int.injEq,true_and,and_true] at e
 rw [e.1,e.2]
theorem kl_key (a b:Int):WideAt.IsKeyLit (kl a b):=True.intro
theorem modify_same {α:Type} (l:Array α) (j:Nat) (f:α→α) {x:α} (h:l[j]?=some x) (hf:f x=x):l.modify j f=l:=by
 refine Array.ext (Array.size_modify ..) (fun i h1 h2=>?_)
 rw [Array.getElem_modify]
 by_cases c:j=i
 ·rw [if_pos c]
  have hx:l[i]=x:=by
   have:=Array.getElem?_eq_some_iff.1 h
   obtain ⟨_,hx⟩:=this
   subst c
   exact hx
  rw [hx,hf]
 ·rw [if_neg c]
section
variable {H:Type} {P:Program} {w:World} {t k e:TypeId} {R:Value→Option (DataW H × List MemPlace)} {b:Nat} {es:Array MapEntry} {clock:Nat}
theorem entry_upd (K:KeyLaw P k) (ht:P.underlying t=some (.map k e)) {z:Value} (hz:∀ u:World,(zeroValue e).run P u=.ok z u) (hb:w.heap[b]?=some (.map es clock)) (F:Fit P k R es clock) {key:Value} {kl:Lit} (hkey:keyOf P k key=some kl) :
  ∃ (v0:Value) (st:Nat) (W2:World),(Instr.mapEntry t (.map (some b)) key).run P w=.ok (.tuple #[v0,goInt st]) W2∧(Instr.mapUpdate t (.map (some b)) key v0).run P w=.ok () W2∧(Instr.lookup t (.map (some b)) key false).run P w=.ok v0 w:=by
 have tU:=run_underlying ht (w:=w)
 have oG:=MapKept.run_getObj_map (P:=P) hb
 have oS:=fun o=>MapKept.run_setObj_map (P:=P) o hb
 have kC:=fun em=>K.check w em hkey
 have kS:=K.stays w hkey
 obtain ⟨nf,_⟩ | ⟨j,x,yf,hx,ek⟩:=K.find w hkey es.toList F.keys
 ·refine ⟨z,clock,ChangeMaps.setBlock w b (.map (es.push ⟨key,z,clock⟩) (clock + 1)),?_,?_,?_⟩
  ·unfold Instr.mapEntry ChangeMaps.setBlock
   simp [tU,oG,kC,nf,hz,oS,Result.andThen]
  ·unfold Instr.mapUpdate ChangeMaps.setBlock
   simp [tU,oG,kC,nf,oS,Result.andThen]
  ·unfold Instr.lookup
   simp [tU,oG,kC,nf,hz,Result.andThen]
 ·have hxa:es[j]?=some x:=by simpa using hx
  have same:∀ f:MapEntry→MapEntry,f x=x→es.modify j f=es:=fun f hf=>modify_same es j f hxa hf
  subst ek
  refine ⟨x.val,x.born,ChangeMaps.setBlock w b (.map es clock),?_,?_,?_⟩
  ·unfold Instr.mapEntry ChangeMaps.setBlock
   simp [tU,oG,kC,yf,hxa,kS,oS,Result.andThen,same (fun y=>{ y with key:=x.key }) rfl]
  ·unfold Instr.mapUpdate ChangeMaps.setBlock
   simp [tU,oG,kC,yf,hxa,kS,oS,Result.andThen,same (fun y=>{ y with key:=x.key,val:=x.val }) rfl]
  ·unfold Instr.lookup
   simp [tU,oG,kC,yf,Result.andThen]
end
def LinkD (xs:List (Int × Int)) (D:DataW Value):Prop :=
 (∀ a b,i64 a→i64 b→D.atKey (kl a b) (.lit (.int .i64 0))=.lit (.int .i64 ((xs.count (a,b):Nat):Int))) ∧
 (∀ a b,i64 a→i64 b→has D (kl a b)=decide ((a,b)∈xs))∧size D≤xs.length∧(size D=xs.length ↔ xs.Nodup)
def LinkM (m n:Nat) (xs:List (Int × Int)) (w:World):Prop:=∃ D:DataW Value,w.ownsMap Tryz.prog 237 (plainElem Tryz.prog 3) m n D∧LinkD xs D
theorem LinkM.kept {m n:Nat} {xs:List (Int × Int)} {w w':World} (h:LinkM m n xs w) (hb:Below w.heap.size w w'):LinkM m n xs w':=by
 obtain ⟨D,⟨es,clock,hb',F,hs,hD⟩,hL⟩:=h
 have hlt:m < w.heap.size:=(Array.getElem?_eq_some_iff.1 hb').1
 exact ⟨D,⟨es,clock,(hb.block m hlt).trans hb',F,hs,hD⟩,hL⟩
theorem LinkM.lt {m n:Nat} {xs:List (Int × Int)} {w:World} (h:LinkM m n xs w):m < w.heap.size:=by
 obtain ⟨D,h,_⟩:=h
 exact h.lt
theorem LinkM.made (w:World):LinkM w.heap.size 0 [] (w.alloc (.map #[] 0)):=by
 refine ⟨_,World.ownsMap_made w Tryz.prog 237 (plainElem Tryz.prog 3),?_,?_,?_,?_⟩
 ·intro a b ha hb;rfl
 ·intro a b ha hb;rfl
 ·exact Nat.le_refl _
 ·simp [size]
theorem LinkM.look {m n:Nat} {xs:List (Int × Int)} {w:World} (h:LinkM m n xs w) {a b:Int} (ha:i64 a) (hb:i64 b) :
  (Instr.lookup 219 (.map (some m)) (pv a b) false).run Tryz.prog w=.ok (I ((xs.count (a,b):Nat):Int)) w:=by
 obtain ⟨D,h,hL⟩:=h
 obtain ⟨c,hrun,hat,hwc⟩:=h.lookup_int keyd Tryz.underlying219 Tryz.underlying3 (zero3 w) (kl_of ha hb)
 rw [hL.1 a b ha hb] at hat
 injection hat with e
 injection e with _ e
 rw [hrun,e]
theorem LinkM.len {m n:Nat} {xs:List (Int × Int)} {w:World} (h:LinkM m n xs w) (ty:TypeId) :
  ∃ s:Nat,(Builtin.len_ #[219] ty #[.map (some m)]).run Tryz.prog w=.ok (I s) w∧s≤xs.length∧(s=xs.length ↔ xs.Nodup):=by
 obtain ⟨D,h,hL⟩:=h
 exact ⟨_,h.len Tryz.underlying219 ty,hL.2.2.1,hL.2.2.2⟩
theorem nodup_snoc {xs:List (Int × Int)} {p:Int × Int}:(xs++[p]).Nodup ↔ xs.Nodup∧p ∉ xs:=by
 rw [List.nodup_append]
 simp only [List.nodup_cons,List.not_mem_nil,not_false_eq_true,List.nodup_nil,and_self,List.mem_cons,or_false,true_and]
 constructor
 ·rintro ⟨h,k⟩
  exact ⟨h,fun hp=>k p hp p rfl rfl⟩
 ·rintro ⟨h,k⟩
  exact ⟨h,fun a ha b hb e=>k (by rw [← hb,← e];exact ha)⟩
theorem LinkM.more {m n:Nat} {xs:List (Int × Int)} {w:World} (h:LinkM m n xs w) (hn:n + 1 < maxLen) {a b:Int} (ha:i64 a) (hb:i64 b) (hx:∀ p∈xs,i64 p.1∧i64 p.2) (hl:xs.length≤1000) :
  ∃ (c st:Nat) (W2 W3:World),(Instr.lookup 219 (.map (some m)) (pv a b) false).run Tryz.prog w=.ok (I (c:Int)) w ∧
   (Instr.mapEntry 219 (.map (some m)) (pv a b)).run Tryz.prog w=.ok (.tuple #[I (c:Int),goInt st]) W2 ∧
   (Instr.lookup 219 (.map (some m)) (pv a b) false).run Tryz.prog W2=.ok (I (c:Int)) W2 ∧
   (Instr.entryStore 219 (.map (some m)) (goInt st) (I ((c:Int) + 1))).run Tryz.prog W2=.ok () W3 ∧
   LinkM m (n + 1) (xs++[(a,b)]) W3∧w.grownBy W3 (some m)∧c≤1000:=by
 have hlook:=h.look ha hb
 obtain ⟨D,ho,hL⟩:=h
 obtain ⟨es,clock,hbk,F,hs,hD⟩:=ho
 have hkey:=kl_of ha hb
 obtain ⟨v0,st,W2,e1,e2,e3⟩:=entry_upd klaw Tryz.underlying219 zero3 hbk F hkey
 rw [hlook] at e3
 injection e3 with e3 _
 subst e3
 have hc:xs.count (a,b)≤1000:=Nat.le_trans List.count_le_length hl
 have hwc:(Lit.int .i64 ((xs.count (a,b):Nat):Int)).wf=true:=wf_of _ (by unfold i64;omega)
 have hwd:(Lit.int .i64 (((xs.count (a,b):Nat):Int) + 1)).wf=true:=wf_of _ (by unfold i64;omega)
 have ho:w.ownsMap Tryz.prog 237 (plainElem Tryz.prog 3) m n D:=⟨es,clock,hbk,F,hs,hD⟩
 obtain ⟨W2',u1,u2,u3⟩:=ho.update keyd Tryz.underlying219 (by omega) hkey (plainElem_int Tryz.underlying3 hwc)
 rw [e2] at u1
 injection u1 with _ u1
 subst u1
 obtain ⟨c2,l1,l2,_⟩:=u2.lookup_int keyd Tryz.underlying219 Tryz.underlying3 (zero3 W2) hkey
 rw [atKey_put_same (ho.isMap) (kl_key a b)] at l2
 injection l2 with l2
 injection l2 with _ l2
 subst l2
 obtain ⟨v1,st1,es1,clock1,f1,_,f3⟩:=entry_then_store klaw Tryz.underlying219 zero3 hbk F hkey
 rw [e1] at f1
 injection f1 with f1 f1w
 injection f1 with f1
 injection f1 with f1
 simp only [List.cons.injEq,and_true] at f1
 obtain ⟨_,f1⟩:=f1
 obtain ⟨es',clock',g1,g2⟩:=f3 W2 (I (((xs.count (a,b):Nat):Int) + 1)) (by rw [f1w];exact ChangeMaps.heap_setBlock_same hbk _)
 rw [← f1] at g1
 obtain ⟨W3',v1',v2,v3⟩:=ho.update keyd Tryz.underlying219 (by omega) hkey (plainElem_int Tryz.underlying3 hwd)
 rw [g2] at v1'
 injection v1' with _ v1'
 have hW3:ChangeMaps.setBlock W2 m (.map es' clock')=W3':=by
  rw [← v1',f1w]
  simp [ChangeMaps.setBlock]
 rw [hW3] at g1
 refine ⟨_,st,W2,W3',hlook,e1,l1,g1,⟨_,v2,?_,?_,?_,?_⟩,v3,hc⟩
 ·intro x y hx1 hy1
  by_cases e:(x,y)=(a,b)
  ·simp only [Prod.mk.injEq] at e
   obtain ⟨rfl,rfl⟩:=e
   rw [atKey_put_same ho.isMap (kl_key _ _),List.count_append]
   simp
  ·rw [atKey_put_other (fun h=>e (kl_inj hx1 hy1 ha hb h)),hL.1 x y hx1 hy1,List.count_append]
   have:List.count (x,y) [(a,b)]=0:=List.count_eq_zero.2 (by simpa using fun h1 h2=>e (by rw [h1,h2]))
   rw [this];rfl
 ·intro x y hx1 hy1
  by_cases e:(x,y)=(a,b)
  ·simp only [Prod.mk.injEq] at e
   obtain ⟨rfl,rfl⟩:=e
   rw [has_put_same ho.isMap (kl_key _ _)]
   simp
  ·rw [has_put_other (fun h=>e (kl_inj hx1 hy1 ha hb h)),hL.2.1 x y hx1 hy1]
   rw [decide_eq_decide,List.mem_append,List.mem_singleton]
   exact ⟨Or.inl,fun h=>h.resolve_right e⟩
 ·rw [size_put (ho.tidy keyd),List.length_append]
  have:=hL.2.2.1
  split
  ·simp;omega
  ·simp;omega
 ·rw [size_put (ho.tidy keyd),hL.2.1 a b ha hb,List.length_append,nodup_snoc,← hL.2.2.2]
  have:=hL.2.2.1
  by_cases e:(a,b)∈xs
  ·simp [e];omega
  ·simp [e]
end Go.Proofs.YtcaieniddnhkbaaGreatDoor
set_option maxRecDepth 100000
namespace Go.Proofs.YtcaieniddnhkbaaGreatDoor
open Go Go.RowKit Var Term Draw
def ulB (a b:Int):Bool:=btw a 0 2 && (btw b 0 2 && !(a == b))
def svB (a b:Int):Bool:=btw a 0 2 && btw b 0 2
def PRow (w:World) (a:Option Addr) (xs:List (Int × Int)):Prop :=
 ∀ j (h:j < xs.length),∃ b off,a=some ⟨b,off,none⟩∧b < w.heap.size∧w.cell? ⟨b,off + j * 2,none⟩=some (I xs[j].1)∧w.cell? ⟨b,off + j * 2 + 1,none⟩=some (I xs[j].2)
theorem PRow.later {w w':World} {a:Option Addr} {xs:List (Int × Int)} (h:PRow w a xs) (hb:Below w.heap.size w w'):PRow w' a xs:=by
 intro j hj
 obtain ⟨b,off,e,hlt,h0,h1⟩:=h j hj
 exact ⟨b,off,e,Nat.lt_of_lt_of_le hlt hb.size,by rw [hb.cell (p:=⟨b,off + j * 2,none⟩) hlt];exact h0,by rw [hb.cell (p:=⟨b,off + j * 2 + 1,none⟩) hlt];exact h1⟩
theorem PRow.nil (w:World) (a:Option Addr):PRow w a []:=by intro j hj;simp at hj
theorem PRow.drew {w:World} {a:Option Addr} {xs:List (Int × Int)} (h:PRow w a xs):PRow w.drew a xs:=h
theorem PRow.take {w:World} {a:Option Addr} {xs:List (Int × Int)} (h:PRow w a xs) (k:Nat):PRow w a (xs.take k):=by
 intro j hj
 have hj':j < xs.length:=by rw [List.length_take] at hj;omega
 rw [List.getElem_take]
 exact h j hj'
set_option maxRecDepth 100000 in
theorem unlike_is (a b:Int) (w:World):Calls Tryz.prog 139 #[pv a b] w fun e w'=>e=.returned (.bool (ulB a b))∧Below w.heap.size w w':=by
 have hb0:Below w.heap.size w (w.alloc (.cells #[I a,I b] 107)):=(Below.refl _ _).alloc (Nat.le_refl _) _
 go_enter Tryz.func139,Tryz.ntmps139
 go_wp2_with fail
 refine (realm_is a _).mono ?_
 rintro e w1 ⟨rfl,rfl⟩
 by_cases h0:btw a 0 2=true
 ·rw [h0]
  go_wp2_with fail
  refine (realm_is b _).mono ?_
  rintro e w1 ⟨rfl,rfl⟩
  by_cases h1:btw b 0 2=true
  ·rw [h1]
   go_wp2
   go_ret
   exact ⟨by unfold ulB;rw [h0,h1];rfl,hb0⟩
  ·rw [Bool.not_eq_true] at h1
   rw [h1]
   go_wp2
   go_ret
   exact ⟨by unfold ulB;rw [h0,h1];rfl,hb0⟩
 ·rw [Bool.not_eq_true] at h0
  rw [h0]
  go_wp2
  go_ret
  exact ⟨by unfold ulB;rw [h0];rfl,hb0⟩
set_option maxRecDepth 100000 in
theorem services_is (a b:Int) (w:World):Calls Tryz.prog 140 #[pv a b] w fun e w'=>e=.returned (.bool (svB a b))∧Below w.heap.size w w':=by
 have hb0:Below w.heap.size w (w.alloc (.cells #[I a,I b] 107)):=(Below.refl _ _).alloc (Nat.le_refl _) _
 go_enter Tryz.func140,Tryz.ntmps140
 go_wp2_with fail
 refine (serv_is a _).mono ?_
 rintro e w1 ⟨rfl,rfl⟩
 by_cases h0:btw a 0 2=true
 ·rw [h0]
  go_wp2_with fail
  refine (serv_is b _).mono ?_
  rintro e w1 ⟨rfl,rfl⟩
  go_wp2
  go_ret
  exact ⟨by unfold svB;rw [h0];rfl,hb0⟩
 ·rw [Bool.not_eq_true] at h0
  rw [h0]
  go_wp2
  go_ret
  exact ⟨by unfold svB;rw [h0];rfl,hb0⟩
set_option maxRecDepth 100000 in
theorem eqPair_is (a b:Int) (w:World):Calls Tryz.prog 86 #[pv a b,pv a b] w fun e w'=>e=.returned (.bool true)∧Below w.heap.size w w':=by
 have hb0:Below w.heap.size w ((w.alloc (.cells #[I a,I b] 107)).alloc (.cells #[I a,I b] 107)):=((Below.refl _ _).alloc (Nat.le_refl _) _).alloc (by simp) _
 go_enter Tryz.func86,Tryz.ntmps86
 go_wp2
 go_ret
 exact ⟨rfl,hb0⟩
theorem res_p {fn:Func} {p:Tmp} (hres:fn.results=#[.cell p 107]) (tmps:Array Value) (w:World) (g:Nat) (v0 v1:Value) (hp:tmps.getD p undef=.pointer (some ⟨g,0,none⟩)) (h0:w.cell? ⟨g,0,none⟩=some v0) (h1:w.cell? ⟨g,1,none⟩=some v1) :
  (results fn tmps).run Tryz.prog w=.ok (.agg #[v0,v1]) w:=by
 have hp':tmps[p]?.getD undef=.pointer (some ⟨g,0,none⟩):=by simpa using hp
 unfold results
 rw [hres]
 go_simp
set_option maxRecDepth 100000 in
theorem toPair_is (a b:Int) (w:World):Calls Tryz.prog 84 #[pv a b] w fun e w'=>e=.returned (pv a b)∧Below w.heap.size w w':=by
 have hb0:Below w.heap.size w (((w.alloc (.cells #[I a,I b] 146)).alloc (.cells #[I a,I b] 107)).alloc (.cells #[I a,I b] 107)) :=
  (((Below.refl _ _).alloc (Nat.le_refl _) _).alloc (by simp) _).alloc (by simp;omega) _
 go_enter Tryz.func84,Tryz.ntmps84
 go_wp2
 exact bodyPost_ret (res_p rfl _ _ (w.heap.size + 1) _ _ rfl (by simp [go_sem]) (by simp [go_sem])) rfl ⟨rfl,hb0⟩
structure Half (g n k:Nat) (xs:List (Int × Int)) (w:World):Prop where
 lt:g < w.heap.size
 any:∀ j,j < n * 2→∃ v,w.cell? ⟨g,j,none⟩=some v
 fz:∀ j,w.frozen? ⟨g,j,none⟩=false
 yet:∀ j (h:j < xs.length),j < k→w.cell? ⟨g,j * 2,none⟩=some (I xs[j].1)∧w.cell? ⟨g,j * 2 + 1,none⟩=some (I xs[j].2)
theorem Half.later {g n k:Nat} {xs:List (Int × Int)} {w w':World} (h:Half g n k xs w) (hb:Below w.heap.size w w'):Half g n k xs w' :=
 ⟨Nat.lt_of_lt_of_le h.lt hb.size,fun j hj=>by rw [hb.cell (p:=⟨g,j,none⟩) h.lt];exact h.any j hj,fun j=>by rw [hb.frozen (p:=⟨g,j,none⟩) h.lt];exact h.fz j,
  fun j hj hk=>by rw [hb.cell (p:=⟨g,j * 2,none⟩) h.lt,hb.cell (p:=⟨g,j * 2 + 1,none⟩) h.lt];exact h.yet j hj hk⟩
theorem Half.set {g n k:Nat} {xs:List (Int × Int)} {w:World} (h:Half g n k xs w) (hk:k < xs.length) (hn:xs.length≤n) :
  Half g n (k + 1) xs ((w.setCell ⟨g,k * 2,none⟩ (I xs[k].1)).setCell ⟨g,k * 2 + 1,none⟩ (I xs[k].2)):=by
 obtain ⟨u0,hu0⟩:=h.any (k * 2) (by omega)
 obtain ⟨u1,hu1⟩:=h.any (k * 2 + 1) (by omega)
 have c1:(w.setCell ⟨g,k * 2,none⟩ (I xs[k].1)).cell? ⟨g,k * 2 + 1,none⟩=some u1:=by rw [set_other _ _ _ _ _ (by omega)];exact hu1
 have far:∀ j,j≠k * 2→j≠k * 2 + 1→((w.setCell ⟨g,k * 2,none⟩ (I xs[k].1)).setCell ⟨g,k * 2 + 1,none⟩ (I xs[k].2)).cell? ⟨g,j,none⟩=w.cell? ⟨g,j,none⟩:=fun j h0 h1=>by
  rw [set_other _ _ _ _ _ (Ne.symm h1),set_other _ _ _ _ _ (Ne.symm h0)]
 have at0:((w.setCell ⟨g,k * 2,none⟩ (I xs[k].1)).setCell ⟨g,k * 2 + 1,none⟩ (I xs[k].2)).cell? ⟨g,k * 2,none⟩=some (I xs[k].1):=by
  rw [set_other _ _ _ _ _ (by omega)];exact set_same _ _ _ _ _ hu0
 have at1:((w.setCell ⟨g,k * 2,none⟩ (I xs[k].1)).setCell ⟨g,k * 2 + 1,none⟩ (I xs[k].2)).cell? ⟨g,k * 2 + 1,none⟩=some (I xs[k].2):=set_same _ _ _ _ _ c1
 refine ⟨by simpa using h.lt,fun j hj=>?_,fun j=>by rw [World.frozen?_setCell,World.frozen?_setCell];exact h.fz j,fun j hj hk1=>?_⟩
 ·by_cases e0:j=k * 2
  ·subst e0;exact ⟨_,at0⟩
  ·by_cases e1:j=k * 2 + 1
   ·subst e1;exact ⟨_,at1⟩
   ·rw [far j e0 e1];exact h.any j hj
 ·by_cases e:j=k
  ·subst e;exact ⟨at0,at1⟩
  ·rw [far _ (by omega) (by omega),far _ (by omega) (by omega)]
   exact h.yet j hj (by omega)
theorem Half.row {g n:Nat} {xs:List (Int × Int)} {w:World} (h:Half g n xs.length xs w):PRow w (some ⟨g,0,none⟩) xs:=by
 intro j hj
 refine ⟨g,0,rfl,h.lt,?_,?_⟩
 ·rw [Nat.zero_add];exact (h.yet j hj hj).1
 ·rw [Nat.zero_add];exact (h.yet j hj hj).2
theorem infoPair:(Tryz.prog.info? 107).map (fun i=>(i.zero,i.size,i.bytes))=some (some (.agg #[I 0,I 0]),2,16):=by kernel_rfl
set_option maxRecDepth 100000 in
set_option maxHeartbeats 1600000 in
theorem toP_is (a:Option Addr) (cap:Nat) (xs:List (Int × Int)) (w:World) (hr:PRow w a xs) (hl:xs.length≤1048576) :
  Calls Tryz.prog 50 #[.slice a xs.length cap] w fun e w'=>e=.returned (.slice (some ⟨w.heap.size,0,none⟩) xs.length xs.length)∧PRow w' (some ⟨w.heap.size,0,none⟩) xs∧w.heap.size < w'.heap.size∧Below w.heap.size w w':=by
 obtain ⟨i0,hi,hz0,hz1,hz2⟩:=info_parts infoPair
 go_enter Tryz.func50,Tryz.ntmps50
 go_wp2_with (first | (at_make;refine wpList_make_full _ rfl _ _ 25 rfl w.heap.size 107 i0 (.agg #[I 0,I 0]) 2 Tryz.underlying25 hi hz0 hz1 .i64 .i64 xs.length xs.length xs.length rfl rfl rfl rfl (by rw [hz2];omega) (by unfold maxLen;omega) (Nat.le_refl _) ?_) | go_in)
 intro w1 hown hgrow
 have hbel:=(Below.refl w.heap.size w).grown hgrow (Nat.le_refl _) (by simp)
 have hsz:=hgrow.size
 have hln:=hown.1
 have hF:Half w.heap.size xs.length 0 xs w1:=⟨(hown.lt _ rfl).2,fun j hj=>by
   rw [hown.cellAt j hj]
   exact ⟨_,List.getElem?_eq_getElem (by omega)⟩,fun j=>hown.frozenAt j,fun j _ h=>absurd h (by omega)⟩
 clear hgrow hown hln
 go_wp2
 go_loopw [4] (fun i wr=>∃ k:Nat,k≤xs.length∧i=I k∧Half w.heap.size xs.length k xs wr∧Below w.heap.size w wr) (fun i _=>xs.length - (intOf i).toNat)
 case atStart=>exact ⟨0,by omega,rfl,hF,hbel⟩
 case round =>
  clear hF hbel hsz
  obtain ⟨k,hk,rfl,hF,hbel⟩:=hrel
  by_cases hlt:k < xs.length
  ·obtain ⟨b,off,rfl,hbl,h0,h1⟩:=hr k hlt
   rw [← hbel.cell (p:=⟨b,off + k * 2,none⟩) hbl] at h0
   rw [← hbel.cell (p:=⟨b,off + k * 2 + 1,none⟩) hbl] at h1
   clear hr
   go_wp2_with fail
   refine (toPair_is xs[k].1 xs[k].2 _).mono ?_
   rintro e w2 ⟨rfl,hb2⟩
   have hF2:=hF.later hb2
   have hbel2:=hbel.trans (hb2.mono hbel.size)
   clear h0 h1 hF hbel hb2
   have HS:Hid (∃ k':Nat,k'≤xs.length∧Value.int .i64 ((k:Int) + 1)=I k'∧Half w.heap.size xs.length k' xs ((w2.setCell ⟨w.heap.size,k * 2,none⟩ (I xs[k].1)).setCell ⟨w.heap.size,k * 2 + 1,none⟩ (I xs[k].2))∧Below w.heap.size w ((w2.setCell ⟨w.heap.size,k * 2,none⟩ (I xs[k].1)).setCell ⟨w.heap.size,k * 2 + 1,none⟩ (I xs[k].2))) :=
    ⟨k + 1,by omega,by go_num,hF2.set hlt (Nat.le_refl _),(hbel2.setCell (Nat.le_refl _) _).setCell (Nat.le_refl _) _⟩
   obtain ⟨u0,hu0⟩:=hF2.any (k * 2) (by omega)
   obtain ⟨u1,hu1⟩:=hF2.any (k * 2 + 1) (by omega)
   have f0:=hF2.fz (k * 2)
   have f1:=hF2.fz (k * 2 + 1)
   have hlt2:(k:Int) < (xs.length:Int):=by omega
   clear hF2 hbel2
   generalize xs[k].1=x at HS
   generalize xs[k].2=y at HS
   go_wp2
   go_roundw
   case rel=>exact HS.out
   case measure=>simp [intOf];omega
  ·obtain rfl:k=xs.length:=by omega
   go_wp2
   go_ret
   exact ⟨rfl,hF.row,hF.lt,hbel⟩
theorem mem_take_succ {xs:List (Int × Int)} {k:Nat} (hk:k < xs.length) (p:Int × Int):p∈xs.take (k + 1) ↔ p∈xs.take k ∨ p=xs[k]:=by
 rw [List.take_succ_eq_append_getElem hk,List.mem_append,List.mem_singleton]
set_option maxRecDepth 100000 in
set_option maxHeartbeats 1600000 in
theorem has_is (a:Option Addr) (cap:Nat) (xs:List (Int × Int)) (x y:Int) (w:World) (hr:PRow w a xs) (hl:xs.length≤1048576) :
  Calls Tryz.prog 121 #[.slice a xs.length cap,pv x y] w fun e w'=>e=.returned (.bool (decide ((x,y)∈xs)))∧Below w.heap.size w w':=by
 go_enter Tryz.func121,Tryz.ntmps121
 go_wp2
 go_loopw [5] (fun i wr=>∃ k:Nat,k≤xs.length∧i=I k∧(x,y) ∉ xs.take k∧Below w.heap.size w wr∧Blk w.heap.size [I x,I y] wr) (fun i _=>xs.length - (intOf i).toNat)
 case atStart=>exact ⟨0,by omega,rfl,by simp,(Below.refl _ _).alloc (Nat.le_refl _) _,Blk.new _ _ _⟩
 case round =>
  obtain ⟨k,hk,rfl,hno,hbel,T⟩:=hrel
  have NO:Hid ((x,y) ∉ xs.take k):=hno
  clear hno
  by_cases hlt:k < xs.length
  ·obtain ⟨b1,o1,rfl,l1,h0,h1⟩:=hr k hlt
   rw [← hbel.cell (p:=⟨b1,o1 + k * 2,none⟩) l1] at h0
   rw [← hbel.cell (p:=⟨b1,o1 + k * 2 + 1,none⟩) l1] at h1
   have d0:=T.at 0 rfl
   have d1:=T.at 1 rfl
   have hlt2:(k:Int) < (xs.length:Int):=by omega
   by_cases he:xs[k]=(x,y)
   ·have HM:Hid (decide ((x,y)∈xs)=true):=decide_eq_true (he ▸ List.getElem_mem hlt)
    rw [he] at h0 h1
    clear he hr NO T
    go_wp2
    go_region
    all_goals
     go_wp2
     go_ret
     exact ⟨by rw [HM.out];rfl,hbel.drew⟩
   ·have NO2:Hid ((x,y) ∉ xs.take (k + 1)):=fun hm=>by
     rcases (mem_take_succ hlt _).1 hm with hm | hm
     ·exact NO.out hm
     ·exact he hm.symm
    have TD:=T.drew
    clear hr NO T
    by_cases e1:xs[k].1=x
    ·have e2:¬ xs[k].2=y:=fun e2=>he (Prod.ext e1 e2)
     rw [e1] at h0
     generalize xs[k].2=v at h1 e2
     clear he e1
     go_wp2
     go_region
     all_goals
      go_wp2
      go_roundw
      case rel=>exact ⟨k + 1,by omega,by go_num,NO2.out,hbel.drew,TD⟩
      case measure=>simp [intOf];omega
    ·generalize xs[k].1=u at h0 e1
     generalize xs[k].2=v at h1
     clear he
     go_wp2
     go_region
     all_goals
      go_wp2
      go_roundw
      case rel=>exact ⟨k + 1,by omega,by go_num,NO2.out,hbel.drew,TD⟩
      case measure=>simp [intOf];omega
  ·obtain rfl:k=xs.length:=by omega
   have HM:Hid (decide ((x,y)∈xs)=false):=decide_eq_false (by have:=NO.out;rwa [List.take_length] at this)
   go_wp2
   go_ret
   exact ⟨by rw [HM.out];rfl,hbel⟩
set_option maxRecDepth 100000 in
set_option maxHeartbeats 1600000 in
theorem eqP_is (a b:Option Addr) (ca cb:Nat) (xs:List (Int × Int)) (w:World) (ha:PRow w a xs) (hb:PRow w b xs) (hl:xs.length≤1048576) :
  Calls Tryz.prog 53 #[.slice a xs.length ca,.slice b xs.length cb] w fun e w'=>e=.returned (.bool true)∧Below w.heap.size w w':=by
 go_enter Tryz.func53,Tryz.ntmps53
 go_wp2
 go_loopw [5] (fun i wr=>∃ k:Nat,k≤xs.length∧i=I k∧Below w.heap.size w wr) (fun i _=>xs.length - (intOf i).toNat)
 case atStart=>exact ⟨0,by omega,rfl,Below.refl _ _⟩
 case round =>
  obtain ⟨k,hk,rfl,hbel⟩:=hrel
  by_cases hlt:k < xs.length
  ·obtain ⟨b1,o1,rfl,l1,h0,h1⟩:=ha k hlt
   obtain ⟨b2,o2,rfl,l2,g0,g1⟩:=hb k hlt
   have hlt2:(k:Int) < (xs.length:Int):=by omega
   have m1:b1 < wr.drew.heap.size:=Nat.lt_of_lt_of_le l1 hbel.size
   have m2:b2 < wr.drew.heap.size:=Nat.lt_of_lt_of_le l2 hbel.size
   replace h0:wr.drew.cell? ⟨b1,o1 + k * 2,none⟩=_:=(hbel.cell (p:=⟨b1,o1 + k * 2,none⟩) l1).trans h0
   replace h1:wr.drew.cell? ⟨b1,o1 + k * 2 + 1,none⟩=_:=(hbel.cell (p:=⟨b1,o1 + k * 2 + 1,none⟩) l1).trans h1
   replace g0:wr.drew.cell? ⟨b2,o2 + k * 2,none⟩=_:=(hbel.cell (p:=⟨b2,o2 + k * 2,none⟩) l2).trans g0
   replace g1:wr.drew.cell? ⟨b2,o2 + k * 2 + 1,none⟩=_:=(hbel.cell (p:=⟨b2,o2 + k * 2 + 1,none⟩) l2).trans g1
   have BD:=hbel.drew
   generalize xs[k].1=u at h0 g0
   generalize xs[k].2=v at h1 g1
   clear ha hb
   go_wp2_with fail
   refine wp_region_held_drew (S:=(fun V:World=>V.cell? ⟨b1,o1 + k * 2,none⟩=some (I u)∧V.cell? ⟨b1,o1 + k * 2 + 1,none⟩=some (I v)∧V.cell? ⟨b2,o2 + k * 2,none⟩=some (I u)∧V.cell? ⟨b2,o2 + k * 2 + 1,none⟩=some (I v))) (by kernel_rfl) ⟨h0,h1,g0,g1⟩ (fun hH=>?_)
   refine tk 0 17 rfl _ hH (by intro w' h;obtain ⟨c0,c1,c2,c3⟩:=h;go_simp;try with_reducible rfl) ?_
   try simp only [Act.put,pa,pb,pc]
   refine tk 1 18 rfl _ hH (by intro w' h;obtain ⟨c0,c1,c2,c3⟩:=h;go_simp;try with_reducible rfl) ?_
   try simp only [Act.put,pa,pb,pc]
   refine tk 2 19 rfl _ hH (by intro w' h;obtain ⟨c0,c1,c2,c3⟩:=h;go_simp;try with_reducible rfl) ?_
   try simp only [Act.put,pa,pb,pc]
   refine tk 3 20 rfl _ hH (by intro w' h;obtain ⟨c0,c1,c2,c3⟩:=h;go_simp;try with_reducible rfl) ?_
   try simp only [Act.put,pa,pb,pc]
   refine tk 4 21 rfl _ hH (by intro w' h;obtain ⟨c0,c1,c2,c3⟩:=h;go_simp;try with_reducible rfl) ?_
   try simp only [Act.put,pa,pb,pc]
   refine tk 5 22 rfl _ hH (by intro w' h;obtain ⟨c0,c1,c2,c3⟩:=h;go_simp;try with_reducible rfl) ?_
   try simp only [Act.put,pa,pb,pc]
   refine tk 6 23 rfl _ hH (by intro w' h;obtain ⟨c0,c1,c2,c3⟩:=h;go_simp;try with_reducible rfl) ?_
   try simp only [Act.put,pa,pb,pc]
   refine tk 7 24 rfl _ hH (by intro w' h;obtain ⟨c0,c1,c2,c3⟩:=h;go_simp;try with_reducible rfl) ?_
   try simp only [Act.put,pa,pb,pc]
   refine wpAnyH_ready (rs:=[8]) (by kernel_rfl) (by simp) ?_
   refine AllReadyH.cons (i:=8) rfl (fun K hK=>?_) AllReadyH.nil
   go_simp
   refine (eqPair_is u v _).mono ?_
   rintro e w2 ⟨rfl,hb2⟩
   go_wp2_with fail
   refine hK.out _ _ ⟨(hb2.cell (p:=⟨b1,o1 + k * 2,none⟩) m1).trans h0,(hb2.cell (p:=⟨b1,o1 + k * 2 + 1,none⟩) m1).trans h1,(hb2.cell (p:=⟨b2,o2 + k * 2,none⟩) m2).trans g0,(hb2.cell (p:=⟨b2,o2 + k * 2 + 1,none⟩) m2).trans g1⟩ (fun hJ=>?_)
   clear hK K hH
   have hH:=hJ
   clear hJ
   try simp only [Act.put,pa,pb,pc]
   refine tk 9 26 rfl _ hH (by intro w' h;obtain ⟨c0,c1,c2,c3⟩:=h;go_simp;try with_reducible rfl) ?_
   try simp only [Act.put,pa,pb,pc]
   refine wpAnyH_done (by kernel_rfl) ?_ _
   have B2:=BD.trans (hb2.mono BD.size)
   clear hH h0 h1 g0 g1
   go_wp2
   go_roundw
   case rel=>exact ⟨k + 1,by omega,by go_num,B2⟩
   case measure=>simp [intOf];omega
  ·go_wp2
   go_ret
   exact ⟨rfl,hbel⟩
set_option maxRecDepth 100000 in
theorem szP_is (a:Option Addr) (l cap:Nat) (n:Nat) (w:World) (hn:n≤1048576) (hl:l≤maxLen) :
  Calls Tryz.prog 48 #[.slice a l cap,I n] w fun en w'=>en=.returned (I (if l≤n then ((n - l:Nat):Int) else -1))∧w=w':=by
 unfold maxLen at hl
 by_cases h:l≤n
 ·have hd:¬ ((n:Int) - (l:Int) < 0):=by omega
  have hw:((n:Int) - (l:Int))=((n - l:Nat):Int):=by omega
  rw [if_pos h]
  go_enter Tryz.func48,Tryz.ntmps48
  go_wp2
  go_ret
  exact ⟨by rw [← hw];rfl,rfl⟩
 ·have hd:((n:Int) - (l:Int) < 0):=by omega
  rw [if_neg h]
  go_enter Tryz.func48,Tryz.ntmps48
  go_wp2
  go_ret
  exact ⟨rfl,rfl⟩
end Go.Proofs.YtcaieniddnhkbaaGreatDoor
