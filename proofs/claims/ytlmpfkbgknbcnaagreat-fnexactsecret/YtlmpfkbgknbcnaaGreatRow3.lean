/- Auths in rows: their cells, rows that a call owns, how the laws copy, compare and mark them. -/
import Derived.Test.YtlmpfkbgknbcnaaGreatAb
import Derived.Test.YtlmpfkbgknbcnaaGreatRest3
import Derived.Test.YtlmpfkbgknbcnaaGreatPair2
import Derived.OwnWalk
import Derived.Laws.OwnMore
import Derived.Maps.Own
import Derived.Maps.OwnSet
import Derived.Maps.Views
import Derived.WideKeyPair
import Derived.WideKeyEntry
import Derived.DeepKeys4
set_option linter.unusedVariables false
namespace Go.Proofs.YtlmpfkbgknbcnaaGreat.Ch
open Go Go.RowKit Go.Joins Own Draw
abbrev A3:=Int × Int × Int
abbrev av (a b c : Int) : Value:=.agg #[I a,I b,I c]
/-- The cells from a on hold the row of Auths. -/
def ARow (w : World) (a : Option Addr) (xs : List A3) : Prop :=
 ∀ j (h : j < xs.length),∃ b off,a = some ⟨b,off,none⟩ ∧ b < w.heap.size ∧ w.cell? ⟨b,off + j * 3,none⟩ = some (I xs[j].1) ∧ w.cell? ⟨b,off + j * 3 + 1,none⟩ = some (I xs[j].2.1) ∧ w.cell? ⟨b,off + j * 3 + 2,none⟩ = some (I xs[j].2.2)
theorem ARow.later {w w' : World} {a : Option Addr} {xs : List A3} (h : ARow w a xs) (hb : Below w.heap.size w w') : ARow w' a xs:=by
 intro j hj
 obtain ⟨b,off,e,hlt,h0,h1,h2⟩:=h j hj
 exact ⟨b,off,e,Nat.lt_of_lt_of_le hlt hb.size,by rw [hb.cell (p:=⟨b,off + j * 3,none⟩) hlt]; exact h0,by rw [hb.cell (p:=⟨b,off + j * 3 + 1,none⟩) hlt]; exact h1,by rw [hb.cell (p:=⟨b,off + j * 3 + 2,none⟩) hlt]; exact h2⟩
theorem ARow.nil (w : World) (a : Option Addr) : ARow w a []:=by intro j hj; simp at hj
theorem ARow.drew {w : World} {a : Option Addr} {xs : List A3} (h : ARow w a xs) : ARow w.drew a xs:=h
theorem ARow.take {w : World} {a : Option Addr} {xs : List A3} (h : ARow w a xs) (k : Nat) : ARow w a (xs.take k):=by
 intro j hj
 have hj' : j < xs.length:=by rw [List.length_take] at hj; omega
 rw [List.getElem_take]
 exact h j hj'
theorem mem_take_succ3 {xs : List A3} {k : Nat} (hk : k < xs.length) (p : A3) : p ∈ xs.take (k + 1) ↔ p ∈ xs.take k ∨ p = xs[k]:=by
 rw [List.take_succ_eq_append_getElem hk,List.mem_append,List.mem_singleton]
set_option maxRecDepth 100000 in
set_option maxHeartbeats 1600000 in
theorem saw_is (a : Option Addr) (cap : Nat) (xs : List A3) (x y z : Int) (w : World) (hr : ARow w a xs) (hl : xs.length ≤ 1048576) :
  Calls Tryz.prog 69 #[.slice a xs.length cap,av x y z] w fun e w' => e = .returned (.bool (decide ((x,y,z) ∈ xs))) ∧ Below w.heap.size w w':=by
 go_enter Tryz.func69,Tryz.ntmps69
 go_wp2
 go_loopw [5] (fun i wr => ∃ k : Nat,k ≤ xs.length ∧ i = I k ∧ (x,y,z) ∉ xs.take k ∧ Below w.heap.size w wr ∧ Blk w.heap.size [I x,I y,I z] wr) (fun i _ => xs.length - (intOf i).toNat)
 case atStart => exact ⟨0,by omega,rfl,by simp,(Below.refl _ _).alloc (Nat.le_refl _) _,Blk.new _ _ _⟩
 case round =>
  obtain ⟨k,hk,rfl,hno,hbel,T⟩:=hrel
  have NO : Hid ((x,y,z) ∉ xs.take k):=hno
  clear hno
  by_cases hlt : k < xs.length
  ·obtain ⟨b1,o1,rfl,l1,h0,h1,h2⟩:=hr k hlt
   rw [← hbel.cell (p:=⟨b1,o1 + k * 3,none⟩) l1] at h0
   rw [← hbel.cell (p:=⟨b1,o1 + k * 3 + 1,none⟩) l1] at h1
   rw [← hbel.cell (p:=⟨b1,o1 + k * 3 + 2,none⟩) l1] at h2
   have d0:=T.at 0 rfl
   have d1:=T.at 1 rfl
   have d2:=T.at 2 rfl
   have hlt2 : (k : Int) < (xs.length : Int):=by omega
   by_cases he : xs[k] = (x,y,z)
   ·have HM : Hid (decide ((x,y,z) ∈ xs) = true):=decide_eq_true (he ▸ List.getElem_mem hlt)
    rw [he] at h0 h1 h2
    clear he hr NO T
    go_wp2
    go_region
    all_goals
     go_wp2
     go_ret
     exact ⟨by rw [HM.out]; rfl,hbel.drew⟩
   ·have NO2 : Hid ((x,y,z) ∉ xs.take (k + 1)):=fun hm => by
     rcases (mem_take_succ3 hlt _).1 hm with hm | hm
     ·exact NO.out hm
     ·exact he hm.symm
    have TD:=T.drew
    clear hr NO T
    by_cases e1 : xs[k].1 = x
    ·by_cases e2 : xs[k].2.1 = y
     ·have e3 : ¬ xs[k].2.2 = z:=fun e3 => he (Prod.ext e1 (Prod.ext e2 e3))
      rw [e1] at h0
      rw [e2] at h1
      generalize xs[k].2.2 = v at h2 e3
      clear he e1 e2
      go_wp2
      go_region
      all_goals
       go_wp2
       go_roundw
       case rel => exact ⟨k + 1,by omega,by go_num,NO2.out,hbel.drew,TD⟩
       case measure => simp [intOf]; omega
     ·rw [e1] at h0
      generalize xs[k].2.1 = v at h1 e2
      generalize xs[k].2.2 = u at h2
      clear he e1
      go_wp2
      go_region
      all_goals
       go_wp2
       go_roundw
       case rel => exact ⟨k + 1,by omega,by go_num,NO2.out,hbel.drew,TD⟩
       case measure => simp [intOf]; omega
    ·generalize xs[k].1 = u at h0 e1
     generalize xs[k].2.1 = v at h1
     generalize xs[k].2.2 = v2 at h2
     clear he
     go_wp2
     go_region
     all_goals
      go_wp2
      go_roundw
      case rel => exact ⟨k + 1,by omega,by go_num,NO2.out,hbel.drew,TD⟩
      case measure => simp [intOf]; omega
  ·obtain rfl : k = xs.length:=by omega
   have HM : Hid (decide ((x,y,z) ∈ xs) = false):=decide_eq_false (by have:=NO.out; rwa [List.take_length] at this)
   go_wp2
   go_ret
   exact ⟨by rw [HM.out]; rfl,hbel⟩
end Go.Proofs.YtlmpfkbgknbcnaaGreat.Ch

set_option linter.unusedVariables false
namespace Go.Proofs.YtlmpfkbgknbcnaaGreat.Ch
open Go Go.RowKit Go.WideMaps Go.Maps Go.WideElems
set_option maxRecDepth 100000
theorem smLaid : laidOutB Tryz.prog = true:=by kernel_rfl
theorem row28 : (78 : TypeId) < Tryz.prog.types.size:=of_decide_eq_true (by kernel_rfl)
theorem cells28 : Tryz.prog.cellsOf 78 = 3:=by kernel_rfl
theorem one3 : Tryz.prog.cellsOf 3 = 1:=by kernel_rfl
theorem kt28 : Tryz.prog.keyType 78 = true:=by kernel_rfl
theorem wide28 : (match Tryz.prog.underlying 78 with | some (.array _ _) | some (.struct _) => true | _ => false) = true:=by rw [Tryz.underlying78]
theorem klaw : KeyLaw Tryz.prog 78:=deep_law_laid smLaid (m:=2) (by omega) row28 (by kernel_rfl) wide28
theorem keyd : Keyed Tryz.prog 78:=Keyed.of_law klaw
theorem typesS : Tryz.prog.types.size = 273 + 1:=by kernel_rfl
theorem zero3 (w : World) : (zeroValue 3).run Tryz.prog w = .ok (.int .i64 0) w:=by kernel_rfl
/-- The key of an Auth. -/
def kl (a b c : Int) : Lit:=.string (keyBytes [.int .i64 a,.int .i64 b,.int .i64 c])
theorem wf_of (a : Int) (h : i64 a) : (Lit.int .i64 a).wf = true:=by
 unfold i64 at h
 simp [Lit.wf,IntKind.min,IntKind.max,IntKind.signed,IntKind.bits]
 omega
theorem kl_of {a b c : Int} (ha : i64 a) (hb : i64 b) (hc : i64 c) : keyOf Tryz.prog 78 (av a b c) = some (kl a b c):=by
 have wa:=wf_of a ha
 have wb:=wf_of b hb
 have wc:=wf_of c hc
 have hlit : ∀ n : Int,(Lit.int .i64 n).wf = true → Tryz.prog.keyLits 274 3 [.int .i64 n] = some [.int .i64 n]:=by
  intro n hn
  show Tryz.prog.keyLits (273 + 1) 3 [.int .i64 n] = _
  unfold Program.keyLits
  simp only [Tryz.underlying3]
  rw [if_pos ⟨trivial,hn⟩]
 have la:=hlit a wa
 have lb:=hlit b wb
 have lc:=hlit c wc
 have hf : (av a b c).formed Tryz.prog 78 = true:=by simp [Value.formed,Tryz.underlying78,cells28]
 unfold keyOf
 simp only [Tryz.underlying78]
 rw [if_pos (by rw [Bool.and_eq_true]; exact ⟨kt28,hf⟩),typesS]
 unfold Program.keyLits
 simp only [Tryz.underlying78,Value.cells]
 rw [if_pos (by rw [cells28]; exact ⟨rfl,by kernel_rfl⟩),List.mapM_cons,List.mapM_cons,List.mapM_cons,List.mapM_nil]
 simp [one3,la,lb,lc,kl]
theorem kl_inj {a b c x y z : Int} (ha : i64 a) (hb : i64 b) (hc : i64 c) (hx : i64 x) (hy : i64 y) (hz : i64 z) (h : kl a b c = kl x y z) : (a,b,c) = (x,y,z):=by
 have h1:=kl_of ha hb hc
 have h2:=kl_of hx hy hz
 rw [← h] at h2
 have:=klaw.inj h1 h2
 injection this with e
 injection e with e
 simp only [List.cons.injEq,Value.int.injEq,true_and,and_true] at e
 rw [e.1,e.2.1,e.2.2]
theorem kl_key (a b c : Int) : WideAt.IsKeyLit (kl a b c):=True.intro
/-- Where a step changes nothing at the one place, nothing changes. -/
theorem modify_same {α : Type} (l : Array α) (j : Nat) (f : α → α) {x : α} (h : l[j]? = some x) (hf : f x = x) : l.modify j f = l:=by
 refine Array.ext (Array.size_modify ..) (fun i h1 h2 => ?_)
 rw [Array.getElem_modify]
 by_cases c : j = i
 ·rw [if_pos c]
  have hx : l[i] = x:=by
   have:=Array.getElem?_eq_some_iff.1 h
   obtain ⟨_,hx⟩:=this
   subst c
   exact hx
  rw [hx,hf]
 ·rw [if_neg c]
section
variable {H : Type} {P : Program} {w : World} {t k e : TypeId} {R : Value → Option (DataW H × List MemPlace)} {b : Nat} {es : Array MapEntry} {clock : Nat}
/-- An entry that is begun leaves the map as a store of what is there (or of the zero value) does; and that is what is read. -/
theorem entry_upd (K : KeyLaw P k) (ht : P.underlying t = some (.map k e)) {z : Value} (hz : ∀ u : World,(zeroValue e).run P u = .ok z u) (hb : w.heap[b]? = some (.map es clock)) (F : Fit P k R es clock) {key : Value} {kl : Lit} (hkey : keyOf P k key = some kl) :
  ∃ (v0 : Value) (st : Nat) (W2 : World),(Instr.mapEntry t (.map (some b)) key).run P w = .ok (.tuple #[v0,goInt st]) W2 ∧ (Instr.mapUpdate t (.map (some b)) key v0).run P w = .ok () W2 ∧ (Instr.lookup t (.map (some b)) key false).run P w = .ok v0 w:=by
 have tU:=run_underlying ht (w:=w)
 have oG:=MapKept.run_getObj_map (P:=P) hb
 have oS:=fun o => MapKept.run_setObj_map (P:=P) o hb
 have kC:=fun em => K.check w em hkey
 have kS:=K.stays w hkey
 obtain ⟨nf,_⟩ | ⟨j,x,yf,hx,ek⟩:=K.find w hkey es.toList F.keys
 ·refine ⟨z,clock,ChangeMaps.setBlock w b (.map (es.push ⟨key,z,clock⟩) (clock + 1)),?_,?_,?_⟩
  ·unfold Instr.mapEntry ChangeMaps.setBlock
   simp [tU,oG,kC,nf,hz,oS,Result.andThen]
  ·unfold Instr.mapUpdate ChangeMaps.setBlock
   simp [tU,oG,kC,nf,oS,Result.andThen]
  ·unfold Instr.lookup
   simp [tU,oG,kC,nf,hz,Result.andThen]
 ·have hxa : es[j]? = some x:=by simpa using hx
  have same : ∀ f : MapEntry → MapEntry,f x = x → es.modify j f = es:=fun f hf => modify_same es j f hxa hf
  subst ek
  refine ⟨x.val,x.born,ChangeMaps.setBlock w b (.map es clock),?_,?_,?_⟩
  ·unfold Instr.mapEntry ChangeMaps.setBlock
   simp [tU,oG,kC,yf,hxa,kS,oS,Result.andThen,same (fun y => { y with key:=x.key }) rfl]
  ·unfold Instr.mapUpdate ChangeMaps.setBlock
   simp [tU,oG,kC,yf,hxa,kS,oS,Result.andThen,same (fun y => { y with key:=x.key,val:=x.val }) rfl]
  ·unfold Instr.lookup
   simp [tU,oG,kC,yf,Result.andThen]
end
/-- The map at block m holds how often each pair stands in xs. -/
def SeenD (xs : List A3) (D : DataW Value) : Prop :=
 (∀ a b c,i64 a → i64 b → i64 c → D.atKey (kl a b c) (.lit (.int .i64 0)) = .lit (.int .i64 ((xs.count (a,b,c) : Nat) : Int))) ∧
 (∀ a b c,i64 a → i64 b → i64 c → has D (kl a b c) = decide ((a,b,c) ∈ xs)) ∧ size D ≤ xs.length ∧ (size D = xs.length ↔ xs.Nodup)
def SeenM (m n : Nat) (xs : List A3) (w : World) : Prop:=∃ D : DataW Value,w.ownsMap Tryz.prog 78 (plainElem Tryz.prog 3) m n D ∧ SeenD xs D
theorem SeenM.kept {m n : Nat} {xs : List A3} {w w' : World} (h : SeenM m n xs w) (hb : Below w.heap.size w w') : SeenM m n xs w':=by
 obtain ⟨D,⟨es,clock,hb',F,hs,hD⟩,hL⟩:=h
 have hlt : m < w.heap.size:=(Array.getElem?_eq_some_iff.1 hb').1
 exact ⟨D,⟨es,clock,(hb.block m hlt).trans hb',F,hs,hD⟩,hL⟩
theorem SeenM.lt {m n : Nat} {xs : List A3} {w : World} (h : SeenM m n xs w) : m < w.heap.size:=by
 obtain ⟨D,h,_⟩:=h
 exact h.lt
theorem SeenM.made (w : World) : SeenM w.heap.size 0 [] (w.alloc (.map #[] 0)):=by
 refine ⟨_,World.ownsMap_made w Tryz.prog 78 (plainElem Tryz.prog 3),?_,?_,?_,?_⟩
 ·intro a b c ha hb hc; rfl
 ·intro a b c ha hb hc; rfl
 ·exact Nat.le_refl _
 ·simp [size]
theorem SeenM.look {m n : Nat} {xs : List A3} {w : World} (h : SeenM m n xs w) {a b c : Int} (ha : i64 a) (hb : i64 b) (hc : i64 c) :
  (Instr.lookup 244 (.map (some m)) (av a b c) false).run Tryz.prog w = .ok (.int .i64 ((xs.count (a,b,c) : Nat) : Int)) w:=by
 obtain ⟨D,h,hL⟩:=h
 obtain ⟨r,hrun,hat,hwc⟩:=h.lookup_int keyd Tryz.underlying244 Tryz.underlying3 (zero3 w) (kl_of ha hb hc)
 rw [hL.1 a b c ha hb hc] at hat
 injection hat with e
 injection e with _ e
 rw [hrun,e]
theorem SeenM.len {m n : Nat} {xs : List A3} {w : World} (h : SeenM m n xs w) (ty : TypeId) :
  ∃ s : Nat,(Builtin.len_ #[244] ty #[.map (some m)]).run Tryz.prog w = .ok (.int .i64 s) w ∧ s ≤ xs.length ∧ (s = xs.length ↔ xs.Nodup):=by
 obtain ⟨D,h,hL⟩:=h
 exact ⟨_,h.len Tryz.underlying244 ty,hL.2.2.1,hL.2.2.2⟩
theorem nodup_snoc {xs : List A3} {p : A3} : (xs ++ [p]).Nodup ↔ xs.Nodup ∧ p ∉ xs:=by
 rw [List.nodup_append]
 simp only [List.nodup_cons,List.not_mem_nil,not_false_eq_true,List.nodup_nil,and_self,List.mem_cons,or_false,true_and]
 constructor
 ·rintro ⟨h,k⟩
  exact ⟨h,fun hp => k p hp p rfl rfl⟩
 ·rintro ⟨h,k⟩
  exact ⟨h,fun a ha b hb e => k (by rw [← hb,← e]; exact ha)⟩
/-- One more of an Auth: the entry, what is read of it ahead and behind, and what is stored. -/
theorem SeenM.more {m n : Nat} {xs : List A3} {w : World} (h : SeenM m n xs w) (hn : n + 1 < maxLen) {a b c : Int} (ha : i64 a) (hb : i64 b) (hc : i64 c) (hx : ∀ p ∈ xs,i64 p.1 ∧ i64 p.2.1 ∧ i64 p.2.2) (hl : xs.length ≤ 1000) :
  ∃ (d st : Nat) (W2 W3 : World),(Instr.lookup 244 (.map (some m)) (av a b c) false).run Tryz.prog w = .ok (.int .i64 (d : Int)) w ∧
   (Instr.mapEntry 244 (.map (some m)) (av a b c)).run Tryz.prog w = .ok (.tuple #[.int .i64 (d : Int),goInt st]) W2 ∧
   (Instr.lookup 244 (.map (some m)) (av a b c) false).run Tryz.prog W2 = .ok (.int .i64 (d : Int)) W2 ∧
   (Instr.entryStore 244 (.map (some m)) (goInt st) (.int .i64 ((d : Int) + 1))).run Tryz.prog W2 = .ok () W3 ∧
   SeenM m (n + 1) (xs ++ [(a,b,c)]) W3 ∧ w.grownBy W3 (some m) ∧ d ≤ 1000:=by
 have hlook:=h.look ha hb hc
 obtain ⟨D,ho,hL⟩:=h
 obtain ⟨es,clock,hbk,F,hs,hD⟩:=ho
 have hkey:=kl_of ha hb hc
 obtain ⟨v0,st,W2,e1,e2,e3⟩:=entry_upd klaw Tryz.underlying244 zero3 hbk F hkey
 rw [hlook] at e3
 injection e3 with e3 _
 subst e3
 have hcn : xs.count (a,b,c) ≤ 1000:=Nat.le_trans List.count_le_length hl
 have hwc : (Lit.int .i64 ((xs.count (a,b,c) : Nat) : Int)).wf = true:=wf_of _ (by unfold i64; omega)
 have hwd : (Lit.int .i64 (((xs.count (a,b,c) : Nat) : Int) + 1)).wf = true:=wf_of _ (by unfold i64; omega)
 have ho : w.ownsMap Tryz.prog 78 (plainElem Tryz.prog 3) m n D:=⟨es,clock,hbk,F,hs,hD⟩
 obtain ⟨W2',u1,u2,u3⟩:=ho.update keyd Tryz.underlying244 (by omega) hkey (plainElem_int Tryz.underlying3 hwc)
 rw [e2] at u1
 injection u1 with _ u1
 subst u1
 obtain ⟨c2,l1,l2,_⟩:=u2.lookup_int keyd Tryz.underlying244 Tryz.underlying3 (zero3 W2) hkey
 rw [atKey_put_same (ho.isMap) (kl_key a b c)] at l2
 injection l2 with l2
 injection l2 with _ l2
 subst l2
 obtain ⟨v1,st1,es1,clock1,f1,_,f3⟩:=entry_then_store klaw Tryz.underlying244 zero3 hbk F hkey
 rw [e1] at f1
 injection f1 with f1 f1w
 injection f1 with f1
 injection f1 with f1
 simp only [List.cons.injEq,and_true] at f1
 obtain ⟨_,f1⟩:=f1
 obtain ⟨es',clock',g1,g2⟩:=f3 W2 (.int .i64 (((xs.count (a,b,c) : Nat) : Int) + 1)) (by rw [f1w]; exact ChangeMaps.heap_setBlock_same hbk _)
 rw [← f1] at g1
 obtain ⟨W3',v1',v2,v3⟩:=ho.update keyd Tryz.underlying244 (by omega) hkey (plainElem_int Tryz.underlying3 hwd)
 rw [g2] at v1'
 injection v1' with _ v1'
 have hW3 : ChangeMaps.setBlock W2 m (.map es' clock') = W3':=by
  rw [← v1',f1w]
  simp [ChangeMaps.setBlock]
 rw [hW3] at g1
 refine ⟨_,st,W2,W3',hlook,e1,l1,g1,⟨_,v2,?_,?_,?_,?_⟩,v3,hcn⟩
 ·intro x y z hx1 hy1 hz1
  by_cases e : (x,y,z) = (a,b,c)
  ·simp only [Prod.mk.injEq] at e
   obtain ⟨rfl,rfl,rfl⟩:=e
   rw [atKey_put_same ho.isMap (kl_key _ _ _),List.count_append]
   simp
  ·rw [atKey_put_other (fun h => e (kl_inj hx1 hy1 hz1 ha hb hc h)),hL.1 x y z hx1 hy1 hz1,List.count_append]
   have : List.count (x,y,z) [(a,b,c)] = 0:=List.count_eq_zero.2 (by simpa using fun h1 h2 h3 => e (by rw [h1,h2,h3]))
   rw [this]; rfl
 ·intro x y z hx1 hy1 hz1
  by_cases e : (x,y,z) = (a,b,c)
  ·simp only [Prod.mk.injEq] at e
   obtain ⟨rfl,rfl,rfl⟩:=e
   rw [has_put_same ho.isMap (kl_key _ _ _)]
   simp
  ·rw [has_put_other (fun h => e (kl_inj hx1 hy1 hz1 ha hb hc h)),hL.2.1 x y z hx1 hy1 hz1]
   rw [decide_eq_decide,List.mem_append,List.mem_singleton]
   exact ⟨Or.inl,fun h => h.resolve_right e⟩
 ·rw [size_put (ho.tidy keyd),List.length_append]
  have:=hL.2.2.1
  split
  ·simp; omega
  ·simp; omega
 ·rw [size_put (ho.tidy keyd),hL.2.1 a b c ha hb hc,List.length_append,nodup_snoc,← hL.2.2.2]
  have:=hL.2.2.1
  by_cases e : (a,b,c) ∈ xs
  ·simp [e]; omega
  ·simp [e]
end Go.Proofs.YtlmpfkbgknbcnaaGreat.Ch

set_option linter.unusedVariables false
namespace Go.Proofs.YtlmpfkbgknbcnaaGreat.Ch
open Go Go.RowKit Draw
abbrev cv (q : Int) (a : Option Addr) (n cap : Nat) : Value:=.agg #[I q,.slice a n cap]
theorem wrap_i64_small (n : Nat) (h : n < 9223372036854775808) : IntKind.i64.wrap (n : Int) = (n : Int):=by
 rw [IntKind.wrap_i64]
 omega
def I3 (p : A3) : Prop:=i64 p.1 ∧ i64 p.2.1 ∧ i64 p.2.2
set_option maxRecDepth 100000 in
set_option maxHeartbeats 3200000 in
theorem counts_is (q : Int) (a : Option Addr) (cap : Nat) (xs : List A3) (w : World) (hr : ARow w a xs) (hl : xs.length ≤ 6) (hin : ∀ p ∈ xs,I3 p) :
  Calls Tryz.prog 208 #[cv q a xs.length cap] w fun e w' => ∃ m,e = .returned (.map (some m)) ∧ SeenM m xs.length xs w' ∧ w.heap.size ≤ m ∧ Below w.heap.size w w':=by
 have hM0:=SeenM.made (w.alloc (.cells #[I q,.slice a xs.length cap] 76))
 have hB0 : Below w.heap.size w ((w.alloc (.cells #[I q,.slice a xs.length cap] 76)).alloc (.map #[] 0)):=((Below.refl _ _).alloc (Nat.le_refl _) _).alloc (by simp) _
 rw [World.size_alloc] at hM0
 have hl2 : (xs.length : Int) ≤ 6:=by omega
 have hmm:=@run_makeMap Tryz.prog
 go_enter Tryz.func208,Tryz.ntmps208
 go_wp2
 go_loopw [10] (fun i wr => ∃ k : Nat,k ≤ xs.length ∧ i = I k ∧ SeenM (w.heap.size + 1) k (xs.take k) wr ∧ Below w.heap.size w wr) (fun i _ => xs.length - (intOf i).toNat)
 case atStart => exact ⟨0,by omega,rfl,by simpa using hM0,hB0⟩
 case round =>
  clear hM0 hB0
  obtain ⟨k,hk,rfl,hM,hbel⟩:=hrel
  by_cases hlt : k < xs.length
  ·obtain ⟨b,off,rfl,hbl,h0,h1,h2⟩:=hr k hlt
   rw [← hbel.cell (p:=⟨b,off + k * 3,none⟩) hbl] at h0
   rw [← hbel.cell (p:=⟨b,off + k * 3 + 1,none⟩) hbl] at h1
   rw [← hbel.cell (p:=⟨b,off + k * 3 + 2,none⟩) hbl] at h2
   have hlt2 : (k : Int) < (xs.length : Int):=by omega
   obtain ⟨ix,iy,iz⟩:=hin xs[k] (List.getElem_mem hlt)
   have hsn : xs.take k ++ [(xs[k].1,xs[k].2.1,xs[k].2.2)] = xs.take (k + 1):=(List.take_succ_eq_append_getElem hlt).symm
   generalize xs[k].1 = x at h0 ix hsn
   generalize xs[k].2.1 = y at h1 iy hsn
   generalize xs[k].2.2 = z at h2 iz hsn
   obtain ⟨V,hV⟩ : ∃ V,wr.alloc (.cells #[I x,I y,I z] 78) = V:=⟨_,rfl⟩
   have T : Blk wr.heap.size [I x,I y,I z] V.drew:=by rw [← hV]; exact (Blk.new _ _ _).drew
   have BV : Below wr.heap.size wr V.drew:=by rw [← hV]; exact ((Below.refl _ _).alloc (Nat.le_refl _) _).drew
   have hMV:=hM.kept BV
   obtain ⟨c,st,W2,W3,f1,f2,f3,f4,f5,f6,hc⟩:=hMV.more (by unfold maxLen; omega) ix iy iz (fun p hp => hin p (List.mem_of_mem_take hp)) (by rw [List.length_take]; omega)
   rw [hsn] at f5
   replace f4 : (Instr.entryStore 244 (.map (some (w.heap.size + 1))) (I (st : Int)) (I ((c : Int) + 1))).run Tryz.prog W2 = .ok () W3:=f4
   have HS : Hid (∃ k' : Nat,k' ≤ xs.length ∧ Value.int .i64 ((k : Int) + 1) = I k' ∧ SeenM (w.heap.size + 1) k' (xs.take k') W3 ∧ Below w.heap.size w W3) :=
    ⟨k + 1,by omega,by go_num,f5,(hbel.trans (BV.mono hbel.size)).grown f6 (Nat.le_trans hbel.size BV.size) (fun j hj => by cases hj; omega)⟩
   have hwr : IntKind.i64.wrap ((c : Int) + 1) = (c : Int) + 1:=wrap_i64_small (c + 1) (by omega)
   have d0:=T.at 0 rfl
   have d1:=T.at 1 rfl
   have d2:=T.at 2 rfl
   clear hsn f5 f6 hMV hM T BV hbel ix iy iz hr hin
   go_wp2
   try rw [hV]
   clear hV
   refine wp_region_any (by kernel_rfl) ?_
   show wpAny _ _ _ _ _ _ _ V.drew
   refine take_any 0 14 (v:=?_) rfl rfl (by kernel_rfl) (by kernel_rfl) (by kernel_rfl) (fun _ _ _ h => h) (Or.inl ⟨by rfl,?_⟩) ?_
   rotate_left
   ·intro w'; go_simp; try with_reducible rfl
   try simp only [Act.put,pa,pb,pc]
   refine wpAny_ready (rs:=[1]) (by kernel_rfl) (by simp) ?_
   refine AllReady.cons (i:=1) rfl (fun K hK => ?_) AllReady.nil
   go_simp
   refine hK _ _ ?_
   clear hK K
   try simp only [Act.put,pa,pb,pc]
   refine wpAny_ready (rs:=[2,4]) (by kernel_rfl) (by simp) ?_
   refine AllReady.cons (i:=2) rfl (fun K hK => ?_) (AllReady.cons (i:=4) rfl (fun K hK => ?_) AllReady.nil)
   ·
    go_simp
    refine hK _ _ ?_
    clear hK K
    try simp only [Act.put,pa,pb,pc]
    refine take_any 3 17 (v:=?_) rfl rfl (by kernel_rfl) (by kernel_rfl) (by kernel_rfl) (fun _ _ _ h => h) (Or.inl ⟨by rfl,?_⟩) ?_
    rotate_left
    ·intro w'; go_simp; try with_reducible rfl
    try simp only [Act.put,pa,pb,pc]
    refine wpAny_ready (rs:=[4]) (by kernel_rfl) (by simp) ?_
    refine AllReady.cons (i:=4) rfl (fun K hK => ?_) AllReady.nil
    go_simp
    refine hK _ _ ?_
    clear hK K
    try simp only [Act.put,pa,pb,pc]
    refine take_any 5 19 (v:=?_) rfl rfl (by kernel_rfl) (by kernel_rfl) (by kernel_rfl) (fun _ _ _ h => h) (Or.inl ⟨by rfl,?_⟩) ?_
    rotate_left
    ·intro w'; go_simp; try with_reducible rfl
    try simp only [Act.put,pa,pb,pc]
    refine wpAny_ready (rs:=[6]) (by kernel_rfl) (by simp) ?_
    refine AllReady.cons (i:=6) rfl (fun K hK => ?_) AllReady.nil
    go_simp
    refine hK _ _ ?_
    clear hK K
    try simp only [Act.put,pa,pb,pc]
    refine wpAny_done (by kernel_rfl) ?_ _
    go_wp2
    go_roundw
    case rel => exact HS.out
    case measure => simp [intOf]; omega
   ·
    go_simp
    refine hK _ _ ?_
    clear hK K
    try simp only [Act.put,pa,pb,pc]
    refine take_any 5 19 (v:=?_) rfl rfl (by kernel_rfl) (by kernel_rfl) (by kernel_rfl) (fun _ _ _ h => h) (Or.inl ⟨by rfl,?_⟩) ?_
    rotate_left
    ·intro w'; go_simp; try with_reducible rfl
    try simp only [Act.put,pa,pb,pc]
    refine wpAny_ready (rs:=[2]) (by kernel_rfl) (by simp) ?_
    refine AllReady.cons (i:=2) rfl (fun K hK => ?_) AllReady.nil
    go_simp
    refine hK _ _ ?_
    clear hK K
    try simp only [Act.put,pa,pb,pc]
    refine take_any 3 17 (v:=?_) rfl rfl (by kernel_rfl) (by kernel_rfl) (by kernel_rfl) (fun _ _ _ h => h) (Or.inl ⟨by rfl,?_⟩) ?_
    rotate_left
    ·intro w'; go_simp; try with_reducible rfl
    try simp only [Act.put,pa,pb,pc]
    refine wpAny_ready (rs:=[6]) (by kernel_rfl) (by simp) ?_
    refine AllReady.cons (i:=6) rfl (fun K hK => ?_) AllReady.nil
    go_simp
    refine hK _ _ ?_
    clear hK K
    try simp only [Act.put,pa,pb,pc]
    refine wpAny_done (by kernel_rfl) ?_ _
    go_wp2
    go_roundw
    case rel => exact HS.out
    case measure => simp [intOf]; omega
  ·obtain rfl : k = xs.length:=by omega
   rw [List.take_length] at hM
   go_wp2
   go_ret
   exact ⟨_,rfl,hM,by omega,hbel⟩
end Go.Proofs.YtlmpfkbgknbcnaaGreat.Ch
