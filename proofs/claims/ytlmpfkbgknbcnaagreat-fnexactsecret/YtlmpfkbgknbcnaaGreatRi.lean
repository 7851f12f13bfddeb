/- Keys in their order, each once: the program. -/
import Derived.Test.YtlmpfkbgknbcnaaGreatRise
import Derived.Test.YtlmpfkbgknbcnaaGreatShelf
import Derived.Sort.OwnSortedInts
import Derived.Test.YtlmpfkbgknbcnaaGreatAb
import Derived.Test.YtlmpfkbgknbcnaaGreatVarWalks
import Derived.Test.YtlmpfkbgknbcnaaGreatRest3
import Derived.WalkKit
import Derived.WalkSpells
import Derived.WalkLawsBesides
import Derived.Deep.QuietTactic
import Derived.Deep.RegionHeld3
import Derived.Maps.AppendAt
import Derived.BigQuiet
import Derived.WalkSmall
import Derived.Below
import Derived.Lib.SmallJoins
import Derived.Maps.Own
import Derived.Maps.OwnSet
import Derived.Maps.Views
import Derived.WideKeyPair
import Derived.WideKeyEntry
import Derived.DeepKeys4
set_option linter.unusedVariables false
set_option maxRecDepth 100000
namespace Go.Proofs.YtlmpfkbgknbcnaaGreat.Nd
open Go Go.RowKit Go.Joins Go.Sort Own Draw
theorem own_cut {w : World} {B g cap n : Nat} {xs ys : List Value} (h : w.ownsRow B 3 1 (.slice (some ⟨g,0,none⟩) n cap) n (xs ++ ys)) (hn : (xs ++ ys).length = n) : w.ownsRow B 3 1 (.slice (some ⟨g,0,none⟩) xs.length cap) xs.length xs:=by
 rcases h.2 with ⟨h1,_⟩ | ⟨g',cap',cur,hv,hbg,hblk,hnc,hcm,hcs,htk⟩
 ·simp at h1
 ·simp only [Value.slice.injEq,Option.some.injEq,Addr.mk.injEq,true_and,and_true] at hv
  obtain ⟨rfl,rfl⟩:=hv
  rw [List.length_append] at hn
  refine ⟨by simp,.inr ⟨g,cap,cur,rfl,hbg,hblk,by omega,hcm,hcs,?_⟩⟩
  have h2:=congrArg (List.take xs.length) htk
  rw [List.take_take,List.take_left' rfl,Nat.min_eq_left (by omega)] at h2
  rw [Nat.mul_one]
  exact h2
theorem grow_no (w : World) : w = grow w #[]:=by simp
set_option maxRecDepth 100000 in
set_option maxHeartbeats 1600000 in
theorem rising_is (B : Nat) (a : Option Addr) (cap : Nat) (ks : List Int) (w : World) (h : w.ownsRow B 3 1 (.slice a ks.length cap) ks.length (intV ks)) (hl : ks.length ≤ 4000000) (hB : B ≤ w.heap.size) :
  Calls Tryz.prog 109 #[.slice a ks.length cap] w fun e w' => ∃ ra rc,e = .returned (.slice ra (riL ks).length rc) ∧ w'.ownsRow B 3 1 (.slice ra (riL ks).length rc) (riL ks).length (intV (riL ks)) ∧ Below B w w':=by
 have hlm : (ks.mergeSort fun x y => decide (x ≤ y)).length = ks.length:=List.length_mergeSort ks
 rcases h.2 with ⟨hv0,hn0⟩ | ⟨g,cap',cur,hv1,hbg,hblk,hnc,hcm,hcs,htk⟩
 ·have hK0 : ks = []:=List.eq_nil_of_length_eq_zero hn0
  subst hK0
  simp only [List.length_nil,Value.slice.injEq,true_and] at hv0
  obtain ⟨rfl,rfl⟩:=hv0
  have HS:=Tryz.slices_Sort_int_none none 0 w
  have HC:=Tryz.slices_Compact_int_empty none 0 w
  have HE : Hid (riL [] = []):=by show riL [] = []; unfold riL Lib.compact Lib.compactUpTo; simp
  clear h hl hn0 hlm
  go_enter Tryz.func109,Tryz.ntmps109
  go_wp2_with fail
  refine HS.mono ?_
  rintro e w5 ⟨rfl,rfl⟩
  go_wp2_with fail
  refine HC.mono ?_
  rintro e w6 ⟨rfl,rfl⟩
  go_wp2
  go_ret
  rw [HE.out]
  exact ⟨none,0,rfl,World.ownsRow_nil _ _ _ _,Below.refl _ _⟩
 ·simp only [Value.slice.injEq,true_and] at hv1
  obtain ⟨rfl,rfl⟩:=hv1
  have HS:=Tryz.slices_Sort_int g 0 cap ks w (holds_of_blockI hblk (by simpa [intV] using htk)) (Array.getElem?_eq_some_iff.1 hblk).1 (by omega)
  have hri : riL ks = Lib.compact (ks.mergeSort fun x y => decide (x ≤ y)):=rfl
  rw [hri]
  clear hri
  generalize (ks.mergeSort fun x y => decide (x ≤ y)) = Z at HS hlm
  have H5 : Hid (∀ n os,w.grownBy (grow (putRow (Value.int .i64) (Sort.ahead w n) g 0 Z.toArray) os) (some g) ∧ (grow (putRow (Value.int .i64) (Sort.ahead w n) g 0 Z.toArray) os).ownsRow B 3 1 (.slice (some ⟨g,0,none⟩) ks.length cap) ks.length (Z.map (Value.int .i64))) :=
   fun n os => ⟨grownBy_sortedI _,ownsRow_sortedI hlm hbg hblk hnc hcm hcs⟩
  have HEZ : Hid (ks.length = Z.length):=hlm.symm
  clear h hblk htk hcs hnc hcm hlm
  go_enter Tryz.func109,Tryz.ntmps109
  go_wp2_with fail
  refine HS.mono ?_
  clear HS
  rintro e w5 ⟨rfl,n5,os5,hw5⟩
  obtain ⟨hg5,ho5⟩:=H5.out n5 os5
  rw [← hw5] at hg5 ho5
  have hb5 : Below B w w5:=⟨hg5.os,hg5.tape,hg5.output,hg5.size,fun k hk => hg5.block k (by omega) (by simp; omega)⟩
  clear H5 hw5 hg5
  have hB5 : B ≤ w5.heap.size:=Nat.le_trans hB hb5.size
  rcases ho5.2 with ⟨hv0,hn0⟩ | ⟨g2,cap2,cur,hv1,hbg2,hblk,hnc,hcm,hcs,htk⟩
  ·simp at hv0
  ·simp only [Value.slice.injEq,Option.some.injEq,Addr.mk.injEq,true_and,and_true] at hv1
   obtain ⟨rfl,rfl⟩:=hv1
   rw [HEZ.out] at htk hnc
   have hcl:=cmp_len Z
   have HC:=Tryz.slices_Compact_int g 0 cap Z w5 (holds_of_blockI hblk (by simpa using htk)) (by have:=HEZ.out; omega) hnc
   rw [← HEZ.out] at HC
   have H6 : Hid (∀ q,w5.grownBy (putRow (Value.int .i64) (Sort.ahead w5 q) g 0 (Lib.compact Z ++ List.replicate (Z.length - (Lib.compact Z).length) 0).toArray) (some g) ∧ (putRow (Value.int .i64) (Sort.ahead w5 q) g 0 (Lib.compact Z ++ List.replicate (Z.length - (Lib.compact Z).length) 0).toArray).ownsRow B 3 1 (.slice (some ⟨g,0,none⟩) (Lib.compact Z).length cap) (Lib.compact Z).length (intV (Lib.compact Z))):=by
    intro q
    have e1:=grownBy_sortedI (w:=w5) (g:=g) (n:=q) (os:=#[]) (Lib.compact Z ++ List.replicate (Z.length - (Lib.compact Z).length) 0).toArray
    have e2:=ownsRow_sortedI (n:=q) (os:=#[]) (ss:=Z) (ts:=Lib.compact Z ++ List.replicate (Z.length - (Lib.compact Z).length) 0) (by simp; omega) hbg hblk hnc hcm hcs
    rw [← grow_no] at e1 e2
    refine ⟨e1,?_⟩
    rw [List.map_append] at e2
    have e3:=own_cut e2 (by simp; omega)
    rw [List.length_map] at e3
    exact e3
   generalize hYe : Lib.compact Z = Y at HC H6
   have HYe : Hid (Lib.compact Z = Y):=hYe
   clear hYe
   rw [← HEZ.out] at H6
   clear ho5 hblk htk hcs hnc hcm hcl
   go_wp2_with fail
   refine HC.mono ?_
   clear HC
   rintro e w6 ⟨rfl,q,hw6⟩
   obtain ⟨hg6,ho6⟩:=H6.out q
   rw [← hw6] at hg6 ho6
   have hb6 : Below B w5 w6:=⟨hg6.os,hg6.tape,hg6.output,hg6.size,fun k hk => hg6.block k (by omega) (by simp; omega)⟩
   have HB6 : Hid (Below B w w6):=hb5.trans hb6
   clear H6 hw6 hg6 hb6 hb5
   go_wp2
   go_ret
   rw [HYe.out]
   exact ⟨_,_,rfl,ho6,HB6.out⟩
end Go.Proofs.YtlmpfkbgknbcnaaGreat.Nd

set_option linter.unusedVariables false
namespace Go.Proofs.YtlmpfkbgknbcnaaGreat
open Go Go.RowKit Go.Joins Own Var Term Draw
theorem RowAt.set {α : Type} {f : α → Value} {w : World} {a : Option Addr} {xs : List α} (h : RowAt f w a xs) (q i : Nat) (u : Value) (hn : ∀ p : Addr,a = some p → p.block ≠ q) : RowAt f (w.setCell ⟨q,i,none⟩ u) a xs:=by
 intro j hj
 obtain ⟨b,off,e,hlt,hc⟩:=h j hj
 refine ⟨b,off,e,by simpa using hlt,?_⟩
 have:=hn _ e
 rw [World.cell?_setCell_other _ _ _ _ (by intro he; simp only [Addr.mk.injEq] at he; exact this he.1.symm)]
 exact hc
end Go.Proofs.YtlmpfkbgknbcnaaGreat

set_option linter.unusedVariables false
namespace Go.Proofs.YtlmpfkbgknbcnaaGreat
open Go Go.RowKit Var Term
def pkV (p : Int) : Int:=if btw p 0 2 then 1 + p else if btw p 0 5 then 8 + p else 0
def ckV (r : Int) : Int:=if btw r 0 2 then 21 + r else 0
def lkV (a b : Int) : Int:=if btw a 0 2 && btw b 0 2 then 31 + 3 * a + b else 0
set_option maxRecDepth 100000 in
theorem user_is (n : Int) (w : World) : Calls Tryz.prog 198 #[I n] w fun e w' => e = .returned (.bool (btw n 0 2)) ∧ w = w':=by
 go_enter Tryz.func198,Tryz.ntmps198
 go_wp2_with fail
 refine (within_is n 2 _).mono ?_
 rintro e w1 ⟨rfl,rfl⟩
 go_wp2
 go_ret
 exact ⟨rfl,rfl⟩
set_option maxRecDepth 100000 in
theorem implPK_is (p : Int) (w : World) : Calls Tryz.prog 153 #[I p] w fun e w' => e = .returned (I (pkV p)) ∧ w = w':=by
 go_enter Tryz.func153,Tryz.ntmps153
 go_wp2_with fail
 refine (user_is p _).mono ?_
 rintro e w1 ⟨rfl,rfl⟩
 by_cases h : btw p 0 2 = true
 ·have h':=(btw_iff _ _ _).1 h
  rw [h]
  go_wp2
  go_ret
  exact ⟨congrArg (fun z => Ending.returned (Value.int .i64 z)) (show 1 + p = pkV p from Eq.symm (by unfold pkV; rw [if_pos h])),rfl⟩
 ·rw [Bool.not_eq_true] at h
  rw [h]
  go_wp2_with fail
  refine (prin_is p _).mono ?_
  rintro e w1 ⟨rfl,rfl⟩
  by_cases g : btw p 0 5 = true
  ·have g':=(btw_iff _ _ _).1 g
   rw [g]
   go_wp2
   go_ret
   exact ⟨congrArg (fun z => Ending.returned (Value.int .i64 z)) (show 11 + p - 3 = pkV p from Eq.symm (by unfold pkV; rw [h,if_neg (by simp),if_pos g]; omega)),rfl⟩
  ·rw [Bool.not_eq_true] at g
   rw [g]
   go_wp2
   go_ret
   exact ⟨congrArg (fun z => Ending.returned (Value.int .i64 z)) (show 0 = pkV p from Eq.symm (by unfold pkV; rw [h,if_neg (by simp),g,if_neg (by simp)])),rfl⟩
set_option maxRecDepth 100000 in
theorem specPK_is (p : Int) (w : World) : Calls Tryz.prog 95 #[I p] w fun e w' => e = .returned (I (pkV p)) ∧ w = w':=by
 go_enter Tryz.func95,Tryz.ntmps95
 go_wp2_with fail
 refine (spec_prin p _).mono ?_
 rintro e w1 ⟨rfl,rfl⟩
 by_cases g : btw p 0 5 = true
 ·have g':=(btw_iff _ _ _).1 g
  rw [g]
  by_cases h : p < 3
  ·skip
   go_wp2
   go_ret
   exact ⟨congrArg (fun z => Ending.returned (Value.int .i64 z)) (show 1 + p = pkV p from Eq.symm (by unfold pkV; rw [if_pos ((btw_iff _ _ _).2 (by omega))])),rfl⟩
  ·skip
   go_wp2
   go_ret
   exact ⟨congrArg (fun z => Ending.returned (Value.int .i64 z)) (show 11 + p - 3 = pkV p from Eq.symm (by unfold pkV; rw [if_neg (fun x => by have:=(btw_iff _ _ _).1 x; omega),if_pos g]; omega)),rfl⟩
 ·skip
  rw [Bool.not_eq_true] at g
  rw [g]
  go_wp2
  go_ret
  exact ⟨congrArg (fun z => Ending.returned (Value.int .i64 z)) (show 0 = pkV p from Eq.symm (by unfold pkV; rw [if_neg (fun x => by rw [(btw_iff _ _ _).2 (by have:=(btw_iff _ _ _).1 x; omega)] at g; cases g),g,if_neg (by simp)])),rfl⟩
end Go.Proofs.YtlmpfkbgknbcnaaGreat

set_option linter.unusedVariables false
set_option maxRecDepth 100000
namespace Go.Proofs.YtlmpfkbgknbcnaaGreat
open Go Go.RowKit Var Term Go.WideMaps Go.Maps Go.WideElems
abbrev pv (a b : Int) : Value:=.agg #[.int .i64 a,.int .i64 b]
set_option maxRecDepth 100000 in
theorem lkLaid : laidOutB Tryz.prog = true:=by kernel_rfl
set_option maxRecDepth 100000 in
theorem row79 : (237 : TypeId) < Tryz.prog.types.size:=of_decide_eq_true (by kernel_rfl)
theorem cells79 : Tryz.prog.cellsOf 237 = 2:=by kernel_rfl
theorem arr79 : ArrKey Tryz.prog 237 3 2:=⟨Tryz.underlying237,by kernel_rfl,by kernel_rfl,cells79⟩
theorem wide79 : (match Tryz.prog.underlying 237 with | some (.array _ _) | some (.struct _) => true | _ => false) = true:=by rw [Tryz.underlying237]
set_option maxRecDepth 100000 in
theorem klaw : KeyLaw Tryz.prog 237:=deep_law_laid lkLaid (m:=2) (by omega) row79 (by kernel_rfl) wide79
theorem keyd : Keyed Tryz.prog 237:=Keyed.of_law klaw
set_option maxRecDepth 100000 in
theorem typesS : ∃ m,Tryz.prog.types.size = m + 1:=⟨_,show Tryz.prog.types.size = 273 + 1 by kernel_rfl⟩
theorem zero3 (w : World) : (zeroValue 3).run Tryz.prog w = .ok (.int .i64 0) w:=by kernel_rfl
/-- The key of a pair. -/
def kl (a b : Int) : Lit:=.string (keyBytes [.int .i64 a,.int .i64 b])
theorem wf_of (a : Int) (h : i64 a) : (Lit.int .i64 a).wf = true:=by
 unfold i64 at h
 simp [Lit.wf,IntKind.min,IntKind.max,IntKind.signed,IntKind.bits]
 omega
theorem kl_of {a b : Int} (ha : i64 a) (hb : i64 b) : keyOf Tryz.prog 237 (pv a b) = some (kl a b):=keyOf_pair arr79 Tryz.underlying3 typesS (wf_of a ha) (wf_of b hb)
theorem kl_inj {a b c d : Int} (ha : i64 a) (hb : i64 b) (hc : i64 c) (hd : i64 d) (h : kl a b = kl c d) : (a,b) = (c,d):=by
 have h1:=kl_of ha hb
 have h2:=kl_of hc hd
 rw [← h] at h2
 have:=klaw.inj h1 h2
 injection this with e
 injection e with e
 simp only [List.cons.injEq,Value.int.injEq,true_and,and_true] at e
 rw [e.1,e.2]
theorem kl_key (a b : Int) : WideAt.IsKeyLit (kl a b):=True.intro
/-- Where a step changes nothing at the one place, nothing changes. -/
theorem modify_same {α : Type} (l : Array α) (j : Nat) (f : α → α) {x : α} (h : l[j]? = some x) (hf : f x = x) : l.modify j f = l:=by
 refine Array.ext (Array.size_modify ..) (fun i h1 h2 => ?_)
 rw [Array.getElem_modify]
 by_cases c : j = i
 ·rw [if_pos c]
  have hx : l[i] = x:=by
   have:=Array.getElem?_eq_some_iff.1 h
   obtain ⟨_,hx⟩:=this
   subst c
   exact hx
  rw [hx,hf]
 ·rw [if_neg c]
section
variable {H : Type} {P : Program} {w : World} {t k e : TypeId} {R : Value → Option (DataW H × List MemPlace)} {b : Nat} {es : Array MapEntry} {clock : Nat}
/-- An entry that is begun leaves the map as a store of what is there (or of the zero value) does; and that is what is read. -/
theorem entry_upd (K : KeyLaw P k) (ht : P.underlying t = some (.map k e)) {z : Value} (hz : ∀ u : World,(zeroValue e).run P u = .ok z u) (hb : w.heap[b]? = some (.map es clock)) (F : Fit P k R es clock) {key : Value} {kl : Lit} (hkey : keyOf P k key = some kl) :
  ∃ (v0 : Value) (st : Nat) (W2 : World),(Instr.mapEntry t (.map (some b)) key).run P w = .ok (.tuple #[v0,goInt st]) W2 ∧ (Instr.mapUpdate t (.map (some b)) key v0).run P w = .ok () W2 ∧ (Instr.lookup t (.map (some b)) key false).run P w = .ok v0 w:=by
 have tU:=run_underlying ht (w:=w)
 have oG:=MapKept.run_getObj_map (P:=P) hb
 have oS:=fun o => MapKept.run_setObj_map (P:=P) o hb
 have kC:=fun em => K.check w em hkey
 have kS:=K.stays w hkey
 obtain ⟨nf,_⟩ | ⟨j,x,yf,hx,ek⟩:=K.find w hkey es.toList F.keys
 ·refine ⟨z,clock,ChangeMaps.setBlock w b (.map (es.push ⟨key,z,clock⟩) (clock + 1)),?_,?_,?_⟩
  ·unfold Instr.mapEntry ChangeMaps.setBlock
   simp [tU,oG,kC,nf,hz,oS,Result.andThen]
  ·unfold Instr.mapUpdate ChangeMaps.setBlock
   simp [tU,oG,kC,nf,oS,Result.andThen]
  ·unfold Instr.lookup
   simp [tU,oG,kC,nf,hz,Result.andThen]
 ·have hxa : es[j]? = some x:=by simpa using hx
  have same : ∀ f : MapEntry → MapEntry,f x = x → es.modify j f = es:=fun f hf => modify_same es j f hxa hf
  subst ek
  refine ⟨x.val,x.born,ChangeMaps.setBlock w b (.map es clock),?_,?_,?_⟩
  ·unfold Instr.mapEntry ChangeMaps.setBlock
   simp [tU,oG,kC,yf,hxa,kS,oS,Result.andThen,same (fun y => { y with key:=x.key }) rfl]
  ·unfold Instr.mapUpdate ChangeMaps.setBlock
   simp [tU,oG,kC,yf,hxa,kS,oS,Result.andThen,same (fun y => { y with key:=x.key,val:=x.val }) rfl]
  ·unfold Instr.lookup
   simp [tU,oG,kC,yf,Result.andThen]
end
/-- The map at block m holds how often each pair stands in xs. -/
def LinkD (xs : List (Int × Int)) (D : DataW Value) : Prop :=
 (∀ a b,i64 a → i64 b → D.atKey (kl a b) (.lit (.int .i64 0)) = .lit (.int .i64 ((xs.count (a,b) : Nat) : Int))) ∧
 (∀ a b,i64 a → i64 b → has D (kl a b) = decide ((a,b) ∈ xs)) ∧ size D ≤ xs.length ∧ (size D = xs.length ↔ xs.Nodup)
def LinkM (m n : Nat) (xs : List (Int × Int)) (w : World) : Prop:=∃ D : DataW Value,w.ownsMap Tryz.prog 237 (plainElem Tryz.prog 3) m n D ∧ LinkD xs D
theorem LinkM.kept {m n : Nat} {xs : List (Int × Int)} {w w' : World} (h : LinkM m n xs w) (hb : Below w.heap.size w w') : LinkM m n xs w':=by
 obtain ⟨D,⟨es,clock,hb',F,hs,hD⟩,hL⟩:=h
 have hlt : m < w.heap.size:=(Array.getElem?_eq_some_iff.1 hb').1
 exact ⟨D,⟨es,clock,(hb.block m hlt).trans hb',F,hs,hD⟩,hL⟩
theorem LinkM.lt {m n : Nat} {xs : List (Int × Int)} {w : World} (h : LinkM m n xs w) : m < w.heap.size:=by
 obtain ⟨D,h,_⟩:=h
 exact h.lt
theorem LinkM.made (w : World) : LinkM w.heap.size 0 [] (w.alloc (.map #[] 0)):=by
 refine ⟨_,World.ownsMap_made w Tryz.prog 237 (plainElem Tryz.prog 3),?_,?_,?_,?_⟩
 ·intro a b ha hb; rfl
 ·intro a b ha hb; rfl
 ·exact Nat.le_refl _
 ·simp [size]
theorem LinkM.look {m n : Nat} {xs : List (Int × Int)} {w : World} (h : LinkM m n xs w) {a b : Int} (ha : i64 a) (hb : i64 b) :
  (Instr.lookup 215 (.map (some m)) (pv a b) false).run Tryz.prog w = .ok (.int .i64 ((xs.count (a,b) : Nat) : Int)) w:=by
 obtain ⟨D,h,hL⟩:=h
 obtain ⟨c,hrun,hat,hwc⟩:=h.lookup_int keyd Tryz.underlying215 Tryz.underlying3 (zero3 w) (kl_of ha hb)
 rw [hL.1 a b ha hb] at hat
 injection hat with e
 injection e with _ e
 rw [hrun,e]
theorem LinkM.len {m n : Nat} {xs : List (Int × Int)} {w : World} (h : LinkM m n xs w) (ty : TypeId) :
  ∃ s : Nat,(Builtin.len_ #[215] ty #[.map (some m)]).run Tryz.prog w = .ok (.int .i64 s) w ∧ s ≤ xs.length ∧ (s = xs.length ↔ xs.Nodup):=by
 obtain ⟨D,h,hL⟩:=h
 exact ⟨_,h.len Tryz.underlying215 ty,hL.2.2.1,hL.2.2.2⟩
theorem nodup_snoc {xs : List (Int × Int)} {p : Int × Int} : (xs ++ [p]).Nodup ↔ xs.Nodup ∧ p ∉ xs:=by
 rw [List.nodup_append]
 simp only [List.nodup_cons,List.not_mem_nil,not_false_eq_true,List.nodup_nil,and_self,List.mem_cons,or_false,true_and]
 constructor
 ·rintro ⟨h,k⟩
  exact ⟨h,fun hp => k p hp p rfl rfl⟩
 ·rintro ⟨h,k⟩
  exact ⟨h,fun a ha b hb e => k (by rw [← hb,← e]; exact ha)⟩
/-- One more of a pair: the entry, what is read of it ahead and behind, and what is stored. -/
theorem LinkM.more {m n : Nat} {xs : List (Int × Int)} {w : World} (h : LinkM m n xs w) (hn : n + 1 < maxLen) {a b : Int} (ha : i64 a) (hb : i64 b) (hx : ∀ p ∈ xs,i64 p.1 ∧ i64 p.2) (hl : xs.length ≤ 1000) :
  ∃ (c st : Nat) (W2 W3 : World),(Instr.lookup 215 (.map (some m)) (pv a b) false).run Tryz.prog w = .ok (.int .i64 (c : Int)) w ∧
   (Instr.mapEntry 215 (.map (some m)) (pv a b)).run Tryz.prog w = .ok (.tuple #[.int .i64 (c : Int),goInt st]) W2 ∧
   (Instr.lookup 215 (.map (some m)) (pv a b) false).run Tryz.prog W2 = .ok (.int .i64 (c : Int)) W2 ∧
   (Instr.entryStore 215 (.map (some m)) (goInt st) (.int .i64 ((c : Int) + 1))).run Tryz.prog W2 = .ok () W3 ∧
   LinkM m (n + 1) (xs ++ [(a,b)]) W3 ∧ w.grownBy W3 (some m) ∧ c ≤ 1000:=by
 have hlook:=h.look ha hb
 obtain ⟨D,ho,hL⟩:=h
 obtain ⟨es,clock,hbk,F,hs,hD⟩:=ho
 have hkey:=kl_of ha hb
 obtain ⟨v0,st,W2,e1,e2,e3⟩:=entry_upd klaw Tryz.underlying215 zero3 hbk F hkey
 rw [hlook] at e3
 injection e3 with e3 _
 subst e3
 have hc : xs.count (a,b) ≤ 1000:=Nat.le_trans List.count_le_length hl
 have hwc : (Lit.int .i64 ((xs.count (a,b) : Nat) : Int)).wf = true:=wf_of _ (by unfold i64; omega)
 have hwd : (Lit.int .i64 (((xs.count (a,b) : Nat) : Int) + 1)).wf = true:=wf_of _ (by unfold i64; omega)
 have ho : w.ownsMap Tryz.prog 237 (plainElem Tryz.prog 3) m n D:=⟨es,clock,hbk,F,hs,hD⟩
 obtain ⟨W2',u1,u2,u3⟩:=ho.update keyd Tryz.underlying215 (by omega) hkey (plainElem_int Tryz.underlying3 hwc)
 rw [e2] at u1
 injection u1 with _ u1
 subst u1
 obtain ⟨c2,l1,l2,_⟩:=u2.lookup_int keyd Tryz.underlying215 Tryz.underlying3 (zero3 W2) hkey
 rw [atKey_put_same (ho.isMap) (kl_key a b)] at l2
 injection l2 with l2
 injection l2 with _ l2
 subst l2
 obtain ⟨v1,st1,es1,clock1,f1,_,f3⟩:=entry_then_store klaw Tryz.underlying215 zero3 hbk F hkey
 rw [e1] at f1
 injection f1 with f1 f1w
 injection f1 with f1
 injection f1 with f1
 simp only [List.cons.injEq,and_true] at f1
 obtain ⟨_,f1⟩:=f1
 obtain ⟨es',clock',g1,g2⟩:=f3 W2 (.int .i64 (((xs.count (a,b) : Nat) : Int) + 1)) (by rw [f1w]; exact ChangeMaps.heap_setBlock_same hbk _)
 rw [← f1] at g1
 obtain ⟨W3',v1',v2,v3⟩:=ho.update keyd Tryz.underlying215 (by omega) hkey (plainElem_int Tryz.underlying3 hwd)
 rw [g2] at v1'
 injection v1' with _ v1'
 have hW3 : ChangeMaps.setBlock W2 m (.map es' clock') = W3':=by
  rw [← v1',f1w]
  simp [ChangeMaps.setBlock]
 rw [hW3] at g1
 refine ⟨_,st,W2,W3',hlook,e1,l1,g1,⟨_,v2,?_,?_,?_,?_⟩,v3,hc⟩
 ·intro x y hx1 hy1
  by_cases e : (x,y) = (a,b)
  ·simp only [Prod.mk.injEq] at e
   obtain ⟨rfl,rfl⟩:=e
   rw [atKey_put_same ho.isMap (kl_key _ _),List.count_append]
   simp
  ·rw [atKey_put_other (fun h => e (kl_inj hx1 hy1 ha hb h)),hL.1 x y hx1 hy1,List.count_append]
   have : List.count (x,y) [(a,b)] = 0:=List.count_eq_zero.2 (by simpa using fun h1 h2 => e (by rw [h1,h2]))
   rw [this]; rfl
 ·intro x y hx1 hy1
  by_cases e : (x,y) = (a,b)
  ·simp only [Prod.mk.injEq] at e
   obtain ⟨rfl,rfl⟩:=e
   rw [has_put_same ho.isMap (kl_key _ _)]
   simp
  ·rw [has_put_other (fun h => e (kl_inj hx1 hy1 ha hb h)),hL.2.1 x y hx1 hy1]
   rw [decide_eq_decide,List.mem_append,List.mem_singleton]
   exact ⟨Or.inl,fun h => h.resolve_right e⟩
 ·rw [size_put (ho.tidy keyd),List.length_append]
  have:=hL.2.2.1
  split
  ·simp; omega
  ·simp; omega
 ·rw [size_put (ho.tidy keyd),hL.2.1 a b ha hb,List.length_append,nodup_snoc,← hL.2.2.2]
  have:=hL.2.2.1
  by_cases e : (a,b) ∈ xs
  ·simp [e]; omega
  ·simp [e]
end Go.Proofs.YtlmpfkbgknbcnaaGreat
