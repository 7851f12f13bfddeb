/- Configs that come in: their cells and rows. -/
import Derived.Test.YtcaieniddnhkbaaGreatDoorAb
import Derived.Test.YtcaieniddnhkbaaGreatDoorPair2
import Derived.WalkKit
import Derived.ProofKit
import Derived.OpenShut
import Derived.ChangeSlices
import Derived.Deep.SlicePairs
import Derived.Lib.SmallJoins
set_option linter.unusedVariables false
namespace Go.Proofs.YtcaieniddnhkbaaGreatDoor
open Go Go.RowKit Go.ChangeShapes Go.WideShapes Go.ChangeAt Go.Joins
theorem cells3:Tryz.prog.cellsOf 3=1:=by kernel_rfl
theorem cells24:Tryz.prog.cellsOf 24=1:=by kernel_rfl
theorem cells37:Tryz.prog.cellsOf 53=1:=by kernel_rfl
theorem cells39:Tryz.prog.cellsOf 55=5:=by kernel_rfl
theorem cells81:Tryz.prog.cellsOf 146=2:=by kernel_rfl
theorem array5 {α:Type} {cs:Array α} (h:cs.size=5):∃ c0 c1 c2 c3 c4,cs=#[c0,c1,c2,c3,c4]:=by
 obtain ⟨l⟩:=cs
 match l,h with
 | [c0,c1,c2,c3,c4],_=>exact ⟨c0,c1,c2,c3,c4,rfl⟩
section
variable {H:Type} {enc:TypeId × Value→H} {P:Program} {w:World} {base:Nat} {spare:Nat→Bool} {held:Bool}
theorem trod_struct5 {t:TypeId} {f0 f1 f2 f3 f4:Field} {fuel:Nat} {cs:List Value} {x:DataW H × List MemPlace} (ht:P.underlying t=some (.struct #[f0,f1,f2,f3,f4])) (h:DataW.trod enc P w base spare held fuel t cs=some x) :
  ∃ y0 y1 y2 y3 y4 n,DataW.trod enc P w base spare held n f0.type ((cs.drop f0.offset).take (P.cellsOf f0.type))=some y0∧DataW.trod enc P w base spare held n f1.type ((cs.drop f1.offset).take (P.cellsOf f1.type))=some y1∧DataW.trod enc P w base spare held n f2.type ((cs.drop f2.offset).take (P.cellsOf f2.type))=some y2∧DataW.trod enc P w base spare held n f3.type ((cs.drop f3.offset).take (P.cellsOf f3.type))=some y3∧DataW.trod enc P w base spare held n f4.type ((cs.drop f4.offset).take (P.cellsOf f4.type))=some y4:=by
 obtain ⟨xs,n,_,rfl,hl,hlen,hf⟩:=DataW.trod_struct ht h
 match xs,hlen with
 | [y0,y1,y2,y3,y4],_=>exact ⟨y0,y1,y2,y3,y4,n,by simpa using hf 0 f0 rfl,by simpa using hf 1 f1 rfl,by simpa using hf 2 f2 rfl,by simpa using hf 3 f3 rfl,by simpa using hf 4 f4 rfl⟩
end
theorem nums_of {w:World} {x:Addr} {len:Nat} {zs:List Int} (hz:len≤zs.length)
  (hcell:∀ i,i < zs.length→w.cell? (x.add i)=some (I (zs.getD i 0))):RowAt (Value.int .i64) w (some x) (zs.take len):=by
 intro j hj
 rw [List.length_take] at hj
 obtain ⟨b,off,spot⟩:=x
 have hjz:j < zs.length:=by omega
 have hc:=hcell j hjz
 have hc0:=hcell 0 (by omega)
 have hsp:spot=none:=by simpa [Addr.add] using World.cell?_spot hc0
 subst hsp
 have e:(⟨b,off,none⟩:Addr).add j=⟨b,off + j,none⟩:=by simp only [Addr.add];split <;> simp_all
 rw [e] at hc
 refine ⟨b,off,rfl,World.block_lt_of_cell? w _ hc,?_⟩
 rw [hc,List.getElem_take]
 simp [List.getD,hjz]
section
variable {H:Type} {enc:TypeId × Value→H} {W:World} {base:Nat} {spare:Nat→Bool} {held:Bool}
theorem open_row {n:Nat} {c:Value} {y:DataW H × List MemPlace} (h:DataW.trod enc Tryz.prog W base spare held n 24 [c]=some y):∃ (a:Option Addr) (zs:List Int) (cap:Nat),c=.slice a zs.length cap∧RowAt (Value.int .i64) W a zs∧zs.length≤maxLen:=by
 rcases open_ints Tryz.underlying24 Tryz.underlying3 cells3 h with ⟨e,_⟩ | ⟨a,len,cap,zs,e,_,hl,hm,hz,_,hc,_⟩
 ·simp only [List.cons.injEq,and_true] at e
  exact ⟨none,[],0,e,RowAt.nil _ _,by simp⟩
 ·simp only [List.cons.injEq,and_true] at e
  have hle:len≤zs.length:=by rw [hz];split <;> omega
  refine ⟨some a,zs.take len,cap,?_,nums_of hle hc,?_⟩
  ·rw [List.length_take,Nat.min_eq_left hle];exact e
  ·rw [List.length_take,Nat.min_eq_left hle];omega
theorem open_pairs {n:Nat} {c:Value} {y:DataW H × List MemPlace} (h:DataW.trod enc Tryz.prog W base spare held n 53 [c]=some y):∃ (a:Option Addr) (xs:List (Int × Int)) (cap:Nat),c=.slice a xs.length cap∧PRow W a xs∧xs.length≤maxLen:=by
 rcases Go.Deep.open_slice_pairs Tryz.underlying53 Tryz.underlying146 cells81 rfl rfl cells3 cells3 h with ⟨e,_⟩ | ⟨a,len,cap,m,n,V0,V1,D0,D1,P0,P1,e,_,hl,hm,hmm,_,hx⟩
 ·simp only [List.cons.injEq,and_true] at e
  exact ⟨none,[],0,e,PRow.nil _ _,by simp⟩
 ·simp only [List.cons.injEq,and_true] at e
  have hle:len≤m:=by rw [hmm];split <;> omega
  obtain ⟨b,off,spot⟩:=a
  refine ⟨some ⟨b,off,spot⟩,(List.range len).map fun i=>(intOf (V0 i),intOf (V1 i)),cap,by rw [List.length_map,List.length_range];exact e,?_,by rw [List.length_map,List.length_range];omega⟩
  intro j hj
  rw [List.length_map,List.length_range] at hj
  obtain ⟨c0,c1,t0,t1⟩:=hx j (by omega)
  obtain ⟨x0,e0,_,_⟩:=DataW.trod_int Tryz.underlying3 t0
  obtain ⟨x1,e1,_,_⟩:=DataW.trod_int Tryz.underlying3 t1
  simp only [List.cons.injEq,and_true] at e0 e1
  have hc0:=(hx 0 (by omega)).1
  have hsp:spot=none:=by simpa [Addr.add] using World.cell?_spot hc0
  subst hsp
  have q0:(⟨b,off,none⟩:Addr).add (j * 2)=⟨b,off + j * 2,none⟩:=by simp only [Addr.add];split <;> simp_all
  have q1:(⟨b,off,none⟩:Addr).add (j * 2 + 1)=⟨b,off + j * 2 + 1,none⟩:=by simp only [Addr.add];split <;> simp_all []
  rw [q0] at c0
  rw [q1] at c1
  refine ⟨b,off,rfl,World.block_lt_of_cell? W _ c0,?_,?_⟩
  ·rw [c0,List.getElem_map,List.getElem_range,e0];rfl
  ·rw [c1,List.getElem_map,List.getElem_range,e1];rfl
set_option maxRecDepth 100000 in
theorem open_config {r:Reach} {b0:Nat} {v:Value} {d:DataW H} {p:List MemPlace} (hv:Value.okWide Tryz.prog W r b0 55 v) (h:DataW.Trod enc Tryz.prog W base spare held 55 v d p) :
  ∃ c:Cf,v=c.val∧CfAt c W∧c.U.length≤maxLen∧c.S.length≤maxLen∧c.L.length≤maxLen∧c.X.length≤maxLen:=by
 obtain ⟨cs,rfl,hsz⟩:=okWide_struct Tryz.underlying55 hv
 obtain ⟨c0,c1,c2,c3,c4,rfl⟩:=array5 (hsz.trans cells39)
 obtain ⟨fuel,hf⟩:=h
 obtain ⟨y0,y1,y2,y3,y4,n,h0,h1,h2,h3,h4⟩:=trod_struct5 Tryz.underlying55 hf
 simp only [cells3,cells24,cells37,Value.cells] at h0 h1 h2 h3 h4
 have k0:DataW.trod enc Tryz.prog W base spare held n 24 [c0]=some y0:=h0
 have k1:DataW.trod enc Tryz.prog W base spare held n 24 [c1]=some y1:=h1
 have k2:DataW.trod enc Tryz.prog W base spare held n 53 [c2]=some y2:=h2
 have k3:DataW.trod enc Tryz.prog W base spare held n 53 [c3]=some y3:=h3
 have k4:DataW.trod enc Tryz.prog W base spare held n 3 [c4]=some y4:=h4
 obtain ⟨ua,U,uc,e0,hu,lu⟩:=open_row k0
 obtain ⟨sa,S,sc,e1,hs,ls⟩:=open_row k1
 obtain ⟨la,L,lc,e2,hl,ll⟩:=open_pairs k2
 obtain ⟨xa,X,xc,e3,hx,lx⟩:=open_pairs k3
 obtain ⟨k,e4,_,_⟩:=DataW.trod_int Tryz.underlying3 k4
 simp only [List.cons.injEq,and_true] at e4
 subst e0 e1 e2 e3 e4
 exact ⟨⟨ua,uc,U,sa,sc,S,la,lc,L,xa,xc,X,k⟩,rfl,⟨hu,hs,hl,hx⟩,lu,ls,ll,lx⟩
end
end Go.Proofs.YtcaieniddnhkbaaGreatDoor
