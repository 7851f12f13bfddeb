/- A row of numbers appended to one of the call's own. -/
import Derived.Test.YtcaieniddnhkbaaGreatDoorAb
import Derived.Test.YtcaieniddnhkbaaGreatDoorSp8f
import Derived.Lib.SliceRun
set_option linter.unusedVariables false
set_option maxRecDepth 100000
namespace Go.Proofs.YtcaieniddnhkbaaGreatDoor
open Go Go.RowKit Own Var Term
theorem run_append_none {P:Program} {w:World} {base:Nat} (t ty e:TypeId) (i:TypeInfo) {size n:Nat} {v:Value} {xs:List Value} (ht:P.underlying t=some (.slice e)) (hi:P.info? e=some i) (hown:w.ownsRow base e size v n xs) (c:Nat) :
  (Builtin.append_ #[t,t] ty #[v,.slice none 0 c]).run P w=.ok v w:=by
 rcases hown.2 with ⟨rfl,rfl⟩ | ⟨g,cap,cur,rfl,hbg,hg,hnc,hcm,hcs,htake⟩
 ·simp [Builtin.append_,run_underlying ht,sizeOf,typeInfo,hi,Builtin.lenOf,Builtin.firstCells]
 ·simp [Builtin.append_,run_underlying ht,sizeOf,typeInfo,hi,Builtin.lenOf,Builtin.firstCells,loadCells,hnc,storeCells]
theorem run_append_row {P:Program} (w:World) (t ty:TypeId)
  (base:Nat) (e:TypeId) (i:TypeInfo) (z:Value) (size bytes:Nat) (ht:P.underlying t=some (.slice e)) (hi:P.info? e=some i) (hz:i.zero=some z)
  (hsize:i.size=size) (hby:i.bytes=bytes) (hzs:z.cells.size=size) (hsz:0 < size)
  (v:Value) (n:Nat) (xs:List Value) (hown:w.ownsRow base e size v n xs)
  (oa:Option Addr) (m c:Nat) (news:List Value) (hl:news.length=m * size) (hnews:∀ ad,oa=some ad→∀ j u,news[j]?=some u→w.cell? (ad.add j)=some u) (h1:∀ u∈news,u.oneCell'=true)
  (h63:n+m≤maxLen) (hbytes:(n+m) * bytes≤140737488355328) (hbase:base≤w.heap.size) (hnil:oa=none→m=0) :
  ∃ v' w',(Builtin.append_ #[t,t] ty #[v,.slice oa m c]).run P w=.ok v' w'∧w'.ownsRow base e size v' (n+m) (xs++news)∧w.grownBy w' v.ownBlock:=by
 cases oa with
 | some ad =>
  obtain ⟨v',w',hr,h2,h3,_,_⟩:=run_append_own_at (P:=P) w base t ty e i z size bytes ht hi hz hsize hby hzs hsz v n xs hown ad m c news hl (hnews ad rfl) h1 h63 hbytes hbase
  exact ⟨v',w',hr,h2,h3⟩
 | none =>
  obtain rfl:=hnil rfl
  have hn:news=[]:=List.eq_nil_of_length_eq_zero (by simpa using hl)
  subst hn
  exact ⟨v,w,run_append_none t ty e i ht hi hown c,by simpa using hown,World.grownBy.refl w _⟩
theorem news_ints {w:World} {a:Option Addr} {xs:List Int} (h:RowAt (Value.int .i64) w a xs):∀ ad,a=some ad→∀ j u,(intV xs)[j]?=some u→w.cell? (ad.add j)=some u:=by
 intro ad ha j u hu
 have hj:j < xs.length:=by
  obtain ⟨q,_⟩:=List.getElem?_eq_some_iff.1 hu
  unfold intV at q
  rwa [List.length_map] at q
 obtain ⟨b,off,e,_,c0⟩:=h j hj
 rw [ha] at e
 cases e
 have e2:(⟨b,off,none⟩:Addr).add j=⟨b,off+j,none⟩:=by simp only [Addr.add];split <;> simp_all
 rw [e2,c0]
 unfold intV at hu
 rw [List.getElem?_map,List.getElem?_eq_getElem hj] at hu
 exact hu
theorem one_ints (xs:List Int):∀ u∈intV xs,u.oneCell'=true:=by
 intro u hu
 unfold intV at hu
 obtain ⟨z,_,rfl⟩:=List.mem_map.1 hu
 rfl
theorem irow_nil {w:World} {xs:List Int} {a:Option Addr} (h:RowAt (Value.int .i64) w a xs):a=none→xs.length=0:=by
 intro e
 rcases Nat.eq_zero_or_pos xs.length with h0 | h0
 ·exact h0
 ·obtain ⟨b,off,e2,_⟩:=h 0 h0
  rw [e] at e2
  cases e2
theorem intV_len (xs:List Int):(intV xs).length=xs.length * 1:=by unfold intV;rw [List.length_map];omega
theorem app_ints (w:World) (ty:TypeId) (B:Nat) (v:Value) (n:Nat) (ys:List Int) (hown:w.ownsRow B 3 1 v n (intV ys)) (a:Option Addr) (c:Nat) (xs:List Int) (hr:RowAt (Value.int .i64) w a xs) (hn:n+xs.length≤2000000) (hB:B≤w.heap.size) :
  ∃ v' w',(Builtin.append_ #[24,24] ty #[v,.slice a xs.length c]).run Tryz.prog w=.ok v' w'∧w'.ownsRow B 3 1 v' (n+xs.length) (intV (ys++xs))∧w.grownBy w' v.ownBlock:=by
 obtain ⟨i0,hi,hz0,hz1,hz2⟩:=info_parts infoInt
 have:=run_append_row (P:=Tryz.prog) w 24 ty B 3 i0 (I 0) 1 8 Tryz.underlying24 hi hz0 hz1 hz2 rfl (by decide) v n (intV ys) hown a xs.length c (intV xs) (intV_len xs) (news_ints hr) (one_ints xs) (by unfold maxLen;omega) (by omega) hB (irow_nil hr)
 rwa [show intV ys++intV xs=intV (ys++xs) by unfold intV;rw [List.map_append]] at this
theorem wpList_app_ints (w:World) {ops:Array Oper} {rest:List Oper} {o:Oper} {a:Act} {Q:Exit→Act→World→Prop} (hgd:o.guard=none) (s x:Operand)
  (ho:o.op=.call { callee:=.builtin .append,args:=#[s,x],argTypes:=#[24,24] })
  (B:Nat) (v:Value) (n:Nat) (ys:List Int) (hs:a.eval s=v) (hown:w.ownsRow B 3 1 v n (intV ys)) (oa:Option Addr) (c:Nat) (xs:List Int) (hx:a.eval x=.slice oa xs.length c) (hr:RowAt (Value.int .i64) w oa xs) (hn:n+xs.length≤2000000) (hB:B≤w.heap.size)
  (h:∀ v' w',w'.ownsRow B 3 1 v' (n+xs.length) (intV (ys++xs))→w.grownBy w' v.ownBlock→wpList Tryz.prog ops Q rest (a.put o.dst v') w'):wpList Tryz.prog ops Q (o :: rest) a w:=by
 obtain ⟨v',w',hrun,h2,h3⟩:=app_ints w o.type B v n ys hown oa c xs hr hn hB
 refine wpList_plain hgd fun K hK=>?_
 unfold Oper.wp execOp
 simp only [ho,resolve,invoke,builtin,Sem.run_bind,Sem.run_pure,Result.andThen_ok,List.map_toArray,List.map_cons,List.map_nil,hs,hx,hrun]
 exact hK _ _ (h v' w' h2 h3)
end Go.Proofs.YtcaieniddnhkbaaGreatDoor
