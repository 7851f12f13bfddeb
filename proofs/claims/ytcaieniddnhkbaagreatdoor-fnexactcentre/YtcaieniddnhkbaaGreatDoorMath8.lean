/- Chapter 8: what a centre gives, as plain data. -/
import Derived.Test.YtcaieniddnhkbaaGreatDoorSp8e
import Derived.Test.YtcaieniddnhkbaaGreatDoorFar
import Derived.Test.YtcaieniddnhkbaaGreatDoorRdT
import Derived.Test.YtcaieniddnhkbaaGreatDoorMeet8
import Derived.Test.YtcaieniddnhkbaaGreatDoorReg
import Derived.Lib.ReflectliteSwap
import Derived.Laws.ResultCell
set_option linter.unusedVariables false
set_option maxRecDepth 100000
namespace Go.Proofs.YtcaieniddnhkbaaGreatDoor
open Go Go.RowKit Own Var Term
structure Gd where
 cl:Int
 sv:Int
 key:Int
 a:Int
 b:Int
 e:Int
 P:List Int
 V:List Int
 fk:Int
 bk:Int
 nonce:Int
 kind:Int
 by':Int
 par:Int
 ev:Int
abbrev Gr:=Except Int Gd
def Gd.event (g:Gd) (realm:Int):Ev:=⟨g.kind,realm,g.by',g.cl,g.sv,g.key,g.par,g.ev,g.a,g.b,g.e⟩
def Gd.tick (g:Gd):ByteArray:=shT g.cl g.sv g.key g.a g.b g.e g.P g.V g.fk
def Gd.grant (g:Gd):ByteArray:=shG g.key g.sv g.nonce g.a g.b g.e g.bk
def toR (realm:Int):Gr→Rp
 | .error c=>failR c
 | .ok g=>replyR g.nonce g.tick g.grant (g.event realm)
def lgG (c:Cf) (realm now fresh p nonce:Int) (pre:ByteArray):Gr :=
 if roV c p=realm then
  (if (lgIn p pre).length=2∧(lgIn p pre).getD 0 0=8 then
   (if c.k < apV now ((lgIn p pre).getD 1 0) then .error 3 else if 100000 < now+50 then .error 4 else .ok ⟨p,10+realm,fresh,7,255,now+50,[],[],ckV realm,pkV p,nonce,1,p,0,0⟩)
   else .error 2)
 else .error 1
theorem lgR_is (c:Cf) (realm now fresh p nonce:Int) (pre:ByteArray):lgR c realm now fresh p nonce pre=toR realm (lgG c realm now fresh p nonce pre):=by
 unfold lgR lgG
 by_cases h0:roV c p=realm
 ·rw [if_pos h0,if_pos h0]
  by_cases h1:(lgIn p pre).length=2∧(lgIn p pre).getD 0 0=8
  ·rw [if_pos h1,if_pos h1]
   by_cases h2:c.k < apV now ((lgIn p pre).getD 1 0)
   ·rw [if_pos h2,if_pos h2];rfl
   ·rw [if_neg h2,if_neg h2]
    by_cases h3:100000 < now+50
    ·rw [if_pos h3,if_pos h3];rfl
    ·rw [if_neg h3,if_neg h3];rfl
  ·rw [if_neg h1,if_neg h1];rfl
 ·rw [if_neg h0,if_neg h0];rfl
def shOk (realm:Int) (s:ByteArray) (key:Int):Bool:=rtK s key && decide (rtN s key 1=10+realm)
def lkOk (c:Cf) (realm:Int) (s:ByteArray) (q:Int):Bool:=decide ((q,realm)∈c.L) && shOk realm s (lkV q realm)
def shK (c:Cf) (realm:Int) (s:ByteArray):Int :=
 if shOk realm s (ckV realm) then ckV realm else if lkOk c realm s 0 then lkV 0 realm else if lkOk c realm s 1 then lkV 1 realm else if lkOk c realm s 2 then lkV 2 realm else -1
def shF (c:Cf) (realm:Int) (s:ByteArray):Int :=
 if shOk realm s (ckV realm) then -1 else if lkOk c realm s 0 then 0 else if lkOk c realm s 1 then 1 else if lkOk c realm s 2 then 2 else -1
def shB (c:Cf) (realm:Int) (s:ByteArray):Bool:=rtK s (shK c realm s)
def shP (c:Cf) (realm:Int) (s:ByteArray):List Int:=rtP s (shK c realm s)++(if shF c realm s=-1 then [] else [shF c realm s])
def dgG (c:Cf) (realm now fresh target nonce cl key wa wb we:Int) (ev:ByteArray):Gr :=
 if btw (cl - 3) 0 2=true∧roV c cl=realm∧roV c (target+3)=realm then
  (if rtK ev (pkV cl)=true∧rtN ev (pkV cl) 1=cl - 3 then
   (if rtN ev (pkV cl) 5 < now then .error 4
    else if (cl - 3,target)∈c.X∧(rtV ev (pkV cl)).length≠4 then
     .ok ⟨rtN ev (pkV cl) 0,target,fresh,mA (rtN ev (pkV cl) 3) (rtN ev (pkV cl) 4) (rtN ev (pkV cl) 5) wa wb we,mB (rtN ev (pkV cl) 3) (rtN ev (pkV cl) 4) (rtN ev (pkV cl) 5) wa wb we,mC (rtN ev (pkV cl) 3) (rtN ev (pkV cl) 4) (rtN ev (pkV cl) 5) wa wb we,rtP ev (pkV cl),rtV ev (pkV cl)++[cl - 3],pkV (target+3),key,nonce,4,cl,key,rtN ev (pkV cl) 2⟩
    else .error 6)
   else .error 1)
 else .error 6
def hoG (c:Cf) (realm fresh target nonce cl key a b e wa wb we:Int) (P V:List Int):Gr :=
 if roV c (target+3)=realm then .ok ⟨cl,target,fresh,mA a b e wa wb we,mB a b e wa wb we,mC a b e wa wb we,P,V,pkV (target+3),key,nonce,2,cl,key,0⟩
 else if nhV c realm (roV c (target+3))=-1 then .error 5
 else .ok ⟨cl,10+nhV c realm (roV c (target+3)),fresh,mA a b e wa wb we,mB a b e wa wb we,mC a b e wa wb we,P,V,lkV realm (nhV c realm (roV c (target+3))),key,nonce,3,cl,key,0⟩
def ckC (k now cl key e:Int) (n:Nat) (au:ByteArray):Int :=
 if raK au key=true∧raV au key 1=cl then (if k < apV now (raV au key 2) then 3 else if e < now then 4 else if 6 < n then 5 else 0) else 2
def askG (c:Cf) (realm now fresh target nonce:Int) (tk au rs ev:ByteArray):Gr :=
 if btw target 0 2=true∧rdK (numsR rs).1=true∧shB c realm tk=true then
  (if ckC c.k now (rtN tk (shK c realm tk) 0) (rtN tk (shK c realm tk) 2) (rtN tk (shK c realm tk) 5) (shP c realm tk).length au=0 then
   (if ev=atomT ⟨#[]⟩ then hoG c realm fresh target nonce (rtN tk (shK c realm tk) 0) (rtN tk (shK c realm tk) 2) (rtN tk (shK c realm tk) 3) (rtN tk (shK c realm tk) 4) (rtN tk (shK c realm tk) 5) (rdA (numsR rs).1) (rdB (numsR rs).1) (rdC (numsR rs).1) (shP c realm tk) (rtV tk (shK c realm tk))
    else dgG c realm now fresh target nonce (rtN tk (shK c realm tk) 0) (rtN tk (shK c realm tk) 2) (rdA (numsR rs).1) (rdB (numsR rs).1) (rdC (numsR rs).1) ev)
   else .error (ckC c.k now (rtN tk (shK c realm tk) 0) (rtN tk (shK c realm tk) 2) (rtN tk (shK c realm tk) 5) (shP c realm tk).length au))
 else .error 1
def cenOk (c:Cf) (realm now fresh:Int):Bool:=confB c && (btw realm 0 2 && (inB now 100000 && (decide (101≤fresh) && decide (fresh≤1000000))))
def reqN (req:ByteArray):List Int:=(numsR ((partsR req).1.getD 0 ⟨#[]⟩)).1
def reqP (req:ByteArray) (i:Nat):ByteArray:=(partsR req).1.getD i ⟨#[]⟩
def cenG (c:Cf) (realm now fresh:Int) (req:ByteArray):Gr :=
 if cenOk c realm now fresh=true∧(reqN req).length=3∧(reqN req).getD 2 0≤1000000 then
  (if (reqN req).getD 0 0=1∧(partsR req).1.length=2 then lgG c realm now fresh ((reqN req).getD 1 0) ((reqN req).getD 2 0) (reqP req 1)
   else if (reqN req).getD 0 0=2∧(partsR req).1.length=5 then askG c realm now fresh ((reqN req).getD 1 0) ((reqN req).getD 2 0) (reqP req 1) (reqP req 2) (reqP req 3) (reqP req 4)
   else .error 1)
 else .error 1
/-! One key alone opens a ticket -/
theorem rt_open {s:ByteArray} {k:Int} (h:rtK s k=true):(openR s k).2=true:=by
 cases h2:(openR s k).2 with
 | true=>rfl
 | false =>
  exfalso
  have e:=openR_no s k h2
  rw [rtK_not (by rw [e];unfold partsR;rw [rk_nil];simp)] at h
  cases h
theorem rt_one {s:ByteArray} {k q:Int} (h:rtK s k=true) (g:rtK s q=true):k=q:=by
 have h1:=rt_open h
 have h2:=rt_open g
 unfold openR at h1 h2
 cases hr:rk s 115 with
 | none=>rw [hr] at h1;cases h1
 | some p =>
  obtain ⟨n,t⟩:=p
  rw [hr] at h1 h2
  dsimp only at h1 h2
  by_cases e1:(n:Int)=k
  ·by_cases e2:(n:Int)=q
   ·exact e1.symm.trans e2
   ·rw [if_neg e2] at h2;cases h2
  ·rw [if_neg e1] at h1;cases h1
theorem rt_neg (s:ByteArray):rtK s (-1)=false:=by
 cases h:rtK s (-1) with
 | false=>rfl
 | true =>
  exfalso
  have h1:=rt_open h
  unfold openR at h1
  cases hr:rk s 115 with
  | none=>rw [hr] at h1;cases h1
  | some p =>
   obtain ⟨n,t⟩:=p
   rw [hr] at h1
   dsimp only at h1
   rw [if_neg (by omega)] at h1
   cases h1
/-! What is shown, found link by link -/
theorem lk_ck {c:Cf} {realm q:Int} {s:ByteArray} (hr:0≤realm∧realm≤2) (h:rtK s (ckV realm)=true):rtK s (lkV q realm)=false:=by
 cases h2:rtK s (lkV q realm) with
 | false=>rfl
 | true =>
  exfalso
  have e:=rt_one h h2
  have hb:btw realm 0 2=true:=(btw_iff _ _ _).2 ⟨hr.1,hr.2⟩
  unfold ckV lkV at e
  rw [hb] at e
  cases hq:btw q 0 2 with
  | false=>rw [hq] at e;simp at e;omega
  | true =>
   have:=(btw_iff _ _ _).1 hq
   rw [hq] at e;simp at e;omega
theorem lk_one {realm p q:Int} {s:ByteArray} (hr:0≤realm∧realm≤2) (hp:0≤p∧p≤2) (hq:0≤q∧q≤2) (h:rtK s (lkV p realm)=true) (h2:rtK s (lkV q realm)=true):p=q:=by
 have e:=rt_one h h2
 unfold lkV at e
 rw [(btw_iff _ _ _).2 ⟨hr.1,hr.2⟩,(btw_iff p 0 2).2 ⟨hp.1,hp.2⟩,(btw_iff q 0 2).2 ⟨hq.1,hq.2⟩] at e
 simp at e
 omega
theorem sh_own {c:Cf} {realm:Int} {s:ByteArray} (h:shOk realm s (ckV realm)=true):shK c realm s=ckV realm∧shF c realm s=-1∧shB c realm s=true:=by
 have h1:shK c realm s=ckV realm:=by unfold shK;rw [if_pos h]
 refine ⟨h1,by unfold shF;rw [if_pos h],?_⟩
 unfold shB
 rw [h1]
 unfold shOk at h
 rw [Bool.and_eq_true] at h
 exact h.1
theorem sh_none {c:Cf} {realm:Int} {s:ByteArray} (h:shOk realm s (ckV realm)=false) (h0:lkOk c realm s 0=false) (h1:lkOk c realm s 1=false) (h2:lkOk c realm s 2=false):shK c realm s=-1∧shF c realm s=-1∧shB c realm s=false:=by
 have e:shK c realm s=-1:=by unfold shK;rw [h,h0,h1,h2];rfl
 exact ⟨e,by unfold shF;rw [h,h0,h1,h2];rfl,by unfold shB;rw [e];exact rt_neg s⟩
theorem sh_link {c:Cf} {realm q:Int} {s:ByteArray} (hr:0≤realm∧realm≤2) (hq:0≤q∧q≤2) (hm:(q,realm)∈c.L) (h:shOk realm s (lkV q realm)=true):shK c realm s=lkV q realm∧shF c realm s=q∧shB c realm s=true:=by
 have hk:rtK s (lkV q realm)=true:=by unfold shOk at h;rw [Bool.and_eq_true] at h;exact h.1
 have h0:shOk realm s (ckV realm)=false:=by
  unfold shOk
  cases h1:rtK s (ckV realm) with
  | false=>rfl
  | true=>rw [lk_ck (c:=c) hr h1] at hk;cases hk
 have hl:lkOk c realm s q=true:=by unfold lkOk;rw [h,decide_eq_true hm];rfl
 have hn:∀ p,0≤p∧p≤2→p≠q→lkOk c realm s p=false:=by
  intro p hp hne
  cases h1:lkOk c realm s p with
  | false=>rfl
  | true =>
   exfalso
   unfold lkOk shOk at h1
   rw [Bool.and_eq_true,Bool.and_eq_true] at h1
   exact hne (lk_one hr hp hq h1.2.1 hk)
 have key:shK c realm s=lkV q realm∧shF c realm s=q:=by
  unfold shK shF
  rw [h0]
  have:q=0 ∨ q=1 ∨ q=2:=by omega
  rcases this with rfl | rfl | rfl
  ·rw [hl];exact ⟨rfl,rfl⟩
  ·rw [hn 0 (by omega) (by omega),hl];exact ⟨rfl,rfl⟩
  ·rw [hn 0 (by omega) (by omega),hn 1 (by omega) (by omega),hl];exact ⟨rfl,rfl⟩
 exact ⟨key.1,key.2,by unfold shB;rw [key.1];exact hk⟩
end Go.Proofs.YtcaieniddnhkbaaGreatDoor
set_option maxRecDepth 100000
namespace Go.Proofs.YtcaieniddnhkbaaGreatDoor
open Go Go.RowKit Own Var Term
theorem Blk.sets' {g:Nat}:∀ (vs us xs:List Value) (W:World),Blk g (xs++us) W→vs.length≤us.length→Blk g (xs++vs++us.drop vs.length) (W.setCells g xs.length vs)
 | [],us,xs,W,h,e=>by simpa [World.setCells] using h
 | v :: vs,[],xs,W,h,e=>by simp at e
 | v :: vs,u :: us,xs,W,h,e=>by
  have h1:=h.set xs.length v
  rw [show (xs++u :: us).set xs.length v=(xs++[v])++us by simp] at h1
  have h2:=Blk.sets' vs us (xs++[v]) _ h1 (by simpa using e)
  rw [List.length_append] at h2
  simpa [World.setCells] using h2
theorem Blk.sets {g:Nat} {us:List Value} {W:World} (h:Blk g us W) (vs:List Value) (e:us.length=vs.length):Blk g vs (W.setCells g 0 vs):=by
 have:=Blk.sets' vs us [] W h (by omega)
 rw [List.drop_eq_nil_of_le (by omega)] at this
 simpa using this
theorem Blk.part {g:Nat} {us:List Value} {W:World} (h:Blk g us W) (o:Nat) (vs ws:List Value) (e:o+vs.length≤us.length) (hw:us.take o++vs++us.drop (o+vs.length)=ws):Blk g ws (W.setCells g o vs):=by
 have:=Blk.sets' vs (us.drop o) (us.take o) W (by rw [List.take_append_drop];exact h) (by rw [List.length_drop];omega)
 rw [List.length_take,Nat.min_eq_left (by omega),List.drop_drop] at this
 rw [← hw]
 exact this
theorem Blk.farS {g q:Nat} {us:List Value} (hn:q≠g):∀ (vs:List Value) (i:Nat) (W:World),Blk g us W→Blk g us (W.setCells q i vs)
 | [],i,W,h=>h
 | v :: vs,i,W,h=>Blk.farS hn vs (i+1) _ (h.far hn i v)
theorem below_sets {m g:Nat} {w:World} (hg:m≤g):∀ (vs:List Value) (i:Nat) (W:World),Below m w W→Below m w (W.setCells g i vs)
 | [],i,W,h=>h
 | v :: vs,i,W,h=>below_sets hg vs (i+1) _ (h.setCell (by exact hg) v)
structure RF (lo:Nat) (w:World) (a:Option Addr) (xs:List Int):Prop where
 row:RowAt (Value.int .i64) w a xs
 far:∀ p:Addr,a=some p→lo≤p.block
theorem RF.later {lo:Nat} {w w':World} {a:Option Addr} {xs:List Int} (h:RF lo w a xs) (hb:Below w.heap.size w w'):RF lo w' a xs:=⟨h.row.later hb,h.far⟩
theorem RF.mono {lo lo':Nat} {w:World} {a:Option Addr} {xs:List Int} (h:RF lo w a xs) (hl:lo'≤lo):RF lo' w a xs:=⟨h.row,fun p e=>Nat.le_trans hl (h.far p e)⟩
theorem RF.set {lo:Nat} {w:World} {a:Option Addr} {xs:List Int} (h:RF lo w a xs) (q i:Nat) (u:Value) (hq:q < lo):RF lo (w.setCell ⟨q,i,none⟩ u) a xs :=
 ⟨h.row.set q i u (fun p e=>by have:=h.far p e;omega),h.far⟩
theorem RF.sets {lo q:Nat} {a:Option Addr} {xs:List Int} (hq:q < lo):∀ (vs:List Value) (i:Nat) (w:World),RF lo w a xs→RF lo (w.setCells q i vs) a xs
 | [],i,w,h=>h
 | v :: vs,i,w,h=>RF.sets hq vs (i+1) _ (h.set q i v hq)
theorem RF.drew {lo:Nat} {w:World} {a:Option Addr} {xs:List Int} (h:RF lo w a xs):RF lo w.drew a xs:=⟨h.row,h.far⟩
theorem RF.none (lo:Nat) (w:World):RF lo w none []:=⟨row_none _ _,fun p e=>by cases e⟩
theorem RF.own {base n c:Nat} {w:World} {a:Option Addr} {xs:List Int} (h:w.ownsRow base 3 1 (.slice a n c) n (intV xs)):RF base w a xs:=by
 refine ⟨own_rowAt h,?_⟩
 intro p e
 subst e
 exact (own_in h p.block rfl).1
/-! The laws of a walk -/
theorem ldB {P:Program} (ty:TypeId) (ie:TypeInfo) (hie:P.info? ty=some ie) (hagg:∀ w,(isAgg ty).run P w=.ok true w) {g o:Nat} {us:List Value} (vs:List Value) {w:World} (h:Blk g us w) (hs:vs.length=ie.size) (hv:(us.drop o).take vs.length=vs) :
  (loadVar ty ⟨g,o,none⟩).run P w=.ok (.agg vs.toArray) w:=by
 refine Go.Lib.rl_loadVar_cells ty ie hie hagg g o vs hs w ?_
 intro k v e
 rw [← hv] at e
 rw [List.getElem?_take] at e
 split at e
 ·rw [List.getElem?_drop] at e
  exact (h.out (o+k) v e).1
 ·cases e
theorem stB {P:Program} (ty:TypeId) (ie:TypeInfo) (hie:P.info? ty=some ie) {g o:Nat} {us:List Value} (vs:List Value) {w:World} (h:Blk g us w) (hs:vs.length=ie.size) (ho:o+vs.length≤us.length) (h1:vs.all (·.oneCell')=true) :
  (storeVar ty ⟨g,o,none⟩ (.agg vs.toArray)).run P w=.ok () (w.setCells g o vs):=by
 refine Go.Lib.rl_storeVar_cells ty ie hie g o vs hs (List.all_eq_true.1 h1) w ?_ ?_
 ·intro k hk
  rw [(h.out (o+k) us[o+k] (List.getElem?_eq_getElem (by omega))).1]
  rfl
 ·intro k hk
  exact (h.out (o+k) us[o+k] (List.getElem?_eq_getElem (by omega))).2
theorem wpList_ldB {P:Program} {ops:Array Oper} {rest:List Oper} {o:Oper} {a:Act} {w:World} {Q:Exit→Act→World→Prop} (ty:TypeId) (x:Operand) (g off:Nat) (us vs:List Value) (ie:TypeInfo) (hie:P.info? ty=some ie) (hagg:∀ w,(isAgg ty).run P w=.ok true w) (h:Blk g us w) (hs:vs.length=ie.size) (hv:(us.drop off).take vs.length=vs)
  (hgd:o.guard=none) (ho:o.op=.load ty x) (hx:a.eval x=.pointer (some ⟨g,off,none⟩))
  (hn:wpList P ops Q rest (a.put o.dst (.agg vs.toArray)) w):wpList P ops Q (o :: rest) a w:=by
 refine wpList_plain hgd fun K hK=>?_
 unfold Oper.wp execOp
 simp only [ho,hx,Instr.loadAt,Instr.sureAddr,Sem.run_bind,Sem.run_pure,Result.andThen_ok,ldB ty ie hie hagg vs h hs hv]
 exact hK _ _ hn
theorem wpList_stB {P:Program} {ops:Array Oper} {rest:List Oper} {o:Oper} {a:Act} {w:World} {Q:Exit→Act→World→Prop} (ty:TypeId) (x y:Operand) (g off:Nat) (us vs:List Value) (ie:TypeInfo) (hie:P.info? ty=some ie) (h:Blk g us w) (hs:vs.length=ie.size) (hl:off+vs.length≤us.length) (h1:vs.all (·.oneCell')=true)
  (hgd:o.guard=none) (ho:o.op=.store ty x y) (hx:a.eval x=.pointer (some ⟨g,off,none⟩)) (hy:a.eval y=.agg vs.toArray)
  (hn:wpList P ops Q rest (a.put o.dst undef) (w.setCells g off vs)):wpList P ops Q (o :: rest) a w:=by
 refine wpList_plain hgd fun K hK=>?_
 unfold Oper.wp execOp
 simp only [ho,hx,hy,Instr.storeAt,Instr.sureAddr,Sem.run_bind,Sem.run_pure,Result.andThen_ok,stB ty ie hie vs h hs hl h1]
 exact hK _ _ hn
theorem res_B2 {P:Program} {fn:Func} {p x:Tmp} {ty:TypeId} (hres:fn.results=#[.cell p ty,.tmp x]) (tmps:Array Value) (w:World) (g:Nat) (vs:List Value) (u0:Value) (ie:TypeInfo) (hie:P.info? ty=some ie) (hagg:∀ w,(isAgg ty).run P w=.ok true w) (h:Blk g vs w) (hs:vs.length=ie.size) (hx:tmps.getD x undef=u0) (hp:tmps.getD p undef=.pointer (some ⟨g,0,none⟩)) :
  (results fn tmps).run P w=.ok (.tuple #[.agg vs.toArray,u0]) w:=by
 have hp':tmps[p]?.getD undef=.pointer (some ⟨g,0,none⟩):=by simpa using hp
 have hx':tmps[x]?.getD undef=u0:=by simpa using hx
 have hl:=ldB (P:=P) ty ie hie hagg (o:=0) vs h hs (by simp)
 simp [results,hres,hp',hx',asAddr,hl]
theorem res_B1 {P:Program} {fn:Func} {p:Tmp} {ty:TypeId} (hres:fn.results=#[.cell p ty]) (tmps:Array Value) (w:World) (g:Nat) (vs:List Value) (ie:TypeInfo) (hie:P.info? ty=some ie) (hagg:∀ w,(isAgg ty).run P w=.ok true w) (h:Blk g vs w) (hs:vs.length=ie.size) (hp:tmps.getD p undef=.pointer (some ⟨g,0,none⟩)) :
  (results fn tmps).run P w=.ok (.agg vs.toArray) w:=by
 have hp':tmps[p]?.getD undef=.pointer (some ⟨g,0,none⟩):=by simpa using hp
 have hl:=ldB (P:=P) ty ie hie hagg (o:=0) vs h hs (by simp)
 simp [results,hres,hp',asAddr,hl]
/-! The types of this program -/
theorem info_gift:∃ ie,Tryz.prog.info? 73=some ie∧ie.size=22:=by
 cases h:Tryz.prog.info? 73 with
 | none=>exact absurd h (by have:(Tryz.prog.info? 73).isSome=true:=(by kernel_rfl);rw [Option.isSome_iff_ne_none] at this;exact this)
 | some ie =>
  refine ⟨ie,rfl,?_⟩
  have:(Tryz.prog.info? 73).map (·.size)=some 22:=by kernel_rfl
  rw [h] at this
  exact Option.some.inj this
theorem info_tick:∃ ie,Tryz.prog.info? 43=some ie∧ie.size=8:=by
 cases h:Tryz.prog.info? 43 with
 | none=>exact absurd h (by have:(Tryz.prog.info? 43).isSome=true:=(by kernel_rfl);rw [Option.isSome_iff_ne_none] at this;exact this)
 | some ie =>
  refine ⟨ie,rfl,?_⟩
  have:(Tryz.prog.info? 43).map (·.size)=some 8:=by kernel_rfl
  rw [h] at this
  exact Option.some.inj this
theorem info_ev:∃ ie,Tryz.prog.info? 33=some ie∧ie.size=11:=by
 cases h:Tryz.prog.info? 33 with
 | none=>exact absurd h (by have:(Tryz.prog.info? 33).isSome=true:=(by kernel_rfl);rw [Option.isSome_iff_ne_none] at this;exact this)
 | some ie =>
  refine ⟨ie,rfl,?_⟩
  have:(Tryz.prog.info? 33).map (·.size)=some 11:=by kernel_rfl
  rw [h] at this
  exact Option.some.inj this
theorem info_reply:∃ ie,Tryz.prog.info? 35=some ie∧ie.size=13:=by
 cases h:Tryz.prog.info? 35 with
 | none=>exact absurd h (by have:(Tryz.prog.info? 35).isSome=true:=(by kernel_rfl);rw [Option.isSome_iff_ne_none] at this;exact this)
 | some ie =>
  refine ⟨ie,rfl,?_⟩
  have:(Tryz.prog.info? 35).map (·.size)=some 13:=by kernel_rfl
  rw [h] at this
  exact Option.some.inj this
theorem ag73 (w:World):(isAgg 73).run Tryz.prog w=.ok true w:=Tryz.isAgg73 w
theorem ag43 (w:World):(isAgg 43).run Tryz.prog w=.ok true w:=Tryz.isAgg43 w
theorem ag35 (w:World):(isAgg 35).run Tryz.prog w=.ok true w:=Tryz.isAgg35 w
end Go.Proofs.YtcaieniddnhkbaaGreatDoor
