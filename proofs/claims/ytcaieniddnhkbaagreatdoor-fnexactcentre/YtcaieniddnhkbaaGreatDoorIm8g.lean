/- Chapter 8: a ticket handed on. -/
import Derived.Test.YtcaieniddnhkbaaGreatDoorAb
import Derived.Test.YtcaieniddnhkbaaGreatDoorIm8c
import Derived.Test.YtcaieniddnhkbaaGreatDoorFar
set_option linter.unusedVariables false
set_option maxRecDepth 100000
namespace Go.Proofs.YtcaieniddnhkbaaGreatDoor
open Go Go.RowKit Own Var Term
theorem tK {P:Program} {ops:Array Oper} {Q:Exit → Act → World → Prop} {md:Region.Mode} {S:World → Prop} (i d:Nat) {oi:Oper} {fuel:Nat} {listed:Array Bool} {a:Act} {w:World} (hi:ops[i]?=some oi) (v:Value) (hS:S w)
  (hy:∀ w,S w → (execOp a.eval oi).run P w=.ok (.value v) w) (h:wpAnyH P md ops Q S fuel (listed.setIfInBounds i true) (a.put (some d) v) w)
  (hd:oi.dst=some d:=by rfl) (hb:(Region.noSelect ops && (Region.free md ops listed i && (Region.ready md ops listed).contains i))=true:=by kernel_rfl)
  (hQ:∀ c a w,Q (.panic c) (a.put (some d) v) w → Q (.panic c) a w:=by exact fun _ _ _ h=>h) (hw:Region.wanted oi (yielded ops a.tmps)=true:=by rfl):wpAnyH P md ops Q S (fuel + 1) listed a w:=tk i d hi v hS hy h hd hb hQ hw
theorem wpList_st1 {P:Program} {ops:Array Oper} {rest:List Oper} {o:Oper} {a:Act} {w:World} {Q:Exit→Act→World→Prop} (ty:TypeId) (x y:Operand) (g off:Nat) (us:List Value) (v:Value) (ie:TypeInfo) (hie:P.info? ty=some ie) (h:Blk g us w) (hs:ie.size=1) (hl:off < us.length) (h1:v.oneCell'=true)
  (hgd:o.guard=none) (ho:o.op=.store ty x y) (hx:a.eval x=.pointer (some ⟨g,off,none⟩)) (hy:a.eval y=v)
  (hn:wpList P ops Q rest (a.put o.dst undef) (w.setCells g off [v])):wpList P ops Q (o :: rest) a w:=by
 have hst:=Go.Lib.rl_storeVar_one (P:=P) ty ie hie hs ⟨g,off,none⟩ v us[off] h1 w (h.out off us[off] (List.getElem?_eq_getElem hl)).1 (h.out off us[off] (List.getElem?_eq_getElem hl)).2
 refine wpList_plain hgd fun K hK=>?_
 unfold Oper.wp execOp
 simp only [ho,hx,hy,Instr.storeAt,Instr.sureAddr,Sem.run_bind,Sem.run_pure,Result.andThen_ok,hst]
 exact hK _ _ hn
theorem info_int:∃ ie,Tryz.prog.info? 3=some ie∧ie.size=1:=by
 cases h:Tryz.prog.info? 3 with
 | none=>exact absurd h (by have:(Tryz.prog.info? 3).isSome=true:=(by kernel_rfl);rw [Option.isSome_iff_ne_none] at this;exact this)
 | some ie =>
  refine ⟨ie,rfl,?_⟩
  have:(Tryz.prog.info? 3).map (·.size)=some 1:=by kernel_rfl
  rw [h] at this
  exact Option.some.inj this
theorem info_rest:∃ ie,Tryz.prog.info? 31=some ie∧ie.size=3:=by
 cases h:Tryz.prog.info? 31 with
 | none=>exact absurd h (by have:(Tryz.prog.info? 31).isSome=true:=(by kernel_rfl);rw [Option.isSome_iff_ne_none] at this;exact this)
 | some ie =>
  refine ⟨ie,rfl,?_⟩
  have:(Tryz.prog.info? 31).map (·.size)=some 3:=by kernel_rfl
  rw [h] at this
  exact Option.some.inj this
theorem hopN_range (h:Nat→Nat→Bool) (f t:Nat) (hf:f < 3) (ht:t < 3):hopN h f t=-1 ∨ (0≤hopN h f t∧hopN h f t≤2):=by
 unfold hopN
 repeat' split
 all_goals first | exact Or.inl rfl | (right;constructor <;> omega) | omega
theorem nh_range (c:Cf) (p q:Int):nhV c p q=-1 ∨ (0≤nhV c p q∧nhV c p q≤2):=by
 unfold nhV
 split
 ·rename_i h
  simp only [Bool.and_eq_true] at h
  have h1:=(btw_iff _ _ _).1 h.2.1
  have h2:=(btw_iff _ _ _).1 h.2.2
  exact hopN_range _ _ _ (by omega) (by omega)
 ·exact Or.inl rfl
set_option maxHeartbeats 6400000 in
theorem handOn_is (c:Cf) (realm now fresh target nonce:Int) (tk au rs ev:ByteArray) (x0 x1 x2 x3 x4 x5:Int) (pa:Option Addr) (P:List Int) (pc:Nat) (va:Option Addr) (V:List Int) (vc:Nat) (wa wb we:Int) (lo:Nat) (w:World) (C:CfAt c w) (K:CfOk c) (hr:0≤realm∧realm≤2) (ht:0≤target∧target≤2)
  (RP:RF lo w pa P) (RV:RF lo w va V) (hP:P.length≤100) (hV:V.length≤100) :
  Calls Tryz.prog 120 #[cenV c realm now fresh,.agg #[I target,I nonce,.string tk,.string au,.string rs,.string ev],.agg #[I x0,I x1,I x2,I x3,I x4,I x5,.slice pa P.length pc,.slice va V.length vc],.agg #[I wa,I wb,I we]] w fun en w'=>GRes lo (hoG c realm fresh target nonce x0 x2 x3 x4 x5 wa wb we P V) en w'∧Below w.heap.size w w':=by
 have KO:=K
 obtain ⟨ie,hie,hsz⟩:=info_gift
 obtain ⟨i3,hi3,hz3⟩:=info_rest
 obtain ⟨i1,hi1,hz1⟩:=info_int
 have BC:Below w.heap.size w (((((w.alloc (.cells #[.slice c.ua c.U.length c.uc,.slice c.sa c.S.length c.sc,.slice c.la c.L.length c.lc,.slice c.xa c.X.length c.xc,I c.k,I realm,I now,I fresh] 70)).alloc (.cells #[I target,I nonce,.string tk,.string au,.string rs,.string ev] 129)).alloc (.cells #[I x0,I x1,I x2,I x3,I x4,I x5,.slice pa P.length pc,.slice va V.length vc] 43)).alloc (.cells #[I wa,I wb,I we] 31)).alloc (.cells #[I 0,I 0,I 0,I 0,I 0,I 0,.slice none 0 0,.slice none 0 0,I 0,I 0,I 0,I 0,I 0,I 0,I 0,I 0,I 0,I 0,I 0,I 0,I 0,I 0] 73)):=(((((Below.refl _ _).alloc (by simp <;> omega) _).alloc (by simp <;> omega) _).alloc (by simp <;> omega) _).alloc (by simp <;> omega) _).alloc (by simp <;> omega) _
 have TC:Blk w.heap.size [.slice c.ua c.U.length c.uc,.slice c.sa c.S.length c.sc,.slice c.la c.L.length c.lc,.slice c.xa c.X.length c.xc,I c.k,I realm,I now,I fresh] (((((w.alloc (.cells #[.slice c.ua c.U.length c.uc,.slice c.sa c.S.length c.sc,.slice c.la c.L.length c.lc,.slice c.xa c.X.length c.xc,I c.k,I realm,I now,I fresh] 70)).alloc (.cells #[I target,I nonce,.string tk,.string au,.string rs,.string ev] 129)).alloc (.cells #[I x0,I x1,I x2,I x3,I x4,I x5,.slice pa P.length pc,.slice va V.length vc] 43)).alloc (.cells #[I wa,I wb,I we] 31)).alloc (.cells #[I 0,I 0,I 0,I 0,I 0,I 0,.slice none 0 0,.slice none 0 0,I 0,I 0,I 0,I 0,I 0,I 0,I 0,I 0,I 0,I 0,I 0,I 0,I 0,I 0] 73)):=by have h_:=(((((Blk.new w #[.slice c.ua c.U.length c.uc,.slice c.sa c.S.length c.sc,.slice c.la c.L.length c.lc,.slice c.xa c.X.length c.xc,I c.k,I realm,I now,I fresh] 70).alloc (by simp <;> omega) (.cells #[I target,I nonce,.string tk,.string au,.string rs,.string ev] 129)).alloc (by simp <;> omega) (.cells #[I x0,I x1,I x2,I x3,I x4,I x5,.slice pa P.length pc,.slice va V.length vc] 43)).alloc (by simp <;> omega) (.cells #[I wa,I wb,I we] 31)).alloc (by simp <;> omega) (.cells #[I 0,I 0,I 0,I 0,I 0,I 0,.slice none 0 0,.slice none 0 0,I 0,I 0,I 0,I 0,I 0,I 0,I 0,I 0,I 0,I 0,I 0,I 0,I 0,I 0] 73));simpa using h_
 have QC:Blk (w.heap.size+1) [I target,I nonce,.string tk,.string au,.string rs,.string ev] (((((w.alloc (.cells #[.slice c.ua c.U.length c.uc,.slice c.sa c.S.length c.sc,.slice c.la c.L.length c.lc,.slice c.xa c.X.length c.xc,I c.k,I realm,I now,I fresh] 70)).alloc (.cells #[I target,I nonce,.string tk,.string au,.string rs,.string ev] 129)).alloc (.cells #[I x0,I x1,I x2,I x3,I x4,I x5,.slice pa P.length pc,.slice va V.length vc] 43)).alloc (.cells #[I wa,I wb,I we] 31)).alloc (.cells #[I 0,I 0,I 0,I 0,I 0,I 0,.slice none 0 0,.slice none 0 0,I 0,I 0,I 0,I 0,I 0,I 0,I 0,I 0,I 0,I 0,I 0,I 0,I 0,I 0] 73)):=by have h_:=((((Blk.new (w.alloc (.cells #[.slice c.ua c.U.length c.uc,.slice c.sa c.S.length c.sc,.slice c.la c.L.length c.lc,.slice c.xa c.X.length c.xc,I c.k,I realm,I now,I fresh] 70)) #[I target,I nonce,.string tk,.string au,.string rs,.string ev] 129).alloc (by simp <;> omega) (.cells #[I x0,I x1,I x2,I x3,I x4,I x5,.slice pa P.length pc,.slice va V.length vc] 43)).alloc (by simp <;> omega) (.cells #[I wa,I wb,I we] 31)).alloc (by simp <;> omega) (.cells #[I 0,I 0,I 0,I 0,I 0,I 0,.slice none 0 0,.slice none 0 0,I 0,I 0,I 0,I 0,I 0,I 0,I 0,I 0,I 0,I 0,I 0,I 0,I 0,I 0] 73));simpa using h_
 have KC:Blk (w.heap.size+1+1) [I x0,I x1,I x2,I x3,I x4,I x5,.slice pa P.length pc,.slice va V.length vc] (((((w.alloc (.cells #[.slice c.ua c.U.length c.uc,.slice c.sa c.S.length c.sc,.slice c.la c.L.length c.lc,.slice c.xa c.X.length c.xc,I c.k,I realm,I now,I fresh] 70)).alloc (.cells #[I target,I nonce,.string tk,.string au,.string rs,.string ev] 129)).alloc (.cells #[I x0,I x1,I x2,I x3,I x4,I x5,.slice pa P.length pc,.slice va V.length vc] 43)).alloc (.cells #[I wa,I wb,I we] 31)).alloc (.cells #[I 0,I 0,I 0,I 0,I 0,I 0,.slice none 0 0,.slice none 0 0,I 0,I 0,I 0,I 0,I 0,I 0,I 0,I 0,I 0,I 0,I 0,I 0,I 0,I 0] 73)):=by have h_:=(((Blk.new ((w.alloc (.cells #[.slice c.ua c.U.length c.uc,.slice c.sa c.S.length c.sc,.slice c.la c.L.length c.lc,.slice c.xa c.X.length c.xc,I c.k,I realm,I now,I fresh] 70)).alloc (.cells #[I target,I nonce,.string tk,.string au,.string rs,.string ev] 129)) #[I x0,I x1,I x2,I x3,I x4,I x5,.slice pa P.length pc,.slice va V.length vc] 43).alloc (by simp <;> omega) (.cells #[I wa,I wb,I we] 31)).alloc (by simp <;> omega) (.cells #[I 0,I 0,I 0,I 0,I 0,I 0,.slice none 0 0,.slice none 0 0,I 0,I 0,I 0,I 0,I 0,I 0,I 0,I 0,I 0,I 0,I 0,I 0,I 0,I 0] 73));simpa using h_
 have RC:Blk (w.heap.size+1+1+1) [I wa,I wb,I we] (((((w.alloc (.cells #[.slice c.ua c.U.length c.uc,.slice c.sa c.S.length c.sc,.slice c.la c.L.length c.lc,.slice c.xa c.X.length c.xc,I c.k,I realm,I now,I fresh] 70)).alloc (.cells #[I target,I nonce,.string tk,.string au,.string rs,.string ev] 129)).alloc (.cells #[I x0,I x1,I x2,I x3,I x4,I x5,.slice pa P.length pc,.slice va V.length vc] 43)).alloc (.cells #[I wa,I wb,I we] 31)).alloc (.cells #[I 0,I 0,I 0,I 0,I 0,I 0,.slice none 0 0,.slice none 0 0,I 0,I 0,I 0,I 0,I 0,I 0,I 0,I 0,I 0,I 0,I 0,I 0,I 0,I 0] 73)):=by have h_:=((Blk.new (((w.alloc (.cells #[.slice c.ua c.U.length c.uc,.slice c.sa c.S.length c.sc,.slice c.la c.L.length c.lc,.slice c.xa c.X.length c.xc,I c.k,I realm,I now,I fresh] 70)).alloc (.cells #[I target,I nonce,.string tk,.string au,.string rs,.string ev] 129)).alloc (.cells #[I x0,I x1,I x2,I x3,I x4,I x5,.slice pa P.length pc,.slice va V.length vc] 43)) #[I wa,I wb,I we] 31).alloc (by simp <;> omega) (.cells #[I 0,I 0,I 0,I 0,I 0,I 0,.slice none 0 0,.slice none 0 0,I 0,I 0,I 0,I 0,I 0,I 0,I 0,I 0,I 0,I 0,I 0,I 0,I 0,I 0] 73));simpa using h_
 have UC:Blk (w.heap.size+1+1+1+1) [I 0,I 0,I 0,I 0,I 0,I 0,.slice none 0 0,.slice none 0 0,I 0,I 0,I 0,I 0,I 0,I 0,I 0,I 0,I 0,I 0,I 0,I 0,I 0,I 0] (((((w.alloc (.cells #[.slice c.ua c.U.length c.uc,.slice c.sa c.S.length c.sc,.slice c.la c.L.length c.lc,.slice c.xa c.X.length c.xc,I c.k,I realm,I now,I fresh] 70)).alloc (.cells #[I target,I nonce,.string tk,.string au,.string rs,.string ev] 129)).alloc (.cells #[I x0,I x1,I x2,I x3,I x4,I x5,.slice pa P.length pc,.slice va V.length vc] 43)).alloc (.cells #[I wa,I wb,I we] 31)).alloc (.cells #[I 0,I 0,I 0,I 0,I 0,I 0,.slice none 0 0,.slice none 0 0,I 0,I 0,I 0,I 0,I 0,I 0,I 0,I 0,I 0,I 0,I 0,I 0,I 0,I 0] 73)):=by have h_:=(Blk.new ((((w.alloc (.cells #[.slice c.ua c.U.length c.uc,.slice c.sa c.S.length c.sc,.slice c.la c.L.length c.lc,.slice c.xa c.X.length c.xc,I c.k,I realm,I now,I fresh] 70)).alloc (.cells #[I target,I nonce,.string tk,.string au,.string rs,.string ev] 129)).alloc (.cells #[I x0,I x1,I x2,I x3,I x4,I x5,.slice pa P.length pc,.slice va V.length vc] 43)).alloc (.cells #[I wa,I wb,I we] 31)) #[I 0,I 0,I 0,I 0,I 0,I 0,.slice none 0 0,.slice none 0 0,I 0,I 0,I 0,I 0,I 0,I 0,I 0,I 0,I 0,I 0,I 0,I 0,I 0,I 0] 73);simpa using h_
 have q1_:=KC.at 0 rfl
 have q2_:=KC.at 1 rfl
 have q3_:=KC.at 2 rfl
 have q4_:=KC.at 3 rfl
 have q5_:=KC.at 4 rfl
 have q6_:=KC.at 5 rfl
 have q7_:=KC.at 6 rfl
 have q8_:=KC.at 7 rfl
 have q9_:=QC.at 0 rfl
 have q10_:=QC.at 1 rfl
 have XA_:Below (((((w.alloc (.cells #[.slice c.ua c.U.length c.uc,.slice c.sa c.S.length c.sc,.slice c.la c.L.length c.lc,.slice c.xa c.X.length c.xc,I c.k,I realm,I now,I fresh] 70)).alloc (.cells #[I target,I nonce,.string tk,.string au,.string rs,.string ev] 129)).alloc (.cells #[I x0,I x1,I x2,I x3,I x4,I x5,.slice pa P.length pc,.slice va V.length vc] 43)).alloc (.cells #[I wa,I wb,I we] 31)).alloc (.cells #[I 0,I 0,I 0,I 0,I 0,I 0,.slice none 0 0,.slice none 0 0,I 0,I 0,I 0,I 0,I 0,I 0,I 0,I 0,I 0,I 0,I 0,I 0,I 0,I 0] 73)).heap.size (((((w.alloc (.cells #[.slice c.ua c.U.length c.uc,.slice c.sa c.S.length c.sc,.slice c.la c.L.length c.lc,.slice c.xa c.X.length c.xc,I c.k,I realm,I now,I fresh] 70)).alloc (.cells #[I target,I nonce,.string tk,.string au,.string rs,.string ev] 129)).alloc (.cells #[I x0,I x1,I x2,I x3,I x4,I x5,.slice pa P.length pc,.slice va V.length vc] 43)).alloc (.cells #[I wa,I wb,I we] 31)).alloc (.cells #[I 0,I 0,I 0,I 0,I 0,I 0,.slice none 0 0,.slice none 0 0,I 0,I 0,I 0,I 0,I 0,I 0,I 0,I 0,I 0,I 0,I 0,I 0,I 0,I 0] 73)) ((((((w.alloc (.cells #[.slice c.ua c.U.length c.uc,.slice c.sa c.S.length c.sc,.slice c.la c.L.length c.lc,.slice c.xa c.X.length c.xc,I c.k,I realm,I now,I fresh] 70)).alloc (.cells #[I target,I nonce,.string tk,.string au,.string rs,.string ev] 129)).alloc (.cells #[I x0,I x1,I x2,I x3,I x4,I x5,.slice pa P.length pc,.slice va V.length vc] 43)).alloc (.cells #[I wa,I wb,I we] 31)).alloc (.cells #[I 0,I 0,I 0,I 0,I 0,I 0,.slice none 0 0,.slice none 0 0,I 0,I 0,I 0,I 0,I 0,I 0,I 0,I 0,I 0,I 0,I 0,I 0,I 0,I 0] 73)).alloc (.cells #[I 0,I 0,I 0,I 0,I 0,I 0,.slice none 0 0,.slice none 0 0,I 0,I 0,I 0,I 0,I 0,I 0,I 0,I 0,I 0,I 0,I 0,I 0,I 0,I 0] 73)):=(Below.refl _ _).alloc (Nat.le_refl _) _
 have GC:Blk (((((w.alloc (.cells #[.slice c.ua c.U.length c.uc,.slice c.sa c.S.length c.sc,.slice c.la c.L.length c.lc,.slice c.xa c.X.length c.xc,I c.k,I realm,I now,I fresh] 70)).alloc (.cells #[I target,I nonce,.string tk,.string au,.string rs,.string ev] 129)).alloc (.cells #[I x0,I x1,I x2,I x3,I x4,I x5,.slice pa P.length pc,.slice va V.length vc] 43)).alloc (.cells #[I wa,I wb,I we] 31)).alloc (.cells #[I 0,I 0,I 0,I 0,I 0,I 0,.slice none 0 0,.slice none 0 0,I 0,I 0,I 0,I 0,I 0,I 0,I 0,I 0,I 0,I 0,I 0,I 0,I 0,I 0] 73)).heap.size [I 0,I 0,I 0,I 0,I 0,I 0,.slice none 0 0,.slice none 0 0,I 0,I 0,I 0,I 0,I 0,I 0,I 0,I 0,I 0,I 0,I 0,I 0,I 0,I 0] ((((((w.alloc (.cells #[.slice c.ua c.U.length c.uc,.slice c.sa c.S.length c.sc,.slice c.la c.L.length c.lc,.slice c.xa c.X.length c.xc,I c.k,I realm,I now,I fresh] 70)).alloc (.cells #[I target,I nonce,.string tk,.string au,.string rs,.string ev] 129)).alloc (.cells #[I x0,I x1,I x2,I x3,I x4,I x5,.slice pa P.length pc,.slice va V.length vc] 43)).alloc (.cells #[I wa,I wb,I we] 31)).alloc (.cells #[I 0,I 0,I 0,I 0,I 0,I 0,.slice none 0 0,.slice none 0 0,I 0,I 0,I 0,I 0,I 0,I 0,I 0,I 0,I 0,I 0,I 0,I 0,I 0,I 0] 73)).alloc (.cells #[I 0,I 0,I 0,I 0,I 0,I 0,.slice none 0 0,.slice none 0 0,I 0,I 0,I 0,I 0,I 0,I 0,I 0,I 0,I 0,I 0,I 0,I 0,I 0,I 0] 73)):=Blk.new _ _ _
 replace TC:=TC.later XA_ TC.lt
 replace QC:=QC.later XA_ QC.lt
 replace KC:=KC.later XA_ KC.lt
 replace RC:=RC.later XA_ RC.lt
 replace UC:=UC.later XA_ UC.lt
 replace BC:=BC.trans (XA_.mono BC.size)
 clear XA_
 replace GC:Blk (w.heap.size+1+1+1+1+1) [I 0,I 0,I 0,I 0,I 0,I 0,.slice none 0 0,.slice none 0 0,I 0,I 0,I 0,I 0,I 0,I 0,I 0,I 0,I 0,I 0,I 0,I 0,I 0,I 0] ((((((w.alloc (.cells #[.slice c.ua c.U.length c.uc,.slice c.sa c.S.length c.sc,.slice c.la c.L.length c.lc,.slice c.xa c.X.length c.xc,I c.k,I realm,I now,I fresh] 70)).alloc (.cells #[I target,I nonce,.string tk,.string au,.string rs,.string ev] 129)).alloc (.cells #[I x0,I x1,I x2,I x3,I x4,I x5,.slice pa P.length pc,.slice va V.length vc] 43)).alloc (.cells #[I wa,I wb,I we] 31)).alloc (.cells #[I 0,I 0,I 0,I 0,I 0,I 0,.slice none 0 0,.slice none 0 0,I 0,I 0,I 0,I 0,I 0,I 0,I 0,I 0,I 0,I 0,I 0,I 0,I 0,I 0] 73)).alloc (.cells #[I 0,I 0,I 0,I 0,I 0,I 0,.slice none 0 0,.slice none 0 0,I 0,I 0,I 0,I 0,I 0,I 0,I 0,I 0,I 0,I 0,I 0,I 0,I 0,I 0] 73)):=by have h_:=GC;simpa using h_
 obtain ⟨A1,hA1⟩:∃ Wz,(World.setCells ((((((w.alloc (.cells #[.slice c.ua c.U.length c.uc,.slice c.sa c.S.length c.sc,.slice c.la c.L.length c.lc,.slice c.xa c.X.length c.xc,I c.k,I realm,I now,I fresh] 70)).alloc (.cells #[I target,I nonce,.string tk,.string au,.string rs,.string ev] 129)).alloc (.cells #[I x0,I x1,I x2,I x3,I x4,I x5,.slice pa P.length pc,.slice va V.length vc] 43)).alloc (.cells #[I wa,I wb,I we] 31)).alloc (.cells #[I 0,I 0,I 0,I 0,I 0,I 0,.slice none 0 0,.slice none 0 0,I 0,I 0,I 0,I 0,I 0,I 0,I 0,I 0,I 0,I 0,I 0,I 0,I 0,I 0] 73)).alloc (.cells #[I 0,I 0,I 0,I 0,I 0,I 0,.slice none 0 0,.slice none 0 0,I 0,I 0,I 0,I 0,I 0,I 0,I 0,I 0,I 0,I 0,I 0,I 0,I 0,I 0] 73)) (w.heap.size+1+1+1+1+1) 0 [I x0,I x1,I x2,I x3,I x4,I x5,.slice pa P.length pc,.slice va V.length vc,I 0,I x2,I nonce,I 0,I 0,I x0,I 0,I 0,I 0,I x2,I 0,I 0,I 0,I 0])=Wz:=⟨_,rfl⟩
 have GC_:Blk (w.heap.size+1+1+1+1+1) [I x0,I x1,I x2,I x3,I x4,I x5,.slice pa P.length pc,.slice va V.length vc,I 0,I x2,I nonce,I 0,I 0,I x0,I 0,I 0,I 0,I x2,I 0,I 0,I 0,I 0] A1:=by rw [← hA1];exact GC.part 0 [I x0,I x1,I x2,I x3,I x4,I x5,.slice pa P.length pc,.slice va V.length vc,I 0,I x2,I nonce,I 0,I 0,I x0,I 0,I 0,I 0,I x2,I 0,I 0,I 0,I 0] _ (by simp) rfl
 have TC_:=hA1 ▸ Blk.farS (q:=(w.heap.size+1+1+1+1+1)) (by omega) [I x0,I x1,I x2,I x3,I x4,I x5,.slice pa P.length pc,.slice va V.length vc,I 0,I x2,I nonce,I 0,I 0,I x0,I 0,I 0,I 0,I x2,I 0,I 0,I 0,I 0] 0 _ TC
 have QC_:=hA1 ▸ Blk.farS (q:=(w.heap.size+1+1+1+1+1)) (by omega) [I x0,I x1,I x2,I x3,I x4,I x5,.slice pa P.length pc,.slice va V.length vc,I 0,I x2,I nonce,I 0,I 0,I x0,I 0,I 0,I 0,I x2,I 0,I 0,I 0,I 0] 0 _ QC
 have KC_:=hA1 ▸ Blk.farS (q:=(w.heap.size+1+1+1+1+1)) (by omega) [I x0,I x1,I x2,I x3,I x4,I x5,.slice pa P.length pc,.slice va V.length vc,I 0,I x2,I nonce,I 0,I 0,I x0,I 0,I 0,I 0,I x2,I 0,I 0,I 0,I 0] 0 _ KC
 have RC_:=hA1 ▸ Blk.farS (q:=(w.heap.size+1+1+1+1+1)) (by omega) [I x0,I x1,I x2,I x3,I x4,I x5,.slice pa P.length pc,.slice va V.length vc,I 0,I x2,I nonce,I 0,I 0,I x0,I 0,I 0,I 0,I x2,I 0,I 0,I 0,I 0] 0 _ RC
 have UC_:=hA1 ▸ Blk.farS (q:=(w.heap.size+1+1+1+1+1)) (by omega) [I x0,I x1,I x2,I x3,I x4,I x5,.slice pa P.length pc,.slice va V.length vc,I 0,I x2,I nonce,I 0,I 0,I x0,I 0,I 0,I 0,I x2,I 0,I 0,I 0,I 0] 0 _ UC
 have BC_:Below w.heap.size w A1:=by rw [← hA1];exact below_sets (g:=(w.heap.size+1+1+1+1+1)) (by omega) [I x0,I x1,I x2,I x3,I x4,I x5,.slice pa P.length pc,.slice va V.length vc,I 0,I x2,I nonce,I 0,I 0,I x0,I 0,I 0,I 0,I x2,I 0,I 0,I 0,I 0] 0 _ BC
 have GC0A1:=GC
 clear TC QC KC RC UC GC BC
 have TC:=TC_
 have QC:=QC_
 have KC:=KC_
 have RC:=RC_
 have UC:=UC_
 have GC:=GC_
 have BC:=BC_
 clear TC_ QC_ KC_ RC_ UC_ GC_ BC_
 have q11_:=TC.at 7 rfl
 obtain ⟨A2,hA2⟩:∃ Wz,(World.setCells A1 (w.heap.size+1+1+1+1+1) 2 [I fresh])=Wz:=⟨_,rfl⟩
 have GC_:Blk (w.heap.size+1+1+1+1+1) [I x0,I x1,I fresh,I x3,I x4,I x5,.slice pa P.length pc,.slice va V.length vc,I 0,I x2,I nonce,I 0,I 0,I x0,I 0,I 0,I 0,I x2,I 0,I 0,I 0,I 0] A2:=by rw [← hA2];exact GC.part 2 [I fresh] _ (by simp) rfl
 have TC_:=hA2 ▸ Blk.farS (q:=(w.heap.size+1+1+1+1+1)) (by omega) [I fresh] 2 _ TC
 have QC_:=hA2 ▸ Blk.farS (q:=(w.heap.size+1+1+1+1+1)) (by omega) [I fresh] 2 _ QC
 have KC_:=hA2 ▸ Blk.farS (q:=(w.heap.size+1+1+1+1+1)) (by omega) [I fresh] 2 _ KC
 have RC_:=hA2 ▸ Blk.farS (q:=(w.heap.size+1+1+1+1+1)) (by omega) [I fresh] 2 _ RC
 have UC_:=hA2 ▸ Blk.farS (q:=(w.heap.size+1+1+1+1+1)) (by omega) [I fresh] 2 _ UC
 have BC_:Below w.heap.size w A2:=by rw [← hA2];exact below_sets (g:=(w.heap.size+1+1+1+1+1)) (by omega) [I fresh] 2 _ BC
 have GC0A2:=GC
 clear TC QC KC RC UC GC BC
 have TC:=TC_
 have QC:=QC_
 have KC:=KC_
 have RC:=RC_
 have UC:=UC_
 have GC:=GC_
 have BC:=BC_
 clear TC_ QC_ KC_ RC_ UC_ GC_ BC_
 have q12_:=KC.at 3 rfl
 have q13_:=KC.at 4 rfl
 have q14_:=KC.at 5 rfl
 have q15_:=RC.at 0 rfl
 have q16_:=RC.at 1 rfl
 have q17_:=RC.at 2 rfl
 go_enter Tryz.func120,Tryz.ntmps120
 go_wp2_with (first | (refine wpList_stB 73 _ _ (w.heap.size+1+1+1+1+1) 0 _ [I x0,I x1,I x2,I x3,I x4,I x5,.slice pa P.length pc,.slice va V.length vc,I 0,I x2,I nonce,I 0,I 0,I x0,I 0,I 0,I 0,I x2,I 0,I 0,I 0,I 0] ie hie GC0A1 (by rw [hsz];rfl) (by simp) rfl rfl rfl rfl rfl ?_;try simp only [Act.put];rw [hA1]) | (refine wpList_st1 3 _ _ (w.heap.size+1+1+1+1+1) 2 _ (I fresh) i1 hi1 GC0A2 hz1 (by simp) rfl rfl rfl rfl rfl ?_;try simp only [Act.put];rw [hA2]))
 refine (implMeet_is x3 x4 x5 wa wb we _).mono ?_
 rintro en w3 ⟨rfl,hb⟩
 replace TC:=TC.later hb TC.lt
 replace QC:=QC.later hb QC.lt
 replace KC:=KC.later hb KC.lt
 replace RC:=RC.later hb RC.lt
 replace UC:=UC.later hb UC.lt
 replace GC:=GC.later hb GC.lt
 replace BC:=BC.trans (hb.mono BC.size)
 clear hb
 clear q1_ q2_ q3_ q4_ q5_ q6_ q7_ q8_ q9_ q10_ GC0A1 q11_ GC0A2 q12_ q13_ q14_ q15_ q16_ q17_ hA1 hA2
 obtain ⟨A3,hA3⟩:∃ Wz,(World.setCells w3 (w.heap.size+1+1+1+1+1) 3 [I (mA x3 x4 x5 wa wb we),I (mB x3 x4 x5 wa wb we),I (mC x3 x4 x5 wa wb we)])=Wz:=⟨_,rfl⟩
 have GC_:Blk (w.heap.size+1+1+1+1+1) [I x0,I x1,I fresh,I (mA x3 x4 x5 wa wb we),I (mB x3 x4 x5 wa wb we),I (mC x3 x4 x5 wa wb we),.slice pa P.length pc,.slice va V.length vc,I 0,I x2,I nonce,I 0,I 0,I x0,I 0,I 0,I 0,I x2,I 0,I 0,I 0,I 0] A3:=by rw [← hA3];exact GC.part 3 [I (mA x3 x4 x5 wa wb we),I (mB x3 x4 x5 wa wb we),I (mC x3 x4 x5 wa wb we)] _ (by simp) rfl
 have TC_:=hA3 ▸ Blk.farS (q:=(w.heap.size+1+1+1+1+1)) (by omega) [I (mA x3 x4 x5 wa wb we),I (mB x3 x4 x5 wa wb we),I (mC x3 x4 x5 wa wb we)] 3 _ TC
 have QC_:=hA3 ▸ Blk.farS (q:=(w.heap.size+1+1+1+1+1)) (by omega) [I (mA x3 x4 x5 wa wb we),I (mB x3 x4 x5 wa wb we),I (mC x3 x4 x5 wa wb we)] 3 _ QC
 have KC_:=hA3 ▸ Blk.farS (q:=(w.heap.size+1+1+1+1+1)) (by omega) [I (mA x3 x4 x5 wa wb we),I (mB x3 x4 x5 wa wb we),I (mC x3 x4 x5 wa wb we)] 3 _ KC
 have RC_:=hA3 ▸ Blk.farS (q:=(w.heap.size+1+1+1+1+1)) (by omega) [I (mA x3 x4 x5 wa wb we),I (mB x3 x4 x5 wa wb we),I (mC x3 x4 x5 wa wb we)] 3 _ RC
 have UC_:=hA3 ▸ Blk.farS (q:=(w.heap.size+1+1+1+1+1)) (by omega) [I (mA x3 x4 x5 wa wb we),I (mB x3 x4 x5 wa wb we),I (mC x3 x4 x5 wa wb we)] 3 _ UC
 have BC_:Below w.heap.size w A3:=by rw [← hA3];exact below_sets (g:=(w.heap.size+1+1+1+1+1)) (by omega) [I (mA x3 x4 x5 wa wb we),I (mB x3 x4 x5 wa wb we),I (mC x3 x4 x5 wa wb we)] 3 _ BC
 have GC0A3:=GC
 clear TC QC KC RC UC GC BC
 have TC:=TC_
 have QC:=QC_
 have KC:=KC_
 have RC:=RC_
 have UC:=UC_
 have GC:=GC_
 have BC:=BC_
 clear TC_ QC_ KC_ RC_ UC_ GC_ BC_
 have q18_:=QC.at 0 rfl
 have q19_:=TC.at 0 rfl
 have q20_:=TC.at 1 rfl
 have q21_:=TC.at 2 rfl
 have q22_:=TC.at 3 rfl
 have q23_:=TC.at 4 rfl
 have q24_:=TC.at 5 rfl
 have q25_:=TC.at 6 rfl
 have q26_:=TC.at 7 rfl
 go_wp2_with (first | (refine wpList_stB 31 _ _ (w.heap.size+1+1+1+1+1) 3 _ [I (mA x3 x4 x5 wa wb we),I (mB x3 x4 x5 wa wb we),I (mC x3 x4 x5 wa wb we)] i3 hi3 GC0A3 (by rw [hz3];rfl) (by simp) rfl rfl rfl rfl rfl ?_;try simp only [Act.put];rw [hA3]))
 refine (hasP_is c realm now fresh (target+3) _ (C.later BC) K).mono ?_
 rintro en w4 ⟨rfl,hb⟩
 replace TC:=TC.later hb TC.lt
 replace QC:=QC.later hb QC.lt
 replace KC:=KC.later hb KC.lt
 replace RC:=RC.later hb RC.lt
 replace UC:=UC.later hb UC.lt
 replace GC:=GC.later hb GC.lt
 replace BC:=BC.trans (hb.mono BC.size)
 clear hb
 clear GC0A3 q18_ q19_ q20_ q21_ q22_ q23_ q24_ q25_ q26_ hA3
 by_cases h0:roV c (target+3)=realm
 ·rw [decide_eq_true h0]
  have HR:Hid (hoG c realm fresh target nonce x0 x2 x3 x4 x5 wa wb we P V=.ok ⟨x0,target,fresh,mA x3 x4 x5 wa wb we,mB x3 x4 x5 wa wb we,mC x3 x4 x5 wa wb we,P,V,pkV (target+3),x2,nonce,2,x0,x2,0⟩):=by show _=_;unfold hoG;rw [if_pos h0]
  go_wp2_with fail
  replace TC:=TC.drew
  replace QC:=QC.drew
  replace KC:=KC.drew
  replace RC:=RC.drew
  replace UC:=UC.drew
  replace GC:=GC.drew
  replace BC:=BC.drew
  refine wp_region_held_drew (S:=(fun Vw=>Blk (w.heap.size+1) [I target,I nonce,.string tk,.string au,.string rs,.string ev] Vw)) (by kernel_rfl) QC (fun hH=>?_)
  refine tK 0 40 rfl _ hH (by intro w' h;have q0:=h.at 0 rfl;go_simp;try with_reducible rfl) ?_
  try simp only [Act.put,pa,pb,pc]
  refine tK 1 41 rfl _ hH (by intro w' h;have q0:=h.at 0 rfl;go_simp;try with_reducible rfl) ?_
  try simp only [Act.put,pa,pb,pc]
  refine tK 2 42 rfl _ hH (by intro w' h;have q0:=h.at 0 rfl;go_simp;try with_reducible rfl) ?_
  try simp only [Act.put,pa,pb,pc]
  refine tK 4 44 rfl _ hH (by intro w' h;have q0:=h.at 0 rfl;go_simp;try with_reducible rfl) ?_
  try simp only [Act.put,pa,pb,pc]
  refine tK 5 45 rfl _ hH (by intro w' h;have q0:=h.at 0 rfl;go_simp;try with_reducible rfl) ?_
  try simp only [Act.put,pa,pb,pc]
  refine wpAnyH_ready (rs:=[3]) (by kernel_rfl) (by simp) ?_
  refine AllReadyH.cons (i:=3) rfl (fun K hK=>?_) AllReadyH.nil
  go_simp
  refine (implPK_is (target+3) _).mono ?_
  rintro en wa_ ⟨rfl,rfl⟩
  go_wp2_with fail
  refine hK.out _ _ QC (fun hJ=>?_)
  clear hK K hH
  have hH:=hJ
  clear hJ
  try simp only [Act.put,pa,pb,pc]
  have N_:Blk (w.heap.size+1+1+1+1+1) [I x0,I target,I fresh,I (mA x3 x4 x5 wa wb we),I (mB x3 x4 x5 wa wb we),I (mC x3 x4 x5 wa wb we),.slice pa P.length pc,.slice va V.length vc,I 0,I x2,I nonce,I 0,I 0,I x0,I 0,I 0,I 0,I x2,I 0,I 0,I 0,I 0] ((w4.drew).setCells (w.heap.size+1+1+1+1+1) 1 [I target]):=GC.part 1 [I target] _ (by simp) rfl
  have TC_:=Blk.farS (q:=(w.heap.size+1+1+1+1+1)) (by omega) [I target] 1 _ TC
  have QC_:=Blk.farS (q:=(w.heap.size+1+1+1+1+1)) (by omega) [I target] 1 _ QC
  have KC_:=Blk.farS (q:=(w.heap.size+1+1+1+1+1)) (by omega) [I target] 1 _ KC
  have RC_:=Blk.farS (q:=(w.heap.size+1+1+1+1+1)) (by omega) [I target] 1 _ RC
  have UC_:=Blk.farS (q:=(w.heap.size+1+1+1+1+1)) (by omega) [I target] 1 _ UC
  have BC_:=below_sets (m:=w.heap.size) (g:=(w.heap.size+1+1+1+1+1)) (by omega) [I target] 1 _ BC
  have s0:=GC.at 1 rfl
  have f0:=GC.fz 1 rfl
  refine wpAnyH_ready (rs:=[6]) (by kernel_rfl) (by simp) ?_
  refine AllReadyH.cons (i:=6) rfl (fun K hK=>?_) AllReadyH.nil
  go_simp
  clear s0 f0
  change K _ ((w4.drew).setCells (w.heap.size+1+1+1+1+1) 1 [I target])
  obtain ⟨V1,hV1⟩:∃ Wz,(w4.drew).setCells ((w.heap.size+1+1+1+1+1)) 1 [I target]=Wz:=⟨_,rfl⟩
  rw [hV1] at N_ BC_ TC_ QC_ KC_ RC_ UC_ ⊢
  clear hV1 GC BC TC QC KC RC UC
  have GC:=N_
  have BC:=BC_
  have TC:=TC_
  have QC:=QC_
  have KC:=KC_
  have RC:=RC_
  have UC:=UC_
  clear N_ BC_ TC_ QC_ KC_ RC_ UC_
  refine hK.out _ _ QC (fun hJ=>?_)
  clear hK K hH
  have hH:=hJ
  clear hJ
  try simp only [Act.put,pa,pb,pc]
  refine tK 7 46 rfl _ hH (by intro w' h;have q0:=h.at 0 rfl;go_simp;try with_reducible rfl) ?_
  try simp only [Act.put,pa,pb,pc]
  have N_:Blk (w.heap.size+1+1+1+1+1) [I x0,I target,I fresh,I (mA x3 x4 x5 wa wb we),I (mB x3 x4 x5 wa wb we),I (mC x3 x4 x5 wa wb we),.slice pa P.length pc,.slice va V.length vc,I (pkV (target+3)),I x2,I nonce,I 0,I 0,I x0,I 0,I 0,I 0,I x2,I 0,I 0,I 0,I 0] ((V1).setCells (w.heap.size+1+1+1+1+1) 8 [I (pkV (target+3))]):=GC.part 8 [I (pkV (target+3))] _ (by simp) rfl
  have TC_:=Blk.farS (q:=(w.heap.size+1+1+1+1+1)) (by omega) [I (pkV (target+3))] 8 _ TC
  have QC_:=Blk.farS (q:=(w.heap.size+1+1+1+1+1)) (by omega) [I (pkV (target+3))] 8 _ QC
  have KC_:=Blk.farS (q:=(w.heap.size+1+1+1+1+1)) (by omega) [I (pkV (target+3))] 8 _ KC
  have RC_:=Blk.farS (q:=(w.heap.size+1+1+1+1+1)) (by omega) [I (pkV (target+3))] 8 _ RC
  have UC_:=Blk.farS (q:=(w.heap.size+1+1+1+1+1)) (by omega) [I (pkV (target+3))] 8 _ UC
  have BC_:=below_sets (m:=w.heap.size) (g:=(w.heap.size+1+1+1+1+1)) (by omega) [I (pkV (target+3))] 8 _ BC
  have s0:=GC.at 8 rfl
  have f0:=GC.fz 8 rfl
  refine wpAnyH_ready (rs:=[8]) (by kernel_rfl) (by simp) ?_
  refine AllReadyH.cons (i:=8) rfl (fun K hK=>?_) AllReadyH.nil
  go_simp
  clear s0 f0
  change K _ ((V1).setCells (w.heap.size+1+1+1+1+1) 8 [I (pkV (target+3))])
  obtain ⟨V2,hV2⟩:∃ Wz,(V1).setCells ((w.heap.size+1+1+1+1+1)) 8 [I (pkV (target+3))]=Wz:=⟨_,rfl⟩
  rw [hV2] at N_ BC_ TC_ QC_ KC_ RC_ UC_ ⊢
  clear hV2 GC BC TC QC KC RC UC
  have GC:=N_
  have BC:=BC_
  have TC:=TC_
  have QC:=QC_
  have KC:=KC_
  have RC:=RC_
  have UC:=UC_
  clear N_ BC_ TC_ QC_ KC_ RC_ UC_
  refine hK.out _ _ QC (fun hJ=>?_)
  clear hK K hH
  have hH:=hJ
  clear hJ
  try simp only [Act.put,pa,pb,pc]
  refine tK 9 47 rfl _ hH (by intro w' h;have q0:=h.at 0 rfl;go_simp;try with_reducible rfl) ?_
  try simp only [Act.put,pa,pb,pc]
  refine tK 10 48 rfl _ hH (by intro w' h;have q0:=h.at 0 rfl;go_simp;try with_reducible rfl) ?_
  try simp only [Act.put,pa,pb,pc]
  have N_:Blk (w.heap.size+1+1+1+1+1) [I x0,I target,I fresh,I (mA x3 x4 x5 wa wb we),I (mB x3 x4 x5 wa wb we),I (mC x3 x4 x5 wa wb we),.slice pa P.length pc,.slice va V.length vc,I (pkV (target+3)),I x2,I nonce,I 2,I 0,I x0,I 0,I 0,I 0,I x2,I 0,I 0,I 0,I 0] ((V2).setCells (w.heap.size+1+1+1+1+1) 11 [I 2]):=GC.part 11 [I 2] _ (by simp) rfl
  have TC_:=Blk.farS (q:=(w.heap.size+1+1+1+1+1)) (by omega) [I 2] 11 _ TC
  have QC_:=Blk.farS (q:=(w.heap.size+1+1+1+1+1)) (by omega) [I 2] 11 _ QC
  have KC_:=Blk.farS (q:=(w.heap.size+1+1+1+1+1)) (by omega) [I 2] 11 _ KC
  have RC_:=Blk.farS (q:=(w.heap.size+1+1+1+1+1)) (by omega) [I 2] 11 _ RC
  have UC_:=Blk.farS (q:=(w.heap.size+1+1+1+1+1)) (by omega) [I 2] 11 _ UC
  have BC_:=below_sets (m:=w.heap.size) (g:=(w.heap.size+1+1+1+1+1)) (by omega) [I 2] 11 _ BC
  have s0:=GC.at 11 rfl
  have f0:=GC.fz 11 rfl
  refine wpAnyH_ready (rs:=[11]) (by kernel_rfl) (by simp) ?_
  refine AllReadyH.cons (i:=11) rfl (fun K hK=>?_) AllReadyH.nil
  go_simp
  clear s0 f0
  change K _ ((V2).setCells (w.heap.size+1+1+1+1+1) 11 [I 2])
  obtain ⟨V3,hV3⟩:∃ Wz,(V2).setCells ((w.heap.size+1+1+1+1+1)) 11 [I 2]=Wz:=⟨_,rfl⟩
  rw [hV3] at N_ BC_ TC_ QC_ KC_ RC_ UC_ ⊢
  clear hV3 GC BC TC QC KC RC UC
  have GC:=N_
  have BC:=BC_
  have TC:=TC_
  have QC:=QC_
  have KC:=KC_
  have RC:=RC_
  have UC:=UC_
  clear N_ BC_ TC_ QC_ KC_ RC_ UC_
  refine hK.out _ _ QC (fun hJ=>?_)
  clear hK K hH
  have hH:=hJ
  clear hJ
  try simp only [Act.put,pa,pb,pc]
  refine wpAnyH_done (by kernel_rfl) ?_ _
  have GL:=GC
  have FU:=UC.sets [I x0,I target,I fresh,I (mA x3 x4 x5 wa wb we),I (mB x3 x4 x5 wa wb we),I (mC x3 x4 x5 wa wb we),.slice pa P.length pc,.slice va V.length vc,I (pkV (target+3)),I x2,I nonce,I 2,I 0,I x0,I 0,I 0,I 0,I x2,I 0,I 0,I 0,I 0] rfl
  have FB:=below_sets (m:=w.heap.size) (g:=(w.heap.size+1+1+1+1)) (by omega) [I x0,I target,I fresh,I (mA x3 x4 x5 wa wb we),I (mB x3 x4 x5 wa wb we),I (mC x3 x4 x5 wa wb we),.slice pa P.length pc,.slice va V.length vc,I (pkV (target+3)),I x2,I nonce,I 2,I 0,I x0,I 0,I 0,I 0,I x2,I 0,I 0,I 0,I 0] 0 _ BC
  go_wp2_with (first | (refine wpList_ldB 73 _ (w.heap.size+1+1+1+1+1) 0 _ [I x0,I target,I fresh,I (mA x3 x4 x5 wa wb we),I (mB x3 x4 x5 wa wb we),I (mC x3 x4 x5 wa wb we),.slice pa P.length pc,.slice va V.length vc,I (pkV (target+3)),I x2,I nonce,I 2,I 0,I x0,I 0,I 0,I 0,I x2,I 0,I 0,I 0,I 0] ie hie ag73 GC (by rw [hsz];rfl) rfl rfl rfl rfl ?_;try simp only [Act.put]) | (refine wpList_stB 73 _ _ (w.heap.size+1+1+1+1) 0 _ [I x0,I target,I fresh,I (mA x3 x4 x5 wa wb we),I (mB x3 x4 x5 wa wb we),I (mC x3 x4 x5 wa wb we),.slice pa P.length pc,.slice va V.length vc,I (pkV (target+3)),I x2,I nonce,I 2,I 0,I x0,I 0,I 0,I 0,I x2,I 0,I 0,I 0,I 0] ie hie UC (by rw [hsz];rfl) (by simp) rfl rfl rfl rfl rfl ?_;try simp only [Act.put]))
  refine bodyPost_ret (res_B2 rfl _ _ (w.heap.size+1+1+1+1) _ .nilIface ie hie ag73 FU (by rw [hsz];rfl) rfl rfl) rfl ⟨?_,FB⟩
  rw [HR.out]
  exact ⟨pa,pc,va,vc,rfl,RF.later RP FB,RF.later RV FB,hP,hV,by unfold i64;dsimp only;omega⟩
 ·rw [decide_eq_false h0]
  go_wp2_with fail
  replace TC:=TC.drew
  replace QC:=QC.drew
  replace KC:=KC.drew
  replace RC:=RC.drew
  replace UC:=UC.drew
  replace GC:=GC.drew
  replace BC:=BC.drew
  refine wp_region_held_drew (S:=(fun Vw=>Blk w.heap.size [.slice c.ua c.U.length c.uc,.slice c.sa c.S.length c.sc,.slice c.la c.L.length c.lc,.slice c.xa c.X.length c.xc,I c.k,I realm,I now,I fresh] Vw)) (by kernel_rfl) TC (fun hH=>?_)
  refine tK 0 50 rfl _ hH (by intro w' h;have d0:=h.e8;go_simp;try with_reducible rfl) ?_
  try simp only [Act.put,pa,pb,pc]
  refine tK 1 51 rfl _ hH (by intro w' h;have d0:=h.e8;go_simp;try with_reducible rfl) ?_
  try simp only [Act.put,pa,pb,pc]
  refine tK 2 52 rfl _ hH (by intro w' h;have d0:=h.e8;go_simp;try with_reducible rfl) ?_
  try simp only [Act.put,pa,pb,pc]
  refine tK 3 53 rfl _ hH (by intro w' h;have d0:=h.e8;go_simp;try with_reducible rfl) ?_
  try simp only [Act.put,pa,pb,pc]
  refine tK 4 54 rfl _ hH (by intro w' h;have d0:=h.e8;go_simp;try with_reducible rfl) ?_
  try simp only [Act.put,pa,pb,pc]
  refine tK 5 55 rfl _ hH (by intro w' h;have d0:=h.e8;go_simp;try with_reducible rfl) ?_
  try simp only [Act.put,pa,pb,pc]
  refine tK 6 56 rfl _ hH (by intro w' h;have d0:=h.e8;go_simp;try with_reducible rfl) ?_
  try simp only [Act.put,pa,pb,pc]
  refine wpAnyH_ready (rs:=[7]) (by kernel_rfl) (by simp) ?_
  refine AllReadyH.cons (i:=7) rfl (fun K hK=>?_) AllReadyH.nil
  go_simp
  refine (implRO_is c (target+3) _ (C.later BC) KO).mono ?_
  rintro en w5 ⟨rfl,hb⟩
  replace TC:=TC.later hb TC.lt
  replace QC:=QC.later hb QC.lt
  replace KC:=KC.later hb KC.lt
  replace RC:=RC.later hb RC.lt
  replace UC:=UC.later hb UC.lt
  replace GC:=GC.later hb GC.lt
  replace BC:=BC.trans (hb.mono BC.size)
  clear hb
  go_wp2_with fail
  refine hK.out _ _ TC (fun hJ=>?_)
  clear hK K hH
  have hH:=hJ
  clear hJ
  try simp only [Act.put,pa,pb,pc]
  refine wpAnyH_ready (rs:=[8]) (by kernel_rfl) (by simp) ?_
  refine AllReadyH.cons (i:=8) rfl (fun K hK=>?_) AllReadyH.nil
  go_simp
  refine (implNH_is c realm (roV c (target+3)) _ (C.later BC) KO).mono ?_
  rintro en w6 ⟨rfl,hb⟩
  replace TC:=TC.later hb TC.lt
  replace QC:=QC.later hb QC.lt
  replace KC:=KC.later hb KC.lt
  replace RC:=RC.later hb RC.lt
  replace UC:=UC.later hb UC.lt
  replace GC:=GC.later hb GC.lt
  replace BC:=BC.trans (hb.mono BC.size)
  clear hb
  go_wp2_with fail
  refine hK.out _ _ TC (fun hJ=>?_)
  clear hK K hH
  have hH:=hJ
  clear hJ
  try simp only [Act.put,pa,pb,pc]
  refine tK 9 12 rfl _ hH (by intro w' h;have d0:=h.e8;go_simp;try with_reducible rfl) ?_
  try simp only [Act.put,pa,pb,pc]
  refine wpAnyH_done (by kernel_rfl) ?_ _
  have hnr:=nh_range c realm (roV c (target+3))
  by_cases h1:nhV c realm (roV c (target+3))=-1
  ·have HR:Hid (hoG c realm fresh target nonce x0 x2 x3 x4 x5 wa wb we P V=.error 5):=by show _=_;unfold hoG;rw [if_neg h0,if_pos h1]
   rw [h1]
   go_wp2_with fail
   refine (refuse_is 5 _).mono ?_
   rintro en wf ⟨rfl,hb⟩
   replace TC:=TC.later hb TC.lt
   replace QC:=QC.later hb QC.lt
   replace KC:=KC.later hb KC.lt
   replace RC:=RC.later hb RC.lt
   replace UC:=UC.later hb UC.lt
   replace GC:=GC.later hb GC.lt
   replace BC:=BC.trans (hb.mono BC.size)
   clear hb
   have FU:=UC.sets [I 0,I 0,I 0,I 0,I 0,I 0,.slice none 0 0,.slice none 0 0,I 0,I 0,I 0,I 0,I 0,I 0,I 0,I 0,I 0,I 0,I 0,I 0,I 0,I 0] rfl
   have FB:=below_sets (m:=w.heap.size) (g:=(w.heap.size+1+1+1+1)) (by omega) [I 0,I 0,I 0,I 0,I 0,I 0,.slice none 0 0,.slice none 0 0,I 0,I 0,I 0,I 0,I 0,I 0,I 0,I 0,I 0,I 0,I 0,I 0,I 0,I 0] 0 _ BC
   go_wp2_with (refine wpList_stB 73 _ _ (w.heap.size+1+1+1+1) 0 _ [I 0,I 0,I 0,I 0,I 0,I 0,.slice none 0 0,.slice none 0 0,I 0,I 0,I 0,I 0,I 0,I 0,I 0,I 0,I 0,I 0,I 0,I 0,I 0,I 0] ie hie UC (by rw [hsz];rfl) (by simp) rfl rfl rfl rfl rfl ?_;try simp only [Act.put])
   exact bodyPost_ret (res_B2 rfl _ _ (w.heap.size+1+1+1+1) _ (refV 5) ie hie ag73 FU (by rw [hsz];rfl) rfl rfl) rfl ⟨by rw [HR.out];exact rfl,FB⟩
  ·have HR:Hid (hoG c realm fresh target nonce x0 x2 x3 x4 x5 wa wb we P V=.ok ⟨x0,10+nhV c realm (roV c (target+3)),fresh,mA x3 x4 x5 wa wb we,mB x3 x4 x5 wa wb we,mC x3 x4 x5 wa wb we,P,V,lkV realm (nhV c realm (roV c (target+3))),x2,nonce,3,x0,x2,0⟩):=by show _=_;unfold hoG;rw [if_neg h0,if_neg h1]
   have hh:0≤nhV c realm (roV c (target+3))∧nhV c realm (roV c (target+3))≤2:=by omega
   generalize nhV c realm (roV c (target+3))=h at HR h1 hh ⊢
   clear hnr
   have q27_:=TC.at 5 rfl
   go_wp2_with fail
   refine (implLK_is realm h _).mono ?_
   rintro en w7 ⟨rfl,rfl⟩
   clear q27_
   obtain ⟨A5,hA5⟩:∃ Wz,(World.setCells w6 (w.heap.size+1+1+1+1+1) 1 [I (10+h)])=Wz:=⟨_,rfl⟩
   have GC_:Blk (w.heap.size+1+1+1+1+1) [I x0,I (10+h),I fresh,I (mA x3 x4 x5 wa wb we),I (mB x3 x4 x5 wa wb we),I (mC x3 x4 x5 wa wb we),.slice pa P.length pc,.slice va V.length vc,I 0,I x2,I nonce,I 0,I 0,I x0,I 0,I 0,I 0,I x2,I 0,I 0,I 0,I 0] A5:=by rw [← hA5];exact GC.part 1 [I (10+h)] _ (by simp) rfl
   have TC_:=hA5 ▸ Blk.farS (q:=(w.heap.size+1+1+1+1+1)) (by omega) [I (10+h)] 1 _ TC
   have QC_:=hA5 ▸ Blk.farS (q:=(w.heap.size+1+1+1+1+1)) (by omega) [I (10+h)] 1 _ QC
   have KC_:=hA5 ▸ Blk.farS (q:=(w.heap.size+1+1+1+1+1)) (by omega) [I (10+h)] 1 _ KC
   have RC_:=hA5 ▸ Blk.farS (q:=(w.heap.size+1+1+1+1+1)) (by omega) [I (10+h)] 1 _ RC
   have UC_:=hA5 ▸ Blk.farS (q:=(w.heap.size+1+1+1+1+1)) (by omega) [I (10+h)] 1 _ UC
   have BC_:Below w.heap.size w A5:=by rw [← hA5];exact below_sets (g:=(w.heap.size+1+1+1+1+1)) (by omega) [I (10+h)] 1 _ BC
   have GC0A5:=GC
   clear TC QC KC RC UC GC BC
   have TC:=TC_
   have QC:=QC_
   have KC:=KC_
   have RC:=RC_
   have UC:=UC_
   have GC:=GC_
   have BC:=BC_
   clear TC_ QC_ KC_ RC_ UC_ GC_ BC_
   obtain ⟨A6,hA6⟩:∃ Wz,(World.setCells A5 (w.heap.size+1+1+1+1+1) 8 [I (lkV realm h)])=Wz:=⟨_,rfl⟩
   have GC_:Blk (w.heap.size+1+1+1+1+1) [I x0,I (10+h),I fresh,I (mA x3 x4 x5 wa wb we),I (mB x3 x4 x5 wa wb we),I (mC x3 x4 x5 wa wb we),.slice pa P.length pc,.slice va V.length vc,I (lkV realm h),I x2,I nonce,I 0,I 0,I x0,I 0,I 0,I 0,I x2,I 0,I 0,I 0,I 0] A6:=by rw [← hA6];exact GC.part 8 [I (lkV realm h)] _ (by simp) rfl
   have TC_:=hA6 ▸ Blk.farS (q:=(w.heap.size+1+1+1+1+1)) (by omega) [I (lkV realm h)] 8 _ TC
   have QC_:=hA6 ▸ Blk.farS (q:=(w.heap.size+1+1+1+1+1)) (by omega) [I (lkV realm h)] 8 _ QC
   have KC_:=hA6 ▸ Blk.farS (q:=(w.heap.size+1+1+1+1+1)) (by omega) [I (lkV realm h)] 8 _ KC
   have RC_:=hA6 ▸ Blk.farS (q:=(w.heap.size+1+1+1+1+1)) (by omega) [I (lkV realm h)] 8 _ RC
   have UC_:=hA6 ▸ Blk.farS (q:=(w.heap.size+1+1+1+1+1)) (by omega) [I (lkV realm h)] 8 _ UC
   have BC_:Below w.heap.size w A6:=by rw [← hA6];exact below_sets (g:=(w.heap.size+1+1+1+1+1)) (by omega) [I (lkV realm h)] 8 _ BC
   have GC0A6:=GC
   clear TC QC KC RC UC GC BC
   have TC:=TC_
   have QC:=QC_
   have KC:=KC_
   have RC:=RC_
   have UC:=UC_
   have GC:=GC_
   have BC:=BC_
   clear TC_ QC_ KC_ RC_ UC_ GC_ BC_
   obtain ⟨A7,hA7⟩:∃ Wz,(World.setCells A6 (w.heap.size+1+1+1+1+1) 11 [I 3])=Wz:=⟨_,rfl⟩
   have GC_:Blk (w.heap.size+1+1+1+1+1) [I x0,I (10+h),I fresh,I (mA x3 x4 x5 wa wb we),I (mB x3 x4 x5 wa wb we),I (mC x3 x4 x5 wa wb we),.slice pa P.length pc,.slice va V.length vc,I (lkV realm h),I x2,I nonce,I 3,I 0,I x0,I 0,I 0,I 0,I x2,I 0,I 0,I 0,I 0] A7:=by rw [← hA7];exact GC.part 11 [I 3] _ (by simp) rfl
   have TC_:=hA7 ▸ Blk.farS (q:=(w.heap.size+1+1+1+1+1)) (by omega) [I 3] 11 _ TC
   have QC_:=hA7 ▸ Blk.farS (q:=(w.heap.size+1+1+1+1+1)) (by omega) [I 3] 11 _ QC
   have KC_:=hA7 ▸ Blk.farS (q:=(w.heap.size+1+1+1+1+1)) (by omega) [I 3] 11 _ KC
   have RC_:=hA7 ▸ Blk.farS (q:=(w.heap.size+1+1+1+1+1)) (by omega) [I 3] 11 _ RC
   have UC_:=hA7 ▸ Blk.farS (q:=(w.heap.size+1+1+1+1+1)) (by omega) [I 3] 11 _ UC
   have BC_:Below w.heap.size w A7:=by rw [← hA7];exact below_sets (g:=(w.heap.size+1+1+1+1+1)) (by omega) [I 3] 11 _ BC
   have GC0A7:=GC
   clear TC QC KC RC UC GC BC
   have TC:=TC_
   have QC:=QC_
   have KC:=KC_
   have RC:=RC_
   have UC:=UC_
   have GC:=GC_
   have BC:=BC_
   clear TC_ QC_ KC_ RC_ UC_ GC_ BC_
   have FU:=UC.sets [I x0,I (10+h),I fresh,I (mA x3 x4 x5 wa wb we),I (mB x3 x4 x5 wa wb we),I (mC x3 x4 x5 wa wb we),.slice pa P.length pc,.slice va V.length vc,I (lkV realm h),I x2,I nonce,I 3,I 0,I x0,I 0,I 0,I 0,I x2,I 0,I 0,I 0,I 0] rfl
   have FB:=below_sets (m:=w.heap.size) (g:=(w.heap.size+1+1+1+1)) (by omega) [I x0,I (10+h),I fresh,I (mA x3 x4 x5 wa wb we),I (mB x3 x4 x5 wa wb we),I (mC x3 x4 x5 wa wb we),.slice pa P.length pc,.slice va V.length vc,I (lkV realm h),I x2,I nonce,I 3,I 0,I x0,I 0,I 0,I 0,I x2,I 0,I 0,I 0,I 0] 0 _ BC
   go_wp2_with (first | (refine wpList_st1 3 _ _ (w.heap.size+1+1+1+1+1) 1 _ (I (10+h)) i1 hi1 GC0A5 hz1 (by simp) rfl rfl rfl rfl rfl ?_;try simp only [Act.put];rw [hA5]) | (refine wpList_st1 3 _ _ (w.heap.size+1+1+1+1+1) 8 _ (I (lkV realm h)) i1 hi1 GC0A6 hz1 (by simp) rfl rfl rfl rfl rfl ?_;try simp only [Act.put];rw [hA6]) | (refine wpList_st1 3 _ _ (w.heap.size+1+1+1+1+1) 11 _ (I 3) i1 hi1 GC0A7 hz1 (by simp) rfl rfl rfl rfl rfl ?_;try simp only [Act.put];rw [hA7]) | (refine wpList_ldB 73 _ (w.heap.size+1+1+1+1+1) 0 _ [I x0,I (10+h),I fresh,I (mA x3 x4 x5 wa wb we),I (mB x3 x4 x5 wa wb we),I (mC x3 x4 x5 wa wb we),.slice pa P.length pc,.slice va V.length vc,I (lkV realm h),I x2,I nonce,I 3,I 0,I x0,I 0,I 0,I 0,I x2,I 0,I 0,I 0,I 0] ie hie ag73 GC (by rw [hsz];rfl) rfl rfl rfl rfl ?_;try simp only [Act.put]) | (refine wpList_stB 73 _ _ (w.heap.size+1+1+1+1) 0 _ [I x0,I (10+h),I fresh,I (mA x3 x4 x5 wa wb we),I (mB x3 x4 x5 wa wb we),I (mC x3 x4 x5 wa wb we),.slice pa P.length pc,.slice va V.length vc,I (lkV realm h),I x2,I nonce,I 3,I 0,I x0,I 0,I 0,I 0,I x2,I 0,I 0,I 0,I 0] ie hie UC (by rw [hsz];rfl) (by simp) rfl rfl rfl rfl rfl ?_;try simp only [Act.put]))
   refine bodyPost_ret (res_B2 rfl _ _ (w.heap.size+1+1+1+1) _ .nilIface ie hie ag73 FU (by rw [hsz];rfl) rfl rfl) rfl ⟨?_,FB⟩
   rw [HR.out]
   exact ⟨pa,pc,va,vc,rfl,RF.later RP FB,RF.later RV FB,hP,hV,by unfold i64;dsimp only;omega⟩
end Go.Proofs.YtcaieniddnhkbaaGreatDoor
