/- Who was who: the program. -/
import Derived.Test.YtjcmbbnklfemcaaGreatCn3
import Derived.Test.YtjcmbbnklfemcaaGreatRv
set_option linter.unusedVariables false
set_option maxRecDepth 100000
namespace Go.Proofs.YtjcmbbnklfemcaaGreat.Nd
open Go Go.RowKit Go.Joins Own Draw Term
theorem stepB {P:Program} {ops:Array Oper} {o:Oper} {a:Act} {w:World} {K:Act→World→Prop} {Q:Exit→Act→World→Prop} {E:Prop} (ty:TypeId) (x y:Operand) (g off:Nat) (us vs:List Value) (ie:TypeInfo) (hie:P.info? ty=some ie) (h:Blk g us w) (hs:vs.length=ie.size) (hl:off + vs.length≤us.length) (h1:vs.all (·.oneCell')=true)
  (hgd:o.guard=none) (ho:o.op=.store ty x y) (hx:a.eval x=.pointer (some ⟨g,off,none⟩)) (hy:a.eval y=.agg vs.toArray)
  (hn:K (a.put o.dst undef) (w.setCells g off vs)):if Region.wanted o (yielded ops a.tmps)=true then Oper.wp P o a w K Q else E := by
 rw [if_pos (by simp [Region.wanted,hgd])]
 unfold Oper.wp execOp
 simp only [ho,hx,hy,Instr.storeAt,Instr.sureAddr,Sem.run_bind,Sem.run_pure,Result.andThen_ok,stB ty ie hie vs h hs hl h1]
 exact hn
abbrev ceE (p:TE):Int := p.2.2.2.1
abbrev seE (p:TE):Int := p.2.2.2.2.1
abbrev kyQ (p:TQ):Int := p.2.2.1
def e0:TE := (0,0,0,0,0,0,0,0,0,0,0)
def evAt (xs:List TE) (z:Int):TE := xs.getD z.toNat e0
theorem evAt_at {xs:List TE} {i:Nat} (h:i < xs.length):evAt xs (i:Int)=xs[i] := by unfold evAt;simp [h]
/-- Has an Accept a chain from a login of its Client to its Server? -/
def auL (xs:List TE) (L:List Int) (q:TQ):Bool := decide (0 < L.length) && (decide (ceE (evAt xs (L.getD 0 0))=clQ q) && (decide (ceE (evAt xs (L.getD (L.length - 1) 0))=clQ q) && decide (seE (evAt xs (L.getD (L.length - 1) 0))=seQ q)))
def auB (xs:List TE) (q:TQ):Bool := auL xs (chainN xs (kyQ q)) q
theorem wok_log {d:TD} (h:wokB d=true):d.2.2.2.2.2.2.2.2.1.2.2.length≤40 := by
 unfold wokB recB at h
 simp only [Bool.and_eq_true] at h
 exact of_decide_eq_true h.2.2.2.2.2.2.2.2.1
theorem chainN_in (xs:List TE) (q:Int):∀ z∈chainN xs q,∃ i:Nat,z=(i:Int)∧i < xs.length := by
 rw [chain_bw]
 intro z hz
 unfold frL at hz
 cases e:(bwL xs hoV xs.length q true).getLast? with
 | none=>rw [e] at hz;cases hz
 | some y =>
  rw [e] at hz
  dsimp only at hz
  split at hz
  ·exact bwL_in _ _ _ _ _ z (List.mem_reverse.1 hz)
  ·cases hz
theorem ld_row {U:World} {b o:Nat} {xs:List TE} {i:Nat} (ie:TypeInfo) (hie:Tryz.prog.info? 109=some ie) (his:ie.size=11) (h:FRow 11 cE U (some ⟨b,o,none⟩) xs) (hi:i < xs.length):(loadVar 109 ⟨b,o + i * 11,none⟩).run Tryz.prog U=.ok (.agg (cE xs[i]).toArray) U := by
 refine Go.Lib.rl_loadVar_cells 109 ie hie Tryz.isAgg109 b (o + i * 11) (cE xs[i]) (by rw [his];rfl) U ?_
 intro k v e
 obtain ⟨b2,o2,ea,_,hc⟩ := h i hi
 simp only [Option.some.injEq,Addr.mk.injEq,and_true] at ea
 obtain ⟨rfl,rfl⟩ := ea
 exact hc k v e
set_option maxRecDepth 100000 in
set_option maxHeartbeats 6400000 in
theorem auth_is (B:Nat) (d:TD) (p:TQ) (w:World) (hd:WdOk B w d) (hw:wokB d=true) (hE:∀ e∈d.2.2.2.2.2.2.2.2.1.2.2,i64 (kyE e)∧i64 (paE e)∧i64 (evE e)) (hq:i64 (kyQ p)) :
  Calls Tryz.prog 60 #[vD d,vQ p] w fun e w'=>e=.returned (.bool (auB d.2.2.2.2.2.2.2.2.1.2.2 p))∧Below w.heap.size w w' := by
 obtain ⟨iv,hiv,hivs⟩ := info_E
 obtain ⟨V,hV⟩:∃ V,(w.alloc (.cells #[.slice d.1.1.1 d.1.1.2.2.length d.1.1.2.1,.slice d.1.2.1.1 d.1.2.1.2.2.length d.1.2.1.2.1,.slice d.1.2.2.1.1 d.1.2.2.1.2.2.length d.1.2.2.1.2.1,.slice d.1.2.2.2.1.1 d.1.2.2.2.1.2.2.length d.1.2.2.2.1.2.1,.int .i64 d.1.2.2.2.2,.int .i64 d.2.1,.int .i64 d.2.2.1,.slice d.2.2.2.1.1 d.2.2.2.1.2.2.length d.2.2.2.1.2.1,.slice d.2.2.2.2.1.1.1 d.2.2.2.2.1.1.2.2.length d.2.2.2.2.1.1.2.1,.slice d.2.2.2.2.1.2.1 d.2.2.2.2.1.2.2.2.length d.2.2.2.2.1.2.2.1,.slice d.2.2.2.2.2.1.1 d.2.2.2.2.2.1.2.2.length d.2.2.2.2.2.1.2.1,.slice d.2.2.2.2.2.2.1.1 d.2.2.2.2.2.2.1.2.2.length d.2.2.2.2.2.2.1.2.1,.slice d.2.2.2.2.2.2.2.1.1 d.2.2.2.2.2.2.2.1.2.2.length d.2.2.2.2.2.2.2.1.2.1,.slice d.2.2.2.2.2.2.2.2.1.1 d.2.2.2.2.2.2.2.2.1.2.2.length d.2.2.2.2.2.2.2.2.1.2.1,.slice d.2.2.2.2.2.2.2.2.2.1.1 d.2.2.2.2.2.2.2.2.2.1.2.2.length d.2.2.2.2.2.2.2.2.2.1.2.1,.slice d.2.2.2.2.2.2.2.2.2.2.1 d.2.2.2.2.2.2.2.2.2.2.2.2.length d.2.2.2.2.2.2.2.2.2.2.2.1] 48)).alloc (.cells #[.int .i64 p.1,.int .i64 p.2.1,.int .i64 p.2.2.1,.int .i64 p.2.2.2.1,.int .i64 p.2.2.2.2.1,.int .i64 p.2.2.2.2.2.1.1,.int .i64 p.2.2.2.2.2.1.2.1,.int .i64 p.2.2.2.2.2.1.2.2,.int .i64 p.2.2.2.2.2.2.1.1,.int .i64 p.2.2.2.2.2.2.1.2.1,.int .i64 p.2.2.2.2.2.2.1.2.2,.slice p.2.2.2.2.2.2.2.1.1 p.2.2.2.2.2.2.2.1.2.2.length p.2.2.2.2.2.2.2.1.2.1,.slice p.2.2.2.2.2.2.2.2.1.1 p.2.2.2.2.2.2.2.2.1.2.2.length p.2.2.2.2.2.2.2.2.1.2.1,.int .i64 p.2.2.2.2.2.2.2.2.2.1,.string p.2.2.2.2.2.2.2.2.2.2] 82)=V := ⟨_,rfl⟩
 have BC:Below w.heap.size w V := by rw [← hV];exact ((Below.refl _ _).alloc (Nat.le_refl _) _).alloc (by simp) _
 have TD:Blk w.heap.size [.slice d.1.1.1 d.1.1.2.2.length d.1.1.2.1,.slice d.1.2.1.1 d.1.2.1.2.2.length d.1.2.1.2.1,.slice d.1.2.2.1.1 d.1.2.2.1.2.2.length d.1.2.2.1.2.1,.slice d.1.2.2.2.1.1 d.1.2.2.2.1.2.2.length d.1.2.2.2.1.2.1,.int .i64 d.1.2.2.2.2,.int .i64 d.2.1,.int .i64 d.2.2.1,.slice d.2.2.2.1.1 d.2.2.2.1.2.2.length d.2.2.2.1.2.1,.slice d.2.2.2.2.1.1.1 d.2.2.2.2.1.1.2.2.length d.2.2.2.2.1.1.2.1,.slice d.2.2.2.2.1.2.1 d.2.2.2.2.1.2.2.2.length d.2.2.2.2.1.2.2.1,.slice d.2.2.2.2.2.1.1 d.2.2.2.2.2.1.2.2.length d.2.2.2.2.2.1.2.1,.slice d.2.2.2.2.2.2.1.1 d.2.2.2.2.2.2.1.2.2.length d.2.2.2.2.2.2.1.2.1,.slice d.2.2.2.2.2.2.2.1.1 d.2.2.2.2.2.2.2.1.2.2.length d.2.2.2.2.2.2.2.1.2.1,.slice d.2.2.2.2.2.2.2.2.1.1 d.2.2.2.2.2.2.2.2.1.2.2.length d.2.2.2.2.2.2.2.2.1.2.1,.slice d.2.2.2.2.2.2.2.2.2.1.1 d.2.2.2.2.2.2.2.2.2.1.2.2.length d.2.2.2.2.2.2.2.2.2.1.2.1,.slice d.2.2.2.2.2.2.2.2.2.2.1 d.2.2.2.2.2.2.2.2.2.2.2.2.length d.2.2.2.2.2.2.2.2.2.2.2.1] V := by rw [← hV];exact (Blk.new _ _ _).alloc (by simp) _
 have TQ:Blk (w.heap.size + 1) [.int .i64 p.1,.int .i64 p.2.1,.int .i64 p.2.2.1,.int .i64 p.2.2.2.1,.int .i64 p.2.2.2.2.1,.int .i64 p.2.2.2.2.2.1.1,.int .i64 p.2.2.2.2.2.1.2.1,.int .i64 p.2.2.2.2.2.1.2.2,.int .i64 p.2.2.2.2.2.2.1.1,.int .i64 p.2.2.2.2.2.2.1.2.1,.int .i64 p.2.2.2.2.2.2.1.2.2,.slice p.2.2.2.2.2.2.2.1.1 p.2.2.2.2.2.2.2.1.2.2.length p.2.2.2.2.2.2.2.1.2.1,.slice p.2.2.2.2.2.2.2.2.1.1 p.2.2.2.2.2.2.2.2.1.2.2.length p.2.2.2.2.2.2.2.2.1.2.1,.int .i64 p.2.2.2.2.2.2.2.2.2.1,.string p.2.2.2.2.2.2.2.2.2.2] V := by rw [← hV];have := Blk.new (w.alloc (.cells #[.slice d.1.1.1 d.1.1.2.2.length d.1.1.2.1,.slice d.1.2.1.1 d.1.2.1.2.2.length d.1.2.1.2.1,.slice d.1.2.2.1.1 d.1.2.2.1.2.2.length d.1.2.2.1.2.1,.slice d.1.2.2.2.1.1 d.1.2.2.2.1.2.2.length d.1.2.2.2.1.2.1,.int .i64 d.1.2.2.2.2,.int .i64 d.2.1,.int .i64 d.2.2.1,.slice d.2.2.2.1.1 d.2.2.2.1.2.2.length d.2.2.2.1.2.1,.slice d.2.2.2.2.1.1.1 d.2.2.2.2.1.1.2.2.length d.2.2.2.2.1.1.2.1,.slice d.2.2.2.2.1.2.1 d.2.2.2.2.1.2.2.2.length d.2.2.2.2.1.2.2.1,.slice d.2.2.2.2.2.1.1 d.2.2.2.2.2.1.2.2.length d.2.2.2.2.2.1.2.1,.slice d.2.2.2.2.2.2.1.1 d.2.2.2.2.2.2.1.2.2.length d.2.2.2.2.2.2.1.2.1,.slice d.2.2.2.2.2.2.2.1.1 d.2.2.2.2.2.2.2.1.2.2.length d.2.2.2.2.2.2.2.1.2.1,.slice d.2.2.2.2.2.2.2.2.1.1 d.2.2.2.2.2.2.2.2.1.2.2.length d.2.2.2.2.2.2.2.2.1.2.1,.slice d.2.2.2.2.2.2.2.2.2.1.1 d.2.2.2.2.2.2.2.2.2.1.2.2.length d.2.2.2.2.2.2.2.2.2.1.2.1,.slice d.2.2.2.2.2.2.2.2.2.2.1 d.2.2.2.2.2.2.2.2.2.2.2.2.length d.2.2.2.2.2.2.2.2.2.2.2.1] 48)) #[.int .i64 p.1,.int .i64 p.2.1,.int .i64 p.2.2.1,.int .i64 p.2.2.2.1,.int .i64 p.2.2.2.2.1,.int .i64 p.2.2.2.2.2.1.1,.int .i64 p.2.2.2.2.2.1.2.1,.int .i64 p.2.2.2.2.2.1.2.2,.int .i64 p.2.2.2.2.2.2.1.1,.int .i64 p.2.2.2.2.2.2.1.2.1,.int .i64 p.2.2.2.2.2.2.1.2.2,.slice p.2.2.2.2.2.2.2.1.1 p.2.2.2.2.2.2.2.1.2.2.length p.2.2.2.2.2.2.2.1.2.1,.slice p.2.2.2.2.2.2.2.2.1.1 p.2.2.2.2.2.2.2.2.1.2.2.length p.2.2.2.2.2.2.2.2.1.2.1,.int .i64 p.2.2.2.2.2.2.2.2.2.1,.string p.2.2.2.2.2.2.2.2.2.2] 82;simpa using this
 have hll:d.2.2.2.2.2.2.2.2.1.2.2.length≤1048576 := Nat.le_trans (wok_log hw) (by omega)
 have hfr:FRow 11 cE w d.2.2.2.2.2.2.2.2.1.1 d.2.2.2.2.2.2.2.2.1.2.2 := hd.ow.2.2.2.2.2.2.1.dp
 have K1 := implChain_is d.2.2.2.2.2.2.2.2.1.1 d.2.2.2.2.2.2.2.2.1.2.1 d.2.2.2.2.2.2.2.2.1.2.2 (kyQ p) V (hfr.later BC) hll hq hE
 have l8 := TD.at 13 rfl
 have q2 := TQ.at 2 rfl
 have hLi := chainN_in d.2.2.2.2.2.2.2.2.1.2.2 (kyQ p)
 have HA:Hid (auB d.2.2.2.2.2.2.2.2.1.2.2 p=auL d.2.2.2.2.2.2.2.2.1.2.2 (chainN d.2.2.2.2.2.2.2.2.1.2.2 (kyQ p)) p) := rfl
 have hLl:(chainN d.2.2.2.2.2.2.2.2.1.2.2 (kyQ p)).length≤1048577 := by have := chG_len d.2.2.2.2.2.2.2.2.1.2.2 (d.2.2.2.2.2.2.2.2.1.2.2.length + 1) [] (kyQ p);unfold chainN;simp at this;omega
 generalize chainN d.2.2.2.2.2.2.2.2.1.2.2 (kyQ p)=L at K1 hLi HA hLl
 go_enter Tryz.func60,Tryz.ntmps60
 go_wp2_with fail
 try rw [hV]
 refine K1.mono ?_
 clear K1 hV l8 q2 hE hq
 rintro en v1 ⟨ra,rc,rfl,ho,hb⟩
 replace TD := TD.later hb TD.lt
 replace TQ := TQ.later hb TQ.lt
 replace BC := BC.trans (hb.mono BC.size)
 clear hb
 have hrow:RowAt (Value.int .i64) v1 ra L := irow_of ho
 by_cases hn:L.length=0
 ·have hL0:L=[] := List.eq_nil_of_length_eq_zero hn
  subst hL0
  have HV:Hid (auB d.2.2.2.2.2.2.2.2.1.2.2 p=false) := by show _=_;rw [HA.out];rfl
  clear hn HA hLi hrow ho
  go_wp2
  go_ret
  exact ⟨by rw [HV.out];rfl,BC⟩
 ·obtain ⟨gb,go,rfl,lg,cf0⟩ := hrow 0 (by omega)
  obtain ⟨gb2,go2,eg,_,cl0⟩ := hrow (L.length - 1) (by omega)
  simp only [Option.some.injEq,Addr.mk.injEq,and_true] at eg
  obtain ⟨rfl,rfl⟩ := eg
  obtain ⟨i1,e1,hi1⟩ := hLi _ (List.getElem_mem (by omega:0 < L.length))
  obtain ⟨i2,e2,hi2⟩ := hLi _ (List.getElem_mem (by omega:L.length - 1 < L.length))
  have HV:Hid (auB d.2.2.2.2.2.2.2.2.1.2.2 p=(decide (ceE d.2.2.2.2.2.2.2.2.1.2.2[i1]=clQ p) && (decide (ceE d.2.2.2.2.2.2.2.2.1.2.2[i2]=clQ p) && decide (seE d.2.2.2.2.2.2.2.2.1.2.2[i2]=seQ p)))) := by
   show _=_
   rw [HA.out]
   unfold auL
   rw [decide_eq_true (by omega:0 < L.length),Bool.true_and,show L.getD 0 0=(i1:Int) by rw [← e1];simp [List.getD,show 0 < L.length by omega],show L.getD (L.length - 1) 0=(i2:Int) by rw [← e2];simp [List.getD,show L.length - 1 < L.length by omega],evAt_at hi1,evAt_at hi2]
  rw [e1] at cf0
  rw [e2] at cl0
  obtain ⟨lb,lo,ela,ll,_⟩ := hfr i1 hi1
  have HLA:Hid (d.2.2.2.2.2.2.2.2.1.1=some ⟨lb,lo,none⟩) := ela
  have fr:FRow 11 cE v1.drew (some ⟨lb,lo,none⟩) d.2.2.2.2.2.2.2.2.1.2.2 := by rw [← ela];exact (hfr.later BC).drew
  have cf:v1.drew.cell? ⟨gb,go,none⟩=some (.int .i64 (i1:Int)) := cf0
  have cl:v1.drew.cell? ⟨gb,go + (L.length - 1),none⟩=some (.int .i64 (i2:Int)) := cl0
  have HWR:Hid (IntKind.i64.wrap ((L.length:Int) - 1)=((L.length - 1:Nat):Int)) := by show _=_;rw [IntKind.wrap_i64];omega
  have hn1:((L.length - 1:Nat):Int) < (L.length:Int) := by omega
  have hn0:(0:Int) < (L.length:Int) := by omega
  have hj1:(i1:Int) < (d.2.2.2.2.2.2.2.2.1.2.2.length:Int) := by omega
  have hj2:(i2:Int) < (d.2.2.2.2.2.2.2.2.1.2.2.length:Int) := by omega
  have lD:w.heap.size < v1.drew.heap.size := TD.lt
  have lg2:gb < v1.drew.heap.size := lg
  have hp0:0 < L.length := by omega
  clear e1 e2 cf0 cl0 HA hLi hrow ho hfr ela
  go_wp2_with fail
  refine wp_region_held_drew (S := (fun U:World=>Blk w.heap.size [.slice d.1.1.1 d.1.1.2.2.length d.1.1.2.1,.slice d.1.2.1.1 d.1.2.1.2.2.length d.1.2.1.2.1,.slice d.1.2.2.1.1 d.1.2.2.1.2.2.length d.1.2.2.1.2.1,.slice d.1.2.2.2.1.1 d.1.2.2.2.1.2.2.length d.1.2.2.2.1.2.1,.int .i64 d.1.2.2.2.2,.int .i64 d.2.1,.int .i64 d.2.2.1,.slice d.2.2.2.1.1 d.2.2.2.1.2.2.length d.2.2.2.1.2.1,.slice d.2.2.2.2.1.1.1 d.2.2.2.2.1.1.2.2.length d.2.2.2.2.1.1.2.1,.slice d.2.2.2.2.1.2.1 d.2.2.2.2.1.2.2.2.length d.2.2.2.2.1.2.2.1,.slice d.2.2.2.2.2.1.1 d.2.2.2.2.2.1.2.2.length d.2.2.2.2.2.1.2.1,.slice d.2.2.2.2.2.2.1.1 d.2.2.2.2.2.2.1.2.2.length d.2.2.2.2.2.2.1.2.1,.slice d.2.2.2.2.2.2.2.1.1 d.2.2.2.2.2.2.2.1.2.2.length d.2.2.2.2.2.2.2.1.2.1,.slice d.2.2.2.2.2.2.2.2.1.1 d.2.2.2.2.2.2.2.2.1.2.2.length d.2.2.2.2.2.2.2.2.1.2.1,.slice d.2.2.2.2.2.2.2.2.2.1.1 d.2.2.2.2.2.2.2.2.2.1.2.2.length d.2.2.2.2.2.2.2.2.2.1.2.1,.slice d.2.2.2.2.2.2.2.2.2.2.1 d.2.2.2.2.2.2.2.2.2.2.2.2.length d.2.2.2.2.2.2.2.2.2.2.2.1] U∧U.cell? ⟨gb,go,none⟩=some (.int .i64 (i1:Int))∧U.cell? ⟨gb,go + (L.length - 1),none⟩=some (.int .i64 (i2:Int))∧FRow 11 cE U (some ⟨lb,lo,none⟩) d.2.2.2.2.2.2.2.2.1.2.2)) (by kernel_rfl) ⟨TD.drew,cf,cl,fr⟩ (fun hHeld=>?_)
  refine take_one 0 16 (v := ?_) rfl rfl (by kernel_rfl) (by kernel_rfl) (by kernel_rfl) (fun _ _ _ h=>h) (Or.inl ⟨by rfl,?_⟩) hHeld ?_
  rotate_left
  ·intro w' hSw;(try dsimp only at hSw);obtain ⟨bD,cF,cL,fR⟩ := hSw;have l8 := bD.at 13 rfl;rw [HLA.out] at l8;have hwr := HWR.out;go_simp;try with_reducible rfl
  try simp only [Act.put,List.setIfInBounds_toArray,List.set_cons_zero,List.set_cons_succ]
  refine take_one 1 17 (v := ?_) rfl rfl (by kernel_rfl) (by kernel_rfl) (by kernel_rfl) (fun _ _ _ h=>h) (Or.inl ⟨by rfl,?_⟩) hHeld ?_
  rotate_left
  ·intro w' hSw;(try dsimp only at hSw);obtain ⟨bD,cF,cL,fR⟩ := hSw;have l8 := bD.at 13 rfl;rw [HLA.out] at l8;have hwr := HWR.out;go_simp;try with_reducible rfl
  try simp only [Act.put,List.setIfInBounds_toArray,List.set_cons_zero,List.set_cons_succ]
  refine take_one 2 18 (v := ?_) rfl rfl (by kernel_rfl) (by kernel_rfl) (by kernel_rfl) (fun _ _ _ h=>h) (Or.inl ⟨by rfl,?_⟩) hHeld ?_
  rotate_left
  ·intro w' hSw;(try dsimp only at hSw);obtain ⟨bD,cF,cL,fR⟩ := hSw;have l8 := bD.at 13 rfl;rw [HLA.out] at l8;have hwr := HWR.out;go_simp;try with_reducible rfl
  try simp only [Act.put,List.setIfInBounds_toArray,List.set_cons_zero,List.set_cons_succ]
  refine take_one 3 19 (v := ?_) rfl rfl (by kernel_rfl) (by kernel_rfl) (by kernel_rfl) (fun _ _ _ h=>h) (Or.inl ⟨by rfl,?_⟩) hHeld ?_
  rotate_left
  ·intro w' hSw;(try dsimp only at hSw);obtain ⟨bD,cF,cL,fR⟩ := hSw;have l8 := bD.at 13 rfl;rw [HLA.out] at l8;have hwr := HWR.out;go_simp;try with_reducible rfl
  try simp only [Act.put,List.setIfInBounds_toArray,List.set_cons_zero,List.set_cons_succ]
  refine take_one 4 20 (v := ?_) rfl rfl (by kernel_rfl) (by kernel_rfl) (by kernel_rfl) (fun _ _ _ h=>h) (Or.inl ⟨by rfl,?_⟩) hHeld ?_
  rotate_left
  ·intro w' hSw;(try dsimp only at hSw);obtain ⟨bD,cF,cL,fR⟩ := hSw;have l8 := bD.at 13 rfl;rw [HLA.out] at l8;have hwr := HWR.out;go_simp;try with_reducible rfl
  try simp only [Act.put,List.setIfInBounds_toArray,List.set_cons_zero,List.set_cons_succ]
  refine take_one 5 21 (v := ?_) rfl rfl (by kernel_rfl) (by kernel_rfl) (by kernel_rfl) (fun _ _ _ h=>h) (Or.inl ⟨by rfl,?_⟩) hHeld ?_
  rotate_left
  ·intro w' hSw;(try dsimp only at hSw);obtain ⟨bD,cF,cL,fR⟩ := hSw;have l8 := bD.at 13 rfl;rw [HLA.out] at l8;have hwr := HWR.out;go_simp;try with_reducible rfl
  try simp only [Act.put,List.setIfInBounds_toArray,List.set_cons_zero,List.set_cons_succ]
  refine take_one 6 22 (v := .agg (cE d.2.2.2.2.2.2.2.2.1.2.2[i1]).toArray) rfl rfl (by kernel_rfl) (by kernel_rfl) (by kernel_rfl) (fun _ _ _ h=>h) (Or.inl ⟨by rfl,?_⟩) hHeld ?_
  ·intro w' hSw;(try dsimp only at hSw);obtain ⟨bD,cF,cL,fR⟩ := hSw;exact exec_ld 109 _ rfl rfl (ld_row iv hiv hivs fR hi1)
  try simp only [Act.put,List.setIfInBounds_toArray,List.set_cons_zero,List.set_cons_succ]
  refine take_one 7 23 (v := ?_) rfl rfl (by kernel_rfl) (by kernel_rfl) (by kernel_rfl) (fun _ _ _ h=>h) (Or.inl ⟨by rfl,?_⟩) hHeld ?_
  rotate_left
  ·intro w' hSw;(try dsimp only at hSw);obtain ⟨bD,cF,cL,fR⟩ := hSw;have l8 := bD.at 13 rfl;rw [HLA.out] at l8;have hwr := HWR.out;go_simp;try with_reducible rfl
  try simp only [Act.put,List.setIfInBounds_toArray,List.set_cons_zero,List.set_cons_succ]
  refine take_one 8 24 (v := ?_) rfl rfl (by kernel_rfl) (by kernel_rfl) (by kernel_rfl) (fun _ _ _ h=>h) (Or.inl ⟨by rfl,?_⟩) hHeld ?_
  rotate_left
  ·intro w' hSw;(try dsimp only at hSw);obtain ⟨bD,cF,cL,fR⟩ := hSw;have l8 := bD.at 13 rfl;rw [HLA.out] at l8;have hwr := HWR.out;go_simp;try with_reducible rfl
  try simp only [Act.put,List.setIfInBounds_toArray,List.set_cons_zero,List.set_cons_succ]
  refine take_one 9 25 (v := ?_) rfl rfl (by kernel_rfl) (by kernel_rfl) (by kernel_rfl) (fun _ _ _ h=>h) (Or.inl ⟨by rfl,?_⟩) hHeld ?_
  rotate_left
  ·intro w' hSw;(try dsimp only at hSw);obtain ⟨bD,cF,cL,fR⟩ := hSw;have l8 := bD.at 13 rfl;rw [HLA.out] at l8;have hwr := HWR.out;go_simp;try with_reducible rfl
  try simp only [Act.put,List.setIfInBounds_toArray,List.set_cons_zero,List.set_cons_succ]
  refine take_one 10 26 (v := ?_) rfl rfl (by kernel_rfl) (by kernel_rfl) (by kernel_rfl) (fun _ _ _ h=>h) (Or.inl ⟨by rfl,?_⟩) hHeld ?_
  rotate_left
  ·intro w' hSw;(try dsimp only at hSw);obtain ⟨bD,cF,cL,fR⟩ := hSw;have l8 := bD.at 13 rfl;rw [HLA.out] at l8;have hwr := HWR.out;go_simp;try with_reducible rfl
  try simp only [Act.put,List.setIfInBounds_toArray,List.set_cons_zero,List.set_cons_succ]
  refine take_one 11 27 (v := ?_) rfl rfl (by kernel_rfl) (by kernel_rfl) (by kernel_rfl) (fun _ _ _ h=>h) (Or.inl ⟨by rfl,?_⟩) hHeld ?_
  rotate_left
  ·intro w' hSw;(try dsimp only at hSw);obtain ⟨bD,cF,cL,fR⟩ := hSw;have l8 := bD.at 13 rfl;rw [HLA.out] at l8;have hwr := HWR.out;go_simp;try with_reducible rfl
  try simp only [Act.put,List.setIfInBounds_toArray,List.set_cons_zero,List.set_cons_succ]
  refine take_one 12 28 (v := ?_) rfl rfl (by kernel_rfl) (by kernel_rfl) (by kernel_rfl) (fun _ _ _ h=>h) (Or.inl ⟨by rfl,?_⟩) hHeld ?_
  rotate_left
  ·intro w' hSw;(try dsimp only at hSw);obtain ⟨bD,cF,cL,fR⟩ := hSw;have l8 := bD.at 13 rfl;rw [HLA.out] at l8;have hwr := HWR.out;go_simp;try with_reducible rfl
  try simp only [Act.put,List.setIfInBounds_toArray,List.set_cons_zero,List.set_cons_succ]
  refine take_one 13 29 (v := ?_) rfl rfl (by kernel_rfl) (by kernel_rfl) (by kernel_rfl) (fun _ _ _ h=>h) (Or.inl ⟨by rfl,?_⟩) hHeld ?_
  rotate_left
  ·intro w' hSw;(try dsimp only at hSw);obtain ⟨bD,cF,cL,fR⟩ := hSw;have l8 := bD.at 13 rfl;rw [HLA.out] at l8;have hwr := HWR.out;go_simp;try with_reducible rfl
  try simp only [Act.put,List.setIfInBounds_toArray,List.set_cons_zero,List.set_cons_succ]
  refine take_one 14 30 (v := ?_) rfl rfl (by kernel_rfl) (by kernel_rfl) (by kernel_rfl) (fun _ _ _ h=>h) (Or.inl ⟨by rfl,?_⟩) hHeld ?_
  rotate_left
  ·intro w' hSw;(try dsimp only at hSw);obtain ⟨bD,cF,cL,fR⟩ := hSw;have l8 := bD.at 13 rfl;rw [HLA.out] at l8;have hwr := HWR.out;go_simp;try with_reducible rfl
  try simp only [Act.put,List.setIfInBounds_toArray,List.set_cons_zero,List.set_cons_succ]
  refine take_one 15 31 (v := ?_) rfl rfl (by kernel_rfl) (by kernel_rfl) (by kernel_rfl) (fun _ _ _ h=>h) (Or.inl ⟨by rfl,?_⟩) hHeld ?_
  rotate_left
  ·intro w' hSw;(try dsimp only at hSw);obtain ⟨bD,cF,cL,fR⟩ := hSw;have l8 := bD.at 13 rfl;rw [HLA.out] at l8;have hwr := HWR.out;go_simp;try with_reducible rfl
  try simp only [Act.put,List.setIfInBounds_toArray,List.set_cons_zero,List.set_cons_succ]
  refine take_one 16 32 (v := .agg (cE d.2.2.2.2.2.2.2.2.1.2.2[i2]).toArray) rfl rfl (by kernel_rfl) (by kernel_rfl) (by kernel_rfl) (fun _ _ _ h=>h) (Or.inl ⟨by rfl,?_⟩) hHeld ?_
  ·intro w' hSw;(try dsimp only at hSw);obtain ⟨bD,cF,cL,fR⟩ := hSw;exact exec_ld 109 _ rfl rfl (ld_row iv hiv hivs fR hi2)
  try simp only [Act.put,List.setIfInBounds_toArray,List.set_cons_zero,List.set_cons_succ]
  have SB:∀ U:World,Below v1.drew.heap.size v1.drew U→(Blk w.heap.size [.slice d.1.1.1 d.1.1.2.2.length d.1.1.2.1,.slice d.1.2.1.1 d.1.2.1.2.2.length d.1.2.1.2.1,.slice d.1.2.2.1.1 d.1.2.2.1.2.2.length d.1.2.2.1.2.1,.slice d.1.2.2.2.1.1 d.1.2.2.2.1.2.2.length d.1.2.2.2.1.2.1,.int .i64 d.1.2.2.2.2,.int .i64 d.2.1,.int .i64 d.2.2.1,.slice d.2.2.2.1.1 d.2.2.2.1.2.2.length d.2.2.2.1.2.1,.slice d.2.2.2.2.1.1.1 d.2.2.2.2.1.1.2.2.length d.2.2.2.2.1.1.2.1,.slice d.2.2.2.2.1.2.1 d.2.2.2.2.1.2.2.2.length d.2.2.2.2.1.2.2.1,.slice d.2.2.2.2.2.1.1 d.2.2.2.2.2.1.2.2.length d.2.2.2.2.2.1.2.1,.slice d.2.2.2.2.2.2.1.1 d.2.2.2.2.2.2.1.2.2.length d.2.2.2.2.2.2.1.2.1,.slice d.2.2.2.2.2.2.2.1.1 d.2.2.2.2.2.2.2.1.2.2.length d.2.2.2.2.2.2.2.1.2.1,.slice d.2.2.2.2.2.2.2.2.1.1 d.2.2.2.2.2.2.2.2.1.2.2.length d.2.2.2.2.2.2.2.2.1.2.1,.slice d.2.2.2.2.2.2.2.2.2.1.1 d.2.2.2.2.2.2.2.2.2.1.2.2.length d.2.2.2.2.2.2.2.2.2.1.2.1,.slice d.2.2.2.2.2.2.2.2.2.2.1 d.2.2.2.2.2.2.2.2.2.2.2.2.length d.2.2.2.2.2.2.2.2.2.2.2.1] U∧U.cell? ⟨gb,go,none⟩=some (.int .i64 (i1:Int))∧U.cell? ⟨gb,go + (L.length - 1),none⟩=some (.int .i64 (i2:Int))∧FRow 11 cE U (some ⟨lb,lo,none⟩) d.2.2.2.2.2.2.2.2.1.2.2) := fun U h=>⟨TD.drew.later h lD,(h.cell (p := ⟨gb,go,none⟩) lg2).trans cf,(h.cell (p := ⟨gb,go + (L.length - 1),none⟩) lg2).trans cl,fr.later h⟩
  have TQ0 := TQ.drew
  have BC0:Below w.heap.size w v1.drew := BC.drew
  clear TD TQ BC cf cl fr lD lg2 hn1 hn0 hj1 hj2 HWR HLA hp0 hn lg ll
  generalize v1.drew=U0 at SB TQ0 BC0 hHeld ⊢
  generalize d.2.2.2.2.2.2.2.2.1.2.2[i1]=y1 at HV ⊢
  generalize d.2.2.2.2.2.2.2.2.1.2.2[i2]=y2 at HV ⊢
  refine wpAnyH_ready (rs := [17,18]) (by kernel_rfl) (by simp) ?_
  refine AllReadyH.cons (i := 17) rfl (fun K hK=>?_) (AllReadyH.cons (i := 18) rfl (fun K hK=>?_) AllReadyH.nil)
  ·
   obtain ⟨X1,hX1⟩:∃ X,U0.alloc (.cells #[.int .i64 0,.int .i64 0,.int .i64 0,.int .i64 0,.int .i64 0,.int .i64 0,.int .i64 0,.int .i64 0,.int .i64 0,.int .i64 0,.int .i64 0] 109)=X := ⟨_,rfl⟩
   have bn:Below U0.heap.size U0 X1 := by rw [← hX1];exact (Below.refl _ _).alloc (Nat.le_refl _) _
   have F6:Blk U0.heap.size [.int .i64 0,.int .i64 0,.int .i64 0,.int .i64 0,.int .i64 0,.int .i64 0,.int .i64 0,.int .i64 0,.int .i64 0,.int .i64 0,.int .i64 0] X1 := by rw [← hX1];exact Blk.new _ _ _
   have sX1:U0.heap.size < X1.heap.size := F6.lt
   have bX1:Below U0.heap.size U0 X1 := bn
   clear bn
   go_simp
   refine hK.out _ _ (by (try rw [hX1]);exact SB X1 bX1) (fun hHeld2=>?_)
   clear hK K hHeld
   have hHeld := hHeld2
   clear hHeld2
   try simp only [Act.put,List.setIfInBounds_toArray,List.set_cons_zero,List.set_cons_succ]
   try rw [hX1]
   try rw [hX1] at hHeld
   clear hX1
   refine wpAnyH_ready (rs := [18]) (by kernel_rfl) (by simp) ?_
   refine AllReadyH.cons (i := 18) rfl (fun K hK=>?_) AllReadyH.nil
   obtain ⟨X2,hX2⟩:∃ X,X1.alloc (.cells #[.int .i64 0,.int .i64 0,.int .i64 0,.int .i64 0,.int .i64 0,.int .i64 0,.int .i64 0,.int .i64 0,.int .i64 0,.int .i64 0,.int .i64 0] 109)=X := ⟨_,rfl⟩
   have bn:Below X1.heap.size X1 X2 := by rw [← hX2];exact (Below.refl _ _).alloc (Nat.le_refl _) _
   replace F6 := F6.later bn F6.lt
   have F7:Blk X1.heap.size [.int .i64 0,.int .i64 0,.int .i64 0,.int .i64 0,.int .i64 0,.int .i64 0,.int .i64 0,.int .i64 0,.int .i64 0,.int .i64 0,.int .i64 0] X2 := by rw [← hX2];exact Blk.new _ _ _
   have sX2:X1.heap.size < X2.heap.size := F7.lt
   have bX2:Below U0.heap.size U0 X2 := bX1.trans (bn.mono bX1.size)
   clear bn
   go_simp
   refine hK.out _ _ (by (try rw [hX2]);exact SB X2 bX2) (fun hHeld2=>?_)
   clear hK K hHeld
   have hHeld := hHeld2
   clear hHeld2
   try simp only [Act.put,List.setIfInBounds_toArray,List.set_cons_zero,List.set_cons_succ]
   try rw [hX2]
   try rw [hX2] at hHeld
   clear hX2
   refine wpAnyH_ready (rs := [19]) (by kernel_rfl) (by simp) ?_
   refine AllReadyH.cons (i := 19) rfl (fun K hK=>?_) AllReadyH.nil
   obtain ⟨X3,hX3⟩:∃ X,X2.setCells U0.heap.size 0 (cE y1)=X := ⟨_,rfl⟩
   have bX3:Below U0.heap.size U0 X3 := by rw [← hX3];exact below_sets (by omega) _ _ _ bX2
   have sX3:X2.heap.size≤X3.heap.size := by rw [← hX3];exact (sets_grown _ _ _ _).size
   replace F7:Blk (X1.heap.size) [.int .i64 0,.int .i64 0,.int .i64 0,.int .i64 0,.int .i64 0,.int .i64 0,.int .i64 0,.int .i64 0,.int .i64 0,.int .i64 0,.int .i64 0] X3 := by rw [← hX3];exact Blk.farS (by omega) _ _ _ F7
   refine stepB 109 _ _ (U0.heap.size) 0 _ (cE y1) iv hiv F6 hivs.symm (by show 0 + 11≤11;omega) rfl rfl rfl rfl rfl ?_
   replace F6:Blk (U0.heap.size) (cE y1) X3 := by rw [← hX3];exact F6.sets _ rfl
   try rw [hX3]
   refine hK.out _ _ (by (try rw [hX3]);exact SB X3 bX3) (fun hHeld2=>?_)
   clear hK K hHeld
   have hHeld := hHeld2
   clear hHeld2
   try simp only [Act.put,List.setIfInBounds_toArray]
   try rw [hX3]
   try rw [hX3] at hHeld
   clear hX3
   refine wpAnyH_ready (rs := [20]) (by kernel_rfl) (by simp) ?_
   refine AllReadyH.cons (i := 20) rfl (fun K hK=>?_) AllReadyH.nil
   obtain ⟨X4,hX4⟩:∃ X,X3.setCells X1.heap.size 0 (cE y2)=X := ⟨_,rfl⟩
   have bX4:Below U0.heap.size U0 X4 := by rw [← hX4];exact below_sets (by omega) _ _ _ bX3
   have sX4:X3.heap.size≤X4.heap.size := by rw [← hX4];exact (sets_grown _ _ _ _).size
   replace F6:Blk (U0.heap.size) (cE y1) X4 := by rw [← hX4];exact Blk.farS (by omega) _ _ _ F6
   refine stepB 109 _ _ (X1.heap.size) 0 _ (cE y2) iv hiv F7 hivs.symm (by show 0 + 11≤11;omega) rfl rfl rfl rfl rfl ?_
   replace F7:Blk (X1.heap.size) (cE y2) X4 := by rw [← hX4];exact F7.sets _ rfl
   try rw [hX4]
   refine hK.out _ _ (by (try rw [hX4]);exact SB X4 bX4) (fun hHeld2=>?_)
   clear hK K hHeld
   have hHeld := hHeld2
   clear hHeld2
   try simp only [Act.put]
   try rw [hX4]
   try rw [hX4] at hHeld
   clear hX4
   refine wpAnyH_done (by kernel_rfl) ?_ _
   have TQ9 := TQ0.later bX4 TQ0.lt
   have B9:Below w.heap.size w X4 := BC0.trans (bX4.mono BC0.size)
   have a3 := F6.at 3 rfl
   have c3 := F7.at 3 rfl
   have c4 := F7.at 4 rfl
   have q0 := TQ9.at 0 rfl
   have q1 := TQ9.at 1 rfl
   clear hHeld F6 F7 TQ9 SB
   by_cases t1:y1.2.2.2.1=p.2.1
   ·have m1:(y1.2.2.2.1 == p.2.1)=true := beq_iff_eq.2 t1
    by_cases t2:y2.2.2.2.1=p.2.1
    ·have m2:(y2.2.2.2.1 == p.2.1)=true := beq_iff_eq.2 t2
     by_cases t3:y2.2.2.2.2.1=p.1
     ·have m3:(y2.2.2.2.2.1 == p.1)=true := beq_iff_eq.2 t3
      have HV2:Hid (auB d.2.2.2.2.2.2.2.2.1.2.2 p=true) := by show _=_;rw [HV.out];simp [t1,t2,t3]
      clear HV t1 t2 t3
      go_wp2
      go_ret
      exact ⟨by rw [HV2.out];rfl,B9⟩
     ·have m3:(y2.2.2.2.2.1 == p.1)=false := beq_eq_false_iff_ne.2 t3
      have HV2:Hid (auB d.2.2.2.2.2.2.2.2.1.2.2 p=false) := by show _=_;rw [HV.out];simp [t1,t2,t3]
      clear HV t1 t2 t3
      go_wp2
      go_ret
      exact ⟨by rw [HV2.out];rfl,B9⟩
    ·have m2:(y2.2.2.2.1 == p.2.1)=false := beq_eq_false_iff_ne.2 t2
     have HV2:Hid (auB d.2.2.2.2.2.2.2.2.1.2.2 p=false) := by show _=_;rw [HV.out];simp [t1,t2]
     clear HV t1 t2
     go_wp2
     go_ret
     exact ⟨by rw [HV2.out];rfl,B9⟩
   ·have m1:(y1.2.2.2.1 == p.2.1)=false := beq_eq_false_iff_ne.2 t1
    have HV2:Hid (auB d.2.2.2.2.2.2.2.2.1.2.2 p=false) := by show _=_;rw [HV.out];simp [t1]
    clear HV t1
    go_wp2
    go_ret
    exact ⟨by rw [HV2.out];rfl,B9⟩
  ·
   obtain ⟨X1,hX1⟩:∃ X,U0.alloc (.cells #[.int .i64 0,.int .i64 0,.int .i64 0,.int .i64 0,.int .i64 0,.int .i64 0,.int .i64 0,.int .i64 0,.int .i64 0,.int .i64 0,.int .i64 0] 109)=X := ⟨_,rfl⟩
   have bn:Below U0.heap.size U0 X1 := by rw [← hX1];exact (Below.refl _ _).alloc (Nat.le_refl _) _
   have F7:Blk U0.heap.size [.int .i64 0,.int .i64 0,.int .i64 0,.int .i64 0,.int .i64 0,.int .i64 0,.int .i64 0,.int .i64 0,.int .i64 0,.int .i64 0,.int .i64 0] X1 := by rw [← hX1];exact Blk.new _ _ _
   have sX1:U0.heap.size < X1.heap.size := F7.lt
   have bX1:Below U0.heap.size U0 X1 := bn
   clear bn
   go_simp
   refine hK.out _ _ (by (try rw [hX1]);exact SB X1 bX1) (fun hHeld2=>?_)
   clear hK K hHeld
   have hHeld := hHeld2
   clear hHeld2
   try simp only [Act.put,List.setIfInBounds_toArray,List.set_cons_zero,List.set_cons_succ]
   try rw [hX1]
   try rw [hX1] at hHeld
   clear hX1
   refine wpAnyH_ready (rs := [17]) (by kernel_rfl) (by simp) ?_
   refine AllReadyH.cons (i := 17) rfl (fun K hK=>?_) AllReadyH.nil
   obtain ⟨X2,hX2⟩:∃ X,X1.alloc (.cells #[.int .i64 0,.int .i64 0,.int .i64 0,.int .i64 0,.int .i64 0,.int .i64 0,.int .i64 0,.int .i64 0,.int .i64 0,.int .i64 0,.int .i64 0] 109)=X := ⟨_,rfl⟩
   have bn:Below X1.heap.size X1 X2 := by rw [← hX2];exact (Below.refl _ _).alloc (Nat.le_refl _) _
   replace F7 := F7.later bn F7.lt
   have F6:Blk X1.heap.size [.int .i64 0,.int .i64 0,.int .i64 0,.int .i64 0,.int .i64 0,.int .i64 0,.int .i64 0,.int .i64 0,.int .i64 0,.int .i64 0,.int .i64 0] X2 := by rw [← hX2];exact Blk.new _ _ _
   have sX2:X1.heap.size < X2.heap.size := F6.lt
   have bX2:Below U0.heap.size U0 X2 := bX1.trans (bn.mono bX1.size)
   clear bn
   go_simp
   refine hK.out _ _ (by (try rw [hX2]);exact SB X2 bX2) (fun hHeld2=>?_)
   clear hK K hHeld
   have hHeld := hHeld2
   clear hHeld2
   try simp only [Act.put,List.setIfInBounds_toArray,List.set_cons_zero,List.set_cons_succ]
   try rw [hX2]
   try rw [hX2] at hHeld
   clear hX2
   refine wpAnyH_ready (rs := [19]) (by kernel_rfl) (by simp) ?_
   refine AllReadyH.cons (i := 19) rfl (fun K hK=>?_) AllReadyH.nil
   obtain ⟨X3,hX3⟩:∃ X,X2.setCells X1.heap.size 0 (cE y1)=X := ⟨_,rfl⟩
   have bX3:Below U0.heap.size U0 X3 := by rw [← hX3];exact below_sets (by omega) _ _ _ bX2
   have sX3:X2.heap.size≤X3.heap.size := by rw [← hX3];exact (sets_grown _ _ _ _).size
   replace F7:Blk (U0.heap.size) [.int .i64 0,.int .i64 0,.int .i64 0,.int .i64 0,.int .i64 0,.int .i64 0,.int .i64 0,.int .i64 0,.int .i64 0,.int .i64 0,.int .i64 0] X3 := by rw [← hX3];exact Blk.farS (by omega) _ _ _ F7
   refine stepB 109 _ _ (X1.heap.size) 0 _ (cE y1) iv hiv F6 hivs.symm (by show 0 + 11≤11;omega) rfl rfl rfl rfl rfl ?_
   replace F6:Blk (X1.heap.size) (cE y1) X3 := by rw [← hX3];exact F6.sets _ rfl
   try rw [hX3]
   refine hK.out _ _ (by (try rw [hX3]);exact SB X3 bX3) (fun hHeld2=>?_)
   clear hK K hHeld
   have hHeld := hHeld2
   clear hHeld2
   try simp only [Act.put,List.setIfInBounds_toArray]
   try rw [hX3]
   try rw [hX3] at hHeld
   clear hX3
   refine wpAnyH_ready (rs := [20]) (by kernel_rfl) (by simp) ?_
   refine AllReadyH.cons (i := 20) rfl (fun K hK=>?_) AllReadyH.nil
   obtain ⟨X4,hX4⟩:∃ X,X3.setCells U0.heap.size 0 (cE y2)=X := ⟨_,rfl⟩
   have bX4:Below U0.heap.size U0 X4 := by rw [← hX4];exact below_sets (by omega) _ _ _ bX3
   have sX4:X3.heap.size≤X4.heap.size := by rw [← hX4];exact (sets_grown _ _ _ _).size
   replace F6:Blk (X1.heap.size) (cE y1) X4 := by rw [← hX4];exact Blk.farS (by omega) _ _ _ F6
   refine stepB 109 _ _ (U0.heap.size) 0 _ (cE y2) iv hiv F7 hivs.symm (by show 0 + 11≤11;omega) rfl rfl rfl rfl rfl ?_
   replace F7:Blk (U0.heap.size) (cE y2) X4 := by rw [← hX4];exact F7.sets _ rfl
   try rw [hX4]
   refine hK.out _ _ (by (try rw [hX4]);exact SB X4 bX4) (fun hHeld2=>?_)
   clear hK K hHeld
   have hHeld := hHeld2
   clear hHeld2
   try simp only [Act.put]
   try rw [hX4]
   try rw [hX4] at hHeld
   clear hX4
   refine wpAnyH_done (by kernel_rfl) ?_ _
   have TQ9 := TQ0.later bX4 TQ0.lt
   have B9:Below w.heap.size w X4 := BC0.trans (bX4.mono BC0.size)
   have a3 := F6.at 3 rfl
   have c3 := F7.at 3 rfl
   have c4 := F7.at 4 rfl
   have q0 := TQ9.at 0 rfl
   have q1 := TQ9.at 1 rfl
   clear hHeld F6 F7 TQ9 SB
   by_cases t1:y1.2.2.2.1=p.2.1
   ·have m1:(y1.2.2.2.1 == p.2.1)=true := beq_iff_eq.2 t1
    by_cases t2:y2.2.2.2.1=p.2.1
    ·have m2:(y2.2.2.2.1 == p.2.1)=true := beq_iff_eq.2 t2
     by_cases t3:y2.2.2.2.2.1=p.1
     ·have m3:(y2.2.2.2.2.1 == p.1)=true := beq_iff_eq.2 t3
      have HV2:Hid (auB d.2.2.2.2.2.2.2.2.1.2.2 p=true) := by show _=_;rw [HV.out];simp [t1,t2,t3]
      clear HV t1 t2 t3
      go_wp2
      go_ret
      exact ⟨by rw [HV2.out];rfl,B9⟩
     ·have m3:(y2.2.2.2.2.1 == p.1)=false := beq_eq_false_iff_ne.2 t3
      have HV2:Hid (auB d.2.2.2.2.2.2.2.2.1.2.2 p=false) := by show _=_;rw [HV.out];simp [t1,t2,t3]
      clear HV t1 t2 t3
      go_wp2
      go_ret
      exact ⟨by rw [HV2.out];rfl,B9⟩
    ·have m2:(y2.2.2.2.1 == p.2.1)=false := beq_eq_false_iff_ne.2 t2
     have HV2:Hid (auB d.2.2.2.2.2.2.2.2.1.2.2 p=false) := by show _=_;rw [HV.out];simp [t1,t2]
     clear HV t1 t2
     go_wp2
     go_ret
     exact ⟨by rw [HV2.out];rfl,B9⟩
   ·have m1:(y1.2.2.2.1 == p.2.1)=false := beq_eq_false_iff_ne.2 t1
    have HV2:Hid (auB d.2.2.2.2.2.2.2.2.1.2.2 p=false) := by show _=_;rw [HV.out];simp [t1]
    clear HV t1
    go_wp2
    go_ret
    exact ⟨by rw [HV2.out];rfl,B9⟩
end Go.Proofs.YtjcmbbnklfemcaaGreat.Nd

set_option linter.unusedVariables false
set_option maxRecDepth 100000
namespace Go.Proofs.YtjcmbbnklfemcaaGreat.Nd
open Go Go.RowKit Go.Joins Own Draw Term
def evB (d:TD) (p:TQ):Bool := !(honB d p) || auB d.2.2.2.2.2.2.2.2.1.2.2 p
structure WdI (d:TD):Prop where
 ev:∀ e∈d.2.2.2.2.2.2.2.2.1.2.2,i64 (kyE e)∧i64 (paE e)∧i64 (evE e)
 ac:∀ q∈d.2.2.2.2.2.2.2.2.2.1.2.2,i64 (kyQ q)
set_option maxRecDepth 100000 in
set_option maxHeartbeats 6400000 in
theorem every1_is (wb fb:Nat) (B:Nat) (d:TD) (p:TQ) (w:World) (hd:WdOk B w d) (hw:wokB d=true) (hI:WdI d) (hp:p∈d.2.2.2.2.2.2.2.2.2.1.2.2) (TW:Blk wb [.slice d.1.1.1 d.1.1.2.2.length d.1.1.2.1,.slice d.1.2.1.1 d.1.2.1.2.2.length d.1.2.1.2.1,.slice d.1.2.2.1.1 d.1.2.2.1.2.2.length d.1.2.2.1.2.1,.slice d.1.2.2.2.1.1 d.1.2.2.2.1.2.2.length d.1.2.2.2.1.2.1,.int .i64 d.1.2.2.2.2,.int .i64 d.2.1,.int .i64 d.2.2.1,.slice d.2.2.2.1.1 d.2.2.2.1.2.2.length d.2.2.2.1.2.1,.slice d.2.2.2.2.1.1.1 d.2.2.2.2.1.1.2.2.length d.2.2.2.2.1.1.2.1,.slice d.2.2.2.2.1.2.1 d.2.2.2.2.1.2.2.2.length d.2.2.2.2.1.2.2.1,.slice d.2.2.2.2.2.1.1 d.2.2.2.2.2.1.2.2.length d.2.2.2.2.2.1.2.1,.slice d.2.2.2.2.2.2.1.1 d.2.2.2.2.2.2.1.2.2.length d.2.2.2.2.2.2.1.2.1,.slice d.2.2.2.2.2.2.2.1.1 d.2.2.2.2.2.2.2.1.2.2.length d.2.2.2.2.2.2.2.1.2.1,.slice d.2.2.2.2.2.2.2.2.1.1 d.2.2.2.2.2.2.2.2.1.2.2.length d.2.2.2.2.2.2.2.2.1.2.1,.slice d.2.2.2.2.2.2.2.2.2.1.1 d.2.2.2.2.2.2.2.2.2.1.2.2.length d.2.2.2.2.2.2.2.2.2.1.2.1,.slice d.2.2.2.2.2.2.2.2.2.2.1 d.2.2.2.2.2.2.2.2.2.2.2.2.length d.2.2.2.2.2.2.2.2.2.2.2.1] w) (hf:w.cell? ⟨fb,0,none⟩=some (.func (.func 60) #[vD d] #[])) (lf:fb < w.heap.size) :
  Calls Tryz.prog 98 #[vQ p,.pointer (some ⟨wb,0,none⟩),.pointer (some ⟨fb,0,none⟩)] w fun e w'=>e=.returned (.bool (evB d p))∧Below w.heap.size w w' := by
 obtain ⟨ie,hie,his⟩ := info_D
 obtain ⟨iq,hiq,hiqs⟩ := info_Q
 obtain ⟨V,hV⟩:∃ V,w.alloc (.cells #[.int .i64 p.1,.int .i64 p.2.1,.int .i64 p.2.2.1,.int .i64 p.2.2.2.1,.int .i64 p.2.2.2.2.1,.int .i64 p.2.2.2.2.2.1.1,.int .i64 p.2.2.2.2.2.1.2.1,.int .i64 p.2.2.2.2.2.1.2.2,.int .i64 p.2.2.2.2.2.2.1.1,.int .i64 p.2.2.2.2.2.2.1.2.1,.int .i64 p.2.2.2.2.2.2.1.2.2,.slice p.2.2.2.2.2.2.2.1.1 p.2.2.2.2.2.2.2.1.2.2.length p.2.2.2.2.2.2.2.1.2.1,.slice p.2.2.2.2.2.2.2.2.1.1 p.2.2.2.2.2.2.2.2.1.2.2.length p.2.2.2.2.2.2.2.2.1.2.1,.int .i64 p.2.2.2.2.2.2.2.2.2.1,.string p.2.2.2.2.2.2.2.2.2.2] 82)=V := ⟨_,rfl⟩
 have TQ:Blk w.heap.size [.int .i64 p.1,.int .i64 p.2.1,.int .i64 p.2.2.1,.int .i64 p.2.2.2.1,.int .i64 p.2.2.2.2.1,.int .i64 p.2.2.2.2.2.1.1,.int .i64 p.2.2.2.2.2.1.2.1,.int .i64 p.2.2.2.2.2.1.2.2,.int .i64 p.2.2.2.2.2.2.1.1,.int .i64 p.2.2.2.2.2.2.1.2.1,.int .i64 p.2.2.2.2.2.2.1.2.2,.slice p.2.2.2.2.2.2.2.1.1 p.2.2.2.2.2.2.2.1.2.2.length p.2.2.2.2.2.2.2.1.2.1,.slice p.2.2.2.2.2.2.2.2.1.1 p.2.2.2.2.2.2.2.2.1.2.2.length p.2.2.2.2.2.2.2.2.1.2.1,.int .i64 p.2.2.2.2.2.2.2.2.2.1,.string p.2.2.2.2.2.2.2.2.2.2] V := by rw [← hV];exact Blk.new _ _ _
 have BC:Below w.heap.size w V := by rw [← hV];exact (Below.refl _ _).alloc (Nat.le_refl _) _
 have TV := TW.later BC TW.lt
 have K1 := honest_is B d p V (hd.later BC) hw hp
 have K2 := fun U (h:Below w.heap.size w U)=>auth_is B d p U (hd.later h) hw hI.ev (hI.ac p hp)
 have hf1 := (BC.cell (p := ⟨fb,0,none⟩) lf).trans hf
 have HE:Hid (evB d p=(!(honB d p) || auB d.2.2.2.2.2.2.2.2.1.2.2 p)) := rfl
 generalize honB d p=h1 at K1 HE
 generalize auB d.2.2.2.2.2.2.2.2.1.2.2 p=h2 at K2 HE
 go_enter Tryz.func98,Tryz.ntmps98
 go_wp2_with (first | (refine wpList_ldB 48 _ wb 0 _ [.slice d.1.1.1 d.1.1.2.2.length d.1.1.2.1,.slice d.1.2.1.1 d.1.2.1.2.2.length d.1.2.1.2.1,.slice d.1.2.2.1.1 d.1.2.2.1.2.2.length d.1.2.2.1.2.1,.slice d.1.2.2.2.1.1 d.1.2.2.2.1.2.2.length d.1.2.2.2.1.2.1,.int .i64 d.1.2.2.2.2,.int .i64 d.2.1,.int .i64 d.2.2.1,.slice d.2.2.2.1.1 d.2.2.2.1.2.2.length d.2.2.2.1.2.1,.slice d.2.2.2.2.1.1.1 d.2.2.2.2.1.1.2.2.length d.2.2.2.2.1.1.2.1,.slice d.2.2.2.2.1.2.1 d.2.2.2.2.1.2.2.2.length d.2.2.2.2.1.2.2.1,.slice d.2.2.2.2.2.1.1 d.2.2.2.2.2.1.2.2.length d.2.2.2.2.2.1.2.1,.slice d.2.2.2.2.2.2.1.1 d.2.2.2.2.2.2.1.2.2.length d.2.2.2.2.2.2.1.2.1,.slice d.2.2.2.2.2.2.2.1.1 d.2.2.2.2.2.2.2.1.2.2.length d.2.2.2.2.2.2.2.1.2.1,.slice d.2.2.2.2.2.2.2.2.1.1 d.2.2.2.2.2.2.2.2.1.2.2.length d.2.2.2.2.2.2.2.2.1.2.1,.slice d.2.2.2.2.2.2.2.2.2.1.1 d.2.2.2.2.2.2.2.2.2.1.2.2.length d.2.2.2.2.2.2.2.2.2.1.2.1,.slice d.2.2.2.2.2.2.2.2.2.2.1 d.2.2.2.2.2.2.2.2.2.2.2.2.length d.2.2.2.2.2.2.2.2.2.2.2.1] ie hie (Tryz.isAgg48) TV his.symm rfl rfl rfl rfl ?_) | (refine wpList_ldB 82 _ w.heap.size 0 _ [.int .i64 p.1,.int .i64 p.2.1,.int .i64 p.2.2.1,.int .i64 p.2.2.2.1,.int .i64 p.2.2.2.2.1,.int .i64 p.2.2.2.2.2.1.1,.int .i64 p.2.2.2.2.2.1.2.1,.int .i64 p.2.2.2.2.2.1.2.2,.int .i64 p.2.2.2.2.2.2.1.1,.int .i64 p.2.2.2.2.2.2.1.2.1,.int .i64 p.2.2.2.2.2.2.1.2.2,.slice p.2.2.2.2.2.2.2.1.1 p.2.2.2.2.2.2.2.1.2.2.length p.2.2.2.2.2.2.2.1.2.1,.slice p.2.2.2.2.2.2.2.2.1.1 p.2.2.2.2.2.2.2.2.1.2.2.length p.2.2.2.2.2.2.2.2.1.2.1,.int .i64 p.2.2.2.2.2.2.2.2.2.1,.string p.2.2.2.2.2.2.2.2.2.2] iq hiq (Tryz.isAgg82) TQ hiqs.symm rfl rfl rfl rfl ?_))
 try rw [hV]
 refine K1.mono ?_
 clear K1 hV
 rintro en v1 ⟨rfl,hb⟩
 replace TQ := TQ.later hb TQ.lt
 replace hf1 := (hb.cell (p := ⟨fb,0,none⟩) (Nat.lt_of_lt_of_le lf BC.size)).trans hf1
 replace BC := BC.trans (hb.mono BC.size)
 clear hb TV
 cases h1 with
 | false =>
  clear K2
  have HV:Hid (evB d p=true) := by show _=_;rw [HE.out];rfl
  clear HE
  go_wp2
  go_ret
  exact ⟨by rw [HV.out];rfl,BC⟩
 | true =>
  have K3 := K2 v1 BC
  have HV:Hid (evB d p=h2) := by show _=_;rw [HE.out];rfl
  clear K2 HE
  go_wp2_with (first | (refine wpList_ldG 82 _ w.heap.size 0 _ [.int .i64 p.1,.int .i64 p.2.1,.int .i64 p.2.2.1,.int .i64 p.2.2.2.1,.int .i64 p.2.2.2.2.1,.int .i64 p.2.2.2.2.2.1.1,.int .i64 p.2.2.2.2.2.1.2.1,.int .i64 p.2.2.2.2.2.1.2.2,.int .i64 p.2.2.2.2.2.2.1.1,.int .i64 p.2.2.2.2.2.2.1.2.1,.int .i64 p.2.2.2.2.2.2.1.2.2,.slice p.2.2.2.2.2.2.2.1.1 p.2.2.2.2.2.2.2.1.2.2.length p.2.2.2.2.2.2.2.1.2.1,.slice p.2.2.2.2.2.2.2.2.1.1 p.2.2.2.2.2.2.2.2.1.2.2.length p.2.2.2.2.2.2.2.2.1.2.1,.int .i64 p.2.2.2.2.2.2.2.2.2.1,.string p.2.2.2.2.2.2.2.2.2.2] iq hiq (Tryz.isAgg82) TQ hiqs.symm rfl rfl rfl rfl rfl rfl ?_))
  refine K3.mono ?_
  clear K3
  rintro en v2 ⟨rfl,hb⟩
  replace BC := BC.trans (hb.mono BC.size)
  clear hb TQ hf1
  go_wp2
  go_ret
  exact ⟨by rw [HV.out];rfl,BC⟩
set_option maxRecDepth 100000 in
set_option maxHeartbeats 3200000 in
theorem cloA_is (wb fb:Nat) (d:TD) (x:TQ) (fp:Nat) (w:World) (hfp:fp < w.heap.size) (hc:w.cell? ⟨fp,0,none⟩=some (.func (.func 98) #[] #[.pointer (some ⟨wb,0,none⟩),.pointer (some ⟨fb,0,none⟩)])) (HG:∀ w',Below w.heap.size w w'→Calls Tryz.prog 98 #[.agg #[.int .i64 x.1,.int .i64 x.2.1,.int .i64 x.2.2.1,.int .i64 x.2.2.2.1,.int .i64 x.2.2.2.2.1,.int .i64 x.2.2.2.2.2.1.1,.int .i64 x.2.2.2.2.2.1.2.1,.int .i64 x.2.2.2.2.2.1.2.2,.int .i64 x.2.2.2.2.2.2.1.1,.int .i64 x.2.2.2.2.2.2.1.2.1,.int .i64 x.2.2.2.2.2.2.1.2.2,.slice x.2.2.2.2.2.2.2.1.1 x.2.2.2.2.2.2.2.1.2.2.length x.2.2.2.2.2.2.2.1.2.1,.slice x.2.2.2.2.2.2.2.2.1.1 x.2.2.2.2.2.2.2.2.1.2.2.length x.2.2.2.2.2.2.2.2.1.2.1,.int .i64 x.2.2.2.2.2.2.2.2.2.1,.string x.2.2.2.2.2.2.2.2.2.2],.pointer (some ⟨wb,0,none⟩),.pointer (some ⟨fb,0,none⟩)] w' fun e w''=>e=.returned (.bool (evB d x))∧Below w'.heap.size w' w'') :
  Calls Tryz.prog 147 #[.agg #[.int .i64 x.1,.int .i64 x.2.1,.int .i64 x.2.2.1,.int .i64 x.2.2.2.1,.int .i64 x.2.2.2.2.1,.int .i64 x.2.2.2.2.2.1.1,.int .i64 x.2.2.2.2.2.1.2.1,.int .i64 x.2.2.2.2.2.1.2.2,.int .i64 x.2.2.2.2.2.2.1.1,.int .i64 x.2.2.2.2.2.2.1.2.1,.int .i64 x.2.2.2.2.2.2.1.2.2,.slice x.2.2.2.2.2.2.2.1.1 x.2.2.2.2.2.2.2.1.2.2.length x.2.2.2.2.2.2.2.1.2.1,.slice x.2.2.2.2.2.2.2.2.1.1 x.2.2.2.2.2.2.2.2.1.2.2.length x.2.2.2.2.2.2.2.2.1.2.1,.int .i64 x.2.2.2.2.2.2.2.2.2.1,.string x.2.2.2.2.2.2.2.2.2.2],.pointer (some ⟨fp,0,none⟩)] w fun e w'=>e=.returned (.bool (!(evB d x)))∧Below w.heap.size w w' := by
 generalize evB d x=b at HG ⊢
 obtain ⟨V,hV⟩:∃ V,w.alloc (.cells #[.int .i64 x.1,.int .i64 x.2.1,.int .i64 x.2.2.1,.int .i64 x.2.2.2.1,.int .i64 x.2.2.2.2.1,.int .i64 x.2.2.2.2.2.1.1,.int .i64 x.2.2.2.2.2.1.2.1,.int .i64 x.2.2.2.2.2.1.2.2,.int .i64 x.2.2.2.2.2.2.1.1,.int .i64 x.2.2.2.2.2.2.1.2.1,.int .i64 x.2.2.2.2.2.2.1.2.2,.slice x.2.2.2.2.2.2.2.1.1 x.2.2.2.2.2.2.2.1.2.2.length x.2.2.2.2.2.2.2.1.2.1,.slice x.2.2.2.2.2.2.2.2.1.1 x.2.2.2.2.2.2.2.2.1.2.2.length x.2.2.2.2.2.2.2.2.1.2.1,.int .i64 x.2.2.2.2.2.2.2.2.2.1,.string x.2.2.2.2.2.2.2.2.2.2] 82)=V := ⟨_,rfl⟩
 have TV:Blk w.heap.size [.int .i64 x.1,.int .i64 x.2.1,.int .i64 x.2.2.1,.int .i64 x.2.2.2.1,.int .i64 x.2.2.2.2.1,.int .i64 x.2.2.2.2.2.1.1,.int .i64 x.2.2.2.2.2.1.2.1,.int .i64 x.2.2.2.2.2.1.2.2,.int .i64 x.2.2.2.2.2.2.1.1,.int .i64 x.2.2.2.2.2.2.1.2.1,.int .i64 x.2.2.2.2.2.2.1.2.2,.slice x.2.2.2.2.2.2.2.1.1 x.2.2.2.2.2.2.2.1.2.2.length x.2.2.2.2.2.2.2.1.2.1,.slice x.2.2.2.2.2.2.2.2.1.1 x.2.2.2.2.2.2.2.2.1.2.2.length x.2.2.2.2.2.2.2.2.1.2.1,.int .i64 x.2.2.2.2.2.2.2.2.2.1,.string x.2.2.2.2.2.2.2.2.2.2] V := by rw [← hV];exact Blk.new _ _ _
 have BC:Below w.heap.size w V := by rw [← hV];exact (Below.refl _ _).alloc (Nat.le_refl _) _
 have K1 := HG V BC
 have c0 := (BC.cell (p := ⟨fp,0,none⟩) hfp).trans hc
 have d0 := TV.at 0 rfl
 have d1 := TV.at 1 rfl
 have d2 := TV.at 2 rfl
 have d3 := TV.at 3 rfl
 have d4 := TV.at 4 rfl
 have d5 := TV.at 5 rfl
 have d6 := TV.at 6 rfl
 have d7 := TV.at 7 rfl
 have d8 := TV.at 8 rfl
 have d9 := TV.at 9 rfl
 have d10 := TV.at 10 rfl
 have d11 := TV.at 11 rfl
 have d12 := TV.at 12 rfl
 have d13 := TV.at 13 rfl
 have d14 := TV.at 14 rfl
 clear HG
 go_enter Tryz.func147,Tryz.ntmps147
 go_wp2_with fail
 try rw [hV]
 refine K1.mono ?_
 clear K1
 rintro en v0 ⟨rfl,hb⟩
 replace BC := BC.trans (hb.mono BC.size)
 clear hb
 cases b with
 | true =>
  go_wp2
  go_ret
  exact ⟨rfl,BC⟩
 | false =>
  go_wp2
  go_ret
  exact ⟨rfl,BC⟩
set_option maxRecDepth 100000 in
set_option maxHeartbeats 3200000 in
theorem idxA_is (wb fb:Nat) (d:TD) (a:Option Addr) (cap:Nat) (xs:List TQ) (fp:Nat) (w:World) (hr:FRow 15 cQ w a xs) (hl:xs.length≤1048576) (hfp:fp < w.heap.size) (hc:w.cell? ⟨fp,0,none⟩=some (.func (.func 98) #[] #[.pointer (some ⟨wb,0,none⟩),.pointer (some ⟨fb,0,none⟩)])) (HG:∀ x∈xs,∀ w',Below w.heap.size w w'→Calls Tryz.prog 98 #[.agg #[.int .i64 x.1,.int .i64 x.2.1,.int .i64 x.2.2.1,.int .i64 x.2.2.2.1,.int .i64 x.2.2.2.2.1,.int .i64 x.2.2.2.2.2.1.1,.int .i64 x.2.2.2.2.2.1.2.1,.int .i64 x.2.2.2.2.2.1.2.2,.int .i64 x.2.2.2.2.2.2.1.1,.int .i64 x.2.2.2.2.2.2.1.2.1,.int .i64 x.2.2.2.2.2.2.1.2.2,.slice x.2.2.2.2.2.2.2.1.1 x.2.2.2.2.2.2.2.1.2.2.length x.2.2.2.2.2.2.2.1.2.1,.slice x.2.2.2.2.2.2.2.2.1.1 x.2.2.2.2.2.2.2.2.1.2.2.length x.2.2.2.2.2.2.2.2.1.2.1,.int .i64 x.2.2.2.2.2.2.2.2.2.1,.string x.2.2.2.2.2.2.2.2.2.2],.pointer (some ⟨wb,0,none⟩),.pointer (some ⟨fb,0,none⟩)] w' fun e w''=>e=.returned (.bool (evB d x))∧Below w'.heap.size w' w'') :
  Calls Tryz.prog 179 #[.slice a xs.length cap,.func (.func 147) #[] #[.pointer (some ⟨fp,0,none⟩)]] w fun e w'=>IdxP (xs.all (fun x=>evB d x)) e∧Below w.heap.size w w' := by
 go_enter Tryz.func179,Tryz.ntmps179
 go_wp2
 go_loopw [8] (fun i wr=>∃ k:Nat,k≤xs.length∧i=.int .i64 k∧Hid (∀ j (h:j < xs.length),j < k→(fun x=>evB d x) xs[j]=true)∧Below w.heap.size w wr) (fun i _=>xs.length - (intOf i).toNat)
 case atStart=>exact ⟨0,by omega,rfl,fun j h hj=>absurd hj (by omega),Below.refl _ _⟩
 case round =>
  obtain ⟨k,hk,rfl,hno,hbel⟩ := hrel
  by_cases hlt:k < xs.length
  ·obtain ⟨b1,o1,rfl,l1,hcc⟩ := hr k hlt
   have c0:wr.cell? ⟨b1,o1 + k * 15,none⟩=some (.int .i64 xs[k].1) := (hbel.cell (p := ⟨b1,o1 + k * 15,none⟩) l1).trans (hcc 0 _ rfl)
   have c1:wr.cell? ⟨b1,o1 + k * 15 + 1,none⟩=some (.int .i64 xs[k].2.1) := (hbel.cell (p := ⟨b1,o1 + k * 15 + 1,none⟩) l1).trans (hcc 1 _ rfl)
   have c2:wr.cell? ⟨b1,o1 + k * 15 + 2,none⟩=some (.int .i64 xs[k].2.2.1) := (hbel.cell (p := ⟨b1,o1 + k * 15 + 2,none⟩) l1).trans (hcc 2 _ rfl)
   have c3:wr.cell? ⟨b1,o1 + k * 15 + 3,none⟩=some (.int .i64 xs[k].2.2.2.1) := (hbel.cell (p := ⟨b1,o1 + k * 15 + 3,none⟩) l1).trans (hcc 3 _ rfl)
   have c4:wr.cell? ⟨b1,o1 + k * 15 + 4,none⟩=some (.int .i64 xs[k].2.2.2.2.1) := (hbel.cell (p := ⟨b1,o1 + k * 15 + 4,none⟩) l1).trans (hcc 4 _ rfl)
   have c5:wr.cell? ⟨b1,o1 + k * 15 + 5,none⟩=some (.int .i64 xs[k].2.2.2.2.2.1.1) := (hbel.cell (p := ⟨b1,o1 + k * 15 + 5,none⟩) l1).trans (hcc 5 _ rfl)
   have c6:wr.cell? ⟨b1,o1 + k * 15 + 6,none⟩=some (.int .i64 xs[k].2.2.2.2.2.1.2.1) := (hbel.cell (p := ⟨b1,o1 + k * 15 + 6,none⟩) l1).trans (hcc 6 _ rfl)
   have c7:wr.cell? ⟨b1,o1 + k * 15 + 7,none⟩=some (.int .i64 xs[k].2.2.2.2.2.1.2.2) := (hbel.cell (p := ⟨b1,o1 + k * 15 + 7,none⟩) l1).trans (hcc 7 _ rfl)
   have c8:wr.cell? ⟨b1,o1 + k * 15 + 8,none⟩=some (.int .i64 xs[k].2.2.2.2.2.2.1.1) := (hbel.cell (p := ⟨b1,o1 + k * 15 + 8,none⟩) l1).trans (hcc 8 _ rfl)
   have c9:wr.cell? ⟨b1,o1 + k * 15 + 9,none⟩=some (.int .i64 xs[k].2.2.2.2.2.2.1.2.1) := (hbel.cell (p := ⟨b1,o1 + k * 15 + 9,none⟩) l1).trans (hcc 9 _ rfl)
   have c10:wr.cell? ⟨b1,o1 + k * 15 + 10,none⟩=some (.int .i64 xs[k].2.2.2.2.2.2.1.2.2) := (hbel.cell (p := ⟨b1,o1 + k * 15 + 10,none⟩) l1).trans (hcc 10 _ rfl)
   have c11:wr.cell? ⟨b1,o1 + k * 15 + 11,none⟩=some (.slice xs[k].2.2.2.2.2.2.2.1.1 xs[k].2.2.2.2.2.2.2.1.2.2.length xs[k].2.2.2.2.2.2.2.1.2.1) := (hbel.cell (p := ⟨b1,o1 + k * 15 + 11,none⟩) l1).trans (hcc 11 _ rfl)
   have c12:wr.cell? ⟨b1,o1 + k * 15 + 12,none⟩=some (.slice xs[k].2.2.2.2.2.2.2.2.1.1 xs[k].2.2.2.2.2.2.2.2.1.2.2.length xs[k].2.2.2.2.2.2.2.2.1.2.1) := (hbel.cell (p := ⟨b1,o1 + k * 15 + 12,none⟩) l1).trans (hcc 12 _ rfl)
   have c13:wr.cell? ⟨b1,o1 + k * 15 + 13,none⟩=some (.int .i64 xs[k].2.2.2.2.2.2.2.2.2.1) := (hbel.cell (p := ⟨b1,o1 + k * 15 + 13,none⟩) l1).trans (hcc 13 _ rfl)
   have c14:wr.cell? ⟨b1,o1 + k * 15 + 14,none⟩=some (.string xs[k].2.2.2.2.2.2.2.2.2.2) := (hbel.cell (p := ⟨b1,o1 + k * 15 + 14,none⟩) l1).trans (hcc 14 _ rfl)
   have hlt2:(k:Int) < (xs.length:Int) := by omega
   have K1 := cloA_is wb fb d xs[k] fp wr (Nat.lt_of_lt_of_le hfp hbel.size) ((hbel.cell (p := ⟨fp,0,none⟩) hfp).trans hc) (fun w' hb=>HG xs[k] (List.getElem_mem hlt) w' (hbel.trans (hb.mono hbel.size)))
   have hno2:(fun x=>evB d x) xs[k]=true→Hid (∀ j (h:j < xs.length),j < k + 1→(fun x=>evB d x) xs[j]=true) := fun he j h hj=>by
    by_cases e:j=k
    ·subst e;exact he
    ·exact hno.out j h (by omega)
   have hbad:(fun x=>evB d x) xs[k]=false→Hid (xs.all (fun x=>evB d x)=false) := fun he=>by
    show _=_
    rw [List.all_eq_false]
    exact ⟨xs[k],List.getElem_mem hlt,fun h=>absurd (h.symm.trans he) (by decide)⟩
   clear HG hno
   generalize hxk:xs[k]=x at K1 hno2 hbad c0 c1 c2 c3 c4 c5 c6 c7 c8 c9 c10 c11 c12 c13 c14
   clear hxk hcc
   dsimp only at hno2 hbad
   generalize hb0:evB d x=b at K1 hno2 hbad
   clear hb0
   go_wp2_with fail
   refine K1.mono ?_
   clear K1 c0 c1 c2 c3 c4 c5 c6 c7 c8 c9 c10 c11 c12 c13 c14
   rintro en v0 ⟨rfl,hb⟩
   replace hbel := hbel.trans (hb.mono hbel.size)
   clear hb
   cases b with
   | true =>
    have hno3 := hno2 rfl
    clear hno2 hbad
    go_wp2
    go_roundw
    case rel=>exact ⟨k + 1,by omega,by go_num,hno3,hbel⟩
    case measure=>simp [intOf];omega
   | false =>
    have hbd := hbad rfl
    clear hno2 hbad
    go_wp2
    go_ret
    refine ⟨?_,hbel⟩
    rw [hbd.out]
    exact ⟨(k:Int),rfl,by simp⟩
  ·have HV:Hid (xs.all (fun x=>evB d x)=true) := by
    show _=_
    rw [List.all_eq_true]
    intro x hx
    obtain ⟨j,hj,rfl⟩ := List.mem_iff_getElem.1 hx
    exact hno.out j hj (by omega)
   have hlt2:¬ (k:Int) < (xs.length:Int) := by omega
   clear hno HG hr
   go_wp2
   go_ret
   refine ⟨?_,hbel⟩
   rw [HV.out]
   exact ⟨-1,rfl,by simp⟩
set_option maxRecDepth 100000 in
set_option maxHeartbeats 3200000 in
theorem allA_is (wb fb:Nat) (d:TD) (a:Option Addr) (cap:Nat) (xs:List TQ) (w:World) (hr:FRow 15 cQ w a xs) (hl:xs.length≤1048576) (HG:∀ x∈xs,∀ w',Below w.heap.size w w'→Calls Tryz.prog 98 #[.agg #[.int .i64 x.1,.int .i64 x.2.1,.int .i64 x.2.2.1,.int .i64 x.2.2.2.1,.int .i64 x.2.2.2.2.1,.int .i64 x.2.2.2.2.2.1.1,.int .i64 x.2.2.2.2.2.1.2.1,.int .i64 x.2.2.2.2.2.1.2.2,.int .i64 x.2.2.2.2.2.2.1.1,.int .i64 x.2.2.2.2.2.2.1.2.1,.int .i64 x.2.2.2.2.2.2.1.2.2,.slice x.2.2.2.2.2.2.2.1.1 x.2.2.2.2.2.2.2.1.2.2.length x.2.2.2.2.2.2.2.1.2.1,.slice x.2.2.2.2.2.2.2.2.1.1 x.2.2.2.2.2.2.2.2.1.2.2.length x.2.2.2.2.2.2.2.2.1.2.1,.int .i64 x.2.2.2.2.2.2.2.2.2.1,.string x.2.2.2.2.2.2.2.2.2.2],.pointer (some ⟨wb,0,none⟩),.pointer (some ⟨fb,0,none⟩)] w' fun e w''=>e=.returned (.bool (evB d x))∧Below w'.heap.size w' w'') :
  Calls Tryz.prog 97 #[.slice a xs.length cap,.func (.func 98) #[] #[.pointer (some ⟨wb,0,none⟩),.pointer (some ⟨fb,0,none⟩)]] w fun e w'=>e=.returned (.bool (xs.all (fun x=>evB d x)))∧Below w.heap.size w w' := by
 obtain ⟨V,hV⟩:∃ V,w.alloc (.cells #[.func (.func 98) #[] #[.pointer (some ⟨wb,0,none⟩),.pointer (some ⟨fb,0,none⟩)]] 106)=V := ⟨_,rfl⟩
 have TV:Blk w.heap.size [.func (.func 98) #[] #[.pointer (some ⟨wb,0,none⟩),.pointer (some ⟨fb,0,none⟩)]] V := by rw [← hV];exact Blk.new _ _ _
 have BC:Below w.heap.size w V := by rw [← hV];exact (Below.refl _ _).alloc (Nat.le_refl _) _
 have sV:w.heap.size < V.heap.size := by rw [← hV];simp
 have K1 := idxA_is wb fb d a cap xs w.heap.size V (hr.later BC) hl sV (TV.at 0 rfl) (fun x hx w' hb=>HG x hx w' (BC.trans (hb.mono BC.size)))
 clear HG hr TV sV
 generalize xs.all (fun x=>evB d x)=b at K1 ⊢
 have K2:Calls Tryz.prog 146 #[.slice a xs.length cap,.func (.func 147) #[] #[.pointer (some ⟨w.heap.size,0,none⟩)]] V fun e w'=>e=.returned (.bool (!b))∧Below V.heap.size V w' := by
  go_enter Tryz.func146,Tryz.ntmps146
  go_wp2_with fail
  refine K1.mono ?_
  clear K1
  rintro en v0 ⟨⟨r,rfl,hd⟩,hb⟩
  cases b with
  | true =>
   have hr2:¬ (0≤r) := by simpa using hd
   go_wp2
   go_ret
   exact ⟨rfl,hb⟩
  | false =>
   have hr2:0≤r := by simpa using hd
   go_wp2
   go_ret
   exact ⟨rfl,hb⟩
 clear K1
 go_enter Tryz.func97,Tryz.ntmps97
 go_wp2_with fail
 try rw [hV]
 refine K2.mono ?_
 clear K2
 rintro en v0 ⟨rfl,hb⟩
 replace BC := BC.trans (hb.mono BC.size)
 clear hb
 cases b with
 | true =>
  go_wp2
  go_ret
  exact ⟨rfl,BC⟩
 | false =>
  go_wp2
  go_ret
  exact ⟨rfl,BC⟩
set_option maxRecDepth 100000 in
set_option maxHeartbeats 6400000 in
theorem every_is (B:Nat) (d:TD) (w:World) (hd:WdOk B w d) (hw:wokB d=true) (hI:WdI d) :
  Calls Tryz.prog 59 #[vD d,.func (.func 60) #[vD d] #[]] w fun e w'=>e=.returned (.bool (d.2.2.2.2.2.2.2.2.2.1.2.2.all fun x=>evB d x))∧Below w.heap.size w w' := by
 obtain ⟨V,hV⟩:∃ V,(w.alloc (.cells #[.slice d.1.1.1 d.1.1.2.2.length d.1.1.2.1,.slice d.1.2.1.1 d.1.2.1.2.2.length d.1.2.1.2.1,.slice d.1.2.2.1.1 d.1.2.2.1.2.2.length d.1.2.2.1.2.1,.slice d.1.2.2.2.1.1 d.1.2.2.2.1.2.2.length d.1.2.2.2.1.2.1,.int .i64 d.1.2.2.2.2,.int .i64 d.2.1,.int .i64 d.2.2.1,.slice d.2.2.2.1.1 d.2.2.2.1.2.2.length d.2.2.2.1.2.1,.slice d.2.2.2.2.1.1.1 d.2.2.2.2.1.1.2.2.length d.2.2.2.2.1.1.2.1,.slice d.2.2.2.2.1.2.1 d.2.2.2.2.1.2.2.2.length d.2.2.2.2.1.2.2.1,.slice d.2.2.2.2.2.1.1 d.2.2.2.2.2.1.2.2.length d.2.2.2.2.2.1.2.1,.slice d.2.2.2.2.2.2.1.1 d.2.2.2.2.2.2.1.2.2.length d.2.2.2.2.2.2.1.2.1,.slice d.2.2.2.2.2.2.2.1.1 d.2.2.2.2.2.2.2.1.2.2.length d.2.2.2.2.2.2.2.1.2.1,.slice d.2.2.2.2.2.2.2.2.1.1 d.2.2.2.2.2.2.2.2.1.2.2.length d.2.2.2.2.2.2.2.2.1.2.1,.slice d.2.2.2.2.2.2.2.2.2.1.1 d.2.2.2.2.2.2.2.2.2.1.2.2.length d.2.2.2.2.2.2.2.2.2.1.2.1,.slice d.2.2.2.2.2.2.2.2.2.2.1 d.2.2.2.2.2.2.2.2.2.2.2.2.length d.2.2.2.2.2.2.2.2.2.2.2.1] 48)).alloc (.cells #[.func (.func 60) #[vD d] #[]] 106)=V := ⟨_,rfl⟩
 have BC:Below w.heap.size w V := by rw [← hV];exact ((Below.refl _ _).alloc (Nat.le_refl _) _).alloc (by simp) _
 have TD:Blk w.heap.size [.slice d.1.1.1 d.1.1.2.2.length d.1.1.2.1,.slice d.1.2.1.1 d.1.2.1.2.2.length d.1.2.1.2.1,.slice d.1.2.2.1.1 d.1.2.2.1.2.2.length d.1.2.2.1.2.1,.slice d.1.2.2.2.1.1 d.1.2.2.2.1.2.2.length d.1.2.2.2.1.2.1,.int .i64 d.1.2.2.2.2,.int .i64 d.2.1,.int .i64 d.2.2.1,.slice d.2.2.2.1.1 d.2.2.2.1.2.2.length d.2.2.2.1.2.1,.slice d.2.2.2.2.1.1.1 d.2.2.2.2.1.1.2.2.length d.2.2.2.2.1.1.2.1,.slice d.2.2.2.2.1.2.1 d.2.2.2.2.1.2.2.2.length d.2.2.2.2.1.2.2.1,.slice d.2.2.2.2.2.1.1 d.2.2.2.2.2.1.2.2.length d.2.2.2.2.2.1.2.1,.slice d.2.2.2.2.2.2.1.1 d.2.2.2.2.2.2.1.2.2.length d.2.2.2.2.2.2.1.2.1,.slice d.2.2.2.2.2.2.2.1.1 d.2.2.2.2.2.2.2.1.2.2.length d.2.2.2.2.2.2.2.1.2.1,.slice d.2.2.2.2.2.2.2.2.1.1 d.2.2.2.2.2.2.2.2.1.2.2.length d.2.2.2.2.2.2.2.2.1.2.1,.slice d.2.2.2.2.2.2.2.2.2.1.1 d.2.2.2.2.2.2.2.2.2.1.2.2.length d.2.2.2.2.2.2.2.2.2.1.2.1,.slice d.2.2.2.2.2.2.2.2.2.2.1 d.2.2.2.2.2.2.2.2.2.2.2.2.length d.2.2.2.2.2.2.2.2.2.2.2.1] V := by rw [← hV];exact (Blk.new _ _ _).alloc (by simp) _
 have TF:Blk (w.heap.size + 1) [.func (.func 60) #[vD d] #[]] V := by rw [← hV];have := Blk.new (w.alloc (.cells #[.slice d.1.1.1 d.1.1.2.2.length d.1.1.2.1,.slice d.1.2.1.1 d.1.2.1.2.2.length d.1.2.1.2.1,.slice d.1.2.2.1.1 d.1.2.2.1.2.2.length d.1.2.2.1.2.1,.slice d.1.2.2.2.1.1 d.1.2.2.2.1.2.2.length d.1.2.2.2.1.2.1,.int .i64 d.1.2.2.2.2,.int .i64 d.2.1,.int .i64 d.2.2.1,.slice d.2.2.2.1.1 d.2.2.2.1.2.2.length d.2.2.2.1.2.1,.slice d.2.2.2.2.1.1.1 d.2.2.2.2.1.1.2.2.length d.2.2.2.2.1.1.2.1,.slice d.2.2.2.2.1.2.1 d.2.2.2.2.1.2.2.2.length d.2.2.2.2.1.2.2.1,.slice d.2.2.2.2.2.1.1 d.2.2.2.2.2.1.2.2.length d.2.2.2.2.2.1.2.1,.slice d.2.2.2.2.2.2.1.1 d.2.2.2.2.2.2.1.2.2.length d.2.2.2.2.2.2.1.2.1,.slice d.2.2.2.2.2.2.2.1.1 d.2.2.2.2.2.2.2.1.2.2.length d.2.2.2.2.2.2.2.1.2.1,.slice d.2.2.2.2.2.2.2.2.1.1 d.2.2.2.2.2.2.2.2.1.2.2.length d.2.2.2.2.2.2.2.2.1.2.1,.slice d.2.2.2.2.2.2.2.2.2.1.1 d.2.2.2.2.2.2.2.2.2.1.2.2.length d.2.2.2.2.2.2.2.2.2.1.2.1,.slice d.2.2.2.2.2.2.2.2.2.2.1 d.2.2.2.2.2.2.2.2.2.2.2.2.length d.2.2.2.2.2.2.2.2.2.2.2.1] 48)) #[.func (.func 60) #[vD d] #[]] 106;simpa using this
 have K1 := allA_is w.heap.size (w.heap.size + 1) d d.2.2.2.2.2.2.2.2.2.1.1 d.2.2.2.2.2.2.2.2.2.1.2.1 d.2.2.2.2.2.2.2.2.2.1.2.2 V ((hd.later BC).ow.2.2.2.2.2.2.2.1.dp.1) (Nat.le_trans (wok_acc hw) (by omega)) (fun x hx w' hb=>every1_is w.heap.size (w.heap.size + 1) B d x w' ((hd.later BC).later hb) hw hI hx (TD.later hb TD.lt) ((TF.later hb TF.lt).at 0 rfl) (Nat.lt_of_lt_of_le TF.lt hb.size))
 generalize (d.2.2.2.2.2.2.2.2.2.1.2.2.all fun x=>evB d x)=b at K1 ⊢
 have d14 := TD.at 14 rfl
 go_enter Tryz.func59,Tryz.ntmps59
 go_wp2_with fail
 try rw [hV]
 refine K1.mono ?_
 clear K1 hV d14 TD TF
 rintro en v1 ⟨rfl,hb⟩
 replace BC := BC.trans (hb.mono BC.size)
 go_wp2
 go_ret
 exact ⟨rfl,BC⟩
set_option maxRecDepth 100000 in
set_option maxHeartbeats 6400000 in
theorem implAuth_is (B:Nat) (d:TD) (w:World) (hd:WdOk B w d) (hI:WdI d):Calls Tryz.prog 15 #[vD d] w fun e w'=>e=.returned (.bool (wokB d && d.2.2.2.2.2.2.2.2.2.1.2.2.all fun x=>evB d x))∧Below w.heap.size w w' := by
 obtain ⟨ie,hie,his⟩ := info_D
 obtain ⟨V,hV⟩:∃ V,w.alloc (.cells #[.slice d.1.1.1 d.1.1.2.2.length d.1.1.2.1,.slice d.1.2.1.1 d.1.2.1.2.2.length d.1.2.1.2.1,.slice d.1.2.2.1.1 d.1.2.2.1.2.2.length d.1.2.2.1.2.1,.slice d.1.2.2.2.1.1 d.1.2.2.2.1.2.2.length d.1.2.2.2.1.2.1,.int .i64 d.1.2.2.2.2,.int .i64 d.2.1,.int .i64 d.2.2.1,.slice d.2.2.2.1.1 d.2.2.2.1.2.2.length d.2.2.2.1.2.1,.slice d.2.2.2.2.1.1.1 d.2.2.2.2.1.1.2.2.length d.2.2.2.2.1.1.2.1,.slice d.2.2.2.2.1.2.1 d.2.2.2.2.1.2.2.2.length d.2.2.2.2.1.2.2.1,.slice d.2.2.2.2.2.1.1 d.2.2.2.2.2.1.2.2.length d.2.2.2.2.2.1.2.1,.slice d.2.2.2.2.2.2.1.1 d.2.2.2.2.2.2.1.2.2.length d.2.2.2.2.2.2.1.2.1,.slice d.2.2.2.2.2.2.2.1.1 d.2.2.2.2.2.2.2.1.2.2.length d.2.2.2.2.2.2.2.1.2.1,.slice d.2.2.2.2.2.2.2.2.1.1 d.2.2.2.2.2.2.2.2.1.2.2.length d.2.2.2.2.2.2.2.2.1.2.1,.slice d.2.2.2.2.2.2.2.2.2.1.1 d.2.2.2.2.2.2.2.2.2.1.2.2.length d.2.2.2.2.2.2.2.2.2.1.2.1,.slice d.2.2.2.2.2.2.2.2.2.2.1 d.2.2.2.2.2.2.2.2.2.2.2.2.length d.2.2.2.2.2.2.2.2.2.2.2.1] 48)=V := ⟨_,rfl⟩
 have TV:Blk w.heap.size [.slice d.1.1.1 d.1.1.2.2.length d.1.1.2.1,.slice d.1.2.1.1 d.1.2.1.2.2.length d.1.2.1.2.1,.slice d.1.2.2.1.1 d.1.2.2.1.2.2.length d.1.2.2.1.2.1,.slice d.1.2.2.2.1.1 d.1.2.2.2.1.2.2.length d.1.2.2.2.1.2.1,.int .i64 d.1.2.2.2.2,.int .i64 d.2.1,.int .i64 d.2.2.1,.slice d.2.2.2.1.1 d.2.2.2.1.2.2.length d.2.2.2.1.2.1,.slice d.2.2.2.2.1.1.1 d.2.2.2.2.1.1.2.2.length d.2.2.2.2.1.1.2.1,.slice d.2.2.2.2.1.2.1 d.2.2.2.2.1.2.2.2.length d.2.2.2.2.1.2.2.1,.slice d.2.2.2.2.2.1.1 d.2.2.2.2.2.1.2.2.length d.2.2.2.2.2.1.2.1,.slice d.2.2.2.2.2.2.1.1 d.2.2.2.2.2.2.1.2.2.length d.2.2.2.2.2.2.1.2.1,.slice d.2.2.2.2.2.2.2.1.1 d.2.2.2.2.2.2.2.1.2.2.length d.2.2.2.2.2.2.2.1.2.1,.slice d.2.2.2.2.2.2.2.2.1.1 d.2.2.2.2.2.2.2.2.1.2.2.length d.2.2.2.2.2.2.2.2.1.2.1,.slice d.2.2.2.2.2.2.2.2.2.1.1 d.2.2.2.2.2.2.2.2.2.1.2.2.length d.2.2.2.2.2.2.2.2.2.1.2.1,.slice d.2.2.2.2.2.2.2.2.2.2.1 d.2.2.2.2.2.2.2.2.2.2.2.2.length d.2.2.2.2.2.2.2.2.2.2.2.1] V := by rw [← hV];exact Blk.new _ _ _
 have BC:Below w.heap.size w V := by rw [← hV];exact (Below.refl _ _).alloc (Nat.le_refl _) _
 have K1 := worldRight_is B _ V (hd.later BC)
 go_enter Tryz.func15,Tryz.ntmps15
 go_wp2_with (first | (refine wpList_ldB 48 _ w.heap.size 0 _ [.slice d.1.1.1 d.1.1.2.2.length d.1.1.2.1,.slice d.1.2.1.1 d.1.2.1.2.2.length d.1.2.1.2.1,.slice d.1.2.2.1.1 d.1.2.2.1.2.2.length d.1.2.2.1.2.1,.slice d.1.2.2.2.1.1 d.1.2.2.2.1.2.2.length d.1.2.2.2.1.2.1,.int .i64 d.1.2.2.2.2,.int .i64 d.2.1,.int .i64 d.2.2.1,.slice d.2.2.2.1.1 d.2.2.2.1.2.2.length d.2.2.2.1.2.1,.slice d.2.2.2.2.1.1.1 d.2.2.2.2.1.1.2.2.length d.2.2.2.2.1.1.2.1,.slice d.2.2.2.2.1.2.1 d.2.2.2.2.1.2.2.2.length d.2.2.2.2.1.2.2.1,.slice d.2.2.2.2.2.1.1 d.2.2.2.2.2.1.2.2.length d.2.2.2.2.2.1.2.1,.slice d.2.2.2.2.2.2.1.1 d.2.2.2.2.2.2.1.2.2.length d.2.2.2.2.2.2.1.2.1,.slice d.2.2.2.2.2.2.2.1.1 d.2.2.2.2.2.2.2.1.2.2.length d.2.2.2.2.2.2.2.1.2.1,.slice d.2.2.2.2.2.2.2.2.1.1 d.2.2.2.2.2.2.2.2.1.2.2.length d.2.2.2.2.2.2.2.2.1.2.1,.slice d.2.2.2.2.2.2.2.2.2.1.1 d.2.2.2.2.2.2.2.2.2.1.2.2.length d.2.2.2.2.2.2.2.2.2.1.2.1,.slice d.2.2.2.2.2.2.2.2.2.2.1 d.2.2.2.2.2.2.2.2.2.2.2.2.length d.2.2.2.2.2.2.2.2.2.2.2.1] ie hie (Tryz.isAgg48) TV his.symm rfl rfl rfl rfl ?_))
 refine K1.mono ?_
 clear K1 hV
 rintro en v0 ⟨rfl,hb⟩
 replace TV := TV.later hb TV.lt
 replace BC := BC.trans (hb.mono BC.size)
 clear hb
 by_cases hw:wokB d=true
 ·have K2 := every_is B d v0 (hd.later BC) hw hI
  have HV:Hid (wokB d=true) := hw
  generalize hbe:(d.2.2.2.2.2.2.2.2.2.1.2.2.all fun x=>evB d x)=b at K2
  have HB:Hid ((d.2.2.2.2.2.2.2.2.2.1.2.2.all fun x=>evB d x)=b) := hbe
  clear hbe
  rw [hw]
  clear hw
  go_wp2_with (first | (refine wpList_ldG 48 _ w.heap.size 0 _ [.slice d.1.1.1 d.1.1.2.2.length d.1.1.2.1,.slice d.1.2.1.1 d.1.2.1.2.2.length d.1.2.1.2.1,.slice d.1.2.2.1.1 d.1.2.2.1.2.2.length d.1.2.2.1.2.1,.slice d.1.2.2.2.1.1 d.1.2.2.2.1.2.2.length d.1.2.2.2.1.2.1,.int .i64 d.1.2.2.2.2,.int .i64 d.2.1,.int .i64 d.2.2.1,.slice d.2.2.2.1.1 d.2.2.2.1.2.2.length d.2.2.2.1.2.1,.slice d.2.2.2.2.1.1.1 d.2.2.2.2.1.1.2.2.length d.2.2.2.2.1.1.2.1,.slice d.2.2.2.2.1.2.1 d.2.2.2.2.1.2.2.2.length d.2.2.2.2.1.2.2.1,.slice d.2.2.2.2.2.1.1 d.2.2.2.2.2.1.2.2.length d.2.2.2.2.2.1.2.1,.slice d.2.2.2.2.2.2.1.1 d.2.2.2.2.2.2.1.2.2.length d.2.2.2.2.2.2.1.2.1,.slice d.2.2.2.2.2.2.2.1.1 d.2.2.2.2.2.2.2.1.2.2.length d.2.2.2.2.2.2.2.1.2.1,.slice d.2.2.2.2.2.2.2.2.1.1 d.2.2.2.2.2.2.2.2.1.2.2.length d.2.2.2.2.2.2.2.2.1.2.1,.slice d.2.2.2.2.2.2.2.2.2.1.1 d.2.2.2.2.2.2.2.2.2.1.2.2.length d.2.2.2.2.2.2.2.2.2.1.2.1,.slice d.2.2.2.2.2.2.2.2.2.2.1 d.2.2.2.2.2.2.2.2.2.2.2.2.length d.2.2.2.2.2.2.2.2.2.2.2.1] ie hie (Tryz.isAgg48) TV his.symm rfl rfl rfl rfl rfl rfl ?_))
  refine K2.mono ?_
  clear K2
  rintro en v1 ⟨rfl,hb⟩
  replace BC := BC.trans (hb.mono BC.size)
  clear hb TV
  go_wp2
  go_ret
  exact ⟨by rw [HV.out,HB.out];rfl,BC⟩
 ·rw [Bool.not_eq_true] at hw
  rw [hw]
  go_wp2
  go_ret
  exact ⟨by rw [hw];rfl,BC⟩
end Go.Proofs.YtjcmbbnklfemcaaGreat.Nd
