/- The question for the keys that are reached, and Reach of the program. -/
import Derived.Test.YtlmpfkbgknbcnaaGreatAb
import Derived.Test.YtlmpfkbgknbcnaaGreatKClose3
import Derived.Test.YtlmpfkbgknbcnaaGreatKnow3
import Derived.Test.YtlmpfkbgknbcnaaGreatKWide
import Derived.Laws.AppendOwn
set_option linter.unusedVariables false
namespace Go.Proofs.YtlmpfkbgknbcnaaGreat.Kn
open Go.RowKit _root_.Go.Proofs.YtlmpfkbgknbcnaaGreat.Own Var Term
set_option maxRecDepth 100000 in
set_option maxHeartbeats 6400000 in
theorem askI_is (qf : Nat) (cp : Array Value) (a0 b0 : Option Addr) (ca cb : Nat) (xs : List ByteArray) (ks : List Int) (w : World) (hr : RowAt Value.string w a0 xs) (hq : RowAt (Value.int .i64) w b0 ks)
  (hl : xs.length ≤ 1048576) (hl2 : ks.length ≤ 1048576) (hcap : xs.length ≤ ca) (hs : ∀ x ∈ xs,x.size ≤ 1048576) (R : Value → World → Prop)
  (eg : ∀ args w,(callFunc qf args).run Tryz.prog w = .ok (.enter qf args) w)
  (hno : kOk xs ks = false → ∀ w',Below w.heap.size w w' → R (.slice none 0 0) w')
  (hyes : kOk xs ks = true → ∀ (B p N0 : Nat) (s0 : VS) (kd0 : List Int) (W : World),w.heap.size ≤ B → ViewAt (fun k => k < B) p N0 s0 W → N0 ≤ 1000000 → s0.T = [] → AI xs ks kd0 s0 → (∀ k,k ∈ ks → k ∈ kd0) → Below w.heap.size w W →
   Calls Tryz.prog qf (#[.pointer (some ⟨p,0,none⟩)] ++ cp) W fun e w' => ∃ v,e = .returned v ∧ Keep (fun k => k < B) W w' ∧ (∃ s N,ViewAt (fun k => k < B) p N s w') ∧ ∀ w'',Below w.heap.size w w'' → (∀ k,W.heap.size ≤ k → w''.heap[k]? = w'.heap[k]?) → R v w'') :
  Calls Tryz.prog 98 #[.agg #[.slice a0 xs.length ca,.slice b0 ks.length cb],.func (.func qf) #[] cp] w fun e w' => ∃ v,e = .returned v ∧ R v w' ∧ Below w.heap.size w w':=by
 have hmm:=@run_makeMap Tryz.prog
 obtain ⟨W1,hW1⟩ : ∃ W1,w.alloc (.cells #[.slice a0 xs.length ca,.slice b0 ks.length cb] 41) = W1:=⟨_,rfl⟩
 have hb0 : Below w.heap.size w W1:=by rw [← hW1]; exact (Below.refl _ _).alloc (Nat.le_refl _) _
 have c0 : W1.cell? ⟨w.heap.size,0,none⟩ = some (.slice a0 xs.length ca):=by rw [← hW1]; simp [go_sem]
 have c1 : W1.cell? ⟨w.heap.size,1,none⟩ = some (.slice b0 ks.length cb):=by rw [← hW1]; simp [go_sem]
 have z1 : W1.heap.size = w.heap.size + 1:=by rw [← hW1]; simp
 have ZH : Hid (W1.heap.size = w.heap.size + 1):=z1
 clear z1
 have hO:=impl_knownOk a0 b0 ca cb xs ks W1 (hr.later hb0) (hq.later hb0) hl hl2 hcap hs
 have HY:=show Hid _ from hyes
 have HN:=show Hid _ from hno
 clear hyes hno
 cases hK : kOk xs ks with
 | false =>
  rw [hK] at hO
  refine calls_of_wp_builtin Tryz.func98 rfl ?_
  simp only [Tryz.ntmps98,List.size_toArray,List.length_cons,List.length_nil,Nat.reduceAdd,Nat.reduceSub,Array.replicate_succ,Array.replicate_zero,List.push_toArray,List.append_toArray,List.nil_append,List.cons_append]
  go_wp2_with fail
  try rw [hW1]
  refine hO.mono ?_
  clear hW1 hO
  rintro e w1 ⟨rfl,hb1⟩
  have hb01:=hb0.trans (hb1.mono hb0.size)
  go_wp2
  exact Or.inl ⟨rfl,_,results_tmp rfl _ _ _,.slice none 0 0,rfl,HN.out hK _ hb01,hb01⟩
 | true =>
  rw [hK] at hO
  obtain ⟨hTx,hnd,hks⟩:=kOk_facts hK
  obtain ⟨hl60,hl40⟩:=kOk_len hK
  have HY2:=show Hid _ from HY.out hK
  clear HY HN
  refine calls_of_wp_builtin Tryz.func98 rfl ?_
  simp only [Tryz.ntmps98,List.size_toArray,List.length_cons,List.length_nil,Nat.reduceAdd,Nat.reduceSub,Array.replicate_succ,Array.replicate_zero,List.push_toArray,List.append_toArray,List.nil_append,List.cons_append]
  go_wp2_with fail
  try rw [hW1]
  refine hO.mono ?_
  clear hW1 hO
  rintro e w1 ⟨rfl,hb1⟩
  have hb01:=hb0.trans (hb1.mono hb0.size)
  have LB : w.heap.size < W1.heap.size:=by have:=ZH.out; omega
  have d0:=(hb1.cell (p:=⟨w.heap.size,0,none⟩) LB).trans c0
  have d1:=(hb1.cell (p:=⟨w.heap.size,1,none⟩) LB).trans c1
  have hC:=cloneS_is a0 ca xs w1 (hr.later hb01) hl
  go_wp2_with fail
  refine hC.mono ?_
  clear hC
  rintro e w2 ⟨v0,rfl,hq2,hb2⟩
  have hb02:=hb01.trans (hb2.mono hb01.size)
  have L1 : w.heap.size < w1.heap.size:=Nat.lt_of_lt_of_le LB hb1.size
  have f0:=(hb2.cell (p:=⟨w.heap.size,0,none⟩) L1).trans d0
  have f1:=(hb2.cell (p:=⟨w.heap.size,1,none⟩) L1).trans d1
  obtain ⟨av,nv,cv,hsl⟩ : ∃ av nv cv,v0 = .slice av nv cv:=by obtain ⟨a,c,e,_⟩:=hq2.shape; exact ⟨a,_,c,e⟩
  subst hsl
  obtain ⟨W4,hW4⟩ : ∃ W4,((w2.alloc (.map #[] 0)).alloc (.map #[] 0)).alloc (.cells #[.slice av nv cv,.map (some w2.heap.size),.map (some (w2.heap.size + 1))] 163) = W4:=⟨_,rfl⟩
  have hb4 : Below w2.heap.size w2 W4:=by rw [← hW4]; exact (((Below.refl _ _).alloc (Nat.le_refl _) _).alloc (by simp) _).alloc (by simp; omega) _
  have z4 : W4.heap.size = w2.heap.size + 3:=by rw [← hW4]; simp
  have hV4 : ViewAt (fun k => k < w1.heap.size) (w2.heap.size + 2) 0 ⟨xs,[],fun _ => (false,[])⟩ W4:=by
   have hle:=hb2.size
   have hmt : W4.ownsMap Tryz.prog 9 (unitElem (H:=Value)) w2.heap.size 0 (.map []):=by
    rw [← hW4]; exact ((World.ownsMap_made w2 Tryz.prog 9 unitElem).alloc _).alloc _
   have hml : W4.ownsMap Tryz.prog 3 heldR (w2.heap.size + 1) 0 (.map []):=by
    have:=(World.ownsMap_made (w2.alloc (.map #[] 0)) Tryz.prog 3 heldR).alloc (.cells #[.slice av nv cv,.map (some w2.heap.size),.map (some (w2.heap.size + 1))] 163)
    rw [hW4] at this
    simpa using this
   refine ⟨w2.heap.size,w2.heap.size + 1,.map [],.map [],(fun i => match i with | none => .slice av nv cv | some _ => .slice none 0 0),?_⟩
   refine ⟨by omega,by omega,by omega,by omega,by omega,by omega,rfl,fun k hk => by omega,?_,?_,?_,?_,hmt,?_,hml,?_,?_,?_,?_⟩
   ·rw [← hW4]; simp [go_sem]
   ·rw [← hW4]; simp [go_sem]
   ·rw [← hW4]; simp [go_sem]
   ·rw [← hW4]; simp [go_sem]
   ·intro t ht; simp [Maps.has]
   ·intro k hk; rfl
   ·intro i
    cases i with
    | none => exact (QRow.base hq2).kept hb4.size fun k hk => hb4.block k (hq2.lt hk).2
    | some k => exact QRow.nil _ _
   ·intro i j b hi hj
    cases i with
    | none =>
     cases j with
     | none => rfl
     | some k => cases hj
    | some k => cases hi
   ·intro i b hi
    cases i with
    | none =>
     obtain ⟨h1,h2⟩:=hq2.lt hi
     exact ⟨by omega,by omega,by omega,by omega⟩
    | some k => cases hi
  have hb04:=hb02.trans (hb4.mono hb02.size)
  have L2 : w.heap.size < w2.heap.size:=Nat.lt_of_lt_of_le L1 hb2.size
  have g1:=(hb4.cell (p:=⟨w.heap.size,1,none⟩) L2).trans f1
  have m1 : W4.cell? ⟨w2.heap.size + 2,1,none⟩ = some (.map (some w2.heap.size)):=by rw [← hW4]; simp [go_sem]
  have hq4:=hq.later hb04
  have hK4 : Keep (fun k => k < w1.heap.size) w1 W4:=(Keep.ofBelow hb2 (fun k hk => hk)).trans (Keep.ofBelow hb4 (fun k hk => Nat.lt_of_lt_of_le hk hb2.size))
  have LW : w.heap.size ≤ w1.heap.size:=Nat.le_of_lt L1
  have LQ : Hid (w.heap.size ≤ w1.heap.size):=LW
  clear hq2 hb4 z4 hb2 d0 d1 c0 c1 f0 hb1
  go_wp2
  try rw [hW4]
  clear hW4
  go_loopw [26] (fun i wr => ∃ (j : Nat) (s : VS),i = I j ∧ j ≤ ks.length ∧ Hid (s.T = [] ∧ AI xs ks (ks.take j) s) ∧ ViewAt (fun k => k < w1.heap.size) (w2.heap.size + 2) j s wr ∧ Keep (fun k => k < w1.heap.size) W4 wr) (fun i _ => ks.length - (intOf i).toNat)
  case atStart => exact ⟨0,_,rfl,Nat.zero_le _,⟨rfl,AI.start xs ks⟩,hV4,Keep.refl _ _⟩
  case round =>
   clear hV4
   obtain ⟨j,s,rfl,hj,HAI,hv,hkp⟩:=hrel
   have hbw : Below w.heap.size w wr:=hb04.trans ((hkp.mono (fun k hk => Nat.lt_of_lt_of_le hk LQ.out)).below)
   by_cases hlt : j < ks.length
   ·obtain ⟨bb,off,rfl,hbl,hcell⟩:=hq j hlt
    have hcw : wr.cell? ⟨bb,off + j,none⟩ = some (I ks[j]):=(hbw.cell (p:=⟨bb,off + j,none⟩) hbl).trans hcell
    have hkj:=hks _ (List.getElem_mem hlt)
    have hrj : ReachT xs ks ks[j]:=fun S K hc => hc.2.1 _ (List.getElem_mem hlt)
    have htot:=HAI.out.2.tot [ks[j]] (by simp)
    have htk : ks.take j ++ [ks[j]] = ks.take (j + 1):=(List.take_succ_eq_append_getElem hlt).symm
    have hAI2:=HAI.out.2.ofReach hrj
    rw [htk] at hAI2
    generalize ks[j] = key at hcw hkj hAI2 htot
    have HR:=reach_is hv (by omega) (k:=key) (by simp [Lit.wf,IntKind.min,IntKind.max,IntKind.signed,IntKind.bits]; omega) (by have hT:=HAI.out.1; simp only [List.map_cons,List.map_nil,List.sum_cons,List.sum_nil] at htot; rw [hT] at htot; simp only [List.length_nil] at htot; omega)
    have HA2 : Hid ((s.reach key).T = [] ∧ AI xs ks (ks.take (j + 1)) (s.reach key)):=⟨HAI.out.1,hAI2⟩
    clear hAI2 htot htk hrj HAI hv hcell
    go_wp2_with fail
    refine HR.mono ?_
    clear HR
    rintro e w5 ⟨rfl,hv5,hk5⟩
    have hk45:=hkp.trans hk5
    clear hkp hk5
    go_wp2
    go_roundw
    case rel =>
     have R : ∃ (j' : Nat) (s' : VS),Value.int .i64 ((j : Int) + 1) = I j' ∧ j' ≤ ks.length ∧ Hid (s'.T = [] ∧ AI xs ks (ks.take j') s') ∧ ViewAt (fun k => k < w1.heap.size) (w2.heap.size + 2) j' s' w5 ∧ Keep (fun k => k < w1.heap.size) W4 w5 :=
      ⟨j + 1,_,by go_num,by omega,HA2,hv5,hk45⟩
     first | exact R | ((repeat apply Exists.intro); exact ⟨R,rfl⟩)
    case measure => simp [intOf]; omega
   ·obtain rfl : j = ks.length:=by omega
    have hA:=HAI.out
    rw [List.take_length] at hA
    have LMR : w2.heap.size + 2 < wr.heap.size:=by obtain ⟨_,_,_,_,_,hmx⟩:=hv; exact hmx.lt.1
    have HQ:=HY2.out w1.heap.size (w2.heap.size + 2) ks.length s ks wr LQ.out hv (by omega) hA.1 hA.2 (fun _ h => h) hbw
    have HP:=show Hid (Below w.heap.size w wr) from hbw
    clear hA HAI hv hkp HY2 hbw
    go_wp2_with fail
    refine HQ.mono ?_
    clear HQ
    rintro e w9 ⟨v,rfl,hk9,⟨s9,N9,hv9⟩,hR9⟩
    obtain ⟨mT,mL,DT,DL,rv,hm9⟩:=hv9
    have hmT : mT = w2.heap.size:=by have:=hm9.pm; omega
    subst hmT
    obtain ⟨es,clock,hblk,_⟩:=hm9.mt
    have hnb : w.heap.size ≤ w2.heap.size:=Nat.le_of_lt L2
    have hb9 : Below w.heap.size w w9:=HP.out.trans ((hk9.mono (fun k hk => Nat.lt_of_lt_of_le hk LQ.out)).below)
    have hb10 : Below w.heap.size w (w9.putObj w2.heap.size (.map #[] clock)):=hb9.trans ⟨rfl,rfl,rfl,by simp [World.putObj],fun k hk => World.putObj_heap_other (by omega)⟩
    have hcl:=fun ty => run_clear w9 w2.heap.size es clock ty hblk
    have HRR:=show Hid (R v (w9.putObj w2.heap.size (.map #[] clock))) from hR9 _ hb10 (fun k hk => World.putObj_heap_other (by omega))
    clear hm9 hk9 hR9 hblk
    go_wp2
    refine Or.inr ⟨_,_,_,_,_,.tuple #[],_,rfl,?inv,_,results_tmp rfl _ _ _,v,rfl,HRR.out,hb10⟩
    case inv => simp [invoke,go_sem,hcl]
set_option maxRecDepth 100000 in
set_option maxHeartbeats 1600000 in
theorem impl_reach (a b : Option Addr) (ca cb : Nat) (xs : List ByteArray) (ks : List Int) (w : World) (hr : RowAt Value.string w a xs) (hq : RowAt (Value.int .i64) w b ks)
  (hl : xs.length ≤ 1048576) (hl2 : ks.length ≤ 1048576) (hcap : xs.length ≤ ca) (hs : ∀ x ∈ xs,x.size ≤ 1048576) :
  Calls Tryz.prog 53 #[.agg #[.slice a xs.length ca,.slice b ks.length cb]] w fun e w' => ∃ (b' : Option Addr) (kb : Nat) (K : List Int),e = .returned (.slice b' K.length kb) ∧ w'.ownsRow w.heap.size 3 1 (.slice b' K.length kb) K.length (intV K) ∧ Hid ((∀ k,k ∈ K ↔ kOk xs ks = true ∧ ReachT xs ks k) ∧ K.Pairwise (· < ·)) ∧ Below w.heap.size w w':=by
 obtain ⟨W2,hW2⟩ : ∃ W2,w.alloc (.cells #[.slice a xs.length ca,.slice b ks.length cb] 41) = W2:=⟨_,rfl⟩
 have hb2 : Below w.heap.size w W2:=by rw [← hW2]; exact (Below.refl _ _).alloc (Nat.le_refl _) _
 have z2 : W2.heap.size = w.heap.size + 1:=by rw [← hW2]; simp
 have c0 : W2.cell? ⟨w.heap.size,0,none⟩ = some (.slice a xs.length ca):=by rw [← hW2]; simp [go_sem]
 have c1 : W2.cell? ⟨w.heap.size,1,none⟩ = some (.slice b ks.length cb):=by rw [← hW2]; simp [go_sem]
 have eg : ∀ args w,(callFunc 99 args).run Tryz.prog w = .ok (.enter 99 args) w:=enters_of Tryz.func99 (by kernel_rfl) rfl
 have HA:=askI_is 99 #[] a b ca cb xs ks W2 (hr.later hb2) (hq.later hb2) hl hl2 hcap hs (fun v w' => ∃ (b' : Option Addr) (kb : Nat) (K : List Int),v = .slice b' K.length kb ∧ w'.ownsRow w.heap.size 3 1 (.slice b' K.length kb) K.length (intV K) ∧ Hid ((∀ k,k ∈ K ↔ kOk xs ks = true ∧ ReachT xs ks k) ∧ K.Pairwise (· < ·))) eg
  (fun hK w' _ => ⟨none,0,[],rfl,World.ownsRow_nil _ _ _ _,by simp [Hid,hK]⟩)
  (fun hK B p N0 s0 kd0 W hB hv hN hT hAI hkd hbW => by
   refine (reach1_is (M:=(allInf xs).length) (kOk_facts hK).1 (Nat.le_refl _) (inf_bound hK) (kOk_len hK).1 hN hT hAI hkd hv (kOk_facts hK).2.2).mono ?_
   rintro e w' ⟨b',kb,K,rfl,ho,hF,hk,hvw⟩
   refine ⟨_,rfl,hk,hvw,fun w'' _ hkeep => ⟨b',kb,K,rfl,?_,⟨fun k => by rw [hF.out.1 k]; simp [hK],hF.out.2⟩⟩⟩
   obtain ⟨h1,h2 | ⟨g,cap,cur,h3,h4,h5,h6⟩⟩:=ho
   ·exact ⟨h1,Or.inl h2⟩
   ·exact ⟨h1,Or.inr ⟨g,cap,cur,h3,by have:=hbW.size; omega,(hkeep g h4).trans h5,h6⟩⟩)
 have HH:=show Hid _ from z2
 clear z2
 go_enter Tryz.func53,Tryz.ntmps53
 go_wp2_with fail
 try rw [hW2]
 refine HA.mono ?_
 clear HA hW2
 rintro e w3 ⟨v,rfl,⟨b',kb,K,rfl,ho,hF⟩,hb3⟩
 go_wp2
 go_ret
 exact ⟨b',kb,K,rfl,ho,hF,hb2.trans (hb3.mono hb2.size)⟩
end Go.Proofs.YtlmpfkbgknbcnaaGreat.Kn

set_option linter.unusedVariables false
namespace Go.Proofs.YtlmpfkbgknbcnaaGreat.Kn
open Go.RowKit _root_.Go.Proofs.YtlmpfkbgknbcnaaGreat.Own Var Term
theorem run_append_none {P : Program} {w : World} {base : Nat} (t ty e : TypeId) (i : TypeInfo) {size n : Nat} {v : Value} {xs : List Value} (ht : P.underlying t = some (.slice e)) (hi : P.info? e = some i) (hown : w.ownsRow base e size v n xs) (c : Nat) :
  (Builtin.append_ #[t,t] ty #[v,.slice none 0 c]).run P w = .ok v w:=by
 rcases hown.2 with ⟨rfl,rfl⟩ | ⟨g,cap,cur,rfl,hbg,hg,hnc,hcm,hcs,htake⟩
 ·simp [Builtin.append_,run_underlying ht,sizeOf,typeInfo,hi,Builtin.lenOf,Builtin.firstCells]
 ·simp [Builtin.append_,run_underlying ht,sizeOf,typeInfo,hi,Builtin.lenOf,Builtin.firstCells,loadCells,hnc,storeCells]
theorem wpList_append_row {P : Program} (w : World) {ops : Array Oper} {rest : List Oper} {o : Oper} {a : Act} {Q : Exit → Act → World → Prop} (hgd : o.guard = none) (s x : Operand) (t : TypeId)
  (ho : o.op = .call { callee:=.builtin .append,args:=#[s,x],argTypes:=#[t,t] })
  (base : Nat) (e : TypeId) (i : TypeInfo) (z : Value) (size bytes : Nat) (ht : P.underlying t = some (.slice e)) (hi : P.info? e = some i) (hz : i.zero = some z)
  (hsize : i.size = size) (hby : i.bytes = bytes) (hzs : z.cells.size = size) (hsz : 0 < size)
  (v : Value) (n : Nat) (xs : List Value) (hs : a.eval s = v) (hown : w.ownsRow base e size v n xs)
  (oa : Option Addr) (m c : Nat) (news : List Value) (hx : a.eval x = .slice oa m c) (hl : news.length = m * size) (hnews : ∀ ad,oa = some ad → ∀ j u,news[j]? = some u → w.cell? (ad.add j) = some u) (h1 : ∀ u ∈ news,u.oneCell' = true)
  (h63 : n + m ≤ maxLen) (hbytes : (n + m) * bytes ≤ 140737488355328) (hbase : base ≤ w.heap.size) (hnil : oa = none → m = 0)
  (h : ∀ v' w',w'.ownsRow base e size v' (n + m) (xs ++ news) → w.grownBy w' v.ownBlock → wpList P ops Q rest (a.put o.dst v') w') : wpList P ops Q (o :: rest) a w:=by
 cases oa with
 | some ad => exact wpList_append_own w hgd s x t ho base e i z size bytes ht hi hz hsize hby hzs hsz v n xs hs hown ad m c news hx hl (hnews ad rfl) h1 h63 hbytes hbase (fun v' w' h2 h3 _ => h v' w' h2 h3)
 | none =>
  obtain rfl:=hnil rfl
  have hn : news = []:=List.eq_nil_of_length_eq_zero (by simpa using hl)
  subst hn
  have hr:=run_append_none t o.type e i ht hi hown c
  refine wpList_plain hgd fun K hK => ?_
  unfold Oper.wp execOp
  simp only [ho,resolve,invoke,builtin,Sem.run_bind,Sem.run_pure,Result.andThen_ok,List.map_toArray,List.map_cons,List.map_nil,hs,hx,hr]
  exact hK _ _ (h v w (by simpa using hown) (World.grownBy.refl w _))
theorem row_nil {α : Type} {f : α → Value} {w : World} {a : Option Addr} {xs : List α} (h : RowAt f w a xs) (ha : a = none) : xs.length = 0:=by
 cases xs with
 | nil => rfl
 | cons x xs =>
  obtain ⟨b,off,e,_⟩:=h 0 (by simp)
  rw [ha] at e; cases e
theorem news_row {α : Type} {f : α → Value} {w : World} {a : Option Addr} {xs : List α} (h : RowAt f w a xs) : ∀ ad,a = some ad → ∀ j u,(xs.map f)[j]? = some u → w.cell? (ad.add j) = some u:=by
 intro ad ha j u hu
 rw [List.getElem?_map] at hu
 by_cases hj : j < xs.length
 ·obtain ⟨b,off,e,_,hc⟩:=h j hj
  rw [ha] at e
  cases e
  have e2 : (⟨b,off,none⟩ : Addr).add j = ⟨b,off + j,none⟩:=by simp only [Addr.add]; split <;> simp_all
  rw [e2,hc]
  rw [List.getElem?_eq_getElem hj] at hu
  simpa using hu
 ·rw [List.getElem?_eq_none (by omega)] at hu; cases hu
end Go.Proofs.YtlmpfkbgknbcnaaGreat.Kn
