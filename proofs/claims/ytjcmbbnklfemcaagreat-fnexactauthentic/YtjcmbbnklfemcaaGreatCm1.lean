/- What concerns an Accept: the model. -/
import Derived.Test.YtjcmbbnklfemcaaGreatCn3
import Derived.Deep.QuietTactic
import Derived.BigQuiet
set_option linter.unusedVariables false
set_option maxRecDepth 100000
namespace Go.Proofs.YtjcmbbnklfemcaaGreat.Nd
open Go Go.RowKit Go.Joins Own Draw Term
def m0L (p:TQ):List Int := putI (putI [] (pkV (clQ p))) (pkV (3 + seQ p))
def m1L (p:TQ) (k:Nat):List Int := ((viQ p).take k).foldl (fun o v=>putI o (pkV (3 + v))) (m0L p)
def miL (rs:List Int) (r:Int) (o:List Int) (j:Nat):List Int := (rs.take j).foldl (fun o s=>if r=s then o else putI o (lkV r s)) o
def m2L (rs:List Int) (o:List Int) (k:Nat):List Int := (rs.take k).foldl (fun o r=>miL rs r (putI o (ckV r)) rs.length) o
def cnM (c:Cf) (p:TQ):List Int := m2L (rsM c p) (m1L p (viQ p).length) (rsM c p).length
theorem fold_succ {α β:Type} (f:β→α→β) (b:β) {l:List α} {k:Nat} (h:k < l.length):(l.take (k + 1)).foldl f b=f ((l.take k).foldl f b) l[k] := by
 rw [List.take_succ_eq_append_getElem h,List.foldl_append]
 rfl
theorem m1_succ (p:TQ) {k:Nat} (h:k < (viQ p).length):m1L p (k + 1)=putI (m1L p k) (pkV (3 + (viQ p)[k])) := fold_succ _ _ h
theorem mi_succ (rs:List Int) (r:Int) (o:List Int) {j:Nat} (h:j < rs.length):miL rs r o (j + 1)=if r=rs[j] then miL rs r o j else putI (miL rs r o j) (lkV r rs[j]) := fold_succ (fun o s=>if r=s then o else putI o (lkV r s)) _ h
theorem m2_succ (rs:List Int) (o:List Int) {k:Nat} (h:k < rs.length):m2L rs o (k + 1)=miL rs rs[k] (putI (m2L rs o k) (ckV rs[k])) rs.length := fold_succ (fun o r=>miL rs r (putI o (ckV r)) rs.length) _ h
theorem m0_len (p:TQ):(m0L p).length≤2 := by
 unfold m0L
 have h1 := putI_len [] (pkV (clQ p))
 have h2 := putI_len (putI [] (pkV (clQ p))) (pkV (3 + seQ p))
 simp at h1
 omega
theorem m1_len (p:TQ):∀ k,k≤(viQ p).length→(m1L p k).length≤2 + k
 | 0,_=>by unfold m1L;simpa using m0_len p
 | k + 1,h=>by
  have := m1_len p k (by omega)
  rw [m1_succ p (by omega)]
  have := putI_len (m1L p k) (pkV (3 + (viQ p)[k]))
  omega
theorem mi_len (rs:List Int) (r:Int) (o:List Int):∀ j,j≤rs.length→(miL rs r o j).length≤o.length + j
 | 0,_=>by unfold miL;simp
 | j + 1,h=>by
  have h1 := mi_len rs r o j (by omega)
  rw [mi_succ rs r o (by omega)]
  split
  ·omega
  ·have := putI_len (miL rs r o j) (lkV r rs[j])
   omega
theorem m2_len (rs:List Int) (o:List Int) (hl:rs.length≤8):∀ k,k≤rs.length→(m2L rs o k).length≤o.length + 9 * k
 | 0,_=>by unfold m2L;simp
 | k + 1,h=>by
  have h1 := m2_len rs o hl k (by omega)
  rw [m2_succ rs o (by omega)]
  have h2 := putI_len (m2L rs o k) (ckV rs[k])
  have h3 := mi_len rs rs[k] (putI (m2L rs o k) (ckV rs[k])) rs.length (Nat.le_refl _)
  omega
theorem step_row_at {P:Program} {ops:Array Oper} {o:Oper} {a:Act} {w:World} {K:Act→World→Prop} {Q:Exit→Act→World→Prop} {E:Prop} (d:Nat) (hd:o.dst=some d) (hgd:o.guard=none) (s x:Operand) (t:TypeId)
  (ho:o.op=.call { callee := .builtin .append,args := #[s,x],argTypes := #[t,t] })
  (base:Nat) (e:TypeId) (i:TypeInfo) (z:Value) (size bytes:Nat) (ht:P.underlying t=some (.slice e)) (hi:P.info? e=some i) (hz:i.zero=some z)
  (hsize:i.size=size) (hby:i.bytes=bytes) (hzs:z.cells.size=size) (hsz:0 < size)
  (v:Value) (n:Nat) (xs:List Value) (hs:a.eval s=v) (hown:w.ownsRow base e size v n xs)
  (oa:Option Addr) (m c:Nat) (news:List Value) (hx:a.eval x=.slice oa m c) (hl:news.length=m * size) (hnews:∀ ad,oa=some ad→∀ j u,news[j]?=some u→w.cell? (ad.add j)=some u) (h1:∀ u∈news,u.oneCell'=true)
  (h63:n + m≤maxLen) (hbytes:(n + m) * bytes≤140737488355328) (hbase:base≤w.heap.size) (hnil:oa=none→m=0)
  (h:∀ v' w',w'.ownsRow base e size v' (n + m) (xs++news)→w.grownBy w' v.ownBlock→K (a.put (some d) v') w') :
  if Region.wanted o (yielded ops a.tmps)=true then Oper.wp P o a w K Q else E := by
 cases oa with
 | some ad=>exact step_own_at d hd hgd s x t ho base e i z size bytes ht hi hz hsize hby hzs hsz v n xs hs hown ad m c news hx hl (hnews ad rfl) h1 h63 hbytes hbase (fun v' w' h2 h3 _=>h v' w' h2 h3)
 | none =>
  have hw:Region.wanted o (yielded ops a.tmps)=true := by simp [Region.wanted,hgd]
  rw [if_pos hw]
  obtain rfl := hnil rfl
  have hn:news=[] := List.eq_nil_of_length_eq_zero (by simpa using hl)
  subst hn
  have hr := run_append_none t o.type e i ht hi hown c
  unfold Oper.wp execOp
  simp only [ho,resolve,invoke,builtin,Sem.run_bind,Sem.run_pure,Result.andThen_ok,List.map_toArray,List.map_cons,List.map_nil,hs,hx,hr]
  unfold Oper.upon
  simp only [hd]
  exact h v w (by simpa using hown) (World.grownBy.refl w _)
theorem realm_q (n:Int) (w:World):Calls Tryz.prog 132 #[.int .i64 n] w fun e w'=>e=.returned (.bool (btw n 0 2))∧w'=w := (specRealm_is n w).mono (fun e w' h=>⟨h.1,h.2.symm⟩)
theorem in_b2 (n l g:Int) (w:World):Calls Tryz.prog 28 #[.int .i64 n,.int .i64 l,.int .i64 g] w fun e w'=>e=.returned (.bool (btw n l g))∧w=w' := in_is n l g w
theorem conf_all {c:Cf} (h:confB c=true):c.S.length=3∧(∀ x∈c.U,btw x 0 2=true)∧∀ x∈c.S,btw x 0 2=true := by
 unfold confB realmB at h
 simp only [Bool.and_eq_true,decide_eq_true_eq] at h
 exact ⟨h.2.1.1,(all_le h.1.2).2,(all_le h.2.1.2).2⟩
theorem ro_serv {c:Cf} (h:confB c=true) {s:Nat} (hs:s < c.S.length):roV c (3 + (s:Int))=c.S[s] := by
 have h3 := (conf_all h).1
 unfold roV
 rw [h,(btw_iff _ _ _).2 (by omega:(0:Int)≤3 + (s:Int)∧3 + (s:Int)≤5),Bool.and_self,if_pos rfl,if_neg (by omega),show (3 + (s:Int) - 3).toNat=s by omega]
 simp [List.getD,hs]
theorem ro_ok {c:Cf} (h:confB c=true) {q:Int} (hq:btw q 0 5=true):btw (roV c q) 0 2=true := by
 have hb := (btw_iff _ _ _).1 hq
 have hl := conf_len h
 have ha := conf_all h
 unfold roV
 rw [h,hq,Bool.and_self,if_pos rfl]
 split
 ·have:q.toNat < c.U.length := by omega
  rw [show c.U.getD q.toNat 0=c.U[q.toNat] by simp [List.getD,this]]
  exact ha.2.1 _ (List.getElem_mem this)
 ·have:(q - 3).toNat < c.S.length := by omega
  rw [show c.S.getD (q - 3).toNat 0=c.S[(q - 3).toNat] by simp [List.getD,this]]
  exact ha.2.2 _ (List.getElem_mem this)
set_option maxRecDepth 100000 in
set_option maxHeartbeats 6400000 in
theorem specConcerns_is (c:Cf) (p:TQ) (w:World) (C:CfAt c w) (K:CfOk c) (hd:DpQ w p) (hc:confB c=true) {nn:Nat} (ha:acB nn p=true) :
  Calls Tryz.prog 92 #[c.val,vQ p] w fun e w'=>∃ a cap,e=.returned (.slice a (cnM c p).length cap)∧w'.ownsRow w.heap.size 3 1 (.slice a (cnM c p).length cap) (cnM c p).length (intV (cnM c p))∧Below w.heap.size w w' := by
 obtain ⟨i0,hi,hz0,hz1,hz2⟩ := info_parts infoInt3
 obtain ⟨ic,hic,hics⟩ := info_F
 obtain ⟨iq,hiq,hiqs⟩ := info_Q
 obtain ⟨V0,hV0⟩:∃ V,(w.alloc (.cells #[.slice c.ua c.U.length c.uc,.slice c.sa c.S.length c.sc,.slice c.la c.L.length c.lc,.slice c.xa c.X.length c.xc,.int .i64 c.k] 40)).alloc (.cells #[.int .i64 p.1,.int .i64 p.2.1,.int .i64 p.2.2.1,.int .i64 p.2.2.2.1,.int .i64 p.2.2.2.2.1,.int .i64 p.2.2.2.2.2.1.1,.int .i64 p.2.2.2.2.2.1.2.1,.int .i64 p.2.2.2.2.2.1.2.2,.int .i64 p.2.2.2.2.2.2.1.1,.int .i64 p.2.2.2.2.2.2.1.2.1,.int .i64 p.2.2.2.2.2.2.1.2.2,.slice p.2.2.2.2.2.2.2.1.1 p.2.2.2.2.2.2.2.1.2.2.length p.2.2.2.2.2.2.2.1.2.1,.slice p.2.2.2.2.2.2.2.2.1.1 p.2.2.2.2.2.2.2.2.1.2.2.length p.2.2.2.2.2.2.2.2.1.2.1,.int .i64 p.2.2.2.2.2.2.2.2.2.1,.string p.2.2.2.2.2.2.2.2.2.2] 82)=V := ⟨_,rfl⟩
 have BC0:Below w.heap.size w V0 := by rw [← hV0];exact ((Below.refl _ _).alloc (Nat.le_refl _) _).alloc (by simp) _
 have TC0:Blk w.heap.size [.slice c.ua c.U.length c.uc,.slice c.sa c.S.length c.sc,.slice c.la c.L.length c.lc,.slice c.xa c.X.length c.xc,.int .i64 c.k] V0 := by rw [← hV0];exact (Blk.new _ _ _).alloc (by simp) _
 have TQ0:Blk (w.heap.size + 1) [.int .i64 p.1,.int .i64 p.2.1,.int .i64 p.2.2.1,.int .i64 p.2.2.2.1,.int .i64 p.2.2.2.2.1,.int .i64 p.2.2.2.2.2.1.1,.int .i64 p.2.2.2.2.2.1.2.1,.int .i64 p.2.2.2.2.2.1.2.2,.int .i64 p.2.2.2.2.2.2.1.1,.int .i64 p.2.2.2.2.2.2.1.2.1,.int .i64 p.2.2.2.2.2.2.1.2.2,.slice p.2.2.2.2.2.2.2.1.1 p.2.2.2.2.2.2.2.1.2.2.length p.2.2.2.2.2.2.2.1.2.1,.slice p.2.2.2.2.2.2.2.2.1.1 p.2.2.2.2.2.2.2.2.1.2.2.length p.2.2.2.2.2.2.2.2.1.2.1,.int .i64 p.2.2.2.2.2.2.2.2.2.1,.string p.2.2.2.2.2.2.2.2.2.2] V0 := by rw [← hV0];have := Blk.new (w.alloc (.cells #[.slice c.ua c.U.length c.uc,.slice c.sa c.S.length c.sc,.slice c.la c.L.length c.lc,.slice c.xa c.X.length c.xc,.int .i64 c.k] 40)) #[.int .i64 p.1,.int .i64 p.2.1,.int .i64 p.2.2.1,.int .i64 p.2.2.2.1,.int .i64 p.2.2.2.2.1,.int .i64 p.2.2.2.2.2.1.1,.int .i64 p.2.2.2.2.2.1.2.1,.int .i64 p.2.2.2.2.2.1.2.2,.int .i64 p.2.2.2.2.2.2.1.1,.int .i64 p.2.2.2.2.2.2.1.2.1,.int .i64 p.2.2.2.2.2.2.1.2.2,.slice p.2.2.2.2.2.2.2.1.1 p.2.2.2.2.2.2.2.1.2.2.length p.2.2.2.2.2.2.2.1.2.1,.slice p.2.2.2.2.2.2.2.2.1.1 p.2.2.2.2.2.2.2.2.1.2.2.length p.2.2.2.2.2.2.2.2.1.2.1,.int .i64 p.2.2.2.2.2.2.2.2.2.1,.string p.2.2.2.2.2.2.2.2.2.2] 82;simpa using this
 obtain ⟨V,hV⟩:∃ V,V0.alloc (.cells #[] 3)=V := ⟨_,rfl⟩
 have hlit:V.ownsRow w.heap.size 3 1 (.slice (some ⟨V0.heap.size,0,none⟩) 0 0) 0 (intV []) := by rw [← hV];exact World.ownsRow_lit _ _ _ BC0.size (by unfold maxLen;omega) rfl
 have b1:Below V0.heap.size V0 V := by rw [← hV];exact (Below.refl _ _).alloc (Nat.le_refl _) _
 have TC := TC0.later b1 TC0.lt
 have TQ := TQ0.later b1 TQ0.lt
 have BC := BC0.trans (b1.mono BC0.size)
 have hse := (btw_iff _ _ _).1 (ac_se ha)
 have K0 := cfSpecOk_is c V (C.later BC) K
 rw [hc] at K0
 have KP := fun U=>spec_prin (clQ p) U
 simp only [ac_cl ha] at KP
 have d0 := TC.at 0 rfl
 have d1 := TC.at 1 rfl
 have d2 := TC.at 2 rfl
 have d3 := TC.at 3 rfl
 have d4 := TC.at 4 rfl
 clear BC0 TC0 TQ0 b1
 go_enter Tryz.func92,Tryz.ntmps92
 go_wp2_with fail
 refine K0.mono ?_
 clear hV hV0 d0 d1 d2 d3 d4 K0
 rintro en v1 ⟨rfl,hb⟩
 replace TC := TC.later hb TC.lt
 replace TQ := TQ.later hb TQ.lt
 replace BC := BC.trans (hb.mono BC.size)
 replace hlit := own_later hlit hb
 clear hb
 have e0 := TQ.at 0 rfl
 have e1 := TQ.at 1 rfl
 have n0:¬ (p.1 < 0) := by have := hse.1;show ¬ (seQ p < 0);omega
 have n3:¬ (3≤p.1) := by have := hse.2;show ¬ (3≤seQ p);omega
 go_wp2_with fail
 refine (KP _).mono ?_
 rintro en v2 ⟨rfl,rfl⟩
 clear KP e0 e1
 have z0:decide (p.1 < 0)=false := decide_eq_false (by omega)
 have z3:decide (3≤p.1)=false := decide_eq_false (by omega)
 have lQ:w.heap.size + 1 < v1.drew.heap.size := TQ.lt
 have hp1:(putI [] (pkV (clQ p))).length≤1048576 := by have := putI_len [] (pkV (clQ p));simp at this;omega
 have hw3:IntKind.i64.wrap (3 + seQ p)=3 + seQ p := by rw [IntKind.wrap_i64];omega
 go_wp2_with fail
 clear z0 z3 n0 n3
 refine wp_region_held_drew (S := (fun U:World=>Blk (w.heap.size + 1) [.int .i64 p.1,.int .i64 p.2.1,.int .i64 p.2.2.1,.int .i64 p.2.2.2.1,.int .i64 p.2.2.2.2.1,.int .i64 p.2.2.2.2.2.1.1,.int .i64 p.2.2.2.2.2.1.2.1,.int .i64 p.2.2.2.2.2.1.2.2,.int .i64 p.2.2.2.2.2.2.1.1,.int .i64 p.2.2.2.2.2.2.1.2.1,.int .i64 p.2.2.2.2.2.2.1.2.2,.slice p.2.2.2.2.2.2.2.1.1 p.2.2.2.2.2.2.2.1.2.2.length p.2.2.2.2.2.2.2.1.2.1,.slice p.2.2.2.2.2.2.2.2.1.1 p.2.2.2.2.2.2.2.2.1.2.2.length p.2.2.2.2.2.2.2.2.1.2.1,.int .i64 p.2.2.2.2.2.2.2.2.2.1,.string p.2.2.2.2.2.2.2.2.2.2] U)) (by kernel_rfl) TQ.drew (fun hHeld=>?_)
 refine take_one 0 31 (v := ?_) rfl rfl (by kernel_rfl) (by kernel_rfl) (by kernel_rfl) (fun _ _ _ h=>h) (Or.inl ⟨by rfl,?_⟩) hHeld ?_
 rotate_left
 ·intro w' hSw;(try dsimp only at hSw);have q0 := hSw.at 0 rfl;have q1 := hSw.at 1 rfl;go_simp;try with_reducible rfl
 try simp only [Act.put,List.setIfInBounds_toArray,List.set_cons_zero,List.set_cons_succ]
 refine take_one 1 32 (v := ?_) rfl rfl (by kernel_rfl) (by kernel_rfl) (by kernel_rfl) (fun _ _ _ h=>h) (Or.inl ⟨by rfl,?_⟩) hHeld ?_
 rotate_left
 ·intro w' hSw;(try dsimp only at hSw);have q0 := hSw.at 0 rfl;have q1 := hSw.at 1 rfl;go_simp;try with_reducible rfl
 try simp only [Act.put,List.setIfInBounds_toArray,List.set_cons_zero,List.set_cons_succ]
 refine take_one 2 33 (v := ?_) rfl rfl (by kernel_rfl) (by kernel_rfl) (by kernel_rfl) (fun _ _ _ h=>h) (Or.inl ⟨by rfl,?_⟩) hHeld ?_
 rotate_left
 ·intro w' hSw;(try dsimp only at hSw);have q0 := hSw.at 0 rfl;have q1 := hSw.at 1 rfl;go_simp;try with_reducible rfl
 try simp only [Act.put,List.setIfInBounds_toArray,List.set_cons_zero,List.set_cons_succ]
 refine take_one 5 36 (v := ?_) rfl rfl (by kernel_rfl) (by kernel_rfl) (by kernel_rfl) (fun _ _ _ h=>h) (Or.inl ⟨by rfl,?_⟩) hHeld ?_
 rotate_left
 ·intro w' hSw;(try dsimp only at hSw);have q0 := hSw.at 0 rfl;have q1 := hSw.at 1 rfl;go_simp;try with_reducible rfl
 try simp only [Act.put,List.setIfInBounds_toArray,List.set_cons_zero,List.set_cons_succ]
 refine take_one 6 37 (v := ?_) rfl rfl (by kernel_rfl) (by kernel_rfl) (by kernel_rfl) (fun _ _ _ h=>h) (Or.inl ⟨by rfl,?_⟩) hHeld ?_
 rotate_left
 ·intro w' hSw;(try dsimp only at hSw);have q0 := hSw.at 0 rfl;have q1 := hSw.at 1 rfl;go_simp;try with_reducible rfl
 try simp only [Act.put,List.setIfInBounds_toArray,List.set_cons_zero,List.set_cons_succ]
 refine take_one 7 38 (v := ?_) rfl rfl (by kernel_rfl) (by kernel_rfl) (by kernel_rfl) (fun _ _ _ h=>h) (Or.inl ⟨by rfl,?_⟩) hHeld ?_
 rotate_left
 ·intro w' hSw;(try dsimp only at hSw);have q0 := hSw.at 0 rfl;have q1 := hSw.at 1 rfl;go_simp;try with_reducible rfl
 try simp only [Act.put,List.setIfInBounds_toArray,List.set_cons_zero,List.set_cons_succ]
 refine wpAnyH_ready (rs := [3]) (by kernel_rfl) (by simp) ?_
 refine AllReadyH.cons (i := 3) rfl (fun K hK=>?_) AllReadyH.nil
 go_simp
 refine (specPK_is (clQ p) v1.drew).mono ?_
 rintro en u0 ⟨rfl,rfl⟩
 go_wp2_with fail
 refine hK.out _ _ TQ.drew (fun hHeld2=>?_)
 clear hK K hHeld
 have hHeld := hHeld2
 clear hHeld2
 try simp only [Act.put,List.setIfInBounds_toArray,List.set_cons_zero,List.set_cons_succ]
 refine wpAnyH_ready (rs := [4]) (by kernel_rfl) (by simp) ?_
 refine AllReadyH.cons (i := 4) rfl (fun K hK=>?_) AllReadyH.nil
 go_simp
 refine (l3Put_is w.heap.size _ [] (pkV (clQ p)) v1.drew hlit BC.size (by simp)).mono ?_
 rintro en u1 ⟨va,rfl,hoa,h1⟩
 go_wp2_with fail
 refine hK.out _ _ (TQ.drew.later h1 lQ) (fun hHeld2=>?_)
 clear hK K hHeld
 have hHeld := hHeld2
 clear hHeld2
 try simp only [Act.put,List.setIfInBounds_toArray,List.set_cons_zero,List.set_cons_succ]
 refine wpAnyH_ready (rs := [8]) (by kernel_rfl) (by simp) ?_
 refine AllReadyH.cons (i := 8) rfl (fun K hK=>?_) AllReadyH.nil
 go_simp
 refine (specPK_is (3 + seQ p) u1).mono ?_
 rintro en u0 ⟨rfl,rfl⟩
 go_wp2_with fail
 refine hK.out _ _ (TQ.drew.later h1 lQ) (fun hHeld2=>?_)
 clear hK K hHeld
 have hHeld := hHeld2
 clear hHeld2
 try simp only [Act.put,List.setIfInBounds_toArray,List.set_cons_zero,List.set_cons_succ]
 refine wpAnyH_ready (rs := [9]) (by kernel_rfl) (by simp) ?_
 refine AllReadyH.cons (i := 9) rfl (fun K hK=>?_) AllReadyH.nil
 go_simp
 refine (l3Put_is w.heap.size va (putI [] (pkV (clQ p))) (pkV (3 + seQ p)) u1 hoa (Nat.le_trans BC.size h1.size) hp1).mono ?_
 rintro en u2 ⟨vb,rfl,hob,h2⟩
 go_wp2_with fail
 refine hK.out _ _ (TQ.drew.later (h1.trans (h2.mono h1.size)) lQ) (fun hHeld2=>?_)
 clear hK K hHeld
 have hHeld := hHeld2
 clear hHeld2
 try simp only [Act.put,List.setIfInBounds_toArray,List.set_cons_zero,List.set_cons_succ]
 refine take_one 10 5 (v := ?_) rfl rfl (by kernel_rfl) (by kernel_rfl) (by kernel_rfl) (fun _ _ _ h=>h) (Or.inl ⟨by rfl,?_⟩) hHeld ?_
 rotate_left
 ·intro w' hSw;(try dsimp only at hSw);have q0 := hSw.at 0 rfl;have q1 := hSw.at 1 rfl;go_simp;try with_reducible rfl
 try simp only [Act.put,List.setIfInBounds_toArray,List.set_cons_zero,List.set_cons_succ]
 refine wpAnyH_done (by kernel_rfl) ?_ _
 obtain ⟨oa0,oc0,rfl,_⟩ := own_shape hob
 have B2:Below w.heap.size w u2 := BC.trans (((Below.refl _ v1).drew.trans (h1.trans (h2.mono h1.size))).mono BC.size)
 have TQ2 := TQ.drew.later (h1.trans (h2.mono h1.size)) lQ
 have TC2 := TC.drew.later (h1.trans (h2.mono h1.size)) TC.lt
 have hrs8:(rsM c p).length≤8 := by unfold rsM;have := ac_pl ha;simp only [List.length_cons];omega
 have HRO:Hid (∀ x∈rsM c p,btw x 0 2=true) := by
  intro x hx
  unfold rsM at hx
  simp only [List.mem_cons] at hx
  rcases hx with rfl | rfl | hx
  ·exact ro_ok hc (ac_cl ha)
  ·exact ro_ok hc ((btw_iff _ _ _).2 (by omega))
  ·exact (all_le (ac_parts ha).2.2.2.1).2 x hx
 have HVI:Hid (∀ x∈viQ p,btw x 0 2=true) := (all_le (ac_parts ha).2.2.2.2).2
 have hvl := ac_vl ha
 have hppl := ac_pl ha
 obtain ⟨s,hs⟩:∃ s:Nat,p.1=(s:Int) := ⟨(seQ p).toNat,by have := hse.1;show seQ p=_;omega⟩
 have HSE:Hid (p.1=(s:Int)) := hs
 have hs3:s < c.S.length := by have h3 := (conf_all hc).1;have := hse.2;have e:seQ p=(s:Int) := hs;omega
 obtain ⟨bs,os,hsa,ls,hcs⟩ := C.hs s hs3
 have HSA:Hid (c.sa=some ⟨bs,os,none⟩) := hsa
 have HRS:Hid (rsM c p=[roV c (clQ p),c.S[s]]++paQ p) := by show _=_;unfold rsM;rw [show seQ p=(s:Int) from hs,ro_serv hc hs3];rfl
 obtain ⟨va,hva⟩:∃ va,p.2.2.2.2.2.2.2.2.1.1=va := ⟨_,rfl⟩
 have hvr:RowAt (Value.int .i64) w va (viQ p) := by rw [← hva];exact hd.2
 have HVA:Hid (p.2.2.2.2.2.2.2.2.1.1=va) := hva
 have hpr:RowAt (Value.int .i64) w p.2.2.2.2.2.2.2.1.1 (paQ p) := hd.1
 have hob2:u2.ownsRow w.heap.size 3 1 (.slice oa0 (m1L p 0).length oc0) (m1L p 0).length (intV (m1L p 0)) := hob
 have KRO := fun U (h:Below w.heap.size w U)=>specRO_is c (clQ p) U (C.later h) K
 have hw3':hw3=hw3 := rfl
 clear hHeld hob hoa h1 h2 BC TQ TC lQ hp1 hlit hw3' hw3 hd hs hsa hva hc hse C K
 go_wp2
 go_loopw [5,6] (fun ov iv wr=>∃ (k:Nat) (oa:Option Addr) (oc:Nat),k≤(viQ p).length∧iv=.int .i64 k∧ov=.slice oa (m1L p k).length oc∧wr.ownsRow w.heap.size 3 1 (.slice oa (m1L p k).length oc) (m1L p k).length (intV (m1L p k))∧Blk w.heap.size [.slice c.ua c.U.length c.uc,.slice c.sa c.S.length c.sc,.slice c.la c.L.length c.lc,.slice c.xa c.X.length c.xc,.int .i64 c.k] wr∧Blk (w.heap.size + 1) [.int .i64 p.1,.int .i64 p.2.1,.int .i64 p.2.2.1,.int .i64 p.2.2.2.1,.int .i64 p.2.2.2.2.1,.int .i64 p.2.2.2.2.2.1.1,.int .i64 p.2.2.2.2.2.1.2.1,.int .i64 p.2.2.2.2.2.1.2.2,.int .i64 p.2.2.2.2.2.2.1.1,.int .i64 p.2.2.2.2.2.2.1.2.1,.int .i64 p.2.2.2.2.2.2.1.2.2,.slice p.2.2.2.2.2.2.2.1.1 p.2.2.2.2.2.2.2.1.2.2.length p.2.2.2.2.2.2.2.1.2.1,.slice p.2.2.2.2.2.2.2.2.1.1 p.2.2.2.2.2.2.2.2.1.2.2.length p.2.2.2.2.2.2.2.2.1.2.1,.int .i64 p.2.2.2.2.2.2.2.2.2.1,.string p.2.2.2.2.2.2.2.2.2.2] wr∧Below w.heap.size w wr) (fun _ iv _=>(viQ p).length - (intOf iv).toNat)
 case atStart=>exact ⟨0,oa0,oc0,by omega,rfl,rfl,hob2,TC2,TQ2,B2⟩
 case round =>
  clear hob2 TC2 TQ2 B2
  obtain ⟨k,oa,oc,hk,rfl,rfl,hown,TC,TQ,hbel⟩ := hrel
  have f8 := TQ.at 12 rfl
  rw [HVA.out] at f8
  have hml := m1_len p k hk
  by_cases hlt:k < (viQ p).length
  ·obtain ⟨b2,o2,rfl,l2,hc2⟩ := hvr k hlt
   have hcell := (hbel.cell (p := ⟨b2,o2 + k,none⟩) l2).trans hc2
   have HS:Hid (m1L p (k + 1)=putI (m1L p k) (pkV (3 + (viQ p)[k]))) := m1_succ p hlt
   have hx := HVI.out _ (List.getElem_mem hlt)
   have hlt2:(k:Int) < ((viQ p).length:Int) := by omega
   clear hc2
   generalize (viQ p)[k]=x at hcell HS hx
   have hx2 := (btw_iff _ _ _).1 hx
   have KI := in_b2 x 0 2 wr
   rw [hx] at KI
   have KPK := specPK_is (3 + x) wr
   have KPU := l3Put_is w.heap.size _ (m1L p k) (pkV (3 + x)) wr hown hbel.size (by omega)
   generalize pkV (3 + x)=y at HS KPK KPU
   generalize m1L p k=ys at HS KPU hml hown
   clear hx
   go_wp2_with fail
   refine KI.mono ?_
   rintro en w1 ⟨rfl,rfl⟩
   clear KI
   go_wp2_with fail
   refine KPK.mono ?_
   rintro en w1 ⟨rfl,rfl⟩
   clear KPK
   go_wp2_with fail
   refine KPU.mono ?_
   clear KPU
   rintro en w2 ⟨v2,rfl,ho2,hb2⟩
   obtain ⟨na,nc,rfl,_⟩ := own_shape ho2
   replace TC := TC.later hb2 TC.lt
   replace TQ := TQ.later hb2 TQ.lt
   replace hbel := hbel.trans (hb2.mono hbel.size)
   have HR:Hid (∃ (k':Nat) (oa':Option Addr) (oc':Nat),k'≤(viQ p).length∧Value.int .i64 ((k:Int) + 1)=.int .i64 k'∧Value.slice na (putI ys y).length nc=.slice oa' (m1L p k').length oc'∧w2.ownsRow w.heap.size 3 1 (.slice oa' (m1L p k').length oc') (m1L p k').length (intV (m1L p k'))∧Blk w.heap.size [.slice c.ua c.U.length c.uc,.slice c.sa c.S.length c.sc,.slice c.la c.L.length c.lc,.slice c.xa c.X.length c.xc,.int .i64 c.k] w2∧Blk (w.heap.size + 1) [.int .i64 p.1,.int .i64 p.2.1,.int .i64 p.2.2.1,.int .i64 p.2.2.2.1,.int .i64 p.2.2.2.2.1,.int .i64 p.2.2.2.2.2.1.1,.int .i64 p.2.2.2.2.2.1.2.1,.int .i64 p.2.2.2.2.2.1.2.2,.int .i64 p.2.2.2.2.2.2.1.1,.int .i64 p.2.2.2.2.2.2.1.2.1,.int .i64 p.2.2.2.2.2.2.1.2.2,.slice p.2.2.2.2.2.2.2.1.1 p.2.2.2.2.2.2.2.1.2.2.length p.2.2.2.2.2.2.2.1.2.1,.slice p.2.2.2.2.2.2.2.2.1.1 p.2.2.2.2.2.2.2.2.1.2.2.length p.2.2.2.2.2.2.2.2.1.2.1,.int .i64 p.2.2.2.2.2.2.2.2.2.1,.string p.2.2.2.2.2.2.2.2.2.2] w2∧Below w.heap.size w w2) := ⟨k + 1,na,nc,by omega,by go_num,by rw [HS.out],by rw [HS.out];exact ho2,TC,TQ,hbel⟩
   clear HS ho2 hown TC TQ hbel hb2 hcell f8
   go_wp2
   go_roundw
   case rel=>exact HR.out
   case measure=>simp [intOf];omega
  ·have hlt2:¬ (k:Int) < ((viQ p).length:Int) := by omega
   obtain rfl:k=(viQ p).length := by omega
   have HCN:Hid (cnM c p=m2L (rsM c p) (m1L p (viQ p).length) (rsM c p).length) := rfl
   generalize m1L p (viQ p).length=o1 at hown hml HCN
   have hcsr := (hbel.cell (p := ⟨bs,os + s,none⟩) ls).trans hcs
   have lC:w.heap.size < wr.drew.heap.size := TC.lt
   have lQ:w.heap.size + 1 < wr.drew.heap.size := TQ.lt
   have lS:bs < wr.drew.heap.size := Nat.lt_of_lt_of_le ls hbel.size
   have K1 := KRO wr.drew hbel.drew
   have hs4:(s:Int) < (c.S.length:Int) := by omega
   have hpr2 := hpr.later hbel
   clear KRO hvr HVI HVA hpr hcs ls
   generalize hrv:roV c (clQ p)=x0 at K1 HRS
   generalize hsv:c.S[s]=x1 at hcsr HRS
   clear hrv hsv
   go_wp2_with fail
   clear f8
   refine wp_region_held_drew (S := (fun U:World=>Blk w.heap.size [.slice c.ua c.U.length c.uc,.slice c.sa c.S.length c.sc,.slice c.la c.L.length c.lc,.slice c.xa c.X.length c.xc,.int .i64 c.k] U∧Blk (w.heap.size + 1) [.int .i64 p.1,.int .i64 p.2.1,.int .i64 p.2.2.1,.int .i64 p.2.2.2.1,.int .i64 p.2.2.2.2.1,.int .i64 p.2.2.2.2.2.1.1,.int .i64 p.2.2.2.2.2.1.2.1,.int .i64 p.2.2.2.2.2.1.2.2,.int .i64 p.2.2.2.2.2.2.1.1,.int .i64 p.2.2.2.2.2.2.1.2.1,.int .i64 p.2.2.2.2.2.2.1.2.2,.slice p.2.2.2.2.2.2.2.1.1 p.2.2.2.2.2.2.2.1.2.2.length p.2.2.2.2.2.2.2.1.2.1,.slice p.2.2.2.2.2.2.2.2.1.1 p.2.2.2.2.2.2.2.2.1.2.2.length p.2.2.2.2.2.2.2.2.1.2.1,.int .i64 p.2.2.2.2.2.2.2.2.2.1,.string p.2.2.2.2.2.2.2.2.2.2] U∧U.cell? ⟨bs,os + s,none⟩=some (.int .i64 x1))) (by kernel_rfl) ⟨TC.drew,TQ.drew,hcsr⟩ (fun hHeld=>?_)
   refine take_one 0 63 (v := .agg #[.slice c.ua c.U.length c.uc,.slice c.sa c.S.length c.sc,.slice c.la c.L.length c.lc,.slice c.xa c.X.length c.xc,.int .i64 c.k]) rfl rfl (by kernel_rfl) (by kernel_rfl) (by kernel_rfl) (fun _ _ _ h=>h) (Or.inl ⟨by rfl,?_⟩) hHeld ?_
   ·intro w' hSw;(try dsimp only at hSw);obtain ⟨bC,bQ,cS⟩ := hSw;have hl := ldB (P := Tryz.prog) 40 ic hic (Tryz.isAgg40) (o := 0) [.slice c.ua c.U.length c.uc,.slice c.sa c.S.length c.sc,.slice c.la c.L.length c.lc,.slice c.xa c.X.length c.xc,.int .i64 c.k] bC hics.symm rfl;exact exec_ld 40 _ rfl rfl hl
   try simp only [Act.put,List.setIfInBounds_toArray,List.set_cons_zero,List.set_cons_succ]
   refine take_one 1 64 (v := ?_) rfl rfl (by kernel_rfl) (by kernel_rfl) (by kernel_rfl) (fun _ _ _ h=>h) (Or.inl ⟨by rfl,?_⟩) hHeld ?_
   rotate_left
   ·intro w' hSw;(try dsimp only at hSw);obtain ⟨bC,bQ,cS⟩ := hSw;have c1 := bC.at 1 rfl;rw [HSA.out] at c1;have q0 := bQ.at 0 rfl;rw [HSE.out] at q0;have q1 := bQ.at 1 rfl;have q11 := bQ.at 11 rfl;go_simp;try with_reducible rfl
   try simp only [Act.put,List.setIfInBounds_toArray,List.set_cons_zero,List.set_cons_succ]
   refine take_one 2 65 (v := ?_) rfl rfl (by kernel_rfl) (by kernel_rfl) (by kernel_rfl) (fun _ _ _ h=>h) (Or.inl ⟨by rfl,?_⟩) hHeld ?_
   rotate_left
   ·intro w' hSw;(try dsimp only at hSw);obtain ⟨bC,bQ,cS⟩ := hSw;have c1 := bC.at 1 rfl;rw [HSA.out] at c1;have q0 := bQ.at 0 rfl;rw [HSE.out] at q0;have q1 := bQ.at 1 rfl;have q11 := bQ.at 11 rfl;go_simp;try with_reducible rfl
   try simp only [Act.put,List.setIfInBounds_toArray,List.set_cons_zero,List.set_cons_succ]
   refine take_one 4 67 (v := ?_) rfl rfl (by kernel_rfl) (by kernel_rfl) (by kernel_rfl) (fun _ _ _ h=>h) (Or.inl ⟨by rfl,?_⟩) hHeld ?_
   rotate_left
   ·intro w' hSw;(try dsimp only at hSw);obtain ⟨bC,bQ,cS⟩ := hSw;have c1 := bC.at 1 rfl;rw [HSA.out] at c1;have q0 := bQ.at 0 rfl;rw [HSE.out] at q0;have q1 := bQ.at 1 rfl;have q11 := bQ.at 11 rfl;go_simp;try with_reducible rfl
   try simp only [Act.put,List.setIfInBounds_toArray,List.set_cons_zero,List.set_cons_succ]
   refine take_one 5 68 (v := ?_) rfl rfl (by kernel_rfl) (by kernel_rfl) (by kernel_rfl) (fun _ _ _ h=>h) (Or.inl ⟨by rfl,?_⟩) hHeld ?_
   rotate_left
   ·intro w' hSw;(try dsimp only at hSw);obtain ⟨bC,bQ,cS⟩ := hSw;have c1 := bC.at 1 rfl;rw [HSA.out] at c1;have q0 := bQ.at 0 rfl;rw [HSE.out] at q0;have q1 := bQ.at 1 rfl;have q11 := bQ.at 11 rfl;go_simp;try with_reducible rfl
   try simp only [Act.put,List.setIfInBounds_toArray,List.set_cons_zero,List.set_cons_succ]
   refine take_one 6 69 (v := ?_) rfl rfl (by kernel_rfl) (by kernel_rfl) (by kernel_rfl) (fun _ _ _ h=>h) (Or.inl ⟨by rfl,?_⟩) hHeld ?_
   rotate_left
   ·intro w' hSw;(try dsimp only at hSw);obtain ⟨bC,bQ,cS⟩ := hSw;have c1 := bC.at 1 rfl;rw [HSA.out] at c1;have q0 := bQ.at 0 rfl;rw [HSE.out] at q0;have q1 := bQ.at 1 rfl;have q11 := bQ.at 11 rfl;go_simp;try with_reducible rfl
   try simp only [Act.put,List.setIfInBounds_toArray,List.set_cons_zero,List.set_cons_succ]
   refine take_one 7 70 (v := ?_) rfl rfl (by kernel_rfl) (by kernel_rfl) (by kernel_rfl) (fun _ _ _ h=>h) (Or.inl ⟨by rfl,?_⟩) hHeld ?_
   rotate_left
   ·intro w' hSw;(try dsimp only at hSw);obtain ⟨bC,bQ,cS⟩ := hSw;have c1 := bC.at 1 rfl;rw [HSA.out] at c1;have q0 := bQ.at 0 rfl;rw [HSE.out] at q0;have q1 := bQ.at 1 rfl;have q11 := bQ.at 11 rfl;go_simp;try with_reducible rfl
   try simp only [Act.put,List.setIfInBounds_toArray,List.set_cons_zero,List.set_cons_succ]
   refine take_one 8 71 (v := ?_) rfl rfl (by kernel_rfl) (by kernel_rfl) (by kernel_rfl) (fun _ _ _ h=>h) (Or.inl ⟨by rfl,?_⟩) hHeld ?_
   rotate_left
   ·intro w' hSw;(try dsimp only at hSw);obtain ⟨bC,bQ,cS⟩ := hSw;have c1 := bC.at 1 rfl;rw [HSA.out] at c1;have q0 := bQ.at 0 rfl;rw [HSE.out] at q0;have q1 := bQ.at 1 rfl;have q11 := bQ.at 11 rfl;go_simp;try with_reducible rfl
   try simp only [Act.put,List.setIfInBounds_toArray,List.set_cons_zero,List.set_cons_succ]
   refine take_one 9 72 (v := ?_) rfl rfl (by kernel_rfl) (by kernel_rfl) (by kernel_rfl) (fun _ _ _ h=>h) (Or.inl ⟨by rfl,?_⟩) hHeld ?_
   rotate_left
   ·intro w' hSw;(try dsimp only at hSw);obtain ⟨bC,bQ,cS⟩ := hSw;have c1 := bC.at 1 rfl;rw [HSA.out] at c1;have q0 := bQ.at 0 rfl;rw [HSE.out] at q0;have q1 := bQ.at 1 rfl;have q11 := bQ.at 11 rfl;go_simp;try with_reducible rfl
   try simp only [Act.put,List.setIfInBounds_toArray,List.set_cons_zero,List.set_cons_succ]
   refine take_one 11 74 (v := ?_) rfl rfl (by kernel_rfl) (by kernel_rfl) (by kernel_rfl) (fun _ _ _ h=>h) (Or.inl ⟨by rfl,?_⟩) hHeld ?_
   rotate_left
   ·intro w' hSw;(try dsimp only at hSw);obtain ⟨bC,bQ,cS⟩ := hSw;have c1 := bC.at 1 rfl;rw [HSA.out] at c1;have q0 := bQ.at 0 rfl;rw [HSE.out] at q0;have q1 := bQ.at 1 rfl;have q11 := bQ.at 11 rfl;go_simp;try with_reducible rfl
   try simp only [Act.put,List.setIfInBounds_toArray,List.set_cons_zero,List.set_cons_succ]
   refine take_one 12 75 (v := ?_) rfl rfl (by kernel_rfl) (by kernel_rfl) (by kernel_rfl) (fun _ _ _ h=>h) (Or.inl ⟨by rfl,?_⟩) hHeld ?_
   rotate_left
   ·intro w' hSw;(try dsimp only at hSw);obtain ⟨bC,bQ,cS⟩ := hSw;have c1 := bC.at 1 rfl;rw [HSA.out] at c1;have q0 := bQ.at 0 rfl;rw [HSE.out] at q0;have q1 := bQ.at 1 rfl;have q11 := bQ.at 11 rfl;go_simp;try with_reducible rfl
   try simp only [Act.put,List.setIfInBounds_toArray,List.set_cons_zero,List.set_cons_succ]
   refine wpAnyH_ready (rs := [3]) (by kernel_rfl) (by simp) ?_
   refine AllReadyH.cons (i := 3) rfl (fun K hK=>?_) AllReadyH.nil
   go_simp
   refine (K1).mono ?_
   rintro en u3 ⟨rfl,h3⟩
   clear K1
   go_wp2_with fail
   refine hK.out _ _ ⟨TC.drew.later h3 lC,TQ.drew.later h3 lQ,(h3.cell (p := ⟨bs,os + s,none⟩) lS).trans hcsr⟩ (fun hHeld2=>?_)
   clear hK K hHeld
   have hHeld := hHeld2
   clear hHeld2
   try simp only [Act.put,List.setIfInBounds_toArray,List.set_cons_zero,List.set_cons_succ]
   have TC3 := TC.drew.later h3 lC
   have TQ3 := TQ.drew.later h3 lQ
   have cS3 := (h3.cell (p := ⟨bs,os + s,none⟩) lS).trans hcsr
   have lS3:bs < u3.heap.size := Nat.lt_of_lt_of_le lS h3.size
   have bA:Below u3.heap.size u3 (u3.alloc (.cells #[.int .i64 x0,.int .i64 x1] 3)) := (Below.refl _ _).alloc (Nat.le_refl _) _
   have hlA:(u3.alloc (.cells #[.int .i64 x0,.int .i64 x1] 3)).ownsRow u3.heap.size 3 1 (.slice (some ⟨u3.heap.size,0,none⟩) 2 2) 2 (intV [x0,x1]) := World.ownsRow_lit _ _ _ (Nat.le_refl _) (by unfold maxLen;omega) rfl
   refine wpAnyH_ready (rs := [10]) (by kernel_rfl) (by simp) ?_
   refine AllReadyH.cons (i := 10) rfl (fun K hK=>?_) AllReadyH.nil
   go_simp
   refine hK.out _ _ ⟨TC3.later bA TC3.lt,TQ3.later bA TQ3.lt,(bA.cell (p := ⟨bs,os + s,none⟩) lS3).trans cS3⟩ (fun hHeld2=>?_)
   clear hK K hHeld
   have hHeld := hHeld2
   clear hHeld2
   try simp only [Act.put,List.setIfInBounds_toArray,List.set_cons_zero,List.set_cons_succ]
   have hprA := (hpr2.later ((Below.refl _ wr).drew.trans h3)).later bA
   refine wpAnyH_ready (rs := [13]) (by kernel_rfl) (by simp) ?_
   refine AllReadyH.cons (i := 13) rfl (fun K hK=>?_) AllReadyH.nil
   refine step_row_at 76 rfl rfl _ _ 22 rfl u3.heap.size 3 i0 (.int .i64 0) 1 8 Tryz.underlying22 hi hz0 hz1 hz2 rfl (by decide) (.slice (some ⟨u3.heap.size,0,none⟩) 2 2) 2 (intV [x0,x1]) rfl hlA p.2.2.2.2.2.2.2.1.1 (paQ p).length p.2.2.2.2.2.2.2.1.2.1 ((paQ p).map (Value.int .i64)) rfl (by simp) (news_row hprA) (one_ints _) (by unfold maxLen;omega) (by omega) (by simp) (row_nil hprA) ?_
   intro v' u4 hown4 hgrow
   have b4:Below u3.heap.size u3 u4 := grown_kept bA (Nat.le_refl _) hlA hgrow
   refine hK.out _ _ ⟨TC3.later b4 TC3.lt,TQ3.later b4 TQ3.lt,(b4.cell (p := ⟨bs,os + s,none⟩) lS3).trans cS3⟩ (fun hHeld2=>?_)
   clear hK K hHeld
   have hHeld := hHeld2
   clear hHeld2
   try simp only [Act.put,List.setIfInBounds_toArray,List.set_cons_zero,List.set_cons_succ]
   obtain ⟨ra,rc,rfl,_⟩ := own_shape hown4
   refine take_one 14 7 (v := ?_) rfl rfl (by kernel_rfl) (by kernel_rfl) (by kernel_rfl) (fun _ _ _ h=>h) (Or.inl ⟨by rfl,?_⟩) hHeld ?_
   rotate_left
   ·intro w' hSw;(try dsimp only at hSw);obtain ⟨bC,bQ,cS⟩ := hSw;have c1 := bC.at 1 rfl;rw [HSA.out] at c1;have q0 := bQ.at 0 rfl;rw [HSE.out] at q0;have q1 := bQ.at 1 rfl;have q11 := bQ.at 11 rfl;go_simp;try with_reducible rfl
   try simp only [Act.put,List.setIfInBounds_toArray,List.set_cons_zero,List.set_cons_succ]
   refine wpAnyH_done (by kernel_rfl) ?_ _
   have hrl:(rsM c p).length=2 + (paQ p).length := by rw [HRS.out];simp;omega
   have ho5:u4.ownsRow u3.heap.size 3 1 (.slice ra (rsM c p).length rc) (rsM c p).length (intV (rsM c p)) := by
    rw [hrl,HRS.out]
    unfold intV
    rw [List.map_append]
    exact hown4
   have HVR:Hid (Value.slice ra (2 + (paQ p).length) rc=.slice ra (rsM c p).length rc) := by show _=_;rw [hrl]
   have hrr:RowAt (Value.int .i64) u4 ra (rsM c p) := irow_of ho5
   have B4:Below w.heap.size w u4 := hbel.trans (((Below.refl _ wr).drew.trans (h3.trans (b4.mono h3.size))).mono hbel.size)
   have hown5 := own_later (own_later (own_later hown (Below.refl _ wr).drew) h3) b4
   have ho15:o1.length≤6 := by omega
   rw [HVR.out]
   clear hHeld hown4 hgrow hprA hlA bA TC3 TQ3 cS3 lS3 h3 b4 hcsr lC lQ lS hown hbel TC TQ hpr2 hrl ho5 HVR HRS HSE HSA hs3 hs4 hml hlt hlt2 hk hvl hppl
   have hm20:u4.ownsRow w.heap.size 3 1 (.slice oa (m2L (rsM c p) o1 0).length oc) (m2L (rsM c p) o1 0).length (intV (m2L (rsM c p) o1 0)) := hown5
   have HV0:Hid (Value.slice oa o1.length oc=.slice oa (m2L (rsM c p) o1 0).length oc) := rfl
   generalize rsM c p=rs at hrr hrs8 HRO hm20 HCN HV0 ⊢
   clear hown5
   go_wp2
   go_loopw [5,8] (fun ov iv wr=>∃ (k:Nat) (oa:Option Addr) (oc:Nat),k≤rs.length∧iv=.int .i64 k∧ov=.slice oa (m2L rs o1 k).length oc∧wr.ownsRow w.heap.size 3 1 (.slice oa (m2L rs o1 k).length oc) (m2L rs o1 k).length (intV (m2L rs o1 k))∧Below u4.heap.size u4 wr) (fun _ iv _=>rs.length - (intOf iv).toNat)
   case atStart=>exact ⟨0,oa,oc,by omega,rfl,HV0.out,hm20,Below.refl _ _⟩
   case round =>
    clear hm20 HV0
    obtain ⟨k,ka,kc,hk,rfl,rfl,hown,hbel⟩ := hrel
    have hml := m2_len rs o1 hrs8 k hk
    by_cases hlt:k < rs.length
    ·obtain ⟨b2,o2,rfl,l2,hc2⟩ := hrr k hlt
     have hcell := (hbel.cell (p := ⟨b2,o2 + k,none⟩) l2).trans hc2
     have HS:Hid (m2L rs o1 (k + 1)=miL rs rs[k] (putI (m2L rs o1 k) (ckV rs[k])) rs.length) := m2_succ rs o1 hlt
     have hx := HRO.out _ (List.getElem_mem hlt)
     have HN := fun j (h:j < rs.length) (ys:List Int)=>mi_succ rs rs[k] ys h
     have hlt2:(k:Int) < (rs.length:Int) := by omega
     generalize rs[k]=x at hcell hc2 HS hx HN
     have KI := specRealm_is x wr
     rw [hx] at KI
     have KPK := specCK_is x wr
     have KPU := l3Put_is w.heap.size _ (m2L rs o1 k) (ckV x) wr hown (Nat.le_trans B4.size hbel.size) (by omega)
     generalize ckV x=y at HS KPK KPU
     have hyl := putI_len (m2L rs o1 k) y
     generalize m2L rs o1 k=ys at HS KPU hml hown hyl
     clear hx
     go_wp2_with fail
     refine KI.mono ?_
     rintro en w1 ⟨rfl,rfl⟩
     clear KI
     go_wp2_with fail
     refine KPK.mono ?_
     rintro en w1 ⟨rfl,rfl⟩
     clear KPK
     go_wp2_with fail
     refine KPU.mono ?_
     clear KPU hcell
     rintro en w2 ⟨v2,rfl,ho2,hb2⟩
     obtain ⟨na,nc,rfl,_⟩ := own_shape ho2
     replace hbel := hbel.trans (hb2.mono hbel.size)
     have hyl2:(putI ys y).length≤100 := by omega
     clear hb2 hown hyl hml
     have ho3:w2.ownsRow w.heap.size 3 1 (.slice na (miL rs x (putI ys y) 0).length nc) (miL rs x (putI ys y) 0).length (intV (miL rs x (putI ys y) 0)) := ho2
     have HV0:Hid (Value.slice na (putI ys y).length nc=.slice na (miL rs x (putI ys y) 0).length nc) := rfl
     generalize putI ys y=zs at HS hyl2 ho3 HV0
     clear ho2
     go_wp2
     go_loopw [5,9] (fun ov iv wq=>∃ (j:Nat) (oa:Option Addr) (oc:Nat),j≤rs.length∧iv=.int .i64 j∧ov=.slice oa (miL rs x zs j).length oc∧wq.ownsRow w.heap.size 3 1 (.slice oa (miL rs x zs j).length oc) (miL rs x zs j).length (intV (miL rs x zs j))∧Below u4.heap.size u4 wq) (fun _ iv _=>rs.length - (intOf iv).toNat)
     case atStart=>exact ⟨0,na,nc,by omega,rfl,HV0.out,ho3,hbel⟩
     case round =>
      clear ho3 HV0 hbel
      obtain ⟨j,ja,jc,hj,rfl,rfl,hown,hbel⟩ := hrel
      have hml := mi_len rs x zs j hj
      by_cases hjl:j < rs.length
      ·obtain ⟨b3,o3,ea,l3,hc3⟩ := hrr j hjl
       simp only [Option.some.injEq,Addr.mk.injEq,and_true] at ea
       obtain ⟨rfl,rfl⟩ := ea
       have cj := (hbel.cell (p := ⟨b2,o2 + j,none⟩) l3).trans hc3
       have ck := (hbel.cell (p := ⟨b2,o2 + k,none⟩) l2).trans hc2
       have HT := HN j hjl zs
       have hy := HRO.out _ (List.getElem_mem hjl)
       have hjl2:(j:Int) < (rs.length:Int) := by omega
       generalize rs[j]=t at cj HT hy hc3
       have AQ:∀ U:World,Calls Tryz.prog 132 #[.int .i64 t] U fun e w'=>e=.returned (.bool true)∧w'=U := fun U=>by have := realm_q t U;rw [hy] at this;exact this
       clear hy hc3
       by_cases e:x=t
       ·have HT2:Hid (miL rs x zs (j + 1)=miL rs x zs j) := by show _=_;rw [HT,if_pos e]
        have qe:(x == t)=true := beq_iff_eq.2 e
        have qn:(x != t)=false := by rw [e];simp
        have HR:Hid (∀ n:Nat,∃ (j':Nat) (oa':Option Addr) (oc':Nat),j'≤rs.length∧Value.int .i64 ((j:Int) + 1)=.int .i64 j'∧Value.slice ja (miL rs x zs j).length jc=.slice oa' (miL rs x zs j').length oc'∧(wr.drewN n).ownsRow w.heap.size 3 1 (.slice oa' (miL rs x zs j').length oc') (miL rs x zs j').length (intV (miL rs x zs j'))∧Below u4.heap.size u4 (wr.drewN n)) := fun n=>⟨j + 1,ja,jc,by omega,by go_num,by rw [HT2.out],by rw [HT2.out];exact hown,Kn.below_drewN hbel n⟩
        clear HT HT2 e HN hown hbel HS
        go_wp2_with fail
        go_big_quiet (first | (go_at_call_of 132 t;refine Calls.quiet_of_same (AQ _)))
        go_wp2
        go_roundw
        case rel=>exact HR.out _
        case measure=>simp [intOf];omega
       ·have HT2:Hid (miL rs x zs (j + 1)=putI (miL rs x zs j) (lkV x t)) := by show _=_;rw [HT,if_neg e]
        have qe:(x == t)=false := beq_eq_false_iff_ne.2 e
        have qn:(x != t)=true := by simp [e]
        have lk2:b2 < wr.heap.size := Nat.lt_of_lt_of_le l2 hbel.size
        have KPU := fun n:Nat=>l3Put_is w.heap.size _ (miL rs x zs j) (lkV x t) (wr.drewN n).drew hown (Nat.le_trans B4.size hbel.size) (by omega)
        generalize miL rs x zs j=us at HT2 KPU hown hml
        clear HT e HN hown HS
        go_wp2_with fail
        go_big_quiet (first | (go_at_call_of 132 t;refine Calls.quiet_of_same (AQ _)))
        clear AQ qe qn
        go_wp2_with fail
        refine wp_region_held_drew (S := (fun U:World=>U.cell? ⟨b2,o2 + k,none⟩=some (.int .i64 x)∧U.cell? ⟨b2,o2 + j,none⟩=some (.int .i64 t))) (by kernel_rfl) ⟨ck,cj⟩ (fun hHeld=>?_)
        refine take_one 0 118 (v := ?_) rfl rfl (by kernel_rfl) (by kernel_rfl) (by kernel_rfl) (fun _ _ _ h=>h) (Or.inl ⟨by rfl,?_⟩) hHeld ?_
        rotate_left
        ·intro w' hSw;(try dsimp only at hSw);obtain ⟨sk,sj⟩ := hSw;go_simp;try with_reducible rfl
        try simp only [Act.put,List.setIfInBounds_toArray,List.set_cons_zero,List.set_cons_succ]
        refine take_one 1 119 (v := ?_) rfl rfl (by kernel_rfl) (by kernel_rfl) (by kernel_rfl) (fun _ _ _ h=>h) (Or.inl ⟨by rfl,?_⟩) hHeld ?_
        rotate_left
        ·intro w' hSw;(try dsimp only at hSw);obtain ⟨sk,sj⟩ := hSw;go_simp;try with_reducible rfl
        try simp only [Act.put,List.setIfInBounds_toArray,List.set_cons_zero,List.set_cons_succ]
        refine take_one 2 120 (v := ?_) rfl rfl (by kernel_rfl) (by kernel_rfl) (by kernel_rfl) (fun _ _ _ h=>h) (Or.inl ⟨by rfl,?_⟩) hHeld ?_
        rotate_left
        ·intro w' hSw;(try dsimp only at hSw);obtain ⟨sk,sj⟩ := hSw;go_simp;try with_reducible rfl
        try simp only [Act.put,List.setIfInBounds_toArray,List.set_cons_zero,List.set_cons_succ]
        refine take_one 3 121 (v := ?_) rfl rfl (by kernel_rfl) (by kernel_rfl) (by kernel_rfl) (fun _ _ _ h=>h) (Or.inl ⟨by rfl,?_⟩) hHeld ?_
        rotate_left
        ·intro w' hSw;(try dsimp only at hSw);obtain ⟨sk,sj⟩ := hSw;go_simp;try with_reducible rfl
        try simp only [Act.put,List.setIfInBounds_toArray,List.set_cons_zero,List.set_cons_succ]
        refine take_one 4 122 (v := ?_) rfl rfl (by kernel_rfl) (by kernel_rfl) (by kernel_rfl) (fun _ _ _ h=>h) (Or.inl ⟨by rfl,?_⟩) hHeld ?_
        rotate_left
        ·intro w' hSw;(try dsimp only at hSw);obtain ⟨sk,sj⟩ := hSw;go_simp;try with_reducible rfl
        try simp only [Act.put,List.setIfInBounds_toArray,List.set_cons_zero,List.set_cons_succ]
        refine take_one 5 123 (v := ?_) rfl rfl (by kernel_rfl) (by kernel_rfl) (by kernel_rfl) (fun _ _ _ h=>h) (Or.inl ⟨by rfl,?_⟩) hHeld ?_
        rotate_left
        ·intro w' hSw;(try dsimp only at hSw);obtain ⟨sk,sj⟩ := hSw;go_simp;try with_reducible rfl
        try simp only [Act.put,List.setIfInBounds_toArray,List.set_cons_zero,List.set_cons_succ]
        refine take_one 6 124 (v := ?_) rfl rfl (by kernel_rfl) (by kernel_rfl) (by kernel_rfl) (fun _ _ _ h=>h) (Or.inl ⟨by rfl,?_⟩) hHeld ?_
        rotate_left
        ·intro w' hSw;(try dsimp only at hSw);obtain ⟨sk,sj⟩ := hSw;go_simp;try with_reducible rfl
        try simp only [Act.put,List.setIfInBounds_toArray,List.set_cons_zero,List.set_cons_succ]
        refine take_one 7 125 (v := ?_) rfl rfl (by kernel_rfl) (by kernel_rfl) (by kernel_rfl) (fun _ _ _ h=>h) (Or.inl ⟨by rfl,?_⟩) hHeld ?_
        rotate_left
        ·intro w' hSw;(try dsimp only at hSw);obtain ⟨sk,sj⟩ := hSw;go_simp;try with_reducible rfl
        try simp only [Act.put,List.setIfInBounds_toArray,List.set_cons_zero,List.set_cons_succ]
        refine take_one 8 126 (v := ?_) rfl rfl (by kernel_rfl) (by kernel_rfl) (by kernel_rfl) (fun _ _ _ h=>h) (Or.inl ⟨by rfl,?_⟩) hHeld ?_
        rotate_left
        ·intro w' hSw;(try dsimp only at hSw);obtain ⟨sk,sj⟩ := hSw;go_simp;try with_reducible rfl
        try simp only [Act.put,List.setIfInBounds_toArray,List.set_cons_zero,List.set_cons_succ]
        refine wpAnyH_ready (rs := [9]) (by kernel_rfl) (by simp) ?_
        refine AllReadyH.cons (i := 9) rfl (fun K hK=>?_) AllReadyH.nil
        go_simp
        refine (specLK_is x t _).mono ?_
        rintro en u0 ⟨rfl,rfl⟩
        go_wp2_with fail
        refine hK.out _ _ ⟨ck,cj⟩ (fun hHeld2=>?_)
        clear hK K hHeld
        have hHeld := hHeld2
        clear hHeld2
        try simp only [Act.put,List.setIfInBounds_toArray,List.set_cons_zero,List.set_cons_succ]
        refine wpAnyH_ready (rs := [10]) (by kernel_rfl) (by simp) ?_
        refine AllReadyH.cons (i := 10) rfl (fun K hK=>?_) AllReadyH.nil
        go_simp
        refine (KPU _).mono ?_
        rintro en u9 ⟨v9,rfl,ho9,h9⟩
        clear KPU
        obtain ⟨na9,nc9,rfl,_⟩ := own_shape ho9
        go_wp2_with fail
        refine hK.out _ _ ⟨(h9.cell (p := ⟨b2,o2 + k,none⟩) lk2).trans ck,(h9.cell (p := ⟨b2,o2 + j,none⟩) lk2).trans cj⟩ (fun hHeld2=>?_)
        clear hK K hHeld
        have hHeld := hHeld2
        clear hHeld2
        try simp only [Act.put,List.setIfInBounds_toArray,List.set_cons_zero,List.set_cons_succ]
        refine take_one 11 5 (v := ?_) rfl rfl (by kernel_rfl) (by kernel_rfl) (by kernel_rfl) (fun _ _ _ h=>h) (Or.inl ⟨by rfl,?_⟩) hHeld ?_
        rotate_left
        ·intro w' hSw;(try dsimp only at hSw);obtain ⟨sk,sj⟩ := hSw;go_simp;try with_reducible rfl
        try simp only [Act.put,List.setIfInBounds_toArray,List.set_cons_zero,List.set_cons_succ]
        refine wpAnyH_done (by kernel_rfl) ?_ _
        have hb10:Below u4.heap.size u4 u9 := (Kn.below_drewN hbel _).drew.trans (h9.mono hbel.size)
        have HR:Hid (∃ (j':Nat) (oa':Option Addr) (oc':Nat),j'≤rs.length∧Value.int .i64 ((j:Int) + 1)=.int .i64 j'∧Value.slice na9 (putI us (lkV x t)).length nc9=.slice oa' (miL rs x zs j').length oc'∧u9.ownsRow w.heap.size 3 1 (.slice oa' (miL rs x zs j').length oc') (miL rs x zs j').length (intV (miL rs x zs j'))∧Below u4.heap.size u4 u9) := ⟨j + 1,na9,nc9,by omega,by go_num,by rw [HT2.out],by rw [HT2.out];exact ho9,hb10⟩
        clear hHeld h9 ho9 hb10 HT2 hbel ck cj
        go_wp2
        go_roundw
        case rel=>exact HR.out
        case measure=>simp [intOf];omega
      ·have hjl2:¬ (j:Int) < (rs.length:Int) := by omega
       obtain rfl:j=rs.length := by omega
       have HR:Hid (∃ (k':Nat) (oa':Option Addr) (oc':Nat),k'≤rs.length∧Value.int .i64 ((k:Int) + 1)=.int .i64 k'∧Value.slice ja (miL rs x zs rs.length).length jc=.slice oa' (m2L rs o1 k').length oc'∧wr.ownsRow w.heap.size 3 1 (.slice oa' (m2L rs o1 k').length oc') (m2L rs o1 k').length (intV (m2L rs o1 k'))∧Below u4.heap.size u4 wr) := ⟨k + 1,ja,jc,by omega,by go_num,by rw [HS.out],by rw [HS.out];exact hown,hbel⟩
       clear HS HN hown hbel
       go_wp2
       go_roundw
       case rel=>exact HR.out
       case measure=>simp [intOf];omega
    ·have hlt2:¬ (k:Int) < (rs.length:Int) := by omega
     obtain rfl:k=rs.length := by omega
     rw [← HCN.out] at hown
     have HV:Hid (Value.slice ka (m2L rs o1 rs.length).length kc=.slice ka (cnM c p).length kc) := by show _=_;rw [HCN.out]
     have HB:Hid (Below w.heap.size w wr) := B4.trans (hbel.mono B4.size)
     clear hml HCN hbel hrr
     go_wp2
     go_ret
     exact ⟨ka,kc,congrArg Ending.returned HV.out,hown,HB.out⟩
end Go.Proofs.YtjcmbbnklfemcaaGreat.Nd
