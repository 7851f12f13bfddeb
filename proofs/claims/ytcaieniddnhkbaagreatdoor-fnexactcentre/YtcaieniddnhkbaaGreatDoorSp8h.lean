/- Chapter 8: what a centre answers, the model's, given what it answers to who asks. -/
import Derived.Test.YtcaieniddnhkbaaGreatDoorAb
import Derived.Test.YtcaieniddnhkbaaGreatDoorSp8f
import Derived.Test.YtcaieniddnhkbaaGreatDoorIm8k
set_option linter.unusedVariables false
set_option maxRecDepth 100000
namespace Go.Proofs.YtcaieniddnhkbaaGreatDoor
open Go Go.RowKit Own Var Term
theorem conf_k {c:Cf} (h:confB c=true):0≤c.k∧c.k≤20:=by
 unfold confB at h
 simp only [Bool.and_eq_true] at h
 exact (btw_iff _ _ _).1 h.2.2.2.2
theorem row_from {g:Nat} {x y1 y2 y3 y4:ByteArray} {w:World} (P:Blk g [.string x,.string y1,.string y2,.string y3,.string y4] w):RowAt Value.string w (some ⟨g,1,none⟩) [y1,y2,y3,y4]:=by
 intro j hj
 refine ⟨g,1,rfl,P.lt,?_⟩
 have:j=0 ∨ j=1 ∨ j=2 ∨ j=3:=by simp at hj;omega
 rcases this with rfl | rfl | rfl | rfl
 ·exact P.at 1 rfl
 ·exact P.at 2 rfl
 ·exact P.at 3 rfl
 ·exact P.at 4 rfl
set_option maxHeartbeats 6400000 in
theorem specCentre_of (HA:∀ (c:Cf) (realm now fresh target nonce:Int) (la:Option Addr) (lc:Nat) (tk au rs ev:ByteArray) (w:World),CfAt c w→CfOk c→confB c=true→(0≤now∧now≤100000)→(0≤realm∧realm≤2)→RowAt Value.string w la [tk,au,rs,ev]→tk.size≤1048576→au.size≤1048576→rs.size≤1048576→ev.size≤1048576 →
   Calls Tryz.prog 37 #[c.val,I realm,I now,I fresh,I target,I nonce,.slice la 4 lc] w fun en w'=>en=.returned (toR realm (askG c realm now fresh target nonce tk au rs ev)).val∧Below w.heap.size w w')
  (c:Cf) (realm now fresh:Int) (req:ByteArray) (w:World) (C:CfAt c w) (K:CfOk c) (hq:req.size≤1048576) :
  Calls Tryz.prog 8 #[c.val,I realm,I now,I fresh,.string req] w fun en w'=>en=.returned (toR realm (cenG c realm now fresh req)).val∧Below w.heap.size w w':=by
 have HAh:=show Hid _ from HA
 clear HA
 have KO:=K
 obtain ⟨ir,hir,hrz⟩:=info_reply
 have BC:Below w.heap.size w ((w.alloc (.cells #[.slice c.ua c.U.length c.uc,.slice c.sa c.S.length c.sc,.slice c.la c.L.length c.lc,.slice c.xa c.X.length c.xc,I c.k] 27)).alloc (.cells #[I 0,.string ⟨#[]⟩,I 0,I 0,I 0,I 0,I 0,I 0,I 0,I 0,I 0,I 0,I 0] 35)):=((Below.refl _ _).alloc (by simp <;> omega) _).alloc (by simp <;> omega) _
 have TC:Blk w.heap.size [.slice c.ua c.U.length c.uc,.slice c.sa c.S.length c.sc,.slice c.la c.L.length c.lc,.slice c.xa c.X.length c.xc,I c.k] ((w.alloc (.cells #[.slice c.ua c.U.length c.uc,.slice c.sa c.S.length c.sc,.slice c.la c.L.length c.lc,.slice c.xa c.X.length c.xc,I c.k] 27)).alloc (.cells #[I 0,.string ⟨#[]⟩,I 0,I 0,I 0,I 0,I 0,I 0,I 0,I 0,I 0,I 0,I 0] 35)):=by have h_:=((Blk.new w #[.slice c.ua c.U.length c.uc,.slice c.sa c.S.length c.sc,.slice c.la c.L.length c.lc,.slice c.xa c.X.length c.xc,I c.k] 27).alloc (by simp <;> omega) (.cells #[I 0,.string ⟨#[]⟩,I 0,I 0,I 0,I 0,I 0,I 0,I 0,I 0,I 0,I 0,I 0] 35));simpa using h_
 have UC:Blk (w.heap.size+1) [I 0,.string ⟨#[]⟩,I 0,I 0,I 0,I 0,I 0,I 0,I 0,I 0,I 0,I 0,I 0] ((w.alloc (.cells #[.slice c.ua c.U.length c.uc,.slice c.sa c.S.length c.sc,.slice c.la c.L.length c.lc,.slice c.xa c.X.length c.xc,I c.k] 27)).alloc (.cells #[I 0,.string ⟨#[]⟩,I 0,I 0,I 0,I 0,I 0,I 0,I 0,I 0,I 0,I 0,I 0] 35)):=by have h_:=(Blk.new (w.alloc (.cells #[.slice c.ua c.U.length c.uc,.slice c.sa c.S.length c.sc,.slice c.la c.L.length c.lc,.slice c.xa c.X.length c.xc,I c.k] 27)) #[I 0,.string ⟨#[]⟩,I 0,I 0,I 0,I 0,I 0,I 0,I 0,I 0,I 0,I 0,I 0] 35);simpa using h_
 have hlen:=partsR_len req
 have hpz:=parts_size req
 go_enter Tryz.func8,Tryz.ntmps8
 go_wp2_with fail
 refine (spec_parts req _ hq).mono ?_
 rintro en w2 ⟨v,rfl,hown,hb⟩
 replace TC:=TC.later hb TC.lt
 replace UC:=UC.later hb UC.lt
 replace BC:=BC.trans (hb.mono BC.size)
 clear hb
 generalize (partsR req).2=bb
 have q1_:=TC.at 0 rfl
 have q2_:=TC.at 1 rfl
 have q3_:=TC.at 2 rfl
 have q4_:=TC.at 3 rfl
 have q5_:=TC.at 4 rfl
 go_wp2_with fail
 refine (cfSpecOk_is c _ (C.later BC) K).mono ?_
 rintro en w3 ⟨rfl,hb⟩
 replace TC:=TC.later hb TC.lt
 replace UC:=UC.later hb UC.lt
 replace hown:=own_later hown hb
 replace BC:=BC.trans (hb.mono BC.size)
 clear hb
 clear q1_ q2_ q3_ q4_ q5_
 by_cases c0:confB c=true
 ·rw [c0]
  go_wp2_with fail
  refine (specRealm_is realm _).mono ?_
  rintro en w4 ⟨rfl,rfl⟩
  by_cases c1:btw realm 0 2=true
  ·rw [c1]
   go_wp2_with fail
   refine (in_is now 0 100000 _).mono ?_
   rintro en w5 ⟨rfl,rfl⟩
   by_cases c2:inB now 100000=true
   ·rw [show (decide ((0:Int)≤now) && decide (now≤100000))=true from c2]
    go_wp2_with fail
    refine (in_is fresh 101 1000000 _).mono ?_
    rintro en w6 ⟨rfl,rfl⟩
    by_cases c3:(decide (101≤fresh) && decide (fresh≤1000000))=true
    ·rw [c3]
     have hc:cenOk c realm now fresh=true:=by unfold cenOk;rw [c0,c1,c2,c3];rfl
     obtain ⟨hcf,hr,hn,hf⟩:=cen_ok hc
     cases hp:(partsR req).1 with
     | nil =>
      rw [hp] at hown
      obtain ⟨a_,cap,rfl,hcap,_⟩:=own_row (f:=Value.string) (xs:=[]) hown
      clear hown
      have HR:Hid ((toR realm (cenG c realm now fresh req)).val=(failR 1).val):=by show _=_;rw [show cenG c realm now fresh req=.error 1 from by unfold cenG;rw [if_neg];rintro ⟨_,h_,_⟩;unfold reqN at h_;rw [hp] at h_;simp only [List.getD_nil] at h_;unfold numsR partsR at h_;rw [rk_nil] at h_;simp [numsP] at h_];rfl
      go_wp2_with fail
      refine (spec_fail 1 _).mono ?_
      rintro en wf ⟨rfl,hb⟩
      replace TC:=TC.later hb TC.lt
      replace UC:=UC.later hb UC.lt
      replace BC:=BC.trans (hb.mono BC.size)
      clear hb
      have FU:=UC.sets [I 1,.string ⟨#[]⟩,I 0,I 0,I 0,I 0,I 0,I 0,I 0,I 0,I 0,I 0,I 0] rfl
      have FB:=below_sets (m:=w.heap.size) (g:=(w.heap.size+1)) (by omega) [I 1,.string ⟨#[]⟩,I 0,I 0,I 0,I 0,I 0,I 0,I 0,I 0,I 0,I 0,I 0] 0 _ BC
      rw [show (failR 1).val=.agg #[I 1,.string ⟨#[]⟩,I 0,I 0,I 0,I 0,I 0,I 0,I 0,I 0,I 0,I 0,I 0] from rfl]
      go_wp2_with (refine wpList_stB 35 _ _ (w.heap.size+1) 0 [I 0,.string ⟨#[]⟩,I 0,I 0,I 0,I 0,I 0,I 0,I 0,I 0,I 0,I 0,I 0] [I 1,.string ⟨#[]⟩,I 0,I 0,I 0,I 0,I 0,I 0,I 0,I 0,I 0,I 0,I 0] ir hir UC (by rw [hrz];rfl) (by simp) rfl rfl rfl rfl rfl ?_;try simp only [Act.put])
      exact bodyPost_ret (res_B1 rfl _ _ (w.heap.size+1) _ ir hir ag35 FU (by rw [hrz];rfl) rfl) rfl ⟨by rw [HR.out];rfl,FB⟩
     | cons x xs =>
      have hN:reqN req=(numsR x).1:=by unfold reqN;rw [hp];rfl
      have hP:∀ i,reqP req (i+1)=xs.getD i ⟨#[]⟩:=fun i=>by unfold reqP;rw [hp];simp
      have HG:Hid (cenG c realm now fresh req=if (numsR x).1.length=3∧(numsR x).1.getD 2 0≤1000000 then (if (numsR x).1.getD 0 0=1∧xs.length=1 then lgG c realm now fresh ((numsR x).1.getD 1 0) ((numsR x).1.getD 2 0) (xs.getD 0 ⟨#[]⟩) else if (numsR x).1.getD 0 0=2∧xs.length=4 then askG c realm now fresh ((numsR x).1.getD 1 0) ((numsR x).1.getD 2 0) (xs.getD 0 ⟨#[]⟩) (xs.getD 1 ⟨#[]⟩) (xs.getD 2 ⟨#[]⟩) (xs.getD 3 ⟨#[]⟩) else .error 1) else .error 1):=by
       show _=_
       unfold cenG
       rw [hN,hP 0,hP 1,hP 2,hP 3,hp]
       simp only [hc,true_and,List.length_cons,Nat.succ.injEq]
      rw [hp] at hown hlen hpz
      have hx:x.size≤1048576:=Nat.le_trans (hpz x (by simp)) (by omega)
      have hxz:∀ i,(xs.getD i ⟨#[]⟩).size≤1048576:=fun i=>by
       rw [List.getD_eq_getElem?_getD]
       cases h_:xs[i]? with
       | none=>show 0≤1048576;omega
       | some y=>exact Nat.le_trans (hpz y (List.mem_cons_of_mem _ (List.mem_of_getElem? h_))) (by omega)
      obtain ⟨g,cap,rfl,hcap,hg1,hg2,PC⟩:=own_blk (f:=Value.string) hown (by simp)
      clear hown hp hpz hN hP
      have hxl:xs.length≤11:=by simpa using hlen
      clear hlen
      rw [List.length_cons] at hcap ⊢
      have hgt:¬ (((xs.length+1:Nat):Int)=0):=by omega
      have zg:Hid (w.heap.size+2≤g):=by show _≤_;have h_:=hg1;simp at h_;omega
      clear hg1 hg2
      have z3:Hid (w.heap.size+2≤w3.heap.size):=UC.lt
      have p0:w3.cell? ⟨g,0,none⟩=some (.string x):=PC.at 0 rfl
      go_wp2_with fail
      refine (spec_readNums x _ hx).mono ?_
      rintro en w7 ⟨u,rfl,hown,hb⟩
      have hz7:=hb.size
      replace TC:=TC.later hb TC.lt
      replace UC:=UC.later hb UC.lt
      replace PC:=PC.later hb PC.lt
      replace BC:=BC.trans (hb.mono BC.size)
      clear hb p0 hgt
      have hsm:=numsR_small x
      by_cases hl:(numsR x).1.length=3
      ·obtain ⟨n0,n1,n2,hL⟩:∃ n0 n1 n2,(numsR x).1=[n0,n1,n2]:=by
        match (numsR x).1,hl with
        | [n0,n1,n2],_=>exact ⟨n0,n1,n2,rfl⟩
       have hT:(numsR x).2=true:=by
        cases h_:(numsR x).2 with
        | true=>rfl
        | false=>rw [nums_len x h_] at hL;cases hL
       rw [hL] at hown HG hsm
       rw [hT]
       obtain ⟨k,kc,rfl,hkc,hk1,hk2,NC⟩:=own_blk (f:=Value.int .i64) (xs:=[n0,n1,n2]) hown (by simp)
       clear hown hL hT hl
       have hn2:=hsm n2 (by simp)
       have hn1:=hsm n1 (by simp)
       have zk:Hid (w.heap.size+2≤k):=Nat.le_trans z3.out hk1
       clear hsm hk1 hk2 hz7
       have m0:=NC.at 0 rfl
       have m1:=NC.at 1 rfl
       have m2:=NC.at 2 rfl
       go_wp2_with fail
       refine (spec_no n2 _).mono ?_
       rintro en w8 ⟨rfl,rfl⟩
       by_cases h2:n2≤1000000
       ·rw [show noB n2=false from by unfold noB;rw [(btw_iff _ _ _).2 ⟨hn2.1,h2⟩];rfl]
        rw [if_pos ⟨rfl,h2⟩] at HG
        by_cases e0:n0=1
        ·subst e0
         by_cases e1:xs.length=1
         ·obtain ⟨y,rfl⟩:∃ y,xs=[y]:=by
           match xs,e1 with
           | [y],_=>exact ⟨y,rfl⟩
          rw [if_pos ⟨rfl,rfl⟩] at HG
          have hy:=hxz 0
          replace PC:Blk g [.string x,.string y] w7:=PC
          clear e1 hxz
          clear m1 m2
          go_wp2_with fail
          clear m0
          replace TC:=TC.drew
          replace UC:=UC.drew
          replace NC:=NC.drew
          replace PC:=PC.drew
          replace BC:=BC.drew
          refine wp_region_held_drew (S:=(fun Vw=>Blk w.heap.size [.slice c.ua c.U.length c.uc,.slice c.sa c.S.length c.sc,.slice c.la c.L.length c.lc,.slice c.xa c.X.length c.xc,I c.k] Vw∧Blk k [I 1,I n1,I n2] Vw∧Blk g [.string x,.string y] Vw)) (by kernel_rfl) ⟨TC,NC,PC⟩ (fun hH=>?_)
          refine tK 0 74 rfl _ hH (by intro w' h;have d0:=h.1.e5;have a0:=h.2.1.e3;have p0:=h.2.2.e2;go_simp;try with_reducible rfl) ?_
          try simp only [Act.put,pa,pb,pc]
          refine tK 1 75 rfl _ hH (by intro w' h;have d0:=h.1.e5;have a0:=h.2.1.e3;have p0:=h.2.2.e2;go_simp;try with_reducible rfl) ?_
          try simp only [Act.put,pa,pb,pc]
          refine tK 2 76 rfl _ hH (by intro w' h;have d0:=h.1.e5;have a0:=h.2.1.e3;have p0:=h.2.2.e2;go_simp;try with_reducible rfl) ?_
          try simp only [Act.put,pa,pb,pc]
          refine tK 3 77 rfl _ hH (by intro w' h;have d0:=h.1.e5;have a0:=h.2.1.e3;have p0:=h.2.2.e2;go_simp;try with_reducible rfl) ?_
          try simp only [Act.put,pa,pb,pc]
          refine tK 4 78 rfl _ hH (by intro w' h;have d0:=h.1.e5;have a0:=h.2.1.e3;have p0:=h.2.2.e2;go_simp;try with_reducible rfl) ?_
          try simp only [Act.put,pa,pb,pc]
          refine tK 5 79 rfl _ hH (by intro w' h;have d0:=h.1.e5;have a0:=h.2.1.e3;have p0:=h.2.2.e2;go_simp;try with_reducible rfl) ?_
          try simp only [Act.put,pa,pb,pc]
          refine tK 6 80 rfl _ hH (by intro w' h;have d0:=h.1.e5;have a0:=h.2.1.e3;have p0:=h.2.2.e2;go_simp;try with_reducible rfl) ?_
          try simp only [Act.put,pa,pb,pc]
          refine tK 7 81 rfl _ hH (by intro w' h;have d0:=h.1.e5;have a0:=h.2.1.e3;have p0:=h.2.2.e2;go_simp;try with_reducible rfl) ?_
          try simp only [Act.put,pa,pb,pc]
          refine tK 8 82 rfl _ hH (by intro w' h;have d0:=h.1.e5;have a0:=h.2.1.e3;have p0:=h.2.2.e2;go_simp;try with_reducible rfl) ?_
          try simp only [Act.put,pa,pb,pc]
          refine tK 9 83 rfl _ hH (by intro w' h;have d0:=h.1.e5;have a0:=h.2.1.e3;have p0:=h.2.2.e2;go_simp;try with_reducible rfl) ?_
          try simp only [Act.put,pa,pb,pc]
          refine tK 10 84 rfl _ hH (by intro w' h;have d0:=h.1.e5;have a0:=h.2.1.e3;have p0:=h.2.2.e2;go_simp;try with_reducible rfl) ?_
          try simp only [Act.put,pa,pb,pc]
          refine tK 11 85 rfl _ hH (by intro w' h;have d0:=h.1.e5;have a0:=h.2.1.e3;have p0:=h.2.2.e2;go_simp;try with_reducible rfl) ?_
          try simp only [Act.put,pa,pb,pc]
          refine tK 12 86 rfl _ hH (by intro w' h;have d0:=h.1.e5;have a0:=h.2.1.e3;have p0:=h.2.2.e2;go_simp;try with_reducible rfl) ?_
          try simp only [Act.put,pa,pb,pc]
          refine wpAnyH_ready (rs:=[13]) (by kernel_rfl) (by simp) ?_
          refine AllReadyH.cons (i:=13) rfl (fun K hK=>?_) AllReadyH.nil
          go_simp
          refine (specLog_is c realm now fresh n1 n2 y _ (C.later BC) KO hn hr (conf_k hcf) hy).mono ?_
          rintro en w9 ⟨rfl,hb⟩
          replace TC:=TC.later hb TC.lt
          replace UC:=UC.later hb UC.lt
          replace NC:=NC.later hb NC.lt
          replace PC:=PC.later hb PC.lt
          replace BC:=BC.trans (hb.mono BC.size)
          clear hb
          go_wp2_with fail
          refine hK.out _ _ ⟨TC,NC,PC⟩ (fun hJ=>?_)
          clear hK K hH
          have hH:=hJ
          clear hJ
          try simp only [Act.put,pa,pb,pc]
          have HR:Hid ((toR realm (cenG c realm now fresh req)).val=(lgR c realm now fresh n1 n2 y).val):=by show _=_;rw [HG.out];rw [lgR_is];rfl
          generalize lgR c realm now fresh n1 n2 y=rp at HR hH ⊢
          obtain ⟨rc,rt,k0,k1,k2,k3,k4,k5,k6,k7,k8,k9,k10⟩:=rp
          have zk_:=zk.out
          have zg_:=zg.out
          have N_:Blk (w.heap.size+1) [I rc,.string rt,I k0,I k1,I k2,I k3,I k4,I k5,I k6,I k7,I k8,I k9,I k10] ((w9).setCells (w.heap.size+1) 0 [I rc,.string rt,I k0,I k1,I k2,I k3,I k4,I k5,I k6,I k7,I k8,I k9,I k10]):=UC.part 0 [I rc,.string rt,I k0,I k1,I k2,I k3,I k4,I k5,I k6,I k7,I k8,I k9,I k10] _ (by simp) rfl
          have TC_:=Blk.farS (q:=(w.heap.size+1)) (by omega) [I rc,.string rt,I k0,I k1,I k2,I k3,I k4,I k5,I k6,I k7,I k8,I k9,I k10] 0 _ TC
          have NC_:=Blk.farS (q:=(w.heap.size+1)) (by omega) [I rc,.string rt,I k0,I k1,I k2,I k3,I k4,I k5,I k6,I k7,I k8,I k9,I k10] 0 _ NC
          have PC_:=Blk.farS (q:=(w.heap.size+1)) (by omega) [I rc,.string rt,I k0,I k1,I k2,I k3,I k4,I k5,I k6,I k7,I k8,I k9,I k10] 0 _ PC
          have BC_:=below_sets (m:=w.heap.size) (g:=(w.heap.size+1)) (by omega) [I rc,.string rt,I k0,I k1,I k2,I k3,I k4,I k5,I k6,I k7,I k8,I k9,I k10] 0 _ BC
          refine wpAnyH_ready (rs:=[14]) (by kernel_rfl) (by simp) ?_
          refine AllReadyH.cons (i:=14) rfl (fun K hK=>?_) AllReadyH.nil
          refine stepB 35 _ _ ((w.heap.size+1)) 0 [I 0,.string ⟨#[]⟩,I 0,I 0,I 0,I 0,I 0,I 0,I 0,I 0,I 0,I 0,I 0] [I rc,.string rt,I k0,I k1,I k2,I k3,I k4,I k5,I k6,I k7,I k8,I k9,I k10] ir hir UC (by rw [hrz];rfl) (by simp) rfl rfl rfl rfl rfl ?_
          try simp only [Act.put,pa]
          obtain ⟨VF,hVF⟩:∃ Wz,(w9).setCells ((w.heap.size+1)) 0 [I rc,.string rt,I k0,I k1,I k2,I k3,I k4,I k5,I k6,I k7,I k8,I k9,I k10]=Wz:=⟨_,rfl⟩
          rw [hVF] at N_ BC_ TC_ NC_ PC_ ⊢
          clear hVF UC BC TC NC PC
          have UC:=N_
          have BC:=BC_
          have TC:=TC_
          have NC:=NC_
          have PC:=PC_
          clear N_ BC_ TC_ NC_ PC_
          refine hK.out _ _ ⟨TC,NC,PC⟩ (fun hJ=>?_)
          clear hK K hH
          have hH:=hJ
          clear hJ
          try simp only [Act.put,pa,pb,pc]
          refine wpAnyH_done (by kernel_rfl) ?_ _
          go_wp2
          exact bodyPost_ret (res_B1 rfl _ _ (w.heap.size+1) _ ir hir ag35 UC (by rw [hrz];rfl) rfl) rfl ⟨by rw [HR.out],BC⟩
         ·rw [if_neg (fun h_=>e1 h_.2),if_neg (fun h_=>by cases h_.1)] at HG
          have e4:¬ ((xs.length+1:Nat):Int)=2:=by omega
          have HR:Hid ((toR realm (cenG c realm now fresh req)).val=(failR 1).val):=by show _=_;rw [show cenG c realm now fresh req=.error 1 from HG.out];rfl
          go_wp2_with fail
          refine (spec_fail 1 _).mono ?_
          rintro en wf ⟨rfl,hb⟩
          replace TC:=TC.later hb TC.lt
          replace UC:=UC.later hb UC.lt
          replace BC:=BC.trans (hb.mono BC.size)
          clear hb
          have FU:=UC.sets [I 1,.string ⟨#[]⟩,I 0,I 0,I 0,I 0,I 0,I 0,I 0,I 0,I 0,I 0,I 0] rfl
          have FB:=below_sets (m:=w.heap.size) (g:=(w.heap.size+1)) (by omega) [I 1,.string ⟨#[]⟩,I 0,I 0,I 0,I 0,I 0,I 0,I 0,I 0,I 0,I 0,I 0] 0 _ BC
          rw [show (failR 1).val=.agg #[I 1,.string ⟨#[]⟩,I 0,I 0,I 0,I 0,I 0,I 0,I 0,I 0,I 0,I 0,I 0] from rfl]
          go_wp2_with (refine wpList_stB 35 _ _ (w.heap.size+1) 0 [I 0,.string ⟨#[]⟩,I 0,I 0,I 0,I 0,I 0,I 0,I 0,I 0,I 0,I 0,I 0] [I 1,.string ⟨#[]⟩,I 0,I 0,I 0,I 0,I 0,I 0,I 0,I 0,I 0,I 0,I 0] ir hir UC (by rw [hrz];rfl) (by simp) rfl rfl rfl rfl rfl ?_;try simp only [Act.put])
          exact bodyPost_ret (res_B1 rfl _ _ (w.heap.size+1) _ ir hir ag35 FU (by rw [hrz];rfl) rfl) rfl ⟨by rw [HR.out];rfl,FB⟩
        ·rw [if_neg (fun h_=>e0 h_.1)] at HG
         by_cases e2:n0=2
         ·subst e2
          by_cases e3:xs.length=4
          ·obtain ⟨y1,y2,y3,y4,rfl⟩:∃ y1 y2 y3 y4,xs=[y1,y2,y3,y4]:=by
            match xs,e3 with
            | [y1,y2,y3,y4],_=>exact ⟨y1,y2,y3,y4,rfl⟩
           rw [if_pos ⟨rfl,rfl⟩] at HG
           have hy1:=hxz 0
           have hy2:=hxz 1
           have hy3:=hxz 2
           have hy4:=hxz 3
           replace PC:Blk g [.string x,.string y1,.string y2,.string y3,.string y4] w7:=PC
           have hc1:¬ cap=1:=by have h_:=hcap;simp at h_;omega
           clear e3 hxz
           clear m1 m2
           go_wp2_with fail
           clear m0
           replace TC:=TC.drew
           replace UC:=UC.drew
           replace NC:=NC.drew
           replace PC:=PC.drew
           replace BC:=BC.drew
           refine wp_region_held_drew (S:=(fun Vw=>Blk w.heap.size [.slice c.ua c.U.length c.uc,.slice c.sa c.S.length c.sc,.slice c.la c.L.length c.lc,.slice c.xa c.X.length c.xc,I c.k] Vw∧Blk k [I 2,I n1,I n2] Vw∧Blk g [.string x,.string y1,.string y2,.string y3,.string y4] Vw)) (by kernel_rfl) ⟨TC,NC,PC⟩ (fun hH=>?_)
           refine tK 0 97 rfl _ hH (by intro w' h;have d0:=h.1.e5;have a0:=h.2.1.e3;have p0:=h.2.2.e5;go_simp;try with_reducible rfl) ?_
           try simp only [Act.put,pa,pb,pc]
           refine tK 1 98 rfl _ hH (by intro w' h;have d0:=h.1.e5;have a0:=h.2.1.e3;have p0:=h.2.2.e5;go_simp;try with_reducible rfl) ?_
           try simp only [Act.put,pa,pb,pc]
           refine tK 2 99 rfl _ hH (by intro w' h;have d0:=h.1.e5;have a0:=h.2.1.e3;have p0:=h.2.2.e5;go_simp;try with_reducible rfl) ?_
           try simp only [Act.put,pa,pb,pc]
           refine tK 3 100 rfl _ hH (by intro w' h;have d0:=h.1.e5;have a0:=h.2.1.e3;have p0:=h.2.2.e5;go_simp;try with_reducible rfl) ?_
           try simp only [Act.put,pa,pb,pc]
           refine tK 4 101 rfl _ hH (by intro w' h;have d0:=h.1.e5;have a0:=h.2.1.e3;have p0:=h.2.2.e5;go_simp;try with_reducible rfl) ?_
           try simp only [Act.put,pa,pb,pc]
           refine tK 5 102 rfl _ hH (by intro w' h;have d0:=h.1.e5;have a0:=h.2.1.e3;have p0:=h.2.2.e5;go_simp;try with_reducible rfl) ?_
           try simp only [Act.put,pa,pb,pc]
           refine tK 6 103 rfl _ hH (by intro w' h;have d0:=h.1.e5;have a0:=h.2.1.e3;have p0:=h.2.2.e5;go_simp;try with_reducible rfl) ?_
           try simp only [Act.put,pa,pb,pc]
           refine tK 7 104 rfl _ hH (by intro w' h;have d0:=h.1.e5;have a0:=h.2.1.e3;have p0:=h.2.2.e5;go_simp;try with_reducible rfl) ?_
           try simp only [Act.put,pa,pb,pc]
           refine tK 8 105 rfl _ hH (by intro w' h;have d0:=h.1.e5;have a0:=h.2.1.e3;have p0:=h.2.2.e5;go_simp;try with_reducible rfl) ?_
           try simp only [Act.put,pa,pb,pc]
           refine tK 9 106 rfl _ hH (by intro w' h;have d0:=h.1.e5;have a0:=h.2.1.e3;have p0:=h.2.2.e5;go_simp;try with_reducible rfl) ?_
           try simp only [Act.put,pa,pb,pc]
           refine tK 10 107 rfl _ hH (by intro w' h;have d0:=h.1.e5;have a0:=h.2.1.e3;have p0:=h.2.2.e5;go_simp;try with_reducible rfl) ?_
           try simp only [Act.put,pa,pb,pc]
           refine tK 11 108 rfl _ hH (by intro w' h;have d0:=h.1.e5;have a0:=h.2.1.e3;have p0:=h.2.2.e5;go_simp;try with_reducible rfl) ?_
           try simp only [Act.put,pa,pb,pc]
           refine wpAnyH_ready (rs:=[12]) (by kernel_rfl) (by simp) ?_
           refine AllReadyH.cons (i:=12) rfl (fun K hK=>?_) AllReadyH.nil
           go_simp
           refine (HAh.out c realm now fresh n1 n2 (some ⟨g,1,none⟩) (cap - 1) y1 y2 y3 y4 _ (C.later BC) KO hcf hn hr (row_from PC) hy1 hy2 hy3 hy4).mono ?_
           rintro en w9 ⟨rfl,hb⟩
           replace TC:=TC.later hb TC.lt
           replace UC:=UC.later hb UC.lt
           replace NC:=NC.later hb NC.lt
           replace PC:=PC.later hb PC.lt
           replace BC:=BC.trans (hb.mono BC.size)
           clear hb
           go_wp2_with fail
           refine hK.out _ _ ⟨TC,NC,PC⟩ (fun hJ=>?_)
           clear hK K hH
           have hH:=hJ
           clear hJ
           try simp only [Act.put,pa,pb,pc]
           have HR:Hid ((toR realm (cenG c realm now fresh req)).val=(toR realm (askG c realm now fresh n1 n2 y1 y2 y3 y4)).val):=by show _=_;rw [HG.out];rfl
           generalize toR realm (askG c realm now fresh n1 n2 y1 y2 y3 y4)=rp at HR hH ⊢
           obtain ⟨rc,rt,k0,k1,k2,k3,k4,k5,k6,k7,k8,k9,k10⟩:=rp
           have zk_:=zk.out
           have zg_:=zg.out
           have N_:Blk (w.heap.size+1) [I rc,.string rt,I k0,I k1,I k2,I k3,I k4,I k5,I k6,I k7,I k8,I k9,I k10] ((w9).setCells (w.heap.size+1) 0 [I rc,.string rt,I k0,I k1,I k2,I k3,I k4,I k5,I k6,I k7,I k8,I k9,I k10]):=UC.part 0 [I rc,.string rt,I k0,I k1,I k2,I k3,I k4,I k5,I k6,I k7,I k8,I k9,I k10] _ (by simp) rfl
           have TC_:=Blk.farS (q:=(w.heap.size+1)) (by omega) [I rc,.string rt,I k0,I k1,I k2,I k3,I k4,I k5,I k6,I k7,I k8,I k9,I k10] 0 _ TC
           have NC_:=Blk.farS (q:=(w.heap.size+1)) (by omega) [I rc,.string rt,I k0,I k1,I k2,I k3,I k4,I k5,I k6,I k7,I k8,I k9,I k10] 0 _ NC
           have PC_:=Blk.farS (q:=(w.heap.size+1)) (by omega) [I rc,.string rt,I k0,I k1,I k2,I k3,I k4,I k5,I k6,I k7,I k8,I k9,I k10] 0 _ PC
           have BC_:=below_sets (m:=w.heap.size) (g:=(w.heap.size+1)) (by omega) [I rc,.string rt,I k0,I k1,I k2,I k3,I k4,I k5,I k6,I k7,I k8,I k9,I k10] 0 _ BC
           refine wpAnyH_ready (rs:=[13]) (by kernel_rfl) (by simp) ?_
           refine AllReadyH.cons (i:=13) rfl (fun K hK=>?_) AllReadyH.nil
           refine stepB 35 _ _ ((w.heap.size+1)) 0 [I 0,.string ⟨#[]⟩,I 0,I 0,I 0,I 0,I 0,I 0,I 0,I 0,I 0,I 0,I 0] [I rc,.string rt,I k0,I k1,I k2,I k3,I k4,I k5,I k6,I k7,I k8,I k9,I k10] ir hir UC (by rw [hrz];rfl) (by simp) rfl rfl rfl rfl rfl ?_
           try simp only [Act.put,pa]
           obtain ⟨VF,hVF⟩:∃ Wz,(w9).setCells ((w.heap.size+1)) 0 [I rc,.string rt,I k0,I k1,I k2,I k3,I k4,I k5,I k6,I k7,I k8,I k9,I k10]=Wz:=⟨_,rfl⟩
           rw [hVF] at N_ BC_ TC_ NC_ PC_ ⊢
           clear hVF UC BC TC NC PC
           have UC:=N_
           have BC:=BC_
           have TC:=TC_
           have NC:=NC_
           have PC:=PC_
           clear N_ BC_ TC_ NC_ PC_
           refine hK.out _ _ ⟨TC,NC,PC⟩ (fun hJ=>?_)
           clear hK K hH
           have hH:=hJ
           clear hJ
           try simp only [Act.put,pa,pb,pc]
           refine wpAnyH_done (by kernel_rfl) ?_ _
           go_wp2
           exact bodyPost_ret (res_B1 rfl _ _ (w.heap.size+1) _ ir hir ag35 UC (by rw [hrz];rfl) rfl) rfl ⟨by rw [HR.out],BC⟩
          ·rw [if_neg (fun h_=>e3 h_.2)] at HG
           have e4:¬ ((xs.length+1:Nat):Int)=5:=by omega
           have HR:Hid ((toR realm (cenG c realm now fresh req)).val=(failR 1).val):=by show _=_;rw [show cenG c realm now fresh req=.error 1 from HG.out];rfl
           go_wp2_with fail
           refine (spec_fail 1 _).mono ?_
           rintro en wf ⟨rfl,hb⟩
           replace TC:=TC.later hb TC.lt
           replace UC:=UC.later hb UC.lt
           replace BC:=BC.trans (hb.mono BC.size)
           clear hb
           have FU:=UC.sets [I 1,.string ⟨#[]⟩,I 0,I 0,I 0,I 0,I 0,I 0,I 0,I 0,I 0,I 0,I 0] rfl
           have FB:=below_sets (m:=w.heap.size) (g:=(w.heap.size+1)) (by omega) [I 1,.string ⟨#[]⟩,I 0,I 0,I 0,I 0,I 0,I 0,I 0,I 0,I 0,I 0,I 0] 0 _ BC
           rw [show (failR 1).val=.agg #[I 1,.string ⟨#[]⟩,I 0,I 0,I 0,I 0,I 0,I 0,I 0,I 0,I 0,I 0,I 0] from rfl]
           go_wp2_with (refine wpList_stB 35 _ _ (w.heap.size+1) 0 [I 0,.string ⟨#[]⟩,I 0,I 0,I 0,I 0,I 0,I 0,I 0,I 0,I 0,I 0,I 0] [I 1,.string ⟨#[]⟩,I 0,I 0,I 0,I 0,I 0,I 0,I 0,I 0,I 0,I 0,I 0] ir hir UC (by rw [hrz];rfl) (by simp) rfl rfl rfl rfl rfl ?_;try simp only [Act.put])
           exact bodyPost_ret (res_B1 rfl _ _ (w.heap.size+1) _ ir hir ag35 FU (by rw [hrz];rfl) rfl) rfl ⟨by rw [HR.out];rfl,FB⟩
         ·rw [if_neg (fun h_=>e2 h_.1)] at HG
          have HR:Hid ((toR realm (cenG c realm now fresh req)).val=(failR 1).val):=by show _=_;rw [show cenG c realm now fresh req=.error 1 from HG.out];rfl
          go_wp2_with fail
          refine (spec_fail 1 _).mono ?_
          rintro en wf ⟨rfl,hb⟩
          replace TC:=TC.later hb TC.lt
          replace UC:=UC.later hb UC.lt
          replace BC:=BC.trans (hb.mono BC.size)
          clear hb
          have FU:=UC.sets [I 1,.string ⟨#[]⟩,I 0,I 0,I 0,I 0,I 0,I 0,I 0,I 0,I 0,I 0,I 0] rfl
          have FB:=below_sets (m:=w.heap.size) (g:=(w.heap.size+1)) (by omega) [I 1,.string ⟨#[]⟩,I 0,I 0,I 0,I 0,I 0,I 0,I 0,I 0,I 0,I 0,I 0] 0 _ BC
          rw [show (failR 1).val=.agg #[I 1,.string ⟨#[]⟩,I 0,I 0,I 0,I 0,I 0,I 0,I 0,I 0,I 0,I 0,I 0] from rfl]
          go_wp2_with (refine wpList_stB 35 _ _ (w.heap.size+1) 0 [I 0,.string ⟨#[]⟩,I 0,I 0,I 0,I 0,I 0,I 0,I 0,I 0,I 0,I 0,I 0] [I 1,.string ⟨#[]⟩,I 0,I 0,I 0,I 0,I 0,I 0,I 0,I 0,I 0,I 0,I 0] ir hir UC (by rw [hrz];rfl) (by simp) rfl rfl rfl rfl rfl ?_;try simp only [Act.put])
          exact bodyPost_ret (res_B1 rfl _ _ (w.heap.size+1) _ ir hir ag35 FU (by rw [hrz];rfl) rfl) rfl ⟨by rw [HR.out];rfl,FB⟩
       ·rw [show noB n2=true from by unfold noB;rw [show btw n2 0 1000000=false from by cases h_:btw n2 0 1000000 with | false=>rfl | true=>exact absurd ((btw_iff _ _ _).1 h_).2 h2];rfl]
        rw [if_neg (fun h_=>h2 h_.2)] at HG
        have HR:Hid ((toR realm (cenG c realm now fresh req)).val=(failR 1).val):=by show _=_;rw [show cenG c realm now fresh req=.error 1 from HG.out];rfl
        go_wp2_with fail
        refine (spec_fail 1 _).mono ?_
        rintro en wf ⟨rfl,hb⟩
        replace TC:=TC.later hb TC.lt
        replace UC:=UC.later hb UC.lt
        replace BC:=BC.trans (hb.mono BC.size)
        clear hb
        have FU:=UC.sets [I 1,.string ⟨#[]⟩,I 0,I 0,I 0,I 0,I 0,I 0,I 0,I 0,I 0,I 0,I 0] rfl
        have FB:=below_sets (m:=w.heap.size) (g:=(w.heap.size+1)) (by omega) [I 1,.string ⟨#[]⟩,I 0,I 0,I 0,I 0,I 0,I 0,I 0,I 0,I 0,I 0,I 0] 0 _ BC
        rw [show (failR 1).val=.agg #[I 1,.string ⟨#[]⟩,I 0,I 0,I 0,I 0,I 0,I 0,I 0,I 0,I 0,I 0,I 0] from rfl]
        go_wp2_with (refine wpList_stB 35 _ _ (w.heap.size+1) 0 [I 0,.string ⟨#[]⟩,I 0,I 0,I 0,I 0,I 0,I 0,I 0,I 0,I 0,I 0,I 0] [I 1,.string ⟨#[]⟩,I 0,I 0,I 0,I 0,I 0,I 0,I 0,I 0,I 0,I 0,I 0] ir hir UC (by rw [hrz];rfl) (by simp) rfl rfl rfl rfl rfl ?_;try simp only [Act.put])
        exact bodyPost_ret (res_B1 rfl _ _ (w.heap.size+1) _ ir hir ag35 FU (by rw [hrz];rfl) rfl) rfl ⟨by rw [HR.out];rfl,FB⟩
      ·rw [if_neg (fun h_=>hl h_.1)] at HG
       obtain ⟨a_,c_,rfl,hc_,_⟩:=own_row (f:=Value.int .i64) hown
       clear hown
       have hl2:¬ ((numsR x).1.length:Int)=3:=by omega
       generalize (numsR x).2=b2
       cases b2 with
       | false =>
        have HR:Hid ((toR realm (cenG c realm now fresh req)).val=(failR 1).val):=by show _=_;rw [show cenG c realm now fresh req=.error 1 from HG.out];rfl
        go_wp2_with fail
        refine (spec_fail 1 _).mono ?_
        rintro en wf ⟨rfl,hb⟩
        replace TC:=TC.later hb TC.lt
        replace UC:=UC.later hb UC.lt
        replace BC:=BC.trans (hb.mono BC.size)
        clear hb
        have FU:=UC.sets [I 1,.string ⟨#[]⟩,I 0,I 0,I 0,I 0,I 0,I 0,I 0,I 0,I 0,I 0,I 0] rfl
        have FB:=below_sets (m:=w.heap.size) (g:=(w.heap.size+1)) (by omega) [I 1,.string ⟨#[]⟩,I 0,I 0,I 0,I 0,I 0,I 0,I 0,I 0,I 0,I 0,I 0] 0 _ BC
        rw [show (failR 1).val=.agg #[I 1,.string ⟨#[]⟩,I 0,I 0,I 0,I 0,I 0,I 0,I 0,I 0,I 0,I 0,I 0] from rfl]
        go_wp2_with (refine wpList_stB 35 _ _ (w.heap.size+1) 0 [I 0,.string ⟨#[]⟩,I 0,I 0,I 0,I 0,I 0,I 0,I 0,I 0,I 0,I 0,I 0] [I 1,.string ⟨#[]⟩,I 0,I 0,I 0,I 0,I 0,I 0,I 0,I 0,I 0,I 0,I 0] ir hir UC (by rw [hrz];rfl) (by simp) rfl rfl rfl rfl rfl ?_;try simp only [Act.put])
        exact bodyPost_ret (res_B1 rfl _ _ (w.heap.size+1) _ ir hir ag35 FU (by rw [hrz];rfl) rfl) rfl ⟨by rw [HR.out];rfl,FB⟩
       | true =>
        have HR:Hid ((toR realm (cenG c realm now fresh req)).val=(failR 1).val):=by show _=_;rw [show cenG c realm now fresh req=.error 1 from HG.out];rfl
        go_wp2_with fail
        refine (spec_fail 1 _).mono ?_
        rintro en wf ⟨rfl,hb⟩
        replace TC:=TC.later hb TC.lt
        replace UC:=UC.later hb UC.lt
        replace BC:=BC.trans (hb.mono BC.size)
        clear hb
        have FU:=UC.sets [I 1,.string ⟨#[]⟩,I 0,I 0,I 0,I 0,I 0,I 0,I 0,I 0,I 0,I 0,I 0] rfl
        have FB:=below_sets (m:=w.heap.size) (g:=(w.heap.size+1)) (by omega) [I 1,.string ⟨#[]⟩,I 0,I 0,I 0,I 0,I 0,I 0,I 0,I 0,I 0,I 0,I 0] 0 _ BC
        rw [show (failR 1).val=.agg #[I 1,.string ⟨#[]⟩,I 0,I 0,I 0,I 0,I 0,I 0,I 0,I 0,I 0,I 0,I 0] from rfl]
        go_wp2_with (refine wpList_stB 35 _ _ (w.heap.size+1) 0 [I 0,.string ⟨#[]⟩,I 0,I 0,I 0,I 0,I 0,I 0,I 0,I 0,I 0,I 0,I 0] [I 1,.string ⟨#[]⟩,I 0,I 0,I 0,I 0,I 0,I 0,I 0,I 0,I 0,I 0,I 0] ir hir UC (by rw [hrz];rfl) (by simp) rfl rfl rfl rfl rfl ?_;try simp only [Act.put])
        exact bodyPost_ret (res_B1 rfl _ _ (w.heap.size+1) _ ir hir ag35 FU (by rw [hrz];rfl) rfl) rfl ⟨by rw [HR.out];rfl,FB⟩
    ·rw [Bool.not_eq_true] at c3
     rw [c3]
     have HR:Hid ((toR realm (cenG c realm now fresh req)).val=(failR 1).val):=by show _=_;rw [show cenG c realm now fresh req=.error 1 from by unfold cenG cenOk;rw [c3];simp];rfl
     go_wp2_with fail
     refine (spec_fail 1 _).mono ?_
     rintro en wf ⟨rfl,hb⟩
     replace TC:=TC.later hb TC.lt
     replace UC:=UC.later hb UC.lt
     replace BC:=BC.trans (hb.mono BC.size)
     clear hb
     have FU:=UC.sets [I 1,.string ⟨#[]⟩,I 0,I 0,I 0,I 0,I 0,I 0,I 0,I 0,I 0,I 0,I 0] rfl
     have FB:=below_sets (m:=w.heap.size) (g:=(w.heap.size+1)) (by omega) [I 1,.string ⟨#[]⟩,I 0,I 0,I 0,I 0,I 0,I 0,I 0,I 0,I 0,I 0,I 0] 0 _ BC
     rw [show (failR 1).val=.agg #[I 1,.string ⟨#[]⟩,I 0,I 0,I 0,I 0,I 0,I 0,I 0,I 0,I 0,I 0,I 0] from rfl]
     go_wp2_with (refine wpList_stB 35 _ _ (w.heap.size+1) 0 [I 0,.string ⟨#[]⟩,I 0,I 0,I 0,I 0,I 0,I 0,I 0,I 0,I 0,I 0,I 0] [I 1,.string ⟨#[]⟩,I 0,I 0,I 0,I 0,I 0,I 0,I 0,I 0,I 0,I 0,I 0] ir hir UC (by rw [hrz];rfl) (by simp) rfl rfl rfl rfl rfl ?_;try simp only [Act.put])
     exact bodyPost_ret (res_B1 rfl _ _ (w.heap.size+1) _ ir hir ag35 FU (by rw [hrz];rfl) rfl) rfl ⟨by rw [HR.out];rfl,FB⟩
   ·rw [Bool.not_eq_true] at c2
    rw [show (decide ((0:Int)≤now) && decide (now≤100000))=false from c2]
    have HR:Hid ((toR realm (cenG c realm now fresh req)).val=(failR 1).val):=by show _=_;rw [show cenG c realm now fresh req=.error 1 from by unfold cenG cenOk;rw [c2];simp];rfl
    go_wp2_with fail
    refine (spec_fail 1 _).mono ?_
    rintro en wf ⟨rfl,hb⟩
    replace TC:=TC.later hb TC.lt
    replace UC:=UC.later hb UC.lt
    replace BC:=BC.trans (hb.mono BC.size)
    clear hb
    have FU:=UC.sets [I 1,.string ⟨#[]⟩,I 0,I 0,I 0,I 0,I 0,I 0,I 0,I 0,I 0,I 0,I 0] rfl
    have FB:=below_sets (m:=w.heap.size) (g:=(w.heap.size+1)) (by omega) [I 1,.string ⟨#[]⟩,I 0,I 0,I 0,I 0,I 0,I 0,I 0,I 0,I 0,I 0,I 0] 0 _ BC
    rw [show (failR 1).val=.agg #[I 1,.string ⟨#[]⟩,I 0,I 0,I 0,I 0,I 0,I 0,I 0,I 0,I 0,I 0,I 0] from rfl]
    go_wp2_with (refine wpList_stB 35 _ _ (w.heap.size+1) 0 [I 0,.string ⟨#[]⟩,I 0,I 0,I 0,I 0,I 0,I 0,I 0,I 0,I 0,I 0,I 0] [I 1,.string ⟨#[]⟩,I 0,I 0,I 0,I 0,I 0,I 0,I 0,I 0,I 0,I 0,I 0] ir hir UC (by rw [hrz];rfl) (by simp) rfl rfl rfl rfl rfl ?_;try simp only [Act.put])
    exact bodyPost_ret (res_B1 rfl _ _ (w.heap.size+1) _ ir hir ag35 FU (by rw [hrz];rfl) rfl) rfl ⟨by rw [HR.out];rfl,FB⟩
  ·rw [Bool.not_eq_true] at c1
   rw [c1]
   have HR:Hid ((toR realm (cenG c realm now fresh req)).val=(failR 1).val):=by show _=_;rw [show cenG c realm now fresh req=.error 1 from by unfold cenG cenOk;rw [c1];simp];rfl
   go_wp2_with fail
   refine (spec_fail 1 _).mono ?_
   rintro en wf ⟨rfl,hb⟩
   replace TC:=TC.later hb TC.lt
   replace UC:=UC.later hb UC.lt
   replace BC:=BC.trans (hb.mono BC.size)
   clear hb
   have FU:=UC.sets [I 1,.string ⟨#[]⟩,I 0,I 0,I 0,I 0,I 0,I 0,I 0,I 0,I 0,I 0,I 0] rfl
   have FB:=below_sets (m:=w.heap.size) (g:=(w.heap.size+1)) (by omega) [I 1,.string ⟨#[]⟩,I 0,I 0,I 0,I 0,I 0,I 0,I 0,I 0,I 0,I 0,I 0] 0 _ BC
   rw [show (failR 1).val=.agg #[I 1,.string ⟨#[]⟩,I 0,I 0,I 0,I 0,I 0,I 0,I 0,I 0,I 0,I 0,I 0] from rfl]
   go_wp2_with (refine wpList_stB 35 _ _ (w.heap.size+1) 0 [I 0,.string ⟨#[]⟩,I 0,I 0,I 0,I 0,I 0,I 0,I 0,I 0,I 0,I 0,I 0] [I 1,.string ⟨#[]⟩,I 0,I 0,I 0,I 0,I 0,I 0,I 0,I 0,I 0,I 0,I 0] ir hir UC (by rw [hrz];rfl) (by simp) rfl rfl rfl rfl rfl ?_;try simp only [Act.put])
   exact bodyPost_ret (res_B1 rfl _ _ (w.heap.size+1) _ ir hir ag35 FU (by rw [hrz];rfl) rfl) rfl ⟨by rw [HR.out];rfl,FB⟩
 ·rw [Bool.not_eq_true] at c0
  rw [c0]
  have HR:Hid ((toR realm (cenG c realm now fresh req)).val=(failR 1).val):=by show _=_;rw [show cenG c realm now fresh req=.error 1 from by unfold cenG cenOk;rw [c0];simp];rfl
  go_wp2_with fail
  refine (spec_fail 1 _).mono ?_
  rintro en wf ⟨rfl,hb⟩
  replace TC:=TC.later hb TC.lt
  replace UC:=UC.later hb UC.lt
  replace BC:=BC.trans (hb.mono BC.size)
  clear hb
  have FU:=UC.sets [I 1,.string ⟨#[]⟩,I 0,I 0,I 0,I 0,I 0,I 0,I 0,I 0,I 0,I 0,I 0] rfl
  have FB:=below_sets (m:=w.heap.size) (g:=(w.heap.size+1)) (by omega) [I 1,.string ⟨#[]⟩,I 0,I 0,I 0,I 0,I 0,I 0,I 0,I 0,I 0,I 0,I 0] 0 _ BC
  rw [show (failR 1).val=.agg #[I 1,.string ⟨#[]⟩,I 0,I 0,I 0,I 0,I 0,I 0,I 0,I 0,I 0,I 0,I 0] from rfl]
  go_wp2_with (refine wpList_stB 35 _ _ (w.heap.size+1) 0 [I 0,.string ⟨#[]⟩,I 0,I 0,I 0,I 0,I 0,I 0,I 0,I 0,I 0,I 0,I 0] [I 1,.string ⟨#[]⟩,I 0,I 0,I 0,I 0,I 0,I 0,I 0,I 0,I 0,I 0,I 0] ir hir UC (by rw [hrz];rfl) (by simp) rfl rfl rfl rfl rfl ?_;try simp only [Act.put])
  exact bodyPost_ret (res_B1 rfl _ _ (w.heap.size+1) _ ir hir ag35 FU (by rw [hrz];rfl) rfl) rfl ⟨by rw [HR.out];rfl,FB⟩
end Go.Proofs.YtcaieniddnhkbaaGreatDoor
