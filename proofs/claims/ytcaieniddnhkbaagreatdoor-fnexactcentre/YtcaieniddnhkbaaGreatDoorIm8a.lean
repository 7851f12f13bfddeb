/- Chapter 8: small things of the program's. -/
import Derived.Test.YtcaieniddnhkbaaGreatDoorAb
import Derived.Test.YtcaieniddnhkbaaGreatDoorMath8
import Derived.Test.YtcaieniddnhkbaaGreatDoorAs8
import Derived.Test.YtcaieniddnhkbaaGreatDoorRealm
import Derived.Test.YtcaieniddnhkbaaGreatDoorShG
import Derived.Test.YtcaieniddnhkbaaGreatDoorFillT
import Derived.Test.YtcaieniddnhkbaaGreatDoorReg
set_option linter.unusedVariables false
set_option maxRecDepth 100000
namespace Go.Proofs.YtcaieniddnhkbaaGreatDoor
open Go Go.RowKit Own Var Term
abbrev cenV (c:Cf) (realm now fresh:Int):Value:=.agg #[.slice c.ua c.U.length c.uc,.slice c.sa c.S.length c.sc,.slice c.la c.L.length c.lc,.slice c.xa c.X.length c.xc,I c.k,I realm,I now,I fresh]
def gZ:Value:=.agg #[I 0,I 0,I 0,I 0,I 0,I 0,.slice none 0 0,.slice none 0 0,I 0,I 0,I 0,I 0,I 0,I 0,I 0,I 0,I 0,I 0,I 0,I 0,I 0,I 0]
def refV (code:Int):Value:=.iface 118 (.agg #[I code])
set_option maxHeartbeats 3200000 in
theorem refuse_is (code:Int) (w:World):Calls Tryz.prog 66 #[I code] w fun en w'=>en=.returned (.tuple #[gZ,refV code])∧Below w.heap.size w w':=by
 obtain ⟨ie,hie,hsz⟩:=info_gift
 have BC:Below w.heap.size w (w.alloc (.cells #[I 0,I 0,I 0,I 0,I 0,I 0,.slice none 0 0,.slice none 0 0,I 0,I 0,I 0,I 0,I 0,I 0,I 0,I 0,I 0,I 0,I 0,I 0,I 0,I 0] 73)):=(Below.refl _ _).alloc (Nat.le_refl _) _
 have UC:Blk w.heap.size [I 0,I 0,I 0,I 0,I 0,I 0,.slice none 0 0,.slice none 0 0,I 0,I 0,I 0,I 0,I 0,I 0,I 0,I 0,I 0,I 0,I 0,I 0,I 0,I 0] (w.alloc (.cells #[I 0,I 0,I 0,I 0,I 0,I 0,.slice none 0 0,.slice none 0 0,I 0,I 0,I 0,I 0,I 0,I 0,I 0,I 0,I 0,I 0,I 0,I 0,I 0,I 0] 73)):=Blk.new _ _ _
 have FB:=below_sets (Nat.le_refl _) [I 0,I 0,I 0,I 0,I 0,I 0,.slice none 0 0,.slice none 0 0,I 0,I 0,I 0,I 0,I 0,I 0,I 0,I 0,I 0,I 0,I 0,I 0,I 0,I 0] 0 _ BC
 have FU:=UC.sets [I 0,I 0,I 0,I 0,I 0,I 0,.slice none 0 0,.slice none 0 0,I 0,I 0,I 0,I 0,I 0,I 0,I 0,I 0,I 0,I 0,I 0,I 0,I 0,I 0] rfl
 go_enter Tryz.func66,Tryz.ntmps66
 go_wp2_with (refine wpList_stB 73 _ _ w.heap.size 0 _ [I 0,I 0,I 0,I 0,I 0,I 0,.slice none 0 0,.slice none 0 0,I 0,I 0,I 0,I 0,I 0,I 0,I 0,I 0,I 0,I 0,I 0,I 0,I 0,I 0] ie hie UC (by rw [hsz];rfl) (by simp) rfl rfl rfl rfl rfl ?_;try simp only [Act.put])
 exact bodyPost_ret (res_B2 rfl _ _ w.heap.size _ (refV code) ie hie ag73 FU (by rw [hsz];rfl) rfl rfl) rfl ⟨rfl,FB⟩
set_option maxHeartbeats 1600000 in
theorem number_is (c:Cf) (realm now fresh:Int) (w:World) (hr:0≤realm∧realm≤2):Calls Tryz.prog 112 #[cenV c realm now fresh] w fun en w'=>en=.returned (I (10+realm))∧Below w.heap.size w w':=by
 have BC:Below w.heap.size w (w.alloc (.cells #[.slice c.ua c.U.length c.uc,.slice c.sa c.S.length c.sc,.slice c.la c.L.length c.lc,.slice c.xa c.X.length c.xc,I c.k,I realm,I now,I fresh] 70)):=(Below.refl _ _).alloc (Nat.le_refl _) _
 go_enter Tryz.func112,Tryz.ntmps112
 go_wp2
 go_ret
 exact ⟨rfl,BC⟩
theorem apart_is (n y:Int) (w:World) (hn:0≤n∧n≤562949953421311) (hy:0≤y∧y≤100000):Calls Tryz.prog 153 #[I n,I y] w fun e w'=>e=.returned (I (apV y n))∧w=w':=by
 unfold apV
 by_cases h:y≤n
 ·rw [if_pos h]
  have h2:max n y=n:=by omega
  have h3:min n y=y:=by omega
  go_enter Tryz.func153,Tryz.ntmps153
  go_wp2
  all_goals
   go_ret
   exact ⟨by simp <;> omega,rfl⟩
 ·rw [if_neg h]
  have h2:max n y=y:=by omega
  have h3:min n y=n:=by omega
  go_enter Tryz.func153,Tryz.ntmps153
  go_wp2
  all_goals
   go_ret
   exact ⟨by simp <;> omega,rfl⟩
set_option maxHeartbeats 3200000 in
theorem hasP_is (c:Cf) (realm now fresh p:Int) (w:World) (C:CfAt c w) (KO:CfOk c):Calls Tryz.prog 110 #[cenV c realm now fresh,I p] w fun en w'=>en=.returned (.bool (decide (roV c p=realm)))∧Below w.heap.size w w':=by
 obtain ⟨W1,hW1⟩:∃ W1,w.alloc (.cells #[.slice c.ua c.U.length c.uc,.slice c.sa c.S.length c.sc,.slice c.la c.L.length c.lc,.slice c.xa c.X.length c.xc,I c.k,I realm,I now,I fresh] 70)=W1:=⟨_,rfl⟩
 have BC:Below w.heap.size w W1:=by rw [← hW1];exact (Below.refl _ _).alloc (Nat.le_refl _) _
 have TC:Blk w.heap.size [.slice c.ua c.U.length c.uc,.slice c.sa c.S.length c.sc,.slice c.la c.L.length c.lc,.slice c.xa c.X.length c.xc,I c.k,I realm,I now,I fresh] W1:=by rw [← hW1];exact Blk.new _ _ _
 go_enter Tryz.func110,Tryz.ntmps110
 go_wp2_with fail
 try rw [hW1]
 clear hW1
 replace TC:=TC.drew
 replace BC:=BC.drew
 refine wp_region_held_drew (S:=(fun Vw=>Blk w.heap.size [.slice c.ua c.U.length c.uc,.slice c.sa c.S.length c.sc,.slice c.la c.L.length c.lc,.slice c.xa c.X.length c.xc,I c.k,I realm,I now,I fresh] Vw)) (by kernel_rfl) TC (fun hH=>?_)
 refine tk 0 5 rfl _ hH (by intro w' h;have d0:=h.e8;go_simp;try with_reducible rfl) ?_
 try simp only [Act.put,pa,pb,pc]
 refine tk 1 6 rfl _ hH (by intro w' h;have d0:=h.e8;go_simp;try with_reducible rfl) ?_
 try simp only [Act.put,pa,pb,pc]
 refine tk 2 7 rfl _ hH (by intro w' h;have d0:=h.e8;go_simp;try with_reducible rfl) ?_
 try simp only [Act.put,pa,pb,pc]
 refine tk 4 9 rfl _ hH (by intro w' h;have d0:=h.e8;go_simp;try with_reducible rfl) ?_
 try simp only [Act.put,pa,pb,pc]
 refine tk 5 10 rfl _ hH (by intro w' h;have d0:=h.e8;go_simp;try with_reducible rfl) ?_
 try simp only [Act.put,pa,pb,pc]
 refine wpAnyH_ready (rs:=[3]) (by kernel_rfl) (by simp) ?_
 refine AllReadyH.cons (i:=3) rfl (fun K hK=>?_) AllReadyH.nil
 go_simp
 refine (implRO_is c p _ (C.later (BC)) KO).mono ?_
 rintro en w2 ⟨rfl,hb⟩
 replace TC:=TC.later hb TC.lt
 replace BC:=BC.trans (hb.mono BC.size)
 clear hb
 go_wp2_with fail
 refine hK.out _ _ TC (fun hJ=>?_)
 clear hK K hH
 have hH:=hJ
 clear hJ
 try simp only [Act.put,pa,pb,pc]
 refine tk 6 11 rfl _ hH (by intro w' h;have d0:=h.e8;go_simp;try with_reducible rfl) ?_
 try simp only [Act.put,pa,pb,pc]
 refine tk 7 4 rfl _ hH (by intro w' h;have d0:=h.e8;go_simp;try with_reducible rfl) ?_
 try simp only [Act.put,pa,pb,pc]
 refine wpAnyH_done (by kernel_rfl) ?_ _
 go_wp2
 go_ret
 refine ⟨?_,BC⟩
 by_cases h:roV c p=realm
 ·rw [decide_eq_true h,h];simp [go_sem]
 ·rw [decide_eq_false h];simp [go_sem,h]
set_option maxHeartbeats 3200000 in
theorem cFar_is (c:Cf) (realm now fresh t:Int) (w:World) (ht:0≤t∧t≤562949953421311) (hn:0≤now∧now≤100000):Calls Tryz.prog 111 #[cenV c realm now fresh,I t] w fun en w'=>en=.returned (.bool (decide (c.k < apV now t)))∧Below w.heap.size w w':=by
 obtain ⟨W1,hW1⟩:∃ W1,w.alloc (.cells #[.slice c.ua c.U.length c.uc,.slice c.sa c.S.length c.sc,.slice c.la c.L.length c.lc,.slice c.xa c.X.length c.xc,I c.k,I realm,I now,I fresh] 70)=W1:=⟨_,rfl⟩
 have BC:Below w.heap.size w W1:=by rw [← hW1];exact (Below.refl _ _).alloc (Nat.le_refl _) _
 have TC:Blk w.heap.size [.slice c.ua c.U.length c.uc,.slice c.sa c.S.length c.sc,.slice c.la c.L.length c.lc,.slice c.xa c.X.length c.xc,I c.k,I realm,I now,I fresh] W1:=by rw [← hW1];exact Blk.new _ _ _
 go_enter Tryz.func111,Tryz.ntmps111
 go_wp2_with fail
 try rw [hW1]
 clear hW1
 replace TC:=TC.drew
 replace BC:=BC.drew
 refine wp_region_held_drew (S:=(fun Vw=>Blk w.heap.size [.slice c.ua c.U.length c.uc,.slice c.sa c.S.length c.sc,.slice c.la c.L.length c.lc,.slice c.xa c.X.length c.xc,I c.k,I realm,I now,I fresh] Vw)) (by kernel_rfl) TC (fun hH=>?_)
 refine tk 0 5 rfl _ hH (by intro w' h;have d0:=h.e8;go_simp;try with_reducible rfl) ?_
 try simp only [Act.put,pa,pb,pc]
 refine tk 1 6 rfl _ hH (by intro w' h;have d0:=h.e8;go_simp;try with_reducible rfl) ?_
 try simp only [Act.put,pa,pb,pc]
 refine tk 2 7 rfl _ hH (by intro w' h;have d0:=h.e8;go_simp;try with_reducible rfl) ?_
 try simp only [Act.put,pa,pb,pc]
 refine tk 4 9 rfl _ hH (by intro w' h;have d0:=h.e8;go_simp;try with_reducible rfl) ?_
 try simp only [Act.put,pa,pb,pc]
 refine tk 5 10 rfl _ hH (by intro w' h;have d0:=h.e8;go_simp;try with_reducible rfl) ?_
 try simp only [Act.put,pa,pb,pc]
 refine tk 6 11 rfl _ hH (by intro w' h;have d0:=h.e8;go_simp;try with_reducible rfl) ?_
 try simp only [Act.put,pa,pb,pc]
 refine wpAnyH_ready (rs:=[3]) (by kernel_rfl) (by simp) ?_
 refine AllReadyH.cons (i:=3) rfl (fun K hK=>?_) AllReadyH.nil
 go_simp
 refine (apart_is t now _ ht hn).mono ?_
 rintro en w2 ⟨rfl,rfl⟩
 go_wp2_with fail
 refine hK.out _ _ TC (fun hJ=>?_)
 clear hK K hH
 have hH:=hJ
 clear hJ
 try simp only [Act.put,pa,pb,pc]
 refine tk 7 12 rfl _ hH (by intro w' h;have d0:=h.e8;go_simp;try with_reducible rfl) ?_
 try simp only [Act.put,pa,pb,pc]
 refine tk 8 4 rfl _ hH (by intro w' h;have d0:=h.e8;go_simp;try with_reducible rfl) ?_
 try simp only [Act.put,pa,pb,pc]
 refine wpAnyH_done (by kernel_rfl) ?_ _
 go_wp2
 go_ret
 exact ⟨by simp [go_sem],BC⟩
set_option maxHeartbeats 3200000 in
theorem cRight_is (c:Cf) (realm now fresh:Int) (w:World) (C:CfAt c w) (K:CfOk c):Calls Tryz.prog 65 #[cenV c realm now fresh] w fun en w'=>en=.returned (.bool (cenOk c realm now fresh))∧Below w.heap.size w w':=by
 obtain ⟨W1,hW1⟩:∃ W1,w.alloc (.cells #[.slice c.ua c.U.length c.uc,.slice c.sa c.S.length c.sc,.slice c.la c.L.length c.lc,.slice c.xa c.X.length c.xc,I c.k,I realm,I now,I fresh] 70)=W1:=⟨_,rfl⟩
 have BC:Below w.heap.size w W1:=by rw [← hW1];exact (Below.refl _ _).alloc (Nat.le_refl _) _
 have TC:Blk w.heap.size [.slice c.ua c.U.length c.uc,.slice c.sa c.S.length c.sc,.slice c.la c.L.length c.lc,.slice c.xa c.X.length c.xc,I c.k,I realm,I now,I fresh] W1:=by rw [← hW1];exact Blk.new _ _ _
 have HC:Hid (cenOk c realm now fresh=(confB c && (btw realm 0 2 && (inB now 100000 && (decide (101≤fresh) && decide (fresh≤1000000)))))):=(rfl:cenOk c realm now fresh=_)
 have d0:=TC.at 0 rfl
 have d1:=TC.at 1 rfl
 have d2:=TC.at 2 rfl
 have d3:=TC.at 3 rfl
 have d4:=TC.at 4 rfl
 have d5:=TC.at 5 rfl
 have d6:=TC.at 6 rfl
 have d7:=TC.at 7 rfl
 go_enter Tryz.func65,Tryz.ntmps65
 go_wp2_with fail
 try rw [hW1]
 refine (cfRight_is c _ (C.later BC) K).mono ?_
 rintro en w2 ⟨rfl,hb⟩
 replace TC:=TC.later hb TC.lt
 replace BC:=BC.trans (hb.mono BC.size)
 clear hb
 clear hW1 d0 d1 d2 d3 d4 d5 d6 d7
 have d0:=TC.at 0 rfl
 have d1:=TC.at 1 rfl
 have d2:=TC.at 2 rfl
 have d3:=TC.at 3 rfl
 have d4:=TC.at 4 rfl
 have d5:=TC.at 5 rfl
 have d6:=TC.at 6 rfl
 have d7:=TC.at 7 rfl
 by_cases h0:confB c=true
 ·rw [h0]
  go_wp2_with fail
  refine (realm_is realm _).mono ?_
  rintro en w3 ⟨rfl,rfl⟩
  by_cases h1:btw realm 0 2=true
  ·rw [h1]
   go_wp2_with fail
   refine (within_is now 100000 _).mono ?_
   rintro en w4 ⟨rfl,rfl⟩
   by_cases h2:inB now 100000=true
   ·rw [h2]
    by_cases h3:101≤fresh
    ·skip
     go_wp2_with fail
     refine (keyOk_is fresh _).mono ?_
     rintro en w5 ⟨rfl,rfl⟩
     go_wp2
     go_ret
     exact ⟨by rw [HC.out,h0,h1,h2,show decide (1≤fresh)=true from decide_eq_true (by omega),show decide (101≤fresh)=true from decide_eq_true (by omega)];rfl,BC⟩
    ·go_wp2
     go_ret
     exact ⟨by rw [HC.out,h0,h1,h2,show decide (101≤fresh)=false from decide_eq_false (by omega)];rfl,BC⟩
   ·rw [Bool.not_eq_true] at h2
    rw [h2]
    go_wp2
    go_ret
    exact ⟨by rw [HC.out,h0,h1,h2];rfl,BC⟩
  ·rw [Bool.not_eq_true] at h1
   rw [h1]
   go_wp2
   go_ret
   exact ⟨by rw [HC.out,h0,h1];rfl,BC⟩
 ·rw [Bool.not_eq_true] at h0
  rw [h0]
  go_wp2
  go_ret
  exact ⟨by rw [HC.out,h0];rfl,BC⟩
set_option maxHeartbeats 3200000 in
theorem index_is (a:Option Addr) (cap:Nat) (xs:List (Int × Int)) (x y:Int) (w:World) (hr:PRow w a xs) (hl:xs.length≤1048576) :
  Calls Tryz.prog 186 #[.slice a xs.length cap,pv x y] w fun e w'=>∃ i:Int,e=.returned (I i)∧decide (0≤i)=decide ((x,y)∈xs)∧Below w.heap.size w w':=by
 go_enter Tryz.func186,Tryz.ntmps186
 go_wp2
 go_loopw [8] (fun i wr=>∃ k:Nat,k≤xs.length∧i=I k∧(x,y) ∉ xs.take k∧Below w.heap.size w wr∧Blk w.heap.size [I x,I y] wr) (fun i _=>xs.length - (intOf i).toNat)
 case atStart=>exact ⟨0,by omega,rfl,by simp,(Below.refl _ _).alloc (Nat.le_refl _) _,Blk.new _ _ _⟩
 case round =>
  obtain ⟨k,hk,rfl,hno,hbel,T⟩:=hrel
  have NO:Hid ((x,y) ∉ xs.take k):=hno
  clear hno
  by_cases hlt:k < xs.length
  ·obtain ⟨b1,o1,rfl,l1,h0,h1⟩:=hr k hlt
   rw [← hbel.cell (p:=⟨b1,o1+k * 2,none⟩) l1] at h0
   rw [← hbel.cell (p:=⟨b1,o1+k * 2+1,none⟩) l1] at h1
   have d0:=T.at 0 rfl
   have d1:=T.at 1 rfl
   have hlt2:(k:Int) < (xs.length:Int):=by omega
   by_cases he:xs[k]=(x,y)
   ·have HM:Hid (decide ((x,y)∈xs)=true):=decide_eq_true (he ▸ List.getElem_mem hlt)
    rw [he] at h0 h1
    clear he hr NO T
    go_wp2
    go_region
    all_goals
     go_wp2
     go_ret
     exact ⟨_,rfl,by rw [HM.out];exact decide_eq_true (by omega),hbel.drew⟩
   ·have NO2:Hid ((x,y) ∉ xs.take (k+1)):=fun hm=>by
     rcases (mem_take_succ hlt _).1 hm with hm | hm
     ·exact NO.out hm
     ·exact he hm.symm
    have TD:=T.drew
    clear hr NO T
    by_cases e1:xs[k].1=x
    ·have e2:¬ xs[k].2=y:=fun e2=>he (Prod.ext e1 e2)
     have e2':¬ y=xs[k].2:=fun e=>e2 e.symm
     rw [e1] at h0
     generalize xs[k].2=v at h1 e2 e2'
     clear he e1
     go_wp2
     go_region
     all_goals
      go_wp2
      go_roundw
      case rel=>exact ⟨k+1,by omega,by go_num,NO2.out,hbel.drew,TD⟩
      case measure=>simp [intOf];omega
    ·have e1':¬ x=xs[k].1:=fun e=>e1 e.symm
     generalize xs[k].1=u at h0 e1 e1'
     generalize xs[k].2=v at h1
     clear he
     go_wp2
     go_region
     all_goals
      go_wp2
      go_roundw
      case rel=>exact ⟨k+1,by omega,by go_num,NO2.out,hbel.drew,TD⟩
      case measure=>simp [intOf];omega
  ·obtain rfl:k=xs.length:=by omega
   have HM:Hid (decide ((x,y)∈xs)=false):=decide_eq_false (by have:=NO.out;rwa [List.take_length] at this)
   go_wp2
   go_ret
   exact ⟨_,rfl,by rw [HM.out];rfl,hbel⟩
set_option maxHeartbeats 1600000 in
theorem contains_is (a:Option Addr) (cap:Nat) (xs:List (Int × Int)) (x y:Int) (w:World) (hr:PRow w a xs) (hl:xs.length≤1048576) :
  Calls Tryz.prog 158 #[.slice a xs.length cap,pv x y] w fun e w'=>e=.returned (.bool (decide ((x,y)∈xs)))∧Below w.heap.size w w':=by
 have BC:Below w.heap.size w (w.alloc (.cells #[I x,I y] 107)):=(Below.refl _ _).alloc (Nat.le_refl _) _
 go_enter Tryz.func158,Tryz.ntmps158
 go_wp2_with fail
 refine (index_is a cap xs x y _ (hr.later BC) hl).mono ?_
 rintro e w2 ⟨i,rfl,hi,hb⟩
 replace BC:=BC.trans (hb.mono BC.size)
 go_wp2
 go_ret
 exact ⟨by rw [← hi];rfl,BC⟩
end Go.Proofs.YtcaieniddnhkbaaGreatDoor
set_option maxRecDepth 100000
namespace Go.Proofs.YtcaieniddnhkbaaGreatDoor
open Go Go.RowKit Own Var Term
def erC (code:Int):Value:=if code=0 then .nilIface else refV code
abbrev tkV (x0 x1 x2 x3 x4 x5:Int) (pa:Option Addr) (pl pc:Nat) (va:Option Addr) (vl vc:Nat):Value:=.agg #[I x0,I x1,I x2,I x3,I x4,I x5,.slice pa pl pc,.slice va vl vc]
theorem raV_small (s:ByteArray) (key:Int) (i:Nat):0≤raV s key i∧raV s key i≤562949953421311:=by
 unfold raV
 split
 ·unfold raL
  rw [List.getD_eq_getElem?_getD]
  cases h:(numsR (openR s key).1).1[i]? with
  | none=>simp
  | some z=>exact numsR_small _ z (List.mem_of_getElem? h)
 ·omega
set_option maxHeartbeats 6400000 in
theorem check_is (c:Cf) (realm now fresh x0 x1 x2 x3 x4 x5:Int) (pa:Option Addr) (pl pc:Nat) (va:Option Addr) (vl vc:Nat) (au:ByteArray) (w:World) (hs:au.size≤1048576) (hn:0≤now∧now≤100000) (hpl:pl≤1048576) :
  Calls Tryz.prog 117 #[cenV c realm now fresh,tkV x0 x1 x2 x3 x4 x5 pa pl pc va vl vc,.string au] w fun en w'=>en=.returned (erC (ckC c.k now x0 x2 x5 pl au))∧Below w.heap.size w w':=by
 obtain ⟨W2,hW2⟩:∃ W2,(w.alloc (.cells #[.slice c.ua c.U.length c.uc,.slice c.sa c.S.length c.sc,.slice c.la c.L.length c.lc,.slice c.xa c.X.length c.xc,I c.k,I realm,I now,I fresh] 70)).alloc (.cells #[I x0,I x1,I x2,I x3,I x4,I x5,.slice pa pl pc,.slice va vl vc] 43)=W2:=⟨_,rfl⟩
 have BC:Below w.heap.size w W2:=by rw [← hW2];exact ((Below.refl _ _).alloc (Nat.le_refl _) _).alloc (by simp) _
 have TC:Blk w.heap.size [.slice c.ua c.U.length c.uc,.slice c.sa c.S.length c.sc,.slice c.la c.L.length c.lc,.slice c.xa c.X.length c.xc,I c.k,I realm,I now,I fresh] W2:=by rw [← hW2];exact (Blk.new w #[.slice c.ua c.U.length c.uc,.slice c.sa c.S.length c.sc,.slice c.la c.L.length c.lc,.slice c.xa c.X.length c.xc,I c.k,I realm,I now,I fresh] _).alloc (by simp) _
 have QC:Blk (w.heap.size+1) [I x0,I x1,I x2,I x3,I x4,I x5,.slice pa pl pc,.slice va vl vc] W2:=by rw [← hW2];have:=Blk.new (w.alloc (.cells #[.slice c.ua c.U.length c.uc,.slice c.sa c.S.length c.sc,.slice c.la c.L.length c.lc,.slice c.xa c.X.length c.xc,I c.k,I realm,I now,I fresh] 70)) #[I x0,I x1,I x2,I x3,I x4,I x5,.slice pa pl pc,.slice va vl vc] 43;simpa using this
 have hA:=raV_small au x2 2
 have q0:=QC.at 0 rfl
 have q1:=QC.at 1 rfl
 have q2:=QC.at 2 rfl
 have q3:=QC.at 3 rfl
 have q4:=QC.at 4 rfl
 have q5:=QC.at 5 rfl
 have q6:=QC.at 6 rfl
 have q7:=QC.at 7 rfl
 go_enter Tryz.func117,Tryz.ntmps117
 go_wp2_with fail
 try rw [hW2]
 refine (implReadA_is au x2 _ hs).mono ?_
 rintro en w3 ⟨rfl,hb⟩
 replace TC:=TC.later hb TC.lt
 replace QC:=QC.later hb QC.lt
 replace BC:=BC.trans (hb.mono BC.size)
 clear hb
 clear hW2 q0 q1 q2 q3 q4 q5 q6 q7
 by_cases hK:raK au x2=true
 ·rw [hK]
  have HS:Hid (ckC c.k now x0 x2 x5 pl au=if raV au x2 1=x0 then (if c.k < apV now (raV au x2 2) then 3 else if x5 < now then 4 else if 6 < pl then 5 else 0) else 2):=by show _=_;unfold ckC;simp only [hK,true_and]
  generalize raV au x2 1=a1 at HS ⊢
  generalize raV au x2 2=a2 at HS hA ⊢
  generalize raV au x2 3=a3
  clear hK
  obtain ⟨W4,hW4⟩:∃ W4,w3.alloc (.cells #[I a1,I a2,I a3] 116)=W4:=⟨_,rfl⟩
  have AC:Blk w3.heap.size [I a1,I a2,I a3] W4:=by rw [← hW4];exact Blk.new _ _ _
  have X4:Below w3.heap.size w3 W4:=by rw [← hW4];exact (Below.refl _ _).alloc (Nat.le_refl _) _
  replace TC:=TC.later X4 TC.lt
  replace QC:=QC.later X4 QC.lt
  replace BC:=BC.trans (X4.mono BC.size)
  clear X4
  have d0:=TC.at 0 rfl
  have d1:=TC.at 1 rfl
  have d2:=TC.at 2 rfl
  have d3:=TC.at 3 rfl
  have d4:=TC.at 4 rfl
  have d5:=TC.at 5 rfl
  have d6:=TC.at 6 rfl
  have d7:=TC.at 7 rfl
  have q0:=QC.at 0 rfl
  have q1:=QC.at 1 rfl
  have q2:=QC.at 2 rfl
  have q3:=QC.at 3 rfl
  have q4:=QC.at 4 rfl
  have q5:=QC.at 5 rfl
  have q6:=QC.at 6 rfl
  have q7:=QC.at 7 rfl
  have a_0:=AC.at 0 rfl
  have a_1:=AC.at 1 rfl
  have a_2:=AC.at 2 rfl
  by_cases e1:a1=x0
  ·rw [if_pos e1] at HS
   subst e1
   go_wp2_with fail
   try rw [hW4]
   refine (cFar_is c realm now fresh a2 _ hA hn).mono ?_
   rintro en w5 ⟨rfl,hb⟩
   replace TC:=TC.later hb TC.lt
   replace QC:=QC.later hb QC.lt
   replace AC:=AC.later hb AC.lt
   replace BC:=BC.trans (hb.mono BC.size)
   clear hb
   clear hW4 d0 d1 d2 d3 d4 d5 d6 d7 q0 q1 q2 q3 q4 q5 q6 q7 a_0 a_1 a_2
   by_cases e2:c.k < apV now a2
   ·have HR:Hid (erC (ckC c.k now a1 x2 x5 pl au)=refV 3):=by show _=_;rw [HS.out,if_pos e2];rfl
    rw [decide_eq_true e2]
    clear HS
    go_wp2
    go_ret
    exact ⟨by rw [HR.out];rfl,BC⟩
   ·rw [if_neg e2] at HS
    rw [decide_eq_false e2]
    have d0:=TC.at 0 rfl
    have d1:=TC.at 1 rfl
    have d2:=TC.at 2 rfl
    have d3:=TC.at 3 rfl
    have d4:=TC.at 4 rfl
    have d5:=TC.at 5 rfl
    have d6:=TC.at 6 rfl
    have d7:=TC.at 7 rfl
    have q0:=QC.at 0 rfl
    have q1:=QC.at 1 rfl
    have q2:=QC.at 2 rfl
    have q3:=QC.at 3 rfl
    have q4:=QC.at 4 rfl
    have q5:=QC.at 5 rfl
    have q6:=QC.at 6 rfl
    have q7:=QC.at 7 rfl
    by_cases e3:x5 < now
    ·have HR:Hid (erC (ckC c.k now a1 x2 x5 pl au)=refV 4):=by show _=_;rw [HS.out,if_pos e3];rfl
     clear HS
     go_wp2
     go_ret
     exact ⟨by rw [HR.out];rfl,BC⟩
    ·rw [if_neg e3] at HS
     by_cases e4:6 < pl
     ·have HR:Hid (erC (ckC c.k now a1 x2 x5 pl au)=refV 5):=by show _=_;rw [HS.out,if_pos e4];rfl
      have e5:(6:Int) < (pl:Int):=by omega
      clear HS
      go_wp2
      go_ret
      exact ⟨by rw [HR.out];rfl,BC⟩
     ·have HR:Hid (erC (ckC c.k now a1 x2 x5 pl au)=.nilIface):=by show _=_;rw [HS.out,if_neg e4];rfl
      have e5:¬ (6:Int) < (pl:Int):=by omega
      clear HS
      go_wp2
      go_ret
      exact ⟨by rw [HR.out];rfl,BC⟩
  ·have HR:Hid (erC (ckC c.k now x0 x2 x5 pl au)=refV 2):=by show _=_;rw [HS.out,if_neg e1];rfl
   clear HS
   go_wp2
   try rw [hW4]
   go_ret
   exact ⟨by rw [HR.out];rfl,BC⟩
 ·rw [Bool.not_eq_true] at hK
  rw [hK]
  have HR:Hid (erC (ckC c.k now x0 x2 x5 pl au)=refV 2):=by show _=_;unfold ckC;rw [if_neg (by rw [hK];simp)];rfl
  generalize raV au x2 1=a1
  generalize raV au x2 2=a2 at hA ⊢
  generalize raV au x2 3=a3
  have B4:=BC.alloc BC.size (.cells #[I a1,I a2,I a3] 116)
  go_wp2
  go_ret
  exact ⟨by rw [HR.out];rfl,B4⟩
end Go.Proofs.YtcaieniddnhkbaaGreatDoor
namespace Go.Proofs.YtcaieniddnhkbaaGreatDoor
open Go Go.RowKit Own Var Term
set_option maxRecDepth 100000 in
set_option maxHeartbeats 800000 in
theorem implShowG_is (k s n a b e:Int) (key:Int) (w:World) (hs:i64 s):Calls Tryz.prog 101 #[.agg #[I k,I s,I n,I a,I b,I e],I key] w fun en w'=>en=.returned (.string (shG k s n a b e key))∧Below w.heap.size w w':=by
 have B0:Below w.heap.size w (w.alloc (.cells #[I k,I s,I n,I a,I b,I e] 47)):=(Below.refl _ _).alloc (Nat.le_refl _) _
 go_enter Tryz.func101,Tryz.ntmps101
 go_wp2_with fail
 refine (showG_is k s n a b e key _ hs).mono ?_
 rintro en w1 ⟨rfl,hb1⟩
 have B1:=B0.trans (hb1.mono B0.size)
 clear B0 hb1
 go_wp2
 go_ret
 exact ⟨rfl,B1⟩
end Go.Proofs.YtcaieniddnhkbaaGreatDoor
namespace Go.Proofs.YtcaieniddnhkbaaGreatDoor
open Go Go.RowKit Own Var Term
set_option maxRecDepth 100000 in
set_option maxHeartbeats 1600000 in
theorem implShowT_is (c s k a b e:Int) (pa:Option Addr) (P:List Int) (pc:Nat) (va:Option Addr) (V:List Int) (vc:Nat) (key:Int) (w:World) (hs:i64 s) (hp:RowAt (Value.int .i64) w pa P) (hv:RowAt (Value.int .i64) w va V) (hpl:P.length≤1048576) (hvl:V.length≤1048576):Calls Tryz.prog 100 #[.agg #[I c,I s,I k,I a,I b,I e,.slice pa P.length pc,.slice va V.length vc],I key] w fun en w'=>en=.returned (.string (shT c s k a b e P V key))∧Below w.heap.size w w':=by
 have B0:Below w.heap.size w (w.alloc (.cells #[I c,I s,I k,I a,I b,I e,.slice pa P.length pc,.slice va V.length vc] 43)):=(Below.refl _ _).alloc (Nat.le_refl _) _
 have HS:=showT_is c s k a b e pa P pc va V vc key _ hs (hp.later B0) (hv.later B0) hpl hvl
 go_enter Tryz.func100,Tryz.ntmps100
 go_wp2_with fail
 refine HS.mono ?_
 rintro en w1 ⟨rfl,hb1⟩
 have B1:=B0.trans (hb1.mono B0.size)
 clear B0 hb1 HS
 go_wp2
 go_ret
 exact ⟨rfl,B1⟩
end Go.Proofs.YtcaieniddnhkbaaGreatDoor
