/- Keys that stand from the beginning: the program and the model. -/
import Derived.Test.YtcaieniddnhkbaaGreatDoorAb
import Derived.Test.YtcaieniddnhkbaaGreatDoorTickMath
import Derived.Test.YtcaieniddnhkbaaGreatDoorFaces2
import Derived.Test.YtcaieniddnhkbaaGreatDoorWalks
set_option linter.unusedVariables false
namespace Go.Proofs.YtcaieniddnhkbaaGreatDoor
open Go Go.RowKit Var Term
def pkV (p:Int):Int:=if btw p 0 2 then 1 + p else if btw p 0 5 then 8 + p else 0
def ckV (r:Int):Int:=if btw r 0 2 then 21 + r else 0
def lkV (a b:Int):Int:=if btw a 0 2 && btw b 0 2 then 31 + 3 * a + b else 0
set_option maxRecDepth 100000 in
theorem user_is (n:Int) (w:World):Calls Tryz.prog 147 #[I n] w fun e w'=>e=.returned (.bool (btw n 0 2))∧w=w':=by
 go_enter Tryz.func147,Tryz.ntmps147
 go_wp2_with fail
 refine (within_is n 2 _).mono ?_
 rintro e w1 ⟨rfl,rfl⟩
 go_wp2
 go_ret
 exact ⟨rfl,rfl⟩
set_option maxRecDepth 100000 in
theorem implPK_is (p:Int) (w:World):Calls Tryz.prog 108 #[I p] w fun e w'=>e=.returned (I (pkV p))∧w=w':=by
 go_enter Tryz.func108,Tryz.ntmps108
 go_wp2_with fail
 refine (user_is p _).mono ?_
 rintro e w1 ⟨rfl,rfl⟩
 by_cases h:btw p 0 2=true
 ·have h':=(btw_iff _ _ _).1 h
  rw [h]
  go_wp2
  go_ret
  exact ⟨congrArg (fun z=>Ending.returned (Value.int .i64 z)) (show 1 + p=pkV p from Eq.symm (by unfold pkV;rw [if_pos h])),rfl⟩
 ·rw [Bool.not_eq_true] at h
  rw [h]
  go_wp2_with fail
  refine (prin_is p _).mono ?_
  rintro e w1 ⟨rfl,rfl⟩
  by_cases g:btw p 0 5=true
  ·have g':=(btw_iff _ _ _).1 g
   rw [g]
   go_wp2
   go_ret
   exact ⟨congrArg (fun z=>Ending.returned (Value.int .i64 z)) (show 11 + p - 3=pkV p from Eq.symm (by unfold pkV;rw [h,if_neg (by simp),if_pos g];omega)),rfl⟩
  ·rw [Bool.not_eq_true] at g
   rw [g]
   go_wp2
   go_ret
   exact ⟨congrArg (fun z=>Ending.returned (Value.int .i64 z)) (show 0=pkV p from Eq.symm (by unfold pkV;rw [h,if_neg (by simp),g,if_neg (by simp)])),rfl⟩
set_option maxRecDepth 100000 in
theorem specPK_is (p:Int) (w:World):Calls Tryz.prog 10 #[I p] w fun e w'=>e=.returned (I (pkV p))∧w=w':=by
 go_enter Tryz.func10,Tryz.ntmps10
 go_wp2_with fail
 refine (spec_prin p _).mono ?_
 rintro e w1 ⟨rfl,rfl⟩
 by_cases g:btw p 0 5=true
 ·have g':=(btw_iff _ _ _).1 g
  rw [g]
  by_cases h:p < 3
  ·skip
   go_wp2
   go_ret
   exact ⟨congrArg (fun z=>Ending.returned (Value.int .i64 z)) (show 1 + p=pkV p from Eq.symm (by unfold pkV;rw [if_pos ((btw_iff _ _ _).2 (by omega))])),rfl⟩
  ·skip
   go_wp2
   go_ret
   exact ⟨congrArg (fun z=>Ending.returned (Value.int .i64 z)) (show 11 + p - 3=pkV p from Eq.symm (by unfold pkV;rw [if_neg (fun x=>by have:=(btw_iff _ _ _).1 x;omega),if_pos g];omega)),rfl⟩
 ·skip
  rw [Bool.not_eq_true] at g
  rw [g]
  go_wp2
  go_ret
  exact ⟨congrArg (fun z=>Ending.returned (Value.int .i64 z)) (show 0=pkV p from Eq.symm (by unfold pkV;rw [if_neg (fun x=>by rw [(btw_iff _ _ _).2 (by have:=(btw_iff _ _ _).1 x;omega)] at g;cases g),g,if_neg (by simp)])),rfl⟩
set_option maxRecDepth 100000 in
theorem specRealm_is (n:Int) (w:World):Calls Tryz.prog 31 #[I n] w fun e w'=>e=.returned (.bool (btw n 0 2))∧w=w':=by
 have h:btw n 0 2=(decide (0≤n) && decide (n < 3)):=by unfold btw;congr 1;apply decide_eq_decide.2;omega
 rw [h]
 by_cases h0:0≤n
 ·go_enter Tryz.func31,Tryz.ntmps31
  go_wp2
  go_ret
  exact ⟨by simp [h0],rfl⟩
 ·go_enter Tryz.func31,Tryz.ntmps31
  go_wp2
  go_ret
  exact ⟨by simp;omega,rfl⟩
set_option maxRecDepth 100000 in
theorem implCK_is (r:Int) (w:World):Calls Tryz.prog 113 #[I r] w fun e w'=>e=.returned (I (ckV r))∧w=w':=by
 go_enter Tryz.func113,Tryz.ntmps113
 go_wp2_with fail
 refine (realm_is r _).mono ?_
 rintro e w1 ⟨rfl,rfl⟩
 by_cases h:btw r 0 2=true
 ·have h':=(btw_iff _ _ _).1 h
  rw [h]
  go_wp2
  go_ret
  exact ⟨congrArg (fun z=>Ending.returned (Value.int .i64 z)) (show 21 + r=ckV r from Eq.symm (by unfold ckV;rw [if_pos h])),rfl⟩
 ·skip
  rw [Bool.not_eq_true] at h
  rw [h]
  go_wp2
  go_ret
  exact ⟨congrArg (fun z=>Ending.returned (Value.int .i64 z)) (show 0=ckV r from Eq.symm (by unfold ckV;rw [h,if_neg (by simp)])),rfl⟩
set_option maxRecDepth 100000 in
theorem specCK_is (r:Int) (w:World):Calls Tryz.prog 11 #[I r] w fun e w'=>e=.returned (I (ckV r))∧w=w':=by
 go_enter Tryz.func11,Tryz.ntmps11
 go_wp2_with fail
 refine (specRealm_is r _).mono ?_
 rintro e w1 ⟨rfl,rfl⟩
 by_cases h:btw r 0 2=true
 ·have h':=(btw_iff _ _ _).1 h
  rw [h]
  go_wp2
  go_ret
  exact ⟨congrArg (fun z=>Ending.returned (Value.int .i64 z)) (show 21 + r=ckV r from Eq.symm (by unfold ckV;rw [if_pos h])),rfl⟩
 ·skip
  rw [Bool.not_eq_true] at h
  rw [h]
  go_wp2
  go_ret
  exact ⟨congrArg (fun z=>Ending.returned (Value.int .i64 z)) (show 0=ckV r from Eq.symm (by unfold ckV;rw [h,if_neg (by simp)])),rfl⟩
set_option maxRecDepth 100000 in
theorem implLK_is (a b:Int) (w:World):Calls Tryz.prog 156 #[I a,I b] w fun e w'=>e=.returned (I (lkV a b))∧w=w':=by
 go_enter Tryz.func156,Tryz.ntmps156
 go_wp2_with fail
 refine (realm_is a _).mono ?_
 rintro e w1 ⟨rfl,rfl⟩
 by_cases h:btw a 0 2=true
 ·have h':=(btw_iff _ _ _).1 h
  rw [h]
  go_wp2_with fail
  refine (realm_is b _).mono ?_
  rintro e w1 ⟨rfl,rfl⟩
  by_cases g:btw b 0 2=true
  ·have g':=(btw_iff _ _ _).1 g
   rw [g]
   go_wp2
   go_ret
   exact ⟨congrArg (fun z=>Ending.returned (Value.int .i64 z)) (show 31 + 3 * a + b=lkV a b from Eq.symm (by unfold lkV;rw [h,g];rfl)),rfl⟩
  ·rw [Bool.not_eq_true] at g
   rw [g]
   go_wp2
   go_ret
   exact ⟨congrArg (fun z=>Ending.returned (Value.int .i64 z)) (show 0=lkV a b from Eq.symm (by unfold lkV;rw [h,g];rfl)),rfl⟩
 ·rw [Bool.not_eq_true] at h
  rw [h]
  go_wp2
  go_ret
  exact ⟨congrArg (fun z=>Ending.returned (Value.int .i64 z)) (show 0=lkV a b from Eq.symm (by unfold lkV;rw [h];rfl)),rfl⟩
set_option maxRecDepth 100000 in
theorem specLK_is (a b:Int) (w:World):Calls Tryz.prog 12 #[I a,I b] w fun e w'=>e=.returned (I (lkV a b))∧w=w':=by
 go_enter Tryz.func12,Tryz.ntmps12
 go_wp2_with fail
 refine (specRealm_is a _).mono ?_
 rintro e w1 ⟨rfl,rfl⟩
 by_cases h:btw a 0 2=true
 ·have h':=(btw_iff _ _ _).1 h
  rw [h]
  go_wp2_with fail
  refine (specRealm_is b _).mono ?_
  rintro e w1 ⟨rfl,rfl⟩
  by_cases g:btw b 0 2=true
  ·have g':=(btw_iff _ _ _).1 g
   rw [g]
   go_wp2
   go_ret
   exact ⟨congrArg (fun z=>Ending.returned (Value.int .i64 z)) (show 31 + 3 * a + b=lkV a b from Eq.symm (by unfold lkV;rw [h,g];rfl)),rfl⟩
  ·rw [Bool.not_eq_true] at g
   rw [g]
   go_wp2
   go_ret
   exact ⟨congrArg (fun z=>Ending.returned (Value.int .i64 z)) (show 0=lkV a b from Eq.symm (by unfold lkV;rw [h,g];rfl)),rfl⟩
 ·rw [Bool.not_eq_true] at h
  rw [h]
  go_wp2
  go_ret
  exact ⟨congrArg (fun z=>Ending.returned (Value.int .i64 z)) (show 0=lkV a b from Eq.symm (by unfold lkV;rw [h];rfl)),rfl⟩
end Go.Proofs.YtcaieniddnhkbaaGreatDoor
namespace Go.Proofs.YtcaieniddnhkbaaGreatDoor
open Go Go.RowKit Own Var Term
theorem okOr_size (s:ByteArray):(okOr s).size≤900:=by
 cases h:isT s with
 | false=>rw [okOr_no h];show 0≤900;omega
 | true=>rw [okOr_yes h];exact ((isT_iff s).1 h).1
theorem listT_size (xs:List ByteArray):(listT xs).size≤900:=by
 unfold listT
 split
 ·exact okOr_size _
 ·show 0≤900;omega
theorem sealT_size (k:Int) (t:ByteArray):(sealT k t).size≤900:=by
 unfold sealT
 split
 ·exact okOr_size _
 ·show 0≤900;omega
theorem keyT_size (k:Int):(keyT k).size≤900:=by rw [← keyT_ok];exact okOr_size _
set_option maxRecDepth 100000 in
theorem sealA_is (c t q:Int) (key:Int) (x:ByteArray) (w:World) (hx:x.size≤1048576):Calls Tryz.prog 203 #[.agg #[I c,I t,I q,I key],.string x] w fun en w'=>en=.returned (.string (sealT key x))∧Below w.heap.size w w':=by
 have B0:Below w.heap.size w (w.alloc (.cells #[I c,I t,I q,I key] 227)):=(Below.refl _ _).alloc (Nat.le_refl _) _
 go_enter Tryz.func203,Tryz.ntmps203
 go_wp2_with fail
 refine (impl_seal key x _ hx).mono ?_
 rintro en w1 ⟨rfl,hb1⟩
 have B1:=B0.trans (hb1.mono B0.size)
 clear B0 hb1
 go_wp2
 go_ret
 exact ⟨rfl,B1⟩
set_option maxRecDepth 100000 in
theorem openA_is (c t q:Int) (key:Int) (x:ByteArray) (w:World) (hx:x.size≤1048576):Calls Tryz.prog 201 #[.agg #[I c,I t,I q,I key],.string x] w fun en w'=>en=.returned (.string (openR x key).1)∧Below w.heap.size w w':=by
 have B0:Below w.heap.size w (w.alloc (.cells #[I c,I t,I q,I key] 227)):=(Below.refl _ _).alloc (Nat.le_refl _) _
 go_enter Tryz.func201,Tryz.ntmps201
 go_wp2_with fail
 refine (impl_open x key _ hx).mono ?_
 rintro en w1 ⟨rfl,hb1⟩
 have B1:=B0.trans (hb1.mono B0.size)
 clear B0 hb1
 go_wp2
 go_ret
 exact ⟨rfl,B1⟩
set_option maxRecDepth 100000 in
theorem sealG_is (k s n a b e:Int) (key:Int) (x:ByteArray) (w:World) (hx:x.size≤1048576):Calls Tryz.prog 172 #[.agg #[I k,I s,I n,I a,I b,I e,I key],.string x] w fun en w'=>en=.returned (.string (sealT key x))∧Below w.heap.size w w':=by
 have B0:Below w.heap.size w (w.alloc (.cells #[I k,I s,I n,I a,I b,I e,I key] 198)):=(Below.refl _ _).alloc (Nat.le_refl _) _
 go_enter Tryz.func172,Tryz.ntmps172
 go_wp2_with fail
 refine (impl_seal key x _ hx).mono ?_
 rintro en w1 ⟨rfl,hb1⟩
 have B1:=B0.trans (hb1.mono B0.size)
 clear B0 hb1
 go_wp2
 go_ret
 exact ⟨rfl,B1⟩
set_option maxRecDepth 100000 in
theorem sealT_is (c s k a b e:Int) (pa:Option Addr) (pl pc:Nat) (va:Option Addr) (vl vc:Nat) (key:Int) (x:ByteArray) (w:World) (hx:x.size≤1048576):Calls Tryz.prog 168 #[.agg #[I c,I s,I k,I a,I b,I e,.slice pa pl pc,.slice va vl vc,I key],.string x] w fun en w'=>en=.returned (.string (sealT key x))∧Below w.heap.size w w':=by
 have B0:Below w.heap.size w (w.alloc (.cells #[I c,I s,I k,I a,I b,I e,.slice pa pl pc,.slice va vl vc,I key] 194)):=(Below.refl _ _).alloc (Nat.le_refl _) _
 go_enter Tryz.func168,Tryz.ntmps168
 go_wp2_with fail
 refine (impl_seal key x _ hx).mono ?_
 rintro en w1 ⟨rfl,hb1⟩
 have B1:=B0.trans (hb1.mono B0.size)
 clear B0 hb1
 go_wp2
 go_ret
 exact ⟨rfl,B1⟩
set_option maxRecDepth 100000 in
theorem openT_is (c s k a b e:Int) (pa:Option Addr) (pl pc:Nat) (va:Option Addr) (vl vc:Nat) (key:Int) (x:ByteArray) (w:World) (hx:x.size≤1048576):Calls Tryz.prog 199 #[.agg #[I c,I s,I k,I a,I b,I e,.slice pa pl pc,.slice va vl vc,I key],.string x] w fun en w'=>en=.returned (.string (openR x key).1)∧Below w.heap.size w w':=by
 have B0:Below w.heap.size w (w.alloc (.cells #[I c,I s,I k,I a,I b,I e,.slice pa pl pc,.slice va vl vc,I key] 194)):=(Below.refl _ _).alloc (Nat.le_refl _) _
 go_enter Tryz.func199,Tryz.ntmps199
 go_wp2_with fail
 refine (impl_open x key _ hx).mono ?_
 rintro en w1 ⟨rfl,hb1⟩
 have B1:=B0.trans (hb1.mono B0.size)
 clear B0 hb1
 go_wp2
 go_ret
 exact ⟨rfl,B1⟩
end Go.Proofs.YtcaieniddnhkbaaGreatDoor
namespace Go.Proofs.YtcaieniddnhkbaaGreatDoor
open Go Go.RowKit Own Var Term
theorem row_new {α:Type} (f:α→Value) (w:World) (xs:List α) (t:TypeId):RowAt f (w.alloc (.cells (xs.map f).toArray t)) (some ⟨w.heap.size,0,none⟩) xs:=by
 intro j hj
 refine ⟨w.heap.size,0,rfl,by simp,?_⟩
 rw [World.cell?_alloc_mark w _ t (0,0) (0 + j)]
 simp [hj]
set_option maxRecDepth 100000 in
set_option maxHeartbeats 6400000 in
theorem showA_is (c t q:Int) (key:Int) (w:World):Calls Tryz.prog 185 #[.agg #[I c,I t,I q,I key]] w fun en w'=>en=.returned (.string (shA c t q key))∧Below w.heap.size w w':=by
 obtain ⟨W2,hW2⟩:∃ W2,(w.alloc (.cells #[I c,I t,I q,I key] 229)).alloc (.cells #[I c,I t,I q] 116)=W2:=⟨_,rfl⟩
 have B2:Below w.heap.size w W2:=by rw [← hW2];exact ((Below.refl _ _).alloc (Nat.le_refl _) _).alloc (by simp) _
 have T2:Blk w.heap.size [I c,I t,I q,I key] W2:=by rw [← hW2];exact (Blk.new w #[I c,I t,I q,I key] _).alloc (by simp) _
 have U2:Blk (w.heap.size + 1) [I c,I t,I q] W2:=by rw [← hW2];have:=Blk.new (w.alloc (.cells #[I c,I t,I q,I key] 229)) #[I c,I t,I q] 116;simpa using this
 have Z2:Hid (w.heap.size + 2≤W2.heap.size):=by show _≤_;rw [← hW2];simp
 have e0:=U2.at 0 rfl
 have e1:=U2.at 1 rfl
 have e2:=U2.at 2 rfl
 go_enter Tryz.func185,Tryz.ntmps185
 go_wp2_with fail
 try rw [hW2]
 refine (authOk_is c t q _).mono ?_
 clear hW2
 rintro en w3 ⟨rfl,hb3⟩
 have TC:=T2.later hb3 (by have:=Z2.out;omega)
 have UC:=U2.later hb3 (by have:=Z2.out;omega)
 have ZC:Hid (w.heap.size + 2≤w3.heap.size):=Nat.le_trans Z2.out hb3.size
 have BC:=B2.trans (hb3.mono B2.size)
 clear T2 U2 Z2 B2 hb3 e0 e1 e2
 by_cases h0:aOk c t q=true
 ·rw [h0]
  go_wp2_with fail
  have TD:=TC.drew
  have UD:=UC.drew
  have BD:=BC.drew
  have ZD:Hid (w.heap.size + 2≤w3.drew.heap.size):=ZC
  clear TC UC BC ZC
  have TC:=TD
  have UC:=UD
  have BC:=BD
  have ZC:=ZD
  clear TD UD BD ZD
  refine wp_region_held_drew (S:=(fun V=>Blk w.heap.size [I c,I t,I q,I key] V∧Blk (w.heap.size + 1) [I c,I t,I q] V)) (by kernel_rfl) ⟨TC,UC⟩ (fun hH=>?_)
  refine tk 0 10 rfl _ hH (by intro w' h;have d0:=h.1.e4;have e0:=h.2.e3;go_simp;try with_reducible rfl) ?_
  try simp only [Act.put,pa,pb,pc]
  refine tk 1 11 rfl _ hH (by intro w' h;have d0:=h.1.e4;have e0:=h.2.e3;go_simp;try with_reducible rfl) ?_
  try simp only [Act.put,pa,pb,pc]
  refine tk 2 12 rfl _ hH (by intro w' h;have d0:=h.1.e4;have e0:=h.2.e3;go_simp;try with_reducible rfl) ?_
  try simp only [Act.put,pa,pb,pc]
  refine tk 3 13 rfl _ hH (by intro w' h;have d0:=h.1.e4;have e0:=h.2.e3;go_simp;try with_reducible rfl) ?_
  try simp only [Act.put,pa,pb,pc]
  refine tk 4 14 rfl _ hH (by intro w' h;have d0:=h.1.e4;have e0:=h.2.e3;go_simp;try with_reducible rfl) ?_
  try simp only [Act.put,pa,pb,pc]
  refine tk 5 15 rfl _ hH (by intro w' h;have d0:=h.1.e4;have e0:=h.2.e3;go_simp;try with_reducible rfl) ?_
  try simp only [Act.put,pa,pb,pc]
  refine tk 6 16 rfl _ hH (by intro w' h;have d0:=h.1.e4;have e0:=h.2.e3;go_simp;try with_reducible rfl) ?_
  try simp only [Act.put,pa,pb,pc]
  refine tk 7 17 rfl _ hH (by intro w' h;have d0:=h.1.e4;have e0:=h.2.e3;go_simp;try with_reducible rfl) ?_
  try simp only [Act.put,pa,pb,pc]
  obtain ⟨v1,hv1⟩:∃ v,(w3.drew).alloc (.cells #[I 7,I c,I t,I q] 3)=v:=⟨_,rfl⟩
  have XA:Below (w3.drew).heap.size (w3.drew) v1:=by rw [← hv1];exact (Below.refl _ _).alloc (Nat.le_refl _) _
  have TN:=TC.later XA (by have:=ZC.out;omega)
  have UN:=UC.later XA (by have:=ZC.out;omega)
  have BN:=BC.trans (XA.mono BC.size)
  have ZN:Hid (w.heap.size + 2≤v1.heap.size):=Nat.le_trans ZC.out XA.size
  have HN:=impl_nums (some ⟨w3.drew.heap.size,0,none⟩) 4 [7,c,t,q] v1 (by rw [← hv1];exact row_new (Value.int .i64) w3.drew [7,c,t,q] 3) (by simp)
  refine wpAnyH_ready (rs:=[8]) (by kernel_rfl) (by simp) ?_
  refine AllReadyH.cons (i:=8) rfl (fun K hK=>?_) AllReadyH.nil
  go_simp
  refine hK.out _ _ (by (try rw [hv1]);exact ⟨TN,UN⟩) (fun hJ=>?_)
  clear hK K hH
  have hH:=hJ
  clear hJ
  try simp only [Act.put,pa,pb,pc]
  clear TC UC ZC BC
  have TC:=TN
  have UC:=UN
  have ZC:=ZN
  have BC:=BN
  clear TN UN ZN BN XA
  try rw [hv1]
  clear hv1
  refine wpAnyH_ready (rs:=[9]) (by kernel_rfl) (by simp) ?_
  refine AllReadyH.cons (i:=9) rfl (fun K hK=>?_) AllReadyH.nil
  go_simp
  refine (HN).mono ?_
  rintro en v2 ⟨rfl,hv2⟩
  have TN:=TC.later hv2 (by have:=ZC.out;omega)
  have UN:=UC.later hv2 (by have:=ZC.out;omega)
  have ZN:Hid (w.heap.size + 2≤v2.heap.size):=Nat.le_trans ZC.out hv2.size
  have BN:=BC.trans (hv2.mono BC.size)
  clear TC UC ZC BC
  have TC:=TN
  have UC:=UN
  have ZC:=ZN
  have BC:=BN
  clear TN UN ZN BN hv2
  go_wp2_with fail
  refine hK.out _ _ ⟨TC,UC⟩ (fun hJ=>?_)
  clear hK K hH
  have hH:=hJ
  clear hJ
  try simp only [Act.put,pa,pb,pc]
  clear HN
  refine wpAnyH_ready (rs:=[10]) (by kernel_rfl) (by simp) ?_
  refine AllReadyH.cons (i:=10) rfl (fun K hK=>?_) AllReadyH.nil
  go_simp
  refine (sealA_is c t q key (numsT [7,c,t,q]) _ (Nat.le_trans (listT_size _) (by omega))).mono ?_
  rintro en v3 ⟨rfl,hv3⟩
  have TN:=TC.later hv3 (by have:=ZC.out;omega)
  have UN:=UC.later hv3 (by have:=ZC.out;omega)
  have ZN:Hid (w.heap.size + 2≤v3.heap.size):=Nat.le_trans ZC.out hv3.size
  have BN:=BC.trans (hv3.mono BC.size)
  clear TC UC ZC BC
  have TC:=TN
  have UC:=UN
  have ZC:=ZN
  have BC:=BN
  clear TN UN ZN BN hv3
  go_wp2_with fail
  refine hK.out _ _ ⟨TC,UC⟩ (fun hJ=>?_)
  clear hK K hH
  have hH:=hJ
  clear hJ
  try simp only [Act.put,pa,pb,pc]
  refine tk 11 2 rfl _ hH (by intro w' h;have d0:=h.1.e4;have e0:=h.2.e3;go_simp;try with_reducible rfl) ?_
  try simp only [Act.put,pa,pb,pc]
  refine wpAnyH_done (by kernel_rfl) ?_ _
  go_wp2
  go_ret
  exact ⟨by unfold shA;rw [h0];rfl,BC⟩
 ·rw [Bool.not_eq_true] at h0
  rw [h0]
  go_wp2
  go_ret
  exact ⟨by unfold shA;rw [h0];rfl,BC⟩
end Go.Proofs.YtcaieniddnhkbaaGreatDoor
namespace Go.Proofs.YtcaieniddnhkbaaGreatDoor
open Go Go.RowKit Own Var Term
end Go.Proofs.YtcaieniddnhkbaaGreatDoor
set_option maxRecDepth 100000
namespace Go.Proofs.YtcaieniddnhkbaaGreatDoor
open Go Go.RowKit Own Var Term
structure Ev where
 kind:Int
 realm:Int
 by':Int
 cl:Int
 sv:Int
 key:Int
 par:Int
 ev:Int
 r0:Int
 r1:Int
 r2:Int
abbrev Ev.cells (e:Ev):List Value:=[I e.kind,I e.realm,I e.by',I e.cl,I e.sv,I e.key,I e.par,I e.ev,I e.r0,I e.r1,I e.r2]
abbrev Ev.val (e:Ev):Value:=.agg #[I e.kind,I e.realm,I e.by',I e.cl,I e.sv,I e.key,I e.par,I e.ev,I e.r0,I e.r1,I e.r2]
structure Rp where
 code:Int
 term:ByteArray
 e:Ev
abbrev Rp.val (r:Rp):Value:=.agg #[I r.code,.string r.term,I r.e.kind,I r.e.realm,I r.e.by',I r.e.cl,I r.e.sv,I r.e.key,I r.e.par,I r.e.ev,I r.e.r0,I r.e.r1,I r.e.r2]
def failR (c:Int):Rp:=⟨c,⟨#[]⟩,⟨0,0,0,0,0,0,0,0,0,0,0⟩⟩
def okTerm (nonce:Int) (t g:ByteArray):ByteArray:=listT [numsT [3,nonce],t,g]
def replyR (nonce:Int) (t g:ByteArray) (e:Ev):Rp:=if okTerm nonce t g=⟨#[]⟩ then failR 1 else ⟨0,okTerm nonce t g,e⟩
def noB (n:Int):Bool:=!btw n 0 1000000
theorem Blk.fill13 {m g:Nat} {w W:World} {u0 u1 u2 u3 u4 u5 u6 u7 u8 u9 u10 u11 u12:Value} (h:Blk g [u0,u1,u2,u3,u4,u5,u6,u7,u8,u9,u10,u11,u12] W) (hb:Below m w W) (hg:m≤g) (v0 v1 v2 v3 v4 v5 v6 v7 v8 v9 v10 v11 v12:Value) :
  Blk g [v0,v1,v2,v3,v4,v5,v6,v7,v8,v9,v10,v11,v12] ((((((((((((((((((((((((((W).setCell ⟨g,0,none⟩ (v0))).setCell ⟨g,1,none⟩ (v1))).setCell ⟨g,2,none⟩ (v2))).setCell ⟨g,3,none⟩ (v3))).setCell ⟨g,4,none⟩ (v4))).setCell ⟨g,5,none⟩ (v5))).setCell ⟨g,6,none⟩ (v6))).setCell ⟨g,7,none⟩ (v7))).setCell ⟨g,8,none⟩ (v8))).setCell ⟨g,9,none⟩ (v9))).setCell ⟨g,10,none⟩ (v10))).setCell ⟨g,11,none⟩ (v11))).setCell ⟨g,12,none⟩ (v12))∧Below m w ((((((((((((((((((((((((((W).setCell ⟨g,0,none⟩ (v0))).setCell ⟨g,1,none⟩ (v1))).setCell ⟨g,2,none⟩ (v2))).setCell ⟨g,3,none⟩ (v3))).setCell ⟨g,4,none⟩ (v4))).setCell ⟨g,5,none⟩ (v5))).setCell ⟨g,6,none⟩ (v6))).setCell ⟨g,7,none⟩ (v7))).setCell ⟨g,8,none⟩ (v8))).setCell ⟨g,9,none⟩ (v9))).setCell ⟨g,10,none⟩ (v10))).setCell ⟨g,11,none⟩ (v11))).setCell ⟨g,12,none⟩ (v12)) :=
 ⟨(((((((((((((h.set 0 v0).set 1 v1).set 2 v2).set 3 v3).set 4 v4).set 5 v5).set 6 v6).set 7 v7).set 8 v8).set 9 v9).set 10 v10).set 11 v11).set 12 v12),(((((((((((((hb.setCell (by dsimp only;omega) _).setCell (by dsimp only;omega) _).setCell (by dsimp only;omega) _).setCell (by dsimp only;omega) _).setCell (by dsimp only;omega) _).setCell (by dsimp only;omega) _).setCell (by dsimp only;omega) _).setCell (by dsimp only;omega) _).setCell (by dsimp only;omega) _).setCell (by dsimp only;omega) _).setCell (by dsimp only;omega) _).setCell (by dsimp only;omega) _).setCell (by dsimp only;omega) _)⟩
theorem res_r {fn:Func} {p:Tmp} (hres:fn.results=#[.cell p 35]) (tmps:Array Value) (w:World) (g:Nat) (v0 v1 v2 v3 v4 v5 v6 v7 v8 v9 v10 v11 v12:Value) (hp:tmps.getD p undef=.pointer (some ⟨g,0,none⟩)) (h0:w.cell? ⟨g,0,none⟩=some v0) (h1:w.cell? ⟨g,1,none⟩=some v1) (h2:w.cell? ⟨g,2,none⟩=some v2) (h3:w.cell? ⟨g,3,none⟩=some v3) (h4:w.cell? ⟨g,4,none⟩=some v4) (h5:w.cell? ⟨g,5,none⟩=some v5) (h6:w.cell? ⟨g,6,none⟩=some v6) (h7:w.cell? ⟨g,7,none⟩=some v7) (h8:w.cell? ⟨g,8,none⟩=some v8) (h9:w.cell? ⟨g,9,none⟩=some v9) (h10:w.cell? ⟨g,10,none⟩=some v10) (h11:w.cell? ⟨g,11,none⟩=some v11) (h12:w.cell? ⟨g,12,none⟩=some v12) :
  (results fn tmps).run Tryz.prog w=.ok (.agg #[v0,v1,v2,v3,v4,v5,v6,v7,v8,v9,v10,v11,v12]) w:=by
 have hp':tmps[p]?.getD undef=.pointer (some ⟨g,0,none⟩):=by simpa using hp
 simp [results,hres,hp',asAddr,go_sem,h0,h1,h2,h3,h4,h5,h6,h7,h8,h9,h10,h11,h12,loadVar,Tryz.isAgg35,Tryz.sizeOf35]
theorem spec_no (n:Int) (w:World):Calls Tryz.prog 35 #[I n] w fun e w'=>e=.returned (.bool (noB n))∧w=w':=by
 have h:noB n=(decide (n < 0) || decide (1000000 < n)):=by
  unfold noB btw
  rw [Bool.not_and,← decide_not,← decide_not]
  congr 1
  ·apply decide_eq_decide.2;omega
  ·apply decide_eq_decide.2;omega
 rw [h]
 by_cases h0:n < 0
 ·go_enter Tryz.func35,Tryz.ntmps35
  go_wp2
  go_ret
  exact ⟨by rw [decide_eq_true h0];rfl,rfl⟩
 ·go_enter Tryz.func35,Tryz.ntmps35
  go_wp2
  go_ret
  exact ⟨by rw [show decide (n < 0)=false from decide_eq_false (by omega)];rfl,rfl⟩
set_option maxHeartbeats 1600000 in
theorem spec_fail (c:Int) (w:World):Calls Tryz.prog 33 #[I c] w fun e w'=>e=.returned (failR c).val∧Below w.heap.size w w':=by
 have hb:Below w.heap.size w (w.alloc (.cells #[I c,.string ⟨#[]⟩,I 0,I 0,I 0,I 0,I 0,I 0,I 0,I 0,I 0,I 0,I 0] 35)):=(Below.refl _ _).alloc (Nat.le_refl _) _
 go_enter Tryz.func33,Tryz.ntmps33
 go_wp2
 exact bodyPost_ret (res_r rfl _ _ w.heap.size _ _ _ _ _ _ _ _ _ _ _ _ _ rfl (by simp [go_sem,failR]) (by simp [go_sem,failR]) (by simp [go_sem,failR]) (by simp [go_sem,failR]) (by simp [go_sem,failR]) (by simp [go_sem,failR]) (by simp [go_sem,failR]) (by simp [go_sem,failR]) (by simp [go_sem,failR]) (by simp [go_sem,failR]) (by simp [go_sem,failR]) (by simp [go_sem,failR]) (by simp [go_sem,failR])) rfl ⟨rfl,hb⟩
end Go.Proofs.YtcaieniddnhkbaaGreatDoor
