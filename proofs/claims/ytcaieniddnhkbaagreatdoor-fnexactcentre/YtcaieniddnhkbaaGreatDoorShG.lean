/- Grants as texts: what shows them. -/
import Derived.Test.YtcaieniddnhkbaaGreatDoorAb
import Derived.Test.YtcaieniddnhkbaaGreatDoorKeys
import Derived.Test.YtcaieniddnhkbaaGreatDoorNums
set_option linter.unusedVariables false
namespace Go.Proofs.YtcaieniddnhkbaaGreatDoor
open Go Go.RowKit Own Var Term
theorem shR_size (a b c:Int):(shR a b c).size≤900:=by
 unfold shR
 split
 ·exact listT_size _
 ·show 0≤900;omega
set_option maxRecDepth 100000 in
set_option maxHeartbeats 12800000 in
theorem showG_is (k s n a b e:Int) (key:Int) (w:World) (hs:i64 s):Calls Tryz.prog 136 #[.agg #[I k,I s,I n,I a,I b,I e,I key]] w fun en w'=>en=.returned (.string (shG k s n a b e key))∧Below w.heap.size w w':=by
 obtain ⟨W2,hW2⟩:∃ W2,(w.alloc (.cells #[I k,I s,I n,I a,I b,I e,I key] 200)).alloc (.cells #[I k,I s,I n,I a,I b,I e] 47)=W2:=⟨_,rfl⟩
 have B2:Below w.heap.size w W2:=by rw [← hW2];exact ((Below.refl _ _).alloc (Nat.le_refl _) _).alloc (by simp) _
 have T2:Blk w.heap.size [I k,I s,I n,I a,I b,I e,I key] W2:=by rw [← hW2];exact (Blk.new w #[I k,I s,I n,I a,I b,I e,I key] _).alloc (by simp) _
 have U2:Blk (w.heap.size + 1) [I k,I s,I n,I a,I b,I e] W2:=by rw [← hW2];have:=Blk.new (w.alloc (.cells #[I k,I s,I n,I a,I b,I e,I key] 200)) #[I k,I s,I n,I a,I b,I e] 47;simpa using this
 have Z2:Hid (w.heap.size + 2≤W2.heap.size):=by show _≤_;rw [← hW2];simp
 have e0:=U2.at 0 rfl
 have e1:=U2.at 1 rfl
 have e2:=U2.at 2 rfl
 have e3:=U2.at 3 rfl
 have e4:=U2.at 4 rfl
 have e5:=U2.at 5 rfl
 go_enter Tryz.func136,Tryz.ntmps136
 go_wp2_with fail
 try rw [hW2]
 refine (grantOk_is k s n a b e _ hs).mono ?_
 clear hW2
 rintro en w3 ⟨rfl,hb3⟩
 have TC:=T2.later hb3 (by have:=Z2.out;omega)
 have UC:=U2.later hb3 (by have:=Z2.out;omega)
 have ZC:Hid (w.heap.size + 2≤w3.heap.size):=Nat.le_trans Z2.out hb3.size
 have BC:=B2.trans (hb3.mono B2.size)
 clear T2 U2 Z2 B2 hb3 e0 e1 e2 e3 e4 e5
 by_cases h0:gOk k s n a b e=true
 ·rw [h0]
  go_wp2_with fail
  have TCD:=TC.drew
  have UCD:=UC.drew
  have BCD:=BC.drew
  have ZCD:Hid (w.heap.size + 2≤w3.drew.heap.size):=ZC
  clear TC UC BC ZC
  have TC:=TCD
  have UC:=UCD
  have BC:=BCD
  have ZC:=ZCD
  clear TCD UCD BCD ZCD
  refine wp_region_held_drew (S:=(fun V=>Blk w.heap.size [I k,I s,I n,I a,I b,I e,I key] V∧Blk (w.heap.size + 1) [I k,I s,I n,I a,I b,I e] V)) (by kernel_rfl) ⟨TC,UC⟩ (fun hH=>?_)
  refine tk 0 10 rfl _ hH (by intro w' h;have d0:=h.1.e7;have e0:=h.2.e6;go_simp;try with_reducible rfl) ?_
  try simp only [Act.put,pa,pb,pc]
  refine tk 1 11 rfl _ hH (by intro w' h;have d0:=h.1.e7;have e0:=h.2.e6;go_simp;try with_reducible rfl) ?_
  try simp only [Act.put,pa,pb,pc]
  refine tk 2 12 rfl _ hH (by intro w' h;have d0:=h.1.e7;have e0:=h.2.e6;go_simp;try with_reducible rfl) ?_
  try simp only [Act.put,pa,pb,pc]
  refine tk 3 13 rfl _ hH (by intro w' h;have d0:=h.1.e7;have e0:=h.2.e6;go_simp;try with_reducible rfl) ?_
  try simp only [Act.put,pa,pb,pc]
  refine tk 5 15 rfl _ hH (by intro w' h;have d0:=h.1.e7;have e0:=h.2.e6;go_simp;try with_reducible rfl) ?_
  try simp only [Act.put,pa,pb,pc]
  refine tk 6 16 rfl _ hH (by intro w' h;have d0:=h.1.e7;have e0:=h.2.e6;go_simp;try with_reducible rfl) ?_
  try simp only [Act.put,pa,pb,pc]
  refine tk 7 17 rfl _ hH (by intro w' h;have d0:=h.1.e7;have e0:=h.2.e6;go_simp;try with_reducible rfl) ?_
  try simp only [Act.put,pa,pb,pc]
  refine tk 8 18 rfl _ hH (by intro w' h;have d0:=h.1.e7;have e0:=h.2.e6;go_simp;try with_reducible rfl) ?_
  try simp only [Act.put,pa,pb,pc]
  refine tk 11 21 rfl _ hH (by intro w' h;have d0:=h.1.e7;have e0:=h.2.e6;go_simp;try with_reducible rfl) ?_
  try simp only [Act.put,pa,pb,pc]
  refine tk 12 22 rfl _ hH (by intro w' h;have d0:=h.1.e7;have e0:=h.2.e6;go_simp;try with_reducible rfl) ?_
  try simp only [Act.put,pa,pb,pc]
  refine wpAnyH_ready (rs:=[4,9]) (by kernel_rfl) (by simp) ?_
  refine AllReadyH.cons (i:=4) rfl (fun K hK=>?_) (AllReadyH.cons (i:=9) rfl (fun K hK=>?_) AllReadyH.nil)
  ·go_simp
   refine (impl_key k _).mono ?_
   rintro en v21 ⟨rfl,hv21⟩
   have TN:=TC.later hv21 (by have:=ZC.out;omega)
   have UN:=UC.later hv21 (by have:=ZC.out;omega)
   have ZN:Hid (w.heap.size + 2≤v21.heap.size):=Nat.le_trans ZC.out hv21.size
   have BN:=BC.trans (hv21.mono BC.size)
   clear TC UC ZC BC
   have TC:=TN
   have UC:=UN
   have ZC:=ZN
   have BC:=BN
   clear TN UN ZN BN
   clear hv21
   go_wp2_with fail
   refine hK.out _ _ ⟨TC,UC⟩ (fun hJ=>?_)
   clear hK K hH
   have hH:=hJ
   clear hJ
   try simp only [Act.put,pa,pb,pc]
   obtain ⟨v22,hv22⟩:∃ v,(v21).alloc (.cells #[I s,I n] 3)=v:=⟨_,rfl⟩
   have XA:Below (v21).heap.size (v21) v22:=by rw [← hv22];exact (Below.refl _ _).alloc (Nat.le_refl _) _
   have TN:=TC.later XA (by have:=ZC.out;omega)
   have UN:=UC.later XA (by have:=ZC.out;omega)
   have ZN:Hid (w.heap.size + 2≤v22.heap.size):=Nat.le_trans ZC.out XA.size
   have BN:=BC.trans (XA.mono BC.size)
   have RAN:RowAt (Value.int .i64) v22 (some ⟨(v21).heap.size,0,none⟩) [s,n]:=by rw [← hv22];exact row_new (Value.int .i64) (v21) [s,n] 3
   refine wpAnyH_ready (rs:=[9]) (by kernel_rfl) (by simp) ?_
   refine AllReadyH.cons (i:=9) rfl (fun K hK=>?_) AllReadyH.nil
   go_simp
   refine hK.out _ _ (by (try rw [hv22]);exact ⟨TN,UN⟩) (fun hJ=>?_)
   clear hK K hH
   have hH:=hJ
   clear hJ
   try simp only [Act.put,pa,pb,pc]
   clear TC UC ZC BC
   have TC:=TN
   have UC:=UN
   have ZC:=ZN
   have BC:=BN
   clear TN UN ZN BN
   have RA:=RAN
   clear RAN XA
   try rw [hv22]
   clear hv22
   refine wpAnyH_ready (rs:=[10]) (by kernel_rfl) (by simp) ?_
   refine AllReadyH.cons (i:=10) rfl (fun K hK=>?_) AllReadyH.nil
   go_simp
   refine (impl_nums _ 2 [s,n] _ RA (by simp)).mono ?_
   rintro en v23 ⟨rfl,hv23⟩
   have TN:=TC.later hv23 (by have:=ZC.out;omega)
   have UN:=UC.later hv23 (by have:=ZC.out;omega)
   have ZN:Hid (w.heap.size + 2≤v23.heap.size):=Nat.le_trans ZC.out hv23.size
   have BN:=BC.trans (hv23.mono BC.size)
   have RAN:=RowAt.later RA hv23
   clear TC UC ZC BC RA
   have TC:=TN
   have UC:=UN
   have ZC:=ZN
   have BC:=BN
   have RA:=RAN
   clear TN UN ZN BN RAN
   clear hv23
   go_wp2_with fail
   refine hK.out _ _ ⟨TC,UC⟩ (fun hJ=>?_)
   clear hK K hH
   have hH:=hJ
   clear hJ
   try simp only [Act.put,pa,pb,pc]
   clear RA
   refine wpAnyH_ready (rs:=[13]) (by kernel_rfl) (by simp) ?_
   refine AllReadyH.cons (i:=13) rfl (fun K hK=>?_) AllReadyH.nil
   go_simp
   refine (implShow_is a b e _).mono ?_
   rintro en v24 ⟨rfl,hv24⟩
   have TN:=TC.later hv24 (by have:=ZC.out;omega)
   have UN:=UC.later hv24 (by have:=ZC.out;omega)
   have ZN:Hid (w.heap.size + 2≤v24.heap.size):=Nat.le_trans ZC.out hv24.size
   have BN:=BC.trans (hv24.mono BC.size)
   clear TC UC ZC BC
   have TC:=TN
   have UC:=UN
   have ZC:=ZN
   have BC:=BN
   clear TN UN ZN BN
   clear hv24
   go_wp2_with fail
   refine hK.out _ _ ⟨TC,UC⟩ (fun hJ=>?_)
   clear hK K hH
   have hH:=hJ
   clear hJ
   try simp only [Act.put,pa,pb,pc]
   obtain ⟨v25,hv25⟩:∃ v,(v24).alloc (.cells #[.string (keyT k),.string (numsT [s,n]),.string (shR a b e)] 9)=v:=⟨_,rfl⟩
   have XA:Below (v24).heap.size (v24) v25:=by rw [← hv25];exact (Below.refl _ _).alloc (Nat.le_refl _) _
   have TN:=TC.later XA (by have:=ZC.out;omega)
   have UN:=UC.later XA (by have:=ZC.out;omega)
   have ZN:Hid (w.heap.size + 2≤v25.heap.size):=Nat.le_trans ZC.out XA.size
   have BN:=BC.trans (XA.mono BC.size)
   have RLN:RowAt Value.string v25 (some ⟨(v24).heap.size,0,none⟩) [keyT k,numsT [s,n],shR a b e]:=by rw [← hv25];exact row_new Value.string (v24) [keyT k,numsT [s,n],shR a b e] 9
   refine wpAnyH_ready (rs:=[14]) (by kernel_rfl) (by simp) ?_
   refine AllReadyH.cons (i:=14) rfl (fun K hK=>?_) AllReadyH.nil
   go_simp
   refine hK.out _ _ (by (try rw [hv25]);exact ⟨TN,UN⟩) (fun hJ=>?_)
   clear hK K hH
   have hH:=hJ
   clear hJ
   try simp only [Act.put,pa,pb,pc]
   clear TC UC ZC BC
   have TC:=TN
   have UC:=UN
   have ZC:=ZN
   have BC:=BN
   clear TN UN ZN BN
   have RL:=RLN
   clear RLN XA
   try rw [hv25]
   clear hv25
   refine wpAnyH_ready (rs:=[15]) (by kernel_rfl) (by simp) ?_
   refine AllReadyH.cons (i:=15) rfl (fun K hK=>?_) AllReadyH.nil
   go_simp
   refine (impl_list _ 3 [keyT k,numsT [s,n],shR a b e] _ RL (by simp) (by simp) (by intro x hx;simp only [List.mem_cons,List.not_mem_nil,or_false] at hx;rcases hx with rfl | rfl | rfl <;> first | exact Nat.le_trans (keyT_size k) (by omega) | exact Nat.le_trans (listT_size _) (by omega) | exact Nat.le_trans (shR_size a b e) (by omega))).mono ?_
   rintro en v26 ⟨rfl,hv26⟩
   have TN:=TC.later hv26 (by have:=ZC.out;omega)
   have UN:=UC.later hv26 (by have:=ZC.out;omega)
   have ZN:Hid (w.heap.size + 2≤v26.heap.size):=Nat.le_trans ZC.out hv26.size
   have BN:=BC.trans (hv26.mono BC.size)
   have RLN:=RowAt.later RL hv26
   clear TC UC ZC BC RL
   have TC:=TN
   have UC:=UN
   have ZC:=ZN
   have BC:=BN
   have RL:=RLN
   clear TN UN ZN BN RLN
   clear hv26
   go_wp2_with fail
   refine hK.out _ _ ⟨TC,UC⟩ (fun hJ=>?_)
   clear hK K hH
   have hH:=hJ
   clear hJ
   try simp only [Act.put,pa,pb,pc]
   clear RL
   refine wpAnyH_ready (rs:=[16]) (by kernel_rfl) (by simp) ?_
   refine AllReadyH.cons (i:=16) rfl (fun K hK=>?_) AllReadyH.nil
   go_simp
   refine (sealG_is k s n a b e key (inG k s n a b e) _ (Nat.le_trans (listT_size _) (by omega))).mono ?_
   rintro en v27 ⟨rfl,hv27⟩
   have TN:=TC.later hv27 (by have:=ZC.out;omega)
   have UN:=UC.later hv27 (by have:=ZC.out;omega)
   have ZN:Hid (w.heap.size + 2≤v27.heap.size):=Nat.le_trans ZC.out hv27.size
   have BN:=BC.trans (hv27.mono BC.size)
   clear TC UC ZC BC
   have TC:=TN
   have UC:=UN
   have ZC:=ZN
   have BC:=BN
   clear TN UN ZN BN
   clear hv27
   go_wp2_with fail
   refine hK.out _ _ ⟨TC,UC⟩ (fun hJ=>?_)
   clear hK K hH
   have hH:=hJ
   clear hJ
   try simp only [Act.put,pa,pb,pc]
   refine tk 17 2 rfl _ hH (by intro w' h;have d0:=h.1.e7;have e0:=h.2.e6;go_simp;try with_reducible rfl) ?_
   try simp only [Act.put,pa,pb,pc]
   refine wpAnyH_done (by kernel_rfl) ?_ _
   go_wp2
   go_ret
   exact ⟨by unfold shG;rw [h0];rfl,BC⟩
  ·obtain ⟨v41,hv41⟩:∃ v,(w3.drew).alloc (.cells #[I s,I n] 3)=v:=⟨_,rfl⟩
   have XA:Below (w3.drew).heap.size (w3.drew) v41:=by rw [← hv41];exact (Below.refl _ _).alloc (Nat.le_refl _) _
   have TN:=TC.later XA (by have:=ZC.out;omega)
   have UN:=UC.later XA (by have:=ZC.out;omega)
   have ZN:Hid (w.heap.size + 2≤v41.heap.size):=Nat.le_trans ZC.out XA.size
   have BN:=BC.trans (XA.mono BC.size)
   have RAN:RowAt (Value.int .i64) v41 (some ⟨(w3.drew).heap.size,0,none⟩) [s,n]:=by rw [← hv41];exact row_new (Value.int .i64) (w3.drew) [s,n] 3
   go_simp
   refine hK.out _ _ (by (try rw [hv41]);exact ⟨TN,UN⟩) (fun hJ=>?_)
   clear hK K hH
   have hH:=hJ
   clear hJ
   try simp only [Act.put,pa,pb,pc]
   clear TC UC ZC BC
   have TC:=TN
   have UC:=UN
   have ZC:=ZN
   have BC:=BN
   clear TN UN ZN BN
   have RA:=RAN
   clear RAN XA
   try rw [hv41]
   clear hv41
   refine wpAnyH_ready (rs:=[4]) (by kernel_rfl) (by simp) ?_
   refine AllReadyH.cons (i:=4) rfl (fun K hK=>?_) AllReadyH.nil
   go_simp
   refine (impl_key k _).mono ?_
   rintro en v42 ⟨rfl,hv42⟩
   have TN:=TC.later hv42 (by have:=ZC.out;omega)
   have UN:=UC.later hv42 (by have:=ZC.out;omega)
   have ZN:Hid (w.heap.size + 2≤v42.heap.size):=Nat.le_trans ZC.out hv42.size
   have BN:=BC.trans (hv42.mono BC.size)
   have RAN:=RowAt.later RA hv42
   clear TC UC ZC BC RA
   have TC:=TN
   have UC:=UN
   have ZC:=ZN
   have BC:=BN
   have RA:=RAN
   clear TN UN ZN BN RAN
   clear hv42
   go_wp2_with fail
   refine hK.out _ _ ⟨TC,UC⟩ (fun hJ=>?_)
   clear hK K hH
   have hH:=hJ
   clear hJ
   try simp only [Act.put,pa,pb,pc]
   refine wpAnyH_ready (rs:=[10]) (by kernel_rfl) (by simp) ?_
   refine AllReadyH.cons (i:=10) rfl (fun K hK=>?_) AllReadyH.nil
   go_simp
   refine (impl_nums _ 2 [s,n] _ RA (by simp)).mono ?_
   rintro en v43 ⟨rfl,hv43⟩
   have TN:=TC.later hv43 (by have:=ZC.out;omega)
   have UN:=UC.later hv43 (by have:=ZC.out;omega)
   have ZN:Hid (w.heap.size + 2≤v43.heap.size):=Nat.le_trans ZC.out hv43.size
   have BN:=BC.trans (hv43.mono BC.size)
   have RAN:=RowAt.later RA hv43
   clear TC UC ZC BC RA
   have TC:=TN
   have UC:=UN
   have ZC:=ZN
   have BC:=BN
   have RA:=RAN
   clear TN UN ZN BN RAN
   clear hv43
   go_wp2_with fail
   refine hK.out _ _ ⟨TC,UC⟩ (fun hJ=>?_)
   clear hK K hH
   have hH:=hJ
   clear hJ
   try simp only [Act.put,pa,pb,pc]
   clear RA
   refine wpAnyH_ready (rs:=[13]) (by kernel_rfl) (by simp) ?_
   refine AllReadyH.cons (i:=13) rfl (fun K hK=>?_) AllReadyH.nil
   go_simp
   refine (implShow_is a b e _).mono ?_
   rintro en v44 ⟨rfl,hv44⟩
   have TN:=TC.later hv44 (by have:=ZC.out;omega)
   have UN:=UC.later hv44 (by have:=ZC.out;omega)
   have ZN:Hid (w.heap.size + 2≤v44.heap.size):=Nat.le_trans ZC.out hv44.size
   have BN:=BC.trans (hv44.mono BC.size)
   clear TC UC ZC BC
   have TC:=TN
   have UC:=UN
   have ZC:=ZN
   have BC:=BN
   clear TN UN ZN BN
   clear hv44
   go_wp2_with fail
   refine hK.out _ _ ⟨TC,UC⟩ (fun hJ=>?_)
   clear hK K hH
   have hH:=hJ
   clear hJ
   try simp only [Act.put,pa,pb,pc]
   obtain ⟨v45,hv45⟩:∃ v,(v44).alloc (.cells #[.string (keyT k),.string (numsT [s,n]),.string (shR a b e)] 9)=v:=⟨_,rfl⟩
   have XA:Below (v44).heap.size (v44) v45:=by rw [← hv45];exact (Below.refl _ _).alloc (Nat.le_refl _) _
   have TN:=TC.later XA (by have:=ZC.out;omega)
   have UN:=UC.later XA (by have:=ZC.out;omega)
   have ZN:Hid (w.heap.size + 2≤v45.heap.size):=Nat.le_trans ZC.out XA.size
   have BN:=BC.trans (XA.mono BC.size)
   have RLN:RowAt Value.string v45 (some ⟨(v44).heap.size,0,none⟩) [keyT k,numsT [s,n],shR a b e]:=by rw [← hv45];exact row_new Value.string (v44) [keyT k,numsT [s,n],shR a b e] 9
   refine wpAnyH_ready (rs:=[14]) (by kernel_rfl) (by simp) ?_
   refine AllReadyH.cons (i:=14) rfl (fun K hK=>?_) AllReadyH.nil
   go_simp
   refine hK.out _ _ (by (try rw [hv45]);exact ⟨TN,UN⟩) (fun hJ=>?_)
   clear hK K hH
   have hH:=hJ
   clear hJ
   try simp only [Act.put,pa,pb,pc]
   clear TC UC ZC BC
   have TC:=TN
   have UC:=UN
   have ZC:=ZN
   have BC:=BN
   clear TN UN ZN BN
   have RL:=RLN
   clear RLN XA
   try rw [hv45]
   clear hv45
   refine wpAnyH_ready (rs:=[15]) (by kernel_rfl) (by simp) ?_
   refine AllReadyH.cons (i:=15) rfl (fun K hK=>?_) AllReadyH.nil
   go_simp
   refine (impl_list _ 3 [keyT k,numsT [s,n],shR a b e] _ RL (by simp) (by simp) (by intro x hx;simp only [List.mem_cons,List.not_mem_nil,or_false] at hx;rcases hx with rfl | rfl | rfl <;> first | exact Nat.le_trans (keyT_size k) (by omega) | exact Nat.le_trans (listT_size _) (by omega) | exact Nat.le_trans (shR_size a b e) (by omega))).mono ?_
   rintro en v46 ⟨rfl,hv46⟩
   have TN:=TC.later hv46 (by have:=ZC.out;omega)
   have UN:=UC.later hv46 (by have:=ZC.out;omega)
   have ZN:Hid (w.heap.size + 2≤v46.heap.size):=Nat.le_trans ZC.out hv46.size
   have BN:=BC.trans (hv46.mono BC.size)
   have RLN:=RowAt.later RL hv46
   clear TC UC ZC BC RL
   have TC:=TN
   have UC:=UN
   have ZC:=ZN
   have BC:=BN
   have RL:=RLN
   clear TN UN ZN BN RLN
   clear hv46
   go_wp2_with fail
   refine hK.out _ _ ⟨TC,UC⟩ (fun hJ=>?_)
   clear hK K hH
   have hH:=hJ
   clear hJ
   try simp only [Act.put,pa,pb,pc]
   clear RL
   refine wpAnyH_ready (rs:=[16]) (by kernel_rfl) (by simp) ?_
   refine AllReadyH.cons (i:=16) rfl (fun K hK=>?_) AllReadyH.nil
   go_simp
   refine (sealG_is k s n a b e key (inG k s n a b e) _ (Nat.le_trans (listT_size _) (by omega))).mono ?_
   rintro en v47 ⟨rfl,hv47⟩
   have TN:=TC.later hv47 (by have:=ZC.out;omega)
   have UN:=UC.later hv47 (by have:=ZC.out;omega)
   have ZN:Hid (w.heap.size + 2≤v47.heap.size):=Nat.le_trans ZC.out hv47.size
   have BN:=BC.trans (hv47.mono BC.size)
   clear TC UC ZC BC
   have TC:=TN
   have UC:=UN
   have ZC:=ZN
   have BC:=BN
   clear TN UN ZN BN
   clear hv47
   go_wp2_with fail
   refine hK.out _ _ ⟨TC,UC⟩ (fun hJ=>?_)
   clear hK K hH
   have hH:=hJ
   clear hJ
   try simp only [Act.put,pa,pb,pc]
   refine tk 17 2 rfl _ hH (by intro w' h;have d0:=h.1.e7;have e0:=h.2.e6;go_simp;try with_reducible rfl) ?_
   try simp only [Act.put,pa,pb,pc]
   refine wpAnyH_done (by kernel_rfl) ?_ _
   go_wp2
   go_ret
   exact ⟨by unfold shG;rw [h0];rfl,BC⟩
 ·rw [Bool.not_eq_true] at h0
  rw [h0]
  go_wp2
  go_ret
  exact ⟨by unfold shG;rw [h0];rfl,BC⟩
end Go.Proofs.YtcaieniddnhkbaaGreatDoor
namespace Go.Proofs.YtcaieniddnhkbaaGreatDoor
open Go Go.RowKit Own Var Term
set_option maxRecDepth 100000 in
set_option maxHeartbeats 12800000 in
theorem specShowG_is (k s n a b e:Int) (key:Int) (w:World):Calls Tryz.prog 75 #[.agg #[I k,I s,I n,I a,I b,I e],I key] w fun en w'=>en=.returned (.string (shG k s n a b e key))∧Below w.heap.size w w':=by
 obtain ⟨W2,hW2⟩:∃ W2,w.alloc (.cells #[I k,I s,I n,I a,I b,I e] 47)=W2:=⟨_,rfl⟩
 have B2:Below w.heap.size w W2:=by rw [← hW2];exact (Below.refl _ _).alloc (Nat.le_refl _) _
 have T2:Blk w.heap.size [I k,I s,I n,I a,I b,I e] W2:=by rw [← hW2];exact Blk.new w #[I k,I s,I n,I a,I b,I e] _
 have Z2:Hid (w.heap.size + 1≤W2.heap.size):=by show _≤_;rw [← hW2];simp
 have e0:=T2.at 0 rfl
 have e1:=T2.at 1 rfl
 have e2:=T2.at 2 rfl
 have e3:=T2.at 3 rfl
 have e4:=T2.at 4 rfl
 have e5:=T2.at 5 rfl
 go_enter Tryz.func75,Tryz.ntmps75
 go_wp2_with fail
 try rw [hW2]
 refine (spec_grantOk k s n a b e _).mono ?_
 clear hW2
 rintro en w3 ⟨rfl,hb3⟩
 have TC:=T2.later hb3 (by have:=Z2.out;omega)
 have ZC:Hid (w.heap.size + 1≤w3.heap.size):=Nat.le_trans Z2.out hb3.size
 have BC:=B2.trans (hb3.mono B2.size)
 clear T2 Z2 B2 hb3 e0 e1 e2 e3 e4 e5
 by_cases h0:gOk k s n a b e=true
 ·rw [h0]
  go_wp2_with fail
  have TCD:=TC.drew
  have BCD:=BC.drew
  have ZCD:Hid (w.heap.size + 1≤w3.drew.heap.size):=ZC
  clear TC BC ZC
  have TC:=TCD
  have BC:=BCD
  have ZC:=ZCD
  clear TCD BCD ZCD
  refine wp_region_held_drew (S:=(fun V=>Blk w.heap.size [I k,I s,I n,I a,I b,I e] V)) (by kernel_rfl) TC (fun hH=>?_)
  refine tk 0 8 rfl _ hH (by intro w' h;have d0:=h.e6;go_simp;try with_reducible rfl) ?_
  try simp only [Act.put,pa,pb,pc]
  refine tk 1 9 rfl _ hH (by intro w' h;have d0:=h.e6;go_simp;try with_reducible rfl) ?_
  try simp only [Act.put,pa,pb,pc]
  refine tk 2 10 rfl _ hH (by intro w' h;have d0:=h.e6;go_simp;try with_reducible rfl) ?_
  try simp only [Act.put,pa,pb,pc]
  refine tk 4 12 rfl _ hH (by intro w' h;have d0:=h.e6;go_simp;try with_reducible rfl) ?_
  try simp only [Act.put,pa,pb,pc]
  refine tk 5 13 rfl _ hH (by intro w' h;have d0:=h.e6;go_simp;try with_reducible rfl) ?_
  try simp only [Act.put,pa,pb,pc]
  refine tk 6 14 rfl _ hH (by intro w' h;have d0:=h.e6;go_simp;try with_reducible rfl) ?_
  try simp only [Act.put,pa,pb,pc]
  refine tk 7 15 rfl _ hH (by intro w' h;have d0:=h.e6;go_simp;try with_reducible rfl) ?_
  try simp only [Act.put,pa,pb,pc]
  refine tk 10 18 rfl _ hH (by intro w' h;have d0:=h.e6;go_simp;try with_reducible rfl) ?_
  try simp only [Act.put,pa,pb,pc]
  refine tk 11 19 rfl _ hH (by intro w' h;have d0:=h.e6;go_simp;try with_reducible rfl) ?_
  try simp only [Act.put,pa,pb,pc]
  refine wpAnyH_ready (rs:=[3,8]) (by kernel_rfl) (by simp) ?_
  refine AllReadyH.cons (i:=3) rfl (fun K hK=>?_) (AllReadyH.cons (i:=8) rfl (fun K hK=>?_) AllReadyH.nil)
  ·go_simp
   refine (spec_key k _).mono ?_
   rintro en v21 ⟨rfl,hv21⟩
   have TN:=TC.later hv21 (by have:=ZC.out;omega)
   have ZN:Hid (w.heap.size + 1≤v21.heap.size):=Nat.le_trans ZC.out hv21.size
   have BN:=BC.trans (hv21.mono BC.size)
   clear TC ZC BC
   have TC:=TN
   have ZC:=ZN
   have BC:=BN
   clear TN ZN BN
   clear hv21
   go_wp2_with fail
   refine hK.out _ _ TC (fun hJ=>?_)
   clear hK K hH
   have hH:=hJ
   clear hJ
   try simp only [Act.put,pa,pb,pc]
   obtain ⟨v22,hv22⟩:∃ v,(v21).alloc (.cells #[I s,I n] 3)=v:=⟨_,rfl⟩
   have XA:Below (v21).heap.size (v21) v22:=by rw [← hv22];exact (Below.refl _ _).alloc (Nat.le_refl _) _
   have TN:=TC.later XA (by have:=ZC.out;omega)
   have ZN:Hid (w.heap.size + 1≤v22.heap.size):=Nat.le_trans ZC.out XA.size
   have BN:=BC.trans (XA.mono BC.size)
   have RAN:RowAt (Value.int .i64) v22 (some ⟨(v21).heap.size,0,none⟩) [s,n]:=by rw [← hv22];exact row_new (Value.int .i64) (v21) [s,n] 3
   refine wpAnyH_ready (rs:=[8]) (by kernel_rfl) (by simp) ?_
   refine AllReadyH.cons (i:=8) rfl (fun K hK=>?_) AllReadyH.nil
   go_simp
   refine hK.out _ _ (by (try rw [hv22]);exact TN) (fun hJ=>?_)
   clear hK K hH
   have hH:=hJ
   clear hJ
   try simp only [Act.put,pa,pb,pc]
   clear TC ZC BC
   have TC:=TN
   have ZC:=ZN
   have BC:=BN
   clear TN ZN BN
   have RA:=RAN
   clear RAN XA
   try rw [hv22]
   clear hv22
   refine wpAnyH_ready (rs:=[9]) (by kernel_rfl) (by simp) ?_
   refine AllReadyH.cons (i:=9) rfl (fun K hK=>?_) AllReadyH.nil
   go_simp
   refine (spec_nums _ 2 [s,n] _ RA (by simp)).mono ?_
   rintro en v23 ⟨rfl,hv23⟩
   have TN:=TC.later hv23 (by have:=ZC.out;omega)
   have ZN:Hid (w.heap.size + 1≤v23.heap.size):=Nat.le_trans ZC.out hv23.size
   have BN:=BC.trans (hv23.mono BC.size)
   have RAN:=RowAt.later RA hv23
   clear TC ZC BC RA
   have TC:=TN
   have ZC:=ZN
   have BC:=BN
   have RA:=RAN
   clear TN ZN BN RAN
   clear hv23
   go_wp2_with fail
   refine hK.out _ _ TC (fun hJ=>?_)
   clear hK K hH
   have hH:=hJ
   clear hJ
   try simp only [Act.put,pa,pb,pc]
   clear RA
   refine wpAnyH_ready (rs:=[12]) (by kernel_rfl) (by simp) ?_
   refine AllReadyH.cons (i:=12) rfl (fun K hK=>?_) AllReadyH.nil
   go_simp
   refine (specShow_is a b e _).mono ?_
   rintro en v24 ⟨rfl,hv24⟩
   have TN:=TC.later hv24 (by have:=ZC.out;omega)
   have ZN:Hid (w.heap.size + 1≤v24.heap.size):=Nat.le_trans ZC.out hv24.size
   have BN:=BC.trans (hv24.mono BC.size)
   clear TC ZC BC
   have TC:=TN
   have ZC:=ZN
   have BC:=BN
   clear TN ZN BN
   clear hv24
   go_wp2_with fail
   refine hK.out _ _ TC (fun hJ=>?_)
   clear hK K hH
   have hH:=hJ
   clear hJ
   try simp only [Act.put,pa,pb,pc]
   obtain ⟨v25,hv25⟩:∃ v,(v24).alloc (.cells #[.string (keyT k),.string (numsT [s,n]),.string (shR a b e)] 9)=v:=⟨_,rfl⟩
   have XA:Below (v24).heap.size (v24) v25:=by rw [← hv25];exact (Below.refl _ _).alloc (Nat.le_refl _) _
   have TN:=TC.later XA (by have:=ZC.out;omega)
   have ZN:Hid (w.heap.size + 1≤v25.heap.size):=Nat.le_trans ZC.out XA.size
   have BN:=BC.trans (XA.mono BC.size)
   have RLN:RowAt Value.string v25 (some ⟨(v24).heap.size,0,none⟩) [keyT k,numsT [s,n],shR a b e]:=by rw [← hv25];exact row_new Value.string (v24) [keyT k,numsT [s,n],shR a b e] 9
   refine wpAnyH_ready (rs:=[13]) (by kernel_rfl) (by simp) ?_
   refine AllReadyH.cons (i:=13) rfl (fun K hK=>?_) AllReadyH.nil
   go_simp
   refine hK.out _ _ (by (try rw [hv25]);exact TN) (fun hJ=>?_)
   clear hK K hH
   have hH:=hJ
   clear hJ
   try simp only [Act.put,pa,pb,pc]
   clear TC ZC BC
   have TC:=TN
   have ZC:=ZN
   have BC:=BN
   clear TN ZN BN
   have RL:=RLN
   clear RLN XA
   try rw [hv25]
   clear hv25
   refine wpAnyH_ready (rs:=[14]) (by kernel_rfl) (by simp) ?_
   refine AllReadyH.cons (i:=14) rfl (fun K hK=>?_) AllReadyH.nil
   go_simp
   refine (spec_list _ 3 [keyT k,numsT [s,n],shR a b e] _ RL (by simp) (by intro x hx;simp only [List.mem_cons,List.not_mem_nil,or_false] at hx;rcases hx with rfl | rfl | rfl <;> first | exact Nat.le_trans (keyT_size k) (by omega) | exact Nat.le_trans (listT_size _) (by omega) | exact Nat.le_trans (shR_size a b e) (by omega))).mono ?_
   rintro en v26 ⟨rfl,hv26⟩
   have TN:=TC.later hv26 (by have:=ZC.out;omega)
   have ZN:Hid (w.heap.size + 1≤v26.heap.size):=Nat.le_trans ZC.out hv26.size
   have BN:=BC.trans (hv26.mono BC.size)
   have RLN:=RowAt.later RL hv26
   clear TC ZC BC RL
   have TC:=TN
   have ZC:=ZN
   have BC:=BN
   have RL:=RLN
   clear TN ZN BN RLN
   clear hv26
   go_wp2_with fail
   refine hK.out _ _ TC (fun hJ=>?_)
   clear hK K hH
   have hH:=hJ
   clear hJ
   try simp only [Act.put,pa,pb,pc]
   clear RL
   refine wpAnyH_ready (rs:=[15]) (by kernel_rfl) (by simp) ?_
   refine AllReadyH.cons (i:=15) rfl (fun K hK=>?_) AllReadyH.nil
   go_simp
   refine (spec_seal key (inG k s n a b e) _ (Nat.le_trans (listT_size _) (by omega))).mono ?_
   rintro en v27 ⟨rfl,hv27⟩
   have TN:=TC.later hv27 (by have:=ZC.out;omega)
   have ZN:Hid (w.heap.size + 1≤v27.heap.size):=Nat.le_trans ZC.out hv27.size
   have BN:=BC.trans (hv27.mono BC.size)
   clear TC ZC BC
   have TC:=TN
   have ZC:=ZN
   have BC:=BN
   clear TN ZN BN
   clear hv27
   go_wp2_with fail
   refine hK.out _ _ TC (fun hJ=>?_)
   clear hK K hH
   have hH:=hJ
   clear hJ
   try simp only [Act.put,pa,pb,pc]
   refine tk 16 4 rfl _ hH (by intro w' h;have d0:=h.e6;go_simp;try with_reducible rfl) ?_
   try simp only [Act.put,pa,pb,pc]
   refine wpAnyH_done (by kernel_rfl) ?_ _
   go_wp2
   go_ret
   exact ⟨by unfold shG;rw [h0];rfl,BC⟩
  ·obtain ⟨v41,hv41⟩:∃ v,(w3.drew).alloc (.cells #[I s,I n] 3)=v:=⟨_,rfl⟩
   have XA:Below (w3.drew).heap.size (w3.drew) v41:=by rw [← hv41];exact (Below.refl _ _).alloc (Nat.le_refl _) _
   have TN:=TC.later XA (by have:=ZC.out;omega)
   have ZN:Hid (w.heap.size + 1≤v41.heap.size):=Nat.le_trans ZC.out XA.size
   have BN:=BC.trans (XA.mono BC.size)
   have RAN:RowAt (Value.int .i64) v41 (some ⟨(w3.drew).heap.size,0,none⟩) [s,n]:=by rw [← hv41];exact row_new (Value.int .i64) (w3.drew) [s,n] 3
   go_simp
   refine hK.out _ _ (by (try rw [hv41]);exact TN) (fun hJ=>?_)
   clear hK K hH
   have hH:=hJ
   clear hJ
   try simp only [Act.put,pa,pb,pc]
   clear TC ZC BC
   have TC:=TN
   have ZC:=ZN
   have BC:=BN
   clear TN ZN BN
   have RA:=RAN
   clear RAN XA
   try rw [hv41]
   clear hv41
   refine wpAnyH_ready (rs:=[3]) (by kernel_rfl) (by simp) ?_
   refine AllReadyH.cons (i:=3) rfl (fun K hK=>?_) AllReadyH.nil
   go_simp
   refine (spec_key k _).mono ?_
   rintro en v42 ⟨rfl,hv42⟩
   have TN:=TC.later hv42 (by have:=ZC.out;omega)
   have ZN:Hid (w.heap.size + 1≤v42.heap.size):=Nat.le_trans ZC.out hv42.size
   have BN:=BC.trans (hv42.mono BC.size)
   have RAN:=RowAt.later RA hv42
   clear TC ZC BC RA
   have TC:=TN
   have ZC:=ZN
   have BC:=BN
   have RA:=RAN
   clear TN ZN BN RAN
   clear hv42
   go_wp2_with fail
   refine hK.out _ _ TC (fun hJ=>?_)
   clear hK K hH
   have hH:=hJ
   clear hJ
   try simp only [Act.put,pa,pb,pc]
   refine wpAnyH_ready (rs:=[9]) (by kernel_rfl) (by simp) ?_
   refine AllReadyH.cons (i:=9) rfl (fun K hK=>?_) AllReadyH.nil
   go_simp
   refine (spec_nums _ 2 [s,n] _ RA (by simp)).mono ?_
   rintro en v43 ⟨rfl,hv43⟩
   have TN:=TC.later hv43 (by have:=ZC.out;omega)
   have ZN:Hid (w.heap.size + 1≤v43.heap.size):=Nat.le_trans ZC.out hv43.size
   have BN:=BC.trans (hv43.mono BC.size)
   have RAN:=RowAt.later RA hv43
   clear TC ZC BC RA
   have TC:=TN
   have ZC:=ZN
   have BC:=BN
   have RA:=RAN
   clear TN ZN BN RAN
   clear hv43
   go_wp2_with fail
   refine hK.out _ _ TC (fun hJ=>?_)
   clear hK K hH
   have hH:=hJ
   clear hJ
   try simp only [Act.put,pa,pb,pc]
   clear RA
   refine wpAnyH_ready (rs:=[12]) (by kernel_rfl) (by simp) ?_
   refine AllReadyH.cons (i:=12) rfl (fun K hK=>?_) AllReadyH.nil
   go_simp
   refine (specShow_is a b e _).mono ?_
   rintro en v44 ⟨rfl,hv44⟩
   have TN:=TC.later hv44 (by have:=ZC.out;omega)
   have ZN:Hid (w.heap.size + 1≤v44.heap.size):=Nat.le_trans ZC.out hv44.size
   have BN:=BC.trans (hv44.mono BC.size)
   clear TC ZC BC
   have TC:=TN
   have ZC:=ZN
   have BC:=BN
   clear TN ZN BN
   clear hv44
   go_wp2_with fail
   refine hK.out _ _ TC (fun hJ=>?_)
   clear hK K hH
   have hH:=hJ
   clear hJ
   try simp only [Act.put,pa,pb,pc]
   obtain ⟨v45,hv45⟩:∃ v,(v44).alloc (.cells #[.string (keyT k),.string (numsT [s,n]),.string (shR a b e)] 9)=v:=⟨_,rfl⟩
   have XA:Below (v44).heap.size (v44) v45:=by rw [← hv45];exact (Below.refl _ _).alloc (Nat.le_refl _) _
   have TN:=TC.later XA (by have:=ZC.out;omega)
   have ZN:Hid (w.heap.size + 1≤v45.heap.size):=Nat.le_trans ZC.out XA.size
   have BN:=BC.trans (XA.mono BC.size)
   have RLN:RowAt Value.string v45 (some ⟨(v44).heap.size,0,none⟩) [keyT k,numsT [s,n],shR a b e]:=by rw [← hv45];exact row_new Value.string (v44) [keyT k,numsT [s,n],shR a b e] 9
   refine wpAnyH_ready (rs:=[13]) (by kernel_rfl) (by simp) ?_
   refine AllReadyH.cons (i:=13) rfl (fun K hK=>?_) AllReadyH.nil
   go_simp
   refine hK.out _ _ (by (try rw [hv45]);exact TN) (fun hJ=>?_)
   clear hK K hH
   have hH:=hJ
   clear hJ
   try simp only [Act.put,pa,pb,pc]
   clear TC ZC BC
   have TC:=TN
   have ZC:=ZN
   have BC:=BN
   clear TN ZN BN
   have RL:=RLN
   clear RLN XA
   try rw [hv45]
   clear hv45
   refine wpAnyH_ready (rs:=[14]) (by kernel_rfl) (by simp) ?_
   refine AllReadyH.cons (i:=14) rfl (fun K hK=>?_) AllReadyH.nil
   go_simp
   refine (spec_list _ 3 [keyT k,numsT [s,n],shR a b e] _ RL (by simp) (by intro x hx;simp only [List.mem_cons,List.not_mem_nil,or_false] at hx;rcases hx with rfl | rfl | rfl <;> first | exact Nat.le_trans (keyT_size k) (by omega) | exact Nat.le_trans (listT_size _) (by omega) | exact Nat.le_trans (shR_size a b e) (by omega))).mono ?_
   rintro en v46 ⟨rfl,hv46⟩
   have TN:=TC.later hv46 (by have:=ZC.out;omega)
   have ZN:Hid (w.heap.size + 1≤v46.heap.size):=Nat.le_trans ZC.out hv46.size
   have BN:=BC.trans (hv46.mono BC.size)
   have RLN:=RowAt.later RL hv46
   clear TC ZC BC RL
   have TC:=TN
   have ZC:=ZN
   have BC:=BN
   have RL:=RLN
   clear TN ZN BN RLN
   clear hv46
   go_wp2_with fail
   refine hK.out _ _ TC (fun hJ=>?_)
   clear hK K hH
   have hH:=hJ
   clear hJ
   try simp only [Act.put,pa,pb,pc]
   clear RL
   refine wpAnyH_ready (rs:=[15]) (by kernel_rfl) (by simp) ?_
   refine AllReadyH.cons (i:=15) rfl (fun K hK=>?_) AllReadyH.nil
   go_simp
   refine (spec_seal key (inG k s n a b e) _ (Nat.le_trans (listT_size _) (by omega))).mono ?_
   rintro en v47 ⟨rfl,hv47⟩
   have TN:=TC.later hv47 (by have:=ZC.out;omega)
   have ZN:Hid (w.heap.size + 1≤v47.heap.size):=Nat.le_trans ZC.out hv47.size
   have BN:=BC.trans (hv47.mono BC.size)
   clear TC ZC BC
   have TC:=TN
   have ZC:=ZN
   have BC:=BN
   clear TN ZN BN
   clear hv47
   go_wp2_with fail
   refine hK.out _ _ TC (fun hJ=>?_)
   clear hK K hH
   have hH:=hJ
   clear hJ
   try simp only [Act.put,pa,pb,pc]
   refine tk 16 4 rfl _ hH (by intro w' h;have d0:=h.e6;go_simp;try with_reducible rfl) ?_
   try simp only [Act.put,pa,pb,pc]
   refine wpAnyH_done (by kernel_rfl) ?_ _
   go_wp2
   go_ret
   exact ⟨by unfold shG;rw [h0];rfl,BC⟩
 ·rw [Bool.not_eq_true] at h0
  rw [h0]
  go_wp2
  go_ret
  exact ⟨by unfold shG;rw [h0];rfl,BC⟩
end Go.Proofs.YtcaieniddnhkbaaGreatDoor
