/- Chapter 8: what is answered with a gift. -/
import Derived.Test.YtcaieniddnhkbaaGreatDoorAb
import Derived.Test.YtcaieniddnhkbaaGreatDoorIm8a
set_option linter.unusedVariables false
set_option maxRecDepth 100000
namespace Go.Proofs.YtcaieniddnhkbaaGreatDoor
open Go Go.RowKit Own Var Term
abbrev gfV (cl sv key a b e:Int) (pa:Option Addr) (P:List Int) (pc:Nat) (va:Option Addr) (V:List Int) (vc:Nat) (fk bk nonce kind by' par ev:Int):Value:=.agg #[I cl,I sv,I key,I a,I b,I e,.slice pa P.length pc,.slice va V.length vc,I fk,I bk,I nonce,I kind,I 0,I by',I 0,I 0,I 0,I par,I ev,I 0,I 0,I 0]
set_option maxHeartbeats 6400000 in
theorem gTerm_is (cl sv key a b e:Int) (pa:Option Addr) (P:List Int) (pc:Nat) (va:Option Addr) (V:List Int) (vc:Nat) (fk bk nonce kind by' par ev:Int) (w:World) (RP:RowAt (Value.int .i64) w pa P) (RV:RowAt (Value.int .i64) w va V) (hP:P.length≤1048576) (hV:V.length≤1048576) (hsv:i64 sv) :
  Calls Tryz.prog 64 #[gfV cl sv key a b e pa P pc va V vc fk bk nonce kind by' par ev] w fun en w'=>en=.returned (.string (okTerm nonce (shT cl sv key a b e P V fk) (shG key sv nonce a b e bk)))∧Below w.heap.size w w':=by
 obtain ⟨W2,hW2⟩:∃ W2,(w.alloc (.cells #[I cl,I sv,I key,I a,I b,I e,.slice pa P.length pc,.slice va V.length vc,I fk,I bk,I nonce,I kind,I 0,I by',I 0,I 0,I 0,I par,I ev,I 0,I 0,I 0] 73)).alloc (.cells #[I cl,I sv,I key,I a,I b,I e,.slice pa P.length pc,.slice va V.length vc] 43)=W2:=⟨_,rfl⟩
 have BC:Below w.heap.size w W2:=by rw [← hW2];exact ((Below.refl _ _).alloc (Nat.le_refl _) _).alloc (by simp) _
 have TC:Blk w.heap.size [I cl,I sv,I key,I a,I b,I e,.slice pa P.length pc,.slice va V.length vc,I fk,I bk,I nonce,I kind,I 0,I by',I 0,I 0,I 0,I par,I ev,I 0,I 0,I 0] W2:=by rw [← hW2];exact (Blk.new w #[I cl,I sv,I key,I a,I b,I e,.slice pa P.length pc,.slice va V.length vc,I fk,I bk,I nonce,I kind,I 0,I by',I 0,I 0,I 0,I par,I ev,I 0,I 0,I 0] _).alloc (by simp) _
 have UC:Blk (w.heap.size+1) [I cl,I sv,I key,I a,I b,I e,.slice pa P.length pc,.slice va V.length vc] W2:=by rw [← hW2];have:=Blk.new (w.alloc (.cells #[I cl,I sv,I key,I a,I b,I e,.slice pa P.length pc,.slice va V.length vc,I fk,I bk,I nonce,I kind,I 0,I by',I 0,I 0,I 0,I par,I ev,I 0,I 0,I 0] 73)) #[I cl,I sv,I key,I a,I b,I e,.slice pa P.length pc,.slice va V.length vc] 43;simpa using this
 have ZC:Hid (w.heap.size+2≤W2.heap.size):=by show _≤_;rw [← hW2];simp
 replace RP:=RP.later BC
 replace RV:=RV.later BC
 go_enter Tryz.func64,Tryz.ntmps64
 go_wp2_with fail
 try rw [hW2]
 clear hW2
 have TCD:=TC.drew
 have UCD:=UC.drew
 have BCD:=BC.drew
 have ZCD:Hid (w.heap.size+2≤W2.drew.heap.size):=ZC
 have RPD:RowAt (Value.int .i64) W2.drew _ _:=RP
 have RVD:RowAt (Value.int .i64) W2.drew _ _:=RV
 clear TC UC BC ZC RP RV
 have TC:=TCD
 have UC:=UCD
 have BC:=BCD
 have ZC:=ZCD
 have RP:=RPD
 have RV:=RVD
 clear TCD UCD BCD ZCD RPD RVD
 refine wp_region_held_drew (S:=(fun Vw=>Blk w.heap.size [I cl,I sv,I key,I a,I b,I e,.slice pa P.length pc,.slice va V.length vc,I fk,I bk,I nonce,I kind,I 0,I by',I 0,I 0,I 0,I par,I ev,I 0,I 0,I 0] Vw∧Blk (w.heap.size+1) [I cl,I sv,I key,I a,I b,I e,.slice pa P.length pc,.slice va V.length vc] Vw)) (by kernel_rfl) ⟨TC,UC⟩ (fun hH=>?_)
 refine tk 0 6 rfl _ hH (by intro w' h;have d8:=h.1.at 8 rfl;have d9:=h.1.at 9 rfl;have d10:=h.1.at 10 rfl;have e0:=h.2.e8;go_simp;try with_reducible rfl) ?_
 try simp only [Act.put,pa,pb,pc]
 refine tk 1 7 rfl _ hH (by intro w' h;have d8:=h.1.at 8 rfl;have d9:=h.1.at 9 rfl;have d10:=h.1.at 10 rfl;have e0:=h.2.e8;go_simp;try with_reducible rfl) ?_
 try simp only [Act.put,pa,pb,pc]
 refine tk 4 10 rfl _ hH (by intro w' h;have d8:=h.1.at 8 rfl;have d9:=h.1.at 9 rfl;have d10:=h.1.at 10 rfl;have e0:=h.2.e8;go_simp;try with_reducible rfl) ?_
 try simp only [Act.put,pa,pb,pc]
 refine tk 5 11 rfl _ hH (by intro w' h;have d8:=h.1.at 8 rfl;have d9:=h.1.at 9 rfl;have d10:=h.1.at 10 rfl;have e0:=h.2.e8;go_simp;try with_reducible rfl) ?_
 try simp only [Act.put,pa,pb,pc]
 refine tk 6 12 rfl _ hH (by intro w' h;have d8:=h.1.at 8 rfl;have d9:=h.1.at 9 rfl;have d10:=h.1.at 10 rfl;have e0:=h.2.e8;go_simp;try with_reducible rfl) ?_
 try simp only [Act.put,pa,pb,pc]
 refine tk 8 14 rfl _ hH (by intro w' h;have d8:=h.1.at 8 rfl;have d9:=h.1.at 9 rfl;have d10:=h.1.at 10 rfl;have e0:=h.2.e8;go_simp;try with_reducible rfl) ?_
 try simp only [Act.put,pa,pb,pc]
 refine tk 9 15 rfl _ hH (by intro w' h;have d8:=h.1.at 8 rfl;have d9:=h.1.at 9 rfl;have d10:=h.1.at 10 rfl;have e0:=h.2.e8;go_simp;try with_reducible rfl) ?_
 try simp only [Act.put,pa,pb,pc]
 refine tk 10 16 rfl _ hH (by intro w' h;have d8:=h.1.at 8 rfl;have d9:=h.1.at 9 rfl;have d10:=h.1.at 10 rfl;have e0:=h.2.e8;go_simp;try with_reducible rfl) ?_
 try simp only [Act.put,pa,pb,pc]
 refine tk 11 17 rfl _ hH (by intro w' h;have d8:=h.1.at 8 rfl;have d9:=h.1.at 9 rfl;have d10:=h.1.at 10 rfl;have e0:=h.2.e8;go_simp;try with_reducible rfl) ?_
 try simp only [Act.put,pa,pb,pc]
 refine tk 12 18 rfl _ hH (by intro w' h;have d8:=h.1.at 8 rfl;have d9:=h.1.at 9 rfl;have d10:=h.1.at 10 rfl;have e0:=h.2.e8;go_simp;try with_reducible rfl) ?_
 try simp only [Act.put,pa,pb,pc]
 refine tk 13 19 rfl _ hH (by intro w' h;have d8:=h.1.at 8 rfl;have d9:=h.1.at 9 rfl;have d10:=h.1.at 10 rfl;have e0:=h.2.e8;go_simp;try with_reducible rfl) ?_
 try simp only [Act.put,pa,pb,pc]
 refine tk 14 20 rfl _ hH (by intro w' h;have d8:=h.1.at 8 rfl;have d9:=h.1.at 9 rfl;have d10:=h.1.at 10 rfl;have e0:=h.2.e8;go_simp;try with_reducible rfl) ?_
 try simp only [Act.put,pa,pb,pc]
 refine tk 15 21 rfl _ hH (by intro w' h;have d8:=h.1.at 8 rfl;have d9:=h.1.at 9 rfl;have d10:=h.1.at 10 rfl;have e0:=h.2.e8;go_simp;try with_reducible rfl) ?_
 try simp only [Act.put,pa,pb,pc]
 refine tk 16 22 rfl _ hH (by intro w' h;have d8:=h.1.at 8 rfl;have d9:=h.1.at 9 rfl;have d10:=h.1.at 10 rfl;have e0:=h.2.e8;go_simp;try with_reducible rfl) ?_
 try simp only [Act.put,pa,pb,pc]
 refine tk 17 23 rfl _ hH (by intro w' h;have d8:=h.1.at 8 rfl;have d9:=h.1.at 9 rfl;have d10:=h.1.at 10 rfl;have e0:=h.2.e8;go_simp;try with_reducible rfl) ?_
 try simp only [Act.put,pa,pb,pc]
 refine tk 18 24 rfl _ hH (by intro w' h;have d8:=h.1.at 8 rfl;have d9:=h.1.at 9 rfl;have d10:=h.1.at 10 rfl;have e0:=h.2.e8;go_simp;try with_reducible rfl) ?_
 try simp only [Act.put,pa,pb,pc]
 obtain ⟨v1,hv1⟩:∃ v,(W2.drew).alloc (.cells #[I 3,I nonce] 3)=v:=⟨_,rfl⟩
 have XA:Below (W2.drew).heap.size (W2.drew) v1:=by rw [← hv1];exact (Below.refl _ _).alloc (Nat.le_refl _) _
 have TN:=TC.later XA (by have:=ZC.out;omega)
 have UN:=UC.later XA (by have:=ZC.out;omega)
 have ZN:Hid (w.heap.size+2≤v1.heap.size):=Nat.le_trans ZC.out XA.size
 have BN:=BC.trans (XA.mono BC.size)
 have RPN:=RowAt.later RP XA
 have RVN:=RowAt.later RV XA
 have RAN:RowAt (Value.int .i64) v1 (some ⟨(W2.drew).heap.size,0,none⟩) [3,nonce]:=by rw [← hv1];exact row_new (Value.int .i64) (W2.drew) [3,nonce] 3
 refine wpAnyH_ready (rs:=[2]) (by kernel_rfl) (by simp) ?_
 refine AllReadyH.cons (i:=2) rfl (fun K hK=>?_) AllReadyH.nil
 go_simp
 refine hK.out _ _ (by (try rw [hv1]);exact ⟨TN,UN⟩) (fun hJ=>?_)
 clear hK K hH
 have hH:=hJ
 clear hJ
 try simp only [Act.put,pa,pb,pc]
 clear TC UC ZC BC RP RV
 have TC:=TN
 have UC:=UN
 have ZC:=ZN
 have BC:=BN
 have RP:=RPN
 have RV:=RVN
 clear TN UN ZN BN RPN RVN
 have RA:=RAN
 clear RAN XA
 try rw [hv1]
 clear hv1
 refine wpAnyH_ready (rs:=[3]) (by kernel_rfl) (by simp) ?_
 refine AllReadyH.cons (i:=3) rfl (fun K hK=>?_) AllReadyH.nil
 go_simp
 refine (impl_nums _ 2 [3,nonce] _ RA (by simp)).mono ?_
 rintro en v2 ⟨rfl,hv2⟩
 have TN:=TC.later hv2 (by have:=ZC.out;omega)
 have UN:=UC.later hv2 (by have:=ZC.out;omega)
 have ZN:Hid (w.heap.size+2≤v2.heap.size):=Nat.le_trans ZC.out hv2.size
 have BN:=BC.trans (hv2.mono BC.size)
 have RPN:=RowAt.later RP hv2
 have RVN:=RowAt.later RV hv2
 have RAN:=RowAt.later RA hv2
 clear TC UC ZC BC RP RV RA
 have TC:=TN
 have UC:=UN
 have ZC:=ZN
 have BC:=BN
 have RP:=RPN
 have RV:=RVN
 have RA:=RAN
 clear TN UN ZN BN RPN RVN RAN
 clear hv2
 go_wp2_with fail
 refine hK.out _ _ ⟨TC,UC⟩ (fun hJ=>?_)
 clear hK K hH
 have hH:=hJ
 clear hJ
 try simp only [Act.put,pa,pb,pc]
 clear RA
 refine wpAnyH_ready (rs:=[7]) (by kernel_rfl) (by simp) ?_
 refine AllReadyH.cons (i:=7) rfl (fun K hK=>?_) AllReadyH.nil
 go_simp
 refine (implShowT_is cl sv key a b e pa P pc va V vc fk _ hsv RP RV hP hV).mono ?_
 rintro en v3 ⟨rfl,hv3⟩
 have TN:=TC.later hv3 (by have:=ZC.out;omega)
 have UN:=UC.later hv3 (by have:=ZC.out;omega)
 have ZN:Hid (w.heap.size+2≤v3.heap.size):=Nat.le_trans ZC.out hv3.size
 have BN:=BC.trans (hv3.mono BC.size)
 have RPN:=RowAt.later RP hv3
 have RVN:=RowAt.later RV hv3
 clear TC UC ZC BC RP RV
 have TC:=TN
 have UC:=UN
 have ZC:=ZN
 have BC:=BN
 have RP:=RPN
 have RV:=RVN
 clear TN UN ZN BN RPN RVN
 clear hv3
 go_wp2_with fail
 refine hK.out _ _ ⟨TC,UC⟩ (fun hJ=>?_)
 clear hK K hH
 have hH:=hJ
 clear hJ
 try simp only [Act.put,pa,pb,pc]
 refine wpAnyH_ready (rs:=[19]) (by kernel_rfl) (by simp) ?_
 refine AllReadyH.cons (i:=19) rfl (fun K hK=>?_) AllReadyH.nil
 go_simp
 refine (implShowG_is key sv nonce a b e bk _ hsv).mono ?_
 rintro en v4 ⟨rfl,hv4⟩
 have TN:=TC.later hv4 (by have:=ZC.out;omega)
 have UN:=UC.later hv4 (by have:=ZC.out;omega)
 have ZN:Hid (w.heap.size+2≤v4.heap.size):=Nat.le_trans ZC.out hv4.size
 have BN:=BC.trans (hv4.mono BC.size)
 have RPN:=RowAt.later RP hv4
 have RVN:=RowAt.later RV hv4
 clear TC UC ZC BC RP RV
 have TC:=TN
 have UC:=UN
 have ZC:=ZN
 have BC:=BN
 have RP:=RPN
 have RV:=RVN
 clear TN UN ZN BN RPN RVN
 clear hv4
 go_wp2_with fail
 refine hK.out _ _ ⟨TC,UC⟩ (fun hJ=>?_)
 clear hK K hH
 have hH:=hJ
 clear hJ
 try simp only [Act.put,pa,pb,pc]
 obtain ⟨v5,hv5⟩:∃ v,(v4).alloc (.cells #[.string (numsT [3,nonce]),.string (shT cl sv key a b e P V fk),.string (shG key sv nonce a b e bk)] 9)=v:=⟨_,rfl⟩
 have XA:Below (v4).heap.size (v4) v5:=by rw [← hv5];exact (Below.refl _ _).alloc (Nat.le_refl _) _
 have TN:=TC.later XA (by have:=ZC.out;omega)
 have UN:=UC.later XA (by have:=ZC.out;omega)
 have ZN:Hid (w.heap.size+2≤v5.heap.size):=Nat.le_trans ZC.out XA.size
 have BN:=BC.trans (XA.mono BC.size)
 have RPN:=RowAt.later RP XA
 have RVN:=RowAt.later RV XA
 have RLN:RowAt Value.string v5 (some ⟨(v4).heap.size,0,none⟩) [numsT [3,nonce],shT cl sv key a b e P V fk,shG key sv nonce a b e bk]:=by rw [← hv5];exact row_new Value.string (v4) [numsT [3,nonce],shT cl sv key a b e P V fk,shG key sv nonce a b e bk] 9
 refine wpAnyH_ready (rs:=[20]) (by kernel_rfl) (by simp) ?_
 refine AllReadyH.cons (i:=20) rfl (fun K hK=>?_) AllReadyH.nil
 go_simp
 refine hK.out _ _ (by (try rw [hv5]);exact ⟨TN,UN⟩) (fun hJ=>?_)
 clear hK K hH
 have hH:=hJ
 clear hJ
 try simp only [Act.put,pa,pb,pc]
 clear TC UC ZC BC RP RV
 have TC:=TN
 have UC:=UN
 have ZC:=ZN
 have BC:=BN
 have RP:=RPN
 have RV:=RVN
 clear TN UN ZN BN RPN RVN
 have RL:=RLN
 clear RLN XA
 try rw [hv5]
 clear hv5
 refine wpAnyH_ready (rs:=[21]) (by kernel_rfl) (by simp) ?_
 refine AllReadyH.cons (i:=21) rfl (fun K hK=>?_) AllReadyH.nil
 go_simp
 refine (impl_list _ 3 [numsT [3,nonce],shT cl sv key a b e P V fk,shG key sv nonce a b e bk] _ RL (by simp) (by simp) (by intro x hx;simp only [List.mem_cons,List.not_mem_nil,or_false] at hx;rcases hx with rfl | rfl | rfl;exact Nat.le_trans (listT_size _) (by omega);exact Nat.le_trans (shT_size cl sv key a b e P V fk) (by omega);exact Nat.le_trans (shG_size key sv nonce a b e bk) (by omega))).mono ?_
 rintro en v6 ⟨rfl,hv6⟩
 have TN:=TC.later hv6 (by have:=ZC.out;omega)
 have UN:=UC.later hv6 (by have:=ZC.out;omega)
 have ZN:Hid (w.heap.size+2≤v6.heap.size):=Nat.le_trans ZC.out hv6.size
 have BN:=BC.trans (hv6.mono BC.size)
 have RPN:=RowAt.later RP hv6
 have RVN:=RowAt.later RV hv6
 have RLN:=RowAt.later RL hv6
 clear TC UC ZC BC RP RV RL
 have TC:=TN
 have UC:=UN
 have ZC:=ZN
 have BC:=BN
 have RP:=RPN
 have RV:=RVN
 have RL:=RLN
 clear TN UN ZN BN RPN RVN RLN
 clear hv6
 go_wp2_with fail
 refine hK.out _ _ ⟨TC,UC⟩ (fun hJ=>?_)
 clear hK K hH
 have hH:=hJ
 clear hJ
 try simp only [Act.put,pa,pb,pc]
 clear RL
 refine tk 22 2 rfl _ hH (by intro w' h;have d8:=h.1.at 8 rfl;have d9:=h.1.at 9 rfl;have d10:=h.1.at 10 rfl;have e0:=h.2.e8;go_simp;try with_reducible rfl) ?_
 try simp only [Act.put,pa,pb,pc]
 refine wpAnyH_done (by kernel_rfl) ?_ _
 go_wp2
 go_ret
 exact ⟨rfl,BC⟩
theorem as_hit' (c:Int) (g:Nat) (w:World) (hg:w.cell? ⟨0,0,none⟩=some (.iface 178 (.agg #[.pointer (some ⟨2,75,none⟩)]))) (T:Blk g [I 0] w) :
  Calls Tryz.prog 63 #[refV c,.iface 120 (.pointer (some ⟨g,0,none⟩))] w fun en w'=>en=.returned (.bool true)∧Blk g [I c] w'∧(∀ q vs,q < w.heap.size→q≠g→Blk q vs w→Blk q vs w')∧(∀ m W,m≤g→Below m W w→Below m W w'):=by
 have hgl:=T.lt
 refine (as_hit c ⟨g,0,none⟩ (I 0) w hg (T.at 0 rfl) (T.fz 0 rfl)).mono ?_
 rintro en w' ⟨rfl,rfl⟩
 refine ⟨rfl,?_,?_,?_⟩
 ·exact Blk.set (vs:=[I 0]) ((((T.alloc hgl _).alloc (by simp <;> omega) _).alloc (by simp <;> omega) _).alloc (by simp <;> omega) _) 0 (I c)
 ·intro q vs hq hne h
  exact ((((h.alloc hq _).alloc (by simp <;> omega) _).alloc (by simp <;> omega) _).alloc (by simp <;> omega) _).far (fun e=>hne e.symm) 0 _
 ·intro m W hm h
  have hs:=Nat.le_of_lt (Nat.lt_of_le_of_lt hm hgl)
  exact ((((h.alloc hs _).alloc (by simp <;> omega) _).alloc (by simp <;> omega) _).alloc (by simp <;> omega) _).setCell (by exact hm) _
set_option maxHeartbeats 6400000 in
theorem reply_err (c:Cf) (realm now fresh code:Int) (w:World) (hg:w.cell? ⟨0,0,none⟩=some (.iface 178 (.agg #[.pointer (some ⟨2,75,none⟩)]))) :
  Calls Tryz.prog 28 #[cenV c realm now fresh,gZ,refV code] w fun en w'=>en=.returned (failR code).val∧Below w.heap.size w w':=by
 obtain ⟨ie,hie,hsz⟩:=info_reply
 obtain ⟨W4,hW4⟩:∃ W4,(((w.alloc (.cells #[.slice c.ua c.U.length c.uc,.slice c.sa c.S.length c.sc,.slice c.la c.L.length c.lc,.slice c.xa c.X.length c.xc,I c.k,I realm,I now,I fresh] 70)).alloc (.cells #[I 0,I 0,I 0,I 0,I 0,I 0,.slice none 0 0,.slice none 0 0,I 0,I 0,I 0,I 0,I 0,I 0,I 0,I 0,I 0,I 0,I 0,I 0,I 0,I 0] 73)).alloc (.cells #[I 0,.string ⟨#[]⟩,I 0,I 0,I 0,I 0,I 0,I 0,I 0,I 0,I 0,I 0,I 0] 35)).alloc (.cells #[I 0] 118)=W4:=⟨_,rfl⟩
 have BC:Below w.heap.size w W4:=by rw [← hW4];exact ((((Below.refl _ _).alloc (Nat.le_refl _) _).alloc (by simp) _).alloc (by simp <;> omega) _).alloc (by simp <;> omega) _
 have TC:Blk w.heap.size [.slice c.ua c.U.length c.uc,.slice c.sa c.S.length c.sc,.slice c.la c.L.length c.lc,.slice c.xa c.X.length c.xc,I c.k,I realm,I now,I fresh] W4:=by rw [← hW4];exact (((Blk.new w #[.slice c.ua c.U.length c.uc,.slice c.sa c.S.length c.sc,.slice c.la c.L.length c.lc,.slice c.xa c.X.length c.xc,I c.k,I realm,I now,I fresh] _).alloc (by simp) _).alloc (by simp <;> omega) _).alloc (by simp <;> omega) _
 have QC:Blk (w.heap.size+1) [I 0,I 0,I 0,I 0,I 0,I 0,.slice none 0 0,.slice none 0 0,I 0,I 0,I 0,I 0,I 0,I 0,I 0,I 0,I 0,I 0,I 0,I 0,I 0,I 0] W4:=by rw [← hW4];have:=((Blk.new (w.alloc (.cells #[.slice c.ua c.U.length c.uc,.slice c.sa c.S.length c.sc,.slice c.la c.L.length c.lc,.slice c.xa c.X.length c.xc,I c.k,I realm,I now,I fresh] 70)) #[I 0,I 0,I 0,I 0,I 0,I 0,.slice none 0 0,.slice none 0 0,I 0,I 0,I 0,I 0,I 0,I 0,I 0,I 0,I 0,I 0,I 0,I 0,I 0,I 0] 73).alloc (by simp) (.cells #[I 0,.string ⟨#[]⟩,I 0,I 0,I 0,I 0,I 0,I 0,I 0,I 0,I 0,I 0,I 0] 35)).alloc (by simp <;> omega) (.cells #[I 0] 118);simpa using this
 have UC:Blk (w.heap.size+2) [I 0,.string ⟨#[]⟩,I 0,I 0,I 0,I 0,I 0,I 0,I 0,I 0,I 0,I 0,I 0] W4:=by rw [← hW4];have:=(Blk.new ((w.alloc (.cells #[.slice c.ua c.U.length c.uc,.slice c.sa c.S.length c.sc,.slice c.la c.L.length c.lc,.slice c.xa c.X.length c.xc,I c.k,I realm,I now,I fresh] 70)).alloc (.cells #[I 0,I 0,I 0,I 0,I 0,I 0,.slice none 0 0,.slice none 0 0,I 0,I 0,I 0,I 0,I 0,I 0,I 0,I 0,I 0,I 0,I 0,I 0,I 0,I 0] 73)) #[I 0,.string ⟨#[]⟩,I 0,I 0,I 0,I 0,I 0,I 0,I 0,I 0,I 0,I 0,I 0] 35).alloc (by simp) (.cells #[I 0] 118);simpa using this
 have NC:Blk (w.heap.size+3) [I 0] W4:=by rw [← hW4];have:=Blk.new (((w.alloc (.cells #[.slice c.ua c.U.length c.uc,.slice c.sa c.S.length c.sc,.slice c.la c.L.length c.lc,.slice c.xa c.X.length c.xc,I c.k,I realm,I now,I fresh] 70)).alloc (.cells #[I 0,I 0,I 0,I 0,I 0,I 0,.slice none 0 0,.slice none 0 0,I 0,I 0,I 0,I 0,I 0,I 0,I 0,I 0,I 0,I 0,I 0,I 0,I 0,I 0] 73)).alloc (.cells #[I 0,.string ⟨#[]⟩,I 0,I 0,I 0,I 0,I 0,I 0,I 0,I 0,I 0,I 0,I 0] 35)) #[I 0] 118;simpa using this
 have hlt:0 < w.heap.size:=World.block_lt_of_cell? w _ hg
 have hg4:=(BC.cell (p:=⟨0,0,none⟩) hlt).trans hg
 have HX:=as_hit' code (w.heap.size+3) W4 hg4 NC
 have hz4:w.heap.size+4≤W4.heap.size:=by rw [← hW4];simp
 unfold gZ
 go_enter Tryz.func28,Tryz.ntmps28
 go_wp2_with fail
 try rw [hW4]
 refine HX.mono ?_
 clear HX hW4
 rintro en w5 ⟨rfl,N5,K5,L5⟩
 replace UC:=K5 _ _ (by omega) (by omega) UC
 replace BC:=L5 _ _ (by omega) BC
 clear K5 L5 TC QC NC hg4 hz4 hlt hg
 have n0:=N5.at 0 rfl
 have FU:=UC.sets [I code,.string ⟨#[]⟩,I 0,I 0,I 0,I 0,I 0,I 0,I 0,I 0,I 0,I 0,I 0] rfl
 have FB:=below_sets (m:=w.heap.size) (g:=w.heap.size+2) (by omega) [I code,.string ⟨#[]⟩,I 0,I 0,I 0,I 0,I 0,I 0,I 0,I 0,I 0,I 0,I 0] 0 _ BC
 go_wp2_with (refine wpList_stB 35 _ _ (w.heap.size+2) 0 [I 0,.string ⟨#[]⟩,I 0,I 0,I 0,I 0,I 0,I 0,I 0,I 0,I 0,I 0,I 0] [I code,.string ⟨#[]⟩,I 0,I 0,I 0,I 0,I 0,I 0,I 0,I 0,I 0,I 0,I 0] ie hie UC (by rw [hsz];rfl) (by simp) rfl rfl rfl rfl rfl ?_;try simp only [Act.put])
 exact bodyPost_ret (res_B1 rfl _ _ (w.heap.size+2) _ ie hie ag35 FU (by rw [hsz];rfl) rfl) rfl ⟨rfl,FB⟩
end Go.Proofs.YtcaieniddnhkbaaGreatDoor
