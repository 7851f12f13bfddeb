/- Plain mathematics: round trips of sealed terms, lists, atoms, numbers. -/
import Derived.Test.YtcaieniddnhkbaaGreatDoorReadNums
import Derived.Test.YtcaieniddnhkbaaGreatDoorAb
import Derived.Test.YtcaieniddnhkbaaGreatDoorWalks
import Derived.Test.YtcaieniddnhkbaaGreatDoorNums
import Derived.Test.YtcaieniddnhkbaaGreatDoorFaces2
set_option linter.unusedVariables false
namespace Go.Proofs.YtcaieniddnhkbaaGreatDoor
open Go.RowKit Own Var Term
theorem okOr_full {s:ByteArray} (h:(okOr s).size ≠ 0):isT s=true∧okOr s=s:=by
 rcases Bool.eq_false_or_eq_true (isT s) with hT | hT
 ·exact ⟨hT,okOr_yes hT⟩
 ·rw [okOr_no hT] at h;exact absurd rfl h
theorem isT_nil:isT ⟨#[]⟩=false:=by
 rw [← Bool.not_eq_true,isT_iff]
 intro h
 have:=not_empty h
 have e:(⟨#[]⟩:ByteArray).size=0:=rfl
 omega
theorem rk_nil (kind:Nat):rk ⟨#[]⟩ kind=none:=rk_no (fun c=>by have:=(isT_iff _).2 c.1;rw [isT_nil] at this;cases this)
theorem rk_made {c:UInt8} {n kind:Nat} {t:ByteArray} (hn:n ≤ 562949953421311) (h:isT (hdT c n ++ t)=true) (hc:c.toNat=kind):rk (hdT c n ++ t) kind=some (n,t):=by
 have hI:=(isT_iff _).1 h
 rw [rk_yes hI (by rw [at_one];exact hc)]
 obtain ⟨m,r,hcut⟩:=hI.cut
 have hm:=cut_made c n hn t
 rw [hcut] at hm
 by_cases hk:hdOk c.toNat n=true
 ·rw [if_pos hk] at hm;rw [hcut,hm]
 ·rw [if_neg hk] at hm;cases hm
theorem seal_trip (k:Int) (t:ByteArray) (h:(sealT k t).size ≠ 0):openR (sealT k t) k=(t,true)∧(openR (sealT k t) (k + 1)).2=false∧isT (sealT k t)=true:=by
 unfold sealT at h ⊢
 by_cases hk:1 ≤ k∧k ≤ 1000000
 ·rw [if_pos hk] at h ⊢
  obtain ⟨hT,e⟩:=okOr_full h
  rw [e]
  obtain ⟨n,rfl⟩:=Int.eq_ofNat_of_zero_le (by omega:0 ≤ k)
  have hr:=rk_made (kind:=115) (by omega) hT rfl
  unfold openR
  rw [hr]
  refine ⟨by simp,?_,hT⟩
  have:¬ ((n:Int)=(n:Int) + 1):=by omega
  simp only [this,if_false]
 ·rw [if_neg hk] at h;exact absurd rfl h
theorem cat_cons (x:ByteArray) (xs:List ByteArray):cat (x :: xs)=x ++ cat xs:=by
 apply ext_list;rw [data_append,cat_list,cat_list];simp
theorem ext_app (a b:ByteArray):(a ++ b).extract 0 a.size=a:=by
 apply ext_list;rw [extract_list,data_append,List.drop_zero,Nat.sub_zero,size_list,List.take_left]
theorem psL_cat (xs:List ByteArray) (h:∀ x ∈ xs,isT x=true):psL xs.length (cat xs)=xs:=by
 induction xs with
 | nil=>rfl
 | cons x xs ih =>
  have hx:=isT_app (h x (List.mem_cons_self ..)) (cat xs)
  rw [cat_cons,List.length_cons,psL_succ hx,ih (fun y hy=>h y (List.mem_cons_of_mem _ hy))]
  have:(x ++ cat xs).size - (cat xs).size=x.size:=by rw [ByteArray.size_append];omega
  rw [this,ext_app]
theorem list_trip (xs:List ByteArray):partsR (listT xs)=if (listT xs).size=0 then ([],false) else (xs,true):=by
 by_cases h:(listT xs).size=0
 ·rw [if_pos h,empty_of _ h]
  unfold partsR;rw [rk_nil]
 ·rw [if_neg h]
  unfold listT at h ⊢
  by_cases hc:xs.length ≤ 12∧xs.all isT=true
  ·rw [if_pos hc] at h ⊢
   obtain ⟨hT,e⟩:=okOr_full h
   rw [e]
   have hr:=rk_made (kind:=108) (by omega) hT rfl
   unfold partsR
   rw [hr]
   show (psL xs.length (cat xs),true)=(xs,true)
   rw [psL_cat xs (List.all_eq_true.1 hc.2)]
  ·rw [if_neg hc] at h;exact absurd rfl h
theorem suf_all (d:ByteArray):suf d d.size=⟨#[]⟩:=by apply empty_of;rw [suf_size];omega
theorem atom_isT (d:ByteArray) (h:d.size ≤ 40):isT (hdT 97 d.size ++ d)=true:=by
 rw [isT_iff]
 have hc:=cut_made 97 d.size (by omega) d
 rw [if_pos (by simp [hdOk];omega)] at hc
 have hx:at_ (hdT 97 d.size ++ d) 0=97:=at_one 97 d.size d
 refine ⟨?_,suf d d.size,?_,by rw [suf_all];rfl⟩
 ·rw [ByteArray.size_append,hdT_size];have:=varOf_size (d.size:Int);omega
 ·rw [bh_some hc,if_pos hx,if_pos (Nat.le_refl _)]
theorem atom_trip (d:ByteArray) (h:d.size ≤ 1048576):atomR (atomT d)=if d.size ≤ 40 then (d,true) else (⟨#[]⟩,false):=by
 by_cases h4:d.size ≤ 40
 ·rw [if_pos h4]
  have hT:=atom_isT d h4
  unfold atomT
  rw [okOr_yes hT]
  unfold atomR
  rw [rk_made (kind:=97) (by omega) hT rfl]
 ·rw [if_neg h4,atomT_big d (by omega) h]
  unfold atomR;rw [rk_nil]
theorem num_trip (z:Int) (h:isT (numT z)=true):numR (numT z)=(z,true):=by
 have hz:(varOf z).size ≠ 0:=by
  intro h0
  unfold numT at h
  rw [if_pos h0,isT_nil] at h
  cases h
 have hr:0 ≤ z∧z ≤ 562949953421311:=by
  by_cases c:0 ≤ z∧z ≤ 562949953421311
  ·exact c
  ·rw [varOf_no z c] at hz;exact absurd rfl hz
 have hv:=varOf_size z
 have e:numT z=atomT (varOf z):=by unfold numT;rw [if_neg hz]
 have ha:=atom_trip (varOf z) (by omega)
 rw [if_pos (by omega)] at ha
 obtain ⟨n,rfl⟩:=Int.eq_ofNat_of_zero_le hr.1
 have hm:=rv_made n (by omega) ⟨#[]⟩
 rw [app_nil] at hm
 unfold numR
 rw [e,ha]
 have h1:1 ≤ (varOf (n:Int)).size:=by omega
 simp [hm.1,hm.2,h1]
theorem nums_trip (zs:List Int):numsR (numsT zs)=if (numsT zs).size=0 then ([],false) else (zs,true):=by
 have hp:=list_trip (zs.map numT)
 unfold numsR numsT
 rw [hp]
 by_cases h:(listT (zs.map numT)).size=0
 ·rw [if_pos h,if_pos h];rfl
 ·rw [if_neg h,if_neg h]
  have hall:∀ x ∈ zs.map numT,isT x=true:=by
   unfold listT at h
   by_cases hc:(zs.map numT).length ≤ 12∧(zs.map numT).all isT=true
   ·exact List.all_eq_true.1 hc.2
   ·rw [if_neg hc] at h;exact absurd rfl h
  have hz:∀ z ∈ zs,numR (numT z)=(z,true):=fun z hz=>num_trip z (hall _ (List.mem_map.2 ⟨z,hz,rfl⟩))
  unfold numsP
  rw [if_pos]
  ·congr 1
   rw [List.map_map]
   have:∀ z ∈ zs,((fun x=>(numR x).1) ∘ numT) z=z:=fun z h=>by simp only [Function.comp,hz z h]
   rw [List.map_congr_left this,List.map_id']
  ·rw [Bool.true_and,List.all_eq_true]
   intro x hx
   obtain ⟨z,hz',rfl⟩:=List.mem_map.1 hx
   rw [hz z hz']
/-! What a reader takes its maker makes. -/
theorem key_back (s:ByteArray) (h:(keyR s).2=true):keyT (keyR s).1=s:=by
 unfold keyR at h ⊢
 cases hr:rk s 107 with
 | none=>rw [hr] at h;cases h
 | some q =>
  obtain ⟨n,r⟩:=q
  obtain ⟨hT,_,hk,hc,_,_⟩:=rk_facts hr
  obtain ⟨c,e,hok,hat,hn⟩:=cut_form hc
  obtain ⟨_,r',hb,hr0⟩:=(isT_iff s).1 hT
  rw [bh_some hc,if_neg (by omega),if_neg (by omega),if_neg (by omega),Option.some.injEq] at hb
  subst hb
  have hc107:c.toNat=107:=by omega
  have ec:c=107:=by apply UInt8.toNat_inj.1;rw [hc107];rfl
  subst ec
  rw [empty_of r hr0,app_nil] at e
  rw [hc107] at hok
  have hn2:1 ≤ n∧n ≤ 1000000:=by simpa [hdOk] using hok
  show keyT (n:Int)=s
  unfold keyT
  rw [if_pos (by omega),e]
theorem seal_back (s:ByteArray) (i:Int) (h:(openR s i).2=true):sealT i (openR s i).1=s:=by
 unfold openR at h ⊢
 cases hr:rk s 115 with
 | none=>rw [hr] at h;cases h
 | some q =>
  obtain ⟨n,t⟩:=q
  rw [hr] at h
  simp only at h ⊢
  by_cases hni:(n:Int)=i
  ·rw [if_pos hni]
   obtain ⟨hT,_,hk,hc,_,_⟩:=rk_facts hr
   obtain ⟨c,e,hok,hat,hn⟩:=cut_form hc
   have hc115:c.toNat=115:=by omega
   have ec:c=115:=by apply UInt8.toNat_inj.1;rw [hc115];rfl
   subst ec
   rw [hc115] at hok
   have hn2:1 ≤ n∧n ≤ 1000000:=by simpa [hdOk] using hok
   subst hni
   unfold sealT
   rw [if_pos (by omega),← e,okOr_yes hT]
  ·rw [if_neg hni] at h;cases h
theorem psL_back (n:Nat):∀ r E,rep (bh 7) n r=some E → cat (psL n r) ++ E=r∧∀ x ∈ psL n r,bh 8 x=some ⟨#[]⟩:=by
 induction n with
 | zero =>
  intro r E h
  simp only [rep,Option.some.injEq] at h
  subst h
  exact ⟨by rw [psL,cat_nil,nil_app],fun x hx=>by simp [psL] at hx⟩
 | succ n ih =>
  intro r E h
  obtain ⟨r',h1,h2⟩:=rep_succ h
  have h8:=bh_mono 7 r r' h1
  obtain ⟨p,e,q⟩:=bh_pre 8 r r' h8
  obtain ⟨i1,i2⟩:=ih r' E h2
  have hp:r.extract 0 (r.size - r'.size)=p:=by
   rw [e,ByteArray.size_append,(by omega:p.size + r'.size - r'.size=p.size),ext_app]
  rw [psL_succ h8,hp]
  refine ⟨by rw [cat_cons,app_assoc,i1,← e],fun x hx=>?_⟩
  rcases List.mem_cons.1 hx with rfl | hx
  ·have:=q ⟨#[]⟩
   rwa [app_nil] at this
  ·exact i2 x hx
theorem list_back (s:ByteArray) (h:(partsR s).2=true):listT (partsR s).1=s:=by
 have hsz:=parts_size s
 unfold partsR at h hsz ⊢
 cases hr:rk s 108 with
 | none=>rw [hr] at h;cases h
 | some q =>
  obtain ⟨n,r⟩:=q
  rw [hr] at hsz
  simp only at hsz ⊢
  obtain ⟨hT,_,hk,hc,_,_⟩:=rk_facts hr
  obtain ⟨c,e,hok,hat,hn⟩:=cut_form hc
  have hc108:c.toNat=108:=by omega
  have ec:c=108:=by apply UInt8.toNat_inj.1;rw [hc108];rfl
  subst ec
  rw [hc108] at hok
  have hn2:n ≤ 12:=by simpa [hdOk] using hok
  obtain ⟨_,E,hb,hE0⟩:=(isT_iff s).1 hT
  rw [bh_some hc,if_neg (by omega),if_pos hk] at hb
  obtain ⟨b1,b2⟩:=psL_back n r E hb
  rw [empty_of E hE0,app_nil] at b1
  have hl:=psL_len n r E hb
  have hall:(psL n r).all isT=true:=by
   rw [List.all_eq_true]
   intro x hx
   exact (isT_iff x).2 ⟨hsz x hx,_,b2 x hx,rfl⟩
  unfold listT
  rw [hl,if_pos ⟨hn2,hall⟩,b1,← e,okOr_yes hT]
/-! One kind at most. -/
theorem seal_kind (s:ByteArray) (i:Int) (h:(openR s i).2=true):isT s=true∧at_ s 0=115:=by
 unfold openR at h
 cases hr:rk s 115 with
 | none=>rw [hr] at h;cases h
 | some q=>obtain ⟨hT,_,hk,_⟩:=rk_facts (r:=q.2) (n:=q.1) hr;exact ⟨hT,hk⟩
end Go.Proofs.YtcaieniddnhkbaaGreatDoor
set_option linter.unusedVariables false
namespace Go.Proofs.YtcaieniddnhkbaaGreatDoor
open Go.RowKit Own Var Term
/-- What a rest is shown as. -/
def shR (a b c:Int):ByteArray:=if rOk a b c then numsT [a,b,c] else ⟨#[]⟩
theorem row3 (w:World) (a b c:Int):RowAt (Value.int .i64) (w.alloc (.cells #[I a,I b,I c] 3)) (some ⟨w.heap.size,0,none⟩) [a,b,c]:=by
 intro j hj
 simp only [List.length_cons,List.length_nil] at hj
 refine ⟨w.heap.size,0,rfl,by simp,?_⟩
 have:j=0 ∨ j=1 ∨ j=2:=by omega
 rcases this with rfl | rfl | rfl <;> simp [go_sem]
set_option maxRecDepth 100000 in
set_option maxHeartbeats 1600000 in
theorem specShow_is (a b c:Int) (w:World):Calls Tryz.prog 91 #[rv a b c] w fun e w'=>e=.returned (.string (shR a b c))∧Below w.heap.size w w':=by
 obtain ⟨W1,hW1⟩:∃ W1,w.alloc (.cells #[I a,I b,I c] 31)=W1:=⟨_,rfl⟩
 have hb0:Below w.heap.size w W1:=by rw [← hW1];exact (Below.refl _ _).alloc (Nat.le_refl _) _
 have Z:w.heap.size + 1 ≤ W1.heap.size:=by rw [← hW1];simp
 have T0:One w.heap.size a b c W1:=by rw [← hW1];constructor <;> simp [go_sem]
 have ZH:=show Hid (w.heap.size + 1 ≤ W1.heap.size) from Z
 clear Z
 obtain ⟨d0,d1,d2⟩:=T0
 go_enter Tryz.func91,Tryz.ntmps91
 go_wp2_with fail
 try rw [hW1]
 refine (specOk_is a b c _).mono ?_
 clear hW1
 rintro e w1 ⟨rfl,hb1⟩
 have T0:One w.heap.size a b c W1:=⟨d0,d1,d2⟩
 clear d0 d1 d2
 obtain ⟨d0,d1,d2⟩:=T0.later hb1 ZH.out
 have B1:=hb0.trans (hb1.mono hb0.size)
 clear T0 ZH
 by_cases h0:rOk a b c=true
 ·rw [h0]
  have X2:=(Below.refl w1.heap.size w1).alloc (Nat.le_refl _) (.cells #[I a,I b,I c] 3)
  have B2:=B1.trans (X2.mono B1.size)
  have HN:=spec_nums (some ⟨w1.heap.size,0,none⟩) 3 [a,b,c] _ (row3 w1 a b c) (by simp)
  go_wp2_with fail
  refine HN.mono ?_
  rintro e w3 ⟨rfl,hb3⟩
  have B3:=B2.trans (hb3.mono B2.size)
  clear HN d0 d1 d2
  go_wp2
  go_ret
  exact ⟨by unfold shR;rw [h0];rfl,B3⟩
 ·rw [Bool.not_eq_true] at h0
  rw [h0]
  go_wp2
  go_ret
  exact ⟨by unfold shR;rw [h0];rfl,B1⟩
set_option maxRecDepth 100000 in
set_option maxHeartbeats 1600000 in
theorem implShow_is (a b c:Int) (w:World):Calls Tryz.prog 170 #[rv a b c] w fun e w'=>e=.returned (.string (shR a b c))∧Below w.heap.size w w':=by
 obtain ⟨W1,hW1⟩:∃ W1,w.alloc (.cells #[I a,I b,I c] 31)=W1:=⟨_,rfl⟩
 have hb0:Below w.heap.size w W1:=by rw [← hW1];exact (Below.refl _ _).alloc (Nat.le_refl _) _
 have Z:w.heap.size + 1 ≤ W1.heap.size:=by rw [← hW1];simp
 have T0:One w.heap.size a b c W1:=by rw [← hW1];constructor <;> simp [go_sem]
 have ZH:=show Hid (w.heap.size + 1 ≤ W1.heap.size) from Z
 clear Z
 obtain ⟨d0,d1,d2⟩:=T0
 go_enter Tryz.func170,Tryz.ntmps170
 go_wp2_with fail
 try rw [hW1]
 refine (right_is a b c _).mono ?_
 clear hW1
 rintro e w1 ⟨rfl,hb1⟩
 have T0:One w.heap.size a b c W1:=⟨d0,d1,d2⟩
 clear d0 d1 d2
 obtain ⟨d0,d1,d2⟩:=T0.later hb1 ZH.out
 have B1:=hb0.trans (hb1.mono hb0.size)
 clear T0 ZH
 by_cases h0:rOk a b c=true
 ·rw [h0]
  have X2:=(Below.refl w1.heap.size w1).alloc (Nat.le_refl _) (.cells #[I a,I b,I c] 3)
  have B2:=B1.trans (X2.mono B1.size)
  have HN:=impl_nums (some ⟨w1.heap.size,0,none⟩) 3 [a,b,c] _ (row3 w1 a b c) (by simp)
  go_wp2_with fail
  refine HN.mono ?_
  rintro e w3 ⟨rfl,hb3⟩
  have B3:=B2.trans (hb3.mono B2.size)
  clear HN d0 d1 d2
  go_wp2
  go_ret
  exact ⟨by unfold shR;rw [h0];rfl,B3⟩
 ·rw [Bool.not_eq_true] at h0
  rw [h0]
  go_wp2
  go_ret
  exact ⟨by unfold shR;rw [h0];rfl,B1⟩
end Go.Proofs.YtcaieniddnhkbaaGreatDoor
set_option linter.unusedVariables false
namespace Go.Proofs.YtcaieniddnhkbaaGreatDoor.Draw
open Go Go.RowKit
/-- A block of three numbers. -/
structure B3 (g:Nat) (x y z:Int) (W:World):Prop where
 c0:W.cell? ⟨g,0,none⟩=some (I x)
 c1:W.cell? ⟨g,1,none⟩=some (I y)
 c2:W.cell? ⟨g,2,none⟩=some (I z)
 f0:W.frozen? ⟨g,0,none⟩=false
 f1:W.frozen? ⟨g,1,none⟩=false
 f2:W.frozen? ⟨g,2,none⟩=false
theorem B3.new (w:World) (x y z:Int) (t:TypeId):B3 w.heap.size x y z (w.alloc (.cells #[I x,I y,I z] t)):=by constructor <;> simp [go_sem]
theorem B3.set0 {g:Nat} {x y z:Int} {W:World} (h:B3 g x y z W) (v:Int):B3 g v y z (W.setCell ⟨g,0,none⟩ (I v)) :=
 ⟨World.cell?_setCell_same' _ _ _ (by rw [h.c0];rfl),by rw [World.cell?_setCell_other _ _ _ _ (by simp)];exact h.c1,by rw [World.cell?_setCell_other _ _ _ _ (by simp)];exact h.c2,by simpa using h.f0,by simpa using h.f1,by simpa using h.f2⟩
theorem B3.set1 {g:Nat} {x y z:Int} {W:World} (h:B3 g x y z W) (v:Int):B3 g x v z (W.setCell ⟨g,1,none⟩ (I v)) :=
 ⟨by rw [World.cell?_setCell_other _ _ _ _ (by simp)];exact h.c0,World.cell?_setCell_same' _ _ _ (by rw [h.c1];rfl),by rw [World.cell?_setCell_other _ _ _ _ (by simp)];exact h.c2,by simpa using h.f0,by simpa using h.f1,by simpa using h.f2⟩
theorem B3.set2 {g:Nat} {x y z:Int} {W:World} (h:B3 g x y z W) (v:Int):B3 g x y v (W.setCell ⟨g,2,none⟩ (I v)) :=
 ⟨by rw [World.cell?_setCell_other _ _ _ _ (by simp)];exact h.c0,by rw [World.cell?_setCell_other _ _ _ _ (by simp)];exact h.c1,World.cell?_setCell_same' _ _ _ (by rw [h.c2];rfl),by simpa using h.f0,by simpa using h.f1,by simpa using h.f2⟩
theorem B3.other {g g':Nat} {x y z:Int} {W:World} (h:B3 g x y z W) (o:Nat) (v:Value) (hn:g' ≠ g):B3 g x y z (W.setCell ⟨g',o,none⟩ v) :=
 ⟨by rw [World.cell?_setCell_other _ _ _ _ (by simp)];exact h.c0,by rw [World.cell?_setCell_other _ _ _ _ (by simp)];exact h.c1,by rw [World.cell?_setCell_other _ _ _ _ (by simp)];exact h.c2,by simpa using h.f0,by simpa using h.f1,by simpa using h.f2⟩
theorem B3.alloc {g:Nat} {x y z:Int} {W:World} (h:B3 g x y z W) (hg:g < W.heap.size) (o:Obj):B3 g x y z (W.alloc o):=by
 have X:=(Below.refl W.heap.size W).alloc (Nat.le_refl _) o
 exact ⟨(X.cell (p:=⟨g,0,none⟩) hg).trans h.c0,(X.cell (p:=⟨g,1,none⟩) hg).trans h.c1,(X.cell (p:=⟨g,2,none⟩) hg).trans h.c2,(X.frozen (p:=⟨g,0,none⟩) hg).trans h.f0,(X.frozen (p:=⟨g,1,none⟩) hg).trans h.f1,(X.frozen (p:=⟨g,2,none⟩) hg).trans h.f2⟩
theorem B3.below {g:Nat} {x y z:Int} {W w:World} (h:B3 g x y z W) (hb:Below W.heap.size W w) (hg:g < W.heap.size):B3 g x y z w :=
 ⟨(hb.cell (p:=⟨g,0,none⟩) hg).trans h.c0,(hb.cell (p:=⟨g,1,none⟩) hg).trans h.c1,(hb.cell (p:=⟨g,2,none⟩) hg).trans h.c2,(hb.frozen (p:=⟨g,0,none⟩) hg).trans h.f0,(hb.frozen (p:=⟨g,1,none⟩) hg).trans h.f1,(hb.frozen (p:=⟨g,2,none⟩) hg).trans h.f2⟩
theorem B3.drew {g:Nat} {x y z:Int} {W:World} (h:B3 g x y z W):B3 g x y z W.drew:=⟨by simpa using h.c0,by simpa using h.c1,by simpa using h.c2,by simpa using h.f0,by simpa using h.f1,by simpa using h.f2⟩
theorem B3.put3 {g:Nat} {x y z:Int} {W:World} (h:B3 g x y z W) (u v t:Int):B3 g u v t (set3 W g (I u) (I v) (I t)):=((h.set0 u).set1 v).set2 t
theorem B3.far {g s:Nat} {x y z:Int} {W:World} (h:B3 g x y z W) (hn:s ≠ g) (u v t:Value):B3 g x y z (set3 W s u v t):=((h.other 0 u hn).other 1 v hn).other 2 t hn
end Go.Proofs.YtcaieniddnhkbaaGreatDoor.Draw
set_option linter.unusedVariables false
namespace Go.Proofs.YtcaieniddnhkbaaGreatDoor
open Go.RowKit Own Var Term
/-- What a text is read as. -/
def rdA (L:List Int):Int:=if L.length=3∧rOk (L.getD 0 0) (L.getD 1 0) (L.getD 2 0)=true then L.getD 0 0 else 0
def rdB (L:List Int):Int:=if L.length=3∧rOk (L.getD 0 0) (L.getD 1 0) (L.getD 2 0)=true then L.getD 1 0 else 0
def rdC (L:List Int):Int:=if L.length=3∧rOk (L.getD 0 0) (L.getD 1 0) (L.getD 2 0)=true then L.getD 2 0 else 0
def rdK (L:List Int):Bool:=decide (L.length=3) && rOk (L.getD 0 0) (L.getD 1 0) (L.getD 2 0)
theorem rd_no {L:List Int} (h:rdK L=false):rdA L=0∧rdB L=0∧rdC L=0:=by
 have:¬ (L.length=3∧rOk (L.getD 0 0) (L.getD 1 0) (L.getD 2 0)=true):=by
  intro k
  unfold rdK at h
  rw [k.2] at h
  simp [k.1] at h
 unfold rdA rdB rdC
 rw [if_neg this,if_neg this,if_neg this]
 exact ⟨rfl,rfl,rfl⟩
theorem nums_len (s:ByteArray) (h:(numsR s).2=false):(numsR s).1=[]:=by
 unfold numsR numsP at h ⊢
 split at h
 ·cases h
 ·rename_i k;rw [if_neg k]
theorem res_3b {fn:Func} {p x:Tmp} (hres:fn.results=#[.cell p 31,.tmp x]) (tmps:Array Value) (w:World) (g:Nat) (v0 v1 v2 u0:Value) (hp:tmps.getD p undef=.pointer (some ⟨g,0,none⟩)) (hx:tmps.getD x undef=u0) (h0:w.cell? ⟨g,0,none⟩=some v0) (h1:w.cell? ⟨g,1,none⟩=some v1) (h2:w.cell? ⟨g,2,none⟩=some v2) :
  (results fn tmps).run Tryz.prog w=.ok (.tuple #[.agg #[v0,v1,v2],u0]) w:=by
 have hp':tmps[p]?.getD undef=.pointer (some ⟨g,0,none⟩):=by simpa using hp
 have hx':tmps[x]?.getD undef=u0:=by simpa using hx
 simp [results,hres,hp',hx',asAddr,go_sem,h0,h1,h2,loadVar,Tryz.isAgg31,Tryz.sizeOf31]
set_option maxRecDepth 100000 in
set_option maxHeartbeats 3200000 in
theorem specRead_is (s:ByteArray) (w:World) (hs:s.size ≤ 1048576):Calls Tryz.prog 15 #[.string s] w fun e w'=>e=.returned (.tuple #[rv (rdA (numsR s).1) (rdB (numsR s).1) (rdC (numsR s).1),.bool (rdK (numsR s).1)])∧Below w.heap.size w w':=by
 obtain ⟨W1,hW1⟩:∃ W1,w.alloc (.cells #[I 0,I 0,I 0] 31)=W1:=⟨_,rfl⟩
 have hb0:Below w.heap.size w W1:=by rw [← hW1];exact (Below.refl _ _).alloc (Nat.le_refl _) _
 have Z:w.heap.size < W1.heap.size:=by rw [← hW1];simp
 have a1:Draw.B3 w.heap.size 0 0 0 W1:=by rw [← hW1];exact Draw.B3.new _ _ _ _ _
 have HN:=nums_len s
 have RN:=spec_readNums s W1 hs
 generalize (numsR s).1=L at RN HN ⊢
 generalize (numsR s).2=t at RN HN
 have FH:Hid (∀ {wl:World} (x y z:Int),Below w.heap.size w wl → Draw.B3 w.heap.size 0 0 0 wl → Below w.heap.size w (set3 wl w.heap.size (I x) (I y) (I z))∧Draw.B3 w.heap.size x y z (set3 wl w.heap.size (I x) (I y) (I z))) :=
  fun x y z hb hB=>⟨set3_below hb (Nat.le_refl _) _ _ _,hB.put3 x y z⟩
 go_enter Tryz.func15,Tryz.ntmps15
 go_wp2_with fail
 try rw [hW1]
 refine RN.mono ?_
 clear hW1 RN
 rintro e w2 ⟨v,rfl,ho,hb2⟩
 obtain ⟨a5,cap5,rfl,hcap,hrow⟩:=own_row ho
 clear ho
 have a2:=a1.below hb2 Z
 have B2:=hb0.trans (hb2.mono hb0.size)
 have Z2:w.heap.size < w2.heap.size:=Nat.lt_of_lt_of_le Z hb2.size
 clear a1 hb0 hb2 Z
 by_cases h3:L.length=3
 ·have ht:t=true:=by
   cases t with
   | true=>rfl
   | false=>rw [HN rfl] at h3;cases h3
  subst ht
  obtain ⟨x,y,z,rfl⟩:∃ x y z,L=[x,y,z]:=by
   match L,h3 with
   | [x,y,z],_=>exact ⟨x,y,z,rfl⟩
  clear HN
  obtain ⟨b5,o5,rfl,l5,q0⟩:=hrow 0 (by simp)
  have Q:∀ j (h:j < [x,y,z].length),w2.cell? ⟨b5,o5 + j,none⟩=some (I [x,y,z][j]):=by
   intro j h
   obtain ⟨b,o,e,_,q⟩:=hrow j h
   simp only [Option.some.injEq,Addr.mk.injEq] at e
   obtain ⟨rfl,rfl,_⟩:=e
   exact q
  have q0:=Q 0 (by simp)
  have q1:=Q 1 (by simp)
  have q2:=Q 2 (by simp)
  simp only [Nat.add_zero,List.getElem_cons_zero,List.getElem_cons_succ] at q0 q1 q2
  clear Q hrow
  have c3:(3:Int) ≤ cap5:=by have:([x,y,z]:List Int).length=3:=rfl;omega
  obtain ⟨W3,hW3⟩:∃ W3,(w2.alloc (.cells #[I x,I y,I z] 31)).drew=W3:=⟨_,rfl⟩
  have B3:Below w.heap.size w W3:=by rw [← hW3];exact (B2.alloc (Nat.le_of_lt Z2) _).drew
  have a3:Draw.B3 w.heap.size 0 0 0 W3:=by rw [← hW3];exact (a2.alloc Z2 _).drew
  have d3:Draw.B3 w2.heap.size x y z W3:=by rw [← hW3];exact (Draw.B3.new w2 _ _ _ _).drew
  have Z3:w2.heap.size < W3.heap.size:=by rw [← hW3];simp
  have X3:∀ o,w2.drew.cell? ⟨b5,o,none⟩=w2.cell? ⟨b5,o,none⟩:=fun o=>rfl
  have K:∀ (o:Obj) (i:Nat) (u:Value),w2.cell? ⟨b5,i,none⟩=some u → (w2.drew.alloc o).cell? ⟨b5,i,none⟩=some u:=fun o i u h=>(((Below.refl w2.heap.size w2).drew.alloc (Nat.le_refl _) o).cell (p:=⟨b5,i,none⟩) l5).trans h
  have K0:=fun o=>K o _ _ q0
  have K1:=fun o=>K o _ _ q1
  have K2:=fun o=>K o _ _ q2
  have J0:W3.cell? ⟨b5,o5,none⟩=some (I x):=by rw [← hW3];exact K0 _
  have J1:W3.cell? ⟨b5,o5 + 1,none⟩=some (I y):=by rw [← hW3];exact K1 _
  have J2:W3.cell? ⟨b5,o5 + 2,none⟩=some (I z):=by rw [← hW3];exact K2 _
  go_wp2_with fail
  refine wp_region_held_drew (S:=(fun V=>V.cell? ⟨b5,o5,none⟩=some (I x)∧V.cell? ⟨b5,o5 + 1,none⟩=some (I y)∧V.cell? ⟨b5,o5 + 2,none⟩=some (I z))) (by kernel_rfl) ⟨by simpa using q0,by simpa using q1,by simpa using q2⟩ (fun hH=>?_)
  refine tk 0 20 rfl _ hH (by intro w' h;(try dsimp only at h);go_simp;try with_reducible rfl) ?_
  try simp only [Act.put,pa,pb,pc]
  refine tk 1 21 rfl _ hH (by intro w' h;(try dsimp only at h);go_simp;try with_reducible rfl) ?_
  try simp only [Act.put,pa,pb,pc]
  refine tk 2 22 rfl _ hH (by intro w' h;(try dsimp only at h);go_simp;try with_reducible rfl) ?_
  try simp only [Act.put,pa,pb,pc]
  refine tk 3 23 rfl _ hH (by intro w' h;(try dsimp only at h);go_simp;try with_reducible rfl) ?_
  try simp only [Act.put,pa,pb,pc]
  refine tk 4 24 rfl _ hH (by intro w' h;(try dsimp only at h);go_simp;try with_reducible rfl) ?_
  try simp only [Act.put,pa,pb,pc]
  refine tk 5 25 rfl _ hH (by intro w' h;(try dsimp only at h);go_simp;try with_reducible rfl) ?_
  try simp only [Act.put,pa,pb,pc]
  refine tk 6 26 rfl _ hH (by intro w' h;(try dsimp only at h);go_simp;try with_reducible rfl) ?_
  try simp only [Act.put,pa,pb,pc]
  refine tk 7 27 rfl _ hH (by intro w' h;(try dsimp only at h);go_simp;try with_reducible rfl) ?_
  try simp only [Act.put,pa,pb,pc]
  refine tk 8 28 rfl _ hH (by intro w' h;(try dsimp only at h);go_simp;try with_reducible rfl) ?_
  try simp only [Act.put,pa,pb,pc]
  refine tk 9 29 rfl _ hH (by intro w' h;(try dsimp only at h);go_simp;try with_reducible rfl) ?_
  try simp only [Act.put,pa,pb,pc]
  refine wpAnyH_ready (rs:=[10]) (by kernel_rfl) (by simp) ?_
  refine AllReadyH.cons (i:=10) rfl (fun K hK=>?_) AllReadyH.nil
  go_simp
  refine hK.out _ _ ⟨K0 _,K1 _,K2 _⟩ (fun hJ=>?_)
  clear hK K hH
  have hH:=hJ
  clear hJ
  try simp only [Act.put,pa,pb,pc]
  refine wpAnyH_ready (rs:=[11]) (by kernel_rfl) (by simp) ?_
  refine AllReadyH.cons (i:=11) rfl (fun K hK=>?_) AllReadyH.nil
  go_simp
  refine hK.out _ _ ⟨J0,J1,J2⟩ (fun hJ=>?_)
  clear hK K hH
  have hH:=hJ
  clear hJ
  try simp only [Act.put,pa,pb,pc]
  refine wpAnyH_done (by kernel_rfl) ?_ _
  try rw [hW3]
  clear hH q0 q1 q2 K K0 K1 K2 X3 hW3 J0 J1 J2
  obtain ⟨e0,e1,e2,e3,e4,e5⟩:=d3
  go_wp2_with fail
  refine (specOk_is x y z _).mono ?_
  rintro e w4 ⟨rfl,hb4⟩
  have B4:=B3.trans (hb4.mono B3.size)
  have a4:=a3.below hb4 (Nat.lt_trans Z2 Z3)
  have d4:=Draw.B3.below ⟨e0,e1,e2,e3,e4,e5⟩ hb4 Z3
  clear e0 e1 e2 e3 e4 e5 a3 a2 B3 hb4 B2
  obtain ⟨k0,k1,k2,k3,k4,k5⟩:=a4
  obtain ⟨e0,e1,e2,e3,e4,e5⟩:=d4
  by_cases h0:rOk x y z=true
  ·rw [h0]
   have FG:=show Hid _ from FH.out x y z B4 ⟨k0,k1,k2,k3,k4,k5⟩
   have e6:rdA [x,y,z]=x∧rdB [x,y,z]=y∧rdC [x,y,z]=z∧rdK [x,y,z]=true:=by
    have:([x,y,z]:List Int).length=3∧rOk (([x,y,z]:List Int).getD 0 0) (([x,y,z]:List Int).getD 1 0) (([x,y,z]:List Int).getD 2 0)=true:=⟨rfl,h0⟩
    exact ⟨if_pos this,if_pos this,if_pos this,h0⟩
   clear FH
   go_wp2
   have G:=FG.out
   exact bodyPost_ret (res_3b rfl _ _ w.heap.size _ _ _ (.bool true) rfl rfl G.2.c0 G.2.c1 G.2.c2) rfl ⟨by rw [e6.1,e6.2.1,e6.2.2.1,e6.2.2.2],G.1⟩
  ·rw [Bool.not_eq_true] at h0
   rw [h0]
   have FG:=show Hid _ from FH.out 0 0 0 B4 ⟨k0,k1,k2,k3,k4,k5⟩
   have e6:rdK [x,y,z]=false:=h0
   have e7:=rd_no e6
   clear FH
   go_wp2
   have G:=FG.out
   exact bodyPost_ret (res_3b rfl _ _ w.heap.size _ _ _ (.bool false) rfl rfl G.2.c0 G.2.c1 G.2.c2) rfl ⟨by rw [e7.1,e7.2.1,e7.2.2,e6],G.1⟩
 ·have hn:¬ (L.length:Int)=3:=by omega
  have e6:rdK L=false:=by unfold rdK;rw [show decide (L.length=3)=false by simpa using h3];rfl
  have e7:=rd_no e6
  have FG:=show Hid _ from FH.out 0 0 0 B2 a2
  have hn':((L.length:Int) == 3)=false:=by simpa using hn
  clear FH HN hrow
  obtain ⟨k0,k1,k2,k3,k4,k5⟩:=a2
  cases t with
  | false =>
   go_wp2
   have G:=FG.out
   exact bodyPost_ret (res_3b rfl _ _ w.heap.size _ _ _ (.bool false) rfl rfl G.2.c0 G.2.c1 G.2.c2) rfl ⟨by rw [e7.1,e7.2.1,e7.2.2,e6],G.1⟩
  | true =>
   go_wp2
   have G:=FG.out
   exact bodyPost_ret (res_3b rfl _ _ w.heap.size _ _ _ (.bool false) rfl rfl G.2.c0 G.2.c1 G.2.c2) rfl ⟨by rw [e7.1,e7.2.1,e7.2.2,e6],G.1⟩
set_option maxRecDepth 100000 in
set_option maxHeartbeats 3200000 in
theorem implRead_is (s:ByteArray) (w:World) (hs:s.size ≤ 1048576):Calls Tryz.prog 114 #[.string s] w fun e w'=>e=.returned (.tuple #[rv (rdA (numsR s).1) (rdB (numsR s).1) (rdC (numsR s).1),.bool (rdK (numsR s).1)])∧Below w.heap.size w w':=by
 obtain ⟨W1,hW1⟩:∃ W1,w.alloc (.cells #[I 0,I 0,I 0] 31)=W1:=⟨_,rfl⟩
 have hb0:Below w.heap.size w W1:=by rw [← hW1];exact (Below.refl _ _).alloc (Nat.le_refl _) _
 have Z:w.heap.size < W1.heap.size:=by rw [← hW1];simp
 have a1:Draw.B3 w.heap.size 0 0 0 W1:=by rw [← hW1];exact Draw.B3.new _ _ _ _ _
 have HN:=nums_len s
 have RN:=impl_readNums s W1 hs
 generalize (numsR s).1=L at RN HN ⊢
 generalize (numsR s).2=t at RN HN
 have FH:Hid (∀ {wl:World} (x y z:Int),Below w.heap.size w wl → Draw.B3 w.heap.size 0 0 0 wl → Below w.heap.size w (set3 wl w.heap.size (I x) (I y) (I z))∧Draw.B3 w.heap.size x y z (set3 wl w.heap.size (I x) (I y) (I z))) :=
  fun x y z hb hB=>⟨set3_below hb (Nat.le_refl _) _ _ _,hB.put3 x y z⟩
 go_enter Tryz.func114,Tryz.ntmps114
 go_wp2_with fail
 try rw [hW1]
 refine RN.mono ?_
 clear hW1 RN
 rintro e w2 ⟨v,rfl,ho,hb2⟩
 obtain ⟨a5,cap5,rfl,hcap,hrow⟩:=own_row ho
 clear ho
 have a2:=a1.below hb2 Z
 have B2:=hb0.trans (hb2.mono hb0.size)
 have Z2:w.heap.size < w2.heap.size:=Nat.lt_of_lt_of_le Z hb2.size
 clear a1 hb0 hb2 Z
 by_cases h3:L.length=3
 ·have ht:t=true:=by
   cases t with
   | true=>rfl
   | false=>rw [HN rfl] at h3;cases h3
  subst ht
  obtain ⟨x,y,z,rfl⟩:∃ x y z,L=[x,y,z]:=by
   match L,h3 with
   | [x,y,z],_=>exact ⟨x,y,z,rfl⟩
  clear HN
  obtain ⟨b5,o5,rfl,l5,q0⟩:=hrow 0 (by simp)
  have Q:∀ j (h:j < [x,y,z].length),w2.cell? ⟨b5,o5 + j,none⟩=some (I [x,y,z][j]):=by
   intro j h
   obtain ⟨b,o,e,_,q⟩:=hrow j h
   simp only [Option.some.injEq,Addr.mk.injEq] at e
   obtain ⟨rfl,rfl,_⟩:=e
   exact q
  have q0:=Q 0 (by simp)
  have q1:=Q 1 (by simp)
  have q2:=Q 2 (by simp)
  simp only [Nat.add_zero,List.getElem_cons_zero,List.getElem_cons_succ] at q0 q1 q2
  clear Q hrow
  have c3:(3:Int) ≤ cap5:=by have:([x,y,z]:List Int).length=3:=rfl;omega
  obtain ⟨W3,hW3⟩:∃ W3,(w2.alloc (.cells #[I x,I y,I z] 31)).drew=W3:=⟨_,rfl⟩
  have B3:Below w.heap.size w W3:=by rw [← hW3];exact (B2.alloc (Nat.le_of_lt Z2) _).drew
  have a3:Draw.B3 w.heap.size 0 0 0 W3:=by rw [← hW3];exact (a2.alloc Z2 _).drew
  have d3:Draw.B3 w2.heap.size x y z W3:=by rw [← hW3];exact (Draw.B3.new w2 _ _ _ _).drew
  have Z3:w2.heap.size < W3.heap.size:=by rw [← hW3];simp
  have X3:∀ o,w2.drew.cell? ⟨b5,o,none⟩=w2.cell? ⟨b5,o,none⟩:=fun o=>rfl
  have K:∀ (o:Obj) (i:Nat) (u:Value),w2.cell? ⟨b5,i,none⟩=some u → (w2.drew.alloc o).cell? ⟨b5,i,none⟩=some u:=fun o i u h=>(((Below.refl w2.heap.size w2).drew.alloc (Nat.le_refl _) o).cell (p:=⟨b5,i,none⟩) l5).trans h
  have K0:=fun o=>K o _ _ q0
  have K1:=fun o=>K o _ _ q1
  have K2:=fun o=>K o _ _ q2
  have J0:W3.cell? ⟨b5,o5,none⟩=some (I x):=by rw [← hW3];exact K0 _
  have J1:W3.cell? ⟨b5,o5 + 1,none⟩=some (I y):=by rw [← hW3];exact K1 _
  have J2:W3.cell? ⟨b5,o5 + 2,none⟩=some (I z):=by rw [← hW3];exact K2 _
  go_wp2_with fail
  refine wp_region_held_drew (S:=(fun V=>V.cell? ⟨b5,o5,none⟩=some (I x)∧V.cell? ⟨b5,o5 + 1,none⟩=some (I y)∧V.cell? ⟨b5,o5 + 2,none⟩=some (I z))) (by kernel_rfl) ⟨by simpa using q0,by simpa using q1,by simpa using q2⟩ (fun hH=>?_)
  refine tk 0 16 rfl _ hH (by intro w' h;(try dsimp only at h);go_simp;try with_reducible rfl) ?_
  try simp only [Act.put,pa,pb,pc]
  refine tk 1 17 rfl _ hH (by intro w' h;(try dsimp only at h);go_simp;try with_reducible rfl) ?_
  try simp only [Act.put,pa,pb,pc]
  refine tk 2 18 rfl _ hH (by intro w' h;(try dsimp only at h);go_simp;try with_reducible rfl) ?_
  try simp only [Act.put,pa,pb,pc]
  refine tk 3 19 rfl _ hH (by intro w' h;(try dsimp only at h);go_simp;try with_reducible rfl) ?_
  try simp only [Act.put,pa,pb,pc]
  refine tk 4 20 rfl _ hH (by intro w' h;(try dsimp only at h);go_simp;try with_reducible rfl) ?_
  try simp only [Act.put,pa,pb,pc]
  refine tk 5 21 rfl _ hH (by intro w' h;(try dsimp only at h);go_simp;try with_reducible rfl) ?_
  try simp only [Act.put,pa,pb,pc]
  refine tk 6 22 rfl _ hH (by intro w' h;(try dsimp only at h);go_simp;try with_reducible rfl) ?_
  try simp only [Act.put,pa,pb,pc]
  refine tk 7 23 rfl _ hH (by intro w' h;(try dsimp only at h);go_simp;try with_reducible rfl) ?_
  try simp only [Act.put,pa,pb,pc]
  refine tk 8 24 rfl _ hH (by intro w' h;(try dsimp only at h);go_simp;try with_reducible rfl) ?_
  try simp only [Act.put,pa,pb,pc]
  refine tk 9 25 rfl _ hH (by intro w' h;(try dsimp only at h);go_simp;try with_reducible rfl) ?_
  try simp only [Act.put,pa,pb,pc]
  refine wpAnyH_ready (rs:=[10]) (by kernel_rfl) (by simp) ?_
  refine AllReadyH.cons (i:=10) rfl (fun K hK=>?_) AllReadyH.nil
  go_simp
  refine hK.out _ _ ⟨K0 _,K1 _,K2 _⟩ (fun hJ=>?_)
  clear hK K hH
  have hH:=hJ
  clear hJ
  try simp only [Act.put,pa,pb,pc]
  refine wpAnyH_ready (rs:=[11]) (by kernel_rfl) (by simp) ?_
  refine AllReadyH.cons (i:=11) rfl (fun K hK=>?_) AllReadyH.nil
  go_simp
  refine hK.out _ _ ⟨J0,J1,J2⟩ (fun hJ=>?_)
  clear hK K hH
  have hH:=hJ
  clear hJ
  try simp only [Act.put,pa,pb,pc]
  refine wpAnyH_done (by kernel_rfl) ?_ _
  try rw [hW3]
  clear hH q0 q1 q2 K K0 K1 K2 X3 hW3 J0 J1 J2
  obtain ⟨e0,e1,e2,e3,e4,e5⟩:=d3
  go_wp2_with fail
  refine (right_is x y z _).mono ?_
  rintro e w4 ⟨rfl,hb4⟩
  have B4:=B3.trans (hb4.mono B3.size)
  have a4:=a3.below hb4 (Nat.lt_trans Z2 Z3)
  have d4:=Draw.B3.below ⟨e0,e1,e2,e3,e4,e5⟩ hb4 Z3
  clear e0 e1 e2 e3 e4 e5 a3 a2 B3 hb4 B2
  obtain ⟨k0,k1,k2,k3,k4,k5⟩:=a4
  obtain ⟨e0,e1,e2,e3,e4,e5⟩:=d4
  by_cases h0:rOk x y z=true
  ·rw [h0]
   have FG:=show Hid _ from FH.out x y z B4 ⟨k0,k1,k2,k3,k4,k5⟩
   have e6:rdA [x,y,z]=x∧rdB [x,y,z]=y∧rdC [x,y,z]=z∧rdK [x,y,z]=true:=by
    have:([x,y,z]:List Int).length=3∧rOk (([x,y,z]:List Int).getD 0 0) (([x,y,z]:List Int).getD 1 0) (([x,y,z]:List Int).getD 2 0)=true:=⟨rfl,h0⟩
    exact ⟨if_pos this,if_pos this,if_pos this,h0⟩
   clear FH
   go_wp2
   have G:=FG.out
   exact bodyPost_ret (res_3b rfl _ _ w.heap.size _ _ _ (.bool true) rfl rfl G.2.c0 G.2.c1 G.2.c2) rfl ⟨by rw [e6.1,e6.2.1,e6.2.2.1,e6.2.2.2],G.1⟩
  ·rw [Bool.not_eq_true] at h0
   rw [h0]
   have FG:=show Hid _ from FH.out 0 0 0 B4 ⟨k0,k1,k2,k3,k4,k5⟩
   have e6:rdK [x,y,z]=false:=h0
   have e7:=rd_no e6
   clear FH
   go_wp2
   have G:=FG.out
   exact bodyPost_ret (res_3b rfl _ _ w.heap.size _ _ _ (.bool false) rfl rfl G.2.c0 G.2.c1 G.2.c2) rfl ⟨by rw [e7.1,e7.2.1,e7.2.2,e6],G.1⟩
 ·have hn:¬ (L.length:Int)=3:=by omega
  have e6:rdK L=false:=by unfold rdK;rw [show decide (L.length=3)=false by simpa using h3];rfl
  have e7:=rd_no e6
  have FG:=show Hid _ from FH.out 0 0 0 B2 a2
  have hn':((L.length:Int) == 3)=false:=by simpa using hn
  clear FH HN hrow
  obtain ⟨k0,k1,k2,k3,k4,k5⟩:=a2
  skip
  go_wp2
  have G:=FG.out
  exact bodyPost_ret (res_3b rfl _ _ w.heap.size _ _ _ (.bool false) rfl rfl G.2.c0 G.2.c1 G.2.c2) rfl ⟨by rw [e7.1,e7.2.1,e7.2.2,e6],G.1⟩
end Go.Proofs.YtcaieniddnhkbaaGreatDoor
