/- Deep structs copied. -/
import Derived.Test.YtlmpfkbgknbcnaaGreatAb
import Derived.Test.YtlmpfkbgknbcnaaGreatNc1
import Derived.Test.YtlmpfkbgknbcnaaGreatNc2
set_option linter.unusedVariables false
set_option maxRecDepth 100000
namespace Go.Proofs.YtlmpfkbgknbcnaaGreat.Nd
open Go Go.RowKit Go.Joins Own Draw
set_option maxRecDepth 100000 in
set_option maxHeartbeats 6400000 in
theorem toK_is (p : TK) (w : World) (hd : DpK w p) (hl : totK p ≤ 1048576) : Calls Tryz.prog 73 #[vK p] w fun en w' => ∃ y : TK,en = .returned (vK y) ∧ stK y = stK p ∧ OwK w.heap.size w' y ∧ Below w.heap.size w w':=by
 obtain ⟨ie,hie,his⟩:=info_K
 obtain ⟨f0,f1⟩:=p
 unfold totK at hl
 unfold DpK at hd
 dsimp only at hl hd
 have hd1:=hd
 obtain ⟨V0,hV0⟩ : ∃ V,((w.alloc (.cells #[I f0,.slice f1.1 f1.2.2.length f1.2.1] 119)).alloc (.cells #[I 0,.slice none 0 0] 76)).alloc (.cells #[I f0,.slice none 0 0] 76) = V:=⟨_,rfl⟩
 have BC : Below w.heap.size w V0:=by rw [← hV0]; exact (((Below.refl _ _).alloc (Nat.le_refl _) _).alloc (by simp) _).alloc (by simp; omega) _
 have TA : Blk w.heap.size [I f0,.slice f1.1 f1.2.2.length f1.2.1] V0:=by rw [← hV0]; exact ((Blk.new w #[I f0,.slice f1.1 f1.2.2.length f1.2.1] 119).alloc (by simp) _).alloc (by simp; omega) _
 have TR : Blk (w.heap.size + 1) [I 0,.slice none 0 0] V0:=by rw [← hV0]; have:=(Blk.new (w.alloc (.cells #[I f0,.slice f1.1 f1.2.2.length f1.2.1] 119)) #[I 0,.slice none 0 0] 76).alloc (by simp) (.cells #[I f0,.slice none 0 0] 76); simpa using this
 have TO : Blk (w.heap.size + 1 + 1) [I f0,.slice none 0 0] V0:=by rw [← hV0]; have:=Blk.new ((w.alloc (.cells #[I f0,.slice f1.1 f1.2.2.length f1.2.1] 119)).alloc (.cells #[I 0,.slice none 0 0] 76)) #[I f0,.slice none 0 0] 76; simpa using this
 have ZS : Hid (w.heap.size + 3 ≤ V0.heap.size):=by show _ ≤ _; rw [← hV0]; simp
 have a0:=TA.at 0 rfl
 have a1:=TA.at 1 rfl
 go_enter Tryz.func73,Tryz.ntmps73
 go_wp2_with fail
 try rw [hV0]
 refine (toSA_u f1 V0 (hd1.later BC) (by omega)).mono ?_
 clear hV0 a0 a1
 rintro en v1 ⟨y1,rfl,hs1,ho1,hb⟩
 replace ho1:=ho1.le ZS.out
 replace TA:=TA.later hb (by have:=ZS.out; omega)
 replace TR:=TR.later hb (by have:=ZS.out; omega)
 replace TO:=TO.later hb (by have:=ZS.out; omega)
 replace BC:=BC.trans (hb.mono BC.size)
 replace ZS : Hid (w.heap.size + 3 ≤ v1.heap.size):=Nat.le_trans ZS.out hb.size
 clear hb
 have o1:=TO.at 1 rfl
 have z1:=TO.fz 1 rfl
 obtain ⟨V1,hV1⟩ : ∃ V,(v1.setCell ⟨(w.heap.size + 1 + 1),1,none⟩ (.slice y1.1 y1.2.2.length y1.2.1)) = V:=⟨_,rfl⟩
 have hV1_ : v1.setCells (w.heap.size + 1 + 1) 1 [.slice y1.1 y1.2.2.length y1.2.1] = V1:=hV1
 have BC_ : Below w.heap.size w V1:=by rw [← hV1_]; exact below_sets (by omega) _ _ _ BC
 have TA_ : Blk w.heap.size [I f0,.slice f1.1 f1.2.2.length f1.2.1] V1:=by rw [← hV1_]; exact Blk.farS (by omega) _ _ _ TA
 have TR_ : Blk (w.heap.size + 1) [I 0,.slice none 0 0] V1:=by rw [← hV1_]; exact Blk.farS (by omega) _ _ _ TR
 have TO_ : Blk (w.heap.size + 1 + 1) [I f0,.slice y1.1 y1.2.2.length y1.2.1] V1:=by rw [← hV1_]; exact TO.part 1 [.slice y1.1 y1.2.2.length y1.2.1] _ (by simp) rfl
 have ho1_:=ho1.far (sets_grown (w.heap.size + 1 + 1) [.slice y1.1 y1.2.2.length y1.2.1] 1 v1) (by omega)
 rw [hV1_] at ho1_
 have ZS_ : Hid (w.heap.size + 3 ≤ V1.heap.size):=Nat.le_trans ZS.out (by rw [← hV1_]; exact (sets_grown (w.heap.size + 1 + 1) _ _ _).size)
 obtain ⟨VF,hVF⟩ : ∃ V,V1.setCells (w.heap.size + 1) 0 [I f0,.slice y1.1 y1.2.2.length y1.2.1] = V:=⟨_,rfl⟩
 have TF : Blk (w.heap.size + 1) [I f0,.slice y1.1 y1.2.2.length y1.2.1] VF:=by rw [← hVF]; exact TR_.sets _ rfl
 have BF : Below w.heap.size w VF:=by rw [← hVF]; exact below_sets (by omega) _ _ _ BC_
 have hw1:=(ho1_.far (sets_grown (w.heap.size + 1) [I f0,.slice y1.1 y1.2.2.length y1.2.1] 0 V1) (by omega)).le (by omega : w.heap.size ≤ w.heap.size + 3)
 rw [hVF] at hw1
 clear TA TR TO BC ZS hV1_ TA_ BC_ ZS_ ho1 ho1_
 go_wp2_with (first | (refine wpList_ldB 76 _ (w.heap.size + 1 + 1) 0 _ [I f0,.slice y1.1 y1.2.2.length y1.2.1] ie hie (Tryz.isAgg76) TO_ his.symm rfl rfl rfl rfl ?_) | (refine wpList_stB 76 _ _ (w.heap.size + 1) 0 _ [I f0,.slice y1.1 y1.2.2.length y1.2.1] ie hie TR_ his.symm (by simp) rfl rfl rfl rfl rfl ?_; rw [hVF]) | go_in)
 exact bodyPost_ret (res_B1 rfl _ _ (w.heap.size + 1) [I f0,.slice y1.1 y1.2.2.length y1.2.1] ie hie (Tryz.isAgg76) TF his.symm rfl) rfl ⟨(f0,y1),rfl,by unfold stK; dsimp only; rw [hs1],hw1,BF⟩
theorem infoKr : (Tryz.prog.info? 76).map (fun i => (i.zero,i.size,i.bytes)) = some (some (.agg #[I 0,.slice none 0 0]),2,32):=by kernel_rfl
set_option maxRecDepth 100000 in
set_option maxHeartbeats 3200000 in
theorem toSK_is (r : Rw TK) (w : World) (hd : RpK w r) (hl : rtK r ≤ 1048576) : Calls Tryz.prog 35 #[.slice r.1 r.2.2.length r.2.1] w fun en w' => ∃ y : Rw TK,en = .returned (.slice y.1 y.2.2.length y.2.1) ∧ rsK y = rsK r ∧ RoK w.heap.size w' y ∧ Below w.heap.size w w':=by
 obtain ⟨a,cap,xs⟩:=r
 obtain ⟨hr,hDp⟩:=hd
 dsimp only at hr hDp hl ⊢
 have hxl:=rtK_len (a,cap,xs)
 dsimp only at hxl
 have hte : ∀ x ∈ xs,totK x ≤ 1048576:=fun x hx => by
  have h1 : totK x ≤ (xs.map totK).sum:=le_sum_of_mem (List.mem_map_of_mem hx)
  have h2 : rtK (a,cap,xs) = xs.length + (xs.map totK).sum:=rfl
  omega
 obtain ⟨i0,hi,hz0,hz1,hz2⟩:=info_parts infoKr
 obtain ⟨ie,hie,his⟩:=info_K
 go_enter Tryz.func35,Tryz.ntmps35
 go_wp2_with (first | (at_make; refine wpList_make_full _ rfl _ _ 44 rfl w.heap.size 76 i0 (.agg #[I 0,.slice none 0 0]) 2 Tryz.underlying44 hi hz0 hz1 .i64 .i64 xs.length xs.length xs.length rfl rfl rfl rfl (by rw [hz2]; omega) (by unfold maxLen; omega) (Nat.le_refl _) ?_) | go_in)
 intro w1 hown hgrow
 have hbel:=(Below.refl w.heap.size w).grown hgrow (Nat.le_refl _) (by simp)
 clear hgrow
 have H0 : ∃ (ys : List TK) (Jk : List Value),ys.length = 0 ∧ ys.map stK = (xs.take 0).map stK ∧ w1.ownsRow w.heap.size 76 2 (.slice (some ⟨w.heap.size,0,none⟩) xs.length xs.length) xs.length (fl cK ys ++ Jk) ∧ (∀ y ∈ ys,OwK (w.heap.size + 1) w1 y):=⟨[],_,rfl,rfl,hown,fun y hy => by cases hy⟩
 clear hown
 go_wp2
 go_loopw [4] (fun iv wr => ∃ k : Nat,k ≤ xs.length ∧ iv = I k ∧ (∃ (ys : List TK) (Jk : List Value),ys.length = k ∧ ys.map stK = (xs.take k).map stK ∧ wr.ownsRow w.heap.size 76 2 (.slice (some ⟨w.heap.size,0,none⟩) xs.length xs.length) xs.length (fl cK ys ++ Jk) ∧ (∀ y ∈ ys,OwK (w.heap.size + 1) wr y)) ∧ Below w.heap.size w wr) (fun iv _ => xs.length - (intOf iv).toNat)
 case atStart => exact ⟨0,by omega,rfl,H0,hbel⟩
 case round =>
  clear H0 hbel
  obtain ⟨k,hk,rfl,⟨ys,Jk,hyl,hys,hown,hO⟩,hbel⟩:=hrel
  have hJ : k * 2 + Jk.length = xs.length * 2:=by have:=hown.1; rw [List.length_append,fl_len lK,hyl] at this; exact this
  by_cases hlt : k < xs.length
  ·obtain ⟨b1,o1,rfl,l1,hcc⟩:=hr k hlt
   have c0 : wr.cell? ⟨b1,o1 + k * 2,none⟩ = some (I xs[k].1):=(hbel.cell (p:=⟨b1,o1 + k * 2,none⟩) l1).trans (hcc 0 _ rfl)
   have c1 : wr.cell? ⟨b1,o1 + k * 2 + 1,none⟩ = some (.slice xs[k].2.1 xs[k].2.2.2.length xs[k].2.2.1):=(hbel.cell (p:=⟨b1,o1 + k * 2 + 1,none⟩) l1).trans (hcc 1 _ rfl)
   have K1:=toK_is xs[k] wr ((hDp _ (List.getElem_mem hlt)).later hbel) (hte _ (List.getElem_mem hlt))
   have hsn : (xs.take (k + 1)).map stK = (xs.take k).map stK ++ [stK xs[k]]:=by rw [List.take_succ_eq_append_getElem hlt,List.map_append]; rfl
   have hlt2 : (k : Int) < (xs.length : Int):=by omega
   have hgw : w.heap.size < wr.heap.size:=(hown.lt _ rfl).2
   generalize xs[k] = x at K1 hsn c0 c1
   clear hcc
   go_wp2_with fail
   refine K1.mono ?_
   clear K1 c0 c1
   rintro en w2 ⟨y,rfl,hsy,hoy,hb2⟩
   replace hown:=own_later hown hb2
   replace hbel:=hbel.trans (hb2.mono hbel.size)
   replace hO : ∀ y ∈ ys,OwK (w.heap.size + 1) w2 y:=fun z hz => (hO z hz).later hb2
   replace hoy:=hoy.le (by omega : w.heap.size + 1 ≤ wr.heap.size)
   clear hb2
   have hp:=fl_put (f:=cK) lK ys Jk y (by omega)
   rw [hyl] at hp
   have hG:=sets_grown w.heap.size (cK y) (k * 2) w2
   have hS:=own_sets (cK y) (k * 2) w2 _ rfl hown
   rw [hp] at hS
   have hO2 : ∀ z ∈ ys ++ [y],OwK (w.heap.size + 1) (w2.setCells w.heap.size (k * 2) (cK y)) z:=by
    intro z hz
    rcases List.mem_append.1 hz with hz | hz
    ·exact (hO z hz).far hG (by omega)
    ·rw [List.mem_singleton.1 hz]; exact hoy.far hG (by omega)
   have B2:=below_sets (m:=w.heap.size) (Nat.le_refl _) (cK y) (k * 2) w2 hbel
   have hco : ∀ j,j < xs.length * 2 → (∃ u,w2.cell? ⟨w.heap.size,j,none⟩ = some u) ∧ w2.frozen? ⟨w.heap.size,j,none⟩ = false:=fun j hj => by
    have h1:=hown.cellAt j (by have:=hown.1; omega)
    have h2 : j < (fl cK ys ++ Jk).length:=by have:=hown.1; omega
    rw [List.getElem?_eq_getElem h2] at h1
    exact ⟨⟨_,h1⟩,hown.frozenAt j⟩
   obtain ⟨W3,hW3⟩ : ∃ V,w2.setCells w.heap.size (k * 2) (cK y) = V:=⟨_,rfl⟩
   rw [hW3] at hS hO2 B2
   have HR : Hid (∃ k' : Nat,k' ≤ xs.length ∧ Value.int .i64 ((k : Int) + 1) = I k' ∧ (∃ (ys : List TK) (Jk : List Value),ys.length = k' ∧ ys.map stK = (xs.take k').map stK ∧ W3.ownsRow w.heap.size 76 2 (.slice (some ⟨w.heap.size,0,none⟩) xs.length xs.length) xs.length (fl cK ys ++ Jk) ∧ (∀ y ∈ ys,OwK (w.heap.size + 1) W3 y)) ∧ Below w.heap.size w W3) :=
    ⟨k + 1,by omega,by go_num,⟨ys ++ [y],_,by simp [hyl],by rw [List.map_append,hys,hsn,← hsy]; rfl,hS,hO2⟩,B2⟩
   have hk16 : k * 2 + 2 ≤ xs.length * 2:=by have:=Nat.mul_le_mul_right 2 hlt; omega
   clear hS hO2 B2 hG hp hO hoy hown hys hsn hyl hJ
   go_wp2_with (first | (refine wpList_stO 76 _ _ w.heap.size (k * 2) [I y.1,.slice y.2.1 y.2.2.2.length y.2.2.1] ie hie his.symm rfl (fun j hj => hco _ (by simp at hj; omega)) rfl rfl rfl rfl ?_; rw [hW3]) | go_in)
   go_roundw
   case rel => exact HR.out
   case measure => simp [intOf]; omega
  ·obtain rfl : k = xs.length:=by omega
   have hj0 : Jk = []:=List.length_eq_zero_iff.1 (by omega)
   subst hj0
   rw [List.append_nil] at hown
   rw [List.take_length] at hys
   go_wp2
   go_ret
   refine ⟨(some ⟨w.heap.size,0,none⟩,xs.length,ys),by rw [hyl]; rfl,hys,⟨?_,fun y hy => (hO y hy).le (Nat.le_succ _)⟩,hbel⟩
   show World.ownsRow _ _ _ _ (.slice _ ys.length _) ys.length _
   rw [hyl]; exact hown
set_option maxRecDepth 100000 in
set_option maxHeartbeats 6400000 in
theorem toQ_is (p : TQ) (w : World) (hd : DpQ w p) (hl : totQ p ≤ 1048576) : Calls Tryz.prog 75 #[vQ p] w fun en w' => ∃ y : TQ,en = .returned (vQ y) ∧ stQ y = stQ p ∧ OwQ w.heap.size w' y ∧ Below w.heap.size w w':=by
 obtain ⟨ie,hie,his⟩:=info_Q
 obtain ⟨f0,f1,f2,f3,f4,⟨f5_0,f5_1,f5_2⟩,⟨f6_0,f6_1,f6_2⟩,f7,f8,f9,f10⟩:=p
 unfold totQ at hl
 unfold DpQ at hd
 dsimp only at hl hd
 obtain ⟨hd7,hd8⟩:=hd
 obtain ⟨V0,hV0⟩ : ∃ V,((w.alloc (.cells #[I f0,I f1,I f2,I f3,I f4,I f5_0,I f5_1,I f5_2,I f6_0,I f6_1,I f6_2,.slice f7.1 f7.2.2.length f7.2.1,.slice f8.1 f8.2.2.length f8.2.1,I f9,.string f10] 123)).alloc (.cells #[I 0,I 0,I 0,I 0,I 0,I 0,I 0,I 0,I 0,I 0,I 0,.slice none 0 0,.slice none 0 0,I 0,.string ⟨#[]⟩] 80)).alloc (.cells #[I f0,I f1,I f2,I f3,I f4,I 0,I 0,I 0,I 0,I 0,I 0,.slice none 0 0,.slice none 0 0,I 0,.string ⟨#[]⟩] 80) = V:=⟨_,rfl⟩
 have BC : Below w.heap.size w V0:=by rw [← hV0]; exact (((Below.refl _ _).alloc (Nat.le_refl _) _).alloc (by simp) _).alloc (by simp; omega) _
 have TA : Blk w.heap.size [I f0,I f1,I f2,I f3,I f4,I f5_0,I f5_1,I f5_2,I f6_0,I f6_1,I f6_2,.slice f7.1 f7.2.2.length f7.2.1,.slice f8.1 f8.2.2.length f8.2.1,I f9,.string f10] V0:=by rw [← hV0]; exact ((Blk.new w #[I f0,I f1,I f2,I f3,I f4,I f5_0,I f5_1,I f5_2,I f6_0,I f6_1,I f6_2,.slice f7.1 f7.2.2.length f7.2.1,.slice f8.1 f8.2.2.length f8.2.1,I f9,.string f10] 123).alloc (by simp) _).alloc (by simp; omega) _
 have TR : Blk (w.heap.size + 1) [I 0,I 0,I 0,I 0,I 0,I 0,I 0,I 0,I 0,I 0,I 0,.slice none 0 0,.slice none 0 0,I 0,.string ⟨#[]⟩] V0:=by rw [← hV0]; have:=(Blk.new (w.alloc (.cells #[I f0,I f1,I f2,I f3,I f4,I f5_0,I f5_1,I f5_2,I f6_0,I f6_1,I f6_2,.slice f7.1 f7.2.2.length f7.2.1,.slice f8.1 f8.2.2.length f8.2.1,I f9,.string f10] 123)) #[I 0,I 0,I 0,I 0,I 0,I 0,I 0,I 0,I 0,I 0,I 0,.slice none 0 0,.slice none 0 0,I 0,.string ⟨#[]⟩] 80).alloc (by simp) (.cells #[I f0,I f1,I f2,I f3,I f4,I 0,I 0,I 0,I 0,I 0,I 0,.slice none 0 0,.slice none 0 0,I 0,.string ⟨#[]⟩] 80); simpa using this
 have TO : Blk (w.heap.size + 1 + 1) [I f0,I f1,I f2,I f3,I f4,I 0,I 0,I 0,I 0,I 0,I 0,.slice none 0 0,.slice none 0 0,I 0,.string ⟨#[]⟩] V0:=by rw [← hV0]; have:=Blk.new ((w.alloc (.cells #[I f0,I f1,I f2,I f3,I f4,I f5_0,I f5_1,I f5_2,I f6_0,I f6_1,I f6_2,.slice f7.1 f7.2.2.length f7.2.1,.slice f8.1 f8.2.2.length f8.2.1,I f9,.string f10] 123)).alloc (.cells #[I 0,I 0,I 0,I 0,I 0,I 0,I 0,I 0,I 0,I 0,I 0,.slice none 0 0,.slice none 0 0,I 0,.string ⟨#[]⟩] 80)) #[I f0,I f1,I f2,I f3,I f4,I 0,I 0,I 0,I 0,I 0,I 0,.slice none 0 0,.slice none 0 0,I 0,.string ⟨#[]⟩] 80; simpa using this
 have ZS : Hid (w.heap.size + 3 ≤ V0.heap.size):=by show _ ≤ _; rw [← hV0]; simp
 have a0:=TA.at 0 rfl
 have a1:=TA.at 1 rfl
 have a2:=TA.at 2 rfl
 have a3:=TA.at 3 rfl
 have a4:=TA.at 4 rfl
 have a5:=TA.at 5 rfl
 have a6:=TA.at 6 rfl
 have a7:=TA.at 7 rfl
 go_enter Tryz.func75,Tryz.ntmps75
 go_wp2_with fail
 try rw [hV0]
 refine (toA_is f5_0 f5_1 f5_2 V0).mono ?_
 clear hV0 a0 a1 a2 a3 a4 a5 a6 a7
 rintro en v5 ⟨rfl,hb⟩
 replace TA:=TA.later hb (by have:=ZS.out; omega)
 replace TR:=TR.later hb (by have:=ZS.out; omega)
 replace TO:=TO.later hb (by have:=ZS.out; omega)
 replace BC:=BC.trans (hb.mono BC.size)
 replace ZS : Hid (w.heap.size + 3 ≤ v5.heap.size):=Nat.le_trans ZS.out hb.size
 clear hb
 have o5:=TO.at 5 rfl
 have z5:=TO.fz 5 rfl
 have o6:=TO.at 6 rfl
 have z6:=TO.fz 6 rfl
 have o7:=TO.at 7 rfl
 have z7:=TO.fz 7 rfl
 obtain ⟨V1,hV1⟩ : ∃ V,(((v5.setCell ⟨(w.heap.size + 1 + 1),5,none⟩ (I f5_0)).setCell ⟨(w.heap.size + 1 + 1),6,none⟩ (I f5_1)).setCell ⟨(w.heap.size + 1 + 1),7,none⟩ (I f5_2)) = V:=⟨_,rfl⟩
 have hV1_ : v5.setCells (w.heap.size + 1 + 1) 5 [I f5_0,I f5_1,I f5_2] = V1:=hV1
 have BC_ : Below w.heap.size w V1:=by rw [← hV1_]; exact below_sets (by omega) _ _ _ BC
 have TA_ : Blk w.heap.size [I f0,I f1,I f2,I f3,I f4,I f5_0,I f5_1,I f5_2,I f6_0,I f6_1,I f6_2,.slice f7.1 f7.2.2.length f7.2.1,.slice f8.1 f8.2.2.length f8.2.1,I f9,.string f10] V1:=by rw [← hV1_]; exact Blk.farS (by omega) _ _ _ TA
 have TR_ : Blk (w.heap.size + 1) [I 0,I 0,I 0,I 0,I 0,I 0,I 0,I 0,I 0,I 0,I 0,.slice none 0 0,.slice none 0 0,I 0,.string ⟨#[]⟩] V1:=by rw [← hV1_]; exact Blk.farS (by omega) _ _ _ TR
 have TO_ : Blk (w.heap.size + 1 + 1) [I f0,I f1,I f2,I f3,I f4,I f5_0,I f5_1,I f5_2,I 0,I 0,I 0,.slice none 0 0,.slice none 0 0,I 0,.string ⟨#[]⟩] V1:=by rw [← hV1_]; exact TO.part 5 [I f5_0,I f5_1,I f5_2] _ (by simp) rfl
 have ZS_ : Hid (w.heap.size + 3 ≤ V1.heap.size):=Nat.le_trans ZS.out (by rw [← hV1_]; exact (sets_grown (w.heap.size + 1 + 1) _ _ _).size)
 clear TA TR TO BC ZS hV1_
 have TA:=TA_
 have TR:=TR_
 have TO:=TO_
 have BC:=BC_
 have ZS:=ZS_
 clear TA_ TR_ TO_ BC_ ZS_
 have b8:=TA.at 8 rfl
 have b9:=TA.at 9 rfl
 have b10:=TA.at 10 rfl
 go_wp2_with fail
 try rw [hV1]
 refine (toR_is f6_0 f6_1 f6_2 V1).mono ?_
 clear hV1 o5 z5 o6 z6 o7 z7 b8 b9 b10
 rintro en v6 ⟨rfl,hb⟩
 replace TA:=TA.later hb (by have:=ZS.out; omega)
 replace TR:=TR.later hb (by have:=ZS.out; omega)
 replace TO:=TO.later hb (by have:=ZS.out; omega)
 replace BC:=BC.trans (hb.mono BC.size)
 replace ZS : Hid (w.heap.size + 3 ≤ v6.heap.size):=Nat.le_trans ZS.out hb.size
 clear hb
 have o8:=TO.at 8 rfl
 have z8:=TO.fz 8 rfl
 have o9:=TO.at 9 rfl
 have z9:=TO.fz 9 rfl
 have o10:=TO.at 10 rfl
 have z10:=TO.fz 10 rfl
 obtain ⟨V2,hV2⟩ : ∃ V,(((v6.setCell ⟨(w.heap.size + 1 + 1),8,none⟩ (I f6_0)).setCell ⟨(w.heap.size + 1 + 1),9,none⟩ (I f6_1)).setCell ⟨(w.heap.size + 1 + 1),10,none⟩ (I f6_2)) = V:=⟨_,rfl⟩
 have hV2_ : v6.setCells (w.heap.size + 1 + 1) 8 [I f6_0,I f6_1,I f6_2] = V2:=hV2
 have BC_ : Below w.heap.size w V2:=by rw [← hV2_]; exact below_sets (by omega) _ _ _ BC
 have TA_ : Blk w.heap.size [I f0,I f1,I f2,I f3,I f4,I f5_0,I f5_1,I f5_2,I f6_0,I f6_1,I f6_2,.slice f7.1 f7.2.2.length f7.2.1,.slice f8.1 f8.2.2.length f8.2.1,I f9,.string f10] V2:=by rw [← hV2_]; exact Blk.farS (by omega) _ _ _ TA
 have TR_ : Blk (w.heap.size + 1) [I 0,I 0,I 0,I 0,I 0,I 0,I 0,I 0,I 0,I 0,I 0,.slice none 0 0,.slice none 0 0,I 0,.string ⟨#[]⟩] V2:=by rw [← hV2_]; exact Blk.farS (by omega) _ _ _ TR
 have TO_ : Blk (w.heap.size + 1 + 1) [I f0,I f1,I f2,I f3,I f4,I f5_0,I f5_1,I f5_2,I f6_0,I f6_1,I f6_2,.slice none 0 0,.slice none 0 0,I 0,.string ⟨#[]⟩] V2:=by rw [← hV2_]; exact TO.part 8 [I f6_0,I f6_1,I f6_2] _ (by simp) rfl
 have ZS_ : Hid (w.heap.size + 3 ≤ V2.heap.size):=Nat.le_trans ZS.out (by rw [← hV2_]; exact (sets_grown (w.heap.size + 1 + 1) _ _ _).size)
 clear TA TR TO BC ZS hV2_
 have TA:=TA_
 have TR:=TR_
 have TO:=TO_
 have BC:=BC_
 have ZS:=ZS_
 clear TA_ TR_ TO_ BC_ ZS_
 have b11:=TA.at 11 rfl
 go_wp2_with fail
 try rw [hV2]
 refine (toSI_u f7 V2 (hd7.later BC) (by omega)).mono ?_
 clear hV2 o8 z8 o9 z9 o10 z10 b11
 rintro en v7 ⟨y7,rfl,hs7,ho7,hb⟩
 replace ho7:=ho7.le ZS.out
 replace TA:=TA.later hb (by have:=ZS.out; omega)
 replace TR:=TR.later hb (by have:=ZS.out; omega)
 replace TO:=TO.later hb (by have:=ZS.out; omega)
 replace BC:=BC.trans (hb.mono BC.size)
 replace ZS : Hid (w.heap.size + 3 ≤ v7.heap.size):=Nat.le_trans ZS.out hb.size
 clear hb
 have o11:=TO.at 11 rfl
 have z11:=TO.fz 11 rfl
 obtain ⟨V3,hV3⟩ : ∃ V,(v7.setCell ⟨(w.heap.size + 1 + 1),11,none⟩ (.slice y7.1 y7.2.2.length y7.2.1)) = V:=⟨_,rfl⟩
 have hV3_ : v7.setCells (w.heap.size + 1 + 1) 11 [.slice y7.1 y7.2.2.length y7.2.1] = V3:=hV3
 have BC_ : Below w.heap.size w V3:=by rw [← hV3_]; exact below_sets (by omega) _ _ _ BC
 have TA_ : Blk w.heap.size [I f0,I f1,I f2,I f3,I f4,I f5_0,I f5_1,I f5_2,I f6_0,I f6_1,I f6_2,.slice f7.1 f7.2.2.length f7.2.1,.slice f8.1 f8.2.2.length f8.2.1,I f9,.string f10] V3:=by rw [← hV3_]; exact Blk.farS (by omega) _ _ _ TA
 have TR_ : Blk (w.heap.size + 1) [I 0,I 0,I 0,I 0,I 0,I 0,I 0,I 0,I 0,I 0,I 0,.slice none 0 0,.slice none 0 0,I 0,.string ⟨#[]⟩] V3:=by rw [← hV3_]; exact Blk.farS (by omega) _ _ _ TR
 have TO_ : Blk (w.heap.size + 1 + 1) [I f0,I f1,I f2,I f3,I f4,I f5_0,I f5_1,I f5_2,I f6_0,I f6_1,I f6_2,.slice y7.1 y7.2.2.length y7.2.1,.slice none 0 0,I 0,.string ⟨#[]⟩] V3:=by rw [← hV3_]; exact TO.part 11 [.slice y7.1 y7.2.2.length y7.2.1] _ (by simp) rfl
 have ho7_:=ho7.far (sets_grown (w.heap.size + 1 + 1) [.slice y7.1 y7.2.2.length y7.2.1] 11 v7) (by omega)
 rw [hV3_] at ho7_
 have ZS_ : Hid (w.heap.size + 3 ≤ V3.heap.size):=Nat.le_trans ZS.out (by rw [← hV3_]; exact (sets_grown (w.heap.size + 1 + 1) _ _ _).size)
 clear TA TR TO BC ZS hV3_ ho7
 have TA:=TA_
 have TR:=TR_
 have TO:=TO_
 have BC:=BC_
 have ZS:=ZS_
 have ho7:=ho7_
 clear TA_ TR_ TO_ BC_ ZS_ ho7_
 have b12:=TA.at 12 rfl
 go_wp2_with fail
 try rw [hV3]
 refine (toSI_u f8 V3 (hd8.later BC) (by omega)).mono ?_
 clear hV3 o11 z11 b12
 rintro en v8 ⟨y8,rfl,hs8,ho8,hb⟩
 replace ho8:=ho8.le ZS.out
 replace TA:=TA.later hb (by have:=ZS.out; omega)
 replace TR:=TR.later hb (by have:=ZS.out; omega)
 replace TO:=TO.later hb (by have:=ZS.out; omega)
 replace BC:=BC.trans (hb.mono BC.size)
 replace ho7:=ho7.later hb
 replace ZS : Hid (w.heap.size + 3 ≤ v8.heap.size):=Nat.le_trans ZS.out hb.size
 clear hb
 have a13:=TA.at 13 rfl
 have a14:=TA.at 14 rfl
 have o12:=TO.at 12 rfl
 have z12:=TO.fz 12 rfl
 have o13:=TO.at 13 rfl
 have z13:=TO.fz 13 rfl
 have o14:=TO.at 14 rfl
 have z14:=TO.fz 14 rfl
 obtain ⟨V4,hV4⟩ : ∃ V,(((v8.setCell ⟨(w.heap.size + 1 + 1),12,none⟩ (.slice y8.1 y8.2.2.length y8.2.1)).setCell ⟨(w.heap.size + 1 + 1),13,none⟩ (I f9)).setCell ⟨(w.heap.size + 1 + 1),14,none⟩ (.string f10)) = V:=⟨_,rfl⟩
 have hV4_ : v8.setCells (w.heap.size + 1 + 1) 12 [.slice y8.1 y8.2.2.length y8.2.1,I f9,.string f10] = V4:=hV4
 have BC_ : Below w.heap.size w V4:=by rw [← hV4_]; exact below_sets (by omega) _ _ _ BC
 have TA_ : Blk w.heap.size [I f0,I f1,I f2,I f3,I f4,I f5_0,I f5_1,I f5_2,I f6_0,I f6_1,I f6_2,.slice f7.1 f7.2.2.length f7.2.1,.slice f8.1 f8.2.2.length f8.2.1,I f9,.string f10] V4:=by rw [← hV4_]; exact Blk.farS (by omega) _ _ _ TA
 have TR_ : Blk (w.heap.size + 1) [I 0,I 0,I 0,I 0,I 0,I 0,I 0,I 0,I 0,I 0,I 0,.slice none 0 0,.slice none 0 0,I 0,.string ⟨#[]⟩] V4:=by rw [← hV4_]; exact Blk.farS (by omega) _ _ _ TR
 have TO_ : Blk (w.heap.size + 1 + 1) [I f0,I f1,I f2,I f3,I f4,I f5_0,I f5_1,I f5_2,I f6_0,I f6_1,I f6_2,.slice y7.1 y7.2.2.length y7.2.1,.slice y8.1 y8.2.2.length y8.2.1,I f9,.string f10] V4:=by rw [← hV4_]; exact TO.part 12 [.slice y8.1 y8.2.2.length y8.2.1,I f9,.string f10] _ (by simp) rfl
 have ho7_:=ho7.far (sets_grown (w.heap.size + 1 + 1) [.slice y8.1 y8.2.2.length y8.2.1,I f9,.string f10] 12 v8) (by omega)
 rw [hV4_] at ho7_
 have ho8_:=ho8.far (sets_grown (w.heap.size + 1 + 1) [.slice y8.1 y8.2.2.length y8.2.1,I f9,.string f10] 12 v8) (by omega)
 rw [hV4_] at ho8_
 have ZS_ : Hid (w.heap.size + 3 ≤ V4.heap.size):=Nat.le_trans ZS.out (by rw [← hV4_]; exact (sets_grown (w.heap.size + 1 + 1) _ _ _).size)
 obtain ⟨VF,hVF⟩ : ∃ V,V4.setCells (w.heap.size + 1) 0 [I f0,I f1,I f2,I f3,I f4,I f5_0,I f5_1,I f5_2,I f6_0,I f6_1,I f6_2,.slice y7.1 y7.2.2.length y7.2.1,.slice y8.1 y8.2.2.length y8.2.1,I f9,.string f10] = V:=⟨_,rfl⟩
 have TF : Blk (w.heap.size + 1) [I f0,I f1,I f2,I f3,I f4,I f5_0,I f5_1,I f5_2,I f6_0,I f6_1,I f6_2,.slice y7.1 y7.2.2.length y7.2.1,.slice y8.1 y8.2.2.length y8.2.1,I f9,.string f10] VF:=by rw [← hVF]; exact TR_.sets _ rfl
 have BF : Below w.heap.size w VF:=by rw [← hVF]; exact below_sets (by omega) _ _ _ BC_
 have hw7:=(ho7_.far (sets_grown (w.heap.size + 1) [I f0,I f1,I f2,I f3,I f4,I f5_0,I f5_1,I f5_2,I f6_0,I f6_1,I f6_2,.slice y7.1 y7.2.2.length y7.2.1,.slice y8.1 y8.2.2.length y8.2.1,I f9,.string f10] 0 V4) (by omega)).le (by omega : w.heap.size ≤ w.heap.size + 3)
 rw [hVF] at hw7
 have hw8:=(ho8_.far (sets_grown (w.heap.size + 1) [I f0,I f1,I f2,I f3,I f4,I f5_0,I f5_1,I f5_2,I f6_0,I f6_1,I f6_2,.slice y7.1 y7.2.2.length y7.2.1,.slice y8.1 y8.2.2.length y8.2.1,I f9,.string f10] 0 V4) (by omega)).le (by omega : w.heap.size ≤ w.heap.size + 3)
 rw [hVF] at hw8
 clear TA TR TO BC ZS hV4_ TA_ BC_ ZS_ ho7 ho7_ ho8 ho8_
 go_wp2_with (first | (refine wpList_ldB 80 _ (w.heap.size + 1 + 1) 0 _ [I f0,I f1,I f2,I f3,I f4,I f5_0,I f5_1,I f5_2,I f6_0,I f6_1,I f6_2,.slice y7.1 y7.2.2.length y7.2.1,.slice y8.1 y8.2.2.length y8.2.1,I f9,.string f10] ie hie (Tryz.isAgg80) TO_ his.symm rfl rfl rfl rfl ?_) | (refine wpList_stB 80 _ _ (w.heap.size + 1) 0 _ [I f0,I f1,I f2,I f3,I f4,I f5_0,I f5_1,I f5_2,I f6_0,I f6_1,I f6_2,.slice y7.1 y7.2.2.length y7.2.1,.slice y8.1 y8.2.2.length y8.2.1,I f9,.string f10] ie hie TR_ his.symm (by simp) rfl rfl rfl rfl rfl ?_; rw [hVF]) | go_in)
 exact bodyPost_ret (res_B1 rfl _ _ (w.heap.size + 1) [I f0,I f1,I f2,I f3,I f4,I f5_0,I f5_1,I f5_2,I f6_0,I f6_1,I f6_2,.slice y7.1 y7.2.2.length y7.2.1,.slice y8.1 y8.2.2.length y8.2.1,I f9,.string f10] ie hie (Tryz.isAgg80) TF his.symm rfl) rfl ⟨(f0,f1,f2,f3,f4,(f5_0,f5_1,f5_2),(f6_0,f6_1,f6_2),y7,y8,f9,f10),rfl,by unfold stQ; dsimp only; rw [hs7,hs8],⟨hw7,hw8⟩,BF⟩
theorem infoQr : (Tryz.prog.info? 80).map (fun i => (i.zero,i.size,i.bytes)) = some (some (.agg #[I 0,I 0,I 0,I 0,I 0,I 0,I 0,I 0,I 0,I 0,I 0,.slice none 0 0,.slice none 0 0,I 0,.string ⟨#[]⟩]),15,160):=by kernel_rfl
set_option maxRecDepth 100000 in
set_option maxHeartbeats 3200000 in
theorem toSQ_is (r : Rw TQ) (w : World) (hd : RpQ w r) (hl : rtQ r ≤ 1048576) : Calls Tryz.prog 37 #[.slice r.1 r.2.2.length r.2.1] w fun en w' => ∃ y : Rw TQ,en = .returned (.slice y.1 y.2.2.length y.2.1) ∧ rsQ y = rsQ r ∧ RoQ w.heap.size w' y ∧ Below w.heap.size w w':=by
 obtain ⟨a,cap,xs⟩:=r
 obtain ⟨hr,hDp⟩:=hd
 dsimp only at hr hDp hl ⊢
 have hxl:=rtQ_len (a,cap,xs)
 dsimp only at hxl
 have hte : ∀ x ∈ xs,totQ x ≤ 1048576:=fun x hx => by
  have h1 : totQ x ≤ (xs.map totQ).sum:=le_sum_of_mem (List.mem_map_of_mem hx)
  have h2 : rtQ (a,cap,xs) = xs.length + (xs.map totQ).sum:=rfl
  omega
 obtain ⟨i0,hi,hz0,hz1,hz2⟩:=info_parts infoQr
 obtain ⟨ie,hie,his⟩:=info_Q
 go_enter Tryz.func37,Tryz.ntmps37
 go_wp2_with (first | (at_make; refine wpList_make_full _ rfl _ _ 46 rfl w.heap.size 80 i0 (.agg #[I 0,I 0,I 0,I 0,I 0,I 0,I 0,I 0,I 0,I 0,I 0,.slice none 0 0,.slice none 0 0,I 0,.string ⟨#[]⟩]) 15 Tryz.underlying46 hi hz0 hz1 .i64 .i64 xs.length xs.length xs.length rfl rfl rfl rfl (by rw [hz2]; omega) (by unfold maxLen; omega) (Nat.le_refl _) ?_) | go_in)
 intro w1 hown hgrow
 have hbel:=(Below.refl w.heap.size w).grown hgrow (Nat.le_refl _) (by simp)
 clear hgrow
 have H0 : ∃ (ys : List TQ) (Jk : List Value),ys.length = 0 ∧ ys.map stQ = (xs.take 0).map stQ ∧ w1.ownsRow w.heap.size 80 15 (.slice (some ⟨w.heap.size,0,none⟩) xs.length xs.length) xs.length (fl cQ ys ++ Jk) ∧ (∀ y ∈ ys,OwQ (w.heap.size + 1) w1 y):=⟨[],_,rfl,rfl,hown,fun y hy => by cases hy⟩
 clear hown
 go_wp2
 go_loopw [4] (fun iv wr => ∃ k : Nat,k ≤ xs.length ∧ iv = I k ∧ (∃ (ys : List TQ) (Jk : List Value),ys.length = k ∧ ys.map stQ = (xs.take k).map stQ ∧ wr.ownsRow w.heap.size 80 15 (.slice (some ⟨w.heap.size,0,none⟩) xs.length xs.length) xs.length (fl cQ ys ++ Jk) ∧ (∀ y ∈ ys,OwQ (w.heap.size + 1) wr y)) ∧ Below w.heap.size w wr) (fun iv _ => xs.length - (intOf iv).toNat)
 case atStart => exact ⟨0,by omega,rfl,H0,hbel⟩
 case round =>
  clear H0 hbel
  obtain ⟨k,hk,rfl,⟨ys,Jk,hyl,hys,hown,hO⟩,hbel⟩:=hrel
  have hJ : k * 15 + Jk.length = xs.length * 15:=by have:=hown.1; rw [List.length_append,fl_len lQ,hyl] at this; exact this
  by_cases hlt : k < xs.length
  ·obtain ⟨b1,o1,rfl,l1,hcc⟩:=hr k hlt
   have c0 : wr.cell? ⟨b1,o1 + k * 15,none⟩ = some (I xs[k].1):=(hbel.cell (p:=⟨b1,o1 + k * 15,none⟩) l1).trans (hcc 0 _ rfl)
   have c1 : wr.cell? ⟨b1,o1 + k * 15 + 1,none⟩ = some (I xs[k].2.1):=(hbel.cell (p:=⟨b1,o1 + k * 15 + 1,none⟩) l1).trans (hcc 1 _ rfl)
   have c2 : wr.cell? ⟨b1,o1 + k * 15 + 2,none⟩ = some (I xs[k].2.2.1):=(hbel.cell (p:=⟨b1,o1 + k * 15 + 2,none⟩) l1).trans (hcc 2 _ rfl)
   have c3 : wr.cell? ⟨b1,o1 + k * 15 + 3,none⟩ = some (I xs[k].2.2.2.1):=(hbel.cell (p:=⟨b1,o1 + k * 15 + 3,none⟩) l1).trans (hcc 3 _ rfl)
   have c4 : wr.cell? ⟨b1,o1 + k * 15 + 4,none⟩ = some (I xs[k].2.2.2.2.1):=(hbel.cell (p:=⟨b1,o1 + k * 15 + 4,none⟩) l1).trans (hcc 4 _ rfl)
   have c5 : wr.cell? ⟨b1,o1 + k * 15 + 5,none⟩ = some (I xs[k].2.2.2.2.2.1.1):=(hbel.cell (p:=⟨b1,o1 + k * 15 + 5,none⟩) l1).trans (hcc 5 _ rfl)
   have c6 : wr.cell? ⟨b1,o1 + k * 15 + 6,none⟩ = some (I xs[k].2.2.2.2.2.1.2.1):=(hbel.cell (p:=⟨b1,o1 + k * 15 + 6,none⟩) l1).trans (hcc 6 _ rfl)
   have c7 : wr.cell? ⟨b1,o1 + k * 15 + 7,none⟩ = some (I xs[k].2.2.2.2.2.1.2.2):=(hbel.cell (p:=⟨b1,o1 + k * 15 + 7,none⟩) l1).trans (hcc 7 _ rfl)
   have c8 : wr.cell? ⟨b1,o1 + k * 15 + 8,none⟩ = some (I xs[k].2.2.2.2.2.2.1.1):=(hbel.cell (p:=⟨b1,o1 + k * 15 + 8,none⟩) l1).trans (hcc 8 _ rfl)
   have c9 : wr.cell? ⟨b1,o1 + k * 15 + 9,none⟩ = some (I xs[k].2.2.2.2.2.2.1.2.1):=(hbel.cell (p:=⟨b1,o1 + k * 15 + 9,none⟩) l1).trans (hcc 9 _ rfl)
   have c10 : wr.cell? ⟨b1,o1 + k * 15 + 10,none⟩ = some (I xs[k].2.2.2.2.2.2.1.2.2):=(hbel.cell (p:=⟨b1,o1 + k * 15 + 10,none⟩) l1).trans (hcc 10 _ rfl)
   have c11 : wr.cell? ⟨b1,o1 + k * 15 + 11,none⟩ = some (.slice xs[k].2.2.2.2.2.2.2.1.1 xs[k].2.2.2.2.2.2.2.1.2.2.length xs[k].2.2.2.2.2.2.2.1.2.1):=(hbel.cell (p:=⟨b1,o1 + k * 15 + 11,none⟩) l1).trans (hcc 11 _ rfl)
   have c12 : wr.cell? ⟨b1,o1 + k * 15 + 12,none⟩ = some (.slice xs[k].2.2.2.2.2.2.2.2.1.1 xs[k].2.2.2.2.2.2.2.2.1.2.2.length xs[k].2.2.2.2.2.2.2.2.1.2.1):=(hbel.cell (p:=⟨b1,o1 + k * 15 + 12,none⟩) l1).trans (hcc 12 _ rfl)
   have c13 : wr.cell? ⟨b1,o1 + k * 15 + 13,none⟩ = some (I xs[k].2.2.2.2.2.2.2.2.2.1):=(hbel.cell (p:=⟨b1,o1 + k * 15 + 13,none⟩) l1).trans (hcc 13 _ rfl)
   have c14 : wr.cell? ⟨b1,o1 + k * 15 + 14,none⟩ = some (.string xs[k].2.2.2.2.2.2.2.2.2.2):=(hbel.cell (p:=⟨b1,o1 + k * 15 + 14,none⟩) l1).trans (hcc 14 _ rfl)
   have K1:=toQ_is xs[k] wr ((hDp _ (List.getElem_mem hlt)).later hbel) (hte _ (List.getElem_mem hlt))
   have hsn : (xs.take (k + 1)).map stQ = (xs.take k).map stQ ++ [stQ xs[k]]:=by rw [List.take_succ_eq_append_getElem hlt,List.map_append]; rfl
   have hlt2 : (k : Int) < (xs.length : Int):=by omega
   have hgw : w.heap.size < wr.heap.size:=(hown.lt _ rfl).2
   generalize xs[k] = x at K1 hsn c0 c1 c2 c3 c4 c5 c6 c7 c8 c9 c10 c11 c12 c13 c14
   clear hcc
   go_wp2_with fail
   refine K1.mono ?_
   clear K1 c0 c1 c2 c3 c4 c5 c6 c7 c8 c9 c10 c11 c12 c13 c14
   rintro en w2 ⟨y,rfl,hsy,hoy,hb2⟩
   replace hown:=own_later hown hb2
   replace hbel:=hbel.trans (hb2.mono hbel.size)
   replace hO : ∀ y ∈ ys,OwQ (w.heap.size + 1) w2 y:=fun z hz => (hO z hz).later hb2
   replace hoy:=hoy.le (by omega : w.heap.size + 1 ≤ wr.heap.size)
   clear hb2
   have hp:=fl_put (f:=cQ) lQ ys Jk y (by omega)
   rw [hyl] at hp
   have hG:=sets_grown w.heap.size (cQ y) (k * 15) w2
   have hS:=own_sets (cQ y) (k * 15) w2 _ rfl hown
   rw [hp] at hS
   have hO2 : ∀ z ∈ ys ++ [y],OwQ (w.heap.size + 1) (w2.setCells w.heap.size (k * 15) (cQ y)) z:=by
    intro z hz
    rcases List.mem_append.1 hz with hz | hz
    ·exact (hO z hz).far hG (by omega)
    ·rw [List.mem_singleton.1 hz]; exact hoy.far hG (by omega)
   have B2:=below_sets (m:=w.heap.size) (Nat.le_refl _) (cQ y) (k * 15) w2 hbel
   have hco : ∀ j,j < xs.length * 15 → (∃ u,w2.cell? ⟨w.heap.size,j,none⟩ = some u) ∧ w2.frozen? ⟨w.heap.size,j,none⟩ = false:=fun j hj => by
    have h1:=hown.cellAt j (by have:=hown.1; omega)
    have h2 : j < (fl cQ ys ++ Jk).length:=by have:=hown.1; omega
    rw [List.getElem?_eq_getElem h2] at h1
    exact ⟨⟨_,h1⟩,hown.frozenAt j⟩
   obtain ⟨W3,hW3⟩ : ∃ V,w2.setCells w.heap.size (k * 15) (cQ y) = V:=⟨_,rfl⟩
   rw [hW3] at hS hO2 B2
   have HR : Hid (∃ k' : Nat,k' ≤ xs.length ∧ Value.int .i64 ((k : Int) + 1) = I k' ∧ (∃ (ys : List TQ) (Jk : List Value),ys.length = k' ∧ ys.map stQ = (xs.take k').map stQ ∧ W3.ownsRow w.heap.size 80 15 (.slice (some ⟨w.heap.size,0,none⟩) xs.length xs.length) xs.length (fl cQ ys ++ Jk) ∧ (∀ y ∈ ys,OwQ (w.heap.size + 1) W3 y)) ∧ Below w.heap.size w W3) :=
    ⟨k + 1,by omega,by go_num,⟨ys ++ [y],_,by simp [hyl],by rw [List.map_append,hys,hsn,← hsy]; rfl,hS,hO2⟩,B2⟩
   have hk16 : k * 15 + 15 ≤ xs.length * 15:=by have:=Nat.mul_le_mul_right 15 hlt; omega
   clear hS hO2 B2 hG hp hO hoy hown hys hsn hyl hJ
   go_wp2_with (first | (refine wpList_stO 80 _ _ w.heap.size (k * 15) [I y.1,I y.2.1,I y.2.2.1,I y.2.2.2.1,I y.2.2.2.2.1,I y.2.2.2.2.2.1.1,I y.2.2.2.2.2.1.2.1,I y.2.2.2.2.2.1.2.2,I y.2.2.2.2.2.2.1.1,I y.2.2.2.2.2.2.1.2.1,I y.2.2.2.2.2.2.1.2.2,.slice y.2.2.2.2.2.2.2.1.1 y.2.2.2.2.2.2.2.1.2.2.length y.2.2.2.2.2.2.2.1.2.1,.slice y.2.2.2.2.2.2.2.2.1.1 y.2.2.2.2.2.2.2.2.1.2.2.length y.2.2.2.2.2.2.2.2.1.2.1,I y.2.2.2.2.2.2.2.2.2.1,.string y.2.2.2.2.2.2.2.2.2.2] ie hie his.symm rfl (fun j hj => hco _ (by simp at hj; omega)) rfl rfl rfl rfl ?_; rw [hW3]) | go_in)
   go_roundw
   case rel => exact HR.out
   case measure => simp [intOf]; omega
  ·obtain rfl : k = xs.length:=by omega
   have hj0 : Jk = []:=List.length_eq_zero_iff.1 (by omega)
   subst hj0
   rw [List.append_nil] at hown
   rw [List.take_length] at hys
   go_wp2
   go_ret
   refine ⟨(some ⟨w.heap.size,0,none⟩,xs.length,ys),by rw [hyl]; rfl,hys,⟨?_,fun y hy => (hO y hy).le (Nat.le_succ _)⟩,hbel⟩
   show World.ownsRow _ _ _ _ (.slice _ ys.length _) ys.length _
   rw [hyl]; exact hown
set_option maxRecDepth 100000 in
set_option maxHeartbeats 6400000 in
theorem toF_is (p : TF) (w : World) (hd : DpF w p) (hl : totF p ≤ 1048576) : Calls Tryz.prog 30 #[vF p] w fun en w' => ∃ y : TF,en = .returned (vF y) ∧ stF y = stF p ∧ OwF w.heap.size w' y ∧ Below w.heap.size w w':=by
 obtain ⟨ie,hie,his⟩:=info_F
 obtain ⟨f0,f1,f2,f3,f4⟩:=p
 unfold totF at hl
 unfold DpF at hd
 dsimp only at hl hd
 obtain ⟨hd0,hd1,hd2,hd3⟩:=hd
 obtain ⟨V0,hV0⟩ : ∃ V,((w.alloc (.cells #[.slice f0.1 f0.2.2.length f0.2.1,.slice f1.1 f1.2.2.length f1.2.1,.slice f2.1 f2.2.2.length f2.2.1,.slice f3.1 f3.2.2.length f3.2.1,I f4] 25)).alloc (.cells #[.slice none 0 0,.slice none 0 0,.slice none 0 0,.slice none 0 0,I 0] 40)).alloc (.cells #[.slice none 0 0,.slice none 0 0,.slice none 0 0,.slice none 0 0,I 0] 40) = V:=⟨_,rfl⟩
 have BC : Below w.heap.size w V0:=by rw [← hV0]; exact (((Below.refl _ _).alloc (Nat.le_refl _) _).alloc (by simp) _).alloc (by simp; omega) _
 have TA : Blk w.heap.size [.slice f0.1 f0.2.2.length f0.2.1,.slice f1.1 f1.2.2.length f1.2.1,.slice f2.1 f2.2.2.length f2.2.1,.slice f3.1 f3.2.2.length f3.2.1,I f4] V0:=by rw [← hV0]; exact ((Blk.new w #[.slice f0.1 f0.2.2.length f0.2.1,.slice f1.1 f1.2.2.length f1.2.1,.slice f2.1 f2.2.2.length f2.2.1,.slice f3.1 f3.2.2.length f3.2.1,I f4] 25).alloc (by simp) _).alloc (by simp; omega) _
 have TR : Blk (w.heap.size + 1) [.slice none 0 0,.slice none 0 0,.slice none 0 0,.slice none 0 0,I 0] V0:=by rw [← hV0]; have:=(Blk.new (w.alloc (.cells #[.slice f0.1 f0.2.2.length f0.2.1,.slice f1.1 f1.2.2.length f1.2.1,.slice f2.1 f2.2.2.length f2.2.1,.slice f3.1 f3.2.2.length f3.2.1,I f4] 25)) #[.slice none 0 0,.slice none 0 0,.slice none 0 0,.slice none 0 0,I 0] 40).alloc (by simp) (.cells #[.slice none 0 0,.slice none 0 0,.slice none 0 0,.slice none 0 0,I 0] 40); simpa using this
 have TO : Blk (w.heap.size + 1 + 1) [.slice none 0 0,.slice none 0 0,.slice none 0 0,.slice none 0 0,I 0] V0:=by rw [← hV0]; have:=Blk.new ((w.alloc (.cells #[.slice f0.1 f0.2.2.length f0.2.1,.slice f1.1 f1.2.2.length f1.2.1,.slice f2.1 f2.2.2.length f2.2.1,.slice f3.1 f3.2.2.length f3.2.1,I f4] 25)).alloc (.cells #[.slice none 0 0,.slice none 0 0,.slice none 0 0,.slice none 0 0,I 0] 40)) #[.slice none 0 0,.slice none 0 0,.slice none 0 0,.slice none 0 0,I 0] 40; simpa using this
 have ZS : Hid (w.heap.size + 3 ≤ V0.heap.size):=by show _ ≤ _; rw [← hV0]; simp
 have a0:=TA.at 0 rfl
 go_enter Tryz.func30,Tryz.ntmps30
 go_wp2_with fail
 try rw [hV0]
 refine (toSI_u f0 V0 (hd0.later BC) (by omega)).mono ?_
 clear hV0 a0
 rintro en v0 ⟨y0,rfl,hs0,ho0,hb⟩
 replace ho0:=ho0.le ZS.out
 replace TA:=TA.later hb (by have:=ZS.out; omega)
 replace TR:=TR.later hb (by have:=ZS.out; omega)
 replace TO:=TO.later hb (by have:=ZS.out; omega)
 replace BC:=BC.trans (hb.mono BC.size)
 replace ZS : Hid (w.heap.size + 3 ≤ v0.heap.size):=Nat.le_trans ZS.out hb.size
 clear hb
 have o0:=TO.at 0 rfl
 have z0:=TO.fz 0 rfl
 obtain ⟨V1,hV1⟩ : ∃ V,(v0.setCell ⟨(w.heap.size + 1 + 1),0,none⟩ (.slice y0.1 y0.2.2.length y0.2.1)) = V:=⟨_,rfl⟩
 have hV1_ : v0.setCells (w.heap.size + 1 + 1) 0 [.slice y0.1 y0.2.2.length y0.2.1] = V1:=hV1
 have BC_ : Below w.heap.size w V1:=by rw [← hV1_]; exact below_sets (by omega) _ _ _ BC
 have TA_ : Blk w.heap.size [.slice f0.1 f0.2.2.length f0.2.1,.slice f1.1 f1.2.2.length f1.2.1,.slice f2.1 f2.2.2.length f2.2.1,.slice f3.1 f3.2.2.length f3.2.1,I f4] V1:=by rw [← hV1_]; exact Blk.farS (by omega) _ _ _ TA
 have TR_ : Blk (w.heap.size + 1) [.slice none 0 0,.slice none 0 0,.slice none 0 0,.slice none 0 0,I 0] V1:=by rw [← hV1_]; exact Blk.farS (by omega) _ _ _ TR
 have TO_ : Blk (w.heap.size + 1 + 1) [.slice y0.1 y0.2.2.length y0.2.1,.slice none 0 0,.slice none 0 0,.slice none 0 0,I 0] V1:=by rw [← hV1_]; exact TO.part 0 [.slice y0.1 y0.2.2.length y0.2.1] _ (by simp) rfl
 have ho0_:=ho0.far (sets_grown (w.heap.size + 1 + 1) [.slice y0.1 y0.2.2.length y0.2.1] 0 v0) (by omega)
 rw [hV1_] at ho0_
 have ZS_ : Hid (w.heap.size + 3 ≤ V1.heap.size):=Nat.le_trans ZS.out (by rw [← hV1_]; exact (sets_grown (w.heap.size + 1 + 1) _ _ _).size)
 clear TA TR TO BC ZS hV1_ ho0
 have TA:=TA_
 have TR:=TR_
 have TO:=TO_
 have BC:=BC_
 have ZS:=ZS_
 have ho0:=ho0_
 clear TA_ TR_ TO_ BC_ ZS_ ho0_
 have b1:=TA.at 1 rfl
 go_wp2_with fail
 try rw [hV1]
 refine (toSI_u f1 V1 (hd1.later BC) (by omega)).mono ?_
 clear hV1 o0 z0 b1
 rintro en v1 ⟨y1,rfl,hs1,ho1,hb⟩
 replace ho1:=ho1.le ZS.out
 replace TA:=TA.later hb (by have:=ZS.out; omega)
 replace TR:=TR.later hb (by have:=ZS.out; omega)
 replace TO:=TO.later hb (by have:=ZS.out; omega)
 replace BC:=BC.trans (hb.mono BC.size)
 replace ho0:=ho0.later hb
 replace ZS : Hid (w.heap.size + 3 ≤ v1.heap.size):=Nat.le_trans ZS.out hb.size
 clear hb
 have o1:=TO.at 1 rfl
 have z1:=TO.fz 1 rfl
 obtain ⟨V2,hV2⟩ : ∃ V,(v1.setCell ⟨(w.heap.size + 1 + 1),1,none⟩ (.slice y1.1 y1.2.2.length y1.2.1)) = V:=⟨_,rfl⟩
 have hV2_ : v1.setCells (w.heap.size + 1 + 1) 1 [.slice y1.1 y1.2.2.length y1.2.1] = V2:=hV2
 have BC_ : Below w.heap.size w V2:=by rw [← hV2_]; exact below_sets (by omega) _ _ _ BC
 have TA_ : Blk w.heap.size [.slice f0.1 f0.2.2.length f0.2.1,.slice f1.1 f1.2.2.length f1.2.1,.slice f2.1 f2.2.2.length f2.2.1,.slice f3.1 f3.2.2.length f3.2.1,I f4] V2:=by rw [← hV2_]; exact Blk.farS (by omega) _ _ _ TA
 have TR_ : Blk (w.heap.size + 1) [.slice none 0 0,.slice none 0 0,.slice none 0 0,.slice none 0 0,I 0] V2:=by rw [← hV2_]; exact Blk.farS (by omega) _ _ _ TR
 have TO_ : Blk (w.heap.size + 1 + 1) [.slice y0.1 y0.2.2.length y0.2.1,.slice y1.1 y1.2.2.length y1.2.1,.slice none 0 0,.slice none 0 0,I 0] V2:=by rw [← hV2_]; exact TO.part 1 [.slice y1.1 y1.2.2.length y1.2.1] _ (by simp) rfl
 have ho0_:=ho0.far (sets_grown (w.heap.size + 1 + 1) [.slice y1.1 y1.2.2.length y1.2.1] 1 v1) (by omega)
 rw [hV2_] at ho0_
 have ho1_:=ho1.far (sets_grown (w.heap.size + 1 + 1) [.slice y1.1 y1.2.2.length y1.2.1] 1 v1) (by omega)
 rw [hV2_] at ho1_
 have ZS_ : Hid (w.heap.size + 3 ≤ V2.heap.size):=Nat.le_trans ZS.out (by rw [← hV2_]; exact (sets_grown (w.heap.size + 1 + 1) _ _ _).size)
 clear TA TR TO BC ZS hV2_ ho0 ho1
 have TA:=TA_
 have TR:=TR_
 have TO:=TO_
 have BC:=BC_
 have ZS:=ZS_
 have ho0:=ho0_
 have ho1:=ho1_
 clear TA_ TR_ TO_ BC_ ZS_ ho0_ ho1_
 have b2:=TA.at 2 rfl
 go_wp2_with fail
 try rw [hV2]
 refine (toSP_u f2 V2 (hd2.later BC) (by omega)).mono ?_
 clear hV2 o1 z1 b2
 rintro en v2 ⟨y2,rfl,hs2,ho2,hb⟩
 replace ho2:=ho2.le ZS.out
 replace TA:=TA.later hb (by have:=ZS.out; omega)
 replace TR:=TR.later hb (by have:=ZS.out; omega)
 replace TO:=TO.later hb (by have:=ZS.out; omega)
 replace BC:=BC.trans (hb.mono BC.size)
 replace ho0:=ho0.later hb
 replace ho1:=ho1.later hb
 replace ZS : Hid (w.heap.size + 3 ≤ v2.heap.size):=Nat.le_trans ZS.out hb.size
 clear hb
 have o2:=TO.at 2 rfl
 have z2:=TO.fz 2 rfl
 obtain ⟨V3,hV3⟩ : ∃ V,(v2.setCell ⟨(w.heap.size + 1 + 1),2,none⟩ (.slice y2.1 y2.2.2.length y2.2.1)) = V:=⟨_,rfl⟩
 have hV3_ : v2.setCells (w.heap.size + 1 + 1) 2 [.slice y2.1 y2.2.2.length y2.2.1] = V3:=hV3
 have BC_ : Below w.heap.size w V3:=by rw [← hV3_]; exact below_sets (by omega) _ _ _ BC
 have TA_ : Blk w.heap.size [.slice f0.1 f0.2.2.length f0.2.1,.slice f1.1 f1.2.2.length f1.2.1,.slice f2.1 f2.2.2.length f2.2.1,.slice f3.1 f3.2.2.length f3.2.1,I f4] V3:=by rw [← hV3_]; exact Blk.farS (by omega) _ _ _ TA
 have TR_ : Blk (w.heap.size + 1) [.slice none 0 0,.slice none 0 0,.slice none 0 0,.slice none 0 0,I 0] V3:=by rw [← hV3_]; exact Blk.farS (by omega) _ _ _ TR
 have TO_ : Blk (w.heap.size + 1 + 1) [.slice y0.1 y0.2.2.length y0.2.1,.slice y1.1 y1.2.2.length y1.2.1,.slice y2.1 y2.2.2.length y2.2.1,.slice none 0 0,I 0] V3:=by rw [← hV3_]; exact TO.part 2 [.slice y2.1 y2.2.2.length y2.2.1] _ (by simp) rfl
 have ho0_:=ho0.far (sets_grown (w.heap.size + 1 + 1) [.slice y2.1 y2.2.2.length y2.2.1] 2 v2) (by omega)
 rw [hV3_] at ho0_
 have ho1_:=ho1.far (sets_grown (w.heap.size + 1 + 1) [.slice y2.1 y2.2.2.length y2.2.1] 2 v2) (by omega)
 rw [hV3_] at ho1_
 have ho2_:=ho2.far (sets_grown (w.heap.size + 1 + 1) [.slice y2.1 y2.2.2.length y2.2.1] 2 v2) (by omega)
 rw [hV3_] at ho2_
 have ZS_ : Hid (w.heap.size + 3 ≤ V3.heap.size):=Nat.le_trans ZS.out (by rw [← hV3_]; exact (sets_grown (w.heap.size + 1 + 1) _ _ _).size)
 clear TA TR TO BC ZS hV3_ ho0 ho1 ho2
 have TA:=TA_
 have TR:=TR_
 have TO:=TO_
 have BC:=BC_
 have ZS:=ZS_
 have ho0:=ho0_
 have ho1:=ho1_
 have ho2:=ho2_
 clear TA_ TR_ TO_ BC_ ZS_ ho0_ ho1_ ho2_
 have b3:=TA.at 3 rfl
 go_wp2_with fail
 try rw [hV3]
 refine (toSP_u f3 V3 (hd3.later BC) (by omega)).mono ?_
 clear hV3 o2 z2 b3
 rintro en v3 ⟨y3,rfl,hs3,ho3,hb⟩
 replace ho3:=ho3.le ZS.out
 replace TA:=TA.later hb (by have:=ZS.out; omega)
 replace TR:=TR.later hb (by have:=ZS.out; omega)
 replace TO:=TO.later hb (by have:=ZS.out; omega)
 replace BC:=BC.trans (hb.mono BC.size)
 replace ho0:=ho0.later hb
 replace ho1:=ho1.later hb
 replace ho2:=ho2.later hb
 replace ZS : Hid (w.heap.size + 3 ≤ v3.heap.size):=Nat.le_trans ZS.out hb.size
 clear hb
 have a4:=TA.at 4 rfl
 have o3:=TO.at 3 rfl
 have z3:=TO.fz 3 rfl
 have o4:=TO.at 4 rfl
 have z4:=TO.fz 4 rfl
 obtain ⟨V4,hV4⟩ : ∃ V,((v3.setCell ⟨(w.heap.size + 1 + 1),3,none⟩ (.slice y3.1 y3.2.2.length y3.2.1)).setCell ⟨(w.heap.size + 1 + 1),4,none⟩ (I f4)) = V:=⟨_,rfl⟩
 have hV4_ : v3.setCells (w.heap.size + 1 + 1) 3 [.slice y3.1 y3.2.2.length y3.2.1,I f4] = V4:=hV4
 have BC_ : Below w.heap.size w V4:=by rw [← hV4_]; exact below_sets (by omega) _ _ _ BC
 have TA_ : Blk w.heap.size [.slice f0.1 f0.2.2.length f0.2.1,.slice f1.1 f1.2.2.length f1.2.1,.slice f2.1 f2.2.2.length f2.2.1,.slice f3.1 f3.2.2.length f3.2.1,I f4] V4:=by rw [← hV4_]; exact Blk.farS (by omega) _ _ _ TA
 have TR_ : Blk (w.heap.size + 1) [.slice none 0 0,.slice none 0 0,.slice none 0 0,.slice none 0 0,I 0] V4:=by rw [← hV4_]; exact Blk.farS (by omega) _ _ _ TR
 have TO_ : Blk (w.heap.size + 1 + 1) [.slice y0.1 y0.2.2.length y0.2.1,.slice y1.1 y1.2.2.length y1.2.1,.slice y2.1 y2.2.2.length y2.2.1,.slice y3.1 y3.2.2.length y3.2.1,I f4] V4:=by rw [← hV4_]; exact TO.part 3 [.slice y3.1 y3.2.2.length y3.2.1,I f4] _ (by simp) rfl
 have ho0_:=ho0.far (sets_grown (w.heap.size + 1 + 1) [.slice y3.1 y3.2.2.length y3.2.1,I f4] 3 v3) (by omega)
 rw [hV4_] at ho0_
 have ho1_:=ho1.far (sets_grown (w.heap.size + 1 + 1) [.slice y3.1 y3.2.2.length y3.2.1,I f4] 3 v3) (by omega)
 rw [hV4_] at ho1_
 have ho2_:=ho2.far (sets_grown (w.heap.size + 1 + 1) [.slice y3.1 y3.2.2.length y3.2.1,I f4] 3 v3) (by omega)
 rw [hV4_] at ho2_
 have ho3_:=ho3.far (sets_grown (w.heap.size + 1 + 1) [.slice y3.1 y3.2.2.length y3.2.1,I f4] 3 v3) (by omega)
 rw [hV4_] at ho3_
 have ZS_ : Hid (w.heap.size + 3 ≤ V4.heap.size):=Nat.le_trans ZS.out (by rw [← hV4_]; exact (sets_grown (w.heap.size + 1 + 1) _ _ _).size)
 obtain ⟨VF,hVF⟩ : ∃ V,V4.setCells (w.heap.size + 1) 0 [.slice y0.1 y0.2.2.length y0.2.1,.slice y1.1 y1.2.2.length y1.2.1,.slice y2.1 y2.2.2.length y2.2.1,.slice y3.1 y3.2.2.length y3.2.1,I f4] = V:=⟨_,rfl⟩
 have TF : Blk (w.heap.size + 1) [.slice y0.1 y0.2.2.length y0.2.1,.slice y1.1 y1.2.2.length y1.2.1,.slice y2.1 y2.2.2.length y2.2.1,.slice y3.1 y3.2.2.length y3.2.1,I f4] VF:=by rw [← hVF]; exact TR_.sets _ rfl
 have BF : Below w.heap.size w VF:=by rw [← hVF]; exact below_sets (by omega) _ _ _ BC_
 have hw0:=(ho0_.far (sets_grown (w.heap.size + 1) [.slice y0.1 y0.2.2.length y0.2.1,.slice y1.1 y1.2.2.length y1.2.1,.slice y2.1 y2.2.2.length y2.2.1,.slice y3.1 y3.2.2.length y3.2.1,I f4] 0 V4) (by omega)).le (by omega : w.heap.size ≤ w.heap.size + 3)
 rw [hVF] at hw0
 have hw1:=(ho1_.far (sets_grown (w.heap.size + 1) [.slice y0.1 y0.2.2.length y0.2.1,.slice y1.1 y1.2.2.length y1.2.1,.slice y2.1 y2.2.2.length y2.2.1,.slice y3.1 y3.2.2.length y3.2.1,I f4] 0 V4) (by omega)).le (by omega : w.heap.size ≤ w.heap.size + 3)
 rw [hVF] at hw1
 have hw2:=(ho2_.far (sets_grown (w.heap.size + 1) [.slice y0.1 y0.2.2.length y0.2.1,.slice y1.1 y1.2.2.length y1.2.1,.slice y2.1 y2.2.2.length y2.2.1,.slice y3.1 y3.2.2.length y3.2.1,I f4] 0 V4) (by omega)).le (by omega : w.heap.size ≤ w.heap.size + 3)
 rw [hVF] at hw2
 have hw3:=(ho3_.far (sets_grown (w.heap.size + 1) [.slice y0.1 y0.2.2.length y0.2.1,.slice y1.1 y1.2.2.length y1.2.1,.slice y2.1 y2.2.2.length y2.2.1,.slice y3.1 y3.2.2.length y3.2.1,I f4] 0 V4) (by omega)).le (by omega : w.heap.size ≤ w.heap.size + 3)
 rw [hVF] at hw3
 clear TA TR TO BC ZS hV4_ TA_ BC_ ZS_ ho0 ho0_ ho1 ho1_ ho2 ho2_ ho3 ho3_
 go_wp2_with (first | (refine wpList_ldB 40 _ (w.heap.size + 1 + 1) 0 _ [.slice y0.1 y0.2.2.length y0.2.1,.slice y1.1 y1.2.2.length y1.2.1,.slice y2.1 y2.2.2.length y2.2.1,.slice y3.1 y3.2.2.length y3.2.1,I f4] ie hie (Tryz.isAgg40) TO_ his.symm rfl rfl rfl rfl ?_) | (refine wpList_stB 40 _ _ (w.heap.size + 1) 0 _ [.slice y0.1 y0.2.2.length y0.2.1,.slice y1.1 y1.2.2.length y1.2.1,.slice y2.1 y2.2.2.length y2.2.1,.slice y3.1 y3.2.2.length y3.2.1,I f4] ie hie TR_ his.symm (by simp) rfl rfl rfl rfl rfl ?_; rw [hVF]) | go_in)
 exact bodyPost_ret (res_B1 rfl _ _ (w.heap.size + 1) [.slice y0.1 y0.2.2.length y0.2.1,.slice y1.1 y1.2.2.length y1.2.1,.slice y2.1 y2.2.2.length y2.2.1,.slice y3.1 y3.2.2.length y3.2.1,I f4] ie hie (Tryz.isAgg40) TF his.symm rfl) rfl ⟨(y0,y1,y2,y3,f4),rfl,by unfold stF; dsimp only; rw [hs0,hs1,hs2,hs3],⟨hw0,hw1,hw2,hw3⟩,BF⟩
set_option maxRecDepth 100000 in
set_option maxHeartbeats 6400000 in
theorem toN_is (p : TN) (w : World) (hd : DpN w p) (hl : totN p ≤ 1048576) : Calls Tryz.prog 32 #[vN p] w fun en w' => ∃ y : TN,en = .returned (vN y) ∧ stN y = stN p ∧ OwN w.heap.size w' y ∧ Below w.heap.size w w':=by
 obtain ⟨ie,hie,his⟩:=info_N
 obtain ⟨f0,f1⟩:=p
 unfold totN at hl
 unfold DpN at hd
 dsimp only at hl hd
 obtain ⟨hd0,hd1⟩:=hd
 obtain ⟨V0,hV0⟩ : ∃ V,((w.alloc (.cells #[.slice f0.1 f0.2.2.length f0.2.1,.slice f1.1 f1.2.2.length f1.2.1] 28)).alloc (.cells #[.slice none 0 0,.slice none 0 0] 41)).alloc (.cells #[.slice none 0 0,.slice none 0 0] 41) = V:=⟨_,rfl⟩
 have BC : Below w.heap.size w V0:=by rw [← hV0]; exact (((Below.refl _ _).alloc (Nat.le_refl _) _).alloc (by simp) _).alloc (by simp; omega) _
 have TA : Blk w.heap.size [.slice f0.1 f0.2.2.length f0.2.1,.slice f1.1 f1.2.2.length f1.2.1] V0:=by rw [← hV0]; exact ((Blk.new w #[.slice f0.1 f0.2.2.length f0.2.1,.slice f1.1 f1.2.2.length f1.2.1] 28).alloc (by simp) _).alloc (by simp; omega) _
 have TR : Blk (w.heap.size + 1) [.slice none 0 0,.slice none 0 0] V0:=by rw [← hV0]; have:=(Blk.new (w.alloc (.cells #[.slice f0.1 f0.2.2.length f0.2.1,.slice f1.1 f1.2.2.length f1.2.1] 28)) #[.slice none 0 0,.slice none 0 0] 41).alloc (by simp) (.cells #[.slice none 0 0,.slice none 0 0] 41); simpa using this
 have TO : Blk (w.heap.size + 1 + 1) [.slice none 0 0,.slice none 0 0] V0:=by rw [← hV0]; have:=Blk.new ((w.alloc (.cells #[.slice f0.1 f0.2.2.length f0.2.1,.slice f1.1 f1.2.2.length f1.2.1] 28)).alloc (.cells #[.slice none 0 0,.slice none 0 0] 41)) #[.slice none 0 0,.slice none 0 0] 41; simpa using this
 have ZS : Hid (w.heap.size + 3 ≤ V0.heap.size):=by show _ ≤ _; rw [← hV0]; simp
 have a0:=TA.at 0 rfl
 go_enter Tryz.func32,Tryz.ntmps32
 go_wp2_with fail
 try rw [hV0]
 refine (toSS_u f0 V0 (hd0.later BC) (by omega)).mono ?_
 clear hV0 a0
 rintro en v0 ⟨y0,rfl,hs0,ho0,hb⟩
 replace ho0:=ho0.le ZS.out
 replace TA:=TA.later hb (by have:=ZS.out; omega)
 replace TR:=TR.later hb (by have:=ZS.out; omega)
 replace TO:=TO.later hb (by have:=ZS.out; omega)
 replace BC:=BC.trans (hb.mono BC.size)
 replace ZS : Hid (w.heap.size + 3 ≤ v0.heap.size):=Nat.le_trans ZS.out hb.size
 clear hb
 have o0:=TO.at 0 rfl
 have z0:=TO.fz 0 rfl
 obtain ⟨V1,hV1⟩ : ∃ V,(v0.setCell ⟨(w.heap.size + 1 + 1),0,none⟩ (.slice y0.1 y0.2.2.length y0.2.1)) = V:=⟨_,rfl⟩
 have hV1_ : v0.setCells (w.heap.size + 1 + 1) 0 [.slice y0.1 y0.2.2.length y0.2.1] = V1:=hV1
 have BC_ : Below w.heap.size w V1:=by rw [← hV1_]; exact below_sets (by omega) _ _ _ BC
 have TA_ : Blk w.heap.size [.slice f0.1 f0.2.2.length f0.2.1,.slice f1.1 f1.2.2.length f1.2.1] V1:=by rw [← hV1_]; exact Blk.farS (by omega) _ _ _ TA
 have TR_ : Blk (w.heap.size + 1) [.slice none 0 0,.slice none 0 0] V1:=by rw [← hV1_]; exact Blk.farS (by omega) _ _ _ TR
 have TO_ : Blk (w.heap.size + 1 + 1) [.slice y0.1 y0.2.2.length y0.2.1,.slice none 0 0] V1:=by rw [← hV1_]; exact TO.part 0 [.slice y0.1 y0.2.2.length y0.2.1] _ (by simp) rfl
 have ho0_:=ho0.far (sets_grown (w.heap.size + 1 + 1) [.slice y0.1 y0.2.2.length y0.2.1] 0 v0) (by omega)
 rw [hV1_] at ho0_
 have ZS_ : Hid (w.heap.size + 3 ≤ V1.heap.size):=Nat.le_trans ZS.out (by rw [← hV1_]; exact (sets_grown (w.heap.size + 1 + 1) _ _ _).size)
 clear TA TR TO BC ZS hV1_ ho0
 have TA:=TA_
 have TR:=TR_
 have TO:=TO_
 have BC:=BC_
 have ZS:=ZS_
 have ho0:=ho0_
 clear TA_ TR_ TO_ BC_ ZS_ ho0_
 have b1:=TA.at 1 rfl
 go_wp2_with fail
 try rw [hV1]
 refine (toSI_u f1 V1 (hd1.later BC) (by omega)).mono ?_
 clear hV1 o0 z0 b1
 rintro en v1 ⟨y1,rfl,hs1,ho1,hb⟩
 replace ho1:=ho1.le ZS.out
 replace TA:=TA.later hb (by have:=ZS.out; omega)
 replace TR:=TR.later hb (by have:=ZS.out; omega)
 replace TO:=TO.later hb (by have:=ZS.out; omega)
 replace BC:=BC.trans (hb.mono BC.size)
 replace ho0:=ho0.later hb
 replace ZS : Hid (w.heap.size + 3 ≤ v1.heap.size):=Nat.le_trans ZS.out hb.size
 clear hb
 have o1:=TO.at 1 rfl
 have z1:=TO.fz 1 rfl
 obtain ⟨V2,hV2⟩ : ∃ V,(v1.setCell ⟨(w.heap.size + 1 + 1),1,none⟩ (.slice y1.1 y1.2.2.length y1.2.1)) = V:=⟨_,rfl⟩
 have hV2_ : v1.setCells (w.heap.size + 1 + 1) 1 [.slice y1.1 y1.2.2.length y1.2.1] = V2:=hV2
 have BC_ : Below w.heap.size w V2:=by rw [← hV2_]; exact below_sets (by omega) _ _ _ BC
 have TA_ : Blk w.heap.size [.slice f0.1 f0.2.2.length f0.2.1,.slice f1.1 f1.2.2.length f1.2.1] V2:=by rw [← hV2_]; exact Blk.farS (by omega) _ _ _ TA
 have TR_ : Blk (w.heap.size + 1) [.slice none 0 0,.slice none 0 0] V2:=by rw [← hV2_]; exact Blk.farS (by omega) _ _ _ TR
 have TO_ : Blk (w.heap.size + 1 + 1) [.slice y0.1 y0.2.2.length y0.2.1,.slice y1.1 y1.2.2.length y1.2.1] V2:=by rw [← hV2_]; exact TO.part 1 [.slice y1.1 y1.2.2.length y1.2.1] _ (by simp) rfl
 have ho0_:=ho0.far (sets_grown (w.heap.size + 1 + 1) [.slice y1.1 y1.2.2.length y1.2.1] 1 v1) (by omega)
 rw [hV2_] at ho0_
 have ho1_:=ho1.far (sets_grown (w.heap.size + 1 + 1) [.slice y1.1 y1.2.2.length y1.2.1] 1 v1) (by omega)
 rw [hV2_] at ho1_
 have ZS_ : Hid (w.heap.size + 3 ≤ V2.heap.size):=Nat.le_trans ZS.out (by rw [← hV2_]; exact (sets_grown (w.heap.size + 1 + 1) _ _ _).size)
 obtain ⟨VF,hVF⟩ : ∃ V,V2.setCells (w.heap.size + 1) 0 [.slice y0.1 y0.2.2.length y0.2.1,.slice y1.1 y1.2.2.length y1.2.1] = V:=⟨_,rfl⟩
 have TF : Blk (w.heap.size + 1) [.slice y0.1 y0.2.2.length y0.2.1,.slice y1.1 y1.2.2.length y1.2.1] VF:=by rw [← hVF]; exact TR_.sets _ rfl
 have BF : Below w.heap.size w VF:=by rw [← hVF]; exact below_sets (by omega) _ _ _ BC_
 have hw0:=(ho0_.far (sets_grown (w.heap.size + 1) [.slice y0.1 y0.2.2.length y0.2.1,.slice y1.1 y1.2.2.length y1.2.1] 0 V2) (by omega)).le (by omega : w.heap.size ≤ w.heap.size + 3)
 rw [hVF] at hw0
 have hw1:=(ho1_.far (sets_grown (w.heap.size + 1) [.slice y0.1 y0.2.2.length y0.2.1,.slice y1.1 y1.2.2.length y1.2.1] 0 V2) (by omega)).le (by omega : w.heap.size ≤ w.heap.size + 3)
 rw [hVF] at hw1
 clear TA TR TO BC ZS hV2_ TA_ BC_ ZS_ ho0 ho0_ ho1 ho1_
 go_wp2_with (first | (refine wpList_ldB 41 _ (w.heap.size + 1 + 1) 0 _ [.slice y0.1 y0.2.2.length y0.2.1,.slice y1.1 y1.2.2.length y1.2.1] ie hie (Tryz.isAgg41) TO_ his.symm rfl rfl rfl rfl ?_) | (refine wpList_stB 41 _ _ (w.heap.size + 1) 0 _ [.slice y0.1 y0.2.2.length y0.2.1,.slice y1.1 y1.2.2.length y1.2.1] ie hie TR_ his.symm (by simp) rfl rfl rfl rfl rfl ?_; rw [hVF]) | go_in)
 exact bodyPost_ret (res_B1 rfl _ _ (w.heap.size + 1) [.slice y0.1 y0.2.2.length y0.2.1,.slice y1.1 y1.2.2.length y1.2.1] ie hie (Tryz.isAgg41) TF his.symm rfl) rfl ⟨(y0,y1),rfl,by unfold stN; dsimp only; rw [hs0,hs1],⟨hw0,hw1⟩,BF⟩
end Go.Proofs.YtlmpfkbgknbcnaaGreat.Nd
