/- The view: what is seen because a term is. -/
import Derived.Test.YtlmpfkbgknbcnaaGreatKView3
import Derived.Test.YtlmpfkbgknbcnaaGreatKnow3
import Derived.Test.YtlmpfkbgknbcnaaGreatKClone
import Derived.Lib.SliceRun
import Derived.Maps.AppendAt
set_option linter.unusedVariables false
namespace Go.Proofs.YtlmpfkbgknbcnaaGreat.Kn
open Go.RowKit _root_.Go.Proofs.YtlmpfkbgknbcnaaGreat.Own Var Term
/-- What is seen because t is. -/
def VS.follow (s : VS) (t : ByteArray) : VS :=
 match rk t 107 with
 | some (n,_) => s.reach n
 | none => match rk t 115 with
  | some (n,r) => if (s.F n).1 = true then ⟨s.A ++ [r],s.T,s.F⟩ else ⟨s.A,s.T,fun j => if j = (n : Int) then ((s.F n).1,(s.F n).2 ++ [r]) else s.F j⟩
  | none => ⟨s.A ++ (partsR t).1,s.T,s.F⟩
theorem rk_kind {t r : ByteArray} {n c : Nat} (hT : isT t = true) (hc : cut t = some (n,r)) (h0 : at_ t 0 = c) (k : Nat) : rk t k = if c = k then some (n,r) else none:=by
 unfold rk
 by_cases e : c = k
 ·rw [if_pos ⟨hT,by rw [h0,e]⟩,if_pos e,hc]
 ·rw [if_neg (fun h => e (by rw [← h0]; exact h.2)),if_neg e]
theorem parts_none {t : ByteArray} (h : rk t 108 = none) : (partsR t).1 = []:=by unfold partsR; rw [h]
theorem src_one (w : World) (r : ByteArray) : Src Tryz.prog 1 26 (.slice (some ⟨w.heap.size,0,none⟩) 1 1) [r].length (strV [r]) (w.alloc (.cells #[.string r] 9)):=by
 refine Src.ofSlice _ Tryz.underlying26 ⟨w.heap.size,0,none⟩ 1 1 (strV [r]) rfl (cell_one_new w (.string r) 9) (fun u hu => ?_)
 simp [strV] at hu
 subst hu
 rfl
section
variable {X : Nat → Prop} {p N : Nat} {s : VS} {w : World} {t r : ByteArray} {n : Nat}
set_option maxRecDepth 100000 in
set_option maxHeartbeats 3200000 in
theorem follow_key (h : ViewAt X p N s w) (hN : N < 8589934592) (hs : t.size ≤ 1048576) (hc : cut t = some (n,r)) (hn : n ≤ 1000000) (h0 : 0 < t.size) (e0 : t[0].toNat = 107) (hA : s.A.length + (s.F n).2.length ≤ 8589934592) :
  Calls Tryz.prog 185 #[.pointer (some ⟨p,0,none⟩),.string t] w fun e w' => e = .returned (.tuple #[]) ∧ ViewAt X p (N + 1) (s.reach n) w' ∧ Keep X w w':=by
 have H1:=cutHead_yes t r n w hs hc
 have HX:=h.xlt
 go_enter Tryz.func185,Tryz.ntmps185
 go_wp2_with fail
 refine H1.mono ?_
 rintro e w1 ⟨rfl,hb1⟩
 have H2:=reach_is (h.below hb1) hN (k:=n) (by simp [Lit.wf,IntKind.min,IntKind.max,IntKind.signed,IntKind.bits]; omega) hA
 have K1 : Hid (Keep X w w1):=Keep.ofBelow hb1 HX
 clear H1 h hb1 HX
 go_wp2_with fail
 refine H2.mono ?_
 rintro e w2 ⟨rfl,hv,hk⟩
 have HV : Hid (ViewAt X p (N + 1) (s.reach n) w2):=hv
 have HK : Hid (Keep X w w2):=K1.out.trans hk
 clear H2 hv hk K1
 go_wp2
 go_end0
 exact ⟨rfl,HV.out,HK.out⟩
set_option maxRecDepth 100000 in
set_option maxHeartbeats 3200000 in
theorem follow_list (h : ViewAt X p N s w) (hs : t.size ≤ 1048576) (hc : cut t = some (n,r)) (h0 : 0 < t.size) (e0 : t[0].toNat = 108) (hA : s.A.length + (partsR t).1.length ≤ 8589934592) :
  Calls Tryz.prog 185 #[.pointer (some ⟨p,0,none⟩),.string t] w fun e w' => e = .returned (.tuple #[]) ∧ ViewAt X p N ⟨s.A ++ (partsR t).1,s.T,s.F⟩ w' ∧ Keep X w w':=by
 have H1:=cutHead_yes t r n w hs hc
 have HX:=h.xlt
 go_enter Tryz.func185,Tryz.ntmps185
 go_wp2_with fail
 refine H1.mono ?_
 rintro e w1 ⟨rfl,hb1⟩
 have H2:=impl_parts t w1 hs
 have h1:=h.below hb1
 clear H1 h
 go_wp2_with fail
 refine H2.mono ?_
 rintro e w2 ⟨v,rfl,ho,hb2⟩
 obtain ⟨a2,c2,rfl,_,hrow⟩:=own_row ho
 have h2:=h1.below hb2
 have hsrc:=src_row w2 a2 c2 (partsR t).1 hrow
 have K2:=(Keep.ofBelow hb1 HX).trans (Keep.ofBelow hb2 h1.xlt)
 obtain ⟨mT,mL,DT,DL,rv,hm⟩:=h2
 obtain ⟨v1,w3,hrun,hk1,hg1,⟨a1,n1,cap1,hv1⟩,hm1⟩:=hm.ahead 26 hsrc hA
 have d0:=hm.c0
 have ep : w3.heap[p]? = w2.heap[p]?:=hg1.block p hm.lt.1 (fun e => (hm.far none p e.symm).1 rfl)
 have dd:=(World.cell?_of_block (a:=⟨p,0,none⟩) ep).trans hm.c0
 have df:=(World.frozen?_of_block (a:=⟨p,0,none⟩) ep).trans hm.f0
 subst hv1
 obtain ⟨W4,hW4⟩ : ∃ W4,w3.setCell ⟨p,0,none⟩ (.slice a1 n1 cap1) = W4:=⟨_,rfl⟩
 rw [hW4] at hm1 hk1
 have HV : Hid (ViewAt X p N ⟨s.A ++ (partsR t).1,s.T,s.F⟩ W4):=⟨mT,mL,DT,DL,_,hm1⟩
 have HK : Hid (Keep X w W4):=K2.trans hk1
 clear H2 hm hm1 hk1 K2 hsrc ho hrow h1 hb1 hb2 ep hg1 HX
 go_wp2_with (first | (at_builtin; refine Vw.wpList_append rfl _ _ 26 rfl (rv none) _ (.slice a1 n1 cap1) rfl rfl hrun ?_) | go_in)
 go_wp2
 try rw [hW4]
 go_end0
 exact ⟨rfl,HV.out,HK.out⟩
set_option maxRecDepth 100000 in
set_option maxHeartbeats 3200000 in
theorem follow_none (h : ViewAt X p N s w) (hs : t.size ≤ 1048576) (hc : cut t = some (n,r)) (h0 : 0 < t.size) (e0 : ((t[0].toNat : Int) == 107) = false) (e1 : ((t[0].toNat : Int) == 108) = false) (e2 : ((t[0].toNat : Int) == 115) = false) :
  Calls Tryz.prog 185 #[.pointer (some ⟨p,0,none⟩),.string t] w fun e w' => e = .returned (.tuple #[]) ∧ ViewAt X p N s w' ∧ Keep X w w':=by
 have H1:=cutHead_yes t r n w hs hc
 have HX:=h.xlt
 go_enter Tryz.func185,Tryz.ntmps185
 go_wp2_with fail
 refine H1.mono ?_
 rintro e w1 ⟨rfl,hb1⟩
 have h1:=h.below hb1
 go_wp2
 go_end0
 exact ⟨rfl,h1,Keep.ofBelow hb1 HX⟩
set_option maxRecDepth 100000 in
set_option maxHeartbeats 3200000 in
theorem follow_open (h : ViewAt X p N s w) (hs : t.size ≤ 1048576) (hc : cut t = some (n,r)) (hn : n ≤ 1000000) (h0 : 0 < t.size) (e0 : t[0].toNat = 115) (hF : (s.F n).1 = true) (hA : s.A.length + 1 ≤ 8589934592) :
  Calls Tryz.prog 185 #[.pointer (some ⟨p,0,none⟩),.string t] w fun e w' => e = .returned (.tuple #[]) ∧ ViewAt X p N ⟨s.A ++ [r],s.T,s.F⟩ w' ∧ Keep X w w':=by
 have H1:=cutHead_yes t r n w hs hc
 have HX:=h.xlt
 have hk : (Lit.int .i64 (n : Int)).wf = true:=by simp [Lit.wf,IntKind.min,IntKind.max,IntKind.signed,IntKind.bits]; omega
 go_enter Tryz.func185,Tryz.ntmps185
 go_wp2_with fail
 refine H1.mono ?_
 rintro e w1 ⟨rfl,hb1⟩
 have h1:=h.below hb1
 have K1:=Keep.ofBelow hb1 HX
 clear H1 h hb1 HX
 obtain ⟨mT,mL,DT,DL,rv,hm⟩:=h1
 have e3:=hm.look_at hk (V:=w1) rfl
 obtain ⟨a5,n5,c5,hrv⟩ : ∃ a5 n5 c5,rv (some (n : Int)) = .slice a5 n5 c5:=by obtain ⟨a,c,e,_⟩:=(hm.q (some (n : Int))).shape; exact ⟨a,_,c,e⟩
 rw [hF,hrv] at e3
 have d2:=hm.c2
 obtain ⟨W2,hW2⟩ : ∃ W2,w1.alloc (.cells #[.bool true,.slice a5 n5 c5] 165) = W2:=⟨_,rfl⟩
 have hb2 : Below w1.heap.size w1 W2:=by rw [← hW2]; exact (Below.refl _ _).alloc (Nat.le_refl _) _
 have g0 : W2.cell? ⟨w1.heap.size,0,none⟩ = some (.bool true):=by rw [← hW2]; simp [go_sem]
 have hm2:=hm.below hb2
 have K2:=K1.trans (Keep.ofBelow hb2 hm.xlt)
 have c2:=hm2.c0
 have hb3 : Below W2.heap.size W2 (W2.alloc (.cells #[.string r] 9)):=(Below.refl _ _).alloc (Nat.le_refl _) _
 have hm3:=hm2.below hb3
 have K3:=K2.trans (Keep.ofBelow hb3 hm2.xlt)
 obtain ⟨v1,w3,hrun,hk1,hg1,⟨a1,n1,cap1,hv1⟩,hm4⟩:=hm3.ahead 26 (src_one W2 r) hA
 have ep : w3.heap[p]? = (W2.alloc (.cells #[.string r] 9)).heap[p]?:=hg1.block p hm3.lt.1 (fun e => (hm.far none p e.symm).1 rfl)
 have dd:=(World.cell?_of_block (a:=⟨p,0,none⟩) ep).trans hm3.c0
 have df:=(World.frozen?_of_block (a:=⟨p,0,none⟩) ep).trans hm3.f0
 subst hv1
 obtain ⟨W4,hW4⟩ : ∃ W4,w3.setCell ⟨p,0,none⟩ (.slice a1 n1 cap1) = W4:=⟨_,rfl⟩
 rw [hW4] at hm4 hk1
 have HV : Hid (ViewAt X p N ⟨s.A ++ [r],s.T,s.F⟩ W4):=⟨mT,mL,DT,DL,_,hm4⟩
 have HK : Hid (Keep X w W4):=K3.trans hk1
 have LT : w1.heap.size < W2.heap.size:=by rw [← hW2]; simp
 clear hm hm2 hm3 hm4 hk1 K1 K2 K3 ep hg1 hb2 hb3 hrv
 go_wp2_with (first | (at_builtin; refine Vw.wpList_append rfl _ _ 26 rfl (rv none) _ (.slice a1 n1 cap1) rfl rfl hrun ?_) | go_in)
 go_wp2
 try rw [hW4]
 exact bodyPost_ret (results_none rfl _ _ _) rfl ⟨rfl,HV.out,HK.out⟩
set_option maxRecDepth 100000 in
set_option maxHeartbeats 3200000 in
theorem follow_shut (h : ViewAt X p N s w) (hN : N < 8589934592) (hs : t.size ≤ 1048576) (hc : cut t = some (n,r)) (hn : n ≤ 1000000) (h0 : 0 < t.size) (e0 : t[0].toNat = 115) (hF : (s.F n).1 = false) (hA : (s.F n).2.length + 1 ≤ 8589934592) :
  Calls Tryz.prog 185 #[.pointer (some ⟨p,0,none⟩),.string t] w fun e w' => e = .returned (.tuple #[]) ∧ ViewAt X p (N + 1) ⟨s.A,s.T,fun j => if j = (n : Int) then (false,(s.F n).2 ++ [r]) else s.F j⟩ w' ∧ Keep X w w':=by
 have H1:=cutHead_yes t r n w hs hc
 have HX:=h.xlt
 have hk : (Lit.int .i64 (n : Int)).wf = true:=by simp [Lit.wf,IntKind.min,IntKind.max,IntKind.signed,IntKind.bits]; omega
 go_enter Tryz.func185,Tryz.ntmps185
 go_wp2_with fail
 refine H1.mono ?_
 rintro e w1 ⟨rfl,hb1⟩
 have h1:=h.below hb1
 have K1:=Keep.ofBelow hb1 HX
 clear H1 h hb1 HX
 -- the lock that is copied lies apart
 obtain ⟨mT,mL,DT,DL,rv,hm⟩:=h1
 have e3:=hm.look_at hk (V:=w1) rfl
 obtain ⟨a5,n5,c5,hrv⟩ : ∃ a5 n5 c5,rv (some (n : Int)) = .slice a5 n5 c5:=by obtain ⟨a,c,e,_⟩:=(hm.q (some (n : Int))).shape; exact ⟨a,_,c,e⟩
 rw [hF,hrv] at e3
 have d2:=hm.c2
 obtain ⟨W2,hW2⟩ : ∃ W2,w1.alloc (.cells #[.bool false,.slice a5 n5 c5] 165) = W2:=⟨_,rfl⟩
 have hb2 : Below w1.heap.size w1 W2:=by rw [← hW2]; exact (Below.refl _ _).alloc (Nat.le_refl _) _
 have g0 : W2.cell? ⟨w1.heap.size,0,none⟩ = some (.bool false):=by rw [← hW2]; simp [go_sem]
 have g1 : W2.cell? ⟨w1.heap.size,1,none⟩ = some (.slice a5 n5 c5):=by rw [← hW2]; simp [go_sem]
 have g2 : W2.frozen? ⟨w1.heap.size,1,none⟩ = false:=by rw [← hW2]; simp [go_sem]
 have LT : w1.heap.size < W2.heap.size:=by rw [← hW2]; simp
 have hm2 : ViewM (fun k => X k ∨ k = w1.heap.size) p N mT mL DT DL rv s W2:=hm.kept hb2.size (fun k hk _ => hb2.block k hk) (fun k hk => by
  rcases hk with hk | rfl
  ·exact ⟨Nat.lt_trans (hm.xlt k hk) LT,Or.inl hk⟩
  ·exact ⟨LT,Or.inr (Nat.le_refl _)⟩)
 have K2:=K1.trans (Keep.ofBelow hb2 hm.xlt)
 have hb3 : Below W2.heap.size W2 (W2.alloc (.cells #[.string r] 9)):=(Below.refl _ _).alloc (Nat.le_refl _) _
 have hm3:=hm2.below hb3
 have K3:=K2.trans (Keep.ofBelow hb3 (fun k hk => Nat.lt_trans (hm.xlt k hk) LT))
 obtain ⟨v1,w3,hrun,hk1,hm4,hq4,⟨a1,n1,cap1,hv1⟩,hsv⟩:=hm3.shut (n : Int) 26 (src_one W2 r) hA
 rw [hrv] at hrun
 subst hv1
 have G0 : w3.cell? ⟨w1.heap.size,0,none⟩ = some (.bool false):=(hk1.cell (Or.inr rfl) 0).trans ((hb3.cell (p:=⟨w1.heap.size,0,none⟩) LT).trans g0)
 have G1 : w3.cell? ⟨w1.heap.size,1,none⟩ = some (.slice a5 n5 c5):=(hk1.cell (Or.inr rfl) 1).trans ((hb3.cell (p:=⟨w1.heap.size,1,none⟩) LT).trans g1)
 have G2 : w3.frozen? ⟨w1.heap.size,1,none⟩ = false:=(hk1.frozen (Or.inr rfl) 1).trans ((hb3.frozen (p:=⟨w1.heap.size,1,none⟩) LT).trans g2)
 obtain ⟨W4,hW4⟩ : ∃ W4,w3.setCell ⟨w1.heap.size,1,none⟩ (.slice a1 n1 cap1) = W4:=⟨_,rfl⟩
 have L3 : w1.heap.size < w3.heap.size:=Nat.lt_of_lt_of_le LT (Nat.le_trans hb3.size hk1.size)
 have es4 : ∀ k,k ≠ w1.heap.size → W4.heap[k]? = w3.heap[k]?:=fun k hk => by rw [← hW4]; exact Below.heap_setCell w3 ⟨w1.heap.size,1,none⟩ _ k (fun e => hk e)
 have z4 : W4.heap.size = w3.heap.size:=by rw [← hW4]; simp
 have y0 : W4.cell? ⟨w1.heap.size,0,none⟩ = some (.bool false):=by rw [← hW4,World.cell?_setCell_other _ _ _ _ (by simp)]; exact G0
 have y1 : W4.cell? ⟨w1.heap.size,1,none⟩ = some (.slice a1 n1 cap1):=by rw [← hW4]; exact World.cell?_setCell_same' _ _ _ (by rw [G1]; rfl)
 have hm5 : ViewM (fun k => X k ∨ k = w1.heap.size) p N mT mL DT DL rv s W4:=hm4.kept (Nat.le_of_eq z4.symm) (fun k _ hk => es4 k (fun e => hk (Or.inr e))) (fun k hk => ⟨by rw [z4]; exact hm4.xlt k hk,Or.inl hk⟩)
 have hq5 : QRow 0 W4 (.slice a1 n1 cap1) ((s.F n).2 ++ [r]):=hq4.kept (Nat.le_of_eq z4.symm) fun k hk => es4 k (fun e => (hsv k hk).1.2.2.2 (Or.inr e))
 have hB4:=(Below.refl 0 w3).setCell (p:=⟨w1.heap.size,1,none⟩) (Nat.zero_le _) (.slice a1 n1 cap1)
 rw [hW4] at hB4
 have K4 : Keep X w W4:=K3.trans ((hk1.mono (fun k hk => Or.inl hk)).trans ⟨hB4.os,hB4.tape,hB4.output,hB4.size,fun k hk => es4 k (fun e => Nat.lt_irrefl w1.heap.size (e ▸ hm.xlt k hk))⟩)
 have hm6 : ViewM (fun k => X k ∨ k = w1.heap.size) p N mT mL DT DL rv s W4.drew:=hm5.below (Below.refl _ _).drew
 obtain ⟨w7,hrun7,hk7,hv7⟩:=hm6.put hN hk false (.slice a1 n1 cap1) ((s.F n).2 ++ [r]) (hq5.kept (Nat.le_refl _) fun _ _ => rfl) hsv
 have HV : Hid (ViewAt X p (N + 1) ⟨s.A,s.T,fun j => if j = (n : Int) then (false,(s.F n).2 ++ [r]) else s.F j⟩ w7):=hv7.less (fun k hk => Or.inl hk)
 have HK : Hid (Keep X w w7):=K4.trans ((Keep.ofBelow (Below.refl W4.heap.size W4).drew (fun k hk => by rw [z4]; exact Nat.lt_trans (hm.xlt k hk) L3)).trans (hk7.mono (fun k hk => Or.inl hk)))
 have m2 : W4.drew.cell? ⟨p,2,none⟩ = some (.map (some mL)):=hm6.c2
 have y0' : W4.drew.cell? ⟨w1.heap.size,0,none⟩ = some (.bool false):=y0
 have y1' : W4.drew.cell? ⟨w1.heap.size,1,none⟩ = some (.slice a1 n1 cap1):=y1
 clear hm hm2 hm3 hm4 hm5 hm6 hk1 hk7 hv7 K1 K2 K3 K4 hb2 hb3 hrv hq4 hq5 hsv es4 hB4 y0 y1
 go_wp2_with (first | (at_builtin; refine Vw.wpList_append rfl _ _ 26 rfl (.slice a5 n5 c5) _ (.slice a1 n1 cap1) rfl rfl hrun ?_) | go_in)
 go_wp2_with fail
 try rw [hW4]
 refine wp_region_any (by kernel_rfl) ?_
 show wpAny _ _ _ _ _ _ _ W4.drew
 refine Vw.take_any 0 63 (v:=?_) rfl rfl (by kernel_rfl) (by kernel_rfl) (by kernel_rfl) (fun _ _ _ h => h) (Or.inl ⟨by rfl,?_⟩) ?_
 rotate_left
 ·intro w'; go_simp; try with_reducible rfl
 try simp only [Act.put,pa,pb,pc]
 refine Vw.take_any 1 64 (v:=?_) rfl rfl (by kernel_rfl) (by kernel_rfl) (by kernel_rfl) (fun _ _ _ h => h) (Or.inl ⟨by rfl,?_⟩) ?_
 rotate_left
 ·intro w'; go_simp; try with_reducible rfl
 try simp only [Act.put,pa,pb,pc]
 refine Vw.take_any 2 65 (v:=?_) rfl rfl (by kernel_rfl) (by kernel_rfl) (by kernel_rfl) (fun _ _ _ h => h) (Or.inl ⟨by rfl,?_⟩) ?_
 rotate_left
 ·intro w'; go_simp; try with_reducible rfl
 try simp only [Act.put,pa,pb,pc]
 refine Vw.take_any 4 67 (v:=?_) rfl rfl (by kernel_rfl) (by kernel_rfl) (by kernel_rfl) (fun _ _ _ h => h) (Or.inl ⟨by rfl,?_⟩) ?_
 rotate_left
 ·intro w'; go_simp; try with_reducible rfl
 try simp only [Act.put,pa,pb,pc]
 refine wpAny_ready (rs:=[3,5]) (by kernel_rfl) (by simp) ?_
 refine AllReady.cons (i:=3) rfl (fun K hK => ?_) (AllReady.cons (i:=5) rfl (fun K hK => ?_) AllReady.nil)
 ·
  go_simp
  refine hK _ _ ?_
  clear hK K
  try simp only [Act.put,pa,pb,pc]
  refine wpAny_ready (rs:=[5]) (by kernel_rfl) (by simp) ?_
  refine AllReady.cons (i:=5) rfl (fun K hK => ?_) AllReady.nil
  go_simp
  refine hK _ _ ?_
  clear hK K
  try simp only [Act.put,pa,pb,pc]
  refine wpAny_ready (rs:=[6]) (by kernel_rfl) (by simp) ?_
  refine AllReady.cons (i:=6) rfl (fun K hK => ?_) AllReady.nil
  go_simp
  refine hK _ _ ?_
  clear hK K
  try simp only [Act.put,pa,pb,pc]
  refine wpAny_done (by kernel_rfl) ?_ _
  clear hW4 hW2
  go_wp2
  go_end0
  exact ⟨rfl,HV.out,HK.out⟩
 ·
  go_simp
  refine hK _ _ ?_
  clear hK K
  try simp only [Act.put,pa,pb,pc]
  refine wpAny_ready (rs:=[3]) (by kernel_rfl) (by simp) ?_
  refine AllReady.cons (i:=3) rfl (fun K hK => ?_) AllReady.nil
  go_simp
  refine hK _ _ ?_
  clear hK K
  try simp only [Act.put,pa,pb,pc]
  refine wpAny_ready (rs:=[6]) (by kernel_rfl) (by simp) ?_
  refine AllReady.cons (i:=6) rfl (fun K hK => ?_) AllReady.nil
  go_simp
  refine hK _ _ ?_
  clear hK K
  try simp only [Act.put,pa,pb,pc]
  refine wpAny_done (by kernel_rfl) ?_ _
  clear hW4 hW2
  go_wp2
  go_end0
  exact ⟨rfl,HV.out,HK.out⟩
/-- What follows of a term is what the document says. -/
theorem follow_is (h : ViewAt X p N s w) (hN : N < 8589934592) (hT : isT t = true) (hA : ∀ k,s.A.length + (s.F k).2.length + 20 ≤ 8589934592) :
  Calls Tryz.prog 185 #[.pointer (some ⟨p,0,none⟩),.string t] w fun e w' => e = .returned (.tuple #[]) ∧ ViewAt X p (N + 1) (s.follow t) w' ∧ Keep X w w':=by
 have hsz:=((isT_iff t).1 hT).1
 obtain ⟨n,r,hc⟩:=((isT_iff t).1 hT).cut
 obtain ⟨g0,g1,_⟩:=cut_size hc
 have h0 : 0 < t.size:=by omega
 have hat:=at_eq t 0 h0
 have R:=rk_kind hT hc hat.symm
 have hAn:=hA n
 by_cases e1 : t[0].toNat = 107
 ·have : s.follow t = s.reach n:=by unfold VS.follow; rw [R 107,if_pos e1]
  rw [this]
  exact follow_key h hN (by omega) hc g1 h0 e1 (by omega)
 ·by_cases e2 : t[0].toNat = 108
  ·have : s.follow t = ⟨s.A ++ (partsR t).1,s.T,s.F⟩:=by
    unfold VS.follow
    rw [R 107,if_neg e1,R 115,if_neg (by omega)]
   rw [this]
   exact (follow_list h (by omega) hc h0 e2 (by have:=parts_len t; omega)).mono fun e w' ⟨h1,h2,h3⟩ => ⟨h1,h2.more (Nat.le_succ _),h3⟩
  ·by_cases e3 : t[0].toNat = 115
   ·by_cases hF : (s.F n).1 = true
    ·have : s.follow t = ⟨s.A ++ [r],s.T,s.F⟩:=by
      unfold VS.follow
      rw [R 107,if_neg e1,R 115,if_pos e3]
      simp only [if_pos hF]
     rw [this]
     exact (follow_open h (by omega) hc g1 h0 e3 hF (by omega)).mono fun e w' ⟨h1,h2,h3⟩ => ⟨h1,h2.more (Nat.le_succ _),h3⟩
    ·have hF' : (s.F n).1 = false:=by simpa using hF
     have : s.follow t = ⟨s.A,s.T,fun j => if j = (n : Int) then (false,(s.F n).2 ++ [r]) else s.F j⟩:=by
      unfold VS.follow
      rw [R 107,if_neg e1,R 115,if_pos e3]
      simp [hF']
     rw [this]
     exact follow_shut h hN (by omega) hc g1 h0 e3 hF' (by omega)
   ·have : s.follow t = s:=by
     unfold VS.follow
     rw [R 107,if_neg e1,R 115,if_neg e3,parts_none (by rw [R 108,if_neg e2])]
     simp
    rw [this]
    exact (follow_none h (by omega) hc h0 (by simp; omega) (by simp; omega) (by simp; omega)).mono fun e w' ⟨h1,h2,h3⟩ => ⟨h1,h2.more (Nat.le_succ _),h3⟩
end
end Go.Proofs.YtlmpfkbgknbcnaaGreat.Kn

set_option linter.unusedVariables false
namespace Go.Proofs.YtlmpfkbgknbcnaaGreat.Kn
open Go.RowKit _root_.Go.Proofs.YtlmpfkbgknbcnaaGreat.Own Var Term
theorem app_assoc (a b c : ByteArray) : a ++ b ++ c = a ++ (b ++ c):=by apply ext_list; simp only [data_append,List.append_assoc]
theorem nil_app (a : ByteArray) : ⟨#[]⟩ ++ a = a:=by apply ext_list; rw [data_append]; simp
theorem take_suf (t : ByteArray) (n : Nat) : t = t.extract 0 n ++ suf t n:=by
 apply ext_list
 rw [data_append,suf_list,extract_list,List.drop_zero,Nat.sub_zero,List.take_append_drop]
theorem suf_app (a b : ByteArray) : suf (a ++ b) a.size = b:=by
 apply ext_list
 rw [suf_list,data_append,size_list,List.drop_left]
theorem ext_size_eq (t : ByteArray) (n : Nat) (h : n ≤ t.size) : (t.extract 0 n).size = n:=by simp [ByteArray.size_extract]; omega
/-- The head of a term, and what stands behind it. -/
theorem cut_form {x t : ByteArray} {n : Nat} (h : cut x = some (n,t)) : ∃ c : UInt8,x = hdT c n ++ t ∧ hdOk c.toNat n = true ∧ at_ x 0 = c.toNat ∧ n ≤ 562949953421311:=by
 have hz:=cut_size h
 unfold cut at h
 split at h
 ·rename_i c
  simp only [Option.some.injEq,Prod.mk.injEq] at h
  obtain ⟨h1,h2⟩:=h
  obtain ⟨c1,c2,c3⟩:=c
  have hl : 0 < x.data.toList.length:=by rw [← size_list]; omega
  obtain ⟨b,l,hbl⟩ : ∃ b l,x.data.toList = b :: l:=by
   cases hx : x.data.toList with
   | nil => rw [hx] at hl; simp at hl
   | cons b l => exact ⟨b,l,rfl⟩
  have hat : at_ x 0 = b.toNat:=by unfold at_; rw [hbl]; rfl
  have hA:=rv_ans (suf x 1)
  have hs1 : (suf x 1).data.toList = l:=by rw [suf_list,hbl]; rfl
  rw [h1,hat] at c3
  have hn:=rvN_le (suf x 1)
  rw [h1] at hn hA
  rcases hA with ⟨_,hk0,_⟩ | ⟨k1,k7,ks,hc,hv⟩
  ·omega
  ·have hcv:=(canonK_iff (suf x 1) (rvK (suf x 1) - 1) (by omega)).1 hc
   rw [(by omega : rvK (suf x 1) - 1 + 1 = rvK (suf x 1)),← hv,hs1] at hcv
   refine ⟨b,?_,c3,hat,hn⟩
   apply ext_list
   rw [data_append,hdT,data_append,varOf_nat n hn,← h2,suf_list,hbl]
   have e1 : (⟨#[b]⟩ : ByteArray).data.toList = [b]:=rfl
   have e2 : (⟨(varB n).toArray⟩ : ByteArray).data.toList = varB n:=by simp
   rw [e1,e2,hcv,(by omega : 1 + rvK (suf x 1) = rvK (suf x 1) + 1),List.drop_succ_cons]
   simp
 ·simp at h
/-- What was read stands ahead, and would be read whatever stands behind. -/
def Pre (g : ByteArray → Option ByteArray) : Prop:=∀ x r,g x = some r → ∃ p,x = p ++ r ∧ ∀ y,g (p ++ y) = some y
theorem rep_pre {g : ByteArray → Option ByteArray} (H : Pre g) (n : Nat) : Pre (rep g n):=by
 induction n with
 | zero =>
  intro x r h
  simp only [rep,Option.some.injEq] at h
  subst h
  exact ⟨⟨#[]⟩,(nil_app x).symm,fun y => by rw [nil_app]; rfl⟩
 | succ n ih =>
  intro x r h
  obtain ⟨x',h1,h2⟩:=rep_succ h
  obtain ⟨p,e1,q1⟩:=H x x' h1
  obtain ⟨p',e2,q2⟩:=ih x' r h2
  refine ⟨p ++ p',by rw [e1,e2,app_assoc],fun y => ?_⟩
  rw [rep,app_assoc,q1 (p' ++ y)]
  exact q2 y
theorem bh_pre (f : Nat) : Pre (bh f):=by
 induction f with
 | zero => intro x r h; simp [bh] at h
 | succ f ih =>
  intro x r h
  cases hc : cut x with
  | none => rw [bh_none hc] at h; cases h
  | some q =>
   obtain ⟨n,t⟩:=q
   obtain ⟨c,rfl,hk,hat,hn⟩:=cut_form hc
   have hcy : ∀ y,cut (hdT c n ++ y) = some (n,y):=fun y => by rw [cut_made c n hn y,if_pos hk]
   have hay : ∀ y,at_ (hdT c n ++ y) 0 = c.toNat:=fun y => at_one c n y
   rw [bh_some hc,hat] at h
   have hby : ∀ y,bh (f + 1) (hdT c n ++ y) = _:=fun y => bh_some (hcy y)
   simp only [hay] at hby
   by_cases h97 : c.toNat = 97
   ·simp only [h97,if_true] at h hby
    split at h
    ·rename_i hle
     simp only [Option.some.injEq] at h
     subst h
     refine ⟨hdT c n ++ t.extract 0 n,by rw [app_assoc,← take_suf],fun y => ?_⟩
     have hz:=ext_size_eq t n hle
     rw [app_assoc,hby,if_pos (by rw [ByteArray.size_append]; omega)]
     have:=suf_app (t.extract 0 n) y
     rw [hz] at this
     rw [this]
    ·cases h
   ·simp only [h97,if_false] at h hby
    by_cases h108 : c.toNat = 108
    ·simp only [h108,if_true] at h hby
     obtain ⟨p,e,q⟩:=rep_pre ih n t r h
     exact ⟨hdT c n ++ p,by rw [e,app_assoc],fun y => by rw [app_assoc,hby,q]⟩
    ·simp only [h108,if_false] at h hby
     by_cases h115 : c.toNat = 115
     ·simp only [h115,if_true] at h hby
      obtain ⟨p,e,q⟩:=ih t r h
      exact ⟨hdT c n ++ p,by rw [e,app_assoc],fun y => by rw [app_assoc,hby,q]⟩
     ·simp only [h115,if_false,Option.some.injEq] at h hby
      subst h
      exact ⟨hdT c n,rfl,fun y => hby y⟩
end Go.Proofs.YtlmpfkbgknbcnaaGreat.Kn
namespace Go.Proofs.YtlmpfkbgknbcnaaGreat.Kn
open Go.RowKit _root_.Go.Proofs.YtlmpfkbgknbcnaaGreat.Own Var Term
theorem cat_cons (x : ByteArray) (xs : List ByteArray) : cat (x :: xs) = x ++ cat xs:=by
 apply ext_list; rw [data_append,cat_list,cat_list]; simp
theorem ext_app (a b : ByteArray) : (a ++ b).extract 0 a.size = a:=by
 apply ext_list; rw [extract_list,data_append,List.drop_zero,Nat.sub_zero,size_list,List.take_left]
theorem psL_back (n : Nat) : ∀ r E,rep (bh 7) n r = some E → cat (psL n r) ++ E = r ∧ ∀ x ∈ psL n r,bh 8 x = some ⟨#[]⟩:=by
 induction n with
 | zero =>
  intro r E h
  simp only [rep,Option.some.injEq] at h
  subst h
  exact ⟨by rw [psL,cat_nil,nil_app],fun x hx => by simp [psL] at hx⟩
 | succ n ih =>
  intro r E h
  obtain ⟨r',h1,h2⟩:=rep_succ h
  have h8:=bh_mono 7 r r' h1
  obtain ⟨p,e,q⟩:=bh_pre 8 r r' h8
  obtain ⟨i1,i2⟩:=ih r' E h2
  have hp : r.extract 0 (r.size - r'.size) = p:=by
   rw [e,ByteArray.size_append,(by omega : p.size + r'.size - r'.size = p.size),ext_app]
  rw [psL_succ h8,hp]
  refine ⟨by rw [cat_cons,app_assoc,i1,← e],fun x hx => ?_⟩
  rcases List.mem_cons.1 hx with rfl | hx
  ·have:=q ⟨#[]⟩
   rwa [app_nil] at this
  ·exact i2 x hx
end Go.Proofs.YtlmpfkbgknbcnaaGreat.Kn

set_option linter.unusedVariables false
namespace Go.Proofs.YtlmpfkbgknbcnaaGreat.Kn
open Go.RowKit _root_.Go.Proofs.YtlmpfkbgknbcnaaGreat.Own Var Term
theorem own_base {w : World} {base base' : Nat} {e : TypeId} {sz n : Nat} {v : Value} {xs : List Value} (h : w.ownsRow base e sz v n xs) (hb : base' ≤ base) : w.ownsRow base' e sz v n xs:=by
 refine ⟨h.1,?_⟩
 rcases h.2 with h0 | ⟨g,cap,cur,e1,e2,e3⟩
 ·exact Or.inl h0
 ·exact Or.inr ⟨g,cap,cur,e1,Nat.le_trans hb e2,e3⟩
end Go.Proofs.YtlmpfkbgknbcnaaGreat.Kn

set_option linter.unusedVariables false
namespace Go.Proofs.YtlmpfkbgknbcnaaGreat.Kn
open Go.RowKit _root_.Go.Proofs.YtlmpfkbgknbcnaaGreat.Own Var Term
theorem one_str (xs : List ByteArray) : ∀ u ∈ strV xs,u.oneCell' = true:=by
 intro u hu; unfold strV at hu; obtain ⟨x,_,rfl⟩:=List.mem_map.1 hu; rfl
theorem one_int (ks : List Int) : ∀ u ∈ intV ks,u.oneCell' = true:=by
 intro u hu; unfold intV at hu; obtain ⟨x,_,rfl⟩:=List.mem_map.1 hu; rfl
/-- A value of two rows, each nil or the call's own. -/
def KeepK (base : Nat) (w : World) (v : Value) (xs : List ByteArray) (ks : List Int) : Prop :=
 ∃ (a b : Option Addr) (ca cb : Nat),v = .agg #[.slice a xs.length ca,.slice b ks.length cb] ∧ w.ownsRow base 9 1 (.slice a xs.length ca) xs.length (strV xs) ∧ w.ownsRow base 3 1 (.slice b ks.length cb) ks.length (intV ks)
end Go.Proofs.YtlmpfkbgknbcnaaGreat.Kn

set_option linter.unusedVariables false
namespace Go.Proofs.YtlmpfkbgknbcnaaGreat.Kn
open Go.RowKit _root_.Go.Proofs.YtlmpfkbgknbcnaaGreat.Own Var Term
theorem own_ne' {w : World} {b b' n n' : Nat} {v v' : Value} {xs xs' : List Value} (h : w.ownsRow b 9 1 v n xs) (h' : w.ownsRow b' 3 1 v' n' xs') : v'.ownBlock = none ∨ v'.ownBlock ≠ v.ownBlock:=by
 rcases hh : v'.ownBlock with _ | k
 ·exact Or.inl rfl
 ·right
  intro e
  rcases own_ne h h' with h2 | h2
  ·rw [h2] at e; cases e
  ·rw [hh] at h2; exact h2 e.symm
end Go.Proofs.YtlmpfkbgknbcnaaGreat.Kn

set_option linter.unusedVariables false
namespace Go.Proofs.YtlmpfkbgknbcnaaGreat.Kn
open Go.RowKit _root_.Go.Proofs.YtlmpfkbgknbcnaaGreat.Own Var Term
theorem strV_snoc (xs : List ByteArray) (t : ByteArray) : strV xs ++ [.string t] = strV (xs ++ [t]):=by unfold strV; rw [List.map_append]; rfl
end Go.Proofs.YtlmpfkbgknbcnaaGreat.Kn

set_option linter.unusedVariables false
namespace Go.Proofs.YtlmpfkbgknbcnaaGreat.Kn
open Go.RowKit _root_.Go.Proofs.YtlmpfkbgknbcnaaGreat.Own Var Term
theorem kOk_len {xs : List ByteArray} {ks : List Int} (h : kOk xs ks = true) : xs.length ≤ 60 ∧ ks.length ≤ 40:=by
 unfold kOk at h
 simp at h
 exact ⟨h.1.1.1,h.1.2⟩
theorem KeepK.later {B : Nat} {w w' : World} {v : Value} {xs : List ByteArray} {ks : List Int} (h : KeepK B w v xs ks) (hb : Below w.heap.size w w') : KeepK B w' v xs ks:=by
 obtain ⟨a,b,ca,cb,rfl,h1,h2⟩:=h
 exact ⟨a,b,ca,cb,rfl,own_later h1 hb,own_later h2 hb⟩
theorem KeepK.base {B B' : Nat} {w : World} {v : Value} {xs : List ByteArray} {ks : List Int} (h : KeepK B w v xs ks) (hb : B' ≤ B) : KeepK B' w v xs ks:=by
 obtain ⟨a,b,ca,cb,rfl,h1,h2⟩:=h
 exact ⟨a,b,ca,cb,rfl,own_base h1 hb,own_base h2 hb⟩
/-- Behind a store below the base. -/
theorem KeepK.setCell {B : Nat} {w : World} {v : Value} {xs : List ByteArray} {ks : List Int} (h : KeepK B w v xs ks) {p : Addr} (hp : p.block < B) (u : Value) : KeepK B (w.setCell p u) v xs ks:=by
 obtain ⟨a,b,ca,cb,rfl,h1,h2⟩:=h
 exact ⟨a,b,ca,cb,rfl,ownsRow_setCell_below h1 hp u,ownsRow_setCell_below h2 hp u⟩
end Go.Proofs.YtlmpfkbgknbcnaaGreat.Kn
