/- One that was taken is right. -/
import Derived.Test.YtlmpfkbgknbcnaaGreatAb
import Derived.Test.YtlmpfkbgknbcnaaGreatWs3
set_option linter.unusedVariables false
set_option maxRecDepth 100000
namespace Go.Proofs.YtlmpfkbgknbcnaaGreat.Nd
open Go Go.RowKit Go.Joins Own Draw Term
set_option maxRecDepth 100000 in
set_option maxHeartbeats 3200000 in
theorem among_is (p : TQ) (n : Nat) (w : World) (hd : DpQ w p) (hp : p.2.2.2.2.2.2.2.1.2.2.length ≤ 1048576) (hv : p.2.2.2.2.2.2.2.2.1.2.2.length ≤ 1048576) : Calls Tryz.prog 137 #[vQ p,I (n : Int)] w fun e w' => e = .returned (.bool (acB n p)) ∧ Below w.heap.size w w':=by
 obtain ⟨f0,f1,f2,f3,f4,⟨f5_0,f5_1,f5_2⟩,⟨f6_0,f6_1,f6_2⟩,f7,f8,f9,f10⟩:=p
 obtain ⟨hd7,hd8⟩:=hd
 dsimp only at hd7 hd8 hp hv
 obtain ⟨V,hV⟩ : ∃ V,w.alloc (.cells #[I f0,I f1,I f2,I f3,I f4,I f5_0,I f5_1,I f5_2,I f6_0,I f6_1,I f6_2,.slice f7.1 f7.2.2.length f7.2.1,.slice f8.1 f8.2.2.length f8.2.1,I f9,.string f10] 80) = V:=⟨_,rfl⟩
 have TV : Blk w.heap.size [I f0,I f1,I f2,I f3,I f4,I f5_0,I f5_1,I f5_2,I f6_0,I f6_1,I f6_2,.slice f7.1 f7.2.2.length f7.2.1,.slice f8.1 f8.2.2.length f8.2.1,I f9,.string f10] V:=by rw [← hV]; exact Blk.new _ _ _
 have BC : Below w.heap.size w V:=by rw [← hV]; exact (Below.refl _ _).alloc (Nat.le_refl _) _
 have HE : Hid (acB n (f0,f1,f2,f3,f4,(f5_0,f5_1,f5_2),(f6_0,f6_1,f6_2),f7,f8,f9,f10) = (btw f0 0 2 && (btw f1 0 5 && (btw f9 0 (n : Int) && (allB f7.2.2 6 && allB f8.2.2 4))))):=(rfl : acB n (f0,f1,f2,f3,f4,(f5_0,f5_1,f5_2),(f6_0,f6_1,f6_2),f7,f8,f9,f10) = _)
 have d0:=TV.at 0 rfl
 have d1:=TV.at 1 rfl
 have d11:=TV.at 11 rfl
 have d12:=TV.at 12 rfl
 have d13:=TV.at 13 rfl
 go_enter Tryz.func137,Tryz.ntmps137
 go_wp2_with fail
 try rw [hV]
 refine (serv_is f0 _).mono ?_
 rintro en v0 ⟨rfl,rfl⟩
 by_cases h0 : btw f0 0 2 = true
 ·rw [h0]
  go_wp2_with fail
  refine (prin_is f1 _).mono ?_
  rintro en v1 ⟨rfl,rfl⟩
  by_cases h1 : btw f1 0 5 = true
  ·rw [h1]
   go_wp2_with fail
   refine (within_b f9 (n : Int) _).mono ?_
   rintro en v2 ⟨rfl,rfl⟩
   by_cases h2 : btw f9 0 (n : Int) = true
   ·rw [h2]
    go_wp2_with fail
    refine (listOk_is 162 enters95 realm_is f7.1 f7.2.1 f7.2.2 6 _ (hd7.later BC) hp (by omega)).mono ?_
    rintro en v3 ⟨rfl,hb⟩
    clear d0 d1 d11 d12 d13
    replace TV:=TV.later hb (World.block_lt_of_cell? _ _ (TV.at 0 rfl))
    replace BC:=BC.trans (hb.mono BC.size)
    clear hb
    have d0:=TV.at 0 rfl
    have d1:=TV.at 1 rfl
    have d11:=TV.at 11 rfl
    have d12:=TV.at 12 rfl
    have d13:=TV.at 13 rfl
    by_cases h3 : allB f7.2.2 6 = true
    ·rw [h3]
     go_wp2_with fail
     refine (listOk_is 164 enters96 serv_is f8.1 f8.2.1 f8.2.2 4 _ (hd8.later BC) hv (by omega)).mono ?_
     rintro en v4 ⟨rfl,hb⟩
     clear d0 d1 d11 d12 d13
     replace TV:=TV.later hb (World.block_lt_of_cell? _ _ (TV.at 0 rfl))
     replace BC:=BC.trans (hb.mono BC.size)
     clear hb
     have d0:=TV.at 0 rfl
     have d1:=TV.at 1 rfl
     have d11:=TV.at 11 rfl
     have d12:=TV.at 12 rfl
     have d13:=TV.at 13 rfl
     by_cases h4 : allB f8.2.2 4 = true
     ·rw [h4]
      go_wp2
      go_ret
      exact ⟨by rw [HE.out,h0,h1,h2,h3,h4]; rfl,BC⟩
     ·rw [Bool.not_eq_true] at h4
      rw [h4]
      go_wp2
      go_ret
      exact ⟨by rw [HE.out,h0,h1,h2,h3,h4]; rfl,BC⟩
    ·rw [Bool.not_eq_true] at h3
     rw [h3]
     go_wp2
     go_ret
     exact ⟨by rw [HE.out,h0,h1,h2,h3]; rfl,BC⟩
   ·rw [Bool.not_eq_true] at h2
    rw [h2]
    go_wp2
    go_ret
    exact ⟨by rw [HE.out,h0,h1,h2]; rfl,BC⟩
  ·rw [Bool.not_eq_true] at h1
   rw [h1]
   go_wp2
   go_ret
   exact ⟨by rw [HE.out,h0,h1]; rfl,BC⟩
 ·rw [Bool.not_eq_true] at h0
  rw [h0]
  go_wp2
  go_ret
  exact ⟨by rw [HE.out,h0]; rfl,BC⟩
set_option maxRecDepth 100000 in
set_option maxHeartbeats 3200000 in
theorem rec1_is (p : TQ) (lp n : Nat) (w : World) (hlp : lp < w.heap.size) (hc : w.cell? ⟨lp,0,none⟩ = some (I (n : Int))) (hd : DpQ w p) (hp : p.2.2.2.2.2.2.2.1.2.2.length ≤ 1048576) (hv : p.2.2.2.2.2.2.2.2.1.2.2.length ≤ 1048576) : Calls Tryz.prog 136 #[vQ p,.pointer (some ⟨lp,0,none⟩)] w fun e w' => e = .returned (.bool (acB n p)) ∧ Below w.heap.size w w':=by
 obtain ⟨V,hV⟩ : ∃ V,w.alloc (.cells #[I p.1,I p.2.1,I p.2.2.1,I p.2.2.2.1,I p.2.2.2.2.1,I p.2.2.2.2.2.1.1,I p.2.2.2.2.2.1.2.1,I p.2.2.2.2.2.1.2.2,I p.2.2.2.2.2.2.1.1,I p.2.2.2.2.2.2.1.2.1,I p.2.2.2.2.2.2.1.2.2,.slice p.2.2.2.2.2.2.2.1.1 p.2.2.2.2.2.2.2.1.2.2.length p.2.2.2.2.2.2.2.1.2.1,.slice p.2.2.2.2.2.2.2.2.1.1 p.2.2.2.2.2.2.2.2.1.2.2.length p.2.2.2.2.2.2.2.2.1.2.1,I p.2.2.2.2.2.2.2.2.2.1,.string p.2.2.2.2.2.2.2.2.2.2] 80) = V:=⟨_,rfl⟩
 have TV : Blk w.heap.size [I p.1,I p.2.1,I p.2.2.1,I p.2.2.2.1,I p.2.2.2.2.1,I p.2.2.2.2.2.1.1,I p.2.2.2.2.2.1.2.1,I p.2.2.2.2.2.1.2.2,I p.2.2.2.2.2.2.1.1,I p.2.2.2.2.2.2.1.2.1,I p.2.2.2.2.2.2.1.2.2,.slice p.2.2.2.2.2.2.2.1.1 p.2.2.2.2.2.2.2.1.2.2.length p.2.2.2.2.2.2.2.1.2.1,.slice p.2.2.2.2.2.2.2.2.1.1 p.2.2.2.2.2.2.2.2.1.2.2.length p.2.2.2.2.2.2.2.2.1.2.1,I p.2.2.2.2.2.2.2.2.2.1,.string p.2.2.2.2.2.2.2.2.2.2] V:=by rw [← hV]; exact Blk.new _ _ _
 have BC : Below w.heap.size w V:=by rw [← hV]; exact (Below.refl _ _).alloc (Nat.le_refl _) _
 have K1:=among_is p n V (hd.later BC) hp hv
 have c0:=(BC.cell (p:=⟨lp,0,none⟩) hlp).trans hc
 have d0:=TV.at 0 rfl
 have d1:=TV.at 1 rfl
 have d2:=TV.at 2 rfl
 have d3:=TV.at 3 rfl
 have d4:=TV.at 4 rfl
 have d5:=TV.at 5 rfl
 have d6:=TV.at 6 rfl
 have d7:=TV.at 7 rfl
 have d8:=TV.at 8 rfl
 have d9:=TV.at 9 rfl
 have d10:=TV.at 10 rfl
 have d11:=TV.at 11 rfl
 have d12:=TV.at 12 rfl
 have d13:=TV.at 13 rfl
 have d14:=TV.at 14 rfl
 generalize acB n p = b at K1 ⊢
 clear hd
 go_enter Tryz.func136,Tryz.ntmps136
 go_wp2_with fail
 try rw [hV]
 refine K1.mono ?_
 clear K1
 rintro en v0 ⟨rfl,hb⟩
 replace BC:=BC.trans (hb.mono BC.size)
 clear hb
 go_wp2
 go_ret
 exact ⟨rfl,BC⟩
end Go.Proofs.YtlmpfkbgknbcnaaGreat.Nd

set_option linter.unusedVariables false
set_option maxRecDepth 100000
namespace Go.Proofs.YtlmpfkbgknbcnaaGreat.Nd
open Go Go.RowKit Go.Joins Own Draw Term
/-- Is a world right, by what it holds. -/
def endB (d : TD) : Bool:=decide (d.2.2.2.2.2.1.2.2.length = 6) && ((d.2.2.2.2.2.1.2.2.all fun x => waitB x) && (decide (d.2.2.2.2.2.2.1.2.2.length ≤ 30) && ((d.2.2.2.2.2.2.1.2.2.all fun x => crB x) && (decide (d.2.2.2.2.2.2.2.1.2.2.length = 3) && (d.2.2.2.2.2.2.2.1.2.2.all fun x => caB x)))))
def recB (d : TD) : Bool:=decide (d.2.2.2.2.2.2.2.2.1.2.2.length ≤ 40) && (decide (d.2.2.2.2.2.2.2.2.2.1.2.2.length ≤ 40) && (decide (d.2.2.2.2.2.2.2.2.2.2.2.2.length ≤ 40) && (d.2.2.2.2.2.2.2.2.2.1.2.2.all fun x => acB d.2.2.2.2.2.2.2.2.2.2.2.2.length x)))
def cfOf (p : TF) : Cf:=⟨p.1.1,p.1.2.1,p.1.2.2,p.2.1.1,p.2.1.2.1,p.2.1.2.2,p.2.2.1.1,p.2.2.1.2.1,p.2.2.1.2.2,p.2.2.2.1.1,p.2.2.2.1.2.1,p.2.2.2.1.2.2,p.2.2.2.2⟩
def knB (p : TN) : Bool:=Kn.kOk p.1.2.2 p.2.2.2
def wokB (d : TD) : Bool:=confB (cfOf d.1) && (btw d.2.1 0 100000 && (decide (101 ≤ d.2.2.1) && (btw d.2.2.1 1 1000000 && (decide (d.2.2.2.1.2.2.length ≤ 50) && ((d.2.2.2.1.2.2.all fun x => isT x) && (knB d.2.2.2.2.1 && (endB d && recB d)))))))
/-- What is asked of a world that is looked at: it lies in memory of one's own, it is not too great, its numbers are in their kind's bounds. -/
structure WdOk (B : Nat) (w : World) (d : TD) : Prop where
 ow : OwD B w d
 le : totD d ≤ 1048576
 ok : ∀ x ∈ d.2.2.2.2.2.2.1.2.2,i64 x.2.2.1
theorem WdOk.later {B : Nat} {w w' : World} {d : TD} (h : WdOk B w d) (hb : Below w.heap.size w w') : WdOk B w' d:=⟨h.ow.later hb,h.le,h.ok⟩
theorem sum_le {α : Type} {f : α → Nat} {xs : List α} {n : Nat} (h : (xs.map f).sum ≤ n) : ∀ x ∈ xs,f x ≤ n:=fun x hx => Nat.le_trans (le_sum_of_mem (List.mem_map_of_mem hx)) h
theorem own_at {B : Nat} {w : World} {r : Rw TK} (h : RoK B w r) : ∀ x ∈ r.2.2,RoA B w x.2:=fun x hx => h.2 x hx
theorem tot_parts {d : TD} (h : totD d ≤ 1048576) : (d.1.1.2.2.length ≤ 1048576 ∧ d.1.2.1.2.2.length ≤ 1048576 ∧ d.1.2.2.1.2.2.length ≤ 1048576 ∧ d.1.2.2.2.1.2.2.length ≤ 1048576) ∧ (d.2.2.2.1.2.2.length ≤ 1048576 ∧ ∀ x ∈ d.2.2.2.1.2.2,x.size ≤ 1048576) ∧ (d.2.2.2.2.1.1.2.2.length ≤ 1048576 ∧ d.2.2.2.2.1.2.2.2.length ≤ 1048576 ∧ ∀ x ∈ d.2.2.2.2.1.1.2.2,x.size ≤ 1048576) ∧
  (d.2.2.2.2.2.1.2.2.length ≤ 1048576 ∧ d.2.2.2.2.2.2.1.2.2.length ≤ 1048576 ∧ (∀ x ∈ d.2.2.2.2.2.2.1.2.2,x.2.2.2.2.2.2.2.size ≤ 1048576) ∧ d.2.2.2.2.2.2.2.1.2.2.length ≤ 1048576 ∧ (∀ x ∈ d.2.2.2.2.2.2.2.1.2.2,x.2.2.2.length ≤ 1048576)) ∧
  (d.2.2.2.2.2.2.2.2.1.2.2.length ≤ 1048576 ∧ d.2.2.2.2.2.2.2.2.2.1.2.2.length ≤ 1048576 ∧ (∀ x ∈ d.2.2.2.2.2.2.2.2.2.1.2.2,x.2.2.2.2.2.2.2.1.2.2.length ≤ 1048576 ∧ x.2.2.2.2.2.2.2.2.1.2.2.length ≤ 1048576) ∧ d.2.2.2.2.2.2.2.2.2.2.2.2.length ≤ 1048576):=by
 obtain ⟨⟨c0,c1,c2,c3,c4⟩,nw,fr,nt,⟨kt,kk⟩,wt,cr,ca,lg,ac,lk⟩:=d
 unfold totD totF totN rtS rtI rtP rtW rtC rtK rtE rtQ at h
 dsimp only at h ⊢
 refine ⟨⟨by omega,by omega,by omega,by omega⟩,⟨by omega,sum_le (f:=ByteArray.size) (by omega)⟩,⟨by omega,by omega,sum_le (f:=ByteArray.size) (by omega)⟩,⟨by omega,by omega,?_,by omega,?_⟩,⟨by omega,by omega,?_,by omega⟩⟩
 ·exact sum_le (f:=totC) (by omega)
 ·exact sum_le (f:=totK) (by omega)
 ·intro x hx
  have:=sum_le (f:=totQ) (n:=1048576) (by omega) x hx
  unfold totQ rtI at this
  exact ⟨by omega,by omega⟩
set_option maxRecDepth 100000 in
set_option maxHeartbeats 3200000 in
theorem ends_is (B : Nat) (d : TD) (w : World) (hd : WdOk B w d) : Calls Tryz.prog 82 #[vD d] w fun e w' => e = .returned (.bool (endB d)) ∧ Below w.heap.size w w':=by
 obtain ⟨⟨l10,l11,l12,l13⟩,⟨l30,l31⟩,⟨l40,l42,l41⟩,⟨l50,l60,l61,l70,l71⟩,⟨l80,l90,l91,la0⟩⟩:=tot_parts hd.le
 have hok:=hd.ok
 obtain ⟨o0,o3,o4,o5,o6,o7,o8,o9,oa⟩:=hd.ow
 clear hd
 obtain ⟨f0,f1,f2,f3,f4,f5,f6,f7,f8,f9,f10⟩:=d
 dsimp only at *
 obtain ⟨V,hV⟩ : ∃ V,w.alloc (.cells #[.slice f0.1.1 f0.1.2.2.length f0.1.2.1,.slice f0.2.1.1 f0.2.1.2.2.length f0.2.1.2.1,.slice f0.2.2.1.1 f0.2.2.1.2.2.length f0.2.2.1.2.1,.slice f0.2.2.2.1.1 f0.2.2.2.1.2.2.length f0.2.2.2.1.2.1,I f0.2.2.2.2,I f1,I f2,.slice f3.1 f3.2.2.length f3.2.1,.slice f4.1.1 f4.1.2.2.length f4.1.2.1,.slice f4.2.1 f4.2.2.2.length f4.2.2.1,.slice f5.1 f5.2.2.length f5.2.1,.slice f6.1 f6.2.2.length f6.2.1,.slice f7.1 f7.2.2.length f7.2.1,.slice f8.1 f8.2.2.length f8.2.1,.slice f9.1 f9.2.2.length f9.2.1,.slice f10.1 f10.2.2.length f10.2.1] 48) = V:=⟨_,rfl⟩
 have TV : Blk w.heap.size [.slice f0.1.1 f0.1.2.2.length f0.1.2.1,.slice f0.2.1.1 f0.2.1.2.2.length f0.2.1.2.1,.slice f0.2.2.1.1 f0.2.2.1.2.2.length f0.2.2.1.2.1,.slice f0.2.2.2.1.1 f0.2.2.2.1.2.2.length f0.2.2.2.1.2.1,I f0.2.2.2.2,I f1,I f2,.slice f3.1 f3.2.2.length f3.2.1,.slice f4.1.1 f4.1.2.2.length f4.1.2.1,.slice f4.2.1 f4.2.2.2.length f4.2.2.1,.slice f5.1 f5.2.2.length f5.2.1,.slice f6.1 f6.2.2.length f6.2.1,.slice f7.1 f7.2.2.length f7.2.1,.slice f8.1 f8.2.2.length f8.2.1,.slice f9.1 f9.2.2.length f9.2.1,.slice f10.1 f10.2.2.length f10.2.1] V:=by rw [← hV]; exact Blk.new _ _ _
 have BC : Below w.heap.size w V:=by rw [← hV]; exact (Below.refl _ _).alloc (Nat.le_refl _) _
 have d10:=TV.at 10 rfl
 have d11:=TV.at 11 rfl
 have d12:=TV.at 12 rfl
 have HE : Hid (endB (f0,f1,f2,f3,f4,f5,f6,f7,f8,f9,f10) = (decide (f5.2.2.length = 6) && ((f5.2.2.all fun x => waitB x) && (decide (f6.2.2.length ≤ 30) && ((f6.2.2.all fun x => crB x) && (decide (f7.2.2.length = 3) && ((f7.2.2.all fun x => caB x)))))))):=(rfl : endB (f0,f1,f2,f3,f4,f5,f6,f7,f8,f9,f10) = _)
 go_enter Tryz.func82,Tryz.ntmps82
 by_cases h0 : decide (f5.2.2.length = 6) = true
 ·have t0 : (((f5.2.2.length : Nat) : Int) == 6) = true:=by have:=of_decide_eq_true h0; exact beq_iff_eq.2 (by omega)
  go_wp2_with fail
  try rw [hV]
  refine (allW_is f5.1 f5.2.1 f5.2.2 _ (o5.dp.later BC) l50 (fun x _ w' _ => waitRight_is x w')).mono ?_
  rintro en v1 ⟨rfl,hb⟩
  clear d10 d11 d12
  replace TV:=TV.later hb (World.block_lt_of_cell? _ _ (TV.at 0 rfl))
  replace BC:=BC.trans (hb.mono BC.size)
  clear hb
  have d10:=TV.at 10 rfl
  have d11:=TV.at 11 rfl
  have d12:=TV.at 12 rfl
  by_cases h1 : (f5.2.2.all fun x => waitB x) = true
  ·rw [h1]
   by_cases h2 : decide (f6.2.2.length ≤ 30) = true
   ·have t2 : ((f6.2.2.length : Nat) : Int) ≤ 30:=by have:=of_decide_eq_true h2; omega
    go_wp2_with fail
    refine (allC_is f6.1 f6.2.1 f6.2.2 _ (o6.dp.later BC) l60 (fun x hx w' _ => credRight_is _ _ _ _ _ _ _ _ w' (hok x hx) (l61 x hx))).mono ?_
    rintro en v3 ⟨rfl,hb⟩
    clear d10 d11 d12
    replace TV:=TV.later hb (World.block_lt_of_cell? _ _ (TV.at 0 rfl))
    replace BC:=BC.trans (hb.mono BC.size)
    clear hb
    have d10:=TV.at 10 rfl
    have d11:=TV.at 11 rfl
    have d12:=TV.at 12 rfl
    by_cases h3 : (f6.2.2.all fun x => crB x) = true
    ·rw [h3]
     by_cases h4 : decide (f7.2.2.length = 3) = true
     ·have t4 : (((f7.2.2.length : Nat) : Int) == 3) = true:=by have:=of_decide_eq_true h4; exact beq_iff_eq.2 (by omega)
      go_wp2_with fail
      refine (allK_is f7.1 f7.2.1 f7.2.2 _ (o7.dp.1.later BC) l70 (fun x hx w' hb => Ch.right_is x.1 x.2.1 x.2.2.1 x.2.2.2 w' (arow_of (((own_at o7 x hx).dp.later BC).later hb)) (l71 x hx))).mono ?_
      rintro en v5 ⟨rfl,hb⟩
      clear d10 d11 d12
      replace TV:=TV.later hb (World.block_lt_of_cell? _ _ (TV.at 0 rfl))
      replace BC:=BC.trans (hb.mono BC.size)
      clear hb
      have d10:=TV.at 10 rfl
      have d11:=TV.at 11 rfl
      have d12:=TV.at 12 rfl
      by_cases h5 : (f7.2.2.all fun x => caB x) = true
      ·rw [h5]
       go_wp2
       go_ret
       exact ⟨by rw [HE.out,h0,h1,h2,h3,h4,h5]; rfl,BC⟩
      ·rw [Bool.not_eq_true] at h5
       rw [h5]
       go_wp2
       go_ret
       exact ⟨by rw [HE.out,h0,h1,h2,h3,h4,h5]; rfl,BC⟩
     ·rw [Bool.not_eq_true] at h4
      have t4 : (((f7.2.2.length : Nat) : Int) == 3) = false:=by have:=of_decide_eq_false h4; exact beq_eq_false_iff_ne.2 (by omega)
      go_wp2
      go_ret
      exact ⟨by rw [HE.out,h0,h1,h2,h3,h4]; rfl,BC⟩
    ·rw [Bool.not_eq_true] at h3
     rw [h3]
     go_wp2
     go_ret
     exact ⟨by rw [HE.out,h0,h1,h2,h3]; rfl,BC⟩
   ·rw [Bool.not_eq_true] at h2
    have t2 : ¬ ((f6.2.2.length : Nat) : Int) ≤ 30:=by have:=of_decide_eq_false h2; omega
    go_wp2
    go_ret
    exact ⟨by rw [HE.out,h0,h1,h2]; rfl,BC⟩
  ·rw [Bool.not_eq_true] at h1
   rw [h1]
   go_wp2
   go_ret
   exact ⟨by rw [HE.out,h0,h1]; rfl,BC⟩
 ·rw [Bool.not_eq_true] at h0
  have t0 : (((f5.2.2.length : Nat) : Int) == 6) = false:=by have:=of_decide_eq_false h0; exact beq_eq_false_iff_ne.2 (by omega)
  go_wp2
  go_ret
  exact ⟨by rw [HE.out,h0]; rfl,BC⟩
end Go.Proofs.YtlmpfkbgknbcnaaGreat.Nd

set_option linter.unusedVariables false
set_option maxRecDepth 100000
namespace Go.Proofs.YtlmpfkbgknbcnaaGreat.Nd
open Go Go.RowKit Go.Joins Own Draw Term
theorem cf_at {B : Nat} {w : World} {p : TF} (h : OwF B w p) : CfAt (cfOf p) w:=⟨h.1.dp,h.2.1.dp,prow_of h.2.2.1.dp,prow_of h.2.2.2.dp⟩
theorem cf_ok {B : Nat} {w : World} {p : TF} (h : OwF B w p) (l0 : p.1.2.2.length ≤ 1048576) (l1 : p.2.1.2.2.length ≤ 1048576) (l2 : p.2.2.1.2.2.length ≤ 1048576) (l3 : p.2.2.2.1.2.2.length ≤ 1048576) : CfOk (cfOf p):=⟨l0,l1,l2,l3,own_cap h.2.2.1,own_cap h.2.2.2⟩
set_option maxRecDepth 100000 in
set_option maxHeartbeats 3200000 in
theorem recs_is (B : Nat) (d : TD) (w : World) (hd : WdOk B w d) : Calls Tryz.prog 83 #[vD d] w fun e w' => e = .returned (.bool (recB d)) ∧ Below w.heap.size w w':=by
 obtain ⟨⟨l10,l11,l12,l13⟩,⟨l30,l31⟩,⟨l40,l42,l41⟩,⟨l50,l60,l61,l70,l71⟩,⟨l80,l90,l91,la0⟩⟩:=tot_parts hd.le
 have hok:=hd.ok
 obtain ⟨o0,o3,o4,o5,o6,o7,o8,o9,oa⟩:=hd.ow
 clear hd
 obtain ⟨f0,f1,f2,f3,f4,f5,f6,f7,f8,f9,f10⟩:=d
 dsimp only at *
 obtain ⟨V,hV⟩ : ∃ V,(w.alloc (.cells #[.slice f0.1.1 f0.1.2.2.length f0.1.2.1,.slice f0.2.1.1 f0.2.1.2.2.length f0.2.1.2.1,.slice f0.2.2.1.1 f0.2.2.1.2.2.length f0.2.2.1.2.1,.slice f0.2.2.2.1.1 f0.2.2.2.1.2.2.length f0.2.2.2.1.2.1,I f0.2.2.2.2,I f1,I f2,.slice f3.1 f3.2.2.length f3.2.1,.slice f4.1.1 f4.1.2.2.length f4.1.2.1,.slice f4.2.1 f4.2.2.2.length f4.2.2.1,.slice f5.1 f5.2.2.length f5.2.1,.slice f6.1 f6.2.2.length f6.2.1,.slice f7.1 f7.2.2.length f7.2.1,.slice f8.1 f8.2.2.length f8.2.1,.slice f9.1 f9.2.2.length f9.2.1,.slice f10.1 f10.2.2.length f10.2.1] 48)).alloc (.cells #[I (f10.2.2.length : Int)] 3) = V:=⟨_,rfl⟩
 have TV : Blk w.heap.size [.slice f0.1.1 f0.1.2.2.length f0.1.2.1,.slice f0.2.1.1 f0.2.1.2.2.length f0.2.1.2.1,.slice f0.2.2.1.1 f0.2.2.1.2.2.length f0.2.2.1.2.1,.slice f0.2.2.2.1.1 f0.2.2.2.1.2.2.length f0.2.2.2.1.2.1,I f0.2.2.2.2,I f1,I f2,.slice f3.1 f3.2.2.length f3.2.1,.slice f4.1.1 f4.1.2.2.length f4.1.2.1,.slice f4.2.1 f4.2.2.2.length f4.2.2.1,.slice f5.1 f5.2.2.length f5.2.1,.slice f6.1 f6.2.2.length f6.2.1,.slice f7.1 f7.2.2.length f7.2.1,.slice f8.1 f8.2.2.length f8.2.1,.slice f9.1 f9.2.2.length f9.2.1,.slice f10.1 f10.2.2.length f10.2.1] V:=by rw [← hV]; exact (Blk.new w _ _).alloc (by simp) _
 have BC : Below w.heap.size w V:=by rw [← hV]; exact ((Below.refl _ _).alloc (Nat.le_refl _) _).alloc (by simp) _
 have TL : Blk (w.heap.size + 1) [I (f10.2.2.length : Int)] V:=by rw [← hV]; have:=Blk.new (w.alloc (.cells #[.slice f0.1.1 f0.1.2.2.length f0.1.2.1,.slice f0.2.1.1 f0.2.1.2.2.length f0.2.1.2.1,.slice f0.2.2.1.1 f0.2.2.1.2.2.length f0.2.2.1.2.1,.slice f0.2.2.2.1.1 f0.2.2.2.1.2.2.length f0.2.2.2.1.2.1,I f0.2.2.2.2,I f1,I f2,.slice f3.1 f3.2.2.length f3.2.1,.slice f4.1.1 f4.1.2.2.length f4.1.2.1,.slice f4.2.1 f4.2.2.2.length f4.2.2.1,.slice f5.1 f5.2.2.length f5.2.1,.slice f6.1 f6.2.2.length f6.2.1,.slice f7.1 f7.2.2.length f7.2.1,.slice f8.1 f8.2.2.length f8.2.1,.slice f9.1 f9.2.2.length f9.2.1,.slice f10.1 f10.2.2.length f10.2.1] 48)) #[I (f10.2.2.length : Int)] 3; simpa using this
 have g0:=TL.at 0 rfl
 have sL : w.heap.size + 1 < V.heap.size:=by rw [← hV]; simp
 have d13:=TV.at 13 rfl
 have d14:=TV.at 14 rfl
 have d15:=TV.at 15 rfl
 have HE : Hid (recB (f0,f1,f2,f3,f4,f5,f6,f7,f8,f9,f10) = (decide (f8.2.2.length ≤ 40) && (decide (f9.2.2.length ≤ 40) && (decide (f10.2.2.length ≤ 40) && ((f9.2.2.all fun x => acB f10.2.2.length x)))))):=(rfl : recB (f0,f1,f2,f3,f4,f5,f6,f7,f8,f9,f10) = _)
 go_enter Tryz.func83,Tryz.ntmps83
 by_cases h0 : decide (f8.2.2.length ≤ 40) = true
 ·have t0 : ((f8.2.2.length : Nat) : Int) ≤ 40:=by have:=of_decide_eq_true h0; omega
  by_cases h1 : decide (f9.2.2.length ≤ 40) = true
  ·have t1 : ((f9.2.2.length : Nat) : Int) ≤ 40:=by have:=of_decide_eq_true h1; omega
   by_cases h2 : decide (f10.2.2.length ≤ 40) = true
   ·have t2 : ((f10.2.2.length : Nat) : Int) ≤ 40:=by have:=of_decide_eq_true h2; omega
    go_wp2_with fail
    try rw [hV]
    refine (allQ_is (w.heap.size + 1) f10.2.2.length f9.1 f9.2.1 f9.2.2 _ (o9.dp.1.later BC) l90 (fun x hx w' hb => rec1_is x (w.heap.size + 1) f10.2.2.length w' (Nat.lt_of_lt_of_le sL hb.size) ((hb.cell (p:=⟨w.heap.size + 1,0,none⟩) sL).trans (TL.at 0 rfl)) (((o9.dp.2 x hx).later BC).later hb) (l91 x hx).1 (l91 x hx).2)).mono ?_
    rintro en v3 ⟨rfl,hb⟩
    clear d13 d14 d15
    replace TV:=TV.later hb (World.block_lt_of_cell? _ _ (TV.at 0 rfl))
    replace BC:=BC.trans (hb.mono BC.size)
    clear hb
    have d13:=TV.at 13 rfl
    have d14:=TV.at 14 rfl
    have d15:=TV.at 15 rfl
    by_cases h3 : (f9.2.2.all fun x => acB f10.2.2.length x) = true
    ·rw [h3]
     go_wp2
     go_ret
     exact ⟨by rw [HE.out,h0,h1,h2,h3]; rfl,BC⟩
    ·rw [Bool.not_eq_true] at h3
     rw [h3]
     go_wp2
     go_ret
     exact ⟨by rw [HE.out,h0,h1,h2,h3]; rfl,BC⟩
   ·rw [Bool.not_eq_true] at h2
    have t2 : ¬ ((f10.2.2.length : Nat) : Int) ≤ 40:=by have:=of_decide_eq_false h2; omega
    go_wp2
    go_ret
    exact ⟨by rw [HE.out,h0,h1,h2]; rfl,BC⟩
  ·rw [Bool.not_eq_true] at h1
   have t1 : ¬ ((f9.2.2.length : Nat) : Int) ≤ 40:=by have:=of_decide_eq_false h1; omega
   go_wp2
   go_ret
   exact ⟨by rw [HE.out,h0,h1]; rfl,BC⟩
 ·rw [Bool.not_eq_true] at h0
  have t0 : ¬ ((f8.2.2.length : Nat) : Int) ≤ 40:=by have:=of_decide_eq_false h0; omega
  go_wp2
  go_ret
  exact ⟨by rw [HE.out,h0]; rfl,BC⟩
set_option maxRecDepth 100000 in
set_option maxHeartbeats 3200000 in
theorem worldRight_is (B : Nat) (d : TD) (w : World) (hd : WdOk B w d) : Calls Tryz.prog 39 #[vD d] w fun e w' => e = .returned (.bool (wokB d)) ∧ Below w.heap.size w w':=by
 obtain ⟨⟨l10,l11,l12,l13⟩,⟨l30,l31⟩,⟨l40,l42,l41⟩,⟨l50,l60,l61,l70,l71⟩,⟨l80,l90,l91,la0⟩⟩:=tot_parts hd.le
 have hok:=hd.ok
 have HW:=hd
 obtain ⟨o0,o3,o4,o5,o6,o7,o8,o9,oa⟩:=hd.ow
 clear hd
 obtain ⟨f0,f1,f2,f3,f4,f5,f6,f7,f8,f9,f10⟩:=d
 dsimp only at *
 obtain ⟨V,hV⟩ : ∃ V,w.alloc (.cells #[.slice f0.1.1 f0.1.2.2.length f0.1.2.1,.slice f0.2.1.1 f0.2.1.2.2.length f0.2.1.2.1,.slice f0.2.2.1.1 f0.2.2.1.2.2.length f0.2.2.1.2.1,.slice f0.2.2.2.1.1 f0.2.2.2.1.2.2.length f0.2.2.2.1.2.1,I f0.2.2.2.2,I f1,I f2,.slice f3.1 f3.2.2.length f3.2.1,.slice f4.1.1 f4.1.2.2.length f4.1.2.1,.slice f4.2.1 f4.2.2.2.length f4.2.2.1,.slice f5.1 f5.2.2.length f5.2.1,.slice f6.1 f6.2.2.length f6.2.1,.slice f7.1 f7.2.2.length f7.2.1,.slice f8.1 f8.2.2.length f8.2.1,.slice f9.1 f9.2.2.length f9.2.1,.slice f10.1 f10.2.2.length f10.2.1] 48) = V:=⟨_,rfl⟩
 have TV : Blk w.heap.size [.slice f0.1.1 f0.1.2.2.length f0.1.2.1,.slice f0.2.1.1 f0.2.1.2.2.length f0.2.1.2.1,.slice f0.2.2.1.1 f0.2.2.1.2.2.length f0.2.2.1.2.1,.slice f0.2.2.2.1.1 f0.2.2.2.1.2.2.length f0.2.2.2.1.2.1,I f0.2.2.2.2,I f1,I f2,.slice f3.1 f3.2.2.length f3.2.1,.slice f4.1.1 f4.1.2.2.length f4.1.2.1,.slice f4.2.1 f4.2.2.2.length f4.2.2.1,.slice f5.1 f5.2.2.length f5.2.1,.slice f6.1 f6.2.2.length f6.2.1,.slice f7.1 f7.2.2.length f7.2.1,.slice f8.1 f8.2.2.length f8.2.1,.slice f9.1 f9.2.2.length f9.2.1,.slice f10.1 f10.2.2.length f10.2.1] V:=by rw [← hV]; exact Blk.new _ _ _
 have BC : Below w.heap.size w V:=by rw [← hV]; exact (Below.refl _ _).alloc (Nat.le_refl _) _
 have d0:=TV.at 0 rfl
 have d1:=TV.at 1 rfl
 have d2:=TV.at 2 rfl
 have d3:=TV.at 3 rfl
 have d4:=TV.at 4 rfl
 have d5:=TV.at 5 rfl
 have d6:=TV.at 6 rfl
 have d7:=TV.at 7 rfl
 have d8:=TV.at 8 rfl
 have d9:=TV.at 9 rfl
 have d10:=TV.at 10 rfl
 have d11:=TV.at 11 rfl
 have d12:=TV.at 12 rfl
 have d13:=TV.at 13 rfl
 have d14:=TV.at 14 rfl
 have d15:=TV.at 15 rfl
 have HE : Hid (wokB (f0,f1,f2,f3,f4,f5,f6,f7,f8,f9,f10) = (confB (cfOf f0) && (btw f1 0 100000 && (decide (101 ≤ f2) && (btw f2 1 1000000 && (decide (f3.2.2.length ≤ 50) && ((f3.2.2.all fun x => isT x) && (Kn.kOk f4.1.2.2 f4.2.2.2 && (endB (f0,f1,f2,f3,f4,f5,f6,f7,f8,f9,f10) && (recB (f0,f1,f2,f3,f4,f5,f6,f7,f8,f9,f10))))))))))):=(rfl : wokB (f0,f1,f2,f3,f4,f5,f6,f7,f8,f9,f10) = _)
 go_enter Tryz.func39,Tryz.ntmps39
 go_wp2_with fail
 try rw [hV]
 refine (cfRight_is (cfOf f0) _ ((cf_at o0).later BC) (cf_ok o0 l10 l11 l12 l13)).mono ?_
 rintro en v0 ⟨rfl,hb⟩
 clear d0 d1 d2 d3 d4 d5 d6 d7 d8 d9 d10 d11 d12 d13 d14 d15
 replace TV:=TV.later hb (World.block_lt_of_cell? _ _ (TV.at 0 rfl))
 replace BC:=BC.trans (hb.mono BC.size)
 clear hb
 have d0:=TV.at 0 rfl
 have d1:=TV.at 1 rfl
 have d2:=TV.at 2 rfl
 have d3:=TV.at 3 rfl
 have d4:=TV.at 4 rfl
 have d5:=TV.at 5 rfl
 have d6:=TV.at 6 rfl
 have d7:=TV.at 7 rfl
 have d8:=TV.at 8 rfl
 have d9:=TV.at 9 rfl
 have d10:=TV.at 10 rfl
 have d11:=TV.at 11 rfl
 have d12:=TV.at 12 rfl
 have d13:=TV.at 13 rfl
 have d14:=TV.at 14 rfl
 have d15:=TV.at 15 rfl
 by_cases h0 : confB (cfOf f0) = true
 ·rw [h0]
  go_wp2_with fail
  refine (within_b f1 100000 _).mono ?_
  rintro en v1 ⟨rfl,rfl⟩
  by_cases h1 : btw f1 0 100000 = true
  ·rw [h1]
   by_cases h2 : decide (101 ≤ f2) = true
   ·have t2 : (101 : Int) ≤ f2:=of_decide_eq_true h2
    go_wp2_with fail
    refine (key_b f2 _).mono ?_
    rintro en v3 ⟨rfl,rfl⟩
    by_cases h3 : btw f2 1 1000000 = true
    ·rw [h3]
     by_cases h4 : decide (f3.2.2.length ≤ 50) = true
     ·have t4 : ((f3.2.2.length : Nat) : Int) ≤ 50:=by have:=of_decide_eq_true h4; omega
      go_wp2_with fail
      refine (allS_is f3.1 f3.2.1 f3.2.2 _ (o3.dp.later BC) l30 (fun x hx w' _ => impl_ok x w' (by have:=l31 x hx; omega))).mono ?_
      rintro en v5 ⟨rfl,hb⟩
      clear d0 d1 d2 d3 d4 d5 d6 d7 d8 d9 d10 d11 d12 d13 d14 d15
      replace TV:=TV.later hb (World.block_lt_of_cell? _ _ (TV.at 0 rfl))
      replace BC:=BC.trans (hb.mono BC.size)
      clear hb
      have d0:=TV.at 0 rfl
      have d1:=TV.at 1 rfl
      have d2:=TV.at 2 rfl
      have d3:=TV.at 3 rfl
      have d4:=TV.at 4 rfl
      have d5:=TV.at 5 rfl
      have d6:=TV.at 6 rfl
      have d7:=TV.at 7 rfl
      have d8:=TV.at 8 rfl
      have d9:=TV.at 9 rfl
      have d10:=TV.at 10 rfl
      have d11:=TV.at 11 rfl
      have d12:=TV.at 12 rfl
      have d13:=TV.at 13 rfl
      have d14:=TV.at 14 rfl
      have d15:=TV.at 15 rfl
      by_cases h5 : (f3.2.2.all fun x => isT x) = true
      ·rw [h5]
       go_wp2_with fail
       refine (Kn.impl_knownOk f4.1.1 f4.2.1 f4.1.2.1 f4.2.2.1 f4.1.2.2 f4.2.2.2 _ (o4.1.dp.later BC) (o4.2.dp.later BC) l40 l42 (own_cap o4.1) l41).mono ?_
       rintro en v6 ⟨rfl,hb⟩
       clear d0 d1 d2 d3 d4 d5 d6 d7 d8 d9 d10 d11 d12 d13 d14 d15
       replace TV:=TV.later hb (World.block_lt_of_cell? _ _ (TV.at 0 rfl))
       replace BC:=BC.trans (hb.mono BC.size)
       clear hb
       have d0:=TV.at 0 rfl
       have d1:=TV.at 1 rfl
       have d2:=TV.at 2 rfl
       have d3:=TV.at 3 rfl
       have d4:=TV.at 4 rfl
       have d5:=TV.at 5 rfl
       have d6:=TV.at 6 rfl
       have d7:=TV.at 7 rfl
       have d8:=TV.at 8 rfl
       have d9:=TV.at 9 rfl
       have d10:=TV.at 10 rfl
       have d11:=TV.at 11 rfl
       have d12:=TV.at 12 rfl
       have d13:=TV.at 13 rfl
       have d14:=TV.at 14 rfl
       have d15:=TV.at 15 rfl
       by_cases h6 : Kn.kOk f4.1.2.2 f4.2.2.2 = true
       ·rw [h6]
        go_wp2_with fail
        refine (ends_is B (f0,f1,f2,f3,f4,f5,f6,f7,f8,f9,f10) _ (HW.later BC)).mono ?_
        rintro en v7 ⟨rfl,hb⟩
        clear d0 d1 d2 d3 d4 d5 d6 d7 d8 d9 d10 d11 d12 d13 d14 d15
        replace TV:=TV.later hb (World.block_lt_of_cell? _ _ (TV.at 0 rfl))
        replace BC:=BC.trans (hb.mono BC.size)
        clear hb
        have d0:=TV.at 0 rfl
        have d1:=TV.at 1 rfl
        have d2:=TV.at 2 rfl
        have d3:=TV.at 3 rfl
        have d4:=TV.at 4 rfl
        have d5:=TV.at 5 rfl
        have d6:=TV.at 6 rfl
        have d7:=TV.at 7 rfl
        have d8:=TV.at 8 rfl
        have d9:=TV.at 9 rfl
        have d10:=TV.at 10 rfl
        have d11:=TV.at 11 rfl
        have d12:=TV.at 12 rfl
        have d13:=TV.at 13 rfl
        have d14:=TV.at 14 rfl
        have d15:=TV.at 15 rfl
        by_cases h7 : endB (f0,f1,f2,f3,f4,f5,f6,f7,f8,f9,f10) = true
        ·rw [h7]
         go_wp2_with fail
         refine (recs_is B (f0,f1,f2,f3,f4,f5,f6,f7,f8,f9,f10) _ (HW.later BC)).mono ?_
         rintro en v8 ⟨rfl,hb⟩
         clear d0 d1 d2 d3 d4 d5 d6 d7 d8 d9 d10 d11 d12 d13 d14 d15
         replace TV:=TV.later hb (World.block_lt_of_cell? _ _ (TV.at 0 rfl))
         replace BC:=BC.trans (hb.mono BC.size)
         clear hb
         have d0:=TV.at 0 rfl
         have d1:=TV.at 1 rfl
         have d2:=TV.at 2 rfl
         have d3:=TV.at 3 rfl
         have d4:=TV.at 4 rfl
         have d5:=TV.at 5 rfl
         have d6:=TV.at 6 rfl
         have d7:=TV.at 7 rfl
         have d8:=TV.at 8 rfl
         have d9:=TV.at 9 rfl
         have d10:=TV.at 10 rfl
         have d11:=TV.at 11 rfl
         have d12:=TV.at 12 rfl
         have d13:=TV.at 13 rfl
         have d14:=TV.at 14 rfl
         have d15:=TV.at 15 rfl
         by_cases h8 : recB (f0,f1,f2,f3,f4,f5,f6,f7,f8,f9,f10) = true
         ·rw [h8]
          go_wp2
          go_ret
          exact ⟨by rw [HE.out,h0,h1,h2,h3,h4,h5,h6,h7,h8]; rfl,BC⟩
         ·rw [Bool.not_eq_true] at h8
          rw [h8]
          go_wp2
          go_ret
          exact ⟨by rw [HE.out,h0,h1,h2,h3,h4,h5,h6,h7,h8]; rfl,BC⟩
        ·rw [Bool.not_eq_true] at h7
         rw [h7]
         go_wp2
         go_ret
         exact ⟨by rw [HE.out,h0,h1,h2,h3,h4,h5,h6,h7]; rfl,BC⟩
       ·rw [Bool.not_eq_true] at h6
        rw [h6]
        go_wp2
        go_ret
        exact ⟨by rw [HE.out,h0,h1,h2,h3,h4,h5,h6]; rfl,BC⟩
      ·rw [Bool.not_eq_true] at h5
       rw [h5]
       go_wp2
       go_ret
       exact ⟨by rw [HE.out,h0,h1,h2,h3,h4,h5]; rfl,BC⟩
     ·rw [Bool.not_eq_true] at h4
      have t4 : ¬ ((f3.2.2.length : Nat) : Int) ≤ 50:=by have:=of_decide_eq_false h4; omega
      go_wp2
      go_ret
      exact ⟨by rw [HE.out,h0,h1,h2,h3,h4]; rfl,BC⟩
    ·rw [Bool.not_eq_true] at h3
     rw [h3]
     go_wp2
     go_ret
     exact ⟨by rw [HE.out,h0,h1,h2,h3]; rfl,BC⟩
   ·rw [Bool.not_eq_true] at h2
    have t2 : ¬ (101 : Int) ≤ f2:=of_decide_eq_false h2
    go_wp2
    go_ret
    exact ⟨by rw [HE.out,h0,h1,h2]; rfl,BC⟩
  ·rw [Bool.not_eq_true] at h1
   rw [h1]
   go_wp2
   go_ret
   exact ⟨by rw [HE.out,h0,h1]; rfl,BC⟩
 ·rw [Bool.not_eq_true] at h0
  rw [h0]
  go_wp2
  go_ret
  exact ⟨by rw [HE.out,h0]; rfl,BC⟩
end Go.Proofs.YtlmpfkbgknbcnaaGreat.Nd
