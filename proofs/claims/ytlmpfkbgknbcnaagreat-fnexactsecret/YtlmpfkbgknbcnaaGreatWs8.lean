/- A world is right: the model. -/
import Derived.Test.YtlmpfkbgknbcnaaGreatAb
import Derived.Test.YtlmpfkbgknbcnaaGreatWs5
set_option linter.unusedVariables false
set_option maxRecDepth 100000
namespace Go.Proofs.YtlmpfkbgknbcnaaGreat.Nd
open Go Go.RowKit Go.Joins Own Draw Term
def modB (d : TD) : Bool:=confB (cfOf d.1) && (btw d.2.1 0 100000 && (btw d.2.2.1 101 1000000 && (decide (d.2.2.2.1.2.2.length ≤ 50) && (knB d.2.2.2.2.1 && (decide (d.2.2.2.2.2.1.2.2.length = 6) && (decide (d.2.2.2.2.2.2.1.2.2.length ≤ 30) && (decide (d.2.2.2.2.2.2.2.1.2.2.length = 3) && (decide (d.2.2.2.2.2.2.2.2.1.2.2.length ≤ 40) && (decide (d.2.2.2.2.2.2.2.2.2.1.2.2.length ≤ 40) && (decide (d.2.2.2.2.2.2.2.2.2.2.2.2.length ≤ 40) && ((d.2.2.2.1.2.2.all fun x => isT x) && ((d.2.2.2.2.2.1.2.2.all fun x => waitB x) && ((d.2.2.2.2.2.2.1.2.2.all fun x => crB x) && ((d.2.2.2.2.2.2.2.1.2.2.all fun x => caB x) && (d.2.2.2.2.2.2.2.2.2.1.2.2.all fun x => acB d.2.2.2.2.2.2.2.2.2.2.2.2.length x)))))))))))))))
theorem mod_is (d : TD) : modB d = wokB d:=by
 have hf : btw d.2.2.1 101 1000000 = (decide (101 ≤ d.2.2.1) && btw d.2.2.1 1 1000000):=by
  unfold btw
  by_cases h : (101 : Int) ≤ d.2.2.1
  ·have h1 : (1 : Int) ≤ d.2.2.1:=by omega
   simp [h,h1]
  ·simp [h]
 unfold modB wokB endB recB
 rw [hf]
 generalize confB (cfOf d.1) = b0
 generalize btw d.2.1 0 100000 = b1
 generalize decide (101 ≤ d.2.2.1) = b2
 generalize btw d.2.2.1 1 1000000 = b3
 generalize decide (d.2.2.2.1.2.2.length ≤ 50) = b4
 generalize knB d.2.2.2.2.1 = b5
 generalize decide (d.2.2.2.2.2.1.2.2.length = 6) = b6
 generalize decide (d.2.2.2.2.2.2.1.2.2.length ≤ 30) = b7
 generalize decide (d.2.2.2.2.2.2.2.1.2.2.length = 3) = b8
 generalize decide (d.2.2.2.2.2.2.2.2.1.2.2.length ≤ 40) = b9
 generalize decide (d.2.2.2.2.2.2.2.2.2.1.2.2.length ≤ 40) = b10
 generalize decide (d.2.2.2.2.2.2.2.2.2.2.2.2.length ≤ 40) = b11
 generalize (d.2.2.2.1.2.2.all fun x => isT x) = b12
 generalize (d.2.2.2.2.2.1.2.2.all fun x => waitB x) = b13
 generalize (d.2.2.2.2.2.2.1.2.2.all fun x => crB x) = b14
 generalize (d.2.2.2.2.2.2.2.1.2.2.all fun x => caB x) = b15
 generalize (d.2.2.2.2.2.2.2.2.2.1.2.2.all fun x => acB d.2.2.2.2.2.2.2.2.2.2.2.2.length x) = b16
 rw [Bool.eq_iff_iff]
 simp only [Bool.and_eq_true]
 constructor
 ·rintro ⟨a0,a1,⟨a2,a3⟩,a4,a5,a6,a7,a8,a9,a10,a11,a12,a13,a14,a15,a16⟩
  exact ⟨a0,a1,a2,a3,a4,a12,a5,⟨a6,a13,a7,a14,a8,a15⟩,a9,a10,a11,a16⟩
 ·rintro ⟨a0,a1,a2,a3,a4,a12,a5,⟨a6,a13,a7,a14,a8,a15⟩,a9,a10,a11,a16⟩
  exact ⟨a0,a1,⟨a2,a3⟩,a4,a5,a6,a7,a8,a9,a10,a11,a12,a13,a14,a15,a16⟩
set_option maxRecDepth 100000 in
set_option maxHeartbeats 3200000 in
theorem specWorldOk_is (B : Nat) (d : TD) (w : World) (hd : WdOk B w d) : Calls Tryz.prog 6 #[vD d] w fun e w' => e = .returned (.bool (wokB d)) ∧ Below w.heap.size w w':=by
 rw [← mod_is]
 obtain ⟨⟨l10,l11,l12,l13⟩,⟨l30,l31⟩,⟨l40,l42,l41⟩,⟨l50,l60,l61,l70,l71⟩,⟨l80,l90,l91,la0⟩⟩:=tot_parts hd.le
 have hok:=hd.ok
 have HW : Hid (WdOk B w d):=hd
 obtain ⟨o0,o3,o4,o5,o6,o7,o8,o9,oa⟩:=hd.ow
 clear hd
 obtain ⟨f0,f1,f2,f3,f4,f5,f6,f7,f8,f9,f10⟩:=d
 dsimp only at *
 obtain ⟨V,hV⟩ : ∃ V,w.alloc (.cells #[.slice f0.1.1 f0.1.2.2.length f0.1.2.1,.slice f0.2.1.1 f0.2.1.2.2.length f0.2.1.2.1,.slice f0.2.2.1.1 f0.2.2.1.2.2.length f0.2.2.1.2.1,.slice f0.2.2.2.1.1 f0.2.2.2.1.2.2.length f0.2.2.2.1.2.1,I f0.2.2.2.2,I f1,I f2,.slice f3.1 f3.2.2.length f3.2.1,.slice f4.1.1 f4.1.2.2.length f4.1.2.1,.slice f4.2.1 f4.2.2.2.length f4.2.2.1,.slice f5.1 f5.2.2.length f5.2.1,.slice f6.1 f6.2.2.length f6.2.1,.slice f7.1 f7.2.2.length f7.2.1,.slice f8.1 f8.2.2.length f8.2.1,.slice f9.1 f9.2.2.length f9.2.1,.slice f10.1 f10.2.2.length f10.2.1] 48) = V:=⟨_,rfl⟩
 have TV : Blk w.heap.size [.slice f0.1.1 f0.1.2.2.length f0.1.2.1,.slice f0.2.1.1 f0.2.1.2.2.length f0.2.1.2.1,.slice f0.2.2.1.1 f0.2.2.1.2.2.length f0.2.2.1.2.1,.slice f0.2.2.2.1.1 f0.2.2.2.1.2.2.length f0.2.2.2.1.2.1,I f0.2.2.2.2,I f1,I f2,.slice f3.1 f3.2.2.length f3.2.1,.slice f4.1.1 f4.1.2.2.length f4.1.2.1,.slice f4.2.1 f4.2.2.2.length f4.2.2.1,.slice f5.1 f5.2.2.length f5.2.1,.slice f6.1 f6.2.2.length f6.2.1,.slice f7.1 f7.2.2.length f7.2.1,.slice f8.1 f8.2.2.length f8.2.1,.slice f9.1 f9.2.2.length f9.2.1,.slice f10.1 f10.2.2.length f10.2.1] V:=by rw [← hV]; exact Blk.new _ _ _
 have BC : Below w.heap.size w V:=by rw [← hV]; exact (Below.refl _ _).alloc (Nat.le_refl _) _
 have d0:=TV.at 0 rfl
 have d1:=TV.at 1 rfl
 have d2:=TV.at 2 rfl
 have d3:=TV.at 3 rfl
 have d4:=TV.at 4 rfl
 have d5:=TV.at 5 rfl
 have d6:=TV.at 6 rfl
 have d7:=TV.at 7 rfl
 have d8:=TV.at 8 rfl
 have d9:=TV.at 9 rfl
 have d10:=TV.at 10 rfl
 have d11:=TV.at 11 rfl
 have d12:=TV.at 12 rfl
 have d13:=TV.at 13 rfl
 have d14:=TV.at 14 rfl
 have d15:=TV.at 15 rfl
 have HE : Hid (modB (f0,f1,f2,f3,f4,f5,f6,f7,f8,f9,f10) = (confB (cfOf f0) && (btw f1 0 100000 && (btw f2 101 1000000 && (decide (f3.2.2.length ≤ 50) && (Kn.kOk f4.1.2.2 f4.2.2.2 && (decide (f5.2.2.length = 6) && (decide (f6.2.2.length ≤ 30) && (decide (f7.2.2.length = 3) && (decide (f8.2.2.length ≤ 40) && (decide (f9.2.2.length ≤ 40) && (decide (f10.2.2.length ≤ 40) && ((f3.2.2.all fun x => isT x) && ((f5.2.2.all fun x => waitB x) && ((f6.2.2.all fun x => crB x) && ((f7.2.2.all fun x => caB x) && ((f9.2.2.all fun x => acB f10.2.2.length x)))))))))))))))))):=(rfl : modB (f0,f1,f2,f3,f4,f5,f6,f7,f8,f9,f10) = _)
 go_enter Tryz.func6,Tryz.ntmps6
 go_wp2_with fail
 try rw [hV]
 refine (cfSpecOk_is (cfOf f0) _ ((cf_at o0).later BC) (cf_ok o0 l10 l11 l12 l13)).mono ?_
 rintro en v0 ⟨rfl,hb⟩
 clear d0 d1 d2 d3 d4 d5 d6 d7 d8 d9 d10 d11 d12 d13 d14 d15
 replace TV:=TV.later hb (World.block_lt_of_cell? _ _ (TV.at 0 rfl))
 replace BC:=BC.trans (hb.mono BC.size)
 clear hb
 have d0:=TV.at 0 rfl
 have d1:=TV.at 1 rfl
 have d2:=TV.at 2 rfl
 have d3:=TV.at 3 rfl
 have d4:=TV.at 4 rfl
 have d5:=TV.at 5 rfl
 have d6:=TV.at 6 rfl
 have d7:=TV.at 7 rfl
 have d8:=TV.at 8 rfl
 have d9:=TV.at 9 rfl
 have d10:=TV.at 10 rfl
 have d11:=TV.at 11 rfl
 have d12:=TV.at 12 rfl
 have d13:=TV.at 13 rfl
 have d14:=TV.at 14 rfl
 have d15:=TV.at 15 rfl
 by_cases h0 : confB (cfOf f0) = true
 ·rw [h0]
  go_wp2_with fail
  refine (in_b f1 0 100000 _).mono ?_
  rintro en v1 ⟨rfl,rfl⟩
  by_cases h1 : btw f1 0 100000 = true
  ·rw [h1]
   go_wp2_with fail
   refine (in_b f2 101 1000000 _).mono ?_
   rintro en v2 ⟨rfl,rfl⟩
   by_cases h2 : btw f2 101 1000000 = true
   ·rw [h2]
    by_cases h3 : decide (f3.2.2.length ≤ 50) = true
    ·have t3 : ¬ ((50 : Int) < ((f3.2.2.length : Nat) : Int)):=by have:=of_decide_eq_true h3; omega
     go_wp2_with fail
     refine (Kn.spec_knownOk f4.1.1 f4.2.1 f4.1.2.1 f4.2.2.1 f4.1.2.2 f4.2.2.2 _ (o4.1.dp.later BC) (o4.2.dp.later BC) l40 l42 (own_cap o4.1) l41).mono ?_
     rintro en v4 ⟨rfl,hb⟩
     clear d0 d1 d2 d3 d4 d5 d6 d7 d8 d9 d10 d11 d12 d13 d14 d15
     replace TV:=TV.later hb (World.block_lt_of_cell? _ _ (TV.at 0 rfl))
     replace BC:=BC.trans (hb.mono BC.size)
     clear hb
     have d0:=TV.at 0 rfl
     have d1:=TV.at 1 rfl
     have d2:=TV.at 2 rfl
     have d3:=TV.at 3 rfl
     have d4:=TV.at 4 rfl
     have d5:=TV.at 5 rfl
     have d6:=TV.at 6 rfl
     have d7:=TV.at 7 rfl
     have d8:=TV.at 8 rfl
     have d9:=TV.at 9 rfl
     have d10:=TV.at 10 rfl
     have d11:=TV.at 11 rfl
     have d12:=TV.at 12 rfl
     have d13:=TV.at 13 rfl
     have d14:=TV.at 14 rfl
     have d15:=TV.at 15 rfl
     by_cases h4 : Kn.kOk f4.1.2.2 f4.2.2.2 = true
     ·rw [h4]
      by_cases h5 : decide (f5.2.2.length = 6) = true
      ·have t5 : (((f5.2.2.length : Nat) : Int) != 6) = false:=by have:=of_decide_eq_true h5; simp; omega
       by_cases h6 : decide (f6.2.2.length ≤ 30) = true
       ·have t6 : ¬ ((30 : Int) < ((f6.2.2.length : Nat) : Int)):=by have:=of_decide_eq_true h6; omega
        by_cases h7 : decide (f7.2.2.length = 3) = true
        ·have t7 : (((f7.2.2.length : Nat) : Int) != 3) = false:=by have:=of_decide_eq_true h7; simp; omega
         by_cases h8 : decide (f8.2.2.length ≤ 40) = true
         ·have t8 : ¬ ((40 : Int) < ((f8.2.2.length : Nat) : Int)):=by have:=of_decide_eq_true h8; omega
          by_cases h9 : decide (f9.2.2.length ≤ 40) = true
          ·have t9 : ¬ ((40 : Int) < ((f9.2.2.length : Nat) : Int)):=by have:=of_decide_eq_true h9; omega
           by_cases h10 : decide (f10.2.2.length ≤ 40) = true
           ·have t10 : ¬ ((40 : Int) < ((f10.2.2.length : Nat) : Int)):=by have:=of_decide_eq_true h10; omega
            have HT : Hid (modB (f0,f1,f2,f3,f4,f5,f6,f7,f8,f9,f10) = ((f3.2.2.all fun x => isT x) && ((f5.2.2.all fun x => waitB x) && ((f6.2.2.all fun x => crB x) && ((f7.2.2.all fun x => caB x) && ((f9.2.2.all fun x => acB f10.2.2.length x))))))):=by show _ = _; rw [HE.out,h0,h1,h2,h3,h4,h5,h6,h7,h8,h9,h10]; rfl
            clear HE h0 h1 h2 h3 h4 h5 h6 h7 h8 h9 h10
            clear l10 l11 l12 l13 l30 l31 l40 l42 l41 l50 l60 l61 l70 l71 l80 l90 l91 la0 hok o0 o3 o4 o5 o6 o7 o8 o9 oa
            go_wp2
            clear t3 t5 t6 t7 t8 t9 t10
            obtain ⟨U0,hU0⟩ : ∃ U,U = v4:=⟨_,rfl⟩
            rw [← hU0] at TV BC ⊢
            clear d0 d1 d2 d3 d4 d5 d6 d7 d8 d9 d10 d11 d12 d13 d14 d15
            clear hU0
            go_loopw [3] (fun iv wr => ∃ k : Nat,k ≤ f3.2.2.length ∧ iv = I k ∧ Hid (∀ j (h : j < f3.2.2.length),j < k → (fun x => isT x) f3.2.2[j] = true) ∧ Below U0.heap.size U0 wr) (fun iv _ => f3.2.2.length - (intOf iv).toNat)
            case atStart => exact ⟨0,by omega,rfl,fun j h hj => absurd hj (by omega),Below.refl _ _⟩
            case round =>
             obtain ⟨k,hk,rfl,hno,hbel⟩:=hrel
             have TW:=TV.later hbel (World.block_lt_of_cell? _ _ (TV.at 0 rfl))
             have BW:=BC.trans (hbel.mono BC.size)
             have d7:=TW.at 7 rfl
             have hD:=HW.out
             have l31:=(tot_parts hD.le).2.1.2
             have l61:=(tot_parts hD.le).2.2.2.1.2.2.1
             have l71:=(tot_parts hD.le).2.2.2.1.2.2.2.2
             have l91:=(tot_parts hD.le).2.2.2.2.2.2.1
             have lb:=(tot_parts hD.le).2.1.1
             dsimp only at lb
             obtain ⟨o0,o3,o4,o5,o6,o7,o8,o9,oa⟩:=hD.ow
             clear hD
             by_cases hlt : k < f3.2.2.length
             ·obtain ⟨b1,o1,ea,l1,hcc⟩:=(o3.dp) k hlt
              have c0 : wr.cell? ⟨b1,o1 + k,none⟩ = some (.string f3.2.2[k]):=(BW.cell (p:=⟨b1,o1 + k,none⟩) l1).trans hcc
              have hlt2 : (k : Int) < (f3.2.2.length : Int):=by omega
              rw [ea] at d7
              clear ea
              have hno2 : (fun x => isT x) f3.2.2[k] = true → Hid (∀ j (h : j < f3.2.2.length),j < k + 1 → (fun x => isT x) f3.2.2[j] = true):=fun he j h hj => by
               by_cases e : j = k
               ·subst e; exact he
               ·exact hno.out j h (by omega)
              have hbad : (fun x => isT x) f3.2.2[k] = false → Hid (modB (f0,f1,f2,f3,f4,f5,f6,f7,f8,f9,f10) = false):=fun he => by
               show _ = _
               have ha : (f3.2.2.all fun x => isT x) = false:=by
                rw [List.all_eq_false]
                exact ⟨f3.2.2[k],List.getElem_mem hlt,fun h => absurd (h.symm.trans he) (by decide)⟩
               rw [HT.out,ha]; rfl
              have K1:=fun W0 : World => spec_ok f3.2.2[k] W0 (l31 _ (List.getElem_mem hlt))
              clear hno hcc l31 l61 l71 l91 o0 o3 o4 o5 o6 o7 o8 o9 oa TW
              generalize hxk : f3.2.2[k] = x at K1 hno2 hbad c0
              clear hxk
              dsimp only at hno2 hbad
              go_wp2_with fail
              refine (K1 _).mono ?_
              clear K1 c0
              rintro en w2 ⟨rfl,hb⟩
              replace hbel:=hbel.trans (hb.mono hbel.size)
              replace BW:=BW.trans (hb.mono BW.size)
              clear hb
              by_cases HB : isT x = true
              ·rw [show isT x = true from HB]
               have HB1:=HB
               have hno3:=hno2 HB1
               clear hno2 hbad
               go_wp2
               go_roundw
               case rel => exact ⟨k + 1,by omega,by go_num,hno3,hbel⟩
               case measure => simp [intOf]; omega
              ·rw [Bool.not_eq_true] at HB
               rw [show isT x = false from HB]
               have hbd:=hbad HB
               clear hno2 hbad
               go_wp2
               go_ret
               exact ⟨by rw [hbd.out]; rfl,BW⟩
             ·obtain rfl : k = f3.2.2.length:=by omega
              clear l31 l61 l71 l91 o0 o3 o4 o5 o6 o7 o8 o9 oa
              have ha : (f3.2.2.all fun x => isT x) = true:=by
               rw [List.all_eq_true]
               intro x hx
               obtain ⟨j,hj,rfl⟩:=List.mem_iff_getElem.1 hx
               exact hno.out j hj hj
              replace HT : Hid (modB (f0,f1,f2,f3,f4,f5,f6,f7,f8,f9,f10) = ((f5.2.2.all fun x => waitB x) && ((f6.2.2.all fun x => crB x) && ((f7.2.2.all fun x => caB x) && ((f9.2.2.all fun x => acB f10.2.2.length x)))))):=by show _ = _; rw [HT.out,ha]; rfl
              replace TV:=TW
              replace BC:=BW
              clear hno ha hbel TW BW hlt lb
              skip
              skip
              skip
              go_wp2
              obtain ⟨U1,hU1⟩ : ∃ U,U = wr:=⟨_,rfl⟩
              rw [← hU1] at TV BC ⊢
              clear d7
              clear hU1
              go_loopw [4] (fun iv wr => ∃ k : Nat,k ≤ f5.2.2.length ∧ iv = I k ∧ Hid (∀ j (h : j < f5.2.2.length),j < k → (fun x => waitB x) f5.2.2[j] = true) ∧ Below U1.heap.size U1 wr) (fun iv _ => f5.2.2.length - (intOf iv).toNat)
              case atStart => exact ⟨0,by omega,rfl,fun j h hj => absurd hj (by omega),Below.refl _ _⟩
              case round =>
               obtain ⟨k,hk,rfl,hno,hbel⟩:=hrel
               have TW:=TV.later hbel (World.block_lt_of_cell? _ _ (TV.at 0 rfl))
               have BW:=BC.trans (hbel.mono BC.size)
               have d10:=TW.at 10 rfl
               have hD:=HW.out
               have l31:=(tot_parts hD.le).2.1.2
               have l61:=(tot_parts hD.le).2.2.2.1.2.2.1
               have l71:=(tot_parts hD.le).2.2.2.1.2.2.2.2
               have l91:=(tot_parts hD.le).2.2.2.2.2.2.1
               have lb:=(tot_parts hD.le).2.2.2.1.1
               dsimp only at lb
               obtain ⟨o0,o3,o4,o5,o6,o7,o8,o9,oa⟩:=hD.ow
               clear hD
               by_cases hlt : k < f5.2.2.length
               ·obtain ⟨b1,o1,ea,l1,hcc⟩:=(o5.dp) k hlt
                have c0 : wr.cell? ⟨b1,o1 + k * 4,none⟩ = some (.bool f5.2.2[k].1):=(BW.cell (p:=⟨b1,o1 + k * 4,none⟩) l1).trans (hcc 0 _ rfl)
                have c1 : wr.cell? ⟨b1,o1 + k * 4 + 1,none⟩ = some (I f5.2.2[k].2.1):=(BW.cell (p:=⟨b1,o1 + k * 4 + 1,none⟩) l1).trans (hcc 1 _ rfl)
                have c2 : wr.cell? ⟨b1,o1 + k * 4 + 2,none⟩ = some (I f5.2.2[k].2.2.1):=(BW.cell (p:=⟨b1,o1 + k * 4 + 2,none⟩) l1).trans (hcc 2 _ rfl)
                have c3 : wr.cell? ⟨b1,o1 + k * 4 + 3,none⟩ = some (I f5.2.2[k].2.2.2):=(BW.cell (p:=⟨b1,o1 + k * 4 + 3,none⟩) l1).trans (hcc 3 _ rfl)
                have hlt2 : (k : Int) < (f5.2.2.length : Int):=by omega
                rw [ea] at d10
                clear ea
                have hno2 : (fun x => waitB x) f5.2.2[k] = true → Hid (∀ j (h : j < f5.2.2.length),j < k + 1 → (fun x => waitB x) f5.2.2[j] = true):=fun he j h hj => by
                 by_cases e : j = k
                 ·subst e; exact he
                 ·exact hno.out j h (by omega)
                have hbad : (fun x => waitB x) f5.2.2[k] = false → Hid (modB (f0,f1,f2,f3,f4,f5,f6,f7,f8,f9,f10) = false):=fun he => by
                 show _ = _
                 have ha : (f5.2.2.all fun x => waitB x) = false:=by
                  rw [List.all_eq_false]
                  exact ⟨f5.2.2[k],List.getElem_mem hlt,fun h => absurd (h.symm.trans he) (by decide)⟩
                 rw [HT.out,ha]; rfl
                have K1:=fun W0 : World => waitSpec_is f5.2.2[k] W0
                clear hno hcc l31 l61 l71 l91 o0 o3 o4 o5 o6 o7 o8 o9 oa TW
                generalize hxk : f5.2.2[k] = x at K1 hno2 hbad c0 c1 c2 c3
                clear hxk
                dsimp only at hno2 hbad
                go_wp2_with fail
                refine (K1 _).mono ?_
                clear K1 c0 c1 c2 c3
                rintro en w2 ⟨rfl,hb⟩
                replace hbel:=hbel.trans (hb.mono hbel.size)
                replace BW:=BW.trans (hb.mono BW.size)
                clear hb
                by_cases HB : waitB x = true
                ·rw [show waitB x = true from HB]
                 have HB1:=HB
                 have hno3:=hno2 HB1
                 clear hno2 hbad
                 go_wp2
                 go_roundw
                 case rel => exact ⟨k + 1,by omega,by go_num,hno3,hbel⟩
                 case measure => simp [intOf]; omega
                ·rw [Bool.not_eq_true] at HB
                 rw [show waitB x = false from HB]
                 have hbd:=hbad HB
                 clear hno2 hbad
                 go_wp2
                 go_ret
                 exact ⟨by rw [hbd.out]; rfl,BW⟩
               ·obtain rfl : k = f5.2.2.length:=by omega
                clear l31 l61 l71 l91 o0 o3 o4 o5 o6 o7 o8 o9 oa
                have ha : (f5.2.2.all fun x => waitB x) = true:=by
                 rw [List.all_eq_true]
                 intro x hx
                 obtain ⟨j,hj,rfl⟩:=List.mem_iff_getElem.1 hx
                 exact hno.out j hj hj
                replace HT : Hid (modB (f0,f1,f2,f3,f4,f5,f6,f7,f8,f9,f10) = ((f6.2.2.all fun x => crB x) && ((f7.2.2.all fun x => caB x) && ((f9.2.2.all fun x => acB f10.2.2.length x))))):=by show _ = _; rw [HT.out,ha]; rfl
                replace TV:=TW
                replace BC:=BW
                clear hno ha hbel TW BW hlt lb
                skip
                skip
                skip
                go_wp2
                obtain ⟨U2,hU2⟩ : ∃ U,U = wr:=⟨_,rfl⟩
                rw [← hU2] at TV BC ⊢
                clear d10
                clear hU2
                go_loopw [5] (fun iv wr => ∃ k : Nat,k ≤ f6.2.2.length ∧ iv = I k ∧ Hid (∀ j (h : j < f6.2.2.length),j < k → (fun x => crB x) f6.2.2[j] = true) ∧ Below U2.heap.size U2 wr) (fun iv _ => f6.2.2.length - (intOf iv).toNat)
                case atStart => exact ⟨0,by omega,rfl,fun j h hj => absurd hj (by omega),Below.refl _ _⟩
                case round =>
                 obtain ⟨k,hk,rfl,hno,hbel⟩:=hrel
                 have TW:=TV.later hbel (World.block_lt_of_cell? _ _ (TV.at 0 rfl))
                 have BW:=BC.trans (hbel.mono BC.size)
                 have d11:=TW.at 11 rfl
                 have hD:=HW.out
                 have l31:=(tot_parts hD.le).2.1.2
                 have l61:=(tot_parts hD.le).2.2.2.1.2.2.1
                 have l71:=(tot_parts hD.le).2.2.2.1.2.2.2.2
                 have l91:=(tot_parts hD.le).2.2.2.2.2.2.1
                 have lb:=(tot_parts hD.le).2.2.2.1.2.1
                 dsimp only at lb
                 obtain ⟨o0,o3,o4,o5,o6,o7,o8,o9,oa⟩:=hD.ow
                 clear hD
                 by_cases hlt : k < f6.2.2.length
                 ·obtain ⟨b1,o1,ea,l1,hcc⟩:=(o6.dp) k hlt
                  have c0 : wr.cell? ⟨b1,o1 + k * 8,none⟩ = some (I f6.2.2[k].1):=(BW.cell (p:=⟨b1,o1 + k * 8,none⟩) l1).trans (hcc 0 _ rfl)
                  have c1 : wr.cell? ⟨b1,o1 + k * 8 + 1,none⟩ = some (I f6.2.2[k].2.1):=(BW.cell (p:=⟨b1,o1 + k * 8 + 1,none⟩) l1).trans (hcc 1 _ rfl)
                  have c2 : wr.cell? ⟨b1,o1 + k * 8 + 2,none⟩ = some (I f6.2.2[k].2.2.1):=(BW.cell (p:=⟨b1,o1 + k * 8 + 2,none⟩) l1).trans (hcc 2 _ rfl)
                  have c3 : wr.cell? ⟨b1,o1 + k * 8 + 3,none⟩ = some (I f6.2.2[k].2.2.2.1):=(BW.cell (p:=⟨b1,o1 + k * 8 + 3,none⟩) l1).trans (hcc 3 _ rfl)
                  have c4 : wr.cell? ⟨b1,o1 + k * 8 + 4,none⟩ = some (I f6.2.2[k].2.2.2.2.1):=(BW.cell (p:=⟨b1,o1 + k * 8 + 4,none⟩) l1).trans (hcc 4 _ rfl)
                  have c5 : wr.cell? ⟨b1,o1 + k * 8 + 5,none⟩ = some (I f6.2.2[k].2.2.2.2.2.1):=(BW.cell (p:=⟨b1,o1 + k * 8 + 5,none⟩) l1).trans (hcc 5 _ rfl)
                  have c6 : wr.cell? ⟨b1,o1 + k * 8 + 6,none⟩ = some (I f6.2.2[k].2.2.2.2.2.2.1):=(BW.cell (p:=⟨b1,o1 + k * 8 + 6,none⟩) l1).trans (hcc 6 _ rfl)
                  have c7 : wr.cell? ⟨b1,o1 + k * 8 + 7,none⟩ = some (.string f6.2.2[k].2.2.2.2.2.2.2):=(BW.cell (p:=⟨b1,o1 + k * 8 + 7,none⟩) l1).trans (hcc 7 _ rfl)
                  have hlt2 : (k : Int) < (f6.2.2.length : Int):=by omega
                  rw [ea] at d11
                  clear ea
                  have hno2 : (fun x => crB x) f6.2.2[k] = true → Hid (∀ j (h : j < f6.2.2.length),j < k + 1 → (fun x => crB x) f6.2.2[j] = true):=fun he j h hj => by
                   by_cases e : j = k
                   ·subst e; exact he
                   ·exact hno.out j h (by omega)
                  have hbad : (fun x => crB x) f6.2.2[k] = false → Hid (modB (f0,f1,f2,f3,f4,f5,f6,f7,f8,f9,f10) = false):=fun he => by
                   show _ = _
                   have ha : (f6.2.2.all fun x => crB x) = false:=by
                    rw [List.all_eq_false]
                    exact ⟨f6.2.2[k],List.getElem_mem hlt,fun h => absurd (h.symm.trans he) (by decide)⟩
                   rw [HT.out,ha]; rfl
                  have K1:=fun W0 : World => specCred_is f6.2.2[k].1 f6.2.2[k].2.1 f6.2.2[k].2.2.1 f6.2.2[k].2.2.2.1 f6.2.2[k].2.2.2.2.1 f6.2.2[k].2.2.2.2.2.1 f6.2.2[k].2.2.2.2.2.2.1 f6.2.2[k].2.2.2.2.2.2.2 W0 (l61 _ (List.getElem_mem hlt))
                  clear hno hcc l31 l61 l71 l91 o0 o3 o4 o5 o6 o7 o8 o9 oa TW
                  generalize hxk : f6.2.2[k] = x at K1 hno2 hbad c0 c1 c2 c3 c4 c5 c6 c7
                  clear hxk
                  dsimp only at hno2 hbad
                  go_wp2_with fail
                  refine (K1 _).mono ?_
                  clear K1 c0 c1 c2 c3 c4 c5 c6 c7
                  rintro en w2 ⟨rfl,hb⟩
                  replace hbel:=hbel.trans (hb.mono hbel.size)
                  replace BW:=BW.trans (hb.mono BW.size)
                  clear hb
                  by_cases HB : crB x = true
                  ·rw [show crOk x.1 x.2.1 x.2.2.1 x.2.2.2.1 x.2.2.2.2.1 x.2.2.2.2.2.1 x.2.2.2.2.2.2.1 x.2.2.2.2.2.2.2 = true from HB]
                   have HB1:=HB
                   have hno3:=hno2 HB1
                   clear hno2 hbad
                   go_wp2
                   go_roundw
                   case rel => exact ⟨k + 1,by omega,by go_num,hno3,hbel⟩
                   case measure => simp [intOf]; omega
                  ·rw [Bool.not_eq_true] at HB
                   rw [show crOk x.1 x.2.1 x.2.2.1 x.2.2.2.1 x.2.2.2.2.1 x.2.2.2.2.2.1 x.2.2.2.2.2.2.1 x.2.2.2.2.2.2.2 = false from HB]
                   have hbd:=hbad HB
                   clear hno2 hbad
                   go_wp2
                   go_ret
                   exact ⟨by rw [hbd.out]; rfl,BW⟩
                 ·obtain rfl : k = f6.2.2.length:=by omega
                  clear l31 l61 l71 l91 o0 o3 o4 o5 o6 o7 o8 o9 oa
                  have ha : (f6.2.2.all fun x => crB x) = true:=by
                   rw [List.all_eq_true]
                   intro x hx
                   obtain ⟨j,hj,rfl⟩:=List.mem_iff_getElem.1 hx
                   exact hno.out j hj hj
                  replace HT : Hid (modB (f0,f1,f2,f3,f4,f5,f6,f7,f8,f9,f10) = ((f7.2.2.all fun x => caB x) && ((f9.2.2.all fun x => acB f10.2.2.length x)))):=by show _ = _; rw [HT.out,ha]; rfl
                  replace TV:=TW
                  replace BC:=BW
                  clear hno ha hbel TW BW hlt lb
                  skip
                  skip
                  skip
                  go_wp2
                  obtain ⟨U3,hU3⟩ : ∃ U,U = wr:=⟨_,rfl⟩
                  rw [← hU3] at TV BC ⊢
                  clear d11
                  clear hU3
                  go_loopw [6] (fun iv wr => ∃ k : Nat,k ≤ f7.2.2.length ∧ iv = I k ∧ Hid (∀ j (h : j < f7.2.2.length),j < k → (fun x => caB x) f7.2.2[j] = true) ∧ Below U3.heap.size U3 wr) (fun iv _ => f7.2.2.length - (intOf iv).toNat)
                  case atStart => exact ⟨0,by omega,rfl,fun j h hj => absurd hj (by omega),Below.refl _ _⟩
                  case round =>
                   obtain ⟨k,hk,rfl,hno,hbel⟩:=hrel
                   have TW:=TV.later hbel (World.block_lt_of_cell? _ _ (TV.at 0 rfl))
                   have BW:=BC.trans (hbel.mono BC.size)
                   have d12:=TW.at 12 rfl
                   have hD:=HW.out
                   have l31:=(tot_parts hD.le).2.1.2
                   have l61:=(tot_parts hD.le).2.2.2.1.2.2.1
                   have l71:=(tot_parts hD.le).2.2.2.1.2.2.2.2
                   have l91:=(tot_parts hD.le).2.2.2.2.2.2.1
                   have lb:=(tot_parts hD.le).2.2.2.1.2.2.2.1
                   dsimp only at lb
                   obtain ⟨o0,o3,o4,o5,o6,o7,o8,o9,oa⟩:=hD.ow
                   clear hD
                   by_cases hlt : k < f7.2.2.length
                   ·obtain ⟨b1,o1,ea,l1,hcc⟩:=(o7.dp.1) k hlt
                    have c0 : wr.cell? ⟨b1,o1 + k * 2,none⟩ = some (I f7.2.2[k].1):=(BW.cell (p:=⟨b1,o1 + k * 2,none⟩) l1).trans (hcc 0 _ rfl)
                    have c1 : wr.cell? ⟨b1,o1 + k * 2 + 1,none⟩ = some (.slice f7.2.2[k].2.1 f7.2.2[k].2.2.2.length f7.2.2[k].2.2.1):=(BW.cell (p:=⟨b1,o1 + k * 2 + 1,none⟩) l1).trans (hcc 1 _ rfl)
                    have hlt2 : (k : Int) < (f7.2.2.length : Int):=by omega
                    rw [ea] at d12
                    clear ea
                    have hno2 : (fun x => caB x) f7.2.2[k] = true → Hid (∀ j (h : j < f7.2.2.length),j < k + 1 → (fun x => caB x) f7.2.2[j] = true):=fun he j h hj => by
                     by_cases e : j = k
                     ·subst e; exact he
                     ·exact hno.out j h (by omega)
                    have hbad : (fun x => caB x) f7.2.2[k] = false → Hid (modB (f0,f1,f2,f3,f4,f5,f6,f7,f8,f9,f10) = false):=fun he => by
                     show _ = _
                     have ha : (f7.2.2.all fun x => caB x) = false:=by
                      rw [List.all_eq_false]
                      exact ⟨f7.2.2[k],List.getElem_mem hlt,fun h => absurd (h.symm.trans he) (by decide)⟩
                     rw [HT.out,ha]; rfl
                    have K1:=Ch.specOk_is f7.2.2[k].1 f7.2.2[k].2.1 f7.2.2[k].2.2.1 f7.2.2[k].2.2.2 _ (arow_of (((own_at o7 _ (List.getElem_mem hlt)).dp.later BC).later hbel)) (l71 _ (List.getElem_mem hlt)) (own_cap (own_at o7 _ (List.getElem_mem hlt)))
                    clear hno hcc l31 l61 l71 l91 o0 o3 o4 o5 o6 o7 o8 o9 oa TW
                    generalize hxk : f7.2.2[k] = x at K1 hno2 hbad c0 c1
                    clear hxk
                    dsimp only at hno2 hbad
                    go_wp2_with fail
                    refine K1.mono ?_
                    clear K1 c0 c1
                    rintro en w2 ⟨rfl,hb⟩
                    replace hbel:=hbel.trans (hb.mono hbel.size)
                    replace BW:=BW.trans (hb.mono BW.size)
                    clear hb
                    by_cases HB : caB x = true
                    ·rw [show Ch.cOk x.1 x.2.2.2 = true from HB]
                     have HB1:=HB
                     have hno3:=hno2 HB1
                     clear hno2 hbad
                     go_wp2
                     go_roundw
                     case rel => exact ⟨k + 1,by omega,by go_num,hno3,hbel⟩
                     case measure => simp [intOf]; omega
                    ·rw [Bool.not_eq_true] at HB
                     rw [show Ch.cOk x.1 x.2.2.2 = false from HB]
                     have hbd:=hbad HB
                     clear hno2 hbad
                     go_wp2
                     go_ret
                     exact ⟨by rw [hbd.out]; rfl,BW⟩
                   ·obtain rfl : k = f7.2.2.length:=by omega
                    clear l31 l61 l71 l91 o0 o3 o4 o5 o6 o7 o8 o9 oa
                    have ha : (f7.2.2.all fun x => caB x) = true:=by
                     rw [List.all_eq_true]
                     intro x hx
                     obtain ⟨j,hj,rfl⟩:=List.mem_iff_getElem.1 hx
                     exact hno.out j hj hj
                    replace HT : Hid (modB (f0,f1,f2,f3,f4,f5,f6,f7,f8,f9,f10) = ((f9.2.2.all fun x => acB f10.2.2.length x))):=by show _ = _; rw [HT.out,ha]; rfl
                    replace TV:=TW
                    replace BC:=BW
                    clear hno ha hbel TW BW hlt lb
                    skip
                    skip
                    skip
                    go_wp2
                    obtain ⟨U4,hU4⟩ : ∃ U,U = wr:=⟨_,rfl⟩
                    rw [← hU4] at TV BC ⊢
                    clear d12
                    clear hU4
                    go_loopw [7] (fun iv wr => ∃ k : Nat,k ≤ f9.2.2.length ∧ iv = I k ∧ Hid (∀ j (h : j < f9.2.2.length),j < k → (fun x => acB f10.2.2.length x) f9.2.2[j] = true) ∧ Below U4.heap.size U4 wr) (fun iv _ => f9.2.2.length - (intOf iv).toNat)
                    case atStart => exact ⟨0,by omega,rfl,fun j h hj => absurd hj (by omega),Below.refl _ _⟩
                    case round =>
                     obtain ⟨k,hk,rfl,hno,hbel⟩:=hrel
                     have TW:=TV.later hbel (World.block_lt_of_cell? _ _ (TV.at 0 rfl))
                     have BW:=BC.trans (hbel.mono BC.size)
                     have d14:=TW.at 14 rfl
                     have hD:=HW.out
                     have l31:=(tot_parts hD.le).2.1.2
                     have l61:=(tot_parts hD.le).2.2.2.1.2.2.1
                     have l71:=(tot_parts hD.le).2.2.2.1.2.2.2.2
                     have l91:=(tot_parts hD.le).2.2.2.2.2.2.1
                     have lb:=(tot_parts hD.le).2.2.2.2.2.1
                     dsimp only at lb
                     obtain ⟨o0,o3,o4,o5,o6,o7,o8,o9,oa⟩:=hD.ow
                     clear hD
                     by_cases hlt : k < f9.2.2.length
                     ·obtain ⟨b1,o1,ea,l1,hcc⟩:=(o9.dp.1) k hlt
                      have c0 : wr.cell? ⟨b1,o1 + k * 15,none⟩ = some (I f9.2.2[k].1):=(BW.cell (p:=⟨b1,o1 + k * 15,none⟩) l1).trans (hcc 0 _ rfl)
                      have c1 : wr.cell? ⟨b1,o1 + k * 15 + 1,none⟩ = some (I f9.2.2[k].2.1):=(BW.cell (p:=⟨b1,o1 + k * 15 + 1,none⟩) l1).trans (hcc 1 _ rfl)
                      have c2 : wr.cell? ⟨b1,o1 + k * 15 + 2,none⟩ = some (I f9.2.2[k].2.2.1):=(BW.cell (p:=⟨b1,o1 + k * 15 + 2,none⟩) l1).trans (hcc 2 _ rfl)
                      have c3 : wr.cell? ⟨b1,o1 + k * 15 + 3,none⟩ = some (I f9.2.2[k].2.2.2.1):=(BW.cell (p:=⟨b1,o1 + k * 15 + 3,none⟩) l1).trans (hcc 3 _ rfl)
                      have c4 : wr.cell? ⟨b1,o1 + k * 15 + 4,none⟩ = some (I f9.2.2[k].2.2.2.2.1):=(BW.cell (p:=⟨b1,o1 + k * 15 + 4,none⟩) l1).trans (hcc 4 _ rfl)
                      have c5 : wr.cell? ⟨b1,o1 + k * 15 + 5,none⟩ = some (I f9.2.2[k].2.2.2.2.2.1.1):=(BW.cell (p:=⟨b1,o1 + k * 15 + 5,none⟩) l1).trans (hcc 5 _ rfl)
                      have c6 : wr.cell? ⟨b1,o1 + k * 15 + 6,none⟩ = some (I f9.2.2[k].2.2.2.2.2.1.2.1):=(BW.cell (p:=⟨b1,o1 + k * 15 + 6,none⟩) l1).trans (hcc 6 _ rfl)
                      have c7 : wr.cell? ⟨b1,o1 + k * 15 + 7,none⟩ = some (I f9.2.2[k].2.2.2.2.2.1.2.2):=(BW.cell (p:=⟨b1,o1 + k * 15 + 7,none⟩) l1).trans (hcc 7 _ rfl)
                      have c8 : wr.cell? ⟨b1,o1 + k * 15 + 8,none⟩ = some (I f9.2.2[k].2.2.2.2.2.2.1.1):=(BW.cell (p:=⟨b1,o1 + k * 15 + 8,none⟩) l1).trans (hcc 8 _ rfl)
                      have c9 : wr.cell? ⟨b1,o1 + k * 15 + 9,none⟩ = some (I f9.2.2[k].2.2.2.2.2.2.1.2.1):=(BW.cell (p:=⟨b1,o1 + k * 15 + 9,none⟩) l1).trans (hcc 9 _ rfl)
                      have c10 : wr.cell? ⟨b1,o1 + k * 15 + 10,none⟩ = some (I f9.2.2[k].2.2.2.2.2.2.1.2.2):=(BW.cell (p:=⟨b1,o1 + k * 15 + 10,none⟩) l1).trans (hcc 10 _ rfl)
                      have c11 : wr.cell? ⟨b1,o1 + k * 15 + 11,none⟩ = some (.slice f9.2.2[k].2.2.2.2.2.2.2.1.1 f9.2.2[k].2.2.2.2.2.2.2.1.2.2.length f9.2.2[k].2.2.2.2.2.2.2.1.2.1):=(BW.cell (p:=⟨b1,o1 + k * 15 + 11,none⟩) l1).trans (hcc 11 _ rfl)
                      have c12 : wr.cell? ⟨b1,o1 + k * 15 + 12,none⟩ = some (.slice f9.2.2[k].2.2.2.2.2.2.2.2.1.1 f9.2.2[k].2.2.2.2.2.2.2.2.1.2.2.length f9.2.2[k].2.2.2.2.2.2.2.2.1.2.1):=(BW.cell (p:=⟨b1,o1 + k * 15 + 12,none⟩) l1).trans (hcc 12 _ rfl)
                      have c13 : wr.cell? ⟨b1,o1 + k * 15 + 13,none⟩ = some (I f9.2.2[k].2.2.2.2.2.2.2.2.2.1):=(BW.cell (p:=⟨b1,o1 + k * 15 + 13,none⟩) l1).trans (hcc 13 _ rfl)
                      have c14 : wr.cell? ⟨b1,o1 + k * 15 + 14,none⟩ = some (.string f9.2.2[k].2.2.2.2.2.2.2.2.2.2):=(BW.cell (p:=⟨b1,o1 + k * 15 + 14,none⟩) l1).trans (hcc 14 _ rfl)
                      have hlt2 : (k : Int) < (f9.2.2.length : Int):=by omega
                      rw [ea] at d14
                      clear ea
                      have hno2 : (fun x => acB f10.2.2.length x) f9.2.2[k] = true → Hid (∀ j (h : j < f9.2.2.length),j < k + 1 → (fun x => acB f10.2.2.length x) f9.2.2[j] = true):=fun he j h hj => by
                       by_cases e : j = k
                       ·subst e; exact he
                       ·exact hno.out j h (by omega)
                      have hbad : (fun x => acB f10.2.2.length x) f9.2.2[k] = false → Hid (modB (f0,f1,f2,f3,f4,f5,f6,f7,f8,f9,f10) = false):=fun he => by
                       show _ = _
                       have ha : (f9.2.2.all fun x => acB f10.2.2.length x) = false:=by
                        rw [List.all_eq_false]
                        exact ⟨f9.2.2[k],List.getElem_mem hlt,fun h => absurd (h.symm.trans he) (by decide)⟩
                       rw [HT.out,ha]
                      have hDq:=((o9.dp.2 _ (List.getElem_mem hlt)).later BC).later hbel
                      have hlq:=l91 _ (List.getElem_mem hlt)
                      clear hno hcc l31 l61 l71 l91 o0 o3 o4 o5 o6 o7 o8 o9 oa
                      generalize hxk : f9.2.2[k] = x at hDq hlq hno2 hbad c0 c1 c2 c3 c4 c5 c6 c7 c8 c9 c10 c11 c12 c13 c14
                      clear hxk
                      obtain ⟨g0,g1,g2,g3,g4,⟨g5_0,g5_1,g5_2⟩,⟨g6_0,g6_1,g6_2⟩,g7,g8,g9,g10⟩:=x
                      obtain ⟨hd7,hd8⟩:=hDq
                      obtain ⟨hp,hv⟩:=hlq
                      dsimp only at hno2 hbad hd7 hd8 hp hv c0 c1 c2 c3 c4 c5 c6 c7 c8 c9 c10 c11 c12 c13 c14
                      obtain ⟨A0,hA0⟩ : ∃ A0,wr.alloc (.cells #[I 0,I 0,I 0,I 0,I 0,I 0,I 0,I 0,I 0,I 0,I 0,.slice none 0 0,.slice none 0 0,I 0,.string ⟨#[]⟩] 80) = A0:=⟨_,rfl⟩
                      have T0 : Blk wr.heap.size [I 0,I 0,I 0,I 0,I 0,I 0,I 0,I 0,I 0,I 0,I 0,.slice none 0 0,.slice none 0 0,I 0,.string ⟨#[]⟩] A0:=by rw [← hA0]; exact Blk.new _ _ _
                      have B0 : Below wr.heap.size wr A0:=by rw [← hA0]; exact (Below.refl _ _).alloc (Nat.le_refl _) _
                      obtain ⟨A1,hA1⟩ : ∃ A1,A0.setCells wr.heap.size 0 [I g0,I g1,I g2,I g3,I g4,I g5_0,I g5_1,I g5_2,I g6_0,I g6_1,I g6_2,.slice g7.1 g7.2.2.length g7.2.1,.slice g8.1 g8.2.2.length g8.2.1,I g9,.string g10] = A1:=⟨_,rfl⟩
                      have T1 : Blk wr.heap.size [I g0,I g1,I g2,I g3,I g4,I g5_0,I g5_1,I g5_2,I g6_0,I g6_1,I g6_2,.slice g7.1 g7.2.2.length g7.2.1,.slice g8.1 g8.2.2.length g8.2.1,I g9,.string g10] A1:=by rw [← hA1]; exact T0.sets _ rfl
                      have B1 : Below wr.heap.size wr A1:=by rw [← hA1]; exact below_sets (Nat.le_refl _) _ _ _ B0
                      obtain ⟨ie,hie,his⟩:=info_Q
                      have TX:=TW.later B1 (World.block_lt_of_cell? _ _ (TW.at 0 rfl))
                      have e10:=TX.at 15 rfl
                      have a0:=T1.at 0 rfl
                      have a1:=T1.at 1 rfl
                      have a11:=T1.at 11 rfl
                      have a12:=T1.at 12 rfl
                      have a13:=T1.at 13 rfl
                      have BA:=BW.trans (B1.mono BW.size)
                      have HB0 : Hid (acB f10.2.2.length (g0,g1,g2,g3,g4,(g5_0,g5_1,g5_2),(g6_0,g6_1,g6_2),g7,g8,g9,g10) = (btw g0 0 2 && (btw g1 0 5 && (btw g9 0 (f10.2.2.length : Int) && (allB g7.2.2 6 && allB g8.2.2 4))))):=(rfl : acB f10.2.2.length (g0,g1,g2,g3,g4,(g5_0,g5_1,g5_2),(g6_0,g6_1,g6_2),g7,g8,g9,g10) = _)
                      go_wp2_with (first | (refine wpList_stB 80 _ _ wr.heap.size 0 _ [I g0,I g1,I g2,I g3,I g4,I g5_0,I g5_1,I g5_2,I g6_0,I g6_1,I g6_2,.slice g7.1 g7.2.2.length g7.2.1,.slice g8.1 g8.2.2.length g8.2.1,I g9,.string g10] ie hie T0 his.symm (by simp) rfl rfl rfl rfl rfl ?_; rw [hA1]))
                      go_wp2_with fail
                      refine (in_b g0 0 2 _).mono ?_
                      rintro en v0 ⟨rfl,rfl⟩
                      by_cases h0 : btw g0 0 2 = true
                      ·rw [h0]
                       go_wp2_with fail
                       refine (spec_prin g1 _).mono ?_
                       rintro en v1 ⟨rfl,rfl⟩
                       by_cases h1 : btw g1 0 5 = true
                       ·rw [h1]
                        go_wp2_with fail
                        refine (in_b g9 0 (f10.2.2.length : Int) _).mono ?_
                        rintro en v2 ⟨rfl,rfl⟩
                        by_cases h2 : btw g9 0 (f10.2.2.length : Int) = true
                        ·rw [h2]
                         go_wp2_with fail
                         refine (spec_all g7.1 g7.2.1 g7.2.2 6 _ (hd7.later B1) hp (by omega)).mono ?_
                         rintro en v3 ⟨rfl,hb⟩
                         clear a0 a1 a11 a12 a13 e10
                         replace T1:=T1.later hb (World.block_lt_of_cell? _ _ (T1.at 0 rfl))
                         replace TX:=TX.later hb (World.block_lt_of_cell? _ _ (TX.at 0 rfl))
                         replace B1:=B1.trans (hb.mono B1.size)
                         replace BA:=BA.trans (hb.mono BA.size)
                         clear hb
                         have a0:=T1.at 0 rfl
                         have a1:=T1.at 1 rfl
                         have a11:=T1.at 11 rfl
                         have a12:=T1.at 12 rfl
                         have a13:=T1.at 13 rfl
                         have e10:=TX.at 15 rfl
                         by_cases h3 : allB g7.2.2 6 = true
                         ·rw [h3]
                          go_wp2_with fail
                          refine (spec_all g8.1 g8.2.1 g8.2.2 4 _ (hd8.later B1) hv (by omega)).mono ?_
                          rintro en v4 ⟨rfl,hb⟩
                          clear a0 a1 a11 a12 a13 e10
                          replace T1:=T1.later hb (World.block_lt_of_cell? _ _ (T1.at 0 rfl))
                          replace TX:=TX.later hb (World.block_lt_of_cell? _ _ (TX.at 0 rfl))
                          replace B1:=B1.trans (hb.mono B1.size)
                          replace BA:=BA.trans (hb.mono BA.size)
                          clear hb
                          have a0:=T1.at 0 rfl
                          have a1:=T1.at 1 rfl
                          have a11:=T1.at 11 rfl
                          have a12:=T1.at 12 rfl
                          have a13:=T1.at 13 rfl
                          have e10:=TX.at 15 rfl
                          by_cases h4 : allB g8.2.2 4 = true
                          ·rw [h4]
                           have hno3:=hno2 (by rw [HB0.out,h0,h1,h2,h3,h4]; rfl)
                           replace hbel:=hbel.trans (B1.mono hbel.size)
                           clear hno2 hbad
                           go_wp2
                           go_roundw
                           case rel => exact ⟨k + 1,by omega,by go_num,hno3,hbel⟩
                           case measure => simp [intOf]; omega
                          ·rw [Bool.not_eq_true] at h4
                           rw [h4]
                           have hbd:=hbad (by rw [HB0.out,h0,h1,h2,h3,h4]; rfl)
                           clear hno2 hbad
                           go_wp2
                           go_ret
                           exact ⟨by rw [hbd.out]; rfl,BA⟩
                         ·rw [Bool.not_eq_true] at h3
                          rw [h3]
                          have hbd:=hbad (by rw [HB0.out,h0,h1,h2,h3]; rfl)
                          clear hno2 hbad
                          go_wp2
                          go_ret
                          exact ⟨by rw [hbd.out]; rfl,BA⟩
                        ·rw [Bool.not_eq_true] at h2
                         rw [h2]
                         have hbd:=hbad (by rw [HB0.out,h0,h1,h2]; rfl)
                         clear hno2 hbad
                         go_wp2
                         go_ret
                         exact ⟨by rw [hbd.out]; rfl,BA⟩
                       ·rw [Bool.not_eq_true] at h1
                        rw [h1]
                        have hbd:=hbad (by rw [HB0.out,h0,h1]; rfl)
                        clear hno2 hbad
                        go_wp2
                        go_ret
                        exact ⟨by rw [hbd.out]; rfl,BA⟩
                      ·rw [Bool.not_eq_true] at h0
                       rw [h0]
                       have hbd:=hbad (by rw [HB0.out,h0]; rfl)
                       clear hno2 hbad
                       go_wp2
                       go_ret
                       exact ⟨by rw [hbd.out]; rfl,BA⟩
                     ·obtain rfl : k = f9.2.2.length:=by omega
                      clear l31 l61 l71 l91 o0 o3 o4 o5 o6 o7 o8 o9 oa
                      have ha : (f9.2.2.all fun x => acB f10.2.2.length x) = true:=by
                       rw [List.all_eq_true]
                       intro x hx
                       obtain ⟨j,hj,rfl⟩:=List.mem_iff_getElem.1 hx
                       exact hno.out j hj hj
                      go_wp2
                      go_ret
                      exact ⟨by rw [HT.out,ha]; rfl,BW⟩
           ·rw [Bool.not_eq_true] at h10
            have t10 : (40 : Int) < ((f10.2.2.length : Nat) : Int):=by have:=of_decide_eq_false h10; omega
            go_wp2
            go_ret
            exact ⟨by rw [HE.out,h0,h1,h2,h3,h4,h5,h6,h7,h8,h9,h10]; rfl,BC⟩
          ·rw [Bool.not_eq_true] at h9
           have t9 : (40 : Int) < ((f9.2.2.length : Nat) : Int):=by have:=of_decide_eq_false h9; omega
           go_wp2
           go_ret
           exact ⟨by rw [HE.out,h0,h1,h2,h3,h4,h5,h6,h7,h8,h9]; rfl,BC⟩
         ·rw [Bool.not_eq_true] at h8
          have t8 : (40 : Int) < ((f8.2.2.length : Nat) : Int):=by have:=of_decide_eq_false h8; omega
          go_wp2
          go_ret
          exact ⟨by rw [HE.out,h0,h1,h2,h3,h4,h5,h6,h7,h8]; rfl,BC⟩
        ·rw [Bool.not_eq_true] at h7
         have t7 : (((f7.2.2.length : Nat) : Int) != 3) = true:=by have:=of_decide_eq_false h7; simp; omega
         go_wp2
         go_ret
         exact ⟨by rw [HE.out,h0,h1,h2,h3,h4,h5,h6,h7]; rfl,BC⟩
       ·rw [Bool.not_eq_true] at h6
        have t6 : (30 : Int) < ((f6.2.2.length : Nat) : Int):=by have:=of_decide_eq_false h6; omega
        go_wp2
        go_ret
        exact ⟨by rw [HE.out,h0,h1,h2,h3,h4,h5,h6]; rfl,BC⟩
      ·rw [Bool.not_eq_true] at h5
       have t5 : (((f5.2.2.length : Nat) : Int) != 6) = true:=by have:=of_decide_eq_false h5; simp; omega
       go_wp2
       go_ret
       exact ⟨by rw [HE.out,h0,h1,h2,h3,h4,h5]; rfl,BC⟩
     ·rw [Bool.not_eq_true] at h4
      rw [h4]
      go_wp2
      go_ret
      exact ⟨by rw [HE.out,h0,h1,h2,h3,h4]; rfl,BC⟩
    ·rw [Bool.not_eq_true] at h3
     have t3 : (50 : Int) < ((f3.2.2.length : Nat) : Int):=by have:=of_decide_eq_false h3; omega
     go_wp2
     go_ret
     exact ⟨by rw [HE.out,h0,h1,h2,h3]; rfl,BC⟩
   ·rw [Bool.not_eq_true] at h2
    rw [h2]
    go_wp2
    go_ret
    exact ⟨by rw [HE.out,h0,h1,h2]; rfl,BC⟩
  ·rw [Bool.not_eq_true] at h1
   rw [h1]
   go_wp2
   go_ret
   exact ⟨by rw [HE.out,h0,h1]; rfl,BC⟩
 ·rw [Bool.not_eq_true] at h0
  rw [h0]
  go_wp2
  go_ret
  exact ⟨by rw [HE.out,h0]; rfl,BC⟩
end Go.Proofs.YtlmpfkbgknbcnaaGreat.Nd
