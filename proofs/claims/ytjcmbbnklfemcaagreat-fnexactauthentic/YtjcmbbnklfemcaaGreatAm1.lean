/- Of each honest Accept: the model. -/
import Derived.Test.YtjcmbbnklfemcaaGreatAu1
import Derived.Test.YtjcmbbnklfemcaaGreatCh0
import Derived.Test.YtjcmbbnklfemcaaGreatLawW
set_option linter.unusedVariables false
set_option maxRecDepth 100000
namespace Go.Proofs.YtjcmbbnklfemcaaGreat.Nd
open Go Go.RowKit Go.Joins Own Draw Term
theorem chain_log (xs:List TE) (q:Int) (i:Nat) (hi:i < xs.length) (h:(chainN xs q)[0]?=some (i:Int)):kdE xs[i]=1 := by
 rw [chain_bw] at h
 unfold frL at h
 cases e:(bwL xs hoV xs.length q true).getLast? with
 | none=>rw [e] at h;simp at h
 | some y =>
  rw [e] at h
  dsimp only at h
  split at h
  ·rename_i hl
   rw [← List.head?_eq_getElem?,List.head?_reverse,e] at h
   injection h with h
   subst h
   rw [isLog_at hi] at hl
   exact of_decide_eq_true hl
  ·simp at h
set_option maxRecDepth 100000 in
set_option maxHeartbeats 6400000 in
theorem specAuth_is (B:Nat) (d:TD) (w:World) (hd:WdOk B w d):Calls Tryz.prog 14 #[vD d] w fun e w'=>e=.returned (.bool (wokB d && d.2.2.2.2.2.2.2.2.2.1.2.2.all fun x=>evB d x))∧Below w.heap.size w w' := by
 obtain ⟨ie,hie,his⟩ := info_D
 obtain ⟨iq,hiq,hiqs⟩ := info_Q
 obtain ⟨iv,hiv,hivs⟩ := info_E
 obtain ⟨V,hV⟩:∃ V,w.alloc (.cells #[.slice d.1.1.1 d.1.1.2.2.length d.1.1.2.1,.slice d.1.2.1.1 d.1.2.1.2.2.length d.1.2.1.2.1,.slice d.1.2.2.1.1 d.1.2.2.1.2.2.length d.1.2.2.1.2.1,.slice d.1.2.2.2.1.1 d.1.2.2.2.1.2.2.length d.1.2.2.2.1.2.1,.int .i64 d.1.2.2.2.2,.int .i64 d.2.1,.int .i64 d.2.2.1,.slice d.2.2.2.1.1 d.2.2.2.1.2.2.length d.2.2.2.1.2.1,.slice d.2.2.2.2.1.1.1 d.2.2.2.2.1.1.2.2.length d.2.2.2.2.1.1.2.1,.slice d.2.2.2.2.1.2.1 d.2.2.2.2.1.2.2.2.length d.2.2.2.2.1.2.2.1,.slice d.2.2.2.2.2.1.1 d.2.2.2.2.2.1.2.2.length d.2.2.2.2.2.1.2.1,.slice d.2.2.2.2.2.2.1.1 d.2.2.2.2.2.2.1.2.2.length d.2.2.2.2.2.2.1.2.1,.slice d.2.2.2.2.2.2.2.1.1 d.2.2.2.2.2.2.2.1.2.2.length d.2.2.2.2.2.2.2.1.2.1,.slice d.2.2.2.2.2.2.2.2.1.1 d.2.2.2.2.2.2.2.2.1.2.2.length d.2.2.2.2.2.2.2.2.1.2.1,.slice d.2.2.2.2.2.2.2.2.2.1.1 d.2.2.2.2.2.2.2.2.2.1.2.2.length d.2.2.2.2.2.2.2.2.2.1.2.1,.slice d.2.2.2.2.2.2.2.2.2.2.1 d.2.2.2.2.2.2.2.2.2.2.2.2.length d.2.2.2.2.2.2.2.2.2.2.2.1] 48)=V := ⟨_,rfl⟩
 have TV:Blk w.heap.size [.slice d.1.1.1 d.1.1.2.2.length d.1.1.2.1,.slice d.1.2.1.1 d.1.2.1.2.2.length d.1.2.1.2.1,.slice d.1.2.2.1.1 d.1.2.2.1.2.2.length d.1.2.2.1.2.1,.slice d.1.2.2.2.1.1 d.1.2.2.2.1.2.2.length d.1.2.2.2.1.2.1,.int .i64 d.1.2.2.2.2,.int .i64 d.2.1,.int .i64 d.2.2.1,.slice d.2.2.2.1.1 d.2.2.2.1.2.2.length d.2.2.2.1.2.1,.slice d.2.2.2.2.1.1.1 d.2.2.2.2.1.1.2.2.length d.2.2.2.2.1.1.2.1,.slice d.2.2.2.2.1.2.1 d.2.2.2.2.1.2.2.2.length d.2.2.2.2.1.2.2.1,.slice d.2.2.2.2.2.1.1 d.2.2.2.2.2.1.2.2.length d.2.2.2.2.2.1.2.1,.slice d.2.2.2.2.2.2.1.1 d.2.2.2.2.2.2.1.2.2.length d.2.2.2.2.2.2.1.2.1,.slice d.2.2.2.2.2.2.2.1.1 d.2.2.2.2.2.2.2.1.2.2.length d.2.2.2.2.2.2.2.1.2.1,.slice d.2.2.2.2.2.2.2.2.1.1 d.2.2.2.2.2.2.2.2.1.2.2.length d.2.2.2.2.2.2.2.2.1.2.1,.slice d.2.2.2.2.2.2.2.2.2.1.1 d.2.2.2.2.2.2.2.2.2.1.2.2.length d.2.2.2.2.2.2.2.2.2.1.2.1,.slice d.2.2.2.2.2.2.2.2.2.2.1 d.2.2.2.2.2.2.2.2.2.2.2.2.length d.2.2.2.2.2.2.2.2.2.2.2.1] V := by rw [← hV];exact Blk.new _ _ _
 have BC:Below w.heap.size w V := by rw [← hV];exact (Below.refl _ _).alloc (Nat.le_refl _) _
 have K1 := specWorldOk_is B _ V (hd.later BC)
 go_enter Tryz.func14,Tryz.ntmps14
 go_wp2_with (first | (refine wpList_ldB 48 _ w.heap.size 0 _ [.slice d.1.1.1 d.1.1.2.2.length d.1.1.2.1,.slice d.1.2.1.1 d.1.2.1.2.2.length d.1.2.1.2.1,.slice d.1.2.2.1.1 d.1.2.2.1.2.2.length d.1.2.2.1.2.1,.slice d.1.2.2.2.1.1 d.1.2.2.2.1.2.2.length d.1.2.2.2.1.2.1,.int .i64 d.1.2.2.2.2,.int .i64 d.2.1,.int .i64 d.2.2.1,.slice d.2.2.2.1.1 d.2.2.2.1.2.2.length d.2.2.2.1.2.1,.slice d.2.2.2.2.1.1.1 d.2.2.2.2.1.1.2.2.length d.2.2.2.2.1.1.2.1,.slice d.2.2.2.2.1.2.1 d.2.2.2.2.1.2.2.2.length d.2.2.2.2.1.2.2.1,.slice d.2.2.2.2.2.1.1 d.2.2.2.2.2.1.2.2.length d.2.2.2.2.2.1.2.1,.slice d.2.2.2.2.2.2.1.1 d.2.2.2.2.2.2.1.2.2.length d.2.2.2.2.2.2.1.2.1,.slice d.2.2.2.2.2.2.2.1.1 d.2.2.2.2.2.2.2.1.2.2.length d.2.2.2.2.2.2.2.1.2.1,.slice d.2.2.2.2.2.2.2.2.1.1 d.2.2.2.2.2.2.2.2.1.2.2.length d.2.2.2.2.2.2.2.2.1.2.1,.slice d.2.2.2.2.2.2.2.2.2.1.1 d.2.2.2.2.2.2.2.2.2.1.2.2.length d.2.2.2.2.2.2.2.2.2.1.2.1,.slice d.2.2.2.2.2.2.2.2.2.2.1 d.2.2.2.2.2.2.2.2.2.2.2.2.length d.2.2.2.2.2.2.2.2.2.2.2.1] ie hie (Tryz.isAgg48) TV his.symm rfl rfl rfl rfl ?_))
 refine K1.mono ?_
 clear K1 hV
 rintro en v0 ⟨rfl,hb⟩
 replace TV := TV.later hb TV.lt
 replace BC := BC.trans (hb.mono BC.size)
 clear hb
 by_cases hw:wokB d=true
 ·obtain ⟨hcf,hac,_⟩ := wok_parts hw
  obtain ⟨aa,haa⟩:∃ aa,d.2.2.2.2.2.2.2.2.2.1.1=aa := ⟨_,rfl⟩
  have HAA:Hid (d.2.2.2.2.2.2.2.2.2.1.1=aa) := haa
  have hr:FRow 15 cQ v0 aa d.2.2.2.2.2.2.2.2.2.1.2.2 := by rw [← haa];exact (hd.later BC).ow.2.2.2.2.2.2.2.1.dp.1
  have hfr:FRow 11 cE v0 d.2.2.2.2.2.2.2.2.1.1 d.2.2.2.2.2.2.2.2.1.2.2 := (hd.later BC).ow.2.2.2.2.2.2.1.dp
  have hll := wok_log hw
  have hla := wok_acc hw
  have HW:Hid (wokB d=true) := hw
  have HSH:Hid (∀ k U,Below w.heap.size w U→∀ (h:k < d.2.2.2.2.2.2.2.2.2.1.2.2.length),Calls Tryz.prog 55 #[vD d,.int .i64 (k:Int)] U fun e w'=>e=.returned (.bool (honB d d.2.2.2.2.2.2.2.2.2.1.2.2[k]))∧Below U.heap.size U w') := fun k U hb h=>by
   have := specHon_is B d k U (hd.later hb) hw h
   rw [hon_same hcf (hac _ (List.getElem_mem h))] at this
   exact this
  rw [hw]
  clear hw haa hcf hac hd
  go_wp2
  go_loopw [3] (fun iv wr=>∃ k:Nat,k≤d.2.2.2.2.2.2.2.2.2.1.2.2.length∧iv=.int .i64 k∧Hid (∀ j (h:j < d.2.2.2.2.2.2.2.2.2.1.2.2.length),j < k→evB d d.2.2.2.2.2.2.2.2.2.1.2.2[j]=true)∧Below v0.heap.size v0 wr) (fun iv _=>d.2.2.2.2.2.2.2.2.2.1.2.2.length - (intOf iv).toNat)
  case atStart=>exact ⟨0,by omega,rfl,fun j h hj=>absurd hj (by omega),Below.refl _ _⟩
  case round =>
   obtain ⟨k,hk,rfl,hno,hbel⟩ := hrel
   have TW := TV.later hbel TV.lt
   have d14 := TW.at 14 rfl
   rw [HAA.out] at d14
   by_cases hlt:k < d.2.2.2.2.2.2.2.2.2.1.2.2.length
   ·have KH := fun U (h:Below v0.heap.size v0 U)=>HSH.out k U (BC.trans (h.mono BC.size)) hlt
    have HYES:Hid (evB d d.2.2.2.2.2.2.2.2.2.1.2.2[k]=true→Hid (∀ j (h:j < d.2.2.2.2.2.2.2.2.2.1.2.2.length),j < k + 1→evB d d.2.2.2.2.2.2.2.2.2.1.2.2[j]=true)) := fun he j h hj=>by
     by_cases e:j=k
     ·subst e;exact he
     ·exact hno.out j h (by omega)
    have HNO:Hid (evB d d.2.2.2.2.2.2.2.2.2.1.2.2[k]=false→Hid ((wokB d && d.2.2.2.2.2.2.2.2.2.1.2.2.all fun x=>evB d x)=false)) := fun he=>by
     show _=_
     rw [HW.out,Bool.true_and,List.all_eq_false]
     exact ⟨_,List.getElem_mem hlt,by rw [he];simp⟩
    have hlt2:(k:Int) < (d.2.2.2.2.2.2.2.2.2.1.2.2.length:Int) := by omega
    obtain ⟨b1,o1,rfl,l1,hcc⟩ := hr k hlt
    have c0:wr.cell? ⟨b1,o1 + k * 15,none⟩=some (.int .i64 d.2.2.2.2.2.2.2.2.2.1.2.2[k].1) := (hbel.cell (p := ⟨b1,o1 + k * 15,none⟩) l1).trans (hcc 0 _ rfl)
    have c1:wr.cell? ⟨b1,o1 + k * 15 + 1,none⟩=some (.int .i64 d.2.2.2.2.2.2.2.2.2.1.2.2[k].2.1) := (hbel.cell (p := ⟨b1,o1 + k * 15 + 1,none⟩) l1).trans (hcc 1 _ rfl)
    have c2:wr.cell? ⟨b1,o1 + k * 15 + 2,none⟩=some (.int .i64 d.2.2.2.2.2.2.2.2.2.1.2.2[k].2.2.1) := (hbel.cell (p := ⟨b1,o1 + k * 15 + 2,none⟩) l1).trans (hcc 2 _ rfl)
    have c3:wr.cell? ⟨b1,o1 + k * 15 + 3,none⟩=some (.int .i64 d.2.2.2.2.2.2.2.2.2.1.2.2[k].2.2.2.1) := (hbel.cell (p := ⟨b1,o1 + k * 15 + 3,none⟩) l1).trans (hcc 3 _ rfl)
    have c4:wr.cell? ⟨b1,o1 + k * 15 + 4,none⟩=some (.int .i64 d.2.2.2.2.2.2.2.2.2.1.2.2[k].2.2.2.2.1) := (hbel.cell (p := ⟨b1,o1 + k * 15 + 4,none⟩) l1).trans (hcc 4 _ rfl)
    have c5:wr.cell? ⟨b1,o1 + k * 15 + 5,none⟩=some (.int .i64 d.2.2.2.2.2.2.2.2.2.1.2.2[k].2.2.2.2.2.1.1) := (hbel.cell (p := ⟨b1,o1 + k * 15 + 5,none⟩) l1).trans (hcc 5 _ rfl)
    have c6:wr.cell? ⟨b1,o1 + k * 15 + 6,none⟩=some (.int .i64 d.2.2.2.2.2.2.2.2.2.1.2.2[k].2.2.2.2.2.1.2.1) := (hbel.cell (p := ⟨b1,o1 + k * 15 + 6,none⟩) l1).trans (hcc 6 _ rfl)
    have c7:wr.cell? ⟨b1,o1 + k * 15 + 7,none⟩=some (.int .i64 d.2.2.2.2.2.2.2.2.2.1.2.2[k].2.2.2.2.2.1.2.2) := (hbel.cell (p := ⟨b1,o1 + k * 15 + 7,none⟩) l1).trans (hcc 7 _ rfl)
    have c8:wr.cell? ⟨b1,o1 + k * 15 + 8,none⟩=some (.int .i64 d.2.2.2.2.2.2.2.2.2.1.2.2[k].2.2.2.2.2.2.1.1) := (hbel.cell (p := ⟨b1,o1 + k * 15 + 8,none⟩) l1).trans (hcc 8 _ rfl)
    have c9:wr.cell? ⟨b1,o1 + k * 15 + 9,none⟩=some (.int .i64 d.2.2.2.2.2.2.2.2.2.1.2.2[k].2.2.2.2.2.2.1.2.1) := (hbel.cell (p := ⟨b1,o1 + k * 15 + 9,none⟩) l1).trans (hcc 9 _ rfl)
    have c10:wr.cell? ⟨b1,o1 + k * 15 + 10,none⟩=some (.int .i64 d.2.2.2.2.2.2.2.2.2.1.2.2[k].2.2.2.2.2.2.1.2.2) := (hbel.cell (p := ⟨b1,o1 + k * 15 + 10,none⟩) l1).trans (hcc 10 _ rfl)
    have c11:wr.cell? ⟨b1,o1 + k * 15 + 11,none⟩=some (.slice d.2.2.2.2.2.2.2.2.2.1.2.2[k].2.2.2.2.2.2.2.1.1 d.2.2.2.2.2.2.2.2.2.1.2.2[k].2.2.2.2.2.2.2.1.2.2.length d.2.2.2.2.2.2.2.2.2.1.2.2[k].2.2.2.2.2.2.2.1.2.1) := (hbel.cell (p := ⟨b1,o1 + k * 15 + 11,none⟩) l1).trans (hcc 11 _ rfl)
    have c12:wr.cell? ⟨b1,o1 + k * 15 + 12,none⟩=some (.slice d.2.2.2.2.2.2.2.2.2.1.2.2[k].2.2.2.2.2.2.2.2.1.1 d.2.2.2.2.2.2.2.2.2.1.2.2[k].2.2.2.2.2.2.2.2.1.2.2.length d.2.2.2.2.2.2.2.2.2.1.2.2[k].2.2.2.2.2.2.2.2.1.2.1) := (hbel.cell (p := ⟨b1,o1 + k * 15 + 12,none⟩) l1).trans (hcc 12 _ rfl)
    have c13:wr.cell? ⟨b1,o1 + k * 15 + 13,none⟩=some (.int .i64 d.2.2.2.2.2.2.2.2.2.1.2.2[k].2.2.2.2.2.2.2.2.2.1) := (hbel.cell (p := ⟨b1,o1 + k * 15 + 13,none⟩) l1).trans (hcc 13 _ rfl)
    have c14:wr.cell? ⟨b1,o1 + k * 15 + 14,none⟩=some (.string d.2.2.2.2.2.2.2.2.2.1.2.2[k].2.2.2.2.2.2.2.2.2.2) := (hbel.cell (p := ⟨b1,o1 + k * 15 + 14,none⟩) l1).trans (hcc 14 _ rfl)
    generalize hxk:d.2.2.2.2.2.2.2.2.2.1.2.2[k]=x at KH HYES HNO c0 c1 c2 c3 c4 c5 c6 c7 c8 c9 c10 c11 c12 c13 c14
    clear hxk hcc
    obtain ⟨A0,hA0⟩:∃ A0,wr.alloc (.cells #[.int .i64 0,.int .i64 0,.int .i64 0,.int .i64 0,.int .i64 0,.int .i64 0,.int .i64 0,.int .i64 0,.int .i64 0,.int .i64 0,.int .i64 0,.slice none 0 0,.slice none 0 0,.int .i64 0,.string ⟨#[]⟩] 82)=A0 := ⟨_,rfl⟩
    have T0:Blk wr.heap.size [.int .i64 0,.int .i64 0,.int .i64 0,.int .i64 0,.int .i64 0,.int .i64 0,.int .i64 0,.int .i64 0,.int .i64 0,.int .i64 0,.int .i64 0,.slice none 0 0,.slice none 0 0,.int .i64 0,.string ⟨#[]⟩] A0 := by rw [← hA0];exact Blk.new _ _ _
    have b0:Below wr.heap.size wr A0 := by rw [← hA0];exact (Below.refl _ _).alloc (Nat.le_refl _) _
    obtain ⟨A1,hA1⟩:∃ A1,A0.setCells wr.heap.size 0 [.int .i64 x.1,.int .i64 x.2.1,.int .i64 x.2.2.1,.int .i64 x.2.2.2.1,.int .i64 x.2.2.2.2.1,.int .i64 x.2.2.2.2.2.1.1,.int .i64 x.2.2.2.2.2.1.2.1,.int .i64 x.2.2.2.2.2.1.2.2,.int .i64 x.2.2.2.2.2.2.1.1,.int .i64 x.2.2.2.2.2.2.1.2.1,.int .i64 x.2.2.2.2.2.2.1.2.2,.slice x.2.2.2.2.2.2.2.1.1 x.2.2.2.2.2.2.2.1.2.2.length x.2.2.2.2.2.2.2.1.2.1,.slice x.2.2.2.2.2.2.2.2.1.1 x.2.2.2.2.2.2.2.2.1.2.2.length x.2.2.2.2.2.2.2.2.1.2.1,.int .i64 x.2.2.2.2.2.2.2.2.2.1,.string x.2.2.2.2.2.2.2.2.2.2]=A1 := ⟨_,rfl⟩
    have T1:Blk wr.heap.size [.int .i64 x.1,.int .i64 x.2.1,.int .i64 x.2.2.1,.int .i64 x.2.2.2.1,.int .i64 x.2.2.2.2.1,.int .i64 x.2.2.2.2.2.1.1,.int .i64 x.2.2.2.2.2.1.2.1,.int .i64 x.2.2.2.2.2.1.2.2,.int .i64 x.2.2.2.2.2.2.1.1,.int .i64 x.2.2.2.2.2.2.1.2.1,.int .i64 x.2.2.2.2.2.2.1.2.2,.slice x.2.2.2.2.2.2.2.1.1 x.2.2.2.2.2.2.2.1.2.2.length x.2.2.2.2.2.2.2.1.2.1,.slice x.2.2.2.2.2.2.2.2.1.1 x.2.2.2.2.2.2.2.2.1.2.2.length x.2.2.2.2.2.2.2.2.1.2.1,.int .i64 x.2.2.2.2.2.2.2.2.2.1,.string x.2.2.2.2.2.2.2.2.2.2] A1 := by rw [← hA1];exact T0.sets _ rfl
    have b1':Below wr.heap.size wr A1 := by rw [← hA1];exact below_sets (Nat.le_refl _) _ _ _ b0
    have TW1 := TW.later b1' TW.lt
    have B1 := hbel.trans (b1'.mono hbel.size)
    have K1 := KH A1 B1
    have HE:Hid (evB d x=(!(honB d x) || auB d.2.2.2.2.2.2.2.2.1.2.2 x)) := rfl
    generalize honB d x=hb at K1 HE
    clear KH b0 b1'
    go_wp2_with (first | (refine wpList_stB 82 _ _ wr.heap.size 0 _ [.int .i64 x.1,.int .i64 x.2.1,.int .i64 x.2.2.1,.int .i64 x.2.2.2.1,.int .i64 x.2.2.2.2.1,.int .i64 x.2.2.2.2.2.1.1,.int .i64 x.2.2.2.2.2.1.2.1,.int .i64 x.2.2.2.2.2.1.2.2,.int .i64 x.2.2.2.2.2.2.1.1,.int .i64 x.2.2.2.2.2.2.1.2.1,.int .i64 x.2.2.2.2.2.2.1.2.2,.slice x.2.2.2.2.2.2.2.1.1 x.2.2.2.2.2.2.2.1.2.2.length x.2.2.2.2.2.2.2.1.2.1,.slice x.2.2.2.2.2.2.2.2.1.1 x.2.2.2.2.2.2.2.2.1.2.2.length x.2.2.2.2.2.2.2.2.1.2.1,.int .i64 x.2.2.2.2.2.2.2.2.2.1,.string x.2.2.2.2.2.2.2.2.2.2] iq hiq T0 hiqs.symm (by simp) rfl rfl rfl rfl rfl ?_;rw [hA1]) | (refine wpList_ldB 48 _ w.heap.size 0 _ [.slice d.1.1.1 d.1.1.2.2.length d.1.1.2.1,.slice d.1.2.1.1 d.1.2.1.2.2.length d.1.2.1.2.1,.slice d.1.2.2.1.1 d.1.2.2.1.2.2.length d.1.2.2.1.2.1,.slice d.1.2.2.2.1.1 d.1.2.2.2.1.2.2.length d.1.2.2.2.1.2.1,.int .i64 d.1.2.2.2.2,.int .i64 d.2.1,.int .i64 d.2.2.1,.slice d.2.2.2.1.1 d.2.2.2.1.2.2.length d.2.2.2.1.2.1,.slice d.2.2.2.2.1.1.1 d.2.2.2.2.1.1.2.2.length d.2.2.2.2.1.1.2.1,.slice d.2.2.2.2.1.2.1 d.2.2.2.2.1.2.2.2.length d.2.2.2.2.1.2.2.1,.slice d.2.2.2.2.2.1.1 d.2.2.2.2.2.1.2.2.length d.2.2.2.2.2.1.2.1,.slice d.2.2.2.2.2.2.1.1 d.2.2.2.2.2.2.1.2.2.length d.2.2.2.2.2.2.1.2.1,.slice d.2.2.2.2.2.2.2.1.1 d.2.2.2.2.2.2.2.1.2.2.length d.2.2.2.2.2.2.2.1.2.1,.slice d.2.2.2.2.2.2.2.2.1.1 d.2.2.2.2.2.2.2.2.1.2.2.length d.2.2.2.2.2.2.2.2.1.2.1,.slice d.2.2.2.2.2.2.2.2.2.1.1 d.2.2.2.2.2.2.2.2.2.1.2.2.length d.2.2.2.2.2.2.2.2.2.1.2.1,.slice d.2.2.2.2.2.2.2.2.2.2.1 d.2.2.2.2.2.2.2.2.2.2.2.2.length d.2.2.2.2.2.2.2.2.2.2.2.1] ie hie (Tryz.isAgg48) TW1 his.symm rfl rfl rfl rfl ?_))
    refine K1.mono ?_
    clear K1 T0 hA0 hA1 c0 c1 c2 c3 c4 c5 c6 c7 c8 c9 c10 c11 c12 c13 c14 d14 TW
    rintro en v2 ⟨rfl,hb2⟩
    replace TW1 := TW1.later hb2 TW1.lt
    replace T1 := T1.later hb2 T1.lt
    replace B1 := B1.trans (hb2.mono B1.size)
    clear hb2
    cases hb with
    | false =>
     have HR:Hid (∃ k':Nat,k'≤d.2.2.2.2.2.2.2.2.2.1.2.2.length∧Value.int .i64 ((k:Int) + 1)=.int .i64 k'∧Hid (∀ j (h:j < d.2.2.2.2.2.2.2.2.2.1.2.2.length),j < k'→evB d d.2.2.2.2.2.2.2.2.2.1.2.2[j]=true)∧Below v0.heap.size v0 v2) := ⟨k + 1,by omega,by go_num,HYES.out (by rw [HE.out];rfl),B1⟩
     clear HYES HNO HE hno hbel B1 TW1 T1
     go_wp2
     go_roundw
     case rel=>exact HR.out
     case measure=>simp [intOf];omega
    | true =>
     have K2 := specChain_is d.2.2.2.2.2.2.2.2.1.1 d.2.2.2.2.2.2.2.2.1.2.1 d.2.2.2.2.2.2.2.2.1.2.2 (kyQ x) v2 (hfr.later B1) (by omega)
     have l13 := TW1.at 13 rfl
     have q2 := T1.at 2 rfl
     have hLi := chainN_in d.2.2.2.2.2.2.2.2.1.2.2 (kyQ x)
     have hLk := fun i hi=>chain_log d.2.2.2.2.2.2.2.2.1.2.2 (kyQ x) i hi
     have HA:Hid (evB d x=auL d.2.2.2.2.2.2.2.2.1.2.2 (chainN d.2.2.2.2.2.2.2.2.1.2.2 (kyQ x)) x) := by show _=_;rw [HE.out];rfl
     have hLl:(chainN d.2.2.2.2.2.2.2.2.1.2.2 (kyQ x)).length≤1048577 := by have := chG_len d.2.2.2.2.2.2.2.2.1.2.2 (d.2.2.2.2.2.2.2.2.1.2.2.length + 1) [] (kyQ x);unfold chainN;simp at this;omega
     generalize chainN d.2.2.2.2.2.2.2.2.1.2.2 (kyQ x)=L at K2 hLi hLk HA hLl
     clear HE
     go_wp2_with fail
     refine K2.mono ?_
     clear K2 l13 q2
     rintro en v3 ⟨ra,rc,rfl,ho,hb3⟩
     have TW3 := TW1.later hb3 TW1.lt
     have T3 := T1.later hb3 T1.lt
     have B3 := B1.trans (hb3.mono B1.size)
     clear hb3 TW1 T1 B1
     have hrow:RowAt (Value.int .i64) v3 ra L := irow_of ho
     by_cases hn:L.length=0
     ·have hL0:L=[] := List.eq_nil_of_length_eq_zero hn
      subst hL0
      have HV2 := HNO.out (by rw [HA.out];rfl)
      have B10:Below w.heap.size w v3 := BC.trans (B3.mono BC.size)
      clear hn HA hLi hLk hrow ho HYES HNO hno hbel TW3 T3 B3
      go_wp2
      go_ret
      exact ⟨by rw [HV2.out];rfl,B10⟩
     obtain ⟨gb,go,rfl,lg,cf0⟩ := hrow 0 (by omega)
     obtain ⟨gb2,go2,eg,_,cl0⟩ := hrow (L.length - 1) (by omega)
     simp only [Option.some.injEq,Addr.mk.injEq,and_true] at eg
     obtain ⟨rfl,rfl⟩ := eg
     obtain ⟨i1,e1,hi1⟩ := hLi _ (List.getElem_mem (by omega:0 < L.length))
     obtain ⟨i2,e2,hi2⟩ := hLi _ (List.getElem_mem (by omega:L.length - 1 < L.length))
     have HKD:Hid (kdE d.2.2.2.2.2.2.2.2.1.2.2[i1]=1) := hLk i1 hi1 (by rw [← e1];exact List.getElem?_eq_getElem (by omega))
     have HVA:Hid (evB d x=(decide (ceE d.2.2.2.2.2.2.2.2.1.2.2[i1]=clQ x) && (decide (ceE d.2.2.2.2.2.2.2.2.1.2.2[i2]=clQ x) && decide (seE d.2.2.2.2.2.2.2.2.1.2.2[i2]=seQ x)))) := by
      show _=_
      rw [HA.out]
      unfold auL
      rw [decide_eq_true (by omega:0 < L.length),Bool.true_and,show L.getD 0 0=(i1:Int) by rw [← e1];simp [List.getD,show 0 < L.length by omega],show L.getD (L.length - 1) 0=(i2:Int) by rw [← e2];simp [List.getD,show L.length - 1 < L.length by omega],evAt_at hi1,evAt_at hi2]
     rw [e1] at cf0
     rw [e2] at cl0
     obtain ⟨lb,lo,ela,ll,_⟩ := hfr i1 hi1
     have HLA:Hid (d.2.2.2.2.2.2.2.2.1.1=some ⟨lb,lo,none⟩) := ela
     have SB0:∀ U:World,Below v3.heap.size v3 U→(Blk w.heap.size [.slice d.1.1.1 d.1.1.2.2.length d.1.1.2.1,.slice d.1.2.1.1 d.1.2.1.2.2.length d.1.2.1.2.1,.slice d.1.2.2.1.1 d.1.2.2.1.2.2.length d.1.2.2.1.2.1,.slice d.1.2.2.2.1.1 d.1.2.2.2.1.2.2.length d.1.2.2.2.1.2.1,.int .i64 d.1.2.2.2.2,.int .i64 d.2.1,.int .i64 d.2.2.1,.slice d.2.2.2.1.1 d.2.2.2.1.2.2.length d.2.2.2.1.2.1,.slice d.2.2.2.2.1.1.1 d.2.2.2.2.1.1.2.2.length d.2.2.2.2.1.1.2.1,.slice d.2.2.2.2.1.2.1 d.2.2.2.2.1.2.2.2.length d.2.2.2.2.1.2.2.1,.slice d.2.2.2.2.2.1.1 d.2.2.2.2.2.1.2.2.length d.2.2.2.2.2.1.2.1,.slice d.2.2.2.2.2.2.1.1 d.2.2.2.2.2.2.1.2.2.length d.2.2.2.2.2.2.1.2.1,.slice d.2.2.2.2.2.2.2.1.1 d.2.2.2.2.2.2.2.1.2.2.length d.2.2.2.2.2.2.2.1.2.1,.slice d.2.2.2.2.2.2.2.2.1.1 d.2.2.2.2.2.2.2.2.1.2.2.length d.2.2.2.2.2.2.2.2.1.2.1,.slice d.2.2.2.2.2.2.2.2.2.1.1 d.2.2.2.2.2.2.2.2.2.1.2.2.length d.2.2.2.2.2.2.2.2.2.1.2.1,.slice d.2.2.2.2.2.2.2.2.2.2.1 d.2.2.2.2.2.2.2.2.2.2.2.2.length d.2.2.2.2.2.2.2.2.2.2.2.1] U∧U.cell? ⟨gb,go,none⟩=some (.int .i64 (i1:Int))∧U.cell? ⟨gb,go + (L.length - 1),none⟩=some (.int .i64 (i2:Int))∧FRow 11 cE U (some ⟨lb,lo,none⟩) d.2.2.2.2.2.2.2.2.1.2.2) := fun U h=>⟨TW3.later h TW3.lt,(h.cell (p := ⟨gb,go,none⟩) lg).trans cf0,(h.cell (p := ⟨gb,go + (L.length - 1),none⟩) lg).trans cl0,by rw [← ela];exact hfr.later (B3.trans (h.mono B3.size))⟩
     have HWR:Hid (IntKind.i64.wrap ((L.length:Int) - 1)=((L.length - 1:Nat):Int)) := by show _=_;rw [IntKind.wrap_i64];omega
     have hn1:((L.length - 1:Nat):Int) < (L.length:Int) := by omega
     have hj1:(i1:Int) < (d.2.2.2.2.2.2.2.2.1.2.2.length:Int) := by omega
     have hj2:(i2:Int) < (d.2.2.2.2.2.2.2.2.1.2.2.length:Int) := by omega
     have hp0:0 < L.length := by omega
     clear e1 e2 cf0 cl0 HA hLi hLk hrow ho ela TW3 hn lg ll
     go_wp2_with fail
     refine wp_region_held_drew (S := (fun U:World=>Blk w.heap.size [.slice d.1.1.1 d.1.1.2.2.length d.1.1.2.1,.slice d.1.2.1.1 d.1.2.1.2.2.length d.1.2.1.2.1,.slice d.1.2.2.1.1 d.1.2.2.1.2.2.length d.1.2.2.1.2.1,.slice d.1.2.2.2.1.1 d.1.2.2.2.1.2.2.length d.1.2.2.2.1.2.1,.int .i64 d.1.2.2.2.2,.int .i64 d.2.1,.int .i64 d.2.2.1,.slice d.2.2.2.1.1 d.2.2.2.1.2.2.length d.2.2.2.1.2.1,.slice d.2.2.2.2.1.1.1 d.2.2.2.2.1.1.2.2.length d.2.2.2.2.1.1.2.1,.slice d.2.2.2.2.1.2.1 d.2.2.2.2.1.2.2.2.length d.2.2.2.2.1.2.2.1,.slice d.2.2.2.2.2.1.1 d.2.2.2.2.2.1.2.2.length d.2.2.2.2.2.1.2.1,.slice d.2.2.2.2.2.2.1.1 d.2.2.2.2.2.2.1.2.2.length d.2.2.2.2.2.2.1.2.1,.slice d.2.2.2.2.2.2.2.1.1 d.2.2.2.2.2.2.2.1.2.2.length d.2.2.2.2.2.2.2.1.2.1,.slice d.2.2.2.2.2.2.2.2.1.1 d.2.2.2.2.2.2.2.2.1.2.2.length d.2.2.2.2.2.2.2.2.1.2.1,.slice d.2.2.2.2.2.2.2.2.2.1.1 d.2.2.2.2.2.2.2.2.2.1.2.2.length d.2.2.2.2.2.2.2.2.2.1.2.1,.slice d.2.2.2.2.2.2.2.2.2.2.1 d.2.2.2.2.2.2.2.2.2.2.2.2.length d.2.2.2.2.2.2.2.2.2.2.2.1] U∧U.cell? ⟨gb,go,none⟩=some (.int .i64 (i1:Int))∧U.cell? ⟨gb,go + (L.length - 1),none⟩=some (.int .i64 (i2:Int))∧FRow 11 cE U (some ⟨lb,lo,none⟩) d.2.2.2.2.2.2.2.2.1.2.2)) (by kernel_rfl) (SB0 _ ((Below.refl _ v3).drew)) (fun hHeld=>?_)
     have SB:∀ U:World,Below v3.drew.heap.size v3.drew U→(Blk w.heap.size [.slice d.1.1.1 d.1.1.2.2.length d.1.1.2.1,.slice d.1.2.1.1 d.1.2.1.2.2.length d.1.2.1.2.1,.slice d.1.2.2.1.1 d.1.2.2.1.2.2.length d.1.2.2.1.2.1,.slice d.1.2.2.2.1.1 d.1.2.2.2.1.2.2.length d.1.2.2.2.1.2.1,.int .i64 d.1.2.2.2.2,.int .i64 d.2.1,.int .i64 d.2.2.1,.slice d.2.2.2.1.1 d.2.2.2.1.2.2.length d.2.2.2.1.2.1,.slice d.2.2.2.2.1.1.1 d.2.2.2.2.1.1.2.2.length d.2.2.2.2.1.1.2.1,.slice d.2.2.2.2.1.2.1 d.2.2.2.2.1.2.2.2.length d.2.2.2.2.1.2.2.1,.slice d.2.2.2.2.2.1.1 d.2.2.2.2.2.1.2.2.length d.2.2.2.2.2.1.2.1,.slice d.2.2.2.2.2.2.1.1 d.2.2.2.2.2.2.1.2.2.length d.2.2.2.2.2.2.1.2.1,.slice d.2.2.2.2.2.2.2.1.1 d.2.2.2.2.2.2.2.1.2.2.length d.2.2.2.2.2.2.2.1.2.1,.slice d.2.2.2.2.2.2.2.2.1.1 d.2.2.2.2.2.2.2.2.1.2.2.length d.2.2.2.2.2.2.2.2.1.2.1,.slice d.2.2.2.2.2.2.2.2.2.1.1 d.2.2.2.2.2.2.2.2.2.1.2.2.length d.2.2.2.2.2.2.2.2.2.1.2.1,.slice d.2.2.2.2.2.2.2.2.2.2.1 d.2.2.2.2.2.2.2.2.2.2.2.2.length d.2.2.2.2.2.2.2.2.2.2.2.1] U∧U.cell? ⟨gb,go,none⟩=some (.int .i64 (i1:Int))∧U.cell? ⟨gb,go + (L.length - 1),none⟩=some (.int .i64 (i2:Int))∧FRow 11 cE U (some ⟨lb,lo,none⟩) d.2.2.2.2.2.2.2.2.1.2.2) := fun U h=>SB0 U ((Below.refl _ v3).drew.trans h)
     refine take_one 0 35 (v := ?_) rfl rfl (by kernel_rfl) (by kernel_rfl) (by kernel_rfl) (fun _ _ _ h=>h) (Or.inl ⟨by rfl,?_⟩) hHeld ?_
     rotate_left
     ·intro w' hSw;(try dsimp only at hSw);obtain ⟨bD,cF,cL,fR⟩ := hSw;have l8 := bD.at 13 rfl;rw [HLA.out] at l8;have hwr := HWR.out;go_simp;try with_reducible rfl
     try simp only [Act.put,List.setIfInBounds_toArray,List.set_cons_zero,List.set_cons_succ]
     refine take_one 1 36 (v := ?_) rfl rfl (by kernel_rfl) (by kernel_rfl) (by kernel_rfl) (fun _ _ _ h=>h) (Or.inl ⟨by rfl,?_⟩) hHeld ?_
     rotate_left
     ·intro w' hSw;(try dsimp only at hSw);obtain ⟨bD,cF,cL,fR⟩ := hSw;have l8 := bD.at 13 rfl;rw [HLA.out] at l8;have hwr := HWR.out;go_simp;try with_reducible rfl
     try simp only [Act.put,List.setIfInBounds_toArray,List.set_cons_zero,List.set_cons_succ]
     refine take_one 2 37 (v := ?_) rfl rfl (by kernel_rfl) (by kernel_rfl) (by kernel_rfl) (fun _ _ _ h=>h) (Or.inl ⟨by rfl,?_⟩) hHeld ?_
     rotate_left
     ·intro w' hSw;(try dsimp only at hSw);obtain ⟨bD,cF,cL,fR⟩ := hSw;have l8 := bD.at 13 rfl;rw [HLA.out] at l8;have hwr := HWR.out;go_simp;try with_reducible rfl
     try simp only [Act.put,List.setIfInBounds_toArray,List.set_cons_zero,List.set_cons_succ]
     refine take_one 3 38 (v := ?_) rfl rfl (by kernel_rfl) (by kernel_rfl) (by kernel_rfl) (fun _ _ _ h=>h) (Or.inl ⟨by rfl,?_⟩) hHeld ?_
     rotate_left
     ·intro w' hSw;(try dsimp only at hSw);obtain ⟨bD,cF,cL,fR⟩ := hSw;have l8 := bD.at 13 rfl;rw [HLA.out] at l8;have hwr := HWR.out;go_simp;try with_reducible rfl
     try simp only [Act.put,List.setIfInBounds_toArray,List.set_cons_zero,List.set_cons_succ]
     refine take_one 4 39 (v := ?_) rfl rfl (by kernel_rfl) (by kernel_rfl) (by kernel_rfl) (fun _ _ _ h=>h) (Or.inl ⟨by rfl,?_⟩) hHeld ?_
     rotate_left
     ·intro w' hSw;(try dsimp only at hSw);obtain ⟨bD,cF,cL,fR⟩ := hSw;have l8 := bD.at 13 rfl;rw [HLA.out] at l8;have hwr := HWR.out;go_simp;try with_reducible rfl
     try simp only [Act.put,List.setIfInBounds_toArray,List.set_cons_zero,List.set_cons_succ]
     refine take_one 5 40 (v := ?_) rfl rfl (by kernel_rfl) (by kernel_rfl) (by kernel_rfl) (fun _ _ _ h=>h) (Or.inl ⟨by rfl,?_⟩) hHeld ?_
     rotate_left
     ·intro w' hSw;(try dsimp only at hSw);obtain ⟨bD,cF,cL,fR⟩ := hSw;have l8 := bD.at 13 rfl;rw [HLA.out] at l8;have hwr := HWR.out;go_simp;try with_reducible rfl
     try simp only [Act.put,List.setIfInBounds_toArray,List.set_cons_zero,List.set_cons_succ]
     refine take_one 6 41 (v := .agg (cE d.2.2.2.2.2.2.2.2.1.2.2[i1]).toArray) rfl rfl (by kernel_rfl) (by kernel_rfl) (by kernel_rfl) (fun _ _ _ h=>h) (Or.inl ⟨by rfl,?_⟩) hHeld ?_
     ·intro w' hSw;(try dsimp only at hSw);obtain ⟨bD,cF,cL,fR⟩ := hSw;exact exec_ld 109 _ rfl rfl (ld_row iv hiv hivs fR hi1)
     try simp only [Act.put,List.setIfInBounds_toArray,List.set_cons_zero,List.set_cons_succ]
     have hbU:Below v3.heap.size v3 v3.drew := (Below.refl _ v3).drew
     generalize v3.drew=Ua at SB hbU hHeld ⊢
     generalize d.2.2.2.2.2.2.2.2.1.2.2[i1]=y1 at HVA HKD ⊢
     refine wpAnyH_ready (rs := [7]) (by kernel_rfl) (by simp) ?_
     refine AllReadyH.cons (i := 7) rfl (fun K hK=>?_) AllReadyH.nil
     obtain ⟨Xa,hX⟩:∃ X,Ua.alloc (.cells #[.int .i64 0,.int .i64 0,.int .i64 0,.int .i64 0,.int .i64 0,.int .i64 0,.int .i64 0,.int .i64 0,.int .i64 0,.int .i64 0,.int .i64 0] 109)=X := ⟨_,rfl⟩
     have bXa:Below Ua.heap.size Ua Xa := by rw [← hX];exact (Below.refl _ _).alloc (Nat.le_refl _) _
     have Fa:Blk Ua.heap.size [.int .i64 0,.int .i64 0,.int .i64 0,.int .i64 0,.int .i64 0,.int .i64 0,.int .i64 0,.int .i64 0,.int .i64 0,.int .i64 0,.int .i64 0] Xa := by rw [← hX];exact Blk.new _ _ _
     go_simp
     refine hK.out _ _ (by (try rw [hX]);exact SB Xa bXa) (fun hHeld2=>?_)
     clear hK K hHeld
     have hHeld := hHeld2
     clear hHeld2
     try simp only [Act.put,List.setIfInBounds_toArray,List.set_cons_zero,List.set_cons_succ]
     try rw [hX]
     try rw [hX] at hHeld
     clear hX
     refine wpAnyH_ready (rs := [8]) (by kernel_rfl) (by simp) ?_
     refine AllReadyH.cons (i := 8) rfl (fun K hK=>?_) AllReadyH.nil
     obtain ⟨Ya,hX⟩:∃ X,Xa.setCells Ua.heap.size 0 (cE y1)=X := ⟨_,rfl⟩
     have bYa:Below Ua.heap.size Ua Ya := by rw [← hX];exact below_sets (Nat.le_refl _) _ _ _ bXa
     refine stepB 109 _ _ (Ua.heap.size) 0 _ (cE y1) iv hiv Fa hivs.symm (by show 0 + 11≤11;omega) rfl rfl rfl rfl rfl ?_
     replace Fa:Blk Ua.heap.size (cE y1) Ya := by rw [← hX];exact Fa.sets _ rfl
     try rw [hX]
     refine hK.out _ _ (by (try rw [hX]);exact SB Ya bYa) (fun hHeld2=>?_)
     clear hK K hHeld
     have hHeld := hHeld2
     clear hHeld2
     try simp only [Act.put,List.setIfInBounds_toArray]
     try rw [hX]
     try rw [hX] at hHeld
     clear hX
     refine wpAnyH_done (by kernel_rfl) ?_ _
     have Ba:Below v3.heap.size v3 Ya := hbU.trans (bYa.mono hbU.size)
     clear hHeld SB hbU bXa bYa
     replace SB0:∀ U:World,Below Ya.heap.size Ya U→(Blk w.heap.size [.slice d.1.1.1 d.1.1.2.2.length d.1.1.2.1,.slice d.1.2.1.1 d.1.2.1.2.2.length d.1.2.1.2.1,.slice d.1.2.2.1.1 d.1.2.2.1.2.2.length d.1.2.2.1.2.1,.slice d.1.2.2.2.1.1 d.1.2.2.2.1.2.2.length d.1.2.2.2.1.2.1,.int .i64 d.1.2.2.2.2,.int .i64 d.2.1,.int .i64 d.2.2.1,.slice d.2.2.2.1.1 d.2.2.2.1.2.2.length d.2.2.2.1.2.1,.slice d.2.2.2.2.1.1.1 d.2.2.2.2.1.1.2.2.length d.2.2.2.2.1.1.2.1,.slice d.2.2.2.2.1.2.1 d.2.2.2.2.1.2.2.2.length d.2.2.2.2.1.2.2.1,.slice d.2.2.2.2.2.1.1 d.2.2.2.2.2.1.2.2.length d.2.2.2.2.2.1.2.1,.slice d.2.2.2.2.2.2.1.1 d.2.2.2.2.2.2.1.2.2.length d.2.2.2.2.2.2.1.2.1,.slice d.2.2.2.2.2.2.2.1.1 d.2.2.2.2.2.2.2.1.2.2.length d.2.2.2.2.2.2.2.1.2.1,.slice d.2.2.2.2.2.2.2.2.1.1 d.2.2.2.2.2.2.2.2.1.2.2.length d.2.2.2.2.2.2.2.2.1.2.1,.slice d.2.2.2.2.2.2.2.2.2.1.1 d.2.2.2.2.2.2.2.2.2.1.2.2.length d.2.2.2.2.2.2.2.2.2.1.2.1,.slice d.2.2.2.2.2.2.2.2.2.2.1 d.2.2.2.2.2.2.2.2.2.2.2.2.length d.2.2.2.2.2.2.2.2.2.2.2.1] U∧U.cell? ⟨gb,go,none⟩=some (.int .i64 (i1:Int))∧U.cell? ⟨gb,go + (L.length - 1),none⟩=some (.int .i64 (i2:Int))∧FRow 11 cE U (some ⟨lb,lo,none⟩) d.2.2.2.2.2.2.2.2.1.2.2) := fun U h=>SB0 U (Ba.trans (h.mono Ba.size))
     go_wp2_with fail
     refine wp_region_held_drew (S := (fun U:World=>Blk w.heap.size [.slice d.1.1.1 d.1.1.2.2.length d.1.1.2.1,.slice d.1.2.1.1 d.1.2.1.2.2.length d.1.2.1.2.1,.slice d.1.2.2.1.1 d.1.2.2.1.2.2.length d.1.2.2.1.2.1,.slice d.1.2.2.2.1.1 d.1.2.2.2.1.2.2.length d.1.2.2.2.1.2.1,.int .i64 d.1.2.2.2.2,.int .i64 d.2.1,.int .i64 d.2.2.1,.slice d.2.2.2.1.1 d.2.2.2.1.2.2.length d.2.2.2.1.2.1,.slice d.2.2.2.2.1.1.1 d.2.2.2.2.1.1.2.2.length d.2.2.2.2.1.1.2.1,.slice d.2.2.2.2.1.2.1 d.2.2.2.2.1.2.2.2.length d.2.2.2.2.1.2.2.1,.slice d.2.2.2.2.2.1.1 d.2.2.2.2.2.1.2.2.length d.2.2.2.2.2.1.2.1,.slice d.2.2.2.2.2.2.1.1 d.2.2.2.2.2.2.1.2.2.length d.2.2.2.2.2.2.1.2.1,.slice d.2.2.2.2.2.2.2.1.1 d.2.2.2.2.2.2.2.1.2.2.length d.2.2.2.2.2.2.2.1.2.1,.slice d.2.2.2.2.2.2.2.2.1.1 d.2.2.2.2.2.2.2.2.1.2.2.length d.2.2.2.2.2.2.2.2.1.2.1,.slice d.2.2.2.2.2.2.2.2.2.1.1 d.2.2.2.2.2.2.2.2.2.1.2.2.length d.2.2.2.2.2.2.2.2.2.1.2.1,.slice d.2.2.2.2.2.2.2.2.2.2.1 d.2.2.2.2.2.2.2.2.2.2.2.2.length d.2.2.2.2.2.2.2.2.2.2.2.1] U∧U.cell? ⟨gb,go,none⟩=some (.int .i64 (i1:Int))∧U.cell? ⟨gb,go + (L.length - 1),none⟩=some (.int .i64 (i2:Int))∧FRow 11 cE U (some ⟨lb,lo,none⟩) d.2.2.2.2.2.2.2.2.1.2.2)) (by kernel_rfl) (SB0 _ ((Below.refl _ Ya).drew)) (fun hHeld=>?_)
     have SB:∀ U:World,Below Ya.drew.heap.size Ya.drew U→(Blk w.heap.size [.slice d.1.1.1 d.1.1.2.2.length d.1.1.2.1,.slice d.1.2.1.1 d.1.2.1.2.2.length d.1.2.1.2.1,.slice d.1.2.2.1.1 d.1.2.2.1.2.2.length d.1.2.2.1.2.1,.slice d.1.2.2.2.1.1 d.1.2.2.2.1.2.2.length d.1.2.2.2.1.2.1,.int .i64 d.1.2.2.2.2,.int .i64 d.2.1,.int .i64 d.2.2.1,.slice d.2.2.2.1.1 d.2.2.2.1.2.2.length d.2.2.2.1.2.1,.slice d.2.2.2.2.1.1.1 d.2.2.2.2.1.1.2.2.length d.2.2.2.2.1.1.2.1,.slice d.2.2.2.2.1.2.1 d.2.2.2.2.1.2.2.2.length d.2.2.2.2.1.2.2.1,.slice d.2.2.2.2.2.1.1 d.2.2.2.2.2.1.2.2.length d.2.2.2.2.2.1.2.1,.slice d.2.2.2.2.2.2.1.1 d.2.2.2.2.2.2.1.2.2.length d.2.2.2.2.2.2.1.2.1,.slice d.2.2.2.2.2.2.2.1.1 d.2.2.2.2.2.2.2.1.2.2.length d.2.2.2.2.2.2.2.1.2.1,.slice d.2.2.2.2.2.2.2.2.1.1 d.2.2.2.2.2.2.2.2.1.2.2.length d.2.2.2.2.2.2.2.2.1.2.1,.slice d.2.2.2.2.2.2.2.2.2.1.1 d.2.2.2.2.2.2.2.2.2.1.2.2.length d.2.2.2.2.2.2.2.2.2.1.2.1,.slice d.2.2.2.2.2.2.2.2.2.2.1 d.2.2.2.2.2.2.2.2.2.2.2.2.length d.2.2.2.2.2.2.2.2.2.2.2.1] U∧U.cell? ⟨gb,go,none⟩=some (.int .i64 (i1:Int))∧U.cell? ⟨gb,go + (L.length - 1),none⟩=some (.int .i64 (i2:Int))∧FRow 11 cE U (some ⟨lb,lo,none⟩) d.2.2.2.2.2.2.2.2.1.2.2) := fun U h=>SB0 U ((Below.refl _ Ya).drew.trans h)
     refine take_one 0 42 (v := ?_) rfl rfl (by kernel_rfl) (by kernel_rfl) (by kernel_rfl) (fun _ _ _ h=>h) (Or.inl ⟨by rfl,?_⟩) hHeld ?_
     rotate_left
     ·intro w' hSw;(try dsimp only at hSw);obtain ⟨bD,cF,cL,fR⟩ := hSw;have l8 := bD.at 13 rfl;rw [HLA.out] at l8;have hwr := HWR.out;go_simp;try with_reducible rfl
     try simp only [Act.put,List.setIfInBounds_toArray,List.set_cons_zero,List.set_cons_succ]
     refine take_one 1 43 (v := ?_) rfl rfl (by kernel_rfl) (by kernel_rfl) (by kernel_rfl) (fun _ _ _ h=>h) (Or.inl ⟨by rfl,?_⟩) hHeld ?_
     rotate_left
     ·intro w' hSw;(try dsimp only at hSw);obtain ⟨bD,cF,cL,fR⟩ := hSw;have l8 := bD.at 13 rfl;rw [HLA.out] at l8;have hwr := HWR.out;go_simp;try with_reducible rfl
     try simp only [Act.put,List.setIfInBounds_toArray,List.set_cons_zero,List.set_cons_succ]
     refine take_one 2 44 (v := ?_) rfl rfl (by kernel_rfl) (by kernel_rfl) (by kernel_rfl) (fun _ _ _ h=>h) (Or.inl ⟨by rfl,?_⟩) hHeld ?_
     rotate_left
     ·intro w' hSw;(try dsimp only at hSw);obtain ⟨bD,cF,cL,fR⟩ := hSw;have l8 := bD.at 13 rfl;rw [HLA.out] at l8;have hwr := HWR.out;go_simp;try with_reducible rfl
     try simp only [Act.put,List.setIfInBounds_toArray,List.set_cons_zero,List.set_cons_succ]
     refine take_one 3 45 (v := ?_) rfl rfl (by kernel_rfl) (by kernel_rfl) (by kernel_rfl) (fun _ _ _ h=>h) (Or.inl ⟨by rfl,?_⟩) hHeld ?_
     rotate_left
     ·intro w' hSw;(try dsimp only at hSw);obtain ⟨bD,cF,cL,fR⟩ := hSw;have l8 := bD.at 13 rfl;rw [HLA.out] at l8;have hwr := HWR.out;go_simp;try with_reducible rfl
     try simp only [Act.put,List.setIfInBounds_toArray,List.set_cons_zero,List.set_cons_succ]
     refine take_one 4 46 (v := ?_) rfl rfl (by kernel_rfl) (by kernel_rfl) (by kernel_rfl) (fun _ _ _ h=>h) (Or.inl ⟨by rfl,?_⟩) hHeld ?_
     rotate_left
     ·intro w' hSw;(try dsimp only at hSw);obtain ⟨bD,cF,cL,fR⟩ := hSw;have l8 := bD.at 13 rfl;rw [HLA.out] at l8;have hwr := HWR.out;go_simp;try with_reducible rfl
     try simp only [Act.put,List.setIfInBounds_toArray,List.set_cons_zero,List.set_cons_succ]
     refine take_one 5 47 (v := ?_) rfl rfl (by kernel_rfl) (by kernel_rfl) (by kernel_rfl) (fun _ _ _ h=>h) (Or.inl ⟨by rfl,?_⟩) hHeld ?_
     rotate_left
     ·intro w' hSw;(try dsimp only at hSw);obtain ⟨bD,cF,cL,fR⟩ := hSw;have l8 := bD.at 13 rfl;rw [HLA.out] at l8;have hwr := HWR.out;go_simp;try with_reducible rfl
     try simp only [Act.put,List.setIfInBounds_toArray,List.set_cons_zero,List.set_cons_succ]
     refine take_one 6 48 (v := ?_) rfl rfl (by kernel_rfl) (by kernel_rfl) (by kernel_rfl) (fun _ _ _ h=>h) (Or.inl ⟨by rfl,?_⟩) hHeld ?_
     rotate_left
     ·intro w' hSw;(try dsimp only at hSw);obtain ⟨bD,cF,cL,fR⟩ := hSw;have l8 := bD.at 13 rfl;rw [HLA.out] at l8;have hwr := HWR.out;go_simp;try with_reducible rfl
     try simp only [Act.put,List.setIfInBounds_toArray,List.set_cons_zero,List.set_cons_succ]
     refine take_one 7 49 (v := ?_) rfl rfl (by kernel_rfl) (by kernel_rfl) (by kernel_rfl) (fun _ _ _ h=>h) (Or.inl ⟨by rfl,?_⟩) hHeld ?_
     rotate_left
     ·intro w' hSw;(try dsimp only at hSw);obtain ⟨bD,cF,cL,fR⟩ := hSw;have l8 := bD.at 13 rfl;rw [HLA.out] at l8;have hwr := HWR.out;go_simp;try with_reducible rfl
     try simp only [Act.put,List.setIfInBounds_toArray,List.set_cons_zero,List.set_cons_succ]
     refine take_one 8 50 (v := ?_) rfl rfl (by kernel_rfl) (by kernel_rfl) (by kernel_rfl) (fun _ _ _ h=>h) (Or.inl ⟨by rfl,?_⟩) hHeld ?_
     rotate_left
     ·intro w' hSw;(try dsimp only at hSw);obtain ⟨bD,cF,cL,fR⟩ := hSw;have l8 := bD.at 13 rfl;rw [HLA.out] at l8;have hwr := HWR.out;go_simp;try with_reducible rfl
     try simp only [Act.put,List.setIfInBounds_toArray,List.set_cons_zero,List.set_cons_succ]
     refine take_one 9 51 (v := .agg (cE d.2.2.2.2.2.2.2.2.1.2.2[i2]).toArray) rfl rfl (by kernel_rfl) (by kernel_rfl) (by kernel_rfl) (fun _ _ _ h=>h) (Or.inl ⟨by rfl,?_⟩) hHeld ?_
     ·intro w' hSw;(try dsimp only at hSw);obtain ⟨bD,cF,cL,fR⟩ := hSw;exact exec_ld 109 _ rfl rfl (ld_row iv hiv hivs fR hi2)
     try simp only [Act.put,List.setIfInBounds_toArray,List.set_cons_zero,List.set_cons_succ]
     have hbU:Below Ya.heap.size Ya Ya.drew := (Below.refl _ Ya).drew
     generalize Ya.drew=Ub at SB hbU hHeld ⊢
     generalize d.2.2.2.2.2.2.2.2.1.2.2[i2]=y2 at HVA ⊢
     refine wpAnyH_ready (rs := [10]) (by kernel_rfl) (by simp) ?_
     refine AllReadyH.cons (i := 10) rfl (fun K hK=>?_) AllReadyH.nil
     obtain ⟨Xb,hX⟩:∃ X,Ub.alloc (.cells #[.int .i64 0,.int .i64 0,.int .i64 0,.int .i64 0,.int .i64 0,.int .i64 0,.int .i64 0,.int .i64 0,.int .i64 0,.int .i64 0,.int .i64 0] 109)=X := ⟨_,rfl⟩
     have bXb:Below Ub.heap.size Ub Xb := by rw [← hX];exact (Below.refl _ _).alloc (Nat.le_refl _) _
     have Fb:Blk Ub.heap.size [.int .i64 0,.int .i64 0,.int .i64 0,.int .i64 0,.int .i64 0,.int .i64 0,.int .i64 0,.int .i64 0,.int .i64 0,.int .i64 0,.int .i64 0] Xb := by rw [← hX];exact Blk.new _ _ _
     go_simp
     refine hK.out _ _ (by (try rw [hX]);exact SB Xb bXb) (fun hHeld2=>?_)
     clear hK K hHeld
     have hHeld := hHeld2
     clear hHeld2
     try simp only [Act.put,List.setIfInBounds_toArray,List.set_cons_zero,List.set_cons_succ]
     try rw [hX]
     try rw [hX] at hHeld
     clear hX
     refine wpAnyH_ready (rs := [11]) (by kernel_rfl) (by simp) ?_
     refine AllReadyH.cons (i := 11) rfl (fun K hK=>?_) AllReadyH.nil
     obtain ⟨Yb,hX⟩:∃ X,Xb.setCells Ub.heap.size 0 (cE y2)=X := ⟨_,rfl⟩
     have bYb:Below Ub.heap.size Ub Yb := by rw [← hX];exact below_sets (Nat.le_refl _) _ _ _ bXb
     refine stepB 109 _ _ (Ub.heap.size) 0 _ (cE y2) iv hiv Fb hivs.symm (by show 0 + 11≤11;omega) rfl rfl rfl rfl rfl ?_
     replace Fb:Blk Ub.heap.size (cE y2) Yb := by rw [← hX];exact Fb.sets _ rfl
     try rw [hX]
     refine hK.out _ _ (by (try rw [hX]);exact SB Yb bYb) (fun hHeld2=>?_)
     clear hK K hHeld
     have hHeld := hHeld2
     clear hHeld2
     try simp only [Act.put,List.setIfInBounds_toArray]
     try rw [hX]
     try rw [hX] at hHeld
     clear hX
     refine wpAnyH_done (by kernel_rfl) ?_ _
     have Bb:Below Ya.heap.size Ya Yb := hbU.trans (bYb.mono hbU.size)
     clear hHeld SB hbU bXb bYb
     have Fa2 := Fa.later Bb Fa.lt
     have T9 := T3.later (Ba.trans (Bb.mono Ba.size)) T3.lt
     have B9:Below v0.heap.size v0 Yb := B3.trans ((Ba.trans (Bb.mono Ba.size)).mono B3.size)
     have a0 := Fa2.at 0 rfl
     rw [show y1.1=1 from HKD.out] at a0
     have a3 := Fa2.at 3 rfl
     have g3 := Fb.at 3 rfl
     have g4 := Fb.at 4 rfl
     have q0 := T9.at 0 rfl
     have q1 := T9.at 1 rfl
     clear Fa Fa2 Fb T9 T3 SB0 Ba Bb B3 HKD HLA HWR hn1 hj1 hj2 hp0 HAA HSH
     by_cases t1:y1.2.2.2.1=x.2.1
     ·have m1:(y1.2.2.2.1 == x.2.1)=true := beq_iff_eq.2 t1
      have m1n:(y1.2.2.2.1 != x.2.1)=false := by simp [t1]
      by_cases t2:y2.2.2.2.2.1=x.1
      ·have m2:(y2.2.2.2.2.1 == x.1)=true := beq_iff_eq.2 t2
       have m2n:(y2.2.2.2.2.1 != x.1)=false := by simp [t2]
       by_cases t3:y2.2.2.2.1=x.2.1
       ·have m3:(y2.2.2.2.1 == x.2.1)=true := beq_iff_eq.2 t3
        have m3n:(y2.2.2.2.1 != x.2.1)=false := by simp [t3]
        have HR:Hid (∃ k':Nat,k'≤d.2.2.2.2.2.2.2.2.2.1.2.2.length∧Value.int .i64 ((k:Int) + 1)=.int .i64 k'∧Hid (∀ j (h:j < d.2.2.2.2.2.2.2.2.2.1.2.2.length),j < k'→evB d d.2.2.2.2.2.2.2.2.2.1.2.2[j]=true)∧Below v0.heap.size v0 Yb) := ⟨k + 1,by omega,by go_num,HYES.out (by rw [HVA.out];simp [t1,t2,t3]),B9⟩
        clear HYES HNO HVA hno hbel B9 t1 t2 t3
        go_wp2
        go_roundw
        case rel=>exact HR.out
        case measure=>simp [intOf];omega
       ·have m3:(y2.2.2.2.1 == x.2.1)=false := beq_eq_false_iff_ne.2 t3
        have m3n:(y2.2.2.2.1 != x.2.1)=true := by simp [t3]
        have HV2 := HNO.out (by rw [HVA.out];simp [t1,t2,t3])
        have B10:Below w.heap.size w Yb := BC.trans (B9.mono BC.size)
        clear HYES HNO HVA hno hbel t1 t2 t3
        go_wp2
        go_ret
        exact ⟨by rw [HV2.out];rfl,B10⟩
      ·have m2:(y2.2.2.2.2.1 == x.1)=false := beq_eq_false_iff_ne.2 t2
       have m2n:(y2.2.2.2.2.1 != x.1)=true := by simp [t2]
       have HV2 := HNO.out (by rw [HVA.out];simp [t1,t2])
       have B10:Below w.heap.size w Yb := BC.trans (B9.mono BC.size)
       clear HYES HNO HVA hno hbel t1 t2
       go_wp2
       go_ret
       exact ⟨by rw [HV2.out];rfl,B10⟩
     ·have m1:(y1.2.2.2.1 == x.2.1)=false := beq_eq_false_iff_ne.2 t1
      have m1n:(y1.2.2.2.1 != x.2.1)=true := by simp [t1]
      have HV2 := HNO.out (by rw [HVA.out];simp [t1])
      have B10:Below w.heap.size w Yb := BC.trans (B9.mono BC.size)
      clear HYES HNO HVA hno hbel t1
      go_wp2
      go_ret
      exact ⟨by rw [HV2.out];rfl,B10⟩
   ·have hlt2:¬ (k:Int) < (d.2.2.2.2.2.2.2.2.2.1.2.2.length:Int) := by omega
    have HV:Hid ((wokB d && d.2.2.2.2.2.2.2.2.2.1.2.2.all fun x=>evB d x)=true) := by
     show _=_
     rw [HW.out,Bool.true_and,List.all_eq_true]
     intro x hx
     obtain ⟨j,hj,rfl⟩ := List.getElem_of_mem hx
     exact hno.out j hj (by omega)
    have B10:Below w.heap.size w wr := BC.trans (hbel.mono BC.size)
    clear hno hr hfr HSH TV hbel
    go_wp2
    go_ret
    exact ⟨by rw [HV.out];rfl,B10⟩
 ·rw [Bool.not_eq_true] at hw
  rw [hw]
  go_wp2
  go_ret
  exact ⟨by rw [hw];rfl,BC⟩
end Go.Proofs.YtjcmbbnklfemcaaGreat.Nd

set_option linter.unusedVariables false
set_option maxRecDepth 100000
namespace Go.Proofs.YtjcmbbnklfemcaaGreat.Nd
open Go Go.RowKit Go.Joins Own Draw Term
theorem cf_st {p q:TF} (h:stF p=stF q):(cfOf p).U=(cfOf q).U∧(cfOf p).S=(cfOf q).S∧(cfOf p).L=(cfOf q).L∧(cfOf p).X=(cfOf q).X∧(cfOf p).k=(cfOf q).k := by
 obtain ⟨⟨ua,uc,us⟩,⟨sa,sc,ss⟩,⟨la,lc,ls⟩,⟨xa,xc,xs⟩,kk⟩ := p
 obtain ⟨⟨ua',uc',us'⟩,⟨sa',sc',ss'⟩,⟨la',lc',ls'⟩,⟨xa',xc',xs'⟩,kk'⟩ := q
 unfold stF rsI rsP at h
 simp only [Prod.mk.injEq] at h
 obtain ⟨rfl,rfl,rfl,rfl,rfl⟩ := h
 exact ⟨rfl,rfl,rfl,rfl,rfl⟩
theorem cn_st {p q:TF} (h:stF p=stF q) {x y:TQ} (hx:stQ x=stQ y):cnL (cfOf p) x=cnL (cfOf q) y := by
 obtain ⟨e1,e2,e3,e4,e5⟩ := cf_st h
 have hc:confB (cfOf p)=confB (cfOf q) := by unfold confB;rw [e1,e2,e3,e4,e5]
 have hro:∀ z,roV (cfOf p) z=roV (cfOf q) z := fun z=>by unfold roV;rw [hc,e1,e2]
 have h1:clQ x=clQ y := congrArg (fun t:PQ=>t.2.1) hx
 have h0:seQ x=seQ y := congrArg (fun t:PQ=>t.1) hx
 have h7:paQ x=paQ y := congrArg (fun t:PQ=>t.2.2.2.2.2.2.2.1) hx
 have h8:viQ x=viQ y := congrArg (fun t:PQ=>t.2.2.2.2.2.2.2.2.1) hx
 unfold cnL rlP rsM
 rw [hro,hro,h0,h1,h7,h8]
theorem hon_st {d y:TD} (hs:stD y=stD d) {x z:TQ} (hx:stQ x=stQ z):honB y x=honB d z := by
 obtain ⟨f0,f1,f2,f3,f4,f5,f6,f7,f8,f9,f10⟩ := d
 obtain ⟨g0,g1,g2,g3,g4,g5,g6,g7,g8,g9,g10⟩ := y
 unfold stD at hs
 simp only [Prod.mk.injEq] at hs
 obtain ⟨e0,e1,e2,e3,e4,e5,e6,e7,e8,e9,e10⟩ := hs
 have h9:leQ x=leQ z := congrArg (fun t:PQ=>t.2.2.2.2.2.2.2.2.2.1) hx
 unfold rsI at e10
 unfold honB lkQ
 dsimp only
 rw [cn_st e0 hx,h9,e10]
theorem all_st {f g:TQ→Bool} (hfg:∀ x z,stQ x=stQ z→f x=g z):∀ (l1 l2:List TQ),l1.map stQ=l2.map stQ→l1.all f=l2.all g
 | [],[],_=>rfl
 | [],z :: l2,h=>by cases h
 | x :: l1,[],h=>by cases h
 | x :: l1,z :: l2,h=>by
  simp only [List.map_cons,List.cons.injEq] at h
  rw [List.all_cons,List.all_cons,hfg x z h.1,all_st hfg l1 l2 h.2]
theorem au_st {d y:TD} (hs:stD y=stD d):(y.2.2.2.2.2.2.2.2.2.1.2.2.all fun x=>evB y x)=(d.2.2.2.2.2.2.2.2.2.1.2.2.all fun x=>evB d x) := by
 have hl:y.2.2.2.2.2.2.2.2.1.2.2=d.2.2.2.2.2.2.2.2.1.2.2 := congrArg (fun t:PD=>t.2.2.2.2.2.2.2.2.1) hs
 have hm:y.2.2.2.2.2.2.2.2.2.1.2.2.map stQ=d.2.2.2.2.2.2.2.2.2.1.2.2.map stQ := congrArg (fun t:PD=>t.2.2.2.2.2.2.2.2.2.1) hs
 refine all_st (fun x z hx=>?_) _ _ hm
 have h0:seQ x=seQ z := congrArg (fun t:PQ=>t.1) hx
 have h1:clQ x=clQ z := congrArg (fun t:PQ=>t.2.1) hx
 have h2:kyQ x=kyQ z := congrArg (fun t:PQ=>t.2.2.1) hx
 unfold evB auB auL
 rw [hon_st hs hx,hl,h0,h1,h2]
theorem wdi_of {d y:TD} (hs:stD y=stD d) (hk:OkD d):WdI y := by
 have hl:y.2.2.2.2.2.2.2.2.1.2.2=d.2.2.2.2.2.2.2.2.1.2.2 := congrArg (fun t:PD=>t.2.2.2.2.2.2.2.2.1) hs
 have hm:y.2.2.2.2.2.2.2.2.2.1.2.2.map stQ=d.2.2.2.2.2.2.2.2.2.1.2.2.map stQ := congrArg (fun t:PD=>t.2.2.2.2.2.2.2.2.2.1) hs
 refine ⟨fun e he=>?_,fun q hq=>?_⟩
 ·rw [hl] at he
  have h8:RkE d.2.2.2.2.2.2.2.2.1 := hk.2.2.2.2.2.2.2.1
  have ho := h8 e he
  exact ⟨ho.2.2.2.2.2.1,ho.2.2.2.2.2.2.1,ho.2.2.2.2.2.2.2.1⟩
 ·have hx2:stQ q∈d.2.2.2.2.2.2.2.2.2.1.2.2.map stQ := by rw [← hm];exact List.mem_map_of_mem hq
  obtain ⟨z,hz,ez⟩ := List.mem_map.1 hx2
  have h9:RkQ d.2.2.2.2.2.2.2.2.2.1 := hk.2.2.2.2.2.2.2.2.1
  have ho := h9 z hz
  have h2:kyQ z=kyQ q := congrArg (fun t:PQ=>t.2.2.1) ez
  rw [← h2]
  exact ho.2.2.1
set_option maxRecDepth 100000 in
set_option maxHeartbeats 6400000 in
theorem law_auth (d:TD) (w:World) (hd:DpD w d) (hl:LmD d) (hk:OkD d):Calls Tryz.prog 5 #[vD d] w fun en w'=>en=.returned (.bool true)∧Below w.heap.size w w' := by
 obtain ⟨ie,hie,his⟩ := info_D
 obtain ⟨il,hil,hils⟩ := info_DL
 obtain ⟨V,hV⟩:∃ V,w.alloc (.cells #[.slice d.1.1.1 d.1.1.2.2.length d.1.1.2.1,.slice d.1.2.1.1 d.1.2.1.2.2.length d.1.2.1.2.1,.slice d.1.2.2.1.1 d.1.2.2.1.2.2.length d.1.2.2.1.2.1,.slice d.1.2.2.2.1.1 d.1.2.2.2.1.2.2.length d.1.2.2.2.1.2.1,.int .i64 d.1.2.2.2.2,.int .i64 d.2.1,.int .i64 d.2.2.1,.slice d.2.2.2.1.1 d.2.2.2.1.2.2.length d.2.2.2.1.2.1,.slice d.2.2.2.2.1.1.1 d.2.2.2.2.1.1.2.2.length d.2.2.2.2.1.1.2.1,.slice d.2.2.2.2.1.2.1 d.2.2.2.2.1.2.2.2.length d.2.2.2.2.1.2.2.1,.slice d.2.2.2.2.2.1.1 d.2.2.2.2.2.1.2.2.length d.2.2.2.2.2.1.2.1,.slice d.2.2.2.2.2.2.1.1 d.2.2.2.2.2.2.1.2.2.length d.2.2.2.2.2.2.1.2.1,.slice d.2.2.2.2.2.2.2.1.1 d.2.2.2.2.2.2.2.1.2.2.length d.2.2.2.2.2.2.2.1.2.1,.slice d.2.2.2.2.2.2.2.2.1.1 d.2.2.2.2.2.2.2.2.1.2.2.length d.2.2.2.2.2.2.2.2.1.2.1,.slice d.2.2.2.2.2.2.2.2.2.1.1 d.2.2.2.2.2.2.2.2.2.1.2.2.length d.2.2.2.2.2.2.2.2.2.1.2.1,.slice d.2.2.2.2.2.2.2.2.2.2.1 d.2.2.2.2.2.2.2.2.2.2.2.2.length d.2.2.2.2.2.2.2.2.2.2.2.1] 35)=V := ⟨_,rfl⟩
 have TA:Blk w.heap.size [.slice d.1.1.1 d.1.1.2.2.length d.1.1.2.1,.slice d.1.2.1.1 d.1.2.1.2.2.length d.1.2.1.2.1,.slice d.1.2.2.1.1 d.1.2.2.1.2.2.length d.1.2.2.1.2.1,.slice d.1.2.2.2.1.1 d.1.2.2.2.1.2.2.length d.1.2.2.2.1.2.1,.int .i64 d.1.2.2.2.2,.int .i64 d.2.1,.int .i64 d.2.2.1,.slice d.2.2.2.1.1 d.2.2.2.1.2.2.length d.2.2.2.1.2.1,.slice d.2.2.2.2.1.1.1 d.2.2.2.2.1.1.2.2.length d.2.2.2.2.1.1.2.1,.slice d.2.2.2.2.1.2.1 d.2.2.2.2.1.2.2.2.length d.2.2.2.2.1.2.2.1,.slice d.2.2.2.2.2.1.1 d.2.2.2.2.2.1.2.2.length d.2.2.2.2.2.1.2.1,.slice d.2.2.2.2.2.2.1.1 d.2.2.2.2.2.2.1.2.2.length d.2.2.2.2.2.2.1.2.1,.slice d.2.2.2.2.2.2.2.1.1 d.2.2.2.2.2.2.2.1.2.2.length d.2.2.2.2.2.2.2.1.2.1,.slice d.2.2.2.2.2.2.2.2.1.1 d.2.2.2.2.2.2.2.2.1.2.2.length d.2.2.2.2.2.2.2.2.1.2.1,.slice d.2.2.2.2.2.2.2.2.2.1.1 d.2.2.2.2.2.2.2.2.2.1.2.2.length d.2.2.2.2.2.2.2.2.2.1.2.1,.slice d.2.2.2.2.2.2.2.2.2.2.1 d.2.2.2.2.2.2.2.2.2.2.2.2.length d.2.2.2.2.2.2.2.2.2.2.2.1] V := by rw [← hV];exact Blk.new _ _ _
 have BC:Below w.heap.size w V := by rw [← hV];exact (Below.refl _ _).alloc (Nat.le_refl _) _
 have K0 := szD_is d 1048576 V (Nat.le_refl _) (hd.later BC) hl
 go_enter Tryz.func5,Tryz.ntmps5
 go_wp2_with (first | (refine wpList_ldB 35 _ w.heap.size 0 _ [.slice d.1.1.1 d.1.1.2.2.length d.1.1.2.1,.slice d.1.2.1.1 d.1.2.1.2.2.length d.1.2.1.2.1,.slice d.1.2.2.1.1 d.1.2.2.1.2.2.length d.1.2.2.1.2.1,.slice d.1.2.2.2.1.1 d.1.2.2.2.1.2.2.length d.1.2.2.2.1.2.1,.int .i64 d.1.2.2.2.2,.int .i64 d.2.1,.int .i64 d.2.2.1,.slice d.2.2.2.1.1 d.2.2.2.1.2.2.length d.2.2.2.1.2.1,.slice d.2.2.2.2.1.1.1 d.2.2.2.2.1.1.2.2.length d.2.2.2.2.1.1.2.1,.slice d.2.2.2.2.1.2.1 d.2.2.2.2.1.2.2.2.length d.2.2.2.2.1.2.2.1,.slice d.2.2.2.2.2.1.1 d.2.2.2.2.2.1.2.2.length d.2.2.2.2.2.1.2.1,.slice d.2.2.2.2.2.2.1.1 d.2.2.2.2.2.2.1.2.2.length d.2.2.2.2.2.2.1.2.1,.slice d.2.2.2.2.2.2.2.1.1 d.2.2.2.2.2.2.2.1.2.2.length d.2.2.2.2.2.2.2.1.2.1,.slice d.2.2.2.2.2.2.2.2.1.1 d.2.2.2.2.2.2.2.2.1.2.2.length d.2.2.2.2.2.2.2.2.1.2.1,.slice d.2.2.2.2.2.2.2.2.2.1.1 d.2.2.2.2.2.2.2.2.2.1.2.2.length d.2.2.2.2.2.2.2.2.2.1.2.1,.slice d.2.2.2.2.2.2.2.2.2.2.1 d.2.2.2.2.2.2.2.2.2.2.2.2.length d.2.2.2.2.2.2.2.2.2.2.2.1] il hil (Tryz.isAgg35) TA hils.symm rfl rfl rfl rfl ?_;try simp only [Act.put]))
 refine K0.mono ?_
 clear K0 hV
 rintro en v0 ⟨rfl,hb⟩
 replace TA := TA.later hb (World.block_lt_of_cell? _ _ (TA.at 0 rfl))
 replace BC := BC.trans (hb.mono BC.size)
 clear hb
 by_cases hz:totD d≤1048576
 ·rw [show szV (totD d) 1048576=((1048576 - totD d:Nat):Int) from if_pos hz]
  have nz:¬ (((1048576 - totD d:Nat):Int) < 0) := by omega
  generalize ((1048576 - totD d:Nat):Int)=lf at nz
  have K1 := toD_is d v0 (hd.later BC) hz
  go_wp2_with (first | (refine wpList_ldB 35 _ w.heap.size 0 _ [.slice d.1.1.1 d.1.1.2.2.length d.1.1.2.1,.slice d.1.2.1.1 d.1.2.1.2.2.length d.1.2.1.2.1,.slice d.1.2.2.1.1 d.1.2.2.1.2.2.length d.1.2.2.1.2.1,.slice d.1.2.2.2.1.1 d.1.2.2.2.1.2.2.length d.1.2.2.2.1.2.1,.int .i64 d.1.2.2.2.2,.int .i64 d.2.1,.int .i64 d.2.2.1,.slice d.2.2.2.1.1 d.2.2.2.1.2.2.length d.2.2.2.1.2.1,.slice d.2.2.2.2.1.1.1 d.2.2.2.2.1.1.2.2.length d.2.2.2.2.1.1.2.1,.slice d.2.2.2.2.1.2.1 d.2.2.2.2.1.2.2.2.length d.2.2.2.2.1.2.2.1,.slice d.2.2.2.2.2.1.1 d.2.2.2.2.2.1.2.2.length d.2.2.2.2.2.1.2.1,.slice d.2.2.2.2.2.2.1.1 d.2.2.2.2.2.2.1.2.2.length d.2.2.2.2.2.2.1.2.1,.slice d.2.2.2.2.2.2.2.1.1 d.2.2.2.2.2.2.2.1.2.2.length d.2.2.2.2.2.2.2.1.2.1,.slice d.2.2.2.2.2.2.2.2.1.1 d.2.2.2.2.2.2.2.2.1.2.2.length d.2.2.2.2.2.2.2.2.1.2.1,.slice d.2.2.2.2.2.2.2.2.2.1.1 d.2.2.2.2.2.2.2.2.2.1.2.2.length d.2.2.2.2.2.2.2.2.2.1.2.1,.slice d.2.2.2.2.2.2.2.2.2.2.1 d.2.2.2.2.2.2.2.2.2.2.2.2.length d.2.2.2.2.2.2.2.2.2.2.2.1] il hil (Tryz.isAgg35) TA hils.symm rfl rfl rfl rfl ?_;try simp only [Act.put]))
  refine K1.mono ?_
  clear K1 nz
  rintro en v1 ⟨y1,rfl,s1,o1,hb⟩
  replace TA := TA.later hb (World.block_lt_of_cell? _ _ (TA.at 0 rfl))
  replace BC := BC.trans (hb.mono BC.size)
  clear hb
  have K2 := specAuth_is _ y1 v1 (wd_of o1 s1 hz hk)
  rw [wok_st s1,au_st s1] at K2
  go_wp2_with fail
  refine K2.mono ?_
  clear K2 o1 s1
  rintro en v2 ⟨rfl,hb⟩
  replace TA := TA.later hb (World.block_lt_of_cell? _ _ (TA.at 0 rfl))
  replace BC := BC.trans (hb.mono BC.size)
  clear hb
  have K3 := toD_is d v2 (hd.later BC) hz
  go_wp2_with (first | (refine wpList_ldB 35 _ w.heap.size 0 _ [.slice d.1.1.1 d.1.1.2.2.length d.1.1.2.1,.slice d.1.2.1.1 d.1.2.1.2.2.length d.1.2.1.2.1,.slice d.1.2.2.1.1 d.1.2.2.1.2.2.length d.1.2.2.1.2.1,.slice d.1.2.2.2.1.1 d.1.2.2.2.1.2.2.length d.1.2.2.2.1.2.1,.int .i64 d.1.2.2.2.2,.int .i64 d.2.1,.int .i64 d.2.2.1,.slice d.2.2.2.1.1 d.2.2.2.1.2.2.length d.2.2.2.1.2.1,.slice d.2.2.2.2.1.1.1 d.2.2.2.2.1.1.2.2.length d.2.2.2.2.1.1.2.1,.slice d.2.2.2.2.1.2.1 d.2.2.2.2.1.2.2.2.length d.2.2.2.2.1.2.2.1,.slice d.2.2.2.2.2.1.1 d.2.2.2.2.2.1.2.2.length d.2.2.2.2.2.1.2.1,.slice d.2.2.2.2.2.2.1.1 d.2.2.2.2.2.2.1.2.2.length d.2.2.2.2.2.2.1.2.1,.slice d.2.2.2.2.2.2.2.1.1 d.2.2.2.2.2.2.2.1.2.2.length d.2.2.2.2.2.2.2.1.2.1,.slice d.2.2.2.2.2.2.2.2.1.1 d.2.2.2.2.2.2.2.2.1.2.2.length d.2.2.2.2.2.2.2.2.1.2.1,.slice d.2.2.2.2.2.2.2.2.2.1.1 d.2.2.2.2.2.2.2.2.2.1.2.2.length d.2.2.2.2.2.2.2.2.2.1.2.1,.slice d.2.2.2.2.2.2.2.2.2.2.1 d.2.2.2.2.2.2.2.2.2.2.2.2.length d.2.2.2.2.2.2.2.2.2.2.2.1] il hil (Tryz.isAgg35) TA hils.symm rfl rfl rfl rfl ?_;try simp only [Act.put]))
  refine K3.mono ?_
  clear K3
  rintro en v3 ⟨y2,rfl,s2,o2,hb⟩
  have hbw:w.heap.size < v2.heap.size := World.block_lt_of_cell? _ _ (TA.at 0 rfl)
  replace TA := TA.later hb (World.block_lt_of_cell? _ _ (TA.at 0 rfl))
  replace BC := BC.trans (hb.mono BC.size)
  have hs3 := hb.size
  clear hb
  obtain ⟨X0,hX0⟩:∃ X,v3.alloc (.cells #[.slice none 0 0,.slice none 0 0,.slice none 0 0,.slice none 0 0,.int .i64 0,.int .i64 0,.int .i64 0,.slice none 0 0,.slice none 0 0,.slice none 0 0,.slice none 0 0,.slice none 0 0,.slice none 0 0,.slice none 0 0,.slice none 0 0,.slice none 0 0] 48)=X := ⟨_,rfl⟩
  have R0:Blk v3.heap.size [.slice none 0 0,.slice none 0 0,.slice none 0 0,.slice none 0 0,.int .i64 0,.int .i64 0,.int .i64 0,.slice none 0 0,.slice none 0 0,.slice none 0 0,.slice none 0 0,.slice none 0 0,.slice none 0 0,.slice none 0 0,.slice none 0 0,.slice none 0 0] X0 := by rw [← hX0];exact Blk.new _ _ _
  have b0:Below v3.heap.size v3 X0 := by rw [← hX0];exact (Below.refl _ _).alloc (Nat.le_refl _) _
  obtain ⟨X1,hX1⟩:∃ X,X0.setCells v3.heap.size 0 [.slice y2.1.1.1 y2.1.1.2.2.length y2.1.1.2.1,.slice y2.1.2.1.1 y2.1.2.1.2.2.length y2.1.2.1.2.1,.slice y2.1.2.2.1.1 y2.1.2.2.1.2.2.length y2.1.2.2.1.2.1,.slice y2.1.2.2.2.1.1 y2.1.2.2.2.1.2.2.length y2.1.2.2.2.1.2.1,.int .i64 y2.1.2.2.2.2,.int .i64 y2.2.1,.int .i64 y2.2.2.1,.slice y2.2.2.2.1.1 y2.2.2.2.1.2.2.length y2.2.2.2.1.2.1,.slice y2.2.2.2.2.1.1.1 y2.2.2.2.2.1.1.2.2.length y2.2.2.2.2.1.1.2.1,.slice y2.2.2.2.2.1.2.1 y2.2.2.2.2.1.2.2.2.length y2.2.2.2.2.1.2.2.1,.slice y2.2.2.2.2.2.1.1 y2.2.2.2.2.2.1.2.2.length y2.2.2.2.2.2.1.2.1,.slice y2.2.2.2.2.2.2.1.1 y2.2.2.2.2.2.2.1.2.2.length y2.2.2.2.2.2.2.1.2.1,.slice y2.2.2.2.2.2.2.2.1.1 y2.2.2.2.2.2.2.2.1.2.2.length y2.2.2.2.2.2.2.2.1.2.1,.slice y2.2.2.2.2.2.2.2.2.1.1 y2.2.2.2.2.2.2.2.2.1.2.2.length y2.2.2.2.2.2.2.2.2.1.2.1,.slice y2.2.2.2.2.2.2.2.2.2.1.1 y2.2.2.2.2.2.2.2.2.2.1.2.2.length y2.2.2.2.2.2.2.2.2.2.1.2.1,.slice y2.2.2.2.2.2.2.2.2.2.2.1 y2.2.2.2.2.2.2.2.2.2.2.2.2.length y2.2.2.2.2.2.2.2.2.2.2.2.1]=X := ⟨_,rfl⟩
  have TX:Blk v3.heap.size [.slice y2.1.1.1 y2.1.1.2.2.length y2.1.1.2.1,.slice y2.1.2.1.1 y2.1.2.1.2.2.length y2.1.2.1.2.1,.slice y2.1.2.2.1.1 y2.1.2.2.1.2.2.length y2.1.2.2.1.2.1,.slice y2.1.2.2.2.1.1 y2.1.2.2.2.1.2.2.length y2.1.2.2.2.1.2.1,.int .i64 y2.1.2.2.2.2,.int .i64 y2.2.1,.int .i64 y2.2.2.1,.slice y2.2.2.2.1.1 y2.2.2.2.1.2.2.length y2.2.2.2.1.2.1,.slice y2.2.2.2.2.1.1.1 y2.2.2.2.2.1.1.2.2.length y2.2.2.2.2.1.1.2.1,.slice y2.2.2.2.2.1.2.1 y2.2.2.2.2.1.2.2.2.length y2.2.2.2.2.1.2.2.1,.slice y2.2.2.2.2.2.1.1 y2.2.2.2.2.2.1.2.2.length y2.2.2.2.2.2.1.2.1,.slice y2.2.2.2.2.2.2.1.1 y2.2.2.2.2.2.2.1.2.2.length y2.2.2.2.2.2.2.1.2.1,.slice y2.2.2.2.2.2.2.2.1.1 y2.2.2.2.2.2.2.2.1.2.2.length y2.2.2.2.2.2.2.2.1.2.1,.slice y2.2.2.2.2.2.2.2.2.1.1 y2.2.2.2.2.2.2.2.2.1.2.2.length y2.2.2.2.2.2.2.2.2.1.2.1,.slice y2.2.2.2.2.2.2.2.2.2.1.1 y2.2.2.2.2.2.2.2.2.2.1.2.2.length y2.2.2.2.2.2.2.2.2.2.1.2.1,.slice y2.2.2.2.2.2.2.2.2.2.2.1 y2.2.2.2.2.2.2.2.2.2.2.2.2.length y2.2.2.2.2.2.2.2.2.2.2.2.1] X1 := by rw [← hX1];exact R0.sets _ rfl
  have b1:Below v3.heap.size v3 X1 := by rw [← hX1];exact below_sets (Nat.le_refl _) _ _ _ b0
  replace TA := TA.later b1 (World.block_lt_of_cell? _ _ (TA.at 0 rfl))
  replace BC := BC.trans (b1.mono BC.size)
  replace o2 := o2.later b1
  have K4 := implAuth_is _ y2 X1 (wd_of o2 s2 hz hk) (wdi_of s2 hk)
  rw [wok_st s2,au_st s2] at K4
  generalize (wokB d && d.2.2.2.2.2.2.2.2.2.1.2.2.all fun x=>evB d x)=wb at K4
  clear b1 b0
  go_wp2_with (first | (refine wpList_ldB 48 _ v3.heap.size 0 _ [.slice y2.1.1.1 y2.1.1.2.2.length y2.1.1.2.1,.slice y2.1.2.1.1 y2.1.2.1.2.2.length y2.1.2.1.2.1,.slice y2.1.2.2.1.1 y2.1.2.2.1.2.2.length y2.1.2.2.1.2.1,.slice y2.1.2.2.2.1.1 y2.1.2.2.2.1.2.2.length y2.1.2.2.2.1.2.1,.int .i64 y2.1.2.2.2.2,.int .i64 y2.2.1,.int .i64 y2.2.2.1,.slice y2.2.2.2.1.1 y2.2.2.2.1.2.2.length y2.2.2.2.1.2.1,.slice y2.2.2.2.2.1.1.1 y2.2.2.2.2.1.1.2.2.length y2.2.2.2.2.1.1.2.1,.slice y2.2.2.2.2.1.2.1 y2.2.2.2.2.1.2.2.2.length y2.2.2.2.2.1.2.2.1,.slice y2.2.2.2.2.2.1.1 y2.2.2.2.2.2.1.2.2.length y2.2.2.2.2.2.1.2.1,.slice y2.2.2.2.2.2.2.1.1 y2.2.2.2.2.2.2.1.2.2.length y2.2.2.2.2.2.2.1.2.1,.slice y2.2.2.2.2.2.2.2.1.1 y2.2.2.2.2.2.2.2.1.2.2.length y2.2.2.2.2.2.2.2.1.2.1,.slice y2.2.2.2.2.2.2.2.2.1.1 y2.2.2.2.2.2.2.2.2.1.2.2.length y2.2.2.2.2.2.2.2.2.1.2.1,.slice y2.2.2.2.2.2.2.2.2.2.1.1 y2.2.2.2.2.2.2.2.2.2.1.2.2.length y2.2.2.2.2.2.2.2.2.2.1.2.1,.slice y2.2.2.2.2.2.2.2.2.2.2.1 y2.2.2.2.2.2.2.2.2.2.2.2.2.length y2.2.2.2.2.2.2.2.2.2.2.2.1] ie hie (Tryz.isAgg48) TX his.symm rfl rfl rfl rfl ?_;try simp only [Act.put]) | (refine wpList_stB 48 _ _ v3.heap.size 0 _ [.slice y2.1.1.1 y2.1.1.2.2.length y2.1.1.2.1,.slice y2.1.2.1.1 y2.1.2.1.2.2.length y2.1.2.1.2.1,.slice y2.1.2.2.1.1 y2.1.2.2.1.2.2.length y2.1.2.2.1.2.1,.slice y2.1.2.2.2.1.1 y2.1.2.2.2.1.2.2.length y2.1.2.2.2.1.2.1,.int .i64 y2.1.2.2.2.2,.int .i64 y2.2.1,.int .i64 y2.2.2.1,.slice y2.2.2.2.1.1 y2.2.2.2.1.2.2.length y2.2.2.2.1.2.1,.slice y2.2.2.2.2.1.1.1 y2.2.2.2.2.1.1.2.2.length y2.2.2.2.2.1.1.2.1,.slice y2.2.2.2.2.1.2.1 y2.2.2.2.2.1.2.2.2.length y2.2.2.2.2.1.2.2.1,.slice y2.2.2.2.2.2.1.1 y2.2.2.2.2.2.1.2.2.length y2.2.2.2.2.2.1.2.1,.slice y2.2.2.2.2.2.2.1.1 y2.2.2.2.2.2.2.1.2.2.length y2.2.2.2.2.2.2.1.2.1,.slice y2.2.2.2.2.2.2.2.1.1 y2.2.2.2.2.2.2.2.1.2.2.length y2.2.2.2.2.2.2.2.1.2.1,.slice y2.2.2.2.2.2.2.2.2.1.1 y2.2.2.2.2.2.2.2.2.1.2.2.length y2.2.2.2.2.2.2.2.2.1.2.1,.slice y2.2.2.2.2.2.2.2.2.2.1.1 y2.2.2.2.2.2.2.2.2.2.1.2.2.length y2.2.2.2.2.2.2.2.2.2.1.2.1,.slice y2.2.2.2.2.2.2.2.2.2.2.1 y2.2.2.2.2.2.2.2.2.2.2.2.2.length y2.2.2.2.2.2.2.2.2.2.2.2.1] ie hie R0 his.symm (by simp) rfl rfl rfl rfl rfl ?_;rw [hX1]))
  refine K4.mono ?_
  clear K4 R0 hX0 hX1
  rintro en v4 ⟨rfl,hb⟩
  replace TA := TA.later hb (World.block_lt_of_cell? _ _ (TA.at 0 rfl))
  replace TX := TX.later hb (World.block_lt_of_cell? _ _ (TX.at 0 rfl))
  replace BC := BC.trans (hb.mono BC.size)
  replace o2 := o2.later hb
  clear hb
  have hne:(wb != wb)=false := by cases wb <;> rfl
  have K5 := toD_is d v4.drew ((hd.later BC).later (Below.refl _ _).drew) hz
  have lA:w.heap.size < v4.drew.heap.size := World.block_lt_of_cell? _ _ (TA.at 0 rfl)
  have lX:v3.heap.size < v4.drew.heap.size := World.block_lt_of_cell? _ _ (TX.at 0 rfl)
  go_wp2_with fail
  refine wp_region_held_drew (S := (fun U:World=>Blk w.heap.size [.slice d.1.1.1 d.1.1.2.2.length d.1.1.2.1,.slice d.1.2.1.1 d.1.2.1.2.2.length d.1.2.1.2.1,.slice d.1.2.2.1.1 d.1.2.2.1.2.2.length d.1.2.2.1.2.1,.slice d.1.2.2.2.1.1 d.1.2.2.2.1.2.2.length d.1.2.2.2.1.2.1,.int .i64 d.1.2.2.2.2,.int .i64 d.2.1,.int .i64 d.2.2.1,.slice d.2.2.2.1.1 d.2.2.2.1.2.2.length d.2.2.2.1.2.1,.slice d.2.2.2.2.1.1.1 d.2.2.2.2.1.1.2.2.length d.2.2.2.2.1.1.2.1,.slice d.2.2.2.2.1.2.1 d.2.2.2.2.1.2.2.2.length d.2.2.2.2.1.2.2.1,.slice d.2.2.2.2.2.1.1 d.2.2.2.2.2.1.2.2.length d.2.2.2.2.2.1.2.1,.slice d.2.2.2.2.2.2.1.1 d.2.2.2.2.2.2.1.2.2.length d.2.2.2.2.2.2.1.2.1,.slice d.2.2.2.2.2.2.2.1.1 d.2.2.2.2.2.2.2.1.2.2.length d.2.2.2.2.2.2.2.1.2.1,.slice d.2.2.2.2.2.2.2.2.1.1 d.2.2.2.2.2.2.2.2.1.2.2.length d.2.2.2.2.2.2.2.2.1.2.1,.slice d.2.2.2.2.2.2.2.2.2.1.1 d.2.2.2.2.2.2.2.2.2.1.2.2.length d.2.2.2.2.2.2.2.2.2.1.2.1,.slice d.2.2.2.2.2.2.2.2.2.2.1 d.2.2.2.2.2.2.2.2.2.2.2.2.length d.2.2.2.2.2.2.2.2.2.2.2.1] U∧Blk v3.heap.size [.slice y2.1.1.1 y2.1.1.2.2.length y2.1.1.2.1,.slice y2.1.2.1.1 y2.1.2.1.2.2.length y2.1.2.1.2.1,.slice y2.1.2.2.1.1 y2.1.2.2.1.2.2.length y2.1.2.2.1.2.1,.slice y2.1.2.2.2.1.1 y2.1.2.2.2.1.2.2.length y2.1.2.2.2.1.2.1,.int .i64 y2.1.2.2.2.2,.int .i64 y2.2.1,.int .i64 y2.2.2.1,.slice y2.2.2.2.1.1 y2.2.2.2.1.2.2.length y2.2.2.2.1.2.1,.slice y2.2.2.2.2.1.1.1 y2.2.2.2.2.1.1.2.2.length y2.2.2.2.2.1.1.2.1,.slice y2.2.2.2.2.1.2.1 y2.2.2.2.2.1.2.2.2.length y2.2.2.2.2.1.2.2.1,.slice y2.2.2.2.2.2.1.1 y2.2.2.2.2.2.1.2.2.length y2.2.2.2.2.2.1.2.1,.slice y2.2.2.2.2.2.2.1.1 y2.2.2.2.2.2.2.1.2.2.length y2.2.2.2.2.2.2.1.2.1,.slice y2.2.2.2.2.2.2.2.1.1 y2.2.2.2.2.2.2.2.1.2.2.length y2.2.2.2.2.2.2.2.1.2.1,.slice y2.2.2.2.2.2.2.2.2.1.1 y2.2.2.2.2.2.2.2.2.1.2.2.length y2.2.2.2.2.2.2.2.2.1.2.1,.slice y2.2.2.2.2.2.2.2.2.2.1.1 y2.2.2.2.2.2.2.2.2.2.1.2.2.length y2.2.2.2.2.2.2.2.2.2.1.2.1,.slice y2.2.2.2.2.2.2.2.2.2.2.1 y2.2.2.2.2.2.2.2.2.2.2.2.2.length y2.2.2.2.2.2.2.2.2.2.2.2.1] U)) (by kernel_rfl) ⟨TA.drew,TX.drew⟩ (fun hHeld=>?_)
  refine take_one 0 22 (v := .agg #[.slice y2.1.1.1 y2.1.1.2.2.length y2.1.1.2.1,.slice y2.1.2.1.1 y2.1.2.1.2.2.length y2.1.2.1.2.1,.slice y2.1.2.2.1.1 y2.1.2.2.1.2.2.length y2.1.2.2.1.2.1,.slice y2.1.2.2.2.1.1 y2.1.2.2.2.1.2.2.length y2.1.2.2.2.1.2.1,.int .i64 y2.1.2.2.2.2,.int .i64 y2.2.1,.int .i64 y2.2.2.1,.slice y2.2.2.2.1.1 y2.2.2.2.1.2.2.length y2.2.2.2.1.2.1,.slice y2.2.2.2.2.1.1.1 y2.2.2.2.2.1.1.2.2.length y2.2.2.2.2.1.1.2.1,.slice y2.2.2.2.2.1.2.1 y2.2.2.2.2.1.2.2.2.length y2.2.2.2.2.1.2.2.1,.slice y2.2.2.2.2.2.1.1 y2.2.2.2.2.2.1.2.2.length y2.2.2.2.2.2.1.2.1,.slice y2.2.2.2.2.2.2.1.1 y2.2.2.2.2.2.2.1.2.2.length y2.2.2.2.2.2.2.1.2.1,.slice y2.2.2.2.2.2.2.2.1.1 y2.2.2.2.2.2.2.2.1.2.2.length y2.2.2.2.2.2.2.2.1.2.1,.slice y2.2.2.2.2.2.2.2.2.1.1 y2.2.2.2.2.2.2.2.2.1.2.2.length y2.2.2.2.2.2.2.2.2.1.2.1,.slice y2.2.2.2.2.2.2.2.2.2.1.1 y2.2.2.2.2.2.2.2.2.2.1.2.2.length y2.2.2.2.2.2.2.2.2.2.1.2.1,.slice y2.2.2.2.2.2.2.2.2.2.2.1 y2.2.2.2.2.2.2.2.2.2.2.2.2.length y2.2.2.2.2.2.2.2.2.2.2.2.1]) rfl rfl (by kernel_rfl) (by kernel_rfl) (by kernel_rfl) (fun _ _ _ h=>h) (Or.inl ⟨by rfl,?_⟩) hHeld ?_
  ·intro w' hSw;(try dsimp only at hSw);obtain ⟨bA,bX⟩ := hSw;have hl := ldB (P := Tryz.prog) 48 ie hie (Tryz.isAgg48) (o := 0) [.slice y2.1.1.1 y2.1.1.2.2.length y2.1.1.2.1,.slice y2.1.2.1.1 y2.1.2.1.2.2.length y2.1.2.1.2.1,.slice y2.1.2.2.1.1 y2.1.2.2.1.2.2.length y2.1.2.2.1.2.1,.slice y2.1.2.2.2.1.1 y2.1.2.2.2.1.2.2.length y2.1.2.2.2.1.2.1,.int .i64 y2.1.2.2.2.2,.int .i64 y2.2.1,.int .i64 y2.2.2.1,.slice y2.2.2.2.1.1 y2.2.2.2.1.2.2.length y2.2.2.2.1.2.1,.slice y2.2.2.2.2.1.1.1 y2.2.2.2.2.1.1.2.2.length y2.2.2.2.2.1.1.2.1,.slice y2.2.2.2.2.1.2.1 y2.2.2.2.2.1.2.2.2.length y2.2.2.2.2.1.2.2.1,.slice y2.2.2.2.2.2.1.1 y2.2.2.2.2.2.1.2.2.length y2.2.2.2.2.2.1.2.1,.slice y2.2.2.2.2.2.2.1.1 y2.2.2.2.2.2.2.1.2.2.length y2.2.2.2.2.2.2.1.2.1,.slice y2.2.2.2.2.2.2.2.1.1 y2.2.2.2.2.2.2.2.1.2.2.length y2.2.2.2.2.2.2.2.1.2.1,.slice y2.2.2.2.2.2.2.2.2.1.1 y2.2.2.2.2.2.2.2.2.1.2.2.length y2.2.2.2.2.2.2.2.2.1.2.1,.slice y2.2.2.2.2.2.2.2.2.2.1.1 y2.2.2.2.2.2.2.2.2.2.1.2.2.length y2.2.2.2.2.2.2.2.2.2.1.2.1,.slice y2.2.2.2.2.2.2.2.2.2.2.1 y2.2.2.2.2.2.2.2.2.2.2.2.2.length y2.2.2.2.2.2.2.2.2.2.2.2.1] bX his.symm rfl;exact exec_ld 48 _ rfl rfl hl
  try simp only [Act.put,List.setIfInBounds_toArray,List.set_cons_zero,List.set_cons_succ]
  refine take_one 1 23 (v := .agg #[.slice d.1.1.1 d.1.1.2.2.length d.1.1.2.1,.slice d.1.2.1.1 d.1.2.1.2.2.length d.1.2.1.2.1,.slice d.1.2.2.1.1 d.1.2.2.1.2.2.length d.1.2.2.1.2.1,.slice d.1.2.2.2.1.1 d.1.2.2.2.1.2.2.length d.1.2.2.2.1.2.1,.int .i64 d.1.2.2.2.2,.int .i64 d.2.1,.int .i64 d.2.2.1,.slice d.2.2.2.1.1 d.2.2.2.1.2.2.length d.2.2.2.1.2.1,.slice d.2.2.2.2.1.1.1 d.2.2.2.2.1.1.2.2.length d.2.2.2.2.1.1.2.1,.slice d.2.2.2.2.1.2.1 d.2.2.2.2.1.2.2.2.length d.2.2.2.2.1.2.2.1,.slice d.2.2.2.2.2.1.1 d.2.2.2.2.2.1.2.2.length d.2.2.2.2.2.1.2.1,.slice d.2.2.2.2.2.2.1.1 d.2.2.2.2.2.2.1.2.2.length d.2.2.2.2.2.2.1.2.1,.slice d.2.2.2.2.2.2.2.1.1 d.2.2.2.2.2.2.2.1.2.2.length d.2.2.2.2.2.2.2.1.2.1,.slice d.2.2.2.2.2.2.2.2.1.1 d.2.2.2.2.2.2.2.2.1.2.2.length d.2.2.2.2.2.2.2.2.1.2.1,.slice d.2.2.2.2.2.2.2.2.2.1.1 d.2.2.2.2.2.2.2.2.2.1.2.2.length d.2.2.2.2.2.2.2.2.2.1.2.1,.slice d.2.2.2.2.2.2.2.2.2.2.1 d.2.2.2.2.2.2.2.2.2.2.2.2.length d.2.2.2.2.2.2.2.2.2.2.2.1]) rfl rfl (by kernel_rfl) (by kernel_rfl) (by kernel_rfl) (fun _ _ _ h=>h) (Or.inl ⟨by rfl,?_⟩) hHeld ?_
  ·intro w' hSw;(try dsimp only at hSw);obtain ⟨bA,bX⟩ := hSw;have hl := ldB (P := Tryz.prog) 35 il hil (Tryz.isAgg35) (o := 0) [.slice d.1.1.1 d.1.1.2.2.length d.1.1.2.1,.slice d.1.2.1.1 d.1.2.1.2.2.length d.1.2.1.2.1,.slice d.1.2.2.1.1 d.1.2.2.1.2.2.length d.1.2.2.1.2.1,.slice d.1.2.2.2.1.1 d.1.2.2.2.1.2.2.length d.1.2.2.2.1.2.1,.int .i64 d.1.2.2.2.2,.int .i64 d.2.1,.int .i64 d.2.2.1,.slice d.2.2.2.1.1 d.2.2.2.1.2.2.length d.2.2.2.1.2.1,.slice d.2.2.2.2.1.1.1 d.2.2.2.2.1.1.2.2.length d.2.2.2.2.1.1.2.1,.slice d.2.2.2.2.1.2.1 d.2.2.2.2.1.2.2.2.length d.2.2.2.2.1.2.2.1,.slice d.2.2.2.2.2.1.1 d.2.2.2.2.2.1.2.2.length d.2.2.2.2.2.1.2.1,.slice d.2.2.2.2.2.2.1.1 d.2.2.2.2.2.2.1.2.2.length d.2.2.2.2.2.2.1.2.1,.slice d.2.2.2.2.2.2.2.1.1 d.2.2.2.2.2.2.2.1.2.2.length d.2.2.2.2.2.2.2.1.2.1,.slice d.2.2.2.2.2.2.2.2.1.1 d.2.2.2.2.2.2.2.2.1.2.2.length d.2.2.2.2.2.2.2.2.1.2.1,.slice d.2.2.2.2.2.2.2.2.2.1.1 d.2.2.2.2.2.2.2.2.2.1.2.2.length d.2.2.2.2.2.2.2.2.2.1.2.1,.slice d.2.2.2.2.2.2.2.2.2.2.1 d.2.2.2.2.2.2.2.2.2.2.2.2.length d.2.2.2.2.2.2.2.2.2.2.2.1] bA hils.symm rfl;exact exec_ld 35 _ rfl rfl hl
  try simp only [Act.put,List.setIfInBounds_toArray,List.set_cons_zero,List.set_cons_succ]
  refine wpAnyH_ready (rs := [2]) (by kernel_rfl) (by simp) ?_
  refine AllReadyH.cons (i := 2) rfl (fun K hK=>?_) AllReadyH.nil
  go_simp
  refine (K5).mono ?_
  rintro en v5 ⟨y3,rfl,s3,o3,hb5⟩
  clear K5
  go_wp2_with fail
  refine hK.out _ _ ⟨TA.drew.later hb5 lA,TX.drew.later hb5 lX⟩ (fun hHeld2=>?_)
  clear hK K hHeld
  have hHeld := hHeld2
  clear hHeld2
  try simp only [Act.put,List.setIfInBounds_toArray,List.set_cons_zero,List.set_cons_succ]
  refine wpAnyH_ready (rs := [3]) (by kernel_rfl) (by simp) ?_
  refine AllReadyH.cons (i := 3) rfl (fun K hK=>?_) AllReadyH.nil
  go_simp
  refine (eqD_is y2 y3 v5 ((o2.later (Below.refl _ v4).drew).later hb5).dp o3.dp (s2.trans s3.symm) (by rw [tot_st s2];exact hz)).mono ?_
  rintro en v6 ⟨rfl,hb6⟩
  go_wp2_with fail
  refine hK.out _ _ ⟨TA.drew.later (hb5.trans (hb6.mono hb5.size)) lA,TX.drew.later (hb5.trans (hb6.mono hb5.size)) lX⟩ (fun hHeld2=>?_)
  clear hK K hHeld
  have hHeld := hHeld2
  clear hHeld2
  try simp only [Act.put,List.setIfInBounds_toArray,List.set_cons_zero,List.set_cons_succ]
  refine take_one 4 26 (v := ?_) rfl rfl (by kernel_rfl) (by kernel_rfl) (by kernel_rfl) (fun _ _ _ h=>h) (Or.inl ⟨by rfl,?_⟩) hHeld ?_
  rotate_left
  ·intro w' hSw;(try dsimp only at hSw);go_simp;try with_reducible rfl
  try simp only [Act.put,List.setIfInBounds_toArray,List.set_cons_zero,List.set_cons_succ]
  refine wpAnyH_done (by kernel_rfl) ?_ _
  have BF:Below w.heap.size w v6 := BC.trans (((Below.refl _ v4).drew.trans (hb5.trans (hb6.mono hb5.size))).mono BC.size)
  clear hHeld
  go_wp2
  go_ret
  exact ⟨rfl,BF⟩
 ·rw [show szV (totD d) 1048576=-1 from if_neg hz]
  go_wp2
  go_ret
  exact ⟨rfl,BC⟩
end Go.Proofs.YtjcmbbnklfemcaaGreat.Nd
