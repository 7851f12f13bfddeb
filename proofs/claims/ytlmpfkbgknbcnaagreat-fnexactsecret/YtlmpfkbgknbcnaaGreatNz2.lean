/- Sizes of deep structs. -/
import Derived.Test.YtlmpfkbgknbcnaaGreatAb
import Derived.Test.YtlmpfkbgknbcnaaGreatNz1
set_option linter.unusedVariables false
set_option maxRecDepth 100000
namespace Go.Proofs.YtlmpfkbgknbcnaaGreat.Nd
open Go Go.RowKit Go.Joins Own Draw
set_option maxRecDepth 100000 in
set_option maxHeartbeats 3200000 in
theorem szK_is (p : TK) (n : Nat) (w : World) (hn : n ≤ 1048576) (hd : DpK w p) (hl : LmK p) : Calls Tryz.prog 61 #[vK p,I n] w fun en w' => en = .returned (I (szV (totK p) n)) ∧ Below w.heap.size w w':=by
 obtain ⟨f0,f1⟩:=p
 have HT : Hid (totK (f0,f1) = rtA f1):=(rfl : totK (f0,f1) = _)
 unfold LmK at hl
 dsimp only at hl
 have hl0:=hl
 unfold DpK at hd
 dsimp only at hd
 have hd0:=hd
 obtain ⟨V,hV⟩ : ∃ V,w.alloc (.cells #[I f0,.slice f1.1 f1.2.2.length f1.2.1] 119) = V:=⟨_,rfl⟩
 have TA : Blk w.heap.size [I f0,.slice f1.1 f1.2.2.length f1.2.1] V:=by rw [← hV]; exact Blk.new _ _ _
 have BC : Below w.heap.size w V:=by rw [← hV]; exact (Below.refl _ _).alloc (Nat.le_refl _) _
 have d1:=TA.at 1 rfl
 go_enter Tryz.func61,Tryz.ntmps61
 go_wp2_with fail
 try rw [hV]
 refine (szSA_is f1 n _ (by omega) (hd0.later BC) hl0).mono ?_
 clear hV
 rintro en v0 ⟨rfl,hb⟩
 replace TA:=TA.later hb (World.block_lt_of_cell? _ _ (TA.at 0 rfl))
 replace BC:=BC.trans (hb.mono BC.size)
 clear hb d1
 have d1:=TA.at 1 rfl
 by_cases h0 : rtA f1 ≤ n
 ·rw [show szV (rtA f1) n = ((n - rtA f1 : Nat) : Int) from if_pos h0]
  obtain ⟨q0,hq0⟩ : ∃ q : Nat,n - rtA f1 = q:=⟨_,rfl⟩
  rw [hq0]
  have g0 : ¬ ((q0 : Int) < 0):=by omega
  have gl0 : q0 ≤ 1048576:=by omega
  replace hq0 : Hid (n - rtA f1 = q0):=hq0
  have HE : Hid (szV (totK (f0,f1)) n = (q0 : Int)):=by
   have hT:=HT.out; have:=hq0.out
   show (if _ then _ else _) = _
   rw [if_pos (by omega)]; omega
  go_wp2
  go_ret
  exact ⟨by rw [HE.out]; rfl,BC⟩
 ·have HE : Hid (szV (totK (f0,f1)) n = -1):=by
   have hT:=HT.out
   show (if _ then _ else _) = _
   exact if_neg (by omega)
  rw [show szV (rtA f1) n = -1 from if_neg h0]
  go_wp2
  go_ret
  exact ⟨by rw [HE.out]; rfl,BC⟩
set_option maxRecDepth 100000 in
set_option maxHeartbeats 1600000 in
theorem szSK_is (r : Rw TK) (n : Nat) (w : World) (hn : n ≤ 1048576) (hd : RpK w r) (hl : RlK r) : Calls Tryz.prog 17 #[.slice r.1 r.2.2.length r.2.1,I n] w fun en w' => en = .returned (I (szV (rtK r) n)) ∧ Below w.heap.size w w':=by
 obtain ⟨a,cap,xs⟩:=r
 obtain ⟨hlen,hLm⟩:=hl
 dsimp only at hlen hLm ⊢
 have hr : FRow 2 cK w a xs:=hd.1
 have hDp : ∀ x ∈ xs,DpK w x:=hd.2
 have HT : Hid (rtK (a,cap,xs) = xs.length + (xs.map totK).sum):=(rfl : rtK (a,cap,xs) = _)
 unfold maxLen at hlen
 clear hd
 by_cases h0 : xs.length ≤ n
 ·obtain ⟨n1,hn1⟩ : ∃ n1,n - xs.length = n1:=⟨_,rfl⟩
  have e0 : (n : Int) - (xs.length : Int) = (n1 : Int):=by omega
  have d0 : ¬ ((n1 : Int) < 0):=by omega
  replace hn1 : Hid (n - xs.length = n1):=hn1
  go_enter Tryz.func17,Tryz.ntmps17
  go_wp2
  clear e0 d0
  go_loopw [1,5] (fun lv iv wr => ∃ k m : Nat,k ≤ xs.length ∧ iv = I k ∧ lv = I m ∧ Hid (m + ((xs.take k).map totK).sum = n1) ∧ m ≤ 1048576 ∧ Below w.heap.size w wr) (fun _ iv _ => xs.length - (intOf iv).toNat)
  case atStart => exact ⟨0,n1,by omega,rfl,rfl,(by simp : n1 + ((xs.take 0).map totK).sum = n1),(by have:=hn1.out; omega),Below.refl _ _⟩
  case round =>
  obtain ⟨k,m,hk,rfl,rfl,HM,hm,hbel⟩:=hrel
  by_cases hlt : k < xs.length
  ·have hlt2 : (k : Int) < (xs.length : Int):=by omega
   have hst : (xs.map totK).sum = ((xs.take k).map totK).sum + totK xs[k] + ((xs.drop (k + 1)).map totK).sum:=by
    conv => lhs; rw [← List.take_append_drop (k + 1) xs]
    rw [List.map_append,List.sum_append,List.take_succ_eq_append_getElem hlt,List.map_append,List.sum_append]
    simp
   have hsm : ((xs.take (k + 1)).map totK).sum = ((xs.take k).map totK).sum + totK xs[k]:=by
    rw [List.take_succ_eq_append_getElem hlt,List.map_append,List.sum_append]; simp
   obtain ⟨b1,o1,rfl,l1,hcc⟩:=hr k hlt
   have c0 : wr.cell? ⟨b1,o1 + k * 2,none⟩ = some (I xs[k].1):=(hbel.cell (p:=⟨b1,o1 + k * 2,none⟩) l1).trans (hcc 0 _ rfl)
   have c1 : wr.cell? ⟨b1,o1 + k * 2 + 1,none⟩ = some (.slice xs[k].2.1 xs[k].2.2.2.length xs[k].2.2.1):=(hbel.cell (p:=⟨b1,o1 + k * 2 + 1,none⟩) l1).trans (hcc 1 _ rfl)
   have K1:=szK_is xs[k] m wr (by omega) ((hDp _ (List.getElem_mem hlt)).later hbel) (hLm _ (List.getElem_mem hlt))
   generalize hxk : xs[k] = x at K1 hst hsm c0 c1
   clear hcc hxk
   replace hst : Hid ((xs.map totK).sum = ((xs.take k).map totK).sum + totK x + ((xs.drop (k + 1)).map totK).sum):=hst
   replace hsm : Hid (((xs.take (k + 1)).map totK).sum = ((xs.take k).map totK).sum + totK x):=hsm
   by_cases hle : totK x ≤ m
   ·have d1 : ¬ (((m - totK x : Nat) : Int) < 0):=by omega
    rw [show szV (totK x) m = ((m - totK x : Nat) : Int) from if_pos hle] at K1
    obtain ⟨m2,hm2⟩ : ∃ m2,m - totK x = m2:=⟨_,rfl⟩
    rw [hm2] at K1
    rw [hm2] at d1
    have HM2 : Hid (m2 + ((xs.take (k + 1)).map totK).sum = n1):=by have:=HM.out; have:=hsm.out; show _ = _; omega
    have hm3 : m2 ≤ 1048576:=by omega
    replace hm2 : Hid (m - totK x = m2):=hm2
    go_wp2_with fail
    refine K1.mono ?_
    clear K1
    rintro en w2 ⟨rfl,hb2⟩
    replace hbel:=hbel.trans (hb2.mono hbel.size)
    clear hb2 c0 c1
    go_wp2
    go_roundw
    case rel => exact ⟨k + 1,m2,by omega,by go_num,rfl,HM2,hm3,hbel⟩
    case measure => simp [intOf]; omega
   ·have HV : Hid (szV (rtK (some ⟨b1,o1,none⟩,cap,xs)) n = -1):=by
     have h1:=HM.out; have h2:=hst.out; have h3:=HT.out; have h4:=hn1.out
     show (if _ then _ else _) = _
     exact if_neg (by omega)
    rw [show szV (totK x) m = -1 from if_neg hle] at K1
    go_wp2_with fail
    refine K1.mono ?_
    clear K1
    rintro en w2 ⟨rfl,hb2⟩
    replace hbel:=hbel.trans (hb2.mono hbel.size)
    clear hb2 c0 c1
    go_wp2
    go_ret
    exact ⟨by rw [HV.out]; rfl,hbel⟩
  ·obtain rfl : k = xs.length:=by omega
   have HV : Hid (szV (rtK (a,cap,xs)) n = (m : Int)):=by
    have h1:=HM.out; have h3:=HT.out; have h4:=hn1.out
    rw [List.take_length] at h1
    show (if _ then _ else _) = _
    rw [if_pos (by omega)]; omega
   go_wp2
   go_ret
   exact ⟨by rw [HV.out]; rfl,hbel⟩
 ·have HV : Hid (szV (rtK (a,cap,xs)) n = -1):=by have h3:=HT.out; show (if _ then _ else _) = _; exact if_neg (by omega)
  have d0 : (n : Int) - (xs.length : Int) < 0:=by omega
  go_enter Tryz.func17,Tryz.ntmps17
  go_wp2
  go_ret
  exact ⟨by rw [HV.out]; rfl,Below.refl _ _⟩
set_option maxRecDepth 100000 in
set_option maxHeartbeats 3200000 in
theorem szQ_is (p : TQ) (n : Nat) (w : World) (hn : n ≤ 1048576) (hd : DpQ w p) (hl : LmQ p) : Calls Tryz.prog 62 #[vQ p,I n] w fun en w' => en = .returned (I (szV (totQ p) n)) ∧ Below w.heap.size w w':=by
 obtain ⟨f0,f1,f2,f3,f4,⟨f5_0,f5_1,f5_2⟩,⟨f6_0,f6_1,f6_2⟩,f7,f8,f9,f10⟩:=p
 have HT : Hid (totQ (f0,f1,f2,f3,f4,(f5_0,f5_1,f5_2),(f6_0,f6_1,f6_2),f7,f8,f9,f10) = rtI f7 + rtI f8 + f10.size):=(rfl : totQ (f0,f1,f2,f3,f4,(f5_0,f5_1,f5_2),(f6_0,f6_1,f6_2),f7,f8,f9,f10) = _)
 unfold LmQ at hl
 dsimp only at hl
 obtain ⟨hl0,hl1,hl2⟩:=hl
 unfold DpQ at hd
 dsimp only at hd
 obtain ⟨hd0,hd1⟩:=hd
 unfold maxLen at hl2
 obtain ⟨V,hV⟩ : ∃ V,w.alloc (.cells #[I f0,I f1,I f2,I f3,I f4,I f5_0,I f5_1,I f5_2,I f6_0,I f6_1,I f6_2,.slice f7.1 f7.2.2.length f7.2.1,.slice f8.1 f8.2.2.length f8.2.1,I f9,.string f10] 123) = V:=⟨_,rfl⟩
 have TA : Blk w.heap.size [I f0,I f1,I f2,I f3,I f4,I f5_0,I f5_1,I f5_2,I f6_0,I f6_1,I f6_2,.slice f7.1 f7.2.2.length f7.2.1,.slice f8.1 f8.2.2.length f8.2.1,I f9,.string f10] V:=by rw [← hV]; exact Blk.new _ _ _
 have BC : Below w.heap.size w V:=by rw [← hV]; exact (Below.refl _ _).alloc (Nat.le_refl _) _
 have d11:=TA.at 11 rfl
 have d12:=TA.at 12 rfl
 have d14:=TA.at 14 rfl
 go_enter Tryz.func62,Tryz.ntmps62
 go_wp2_with fail
 try rw [hV]
 refine (szSI_is f7 n _ (by omega) (hd0.later BC) hl0).mono ?_
 clear hV
 rintro en v0 ⟨rfl,hb⟩
 replace TA:=TA.later hb (World.block_lt_of_cell? _ _ (TA.at 0 rfl))
 replace BC:=BC.trans (hb.mono BC.size)
 clear hb d11 d12 d14
 have d11:=TA.at 11 rfl
 have d12:=TA.at 12 rfl
 have d14:=TA.at 14 rfl
 by_cases h0 : rtI f7 ≤ n
 ·rw [show szV (rtI f7) n = ((n - rtI f7 : Nat) : Int) from if_pos h0]
  obtain ⟨q0,hq0⟩ : ∃ q : Nat,n - rtI f7 = q:=⟨_,rfl⟩
  rw [hq0]
  have g0 : ¬ ((q0 : Int) < 0):=by omega
  have gl0 : q0 ≤ 1048576:=by omega
  replace hq0 : Hid (n - rtI f7 = q0):=hq0
  go_wp2_with fail
  try rw [hV]
  refine (szSI_is f8 q0 _ (by omega) (hd1.later BC) hl1).mono ?_
  rintro en v1 ⟨rfl,hb⟩
  replace TA:=TA.later hb (World.block_lt_of_cell? _ _ (TA.at 0 rfl))
  replace BC:=BC.trans (hb.mono BC.size)
  clear hb d11 d12 d14
  have d11:=TA.at 11 rfl
  have d12:=TA.at 12 rfl
  have d14:=TA.at 14 rfl
  by_cases h1 : rtI f8 ≤ q0
  ·rw [show szV (rtI f8) q0 = ((q0 - rtI f8 : Nat) : Int) from if_pos h1]
   obtain ⟨q1,hq1⟩ : ∃ q : Nat,q0 - rtI f8 = q:=⟨_,rfl⟩
   rw [hq1]
   have g1 : ¬ ((q1 : Int) < 0):=by omega
   have gl1 : q1 ≤ 1048576:=by omega
   replace hq1 : Hid (q0 - rtI f8 = q1):=hq1
   by_cases h2 : f10.size ≤ q1
   ·obtain ⟨q2,hq2⟩ : ∃ q : Nat,q1 - f10.size = q:=⟨_,rfl⟩
    have e2 : (q1 : Int) - (f10.size : Int) = (q2 : Int):=by omega
    have g2 : ¬ ((q2 : Int) < 0):=by omega
    have gl2 : q2 ≤ 1048576:=by omega
    replace hq2 : Hid (q1 - f10.size = q2):=hq2
    have HE : Hid (szV (totQ (f0,f1,f2,f3,f4,(f5_0,f5_1,f5_2),(f6_0,f6_1,f6_2),f7,f8,f9,f10)) n = (q2 : Int)):=by
     have hT:=HT.out; have:=hq0.out; have:=hq1.out; have:=hq2.out
     show (if _ then _ else _) = _
     rw [if_pos (by omega)]; omega
    go_wp2
    go_ret
    exact ⟨by rw [HE.out]; rfl,BC⟩
   ·have HE : Hid (szV (totQ (f0,f1,f2,f3,f4,(f5_0,f5_1,f5_2),(f6_0,f6_1,f6_2),f7,f8,f9,f10)) n = -1):=by
     have hT:=HT.out; have:=hq0.out; have:=hq1.out
     show (if _ then _ else _) = _
     exact if_neg (by omega)
    have e2 : (q1 : Int) - (f10.size : Int) < 0:=by omega
    go_wp2
    go_ret
    exact ⟨by rw [HE.out]; rfl,BC⟩
  ·have HE : Hid (szV (totQ (f0,f1,f2,f3,f4,(f5_0,f5_1,f5_2),(f6_0,f6_1,f6_2),f7,f8,f9,f10)) n = -1):=by
    have hT:=HT.out; have:=hq0.out
    show (if _ then _ else _) = _
    exact if_neg (by omega)
   rw [show szV (rtI f8) q0 = -1 from if_neg h1]
   go_wp2
   go_ret
   exact ⟨by rw [HE.out]; rfl,BC⟩
 ·have HE : Hid (szV (totQ (f0,f1,f2,f3,f4,(f5_0,f5_1,f5_2),(f6_0,f6_1,f6_2),f7,f8,f9,f10)) n = -1):=by
   have hT:=HT.out
   show (if _ then _ else _) = _
   exact if_neg (by omega)
  rw [show szV (rtI f7) n = -1 from if_neg h0]
  go_wp2
  go_ret
  exact ⟨by rw [HE.out]; rfl,BC⟩
set_option maxRecDepth 100000 in
set_option maxHeartbeats 1600000 in
theorem szSQ_is (r : Rw TQ) (n : Nat) (w : World) (hn : n ≤ 1048576) (hd : RpQ w r) (hl : RlQ r) : Calls Tryz.prog 19 #[.slice r.1 r.2.2.length r.2.1,I n] w fun en w' => en = .returned (I (szV (rtQ r) n)) ∧ Below w.heap.size w w':=by
 obtain ⟨a,cap,xs⟩:=r
 obtain ⟨hlen,hLm⟩:=hl
 dsimp only at hlen hLm ⊢
 have hr : FRow 15 cQ w a xs:=hd.1
 have hDp : ∀ x ∈ xs,DpQ w x:=hd.2
 have HT : Hid (rtQ (a,cap,xs) = xs.length + (xs.map totQ).sum):=(rfl : rtQ (a,cap,xs) = _)
 unfold maxLen at hlen
 clear hd
 by_cases h0 : xs.length ≤ n
 ·obtain ⟨n1,hn1⟩ : ∃ n1,n - xs.length = n1:=⟨_,rfl⟩
  have e0 : (n : Int) - (xs.length : Int) = (n1 : Int):=by omega
  have d0 : ¬ ((n1 : Int) < 0):=by omega
  replace hn1 : Hid (n - xs.length = n1):=hn1
  go_enter Tryz.func19,Tryz.ntmps19
  go_wp2
  clear e0 d0
  go_loopw [1,5] (fun lv iv wr => ∃ k m : Nat,k ≤ xs.length ∧ iv = I k ∧ lv = I m ∧ Hid (m + ((xs.take k).map totQ).sum = n1) ∧ m ≤ 1048576 ∧ Below w.heap.size w wr) (fun _ iv _ => xs.length - (intOf iv).toNat)
  case atStart => exact ⟨0,n1,by omega,rfl,rfl,(by simp : n1 + ((xs.take 0).map totQ).sum = n1),(by have:=hn1.out; omega),Below.refl _ _⟩
  case round =>
  obtain ⟨k,m,hk,rfl,rfl,HM,hm,hbel⟩:=hrel
  by_cases hlt : k < xs.length
  ·have hlt2 : (k : Int) < (xs.length : Int):=by omega
   have hst : (xs.map totQ).sum = ((xs.take k).map totQ).sum + totQ xs[k] + ((xs.drop (k + 1)).map totQ).sum:=by
    conv => lhs; rw [← List.take_append_drop (k + 1) xs]
    rw [List.map_append,List.sum_append,List.take_succ_eq_append_getElem hlt,List.map_append,List.sum_append]
    simp
   have hsm : ((xs.take (k + 1)).map totQ).sum = ((xs.take k).map totQ).sum + totQ xs[k]:=by
    rw [List.take_succ_eq_append_getElem hlt,List.map_append,List.sum_append]; simp
   obtain ⟨b1,o1,rfl,l1,hcc⟩:=hr k hlt
   have c0 : wr.cell? ⟨b1,o1 + k * 15,none⟩ = some (I xs[k].1):=(hbel.cell (p:=⟨b1,o1 + k * 15,none⟩) l1).trans (hcc 0 _ rfl)
   have c1 : wr.cell? ⟨b1,o1 + k * 15 + 1,none⟩ = some (I xs[k].2.1):=(hbel.cell (p:=⟨b1,o1 + k * 15 + 1,none⟩) l1).trans (hcc 1 _ rfl)
   have c2 : wr.cell? ⟨b1,o1 + k * 15 + 2,none⟩ = some (I xs[k].2.2.1):=(hbel.cell (p:=⟨b1,o1 + k * 15 + 2,none⟩) l1).trans (hcc 2 _ rfl)
   have c3 : wr.cell? ⟨b1,o1 + k * 15 + 3,none⟩ = some (I xs[k].2.2.2.1):=(hbel.cell (p:=⟨b1,o1 + k * 15 + 3,none⟩) l1).trans (hcc 3 _ rfl)
   have c4 : wr.cell? ⟨b1,o1 + k * 15 + 4,none⟩ = some (I xs[k].2.2.2.2.1):=(hbel.cell (p:=⟨b1,o1 + k * 15 + 4,none⟩) l1).trans (hcc 4 _ rfl)
   have c5 : wr.cell? ⟨b1,o1 + k * 15 + 5,none⟩ = some (I xs[k].2.2.2.2.2.1.1):=(hbel.cell (p:=⟨b1,o1 + k * 15 + 5,none⟩) l1).trans (hcc 5 _ rfl)
   have c6 : wr.cell? ⟨b1,o1 + k * 15 + 6,none⟩ = some (I xs[k].2.2.2.2.2.1.2.1):=(hbel.cell (p:=⟨b1,o1 + k * 15 + 6,none⟩) l1).trans (hcc 6 _ rfl)
   have c7 : wr.cell? ⟨b1,o1 + k * 15 + 7,none⟩ = some (I xs[k].2.2.2.2.2.1.2.2):=(hbel.cell (p:=⟨b1,o1 + k * 15 + 7,none⟩) l1).trans (hcc 7 _ rfl)
   have c8 : wr.cell? ⟨b1,o1 + k * 15 + 8,none⟩ = some (I xs[k].2.2.2.2.2.2.1.1):=(hbel.cell (p:=⟨b1,o1 + k * 15 + 8,none⟩) l1).trans (hcc 8 _ rfl)
   have c9 : wr.cell? ⟨b1,o1 + k * 15 + 9,none⟩ = some (I xs[k].2.2.2.2.2.2.1.2.1):=(hbel.cell (p:=⟨b1,o1 + k * 15 + 9,none⟩) l1).trans (hcc 9 _ rfl)
   have c10 : wr.cell? ⟨b1,o1 + k * 15 + 10,none⟩ = some (I xs[k].2.2.2.2.2.2.1.2.2):=(hbel.cell (p:=⟨b1,o1 + k * 15 + 10,none⟩) l1).trans (hcc 10 _ rfl)
   have c11 : wr.cell? ⟨b1,o1 + k * 15 + 11,none⟩ = some (.slice xs[k].2.2.2.2.2.2.2.1.1 xs[k].2.2.2.2.2.2.2.1.2.2.length xs[k].2.2.2.2.2.2.2.1.2.1):=(hbel.cell (p:=⟨b1,o1 + k * 15 + 11,none⟩) l1).trans (hcc 11 _ rfl)
   have c12 : wr.cell? ⟨b1,o1 + k * 15 + 12,none⟩ = some (.slice xs[k].2.2.2.2.2.2.2.2.1.1 xs[k].2.2.2.2.2.2.2.2.1.2.2.length xs[k].2.2.2.2.2.2.2.2.1.2.1):=(hbel.cell (p:=⟨b1,o1 + k * 15 + 12,none⟩) l1).trans (hcc 12 _ rfl)
   have c13 : wr.cell? ⟨b1,o1 + k * 15 + 13,none⟩ = some (I xs[k].2.2.2.2.2.2.2.2.2.1):=(hbel.cell (p:=⟨b1,o1 + k * 15 + 13,none⟩) l1).trans (hcc 13 _ rfl)
   have c14 : wr.cell? ⟨b1,o1 + k * 15 + 14,none⟩ = some (.string xs[k].2.2.2.2.2.2.2.2.2.2):=(hbel.cell (p:=⟨b1,o1 + k * 15 + 14,none⟩) l1).trans (hcc 14 _ rfl)
   have K1:=szQ_is xs[k] m wr (by omega) ((hDp _ (List.getElem_mem hlt)).later hbel) (hLm _ (List.getElem_mem hlt))
   generalize hxk : xs[k] = x at K1 hst hsm c0 c1 c2 c3 c4 c5 c6 c7 c8 c9 c10 c11 c12 c13 c14
   clear hcc hxk
   replace hst : Hid ((xs.map totQ).sum = ((xs.take k).map totQ).sum + totQ x + ((xs.drop (k + 1)).map totQ).sum):=hst
   replace hsm : Hid (((xs.take (k + 1)).map totQ).sum = ((xs.take k).map totQ).sum + totQ x):=hsm
   by_cases hle : totQ x ≤ m
   ·have d1 : ¬ (((m - totQ x : Nat) : Int) < 0):=by omega
    rw [show szV (totQ x) m = ((m - totQ x : Nat) : Int) from if_pos hle] at K1
    obtain ⟨m2,hm2⟩ : ∃ m2,m - totQ x = m2:=⟨_,rfl⟩
    rw [hm2] at K1
    rw [hm2] at d1
    have HM2 : Hid (m2 + ((xs.take (k + 1)).map totQ).sum = n1):=by have:=HM.out; have:=hsm.out; show _ = _; omega
    have hm3 : m2 ≤ 1048576:=by omega
    replace hm2 : Hid (m - totQ x = m2):=hm2
    go_wp2_with fail
    refine K1.mono ?_
    clear K1
    rintro en w2 ⟨rfl,hb2⟩
    replace hbel:=hbel.trans (hb2.mono hbel.size)
    clear hb2 c0 c1 c2 c3 c4 c5 c6 c7 c8 c9 c10 c11 c12 c13 c14
    go_wp2
    go_roundw
    case rel => exact ⟨k + 1,m2,by omega,by go_num,rfl,HM2,hm3,hbel⟩
    case measure => simp [intOf]; omega
   ·have HV : Hid (szV (rtQ (some ⟨b1,o1,none⟩,cap,xs)) n = -1):=by
     have h1:=HM.out; have h2:=hst.out; have h3:=HT.out; have h4:=hn1.out
     show (if _ then _ else _) = _
     exact if_neg (by omega)
    rw [show szV (totQ x) m = -1 from if_neg hle] at K1
    go_wp2_with fail
    refine K1.mono ?_
    clear K1
    rintro en w2 ⟨rfl,hb2⟩
    replace hbel:=hbel.trans (hb2.mono hbel.size)
    clear hb2 c0 c1 c2 c3 c4 c5 c6 c7 c8 c9 c10 c11 c12 c13 c14
    go_wp2
    go_ret
    exact ⟨by rw [HV.out]; rfl,hbel⟩
  ·obtain rfl : k = xs.length:=by omega
   have HV : Hid (szV (rtQ (a,cap,xs)) n = (m : Int)):=by
    have h1:=HM.out; have h3:=HT.out; have h4:=hn1.out
    rw [List.take_length] at h1
    show (if _ then _ else _) = _
    rw [if_pos (by omega)]; omega
   go_wp2
   go_ret
   exact ⟨by rw [HV.out]; rfl,hbel⟩
 ·have HV : Hid (szV (rtQ (a,cap,xs)) n = -1):=by have h3:=HT.out; show (if _ then _ else _) = _; exact if_neg (by omega)
  have d0 : (n : Int) - (xs.length : Int) < 0:=by omega
  go_enter Tryz.func19,Tryz.ntmps19
  go_wp2
  go_ret
  exact ⟨by rw [HV.out]; rfl,Below.refl _ _⟩
set_option maxRecDepth 100000 in
set_option maxHeartbeats 3200000 in
theorem szF_is (p : TF) (n : Nat) (w : World) (hn : n ≤ 1048576) (hd : DpF w p) (hl : LmF p) : Calls Tryz.prog 12 #[vF p,I n] w fun en w' => en = .returned (I (szV (totF p) n)) ∧ Below w.heap.size w w':=by
 obtain ⟨f0,f1,f2,f3,f4⟩:=p
 have HT : Hid (totF (f0,f1,f2,f3,f4) = rtI f0 + rtI f1 + rtP f2 + rtP f3):=(rfl : totF (f0,f1,f2,f3,f4) = _)
 unfold LmF at hl
 dsimp only at hl
 obtain ⟨hl0,hl1,hl2,hl3⟩:=hl
 unfold DpF at hd
 dsimp only at hd
 obtain ⟨hd0,hd1,hd2,hd3⟩:=hd
 obtain ⟨V,hV⟩ : ∃ V,w.alloc (.cells #[.slice f0.1 f0.2.2.length f0.2.1,.slice f1.1 f1.2.2.length f1.2.1,.slice f2.1 f2.2.2.length f2.2.1,.slice f3.1 f3.2.2.length f3.2.1,I f4] 25) = V:=⟨_,rfl⟩
 have TA : Blk w.heap.size [.slice f0.1 f0.2.2.length f0.2.1,.slice f1.1 f1.2.2.length f1.2.1,.slice f2.1 f2.2.2.length f2.2.1,.slice f3.1 f3.2.2.length f3.2.1,I f4] V:=by rw [← hV]; exact Blk.new _ _ _
 have BC : Below w.heap.size w V:=by rw [← hV]; exact (Below.refl _ _).alloc (Nat.le_refl _) _
 have d0:=TA.at 0 rfl
 have d1:=TA.at 1 rfl
 have d2:=TA.at 2 rfl
 have d3:=TA.at 3 rfl
 go_enter Tryz.func12,Tryz.ntmps12
 go_wp2_with fail
 try rw [hV]
 refine (szSI_is f0 n _ (by omega) (hd0.later BC) hl0).mono ?_
 clear hV
 rintro en v0 ⟨rfl,hb⟩
 replace TA:=TA.later hb (World.block_lt_of_cell? _ _ (TA.at 0 rfl))
 replace BC:=BC.trans (hb.mono BC.size)
 clear hb d0 d1 d2 d3
 have d0:=TA.at 0 rfl
 have d1:=TA.at 1 rfl
 have d2:=TA.at 2 rfl
 have d3:=TA.at 3 rfl
 by_cases h0 : rtI f0 ≤ n
 ·rw [show szV (rtI f0) n = ((n - rtI f0 : Nat) : Int) from if_pos h0]
  obtain ⟨q0,hq0⟩ : ∃ q : Nat,n - rtI f0 = q:=⟨_,rfl⟩
  rw [hq0]
  have g0 : ¬ ((q0 : Int) < 0):=by omega
  have gl0 : q0 ≤ 1048576:=by omega
  replace hq0 : Hid (n - rtI f0 = q0):=hq0
  go_wp2_with fail
  try rw [hV]
  refine (szSI_is f1 q0 _ (by omega) (hd1.later BC) hl1).mono ?_
  rintro en v1 ⟨rfl,hb⟩
  replace TA:=TA.later hb (World.block_lt_of_cell? _ _ (TA.at 0 rfl))
  replace BC:=BC.trans (hb.mono BC.size)
  clear hb d0 d1 d2 d3
  have d0:=TA.at 0 rfl
  have d1:=TA.at 1 rfl
  have d2:=TA.at 2 rfl
  have d3:=TA.at 3 rfl
  by_cases h1 : rtI f1 ≤ q0
  ·rw [show szV (rtI f1) q0 = ((q0 - rtI f1 : Nat) : Int) from if_pos h1]
   obtain ⟨q1,hq1⟩ : ∃ q : Nat,q0 - rtI f1 = q:=⟨_,rfl⟩
   rw [hq1]
   have g1 : ¬ ((q1 : Int) < 0):=by omega
   have gl1 : q1 ≤ 1048576:=by omega
   replace hq1 : Hid (q0 - rtI f1 = q1):=hq1
   go_wp2_with fail
   try rw [hV]
   refine (szSP_is f2 q1 _ (by omega) (hd2.later BC) hl2).mono ?_
   rintro en v2 ⟨rfl,hb⟩
   replace TA:=TA.later hb (World.block_lt_of_cell? _ _ (TA.at 0 rfl))
   replace BC:=BC.trans (hb.mono BC.size)
   clear hb d0 d1 d2 d3
   have d0:=TA.at 0 rfl
   have d1:=TA.at 1 rfl
   have d2:=TA.at 2 rfl
   have d3:=TA.at 3 rfl
   by_cases h2 : rtP f2 ≤ q1
   ·rw [show szV (rtP f2) q1 = ((q1 - rtP f2 : Nat) : Int) from if_pos h2]
    obtain ⟨q2,hq2⟩ : ∃ q : Nat,q1 - rtP f2 = q:=⟨_,rfl⟩
    rw [hq2]
    have g2 : ¬ ((q2 : Int) < 0):=by omega
    have gl2 : q2 ≤ 1048576:=by omega
    replace hq2 : Hid (q1 - rtP f2 = q2):=hq2
    go_wp2_with fail
    try rw [hV]
    refine (szSP_is f3 q2 _ (by omega) (hd3.later BC) hl3).mono ?_
    rintro en v3 ⟨rfl,hb⟩
    replace TA:=TA.later hb (World.block_lt_of_cell? _ _ (TA.at 0 rfl))
    replace BC:=BC.trans (hb.mono BC.size)
    clear hb d0 d1 d2 d3
    have d0:=TA.at 0 rfl
    have d1:=TA.at 1 rfl
    have d2:=TA.at 2 rfl
    have d3:=TA.at 3 rfl
    by_cases h3 : rtP f3 ≤ q2
    ·rw [show szV (rtP f3) q2 = ((q2 - rtP f3 : Nat) : Int) from if_pos h3]
     obtain ⟨q3,hq3⟩ : ∃ q : Nat,q2 - rtP f3 = q:=⟨_,rfl⟩
     rw [hq3]
     have g3 : ¬ ((q3 : Int) < 0):=by omega
     have gl3 : q3 ≤ 1048576:=by omega
     replace hq3 : Hid (q2 - rtP f3 = q3):=hq3
     have HE : Hid (szV (totF (f0,f1,f2,f3,f4)) n = (q3 : Int)):=by
      have hT:=HT.out; have:=hq0.out; have:=hq1.out; have:=hq2.out; have:=hq3.out
      show (if _ then _ else _) = _
      rw [if_pos (by omega)]; omega
     go_wp2
     go_ret
     exact ⟨by rw [HE.out]; rfl,BC⟩
    ·have HE : Hid (szV (totF (f0,f1,f2,f3,f4)) n = -1):=by
      have hT:=HT.out; have:=hq0.out; have:=hq1.out; have:=hq2.out
      show (if _ then _ else _) = _
      exact if_neg (by omega)
     rw [show szV (rtP f3) q2 = -1 from if_neg h3]
     go_wp2
     go_ret
     exact ⟨by rw [HE.out]; rfl,BC⟩
   ·have HE : Hid (szV (totF (f0,f1,f2,f3,f4)) n = -1):=by
     have hT:=HT.out; have:=hq0.out; have:=hq1.out
     show (if _ then _ else _) = _
     exact if_neg (by omega)
    rw [show szV (rtP f2) q1 = -1 from if_neg h2]
    go_wp2
    go_ret
    exact ⟨by rw [HE.out]; rfl,BC⟩
  ·have HE : Hid (szV (totF (f0,f1,f2,f3,f4)) n = -1):=by
    have hT:=HT.out; have:=hq0.out
    show (if _ then _ else _) = _
    exact if_neg (by omega)
   rw [show szV (rtI f1) q0 = -1 from if_neg h1]
   go_wp2
   go_ret
   exact ⟨by rw [HE.out]; rfl,BC⟩
 ·have HE : Hid (szV (totF (f0,f1,f2,f3,f4)) n = -1):=by
   have hT:=HT.out
   show (if _ then _ else _) = _
   exact if_neg (by omega)
  rw [show szV (rtI f0) n = -1 from if_neg h0]
  go_wp2
  go_ret
  exact ⟨by rw [HE.out]; rfl,BC⟩
set_option maxRecDepth 100000 in
set_option maxHeartbeats 3200000 in
theorem szN_is (p : TN) (n : Nat) (w : World) (hn : n ≤ 1048576) (hd : DpN w p) (hl : LmN p) : Calls Tryz.prog 14 #[vN p,I n] w fun en w' => en = .returned (I (szV (totN p) n)) ∧ Below w.heap.size w w':=by
 obtain ⟨f0,f1⟩:=p
 have HT : Hid (totN (f0,f1) = rtS f0 + rtI f1):=(rfl : totN (f0,f1) = _)
 unfold LmN at hl
 dsimp only at hl
 obtain ⟨hl0,hl1⟩:=hl
 unfold DpN at hd
 dsimp only at hd
 obtain ⟨hd0,hd1⟩:=hd
 obtain ⟨V,hV⟩ : ∃ V,w.alloc (.cells #[.slice f0.1 f0.2.2.length f0.2.1,.slice f1.1 f1.2.2.length f1.2.1] 28) = V:=⟨_,rfl⟩
 have TA : Blk w.heap.size [.slice f0.1 f0.2.2.length f0.2.1,.slice f1.1 f1.2.2.length f1.2.1] V:=by rw [← hV]; exact Blk.new _ _ _
 have BC : Below w.heap.size w V:=by rw [← hV]; exact (Below.refl _ _).alloc (Nat.le_refl _) _
 have d0:=TA.at 0 rfl
 have d1:=TA.at 1 rfl
 go_enter Tryz.func14,Tryz.ntmps14
 go_wp2_with fail
 try rw [hV]
 refine (szSS_is f0 n _ (by omega) (hd0.later BC) hl0).mono ?_
 clear hV
 rintro en v0 ⟨rfl,hb⟩
 replace TA:=TA.later hb (World.block_lt_of_cell? _ _ (TA.at 0 rfl))
 replace BC:=BC.trans (hb.mono BC.size)
 clear hb d0 d1
 have d0:=TA.at 0 rfl
 have d1:=TA.at 1 rfl
 by_cases h0 : rtS f0 ≤ n
 ·rw [show szV (rtS f0) n = ((n - rtS f0 : Nat) : Int) from if_pos h0]
  obtain ⟨q0,hq0⟩ : ∃ q : Nat,n - rtS f0 = q:=⟨_,rfl⟩
  rw [hq0]
  have g0 : ¬ ((q0 : Int) < 0):=by omega
  have gl0 : q0 ≤ 1048576:=by omega
  replace hq0 : Hid (n - rtS f0 = q0):=hq0
  go_wp2_with fail
  try rw [hV]
  refine (szSI_is f1 q0 _ (by omega) (hd1.later BC) hl1).mono ?_
  rintro en v1 ⟨rfl,hb⟩
  replace TA:=TA.later hb (World.block_lt_of_cell? _ _ (TA.at 0 rfl))
  replace BC:=BC.trans (hb.mono BC.size)
  clear hb d0 d1
  have d0:=TA.at 0 rfl
  have d1:=TA.at 1 rfl
  by_cases h1 : rtI f1 ≤ q0
  ·rw [show szV (rtI f1) q0 = ((q0 - rtI f1 : Nat) : Int) from if_pos h1]
   obtain ⟨q1,hq1⟩ : ∃ q : Nat,q0 - rtI f1 = q:=⟨_,rfl⟩
   rw [hq1]
   have g1 : ¬ ((q1 : Int) < 0):=by omega
   have gl1 : q1 ≤ 1048576:=by omega
   replace hq1 : Hid (q0 - rtI f1 = q1):=hq1
   have HE : Hid (szV (totN (f0,f1)) n = (q1 : Int)):=by
    have hT:=HT.out; have:=hq0.out; have:=hq1.out
    show (if _ then _ else _) = _
    rw [if_pos (by omega)]; omega
   go_wp2
   go_ret
   exact ⟨by rw [HE.out]; rfl,BC⟩
  ·have HE : Hid (szV (totN (f0,f1)) n = -1):=by
    have hT:=HT.out; have:=hq0.out
    show (if _ then _ else _) = _
    exact if_neg (by omega)
   rw [show szV (rtI f1) q0 = -1 from if_neg h1]
   go_wp2
   go_ret
   exact ⟨by rw [HE.out]; rfl,BC⟩
 ·have HE : Hid (szV (totN (f0,f1)) n = -1):=by
   have hT:=HT.out
   show (if _ then _ else _) = _
   exact if_neg (by omega)
  rw [show szV (rtS f0) n = -1 from if_neg h0]
  go_wp2
  go_ret
  exact ⟨by rw [HE.out]; rfl,BC⟩
end Go.Proofs.YtlmpfkbgknbcnaaGreat.Nd
