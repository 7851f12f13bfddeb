/- Sizes of rows. -/
import Derived.Test.YtlmpfkbgknbcnaaGreatAb
import Derived.Test.YtlmpfkbgknbcnaaGreatNd0
set_option linter.unusedVariables false
set_option maxRecDepth 100000
namespace Go.Proofs.YtlmpfkbgknbcnaaGreat.Nd
open Go Go.RowKit Go.Joins Own Draw
set_option maxRecDepth 100000 in
theorem szFI_is (a : Option Addr) (l cap : Nat) (n : Nat) (w : World) (hn : n ≤ 1048576) (hl : l ≤ maxLen) :
  Calls Tryz.prog 20 #[.slice a l cap,I n] w fun en w' => en = .returned (I (if l ≤ n then ((n - l : Nat) : Int) else -1)) ∧ w = w':=by
 unfold maxLen at hl
 by_cases h : l ≤ n
 ·have hd : ¬ ((n : Int) - (l : Int) < 0):=by omega
  have hw : ((n : Int) - (l : Int)) = ((n - l : Nat) : Int):=by omega
  rw [if_pos h]
  go_enter Tryz.func20,Tryz.ntmps20
  go_wp2
  go_ret
  exact ⟨by rw [← hw]; rfl,rfl⟩
 ·have hd : ((n : Int) - (l : Int) < 0):=by omega
  rw [if_neg h]
  go_enter Tryz.func20,Tryz.ntmps20
  go_wp2
  go_ret
  exact ⟨rfl,rfl⟩
theorem szSI_is (r : Rw Int) (n : Nat) (w : World) (hn : n ≤ 1048576) (hd : RpI w r) (hl : RlI r) : Calls Tryz.prog 20 #[.slice r.1 r.2.2.length r.2.1,I n] w fun en w' => en = .returned (I (szV (rtI r) n)) ∧ Below w.heap.size w w' :=
 (szFI_is r.1 r.2.2.length r.2.1 n w hn hl).mono fun e w' h => ⟨h.1,h.2 ▸ Below.refl _ _⟩
set_option maxRecDepth 100000 in
theorem szFP_is (a : Option Addr) (l cap : Nat) (n : Nat) (w : World) (hn : n ≤ 1048576) (hl : l ≤ maxLen) :
  Calls Tryz.prog 59 #[.slice a l cap,I n] w fun en w' => en = .returned (I (if l ≤ n then ((n - l : Nat) : Int) else -1)) ∧ w = w':=by
 unfold maxLen at hl
 by_cases h : l ≤ n
 ·have hd : ¬ ((n : Int) - (l : Int) < 0):=by omega
  have hw : ((n : Int) - (l : Int)) = ((n - l : Nat) : Int):=by omega
  rw [if_pos h]
  go_enter Tryz.func59,Tryz.ntmps59
  go_wp2
  go_ret
  exact ⟨by rw [← hw]; rfl,rfl⟩
 ·have hd : ((n : Int) - (l : Int) < 0):=by omega
  rw [if_neg h]
  go_enter Tryz.func59,Tryz.ntmps59
  go_wp2
  go_ret
  exact ⟨rfl,rfl⟩
theorem szSP_is (r : Rw TP) (n : Nat) (w : World) (hn : n ≤ 1048576) (hd : RpP w r) (hl : RlP r) : Calls Tryz.prog 59 #[.slice r.1 r.2.2.length r.2.1,I n] w fun en w' => en = .returned (I (szV (rtP r) n)) ∧ Below w.heap.size w w' :=
 (szFP_is r.1 r.2.2.length r.2.1 n w hn hl).mono fun e w' h => ⟨h.1,h.2 ▸ Below.refl _ _⟩
set_option maxRecDepth 100000 in
theorem szFW_is (a : Option Addr) (l cap : Nat) (n : Nat) (w : World) (hn : n ≤ 1048576) (hl : l ≤ maxLen) :
  Calls Tryz.prog 15 #[.slice a l cap,I n] w fun en w' => en = .returned (I (if l ≤ n then ((n - l : Nat) : Int) else -1)) ∧ w = w':=by
 unfold maxLen at hl
 by_cases h : l ≤ n
 ·have hd : ¬ ((n : Int) - (l : Int) < 0):=by omega
  have hw : ((n : Int) - (l : Int)) = ((n - l : Nat) : Int):=by omega
  rw [if_pos h]
  go_enter Tryz.func15,Tryz.ntmps15
  go_wp2
  go_ret
  exact ⟨by rw [← hw]; rfl,rfl⟩
 ·have hd : ((n : Int) - (l : Int) < 0):=by omega
  rw [if_neg h]
  go_enter Tryz.func15,Tryz.ntmps15
  go_wp2
  go_ret
  exact ⟨rfl,rfl⟩
theorem szSW_is (r : Rw TW) (n : Nat) (w : World) (hn : n ≤ 1048576) (hd : RpW w r) (hl : RlW r) : Calls Tryz.prog 15 #[.slice r.1 r.2.2.length r.2.1,I n] w fun en w' => en = .returned (I (szV (rtW r) n)) ∧ Below w.heap.size w w' :=
 (szFW_is r.1 r.2.2.length r.2.1 n w hn hl).mono fun e w' h => ⟨h.1,h.2 ▸ Below.refl _ _⟩
set_option maxRecDepth 100000 in
theorem szFA_is (a : Option Addr) (l cap : Nat) (n : Nat) (w : World) (hn : n ≤ 1048576) (hl : l ≤ maxLen) :
  Calls Tryz.prog 112 #[.slice a l cap,I n] w fun en w' => en = .returned (I (if l ≤ n then ((n - l : Nat) : Int) else -1)) ∧ w = w':=by
 unfold maxLen at hl
 by_cases h : l ≤ n
 ·have hd : ¬ ((n : Int) - (l : Int) < 0):=by omega
  have hw : ((n : Int) - (l : Int)) = ((n - l : Nat) : Int):=by omega
  rw [if_pos h]
  go_enter Tryz.func112,Tryz.ntmps112
  go_wp2
  go_ret
  exact ⟨by rw [← hw]; rfl,rfl⟩
 ·have hd : ((n : Int) - (l : Int) < 0):=by omega
  rw [if_neg h]
  go_enter Tryz.func112,Tryz.ntmps112
  go_wp2
  go_ret
  exact ⟨rfl,rfl⟩
theorem szSA_is (r : Rw TA) (n : Nat) (w : World) (hn : n ≤ 1048576) (hd : RpA w r) (hl : RlA r) : Calls Tryz.prog 112 #[.slice r.1 r.2.2.length r.2.1,I n] w fun en w' => en = .returned (I (szV (rtA r) n)) ∧ Below w.heap.size w w' :=
 (szFA_is r.1 r.2.2.length r.2.1 n w hn hl).mono fun e w' h => ⟨h.1,h.2 ▸ Below.refl _ _⟩
set_option maxRecDepth 100000 in
theorem szFE_is (a : Option Addr) (l cap : Nat) (n : Nat) (w : World) (hn : n ≤ 1048576) (hl : l ≤ maxLen) :
  Calls Tryz.prog 18 #[.slice a l cap,I n] w fun en w' => en = .returned (I (if l ≤ n then ((n - l : Nat) : Int) else -1)) ∧ w = w':=by
 unfold maxLen at hl
 by_cases h : l ≤ n
 ·have hd : ¬ ((n : Int) - (l : Int) < 0):=by omega
  have hw : ((n : Int) - (l : Int)) = ((n - l : Nat) : Int):=by omega
  rw [if_pos h]
  go_enter Tryz.func18,Tryz.ntmps18
  go_wp2
  go_ret
  exact ⟨by rw [← hw]; rfl,rfl⟩
 ·have hd : ((n : Int) - (l : Int) < 0):=by omega
  rw [if_neg h]
  go_enter Tryz.func18,Tryz.ntmps18
  go_wp2
  go_ret
  exact ⟨rfl,rfl⟩
theorem szSE_is (r : Rw TE) (n : Nat) (w : World) (hn : n ≤ 1048576) (hd : RpE w r) (hl : RlE r) : Calls Tryz.prog 18 #[.slice r.1 r.2.2.length r.2.1,I n] w fun en w' => en = .returned (I (szV (rtE r) n)) ∧ Below w.heap.size w w' :=
 (szFE_is r.1 r.2.2.length r.2.1 n w hn hl).mono fun e w' h => ⟨h.1,h.2 ▸ Below.refl _ _⟩
set_option maxRecDepth 100000 in
set_option maxHeartbeats 1600000 in
theorem szSS_is (r : Rw ByteArray) (n : Nat) (w : World) (hn : n ≤ 1048576) (hd : RpS w r) (hl : RlS r) : Calls Tryz.prog 13 #[.slice r.1 r.2.2.length r.2.1,I n] w fun en w' => en = .returned (I (szV (rtS r) n)) ∧ Below w.heap.size w w':=by
 obtain ⟨a,cap,xs⟩:=r
 obtain ⟨hlen,hLm⟩:=hl
 dsimp only at hlen hLm ⊢
 have hr : RowAt Value.string w a xs:=hd
 have HT : Hid (rtS (a,cap,xs) = xs.length + (xs.map ByteArray.size).sum):=(rfl : rtS (a,cap,xs) = _)
 unfold maxLen at hlen
 clear hd
 by_cases h0 : xs.length ≤ n
 ·obtain ⟨n1,hn1⟩ : ∃ n1,n - xs.length = n1:=⟨_,rfl⟩
  have e0 : (n : Int) - (xs.length : Int) = (n1 : Int):=by omega
  have d0 : ¬ ((n1 : Int) < 0):=by omega
  replace hn1 : Hid (n - xs.length = n1):=hn1
  go_enter Tryz.func13,Tryz.ntmps13
  go_wp2
  clear e0 d0
  go_loopw [1,5] (fun lv iv wr => ∃ k m : Nat,k ≤ xs.length ∧ iv = I k ∧ lv = I m ∧ Hid (m + ((xs.take k).map ByteArray.size).sum = n1) ∧ m ≤ 1048576 ∧ Below w.heap.size w wr) (fun _ iv _ => xs.length - (intOf iv).toNat)
  case atStart => exact ⟨0,n1,by omega,rfl,rfl,(by simp : n1 + ((xs.take 0).map ByteArray.size).sum = n1),(by have:=hn1.out; omega),Below.refl _ _⟩
  case round =>
  obtain ⟨k,m,hk,rfl,rfl,HM,hm,hbel⟩:=hrel
  by_cases hlt : k < xs.length
  ·have hlt2 : (k : Int) < (xs.length : Int):=by omega
   have hst : (xs.map ByteArray.size).sum = ((xs.take k).map ByteArray.size).sum + xs[k].size + ((xs.drop (k + 1)).map ByteArray.size).sum:=by
    conv => lhs; rw [← List.take_append_drop (k + 1) xs]
    rw [List.map_append,List.sum_append,List.take_succ_eq_append_getElem hlt,List.map_append,List.sum_append]
    simp
   have hsm : ((xs.take (k + 1)).map ByteArray.size).sum = ((xs.take k).map ByteArray.size).sum + xs[k].size:=by
    rw [List.take_succ_eq_append_getElem hlt,List.map_append,List.sum_append]; simp
   obtain ⟨b1,o1,rfl,l1,hcc⟩:=hr k hlt
   have c0 : wr.cell? ⟨b1,o1 + k,none⟩ = some (.string xs[k]):=(hbel.cell (p:=⟨b1,o1 + k,none⟩) l1).trans hcc
   have hsz:=hLm _ (List.getElem_mem hlt)
   unfold maxLen at hsz
   generalize hxk : xs[k] = x at hst hsm c0 hsz
   clear hcc hxk
   replace hst : Hid ((xs.map ByteArray.size).sum = ((xs.take k).map ByteArray.size).sum + x.size + ((xs.drop (k + 1)).map ByteArray.size).sum):=hst
   replace hsm : Hid (((xs.take (k + 1)).map ByteArray.size).sum = ((xs.take k).map ByteArray.size).sum + x.size):=hsm
   by_cases hle : x.size ≤ m
   ·have d1 : ¬ (((m - x.size : Nat) : Int) < 0):=by omega
    obtain ⟨m2,hm2⟩ : ∃ m2,m - x.size = m2:=⟨_,rfl⟩
    have e2 : (m : Int) - (x.size : Int) = (m2 : Int):=by omega
    rw [hm2] at d1
    have HM2 : Hid (m2 + ((xs.take (k + 1)).map ByteArray.size).sum = n1):=by have:=HM.out; have:=hsm.out; show _ = _; omega
    have hm3 : m2 ≤ 1048576:=by omega
    replace hm2 : Hid (m - x.size = m2):=hm2
    go_wp2
    go_roundw
    case rel => exact ⟨k + 1,m2,by omega,by go_num,rfl,HM2,hm3,hbel⟩
    case measure => simp [intOf]; omega
   ·have HV : Hid (szV (rtS (some ⟨b1,o1,none⟩,cap,xs)) n = -1):=by
     have h1:=HM.out; have h2:=hst.out; have h3:=HT.out; have h4:=hn1.out
     show (if _ then _ else _) = _
     exact if_neg (by omega)
    have e3 : (m : Int) - (x.size : Int) < 0:=by omega
    go_wp2
    go_ret
    exact ⟨by rw [HV.out]; rfl,hbel⟩
  ·obtain rfl : k = xs.length:=by omega
   have HV : Hid (szV (rtS (a,cap,xs)) n = (m : Int)):=by
    have h1:=HM.out; have h3:=HT.out; have h4:=hn1.out
    rw [List.take_length] at h1
    show (if _ then _ else _) = _
    rw [if_pos (by omega)]; omega
   go_wp2
   go_ret
   exact ⟨by rw [HV.out]; rfl,hbel⟩
 ·have HV : Hid (szV (rtS (a,cap,xs)) n = -1):=by have h3:=HT.out; show (if _ then _ else _) = _; exact if_neg (by omega)
  have d0 : (n : Int) - (xs.length : Int) < 0:=by omega
  go_enter Tryz.func13,Tryz.ntmps13
  go_wp2
  go_ret
  exact ⟨by rw [HV.out]; rfl,Below.refl _ _⟩
set_option maxRecDepth 100000 in
set_option maxHeartbeats 3200000 in
theorem szC_is (p : TC) (n : Nat) (w : World) (hn : n ≤ 1048576) (hl : LmC p) : Calls Tryz.prog 60 #[vC p,I n] w fun en w' => en = .returned (I (szV (totC p) n)) ∧ Below w.heap.size w w':=by
 obtain ⟨f0,f1,f2,f3,f4,f5,f6,f7⟩:=p
 have HT : Hid (totC (f0,f1,f2,f3,f4,f5,f6,f7) = f7.size):=(rfl : totC (f0,f1,f2,f3,f4,f5,f6,f7) = _)
 unfold LmC at hl
 dsimp only at hl
 have hl0:=hl
 unfold maxLen at hl0
 obtain ⟨V,hV⟩ : ∃ V,w.alloc (.cells #[I f0,I f1,I f2,I f3,I f4,I f5,I f6,.string f7] 115) = V:=⟨_,rfl⟩
 have TA : Blk w.heap.size [I f0,I f1,I f2,I f3,I f4,I f5,I f6,.string f7] V:=by rw [← hV]; exact Blk.new _ _ _
 have BC : Below w.heap.size w V:=by rw [← hV]; exact (Below.refl _ _).alloc (Nat.le_refl _) _
 have d7:=TA.at 7 rfl
 go_enter Tryz.func60,Tryz.ntmps60
 by_cases h0 : f7.size ≤ n
 ·obtain ⟨q0,hq0⟩ : ∃ q : Nat,n - f7.size = q:=⟨_,rfl⟩
  have e0 : (n : Int) - (f7.size : Int) = (q0 : Int):=by omega
  have g0 : ¬ ((q0 : Int) < 0):=by omega
  have gl0 : q0 ≤ 1048576:=by omega
  replace hq0 : Hid (n - f7.size = q0):=hq0
  have HE : Hid (szV (totC (f0,f1,f2,f3,f4,f5,f6,f7)) n = (q0 : Int)):=by
   have hT:=HT.out; have:=hq0.out
   show (if _ then _ else _) = _
   rw [if_pos (by omega)]; omega
  go_wp2
  go_ret
  exact ⟨by rw [HE.out]; rfl,BC⟩
 ·have HE : Hid (szV (totC (f0,f1,f2,f3,f4,f5,f6,f7)) n = -1):=by
   have hT:=HT.out
   show (if _ then _ else _) = _
   exact if_neg (by omega)
  have e0 : (n : Int) - (f7.size : Int) < 0:=by omega
  go_wp2
  go_ret
  exact ⟨by rw [HE.out]; rfl,BC⟩
set_option maxRecDepth 100000 in
set_option maxHeartbeats 1600000 in
theorem szSC_is (r : Rw TC) (n : Nat) (w : World) (hn : n ≤ 1048576) (hd : RpC w r) (hl : RlC r) : Calls Tryz.prog 16 #[.slice r.1 r.2.2.length r.2.1,I n] w fun en w' => en = .returned (I (szV (rtC r) n)) ∧ Below w.heap.size w w':=by
 obtain ⟨a,cap,xs⟩:=r
 obtain ⟨hlen,hLm⟩:=hl
 dsimp only at hlen hLm ⊢
 have hr : FRow 8 cC w a xs:=hd
 have HT : Hid (rtC (a,cap,xs) = xs.length + (xs.map totC).sum):=(rfl : rtC (a,cap,xs) = _)
 unfold maxLen at hlen
 clear hd
 by_cases h0 : xs.length ≤ n
 ·obtain ⟨n1,hn1⟩ : ∃ n1,n - xs.length = n1:=⟨_,rfl⟩
  have e0 : (n : Int) - (xs.length : Int) = (n1 : Int):=by omega
  have d0 : ¬ ((n1 : Int) < 0):=by omega
  replace hn1 : Hid (n - xs.length = n1):=hn1
  go_enter Tryz.func16,Tryz.ntmps16
  go_wp2
  clear e0 d0
  go_loopw [1,5] (fun lv iv wr => ∃ k m : Nat,k ≤ xs.length ∧ iv = I k ∧ lv = I m ∧ Hid (m + ((xs.take k).map totC).sum = n1) ∧ m ≤ 1048576 ∧ Below w.heap.size w wr) (fun _ iv _ => xs.length - (intOf iv).toNat)
  case atStart => exact ⟨0,n1,by omega,rfl,rfl,(by simp : n1 + ((xs.take 0).map totC).sum = n1),(by have:=hn1.out; omega),Below.refl _ _⟩
  case round =>
  obtain ⟨k,m,hk,rfl,rfl,HM,hm,hbel⟩:=hrel
  by_cases hlt : k < xs.length
  ·have hlt2 : (k : Int) < (xs.length : Int):=by omega
   have hst : (xs.map totC).sum = ((xs.take k).map totC).sum + totC xs[k] + ((xs.drop (k + 1)).map totC).sum:=by
    conv => lhs; rw [← List.take_append_drop (k + 1) xs]
    rw [List.map_append,List.sum_append,List.take_succ_eq_append_getElem hlt,List.map_append,List.sum_append]
    simp
   have hsm : ((xs.take (k + 1)).map totC).sum = ((xs.take k).map totC).sum + totC xs[k]:=by
    rw [List.take_succ_eq_append_getElem hlt,List.map_append,List.sum_append]; simp
   obtain ⟨b1,o1,rfl,l1,hcc⟩:=hr k hlt
   have c0 : wr.cell? ⟨b1,o1 + k * 8,none⟩ = some (I xs[k].1):=(hbel.cell (p:=⟨b1,o1 + k * 8,none⟩) l1).trans (hcc 0 _ rfl)
   have c1 : wr.cell? ⟨b1,o1 + k * 8 + 1,none⟩ = some (I xs[k].2.1):=(hbel.cell (p:=⟨b1,o1 + k * 8 + 1,none⟩) l1).trans (hcc 1 _ rfl)
   have c2 : wr.cell? ⟨b1,o1 + k * 8 + 2,none⟩ = some (I xs[k].2.2.1):=(hbel.cell (p:=⟨b1,o1 + k * 8 + 2,none⟩) l1).trans (hcc 2 _ rfl)
   have c3 : wr.cell? ⟨b1,o1 + k * 8 + 3,none⟩ = some (I xs[k].2.2.2.1):=(hbel.cell (p:=⟨b1,o1 + k * 8 + 3,none⟩) l1).trans (hcc 3 _ rfl)
   have c4 : wr.cell? ⟨b1,o1 + k * 8 + 4,none⟩ = some (I xs[k].2.2.2.2.1):=(hbel.cell (p:=⟨b1,o1 + k * 8 + 4,none⟩) l1).trans (hcc 4 _ rfl)
   have c5 : wr.cell? ⟨b1,o1 + k * 8 + 5,none⟩ = some (I xs[k].2.2.2.2.2.1):=(hbel.cell (p:=⟨b1,o1 + k * 8 + 5,none⟩) l1).trans (hcc 5 _ rfl)
   have c6 : wr.cell? ⟨b1,o1 + k * 8 + 6,none⟩ = some (I xs[k].2.2.2.2.2.2.1):=(hbel.cell (p:=⟨b1,o1 + k * 8 + 6,none⟩) l1).trans (hcc 6 _ rfl)
   have c7 : wr.cell? ⟨b1,o1 + k * 8 + 7,none⟩ = some (.string xs[k].2.2.2.2.2.2.2):=(hbel.cell (p:=⟨b1,o1 + k * 8 + 7,none⟩) l1).trans (hcc 7 _ rfl)
   have K1:=szC_is xs[k] m wr (by omega) (hLm _ (List.getElem_mem hlt))
   generalize hxk : xs[k] = x at K1 hst hsm c0 c1 c2 c3 c4 c5 c6 c7
   clear hcc hxk
   replace hst : Hid ((xs.map totC).sum = ((xs.take k).map totC).sum + totC x + ((xs.drop (k + 1)).map totC).sum):=hst
   replace hsm : Hid (((xs.take (k + 1)).map totC).sum = ((xs.take k).map totC).sum + totC x):=hsm
   by_cases hle : totC x ≤ m
   ·have d1 : ¬ (((m - totC x : Nat) : Int) < 0):=by omega
    rw [show szV (totC x) m = ((m - totC x : Nat) : Int) from if_pos hle] at K1
    obtain ⟨m2,hm2⟩ : ∃ m2,m - totC x = m2:=⟨_,rfl⟩
    rw [hm2] at K1
    rw [hm2] at d1
    have HM2 : Hid (m2 + ((xs.take (k + 1)).map totC).sum = n1):=by have:=HM.out; have:=hsm.out; show _ = _; omega
    have hm3 : m2 ≤ 1048576:=by omega
    replace hm2 : Hid (m - totC x = m2):=hm2
    go_wp2_with fail
    refine K1.mono ?_
    clear K1
    rintro en w2 ⟨rfl,hb2⟩
    replace hbel:=hbel.trans (hb2.mono hbel.size)
    clear hb2 c0 c1 c2 c3 c4 c5 c6 c7
    go_wp2
    go_roundw
    case rel => exact ⟨k + 1,m2,by omega,by go_num,rfl,HM2,hm3,hbel⟩
    case measure => simp [intOf]; omega
   ·have HV : Hid (szV (rtC (some ⟨b1,o1,none⟩,cap,xs)) n = -1):=by
     have h1:=HM.out; have h2:=hst.out; have h3:=HT.out; have h4:=hn1.out
     show (if _ then _ else _) = _
     exact if_neg (by omega)
    rw [show szV (totC x) m = -1 from if_neg hle] at K1
    go_wp2_with fail
    refine K1.mono ?_
    clear K1
    rintro en w2 ⟨rfl,hb2⟩
    replace hbel:=hbel.trans (hb2.mono hbel.size)
    clear hb2 c0 c1 c2 c3 c4 c5 c6 c7
    go_wp2
    go_ret
    exact ⟨by rw [HV.out]; rfl,hbel⟩
  ·obtain rfl : k = xs.length:=by omega
   have HV : Hid (szV (rtC (a,cap,xs)) n = (m : Int)):=by
    have h1:=HM.out; have h3:=HT.out; have h4:=hn1.out
    rw [List.take_length] at h1
    show (if _ then _ else _) = _
    rw [if_pos (by omega)]; omega
   go_wp2
   go_ret
   exact ⟨by rw [HV.out]; rfl,hbel⟩
 ·have HV : Hid (szV (rtC (a,cap,xs)) n = -1):=by have h3:=HT.out; show (if _ then _ else _) = _; exact if_neg (by omega)
  have d0 : (n : Int) - (xs.length : Int) < 0:=by omega
  go_enter Tryz.func16,Tryz.ntmps16
  go_wp2
  go_ret
  exact ⟨by rw [HV.out]; rfl,Below.refl _ _⟩
end Go.Proofs.YtlmpfkbgknbcnaaGreat.Nd
