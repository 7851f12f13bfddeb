/- Secret: the program. -/
import Derived.Test.YtlmpfkbgknbcnaaGreatAb
import Derived.Test.YtlmpfkbgknbcnaaGreatNc9
set_option linter.unusedVariables false
set_option maxRecDepth 100000
namespace Go.Proofs.YtlmpfkbgknbcnaaGreat.Nd
open Go Go.RowKit Go.Joins Own Draw Term
set_option maxRecDepth 100000 in
set_option maxHeartbeats 6400000 in
theorem sec1_is (wb rb : Nat) (B : Nat) (d : TD) (p : TE) (K : List Int) (ra : Option Addr) (rc : Nat) (w : World) (hd : WdOk B w d) (hw : wokB d = true) (hI : EvI d) (hp : p ∈ d.2.2.2.2.2.2.2.2.1.2.2) (TW : Blk wb [.slice d.1.1.1 d.1.1.2.2.length d.1.1.2.1,.slice d.1.2.1.1 d.1.2.1.2.2.length d.1.2.1.2.1,.slice d.1.2.2.1.1 d.1.2.2.1.2.2.length d.1.2.2.1.2.1,.slice d.1.2.2.2.1.1 d.1.2.2.2.1.2.2.length d.1.2.2.2.1.2.1,I d.1.2.2.2.2,I d.2.1,I d.2.2.1,.slice d.2.2.2.1.1 d.2.2.2.1.2.2.length d.2.2.2.1.2.1,.slice d.2.2.2.2.1.1.1 d.2.2.2.2.1.1.2.2.length d.2.2.2.2.1.1.2.1,.slice d.2.2.2.2.1.2.1 d.2.2.2.2.1.2.2.2.length d.2.2.2.2.1.2.2.1,.slice d.2.2.2.2.2.1.1 d.2.2.2.2.2.1.2.2.length d.2.2.2.2.2.1.2.1,.slice d.2.2.2.2.2.2.1.1 d.2.2.2.2.2.2.1.2.2.length d.2.2.2.2.2.2.1.2.1,.slice d.2.2.2.2.2.2.2.1.1 d.2.2.2.2.2.2.2.1.2.2.length d.2.2.2.2.2.2.2.1.2.1,.slice d.2.2.2.2.2.2.2.2.1.1 d.2.2.2.2.2.2.2.2.1.2.2.length d.2.2.2.2.2.2.2.2.1.2.1,.slice d.2.2.2.2.2.2.2.2.2.1.1 d.2.2.2.2.2.2.2.2.2.1.2.2.length d.2.2.2.2.2.2.2.2.2.1.2.1,.slice d.2.2.2.2.2.2.2.2.2.2.1 d.2.2.2.2.2.2.2.2.2.2.2.2.length d.2.2.2.2.2.2.2.2.2.2.2.1] w) (hc : w.cell? ⟨rb,0,none⟩ = some (.slice ra K.length rc)) (lb : rb < w.heap.size) (hR : RowAt (Value.int .i64) w ra K) (hKl : K.length ≤ 1048576) (hK : ∀ k,K.contains k = rcB d k) :
  Calls Tryz.prog 55 #[vE p,.pointer (some ⟨wb,0,none⟩),.pointer (some ⟨rb,0,none⟩)] w fun e w' => e = .returned (.bool (scB d p)) ∧ Below w.heap.size w w':=by
 obtain ⟨ic,hic,hics⟩:=info_F
 obtain ⟨V,hV⟩ : ∃ V,w.alloc (.cells #[I p.1,I p.2.1,I p.2.2.1,I p.2.2.2.1,I p.2.2.2.2.1,I p.2.2.2.2.2.1,I p.2.2.2.2.2.2.1,I p.2.2.2.2.2.2.2.1,I p.2.2.2.2.2.2.2.2.1,I p.2.2.2.2.2.2.2.2.2.1,I p.2.2.2.2.2.2.2.2.2.2] 106) = V:=⟨_,rfl⟩
 have TP : Blk w.heap.size [I p.1,I p.2.1,I p.2.2.1,I p.2.2.2.1,I p.2.2.2.2.1,I p.2.2.2.2.2.1,I p.2.2.2.2.2.2.1,I p.2.2.2.2.2.2.2.1,I p.2.2.2.2.2.2.2.2.1,I p.2.2.2.2.2.2.2.2.2.1,I p.2.2.2.2.2.2.2.2.2.2] V:=by rw [← hV]; exact Blk.new _ _ _
 have BC : Below w.heap.size w V:=by rw [← hV]; exact (Below.refl _ _).alloc (Nat.le_refl _) _
 have TV:=TW.later BC TW.lt
 have hF : OwF B w d.1:=hd.ow.1
 have hlt:=tot_parts hd.le
 have hfr : FRow 11 cE w d.2.2.2.2.2.2.2.2.1.1 d.2.2.2.2.2.2.2.2.1.2.2:=hd.ow.2.2.2.2.2.2.1.dp
 have hll:=wok_log hw
 have K1:=implRoots_is (cfOf d.1) d.2.2.2.2.2.2.2.2.1.1 d.2.2.2.2.2.2.2.2.1.2.1 d.2.2.2.2.2.2.2.2.1.2.2 (kyE p) V ((cf_at hF).later BC) (cf_ok hF hlt.1.1 hlt.1.2.1 hlt.1.2.2.1 hlt.1.2.2.2) (hfr.later BC) (by omega) (hI.ev p hp).1 (fun q hq => ⟨(hI.ev q hq).1,(hI.ev q hq).2.1⟩)
 have hlk : RowAt (Value.int .i64) w d.2.2.2.2.2.2.2.2.2.2.1 d.2.2.2.2.2.2.2.2.2.2.2.2:=hd.ow.2.2.2.2.2.2.2.2.dp
 have hlkl:=(wok_parts hw).2.2
 have hrl:=ro_len hw (kyE p)
 have HE : Hid (scB d p = (decide ((roP (cfOf d.1) d.2.2.2.2.2.2.2.2.1.2.2 (kyE p)).length = 0) || (!((roP (cfOf d.1) d.2.2.2.2.2.2.2.2.1.2.2 (kyE p)).all fun x => nin d.2.2.2.2.2.2.2.2.2.2.2.2 x) || !(rcB d (kyE p))))):=rfl
 rw [← hK (kyE p)] at HE
 have d13:=TV.at 13 rfl
 have d15:=TV.at 15 rfl
 have e5:=TP.at 5 rfl
 have hc1:=(BC.cell (p:=⟨rb,0,none⟩) lb).trans hc
 have K2:=fun (U : World) (a : Option Addr) (cc : Nat) (hr : RowAt (Value.int .i64) U a (roP (cfOf d.1) d.2.2.2.2.2.2.2.2.1.2.2 (kyE p))) (h : Below w.heap.size w U) => none_is a cc (roP (cfOf d.1) d.2.2.2.2.2.2.2.2.1.2.2 (kyE p)) d.2.2.2.2.2.2.2.2.2.2.1 d.2.2.2.2.2.2.2.2.2.2.2.1 d.2.2.2.2.2.2.2.2.2.2.2.2 U hr (hlk.later h) hrl (by omega)
 have K3:=fun (U : World) (h : Below w.heap.size w U) => has_is ra rc K (kyE p) U (hR.later h) hKl
 generalize (roP (cfOf d.1) d.2.2.2.2.2.2.2.2.1.2.2 (kyE p)) = R at K1 K2 hrl HE
 generalize (R.all fun x => nin d.2.2.2.2.2.2.2.2.2.2.2.2 x) = b1 at K2 HE
 generalize K.contains (kyE p) = b2 at K3 HE
 clear hK hd hw hI hp hlt hF hfr hll hlk hR hKl TW hc hlkl hrl
 go_enter Tryz.func55,Tryz.ntmps55
 go_wp2_with (first | (refine wpList_ldB 40 _ wb 0 _ [.slice d.1.1.1 d.1.1.2.2.length d.1.1.2.1,.slice d.1.2.1.1 d.1.2.1.2.2.length d.1.2.1.2.1,.slice d.1.2.2.1.1 d.1.2.2.1.2.2.length d.1.2.2.1.2.1,.slice d.1.2.2.2.1.1 d.1.2.2.2.1.2.2.length d.1.2.2.2.1.2.1,I d.1.2.2.2.2] ic hic (Tryz.isAgg40) TV hics.symm rfl rfl rfl rfl ?_))
 try rw [hV]
 refine K1.mono ?_
 clear K1 hV
 rintro en v1 ⟨a1,c1,rfl,ho,hb⟩
 have hr1 : RowAt (Value.int .i64) v1 a1 R:=row_own ho
 replace TP:=TP.later hb TP.lt
 replace TV:=TV.later hb TV.lt
 replace hc1:=(hb.cell (p:=⟨rb,0,none⟩) (Nat.lt_of_lt_of_le lb BC.size)).trans hc1
 replace BC:=BC.trans (hb.mono BC.size)
 clear hb ho d13 d15 e5
 have d15:=TV.at 15 rfl
 have K4:=K2 v1 a1 c1 hr1 BC
 clear K2 hr1
 by_cases h0 : R.length = 0
 ·have HV : Hid (scB d p = true):=by show _ = _; rw [HE.out,decide_eq_true h0]; rfl
  clear HE K3 K4
  rw [h0]
  go_wp2
  go_ret
  exact ⟨by rw [HV.out]; rfl,BC⟩
 ·have hz : ((R.length : Int) == 0) = false:=by rw [beq_eq_false_iff_ne]; omega
  have HE2 : Hid (scB d p = (!b1 || !b2)):=by show _ = _; rw [HE.out,decide_eq_false h0]; rfl
  clear HE
  go_wp2_with fail
  refine K4.mono ?_
  clear K4
  rintro en v2 ⟨rfl,hb⟩
  replace TP:=TP.later hb TP.lt
  replace hc1:=(hb.cell (p:=⟨rb,0,none⟩) (Nat.lt_of_lt_of_le lb BC.size)).trans hc1
  replace BC:=BC.trans (hb.mono BC.size)
  clear hb d15 TV
  have e5:=TP.at 5 rfl
  have K5:=K3 v2 BC
  clear K3 TP
  cases b1 with
  | false =>
   have HV : Hid (scB d p = true):=by show _ = _; rw [HE2.out]; rfl
   clear HE2 K5
   go_wp2
   go_ret
   exact ⟨by rw [HV.out]; rfl,BC⟩
  | true =>
   have HV : Hid (scB d p = !b2):=by show _ = _; rw [HE2.out]; rfl
   clear HE2
   go_wp2_with fail
   refine K5.mono ?_
   clear K5
   rintro en v3 ⟨rfl,rfl⟩
   go_wp2
   go_ret
   exact ⟨by rw [HV.out]; rfl,BC⟩
set_option maxRecDepth 100000 in
set_option maxHeartbeats 3200000 in
theorem cloEv_is (wb rb : Nat) (d : TD) (x : TE) (fp : Nat) (w : World) (hfp : fp < w.heap.size) (hc : w.cell? ⟨fp,0,none⟩ = some (.func (.func 55) #[] #[.pointer (some ⟨wb,0,none⟩),.pointer (some ⟨rb,0,none⟩)])) (HG : ∀ w',Below w.heap.size w w' → Calls Tryz.prog 55 #[.agg #[I x.1,I x.2.1,I x.2.2.1,I x.2.2.2.1,I x.2.2.2.2.1,I x.2.2.2.2.2.1,I x.2.2.2.2.2.2.1,I x.2.2.2.2.2.2.2.1,I x.2.2.2.2.2.2.2.2.1,I x.2.2.2.2.2.2.2.2.2.1,I x.2.2.2.2.2.2.2.2.2.2],.pointer (some ⟨wb,0,none⟩),.pointer (some ⟨rb,0,none⟩)] w' fun e w'' => e = .returned (.bool (scB d x)) ∧ Below w'.heap.size w' w'') :
  Calls Tryz.prog 103 #[.agg #[I x.1,I x.2.1,I x.2.2.1,I x.2.2.2.1,I x.2.2.2.2.1,I x.2.2.2.2.2.1,I x.2.2.2.2.2.2.1,I x.2.2.2.2.2.2.2.1,I x.2.2.2.2.2.2.2.2.1,I x.2.2.2.2.2.2.2.2.2.1,I x.2.2.2.2.2.2.2.2.2.2],.pointer (some ⟨fp,0,none⟩)] w fun e w' => e = .returned (.bool (!(scB d x))) ∧ Below w.heap.size w w':=by
 generalize scB d x = b at HG ⊢
 obtain ⟨V,hV⟩ : ∃ V,w.alloc (.cells #[I x.1,I x.2.1,I x.2.2.1,I x.2.2.2.1,I x.2.2.2.2.1,I x.2.2.2.2.2.1,I x.2.2.2.2.2.2.1,I x.2.2.2.2.2.2.2.1,I x.2.2.2.2.2.2.2.2.1,I x.2.2.2.2.2.2.2.2.2.1,I x.2.2.2.2.2.2.2.2.2.2] 106) = V:=⟨_,rfl⟩
 have TV : Blk w.heap.size [I x.1,I x.2.1,I x.2.2.1,I x.2.2.2.1,I x.2.2.2.2.1,I x.2.2.2.2.2.1,I x.2.2.2.2.2.2.1,I x.2.2.2.2.2.2.2.1,I x.2.2.2.2.2.2.2.2.1,I x.2.2.2.2.2.2.2.2.2.1,I x.2.2.2.2.2.2.2.2.2.2] V:=by rw [← hV]; exact Blk.new _ _ _
 have BC : Below w.heap.size w V:=by rw [← hV]; exact (Below.refl _ _).alloc (Nat.le_refl _) _
 have K1:=HG V BC
 have c0:=(BC.cell (p:=⟨fp,0,none⟩) hfp).trans hc
 have d0:=TV.at 0 rfl
 have d1:=TV.at 1 rfl
 have d2:=TV.at 2 rfl
 have d3:=TV.at 3 rfl
 have d4:=TV.at 4 rfl
 have d5:=TV.at 5 rfl
 have d6:=TV.at 6 rfl
 have d7:=TV.at 7 rfl
 have d8:=TV.at 8 rfl
 have d9:=TV.at 9 rfl
 have d10:=TV.at 10 rfl
 clear HG
 go_enter Tryz.func103,Tryz.ntmps103
 go_wp2_with fail
 try rw [hV]
 refine K1.mono ?_
 clear K1
 rintro en v0 ⟨rfl,hb⟩
 replace BC:=BC.trans (hb.mono BC.size)
 clear hb
 cases b with
 | true =>
  go_wp2
  go_ret
  exact ⟨rfl,BC⟩
 | false =>
  go_wp2
  go_ret
  exact ⟨rfl,BC⟩
set_option maxRecDepth 100000 in
set_option maxHeartbeats 3200000 in
theorem idxEv_is (wb rb : Nat) (d : TD) (a : Option Addr) (cap : Nat) (xs : List TE) (fp : Nat) (w : World) (hr : FRow 11 cE w a xs) (hl : xs.length ≤ 1048576) (hfp : fp < w.heap.size) (hc : w.cell? ⟨fp,0,none⟩ = some (.func (.func 55) #[] #[.pointer (some ⟨wb,0,none⟩),.pointer (some ⟨rb,0,none⟩)])) (HG : ∀ x ∈ xs,∀ w',Below w.heap.size w w' → Calls Tryz.prog 55 #[.agg #[I x.1,I x.2.1,I x.2.2.1,I x.2.2.2.1,I x.2.2.2.2.1,I x.2.2.2.2.2.1,I x.2.2.2.2.2.2.1,I x.2.2.2.2.2.2.2.1,I x.2.2.2.2.2.2.2.2.1,I x.2.2.2.2.2.2.2.2.2.1,I x.2.2.2.2.2.2.2.2.2.2],.pointer (some ⟨wb,0,none⟩),.pointer (some ⟨rb,0,none⟩)] w' fun e w'' => e = .returned (.bool (scB d x)) ∧ Below w'.heap.size w' w'') :
  Calls Tryz.prog 148 #[.slice a xs.length cap,.func (.func 103) #[] #[.pointer (some ⟨fp,0,none⟩)]] w fun e w' => IdxP (xs.all (fun x => scB d x)) e ∧ Below w.heap.size w w':=by
 go_enter Tryz.func148,Tryz.ntmps148
 go_wp2
 go_loopw [8] (fun i wr => ∃ k : Nat,k ≤ xs.length ∧ i = I k ∧ Hid (∀ j (h : j < xs.length),j < k → (fun x => scB d x) xs[j] = true) ∧ Below w.heap.size w wr) (fun i _ => xs.length - (intOf i).toNat)
 case atStart => exact ⟨0,by omega,rfl,fun j h hj => absurd hj (by omega),Below.refl _ _⟩
 case round =>
  obtain ⟨k,hk,rfl,hno,hbel⟩:=hrel
  by_cases hlt : k < xs.length
  ·obtain ⟨b1,o1,rfl,l1,hcc⟩:=hr k hlt
   have c0 : wr.cell? ⟨b1,o1 + k * 11,none⟩ = some (I xs[k].1):=(hbel.cell (p:=⟨b1,o1 + k * 11,none⟩) l1).trans (hcc 0 _ rfl)
   have c1 : wr.cell? ⟨b1,o1 + k * 11 + 1,none⟩ = some (I xs[k].2.1):=(hbel.cell (p:=⟨b1,o1 + k * 11 + 1,none⟩) l1).trans (hcc 1 _ rfl)
   have c2 : wr.cell? ⟨b1,o1 + k * 11 + 2,none⟩ = some (I xs[k].2.2.1):=(hbel.cell (p:=⟨b1,o1 + k * 11 + 2,none⟩) l1).trans (hcc 2 _ rfl)
   have c3 : wr.cell? ⟨b1,o1 + k * 11 + 3,none⟩ = some (I xs[k].2.2.2.1):=(hbel.cell (p:=⟨b1,o1 + k * 11 + 3,none⟩) l1).trans (hcc 3 _ rfl)
   have c4 : wr.cell? ⟨b1,o1 + k * 11 + 4,none⟩ = some (I xs[k].2.2.2.2.1):=(hbel.cell (p:=⟨b1,o1 + k * 11 + 4,none⟩) l1).trans (hcc 4 _ rfl)
   have c5 : wr.cell? ⟨b1,o1 + k * 11 + 5,none⟩ = some (I xs[k].2.2.2.2.2.1):=(hbel.cell (p:=⟨b1,o1 + k * 11 + 5,none⟩) l1).trans (hcc 5 _ rfl)
   have c6 : wr.cell? ⟨b1,o1 + k * 11 + 6,none⟩ = some (I xs[k].2.2.2.2.2.2.1):=(hbel.cell (p:=⟨b1,o1 + k * 11 + 6,none⟩) l1).trans (hcc 6 _ rfl)
   have c7 : wr.cell? ⟨b1,o1 + k * 11 + 7,none⟩ = some (I xs[k].2.2.2.2.2.2.2.1):=(hbel.cell (p:=⟨b1,o1 + k * 11 + 7,none⟩) l1).trans (hcc 7 _ rfl)
   have c8 : wr.cell? ⟨b1,o1 + k * 11 + 8,none⟩ = some (I xs[k].2.2.2.2.2.2.2.2.1):=(hbel.cell (p:=⟨b1,o1 + k * 11 + 8,none⟩) l1).trans (hcc 8 _ rfl)
   have c9 : wr.cell? ⟨b1,o1 + k * 11 + 9,none⟩ = some (I xs[k].2.2.2.2.2.2.2.2.2.1):=(hbel.cell (p:=⟨b1,o1 + k * 11 + 9,none⟩) l1).trans (hcc 9 _ rfl)
   have c10 : wr.cell? ⟨b1,o1 + k * 11 + 10,none⟩ = some (I xs[k].2.2.2.2.2.2.2.2.2.2):=(hbel.cell (p:=⟨b1,o1 + k * 11 + 10,none⟩) l1).trans (hcc 10 _ rfl)
   have hlt2 : (k : Int) < (xs.length : Int):=by omega
   have K1:=cloEv_is wb rb d xs[k] fp wr (Nat.lt_of_lt_of_le hfp hbel.size) ((hbel.cell (p:=⟨fp,0,none⟩) hfp).trans hc) (fun w' hb => HG xs[k] (List.getElem_mem hlt) w' (hbel.trans (hb.mono hbel.size)))
   have hno2 : (fun x => scB d x) xs[k] = true → Hid (∀ j (h : j < xs.length),j < k + 1 → (fun x => scB d x) xs[j] = true):=fun he j h hj => by
    by_cases e : j = k
    ·subst e; exact he
    ·exact hno.out j h (by omega)
   have hbad : (fun x => scB d x) xs[k] = false → Hid (xs.all (fun x => scB d x) = false):=fun he => by
    show _ = _
    rw [List.all_eq_false]
    exact ⟨xs[k],List.getElem_mem hlt,fun h => absurd (h.symm.trans he) (by decide)⟩
   clear HG hno
   generalize hxk : xs[k] = x at K1 hno2 hbad c0 c1 c2 c3 c4 c5 c6 c7 c8 c9 c10
   clear hxk hcc
   dsimp only at hno2 hbad
   generalize hb0 : scB d x = b at K1 hno2 hbad
   clear hb0
   go_wp2_with fail
   refine K1.mono ?_
   clear K1 c0 c1 c2 c3 c4 c5 c6 c7 c8 c9 c10
   rintro en v0 ⟨rfl,hb⟩
   replace hbel:=hbel.trans (hb.mono hbel.size)
   clear hb
   cases b with
   | true =>
    have hno3:=hno2 rfl
    clear hno2 hbad
    go_wp2
    go_roundw
    case rel => exact ⟨k + 1,by omega,by go_num,hno3,hbel⟩
    case measure => simp [intOf]; omega
   | false =>
    have hbd:=hbad rfl
    clear hno2 hbad
    go_wp2
    go_ret
    refine ⟨?_,hbel⟩
    rw [hbd.out]
    exact ⟨(k : Int),rfl,by simp⟩
  ·have HV : Hid (xs.all (fun x => scB d x) = true):=by
    show _ = _
    rw [List.all_eq_true]
    intro x hx
    obtain ⟨j,hj,rfl⟩:=List.mem_iff_getElem.1 hx
    exact hno.out j hj (by omega)
   have hlt2 : ¬ (k : Int) < (xs.length : Int):=by omega
   clear hno HG hr
   go_wp2
   go_ret
   refine ⟨?_,hbel⟩
   rw [HV.out]
   exact ⟨-1,rfl,by simp⟩
set_option maxRecDepth 100000 in
set_option maxHeartbeats 3200000 in
theorem allEv_is (wb rb : Nat) (d : TD) (a : Option Addr) (cap : Nat) (xs : List TE) (w : World) (hr : FRow 11 cE w a xs) (hl : xs.length ≤ 1048576) (HG : ∀ x ∈ xs,∀ w',Below w.heap.size w w' → Calls Tryz.prog 55 #[.agg #[I x.1,I x.2.1,I x.2.2.1,I x.2.2.2.1,I x.2.2.2.2.1,I x.2.2.2.2.2.1,I x.2.2.2.2.2.2.1,I x.2.2.2.2.2.2.2.1,I x.2.2.2.2.2.2.2.2.1,I x.2.2.2.2.2.2.2.2.2.1,I x.2.2.2.2.2.2.2.2.2.2],.pointer (some ⟨wb,0,none⟩),.pointer (some ⟨rb,0,none⟩)] w' fun e w'' => e = .returned (.bool (scB d x)) ∧ Below w'.heap.size w' w'') :
  Calls Tryz.prog 54 #[.slice a xs.length cap,.func (.func 55) #[] #[.pointer (some ⟨wb,0,none⟩),.pointer (some ⟨rb,0,none⟩)]] w fun e w' => e = .returned (.bool (xs.all (fun x => scB d x))) ∧ Below w.heap.size w w':=by
 obtain ⟨V,hV⟩ : ∃ V,w.alloc (.cells #[.func (.func 55) #[] #[.pointer (some ⟨wb,0,none⟩),.pointer (some ⟨rb,0,none⟩)]] 110) = V:=⟨_,rfl⟩
 have TV : Blk w.heap.size [.func (.func 55) #[] #[.pointer (some ⟨wb,0,none⟩),.pointer (some ⟨rb,0,none⟩)]] V:=by rw [← hV]; exact Blk.new _ _ _
 have BC : Below w.heap.size w V:=by rw [← hV]; exact (Below.refl _ _).alloc (Nat.le_refl _) _
 have sV : w.heap.size < V.heap.size:=by rw [← hV]; simp
 have K1:=idxEv_is wb rb d a cap xs w.heap.size V (hr.later BC) hl sV (TV.at 0 rfl) (fun x hx w' hb => HG x hx w' (BC.trans (hb.mono BC.size)))
 clear HG hr TV sV
 generalize xs.all (fun x => scB d x) = b at K1 ⊢
 have K2 : Calls Tryz.prog 102 #[.slice a xs.length cap,.func (.func 103) #[] #[.pointer (some ⟨w.heap.size,0,none⟩)]] V fun e w' => e = .returned (.bool (!b)) ∧ Below V.heap.size V w':=by
  go_enter Tryz.func102,Tryz.ntmps102
  go_wp2_with fail
  refine K1.mono ?_
  clear K1
  rintro en v0 ⟨⟨r,rfl,hd⟩,hb⟩
  cases b with
  | true =>
   have hr2 : ¬ (0 ≤ r):=by simpa using hd
   go_wp2
   go_ret
   exact ⟨rfl,hb⟩
  | false =>
   have hr2 : 0 ≤ r:=by simpa using hd
   go_wp2
   go_ret
   exact ⟨rfl,hb⟩
 clear K1
 go_enter Tryz.func54,Tryz.ntmps54
 go_wp2_with fail
 try rw [hV]
 refine K2.mono ?_
 clear K2
 rintro en v0 ⟨rfl,hb⟩
 replace BC:=BC.trans (hb.mono BC.size)
 clear hb
 cases b with
 | true =>
  go_wp2
  go_ret
  exact ⟨rfl,BC⟩
 | false =>
  go_wp2
  go_ret
  exact ⟨rfl,BC⟩
set_option maxRecDepth 100000 in
set_option maxHeartbeats 6400000 in
theorem implSec_is (B : Nat) (d : TD) (w : World) (hd : WdOk B w d) (hI : EvI d) : Calls Tryz.prog 11 #[vD d] w fun e w' => e = .returned (.bool (wokB d && d.2.2.2.2.2.2.2.2.1.2.2.all fun x => scB d x)) ∧ Below w.heap.size w w':=by
 obtain ⟨ie,hie,his⟩:=info_D
 obtain ⟨V,hV⟩ : ∃ V,w.alloc (.cells #[.slice d.1.1.1 d.1.1.2.2.length d.1.1.2.1,.slice d.1.2.1.1 d.1.2.1.2.2.length d.1.2.1.2.1,.slice d.1.2.2.1.1 d.1.2.2.1.2.2.length d.1.2.2.1.2.1,.slice d.1.2.2.2.1.1 d.1.2.2.2.1.2.2.length d.1.2.2.2.1.2.1,I d.1.2.2.2.2,I d.2.1,I d.2.2.1,.slice d.2.2.2.1.1 d.2.2.2.1.2.2.length d.2.2.2.1.2.1,.slice d.2.2.2.2.1.1.1 d.2.2.2.2.1.1.2.2.length d.2.2.2.2.1.1.2.1,.slice d.2.2.2.2.1.2.1 d.2.2.2.2.1.2.2.2.length d.2.2.2.2.1.2.2.1,.slice d.2.2.2.2.2.1.1 d.2.2.2.2.2.1.2.2.length d.2.2.2.2.2.1.2.1,.slice d.2.2.2.2.2.2.1.1 d.2.2.2.2.2.2.1.2.2.length d.2.2.2.2.2.2.1.2.1,.slice d.2.2.2.2.2.2.2.1.1 d.2.2.2.2.2.2.2.1.2.2.length d.2.2.2.2.2.2.2.1.2.1,.slice d.2.2.2.2.2.2.2.2.1.1 d.2.2.2.2.2.2.2.2.1.2.2.length d.2.2.2.2.2.2.2.2.1.2.1,.slice d.2.2.2.2.2.2.2.2.2.1.1 d.2.2.2.2.2.2.2.2.2.1.2.2.length d.2.2.2.2.2.2.2.2.2.1.2.1,.slice d.2.2.2.2.2.2.2.2.2.2.1 d.2.2.2.2.2.2.2.2.2.2.2.2.length d.2.2.2.2.2.2.2.2.2.2.2.1] 48) = V:=⟨_,rfl⟩
 have TV : Blk w.heap.size [.slice d.1.1.1 d.1.1.2.2.length d.1.1.2.1,.slice d.1.2.1.1 d.1.2.1.2.2.length d.1.2.1.2.1,.slice d.1.2.2.1.1 d.1.2.2.1.2.2.length d.1.2.2.1.2.1,.slice d.1.2.2.2.1.1 d.1.2.2.2.1.2.2.length d.1.2.2.2.1.2.1,I d.1.2.2.2.2,I d.2.1,I d.2.2.1,.slice d.2.2.2.1.1 d.2.2.2.1.2.2.length d.2.2.2.1.2.1,.slice d.2.2.2.2.1.1.1 d.2.2.2.2.1.1.2.2.length d.2.2.2.2.1.1.2.1,.slice d.2.2.2.2.1.2.1 d.2.2.2.2.1.2.2.2.length d.2.2.2.2.1.2.2.1,.slice d.2.2.2.2.2.1.1 d.2.2.2.2.2.1.2.2.length d.2.2.2.2.2.1.2.1,.slice d.2.2.2.2.2.2.1.1 d.2.2.2.2.2.2.1.2.2.length d.2.2.2.2.2.2.1.2.1,.slice d.2.2.2.2.2.2.2.1.1 d.2.2.2.2.2.2.2.1.2.2.length d.2.2.2.2.2.2.2.1.2.1,.slice d.2.2.2.2.2.2.2.2.1.1 d.2.2.2.2.2.2.2.2.1.2.2.length d.2.2.2.2.2.2.2.2.1.2.1,.slice d.2.2.2.2.2.2.2.2.2.1.1 d.2.2.2.2.2.2.2.2.2.1.2.2.length d.2.2.2.2.2.2.2.2.2.1.2.1,.slice d.2.2.2.2.2.2.2.2.2.2.1 d.2.2.2.2.2.2.2.2.2.2.2.2.length d.2.2.2.2.2.2.2.2.2.2.2.1] V:=by rw [← hV]; exact Blk.new _ _ _
 have BC : Below w.heap.size w V:=by rw [← hV]; exact (Below.refl _ _).alloc (Nat.le_refl _) _
 have K1:=worldRight_is B _ V (hd.later BC)
 go_enter Tryz.func11,Tryz.ntmps11
 go_wp2_with (first | (refine wpList_ldB 48 _ w.heap.size 0 _ [.slice d.1.1.1 d.1.1.2.2.length d.1.1.2.1,.slice d.1.2.1.1 d.1.2.1.2.2.length d.1.2.1.2.1,.slice d.1.2.2.1.1 d.1.2.2.1.2.2.length d.1.2.2.1.2.1,.slice d.1.2.2.2.1.1 d.1.2.2.2.1.2.2.length d.1.2.2.2.1.2.1,I d.1.2.2.2.2,I d.2.1,I d.2.2.1,.slice d.2.2.2.1.1 d.2.2.2.1.2.2.length d.2.2.2.1.2.1,.slice d.2.2.2.2.1.1.1 d.2.2.2.2.1.1.2.2.length d.2.2.2.2.1.1.2.1,.slice d.2.2.2.2.1.2.1 d.2.2.2.2.1.2.2.2.length d.2.2.2.2.1.2.2.1,.slice d.2.2.2.2.2.1.1 d.2.2.2.2.2.1.2.2.length d.2.2.2.2.2.1.2.1,.slice d.2.2.2.2.2.2.1.1 d.2.2.2.2.2.2.1.2.2.length d.2.2.2.2.2.2.1.2.1,.slice d.2.2.2.2.2.2.2.1.1 d.2.2.2.2.2.2.2.1.2.2.length d.2.2.2.2.2.2.2.1.2.1,.slice d.2.2.2.2.2.2.2.2.1.1 d.2.2.2.2.2.2.2.2.1.2.2.length d.2.2.2.2.2.2.2.2.1.2.1,.slice d.2.2.2.2.2.2.2.2.2.1.1 d.2.2.2.2.2.2.2.2.2.1.2.2.length d.2.2.2.2.2.2.2.2.2.1.2.1,.slice d.2.2.2.2.2.2.2.2.2.2.1 d.2.2.2.2.2.2.2.2.2.2.2.2.length d.2.2.2.2.2.2.2.2.2.2.2.1] ie hie (Tryz.isAgg48) TV his.symm rfl rfl rfl rfl ?_))
 refine K1.mono ?_
 clear K1 hV
 rintro en v0 ⟨rfl,hb⟩
 replace TV:=TV.later hb TV.lt
 replace BC:=BC.trans (hb.mono BC.size)
 clear hb
 by_cases hw : wokB d = true
 ·have hk:=wok_kn hw
  have hN:=(hd.later BC).ow.2.2.1
  have hlt:=tot_parts hd.le
  have K2:=Kn.impl_reach d.2.2.2.2.1.1.1 d.2.2.2.2.1.2.1 d.2.2.2.2.1.1.2.1 d.2.2.2.2.1.2.2.1 d.2.2.2.2.1.1.2.2 d.2.2.2.2.1.2.2.2 v0 (RoS.dp hN.1) (RoI.dp hN.2) hlt.2.2.1.1 hlt.2.2.1.2.1 (own_cap hN.1) hlt.2.2.1.2.2
  have HV : Hid (wokB d = true):=hw
  have KA:=fun (U : World) (rb : Nat) (K : List Int) (ra : Option Addr) (rc : Nat) (h : Below w.heap.size w U) (TU : Blk w.heap.size [.slice d.1.1.1 d.1.1.2.2.length d.1.1.2.1,.slice d.1.2.1.1 d.1.2.1.2.2.length d.1.2.1.2.1,.slice d.1.2.2.1.1 d.1.2.2.1.2.2.length d.1.2.2.1.2.1,.slice d.1.2.2.2.1.1 d.1.2.2.2.1.2.2.length d.1.2.2.2.1.2.1,I d.1.2.2.2.2,I d.2.1,I d.2.2.1,.slice d.2.2.2.1.1 d.2.2.2.1.2.2.length d.2.2.2.1.2.1,.slice d.2.2.2.2.1.1.1 d.2.2.2.2.1.1.2.2.length d.2.2.2.2.1.1.2.1,.slice d.2.2.2.2.1.2.1 d.2.2.2.2.1.2.2.2.length d.2.2.2.2.1.2.2.1,.slice d.2.2.2.2.2.1.1 d.2.2.2.2.2.1.2.2.length d.2.2.2.2.2.1.2.1,.slice d.2.2.2.2.2.2.1.1 d.2.2.2.2.2.2.1.2.2.length d.2.2.2.2.2.2.1.2.1,.slice d.2.2.2.2.2.2.2.1.1 d.2.2.2.2.2.2.2.1.2.2.length d.2.2.2.2.2.2.2.1.2.1,.slice d.2.2.2.2.2.2.2.2.1.1 d.2.2.2.2.2.2.2.2.1.2.2.length d.2.2.2.2.2.2.2.2.1.2.1,.slice d.2.2.2.2.2.2.2.2.2.1.1 d.2.2.2.2.2.2.2.2.2.1.2.2.length d.2.2.2.2.2.2.2.2.2.1.2.1,.slice d.2.2.2.2.2.2.2.2.2.2.1 d.2.2.2.2.2.2.2.2.2.2.2.2.length d.2.2.2.2.2.2.2.2.2.2.2.1] U) (TR : Blk rb [.slice ra K.length rc] U) (hR : RowAt (Value.int .i64) U ra K) (hKl : K.length ≤ 1048576) (hK : ∀ k,K.contains k = rcB d k) => allEv_is w.heap.size rb d d.2.2.2.2.2.2.2.2.1.1 d.2.2.2.2.2.2.2.2.1.2.1 d.2.2.2.2.2.2.2.2.1.2.2 U ((hd.later h).ow.2.2.2.2.2.2.1.dp) (by have:=wok_log hw; omega) (fun x hx w' hb => sec1_is w.heap.size rb B d x K ra rc w' ((hd.later h).later hb) hw hI hx (TU.later hb TU.lt) ((TR.later hb TR.lt).at 0 rfl) (Nat.lt_of_lt_of_le TR.lt hb.size) (hR.later hb) hKl hK)
  rw [hw]
  clear hw
  have d8:=TV.at 8 rfl
  have d9:=TV.at 9 rfl
  go_wp2_with fail
  refine K2.mono ?_
  clear K2
  rintro en v1 ⟨ra,rc,KS,rfl,ho,hF,hb⟩
  have hkm : ∀ k,k ∈ KS ↔ Kn.ReachT d.2.2.2.2.1.1.2.2 d.2.2.2.2.1.2.2.2 k:=fun k => by rw [hF.out.1 k]; simp [hk]
  have hkl:=keys_len hk ⟨hkm,hF.out.2⟩
  have hrr : RowAt (Value.int .i64) v1 ra KS:=row_own ho
  replace TV:=TV.later hb TV.lt
  replace BC:=BC.trans (hb.mono BC.size)
  clear hb ho d8 d9 hF
  obtain ⟨A,hA⟩ : ∃ A,v1.alloc (.cells #[.slice none 0 0] 22) = A:=⟨_,rfl⟩
  have TA : Blk v1.heap.size [.slice none 0 0] A:=by rw [← hA]; exact Blk.new _ _ _
  have bA : Below v1.heap.size v1 A:=by rw [← hA]; exact (Below.refl _ _).alloc (Nat.le_refl _) _
  obtain ⟨A2,hA2⟩ : ∃ A2,A.setCell ⟨v1.heap.size,0,none⟩ (.slice ra KS.length rc) = A2:=⟨_,rfl⟩
  have TA2 : Blk v1.heap.size [.slice ra KS.length rc] A2:=by rw [← hA2]; exact TA.set 0 _
  have bA2 : Below v1.heap.size v1 A2:=by rw [← hA2]; exact bA.setCell (Nat.le_refl _) _
  have a0:=TA.at 0 rfl
  have a1:=TA.fz 0 rfl
  replace TV:=TV.later bA2 TV.lt
  replace hrr:=hrr.later bA2
  replace BC:=BC.trans (bA2.mono BC.size)
  have K3:=KA A2 v1.heap.size KS ra rc BC TV TA2 hrr hkl (rc_of hkm)
  have d13:=TV.at 13 rfl
  generalize hbe : (d.2.2.2.2.2.2.2.2.1.2.2.all fun x => scB d x) = b at K3
  have HB : Hid ((d.2.2.2.2.2.2.2.2.1.2.2.all fun x => scB d x) = b):=hbe
  clear hbe KA hrr hkl hkm TV TA2 TA bA bA2
  go_wp2_with fail
  try rw [hA2]
  refine K3.mono ?_
  clear K3
  rintro en v2 ⟨rfl,hb⟩
  replace BC:=BC.trans (hb.mono BC.size)
  clear hb d13
  go_wp2
  go_ret
  exact ⟨by rw [HV.out,HB.out]; rfl,BC⟩
 ·rw [Bool.not_eq_true] at hw
  rw [hw]
  go_wp2
  go_ret
  exact ⟨by rw [hw]; rfl,BC⟩
end Go.Proofs.YtlmpfkbgknbcnaaGreat.Nd
