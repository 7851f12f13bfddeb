/- Secret: the model. -/
import Derived.Test.YtlmpfkbgknbcnaaGreatAb
import Derived.Test.YtlmpfkbgknbcnaaGreatSc1
set_option linter.unusedVariables false
set_option maxRecDepth 100000
namespace Go.Proofs.YtlmpfkbgknbcnaaGreat.Nd
open Go Go.RowKit Go.Joins Own Draw Term
theorem has_rc {d : TD} {K : List Int} (h : ∀ k,K.contains k = rcB d k) (x : Int) : hasB K x = rcB d x:=by
 rw [← h x]
 unfold hasB
 try (rw [Bool.eq_iff_iff]; try simp)
set_option maxRecDepth 100000 in
set_option maxHeartbeats 6400000 in
theorem specSec_is (B : Nat) (d : TD) (w : World) (hd : WdOk B w d) (hI : EvI d) : Calls Tryz.prog 10 #[vD d] w fun e w' => e = .returned (.bool (wokB d && d.2.2.2.2.2.2.2.2.1.2.2.all fun x => scB d x)) ∧ Below w.heap.size w w':=by
 obtain ⟨ie,hie,his⟩:=info_D
 obtain ⟨ic,hic,hics⟩:=info_F
 obtain ⟨V,hV⟩ : ∃ V,w.alloc (.cells #[.slice d.1.1.1 d.1.1.2.2.length d.1.1.2.1,.slice d.1.2.1.1 d.1.2.1.2.2.length d.1.2.1.2.1,.slice d.1.2.2.1.1 d.1.2.2.1.2.2.length d.1.2.2.1.2.1,.slice d.1.2.2.2.1.1 d.1.2.2.2.1.2.2.length d.1.2.2.2.1.2.1,I d.1.2.2.2.2,I d.2.1,I d.2.2.1,.slice d.2.2.2.1.1 d.2.2.2.1.2.2.length d.2.2.2.1.2.1,.slice d.2.2.2.2.1.1.1 d.2.2.2.2.1.1.2.2.length d.2.2.2.2.1.1.2.1,.slice d.2.2.2.2.1.2.1 d.2.2.2.2.1.2.2.2.length d.2.2.2.2.1.2.2.1,.slice d.2.2.2.2.2.1.1 d.2.2.2.2.2.1.2.2.length d.2.2.2.2.2.1.2.1,.slice d.2.2.2.2.2.2.1.1 d.2.2.2.2.2.2.1.2.2.length d.2.2.2.2.2.2.1.2.1,.slice d.2.2.2.2.2.2.2.1.1 d.2.2.2.2.2.2.2.1.2.2.length d.2.2.2.2.2.2.2.1.2.1,.slice d.2.2.2.2.2.2.2.2.1.1 d.2.2.2.2.2.2.2.2.1.2.2.length d.2.2.2.2.2.2.2.2.1.2.1,.slice d.2.2.2.2.2.2.2.2.2.1.1 d.2.2.2.2.2.2.2.2.2.1.2.2.length d.2.2.2.2.2.2.2.2.2.1.2.1,.slice d.2.2.2.2.2.2.2.2.2.2.1 d.2.2.2.2.2.2.2.2.2.2.2.2.length d.2.2.2.2.2.2.2.2.2.2.2.1] 48) = V:=⟨_,rfl⟩
 have TV : Blk w.heap.size [.slice d.1.1.1 d.1.1.2.2.length d.1.1.2.1,.slice d.1.2.1.1 d.1.2.1.2.2.length d.1.2.1.2.1,.slice d.1.2.2.1.1 d.1.2.2.1.2.2.length d.1.2.2.1.2.1,.slice d.1.2.2.2.1.1 d.1.2.2.2.1.2.2.length d.1.2.2.2.1.2.1,I d.1.2.2.2.2,I d.2.1,I d.2.2.1,.slice d.2.2.2.1.1 d.2.2.2.1.2.2.length d.2.2.2.1.2.1,.slice d.2.2.2.2.1.1.1 d.2.2.2.2.1.1.2.2.length d.2.2.2.2.1.1.2.1,.slice d.2.2.2.2.1.2.1 d.2.2.2.2.1.2.2.2.length d.2.2.2.2.1.2.2.1,.slice d.2.2.2.2.2.1.1 d.2.2.2.2.2.1.2.2.length d.2.2.2.2.2.1.2.1,.slice d.2.2.2.2.2.2.1.1 d.2.2.2.2.2.2.1.2.2.length d.2.2.2.2.2.2.1.2.1,.slice d.2.2.2.2.2.2.2.1.1 d.2.2.2.2.2.2.2.1.2.2.length d.2.2.2.2.2.2.2.1.2.1,.slice d.2.2.2.2.2.2.2.2.1.1 d.2.2.2.2.2.2.2.2.1.2.2.length d.2.2.2.2.2.2.2.2.1.2.1,.slice d.2.2.2.2.2.2.2.2.2.1.1 d.2.2.2.2.2.2.2.2.2.1.2.2.length d.2.2.2.2.2.2.2.2.2.1.2.1,.slice d.2.2.2.2.2.2.2.2.2.2.1 d.2.2.2.2.2.2.2.2.2.2.2.2.length d.2.2.2.2.2.2.2.2.2.2.2.1] V:=by rw [← hV]; exact Blk.new _ _ _
 have BC : Below w.heap.size w V:=by rw [← hV]; exact (Below.refl _ _).alloc (Nat.le_refl _) _
 have K1:=specWorldOk_is B _ V (hd.later BC)
 go_enter Tryz.func10,Tryz.ntmps10
 go_wp2_with (first | (refine wpList_ldB 48 _ w.heap.size 0 _ [.slice d.1.1.1 d.1.1.2.2.length d.1.1.2.1,.slice d.1.2.1.1 d.1.2.1.2.2.length d.1.2.1.2.1,.slice d.1.2.2.1.1 d.1.2.2.1.2.2.length d.1.2.2.1.2.1,.slice d.1.2.2.2.1.1 d.1.2.2.2.1.2.2.length d.1.2.2.2.1.2.1,I d.1.2.2.2.2,I d.2.1,I d.2.2.1,.slice d.2.2.2.1.1 d.2.2.2.1.2.2.length d.2.2.2.1.2.1,.slice d.2.2.2.2.1.1.1 d.2.2.2.2.1.1.2.2.length d.2.2.2.2.1.1.2.1,.slice d.2.2.2.2.1.2.1 d.2.2.2.2.1.2.2.2.length d.2.2.2.2.1.2.2.1,.slice d.2.2.2.2.2.1.1 d.2.2.2.2.2.1.2.2.length d.2.2.2.2.2.1.2.1,.slice d.2.2.2.2.2.2.1.1 d.2.2.2.2.2.2.1.2.2.length d.2.2.2.2.2.2.1.2.1,.slice d.2.2.2.2.2.2.2.1.1 d.2.2.2.2.2.2.2.1.2.2.length d.2.2.2.2.2.2.2.1.2.1,.slice d.2.2.2.2.2.2.2.2.1.1 d.2.2.2.2.2.2.2.2.1.2.2.length d.2.2.2.2.2.2.2.2.1.2.1,.slice d.2.2.2.2.2.2.2.2.2.1.1 d.2.2.2.2.2.2.2.2.2.1.2.2.length d.2.2.2.2.2.2.2.2.2.1.2.1,.slice d.2.2.2.2.2.2.2.2.2.2.1 d.2.2.2.2.2.2.2.2.2.2.2.2.length d.2.2.2.2.2.2.2.2.2.2.2.1] ie hie (Tryz.isAgg48) TV his.symm rfl rfl rfl rfl ?_))
 refine K1.mono ?_
 clear K1 hV
 rintro en v0 ⟨rfl,hb⟩
 replace TV:=TV.later hb TV.lt
 replace BC:=BC.trans (hb.mono BC.size)
 clear hb
 by_cases hw : wokB d = true
 ·have hk:=wok_kn hw
  have hN:=(hd.later BC).ow.2.2.1
  have hlt:=tot_parts hd.le
  have K2:=Kn.l3CloseN_is d.2.2.2.2.1.1.1 d.2.2.2.2.1.2.1 d.2.2.2.2.1.1.2.1 d.2.2.2.2.1.2.2.1 d.2.2.2.2.1.1.2.2 d.2.2.2.2.1.2.2.2 v0 (RoS.dp hN.1) (RoI.dp hN.2) hk
  have HW : Hid (wokB d = true):=hw
  have hll:=wok_log hw
  have hlkl:=(wok_parts hw).2.2
  have hrl:=ro_len hw
  have KR : Hid (∀ (n : Int) (U : World),Below w.heap.size w U → Calls Tryz.prog 50 #[(cfOf d.1).val,.slice d.2.2.2.2.2.2.2.2.1.1 d.2.2.2.2.2.2.2.2.1.2.2.length d.2.2.2.2.2.2.2.2.1.2.1,I n] U fun en w' => ∃ (ra : Option Addr) (rc : Nat),en = .returned (.slice ra (roP (cfOf d.1) d.2.2.2.2.2.2.2.2.1.2.2 n).length rc) ∧ w'.ownsRow U.heap.size 3 1 (.slice ra (roP (cfOf d.1) d.2.2.2.2.2.2.2.2.1.2.2 n).length rc) (roP (cfOf d.1) d.2.2.2.2.2.2.2.2.1.2.2 n).length (intV (roP (cfOf d.1) d.2.2.2.2.2.2.2.2.1.2.2 n)) ∧ Below U.heap.size U w'):=fun n U h => by
   have hF : OwF B w d.1:=hd.ow.1
   have:=specRoots_is (cfOf d.1) d.2.2.2.2.2.2.2.2.1.1 d.2.2.2.2.2.2.2.2.1.2.1 d.2.2.2.2.2.2.2.2.1.2.2 n U ((cf_at hF).later h) (cf_ok hF hlt.1.1 hlt.1.2.1 hlt.1.2.2.1 hlt.1.2.2.2) ((hd.later h).ow.2.2.2.2.2.2.1.dp) (by omega) (fun _ => by omega)
   rw [rt_same _ _ _ (fun p hp => (hI.ev p hp).2.2)] at this
   exact this
  rw [hw]
  clear hw
  have d8:=TV.at 8 rfl
  have d9:=TV.at 9 rfl
  go_wp2_with fail
  refine K2.mono ?_
  clear K2
  rintro en v1 ⟨sa,ra,sc,rc,SS,KS,rfl,hoS,ho,hF,hb⟩
  have hkm : ∀ k,k ∈ KS ↔ Kn.ReachT d.2.2.2.2.1.1.2.2 d.2.2.2.2.1.2.2.2 k:=hF.out.2.1
  have hkl:=keys_len hk ⟨hkm,hF.out.2.2.1⟩
  have hkc:=has_rc (rc_of hkm)
  have hrr : RowAt (Value.int .i64) v1 ra KS:=row_own ho
  replace TV:=TV.later hb TV.lt
  replace BC:=BC.trans (hb.mono BC.size)
  have hfr : FRow 11 cE v1 d.2.2.2.2.2.2.2.2.1.1 d.2.2.2.2.2.2.2.2.1.2.2:=(hd.later BC).ow.2.2.2.2.2.2.1.dp
  have hlk : RowAt (Value.int .i64) v1 d.2.2.2.2.2.2.2.2.2.2.1 d.2.2.2.2.2.2.2.2.2.2.2.2:=(hd.later BC).ow.2.2.2.2.2.2.2.2.dp
  have HLK:=show Hid (wokB d = true) from HW
  clear hb ho hoS d8 d9 hF hN hd hkm hk hlt
  go_wp2
  go_loopw [5] (fun iv wr => ∃ k : Nat,k ≤ d.2.2.2.2.2.2.2.2.1.2.2.length ∧ iv = I k ∧ Hid (∀ j (h : j < d.2.2.2.2.2.2.2.2.1.2.2.length),j < k → scB d d.2.2.2.2.2.2.2.2.1.2.2[j] = true) ∧ Below v1.heap.size v1 wr) (fun iv _ => d.2.2.2.2.2.2.2.2.1.2.2.length - (intOf iv).toNat)
  case atStart => exact ⟨0,by omega,rfl,fun j h hj => absurd hj (by omega),Below.refl _ _⟩
  case round =>
   obtain ⟨k,hk,rfl,hno,hbel⟩:=hrel
   have TW:=TV.later hbel TV.lt
   have d13:=TW.at 13 rfl
   by_cases hlt : k < d.2.2.2.2.2.2.2.2.1.2.2.length
   ·have HYES : Hid (scB d d.2.2.2.2.2.2.2.2.1.2.2[k] = true → Hid (∀ j (h : j < d.2.2.2.2.2.2.2.2.1.2.2.length),j < k + 1 → scB d d.2.2.2.2.2.2.2.2.1.2.2[j] = true)):=fun he j h hj => by
     by_cases e : j = k
     ·subst e; exact he
     ·exact hno.out j h (by omega)
    have HNO : Hid (scB d d.2.2.2.2.2.2.2.2.1.2.2[k] = false → Hid ((wokB d && d.2.2.2.2.2.2.2.2.1.2.2.all fun x => scB d x) = false)):=fun he => by
     show _ = _
     rw [HW.out,Bool.true_and,List.all_eq_false]
     exact ⟨_,List.getElem_mem hlt,by rw [he]; simp⟩
    have HE : Hid (scB d d.2.2.2.2.2.2.2.2.1.2.2[k] = !(decide (0 < (roP (cfOf d.1) d.2.2.2.2.2.2.2.2.1.2.2 (kyE d.2.2.2.2.2.2.2.2.1.2.2[k])).length) && (!(mtB (roP (cfOf d.1) d.2.2.2.2.2.2.2.2.1.2.2 (kyE d.2.2.2.2.2.2.2.2.1.2.2[k])) d.2.2.2.2.2.2.2.2.2.2.2.2) && rcB d (kyE d.2.2.2.2.2.2.2.2.1.2.2[k])))):=sc_eq d _
    have hlt2 : (k : Int) < (d.2.2.2.2.2.2.2.2.1.2.2.length : Int):=by omega
    obtain ⟨b1,o1,ela,l1,hcc⟩:=hfr k hlt
    have HLA : Hid (d.2.2.2.2.2.2.2.2.1.1 = some ⟨b1,o1,none⟩):=ela
    have hc5 : v1.cell? ⟨b1,o1 + k * 11 + 5,none⟩ = some (I (kyE d.2.2.2.2.2.2.2.2.1.2.2[k])):=hcc 5 _ rfl
    have hrk:=hrl (kyE d.2.2.2.2.2.2.2.2.1.2.2[k])
    have KRk:=KR.out (kyE d.2.2.2.2.2.2.2.2.1.2.2[k]) wr.drew ((BC.trans (hbel.mono BC.size)).trans (Below.refl _ _).drew)
    rw [HLA.out] at KRk
    have hkx:=hkc (kyE d.2.2.2.2.2.2.2.2.1.2.2[k])
    generalize d.2.2.2.2.2.2.2.2.1.2.2[k] = x at HYES HNO HE hc5 hrk KRk hkx
    have lW : w.heap.size < wr.drew.heap.size:=TW.lt
    have l1d : b1 < wr.drew.heap.size:=Nat.lt_of_lt_of_le l1 hbel.size
    have hcd : wr.drew.cell? ⟨b1,o1 + k * 11 + 5,none⟩ = some (I (kyE x)):=((hbel.cell (p:=⟨b1,o1 + k * 11 + 5,none⟩) l1).trans hc5)
    have HNB : Hid (Below v1.heap.size v1 wr):=hbel
    clear hcc ela hc5 hno hbel KR hkc
    go_wp2_with fail
    refine wp_region_held_drew (S:=(fun U : World => Blk w.heap.size [.slice d.1.1.1 d.1.1.2.2.length d.1.1.2.1,.slice d.1.2.1.1 d.1.2.1.2.2.length d.1.2.1.2.1,.slice d.1.2.2.1.1 d.1.2.2.1.2.2.length d.1.2.2.1.2.1,.slice d.1.2.2.2.1.1 d.1.2.2.2.1.2.2.length d.1.2.2.2.1.2.1,I d.1.2.2.2.2,I d.2.1,I d.2.2.1,.slice d.2.2.2.1.1 d.2.2.2.1.2.2.length d.2.2.2.1.2.1,.slice d.2.2.2.2.1.1.1 d.2.2.2.2.1.1.2.2.length d.2.2.2.2.1.1.2.1,.slice d.2.2.2.2.1.2.1 d.2.2.2.2.1.2.2.2.length d.2.2.2.2.1.2.2.1,.slice d.2.2.2.2.2.1.1 d.2.2.2.2.2.1.2.2.length d.2.2.2.2.2.1.2.1,.slice d.2.2.2.2.2.2.1.1 d.2.2.2.2.2.2.1.2.2.length d.2.2.2.2.2.2.1.2.1,.slice d.2.2.2.2.2.2.2.1.1 d.2.2.2.2.2.2.2.1.2.2.length d.2.2.2.2.2.2.2.1.2.1,.slice d.2.2.2.2.2.2.2.2.1.1 d.2.2.2.2.2.2.2.2.1.2.2.length d.2.2.2.2.2.2.2.2.1.2.1,.slice d.2.2.2.2.2.2.2.2.2.1.1 d.2.2.2.2.2.2.2.2.2.1.2.2.length d.2.2.2.2.2.2.2.2.2.1.2.1,.slice d.2.2.2.2.2.2.2.2.2.2.1 d.2.2.2.2.2.2.2.2.2.2.2.2.length d.2.2.2.2.2.2.2.2.2.2.2.1] U ∧ U.cell? ⟨b1,o1 + k * 11 + 5,none⟩ = some (I (kyE x)))) (by kernel_rfl) ⟨TW.drew,hcd⟩ (fun hHeld => ?_)
    refine tk 0 23 rfl _ hHeld (by intro w' h; obtain ⟨bD,cK⟩:=h; have l8:=bD.at 13 rfl; rw [HLA.out] at l8; go_simp; try with_reducible rfl) ?_
    try simp only [Act.put,pa,pb,pc]
    refine tk 1 24 rfl (.agg #[.slice d.1.1.1 d.1.1.2.2.length d.1.1.2.1,.slice d.1.2.1.1 d.1.2.1.2.2.length d.1.2.1.2.1,.slice d.1.2.2.1.1 d.1.2.2.1.2.2.length d.1.2.2.1.2.1,.slice d.1.2.2.2.1.1 d.1.2.2.2.1.2.2.length d.1.2.2.2.1.2.1,I d.1.2.2.2.2]) hHeld ?_ ?_
    ·intro w' hSw; (try dsimp only at hSw); obtain ⟨bD,cK⟩:=hSw; exact exec_ld 40 _ rfl rfl (ldB (P:=Tryz.prog) 40 ic hic (Tryz.isAgg40) (o:=0) [.slice d.1.1.1 d.1.1.2.2.length d.1.1.2.1,.slice d.1.2.1.1 d.1.2.1.2.2.length d.1.2.1.2.1,.slice d.1.2.2.1.1 d.1.2.2.1.2.2.length d.1.2.2.1.2.1,.slice d.1.2.2.2.1.1 d.1.2.2.2.1.2.2.length d.1.2.2.2.1.2.1,I d.1.2.2.2.2] bD hics.symm rfl)
    try simp only [Act.put,pa,pb,pc]
    refine tk 2 25 rfl _ hHeld (by intro w' h; obtain ⟨bD,cK⟩:=h; have l8:=bD.at 13 rfl; rw [HLA.out] at l8; go_simp; try with_reducible rfl) ?_
    try simp only [Act.put,pa,pb,pc]
    refine tk 3 26 rfl _ hHeld (by intro w' h; obtain ⟨bD,cK⟩:=h; have l8:=bD.at 13 rfl; rw [HLA.out] at l8; go_simp; try with_reducible rfl) ?_
    try simp only [Act.put,pa,pb,pc]
    refine tk 4 27 rfl _ hHeld (by intro w' h; obtain ⟨bD,cK⟩:=h; have l8:=bD.at 13 rfl; rw [HLA.out] at l8; go_simp; try with_reducible rfl) ?_
    try simp only [Act.put,pa,pb,pc]
    refine tk 5 28 rfl _ hHeld (by intro w' h; obtain ⟨bD,cK⟩:=h; have l8:=bD.at 13 rfl; rw [HLA.out] at l8; go_simp; try with_reducible rfl) ?_
    try simp only [Act.put,pa,pb,pc]
    refine tk 6 29 rfl _ hHeld (by intro w' h; obtain ⟨bD,cK⟩:=h; have l8:=bD.at 13 rfl; rw [HLA.out] at l8; go_simp; try with_reducible rfl) ?_
    try simp only [Act.put,pa,pb,pc]
    refine tk 7 30 rfl _ hHeld (by intro w' h; obtain ⟨bD,cK⟩:=h; have l8:=bD.at 13 rfl; rw [HLA.out] at l8; go_simp; try with_reducible rfl) ?_
    try simp only [Act.put,pa,pb,pc]
    refine tk 8 31 rfl _ hHeld (by intro w' h; obtain ⟨bD,cK⟩:=h; have l8:=bD.at 13 rfl; rw [HLA.out] at l8; go_simp; try with_reducible rfl) ?_
    try simp only [Act.put,pa,pb,pc]
    refine tk 9 32 rfl _ hHeld (by intro w' h; obtain ⟨bD,cK⟩:=h; have l8:=bD.at 13 rfl; rw [HLA.out] at l8; go_simp; try with_reducible rfl) ?_
    try simp only [Act.put,pa,pb,pc]
    refine wpAnyH_ready (rs:=[10]) (by kernel_rfl) (by simp) ?_
    refine AllReadyH.cons (i:=10) rfl (fun K hK => ?_) AllReadyH.nil
    go_simp
    refine (KRk).mono ?_
    rintro en u1 ⟨a1,cc1,rfl,ho1,h1⟩
    clear KRk
    go_wp2_with fail
    refine hK.out _ _ ⟨TW.drew.later h1 lW,(h1.cell (p:=⟨b1,o1 + k * 11 + 5,none⟩) l1d).trans hcd⟩ (fun hHeld2 => ?_)
    clear hK K hHeld
    have hHeld:=hHeld2
    clear hHeld2
    try simp only [Act.put,pa,pb,pc]
    refine tk 11 6 rfl _ hHeld (by intro w' h; obtain ⟨bD,cK⟩:=h; have l8:=bD.at 13 rfl; rw [HLA.out] at l8; go_simp; try with_reducible rfl) ?_
    try simp only [Act.put,pa,pb,pc]
    refine wpAnyH_done (by kernel_rfl) ?_ _
    have hr1 : RowAt (Value.int .i64) u1 a1 (roP (cfOf d.1) d.2.2.2.2.2.2.2.2.1.2.2 (kyE x)):=row_own ho1
    have B1 : Below v1.heap.size v1 u1:=HNB.out.trans (((Below.refl _ wr).drew.trans h1).mono HNB.out.size)
    have T1:=TW.drew.later h1 lW
    have c5:=(h1.cell (p:=⟨b1,o1 + k * 11 + 5,none⟩) l1d).trans hcd
    have d15:=T1.at 15 rfl
    have d13b:=T1.at 13 rfl
    rw [HLA.out] at d13b
    have K3:=meets_is a1 cc1 (roP (cfOf d.1) d.2.2.2.2.2.2.2.2.1.2.2 (kyE x)) d.2.2.2.2.2.2.2.2.2.2.1 d.2.2.2.2.2.2.2.2.2.2.2.1 d.2.2.2.2.2.2.2.2.2.2.2.2 u1 hr1 (hlk.later B1) hrk (by omega)
    have K4:=l3Has_is ra rc KS (kyE x) u1 (hrr.later B1) hkl
    rw [hkx] at K4
    generalize roP (cfOf d.1) d.2.2.2.2.2.2.2.2.1.2.2 (kyE x) = R at K3 hr1 HE
    generalize mtB R d.2.2.2.2.2.2.2.2.2.2.2.2 = b2 at K3 HE
    generalize rcB d (kyE x) = b3 at K4 HE
    have HRT : Hid (scB d x = true → ∃ k' : Nat,k' ≤ d.2.2.2.2.2.2.2.2.1.2.2.length ∧ Value.int .i64 ((k : Int) + 1) = I k' ∧ Hid (∀ j (h : j < d.2.2.2.2.2.2.2.2.1.2.2.length),j < k' → scB d d.2.2.2.2.2.2.2.2.1.2.2[j] = true) ∧ Below v1.heap.size v1 u1):=fun he => ⟨k + 1,by omega,by go_num,HYES.out he,B1⟩
    have B10 : Below w.heap.size w u1:=BC.trans (B1.mono BC.size)
    clear hHeld ho1 h1 hr1 TW HYES HNB d13 B1 T1 hcd HLA TV hfr hlk hrr BC HW HLK hkx hrk hrl
    by_cases h0 : R.length = 0
    ·have HR:=HRT.out (by rw [HE.out,h0]; rfl)
     clear HRT HE K3 K4 HNO
     rw [h0]
     go_wp2
     go_roundw
     case rel => exact HR
     case measure => simp [intOf]; omega
    ·have hz : (0 : Int) < (R.length : Int):=by omega
     have HE2 : Hid (scB d x = !(!b2 && b3)):=by show _ = _; rw [HE.out,decide_eq_true (by omega)]; rfl
     clear HE
     go_wp2_with fail
     refine K3.mono ?_
     clear K3
     rintro en u2 ⟨rfl,rfl⟩
     cases b2 with
     | true =>
      have HR:=HRT.out (by rw [HE2.out]; rfl)
      clear HRT HE2 K4 HNO
      go_wp2
      go_roundw
      case rel => exact HR
      case measure => simp [intOf]; omega
     | false =>
      go_wp2_with fail
      refine K4.mono ?_
      clear K4
      rintro en u3 ⟨rfl,rfl⟩
      cases b3 with
      | false =>
       have HR:=HRT.out (by rw [HE2.out]; rfl)
       clear HRT HE2 HNO
       go_wp2
       go_roundw
       case rel => exact HR
       case measure => simp [intOf]; omega
      | true =>
       have HV2:=HNO.out (by rw [HE2.out]; rfl)
       clear HRT HE2 HNO
       go_wp2
       go_ret
       exact ⟨by rw [HV2.out]; rfl,B10⟩
   ·have hlt2 : ¬ (k : Int) < (d.2.2.2.2.2.2.2.2.1.2.2.length : Int):=by omega
    have HV : Hid ((wokB d && d.2.2.2.2.2.2.2.2.1.2.2.all fun x => scB d x) = true):=by
     show _ = _
     rw [HW.out,Bool.true_and,List.all_eq_true]
     intro x hx
     obtain ⟨j,hj,rfl⟩:=List.getElem_of_mem hx
     exact hno.out j hj (by omega)
    have B10 : Below w.heap.size w wr:=BC.trans (hbel.mono BC.size)
    clear hno hfr hlk hrr TV hbel KR hkc
    go_wp2
    go_ret
    exact ⟨by rw [HV.out]; rfl,B10⟩
 ·rw [Bool.not_eq_true] at hw
  rw [hw]
  go_wp2
  go_ret
  exact ⟨by rw [hw]; rfl,BC⟩
end Go.Proofs.YtlmpfkbgknbcnaaGreat.Nd
