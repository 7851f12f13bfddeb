/- What is right of a Cache, program and model. -/
import Derived.Test.YtlmpfkbgknbcnaaGreatAb
import Derived.Test.YtlmpfkbgknbcnaaGreatRow3
set_option linter.unusedVariables false
namespace Go.Proofs.YtlmpfkbgknbcnaaGreat.Ch
open Go Go.RowKit Draw
def allA (xs : List A3) : Bool:=xs.all fun p => aOk p.1 p.2.1 p.2.2
theorem allA_yes {xs : List A3} (h : ∀ j (hj : j < xs.length),aOk xs[j].1 xs[j].2.1 xs[j].2.2 = true) : allA xs = true:=by
 unfold allA
 rw [List.all_eq_true]
 intro x hx
 obtain ⟨j,hj,rfl⟩:=List.mem_iff_getElem.1 hx
 exact h j hj
theorem allA_no {xs : List A3} {j : Nat} (hj : j < xs.length) (h : aOk xs[j].1 xs[j].2.1 xs[j].2.2 = false) : allA xs = false:=by
 cases hh : allA xs with
 | false => rfl
 | true => unfold allA at hh; rw [List.all_eq_true] at hh; rw [hh _ (List.getElem_mem hj)] at h; cases h
theorem aOk_iff {a b c : Int} : aOk a b c = true ↔ (0 ≤ a ∧ a ≤ 5) ∧ (0 ≤ b ∧ b ≤ 100000) ∧ 0 ≤ c ∧ c ≤ 1000000:=by
 unfold aOk
 rw [Bool.and_eq_true,Bool.and_eq_true,btw_iff,btw_iff,btw_iff]
theorem aOk_i3 {p : A3} (h : aOk p.1 p.2.1 p.2.2 = true) : I3 p:=by
 have:=aOk_iff.1 h
 unfold I3 i64
 omega
theorem allA_i3 {xs : List A3} (h : allA xs = true) : ∀ p ∈ xs,I3 p:=by
 unfold allA at h
 rw [List.all_eq_true] at h
 exact fun p hp => aOk_i3 (h p hp)
/-- What is right of what was seen. -/
def snB (xs : List A3) : Bool:=allA xs && decide xs.Nodup
set_option maxRecDepth 100000 in
set_option maxHeartbeats 3200000 in
theorem seenOk_is (q : Int) (a : Option Addr) (cap : Nat) (xs : List A3) (w : World) (hr : ARow w a xs) (hl : xs.length ≤ 6) :
  Calls Tryz.prog 180 #[cv q a xs.length cap] w fun e w' => e = .returned (.bool (snB xs)) ∧ Below w.heap.size w w':=by
 have hl2 : (xs.length : Int) ≤ 6:=by omega
 go_enter Tryz.func180,Tryz.ntmps180
 go_wp2
 go_loopw [8] (fun i wr => ∃ k : Nat,k ≤ xs.length ∧ i = I k ∧ (∀ j (hj : j < xs.length),j < k → aOk xs[j].1 xs[j].2.1 xs[j].2.2 = true) ∧ Blk w.heap.size [I q,.slice a xs.length cap] wr ∧ Below w.heap.size w wr) (fun i _ => xs.length - (intOf i).toNat)
 case atStart => exact ⟨0,by omega,rfl,fun j hj h => absurd h (by omega),Blk.new _ _ _,(Below.refl _ _).alloc (Nat.le_refl _) _⟩
 case round =>
  obtain ⟨k,hk,rfl,hall,T,hbel⟩:=hrel
  by_cases hlt : k < xs.length
  ·obtain ⟨b,off,rfl,hbl,h0,h1,h2⟩:=hr k hlt
   rw [← hbel.cell (p:=⟨b,off + k * 3,none⟩) hbl] at h0
   rw [← hbel.cell (p:=⟨b,off + k * 3 + 1,none⟩) hbl] at h1
   rw [← hbel.cell (p:=⟨b,off + k * 3 + 2,none⟩) hbl] at h2
   have hlt2 : (k : Int) < (xs.length : Int):=by omega
   have H:=fun (h : aOk xs[k].1 xs[k].2.1 xs[k].2.2 = true) => fun j (hj : j < xs.length) (hjk : j < k + 1) => (if e : j = k then by subst e; exact h else hall j hj (by omega) : aOk xs[j].1 xs[j].2.1 xs[j].2.2 = true)
   have HN:=allA_no (xs:=xs) hlt
   generalize hx : xs[k].1 = x at h0 H HN
   generalize hy : xs[k].2.1 = y at h1 H HN
   generalize hz : xs[k].2.2 = z at h2 H HN
   clear hx hy hz hall
   obtain ⟨V,hV⟩ : ∃ V,wr.alloc (.cells #[I x,I y,I z] 78) = V:=⟨_,rfl⟩
   have TV : Blk wr.heap.size [I x,I y,I z] V:=by rw [← hV]; exact Blk.new _ _ _
   have BV : Below wr.heap.size wr V:=by rw [← hV]; exact (Below.refl _ _).alloc (Nat.le_refl _) _
   replace T:=T.later BV T.lt
   replace hbel:=hbel.trans (BV.mono hbel.size)
   have d0:=TV.at 0 rfl
   have d1:=TV.at 1 rfl
   have d2:=TV.at 2 rfl
   have g0:=TV.fz 0 rfl
   have g1:=TV.fz 1 rfl
   have g2:=TV.fz 2 rfl
   clear TV BV
   have HX:=authOk_is x y z V
   go_wp2_with fail
   try rw [hV]
   refine HX.mono ?_
   clear HX hV h0 h1 h2 d0 d1 d2 g0 g1 g2
   rintro e w2 ⟨rfl,hb2⟩
   replace T:=T.later hb2 T.lt
   replace hbel:=hbel.trans (hb2.mono hbel.size)
   clear hb2
   by_cases hA : aOk x y z = true
   ·rw [hA]
    have H1:=H hA
    clear H HN hA
    go_wp2
    go_roundw
    case rel => exact ⟨k + 1,by omega,by go_num,H1,T,hbel⟩
    case measure => simp [intOf]; omega
   ·rw [Bool.not_eq_true] at hA
    rw [hA]
    have H1:=HN hA
    clear H HN hA
    go_wp2
    go_ret
    exact ⟨by unfold snB; rw [H1]; rfl,hbel⟩
  ·obtain rfl : k = xs.length:=by omega
   have hA : allA xs = true:=allA_yes (fun j hj => hall j hj hj)
   have hin:=allA_i3 hA
   have hrd : ARow wr.drew a xs:=(hr.later hbel).drew
   have BD:=hbel.drew
   have d0 : wr.drew.cell? ⟨w.heap.size,0,none⟩ = some (I q):=T.drew.at 0 rfl
   have d1 : wr.drew.cell? ⟨w.heap.size,1,none⟩ = some (.slice a xs.length cap):=T.drew.at 1 rfl
   have hlt0 : w.heap.size < wr.drew.heap.size:=T.lt
   clear hall T hbel
   go_wp2_with fail
   refine wp_region_held_drew (S:=(fun V : World => V.cell? ⟨w.heap.size,0,none⟩ = some (I q) ∧ V.cell? ⟨w.heap.size,1,none⟩ = some (.slice a xs.length cap))) (by kernel_rfl) ⟨d0,d1⟩ (fun hHeld => ?_)
   refine tk 0 16 rfl _ hHeld (by intro w' h; (try dsimp only at h); obtain ⟨c0,c1⟩:=h; go_simp; try with_reducible rfl) ?_
   try simp only [Act.put,pa,pb,pc]
   refine tk 3 19 rfl _ hHeld (by intro w' h; (try dsimp only at h); obtain ⟨c0,c1⟩:=h; go_simp; try with_reducible rfl) ?_
   try simp only [Act.put,pa,pb,pc]
   refine tk 4 20 rfl _ hHeld (by intro w' h; (try dsimp only at h); obtain ⟨c0,c1⟩:=h; go_simp; try with_reducible rfl) ?_
   try simp only [Act.put,pa,pb,pc]
   refine tk 5 21 rfl _ hHeld (by intro w' h; (try dsimp only at h); obtain ⟨c0,c1⟩:=h; go_simp; try with_reducible rfl) ?_
   try simp only [Act.put,pa,pb,pc]
   refine wpAnyH_ready (rs:=[1]) (by kernel_rfl) (by simp) ?_
   refine AllReadyH.cons (i:=1) rfl (fun K hK => ?_) AllReadyH.nil
   go_simp
   refine (counts_is q a cap xs _ hrd hl hin).mono ?_
   rintro e w2 ⟨m,rfl,hM,hm,hb2⟩
   have d0n:=(hb2.cell (p:=⟨w.heap.size,0,none⟩) hlt0).trans d0
   have d1n:=(hb2.cell (p:=⟨w.heap.size,1,none⟩) hlt0).trans d1
   have BN:=BD.trans (hb2.mono BD.size)
   obtain ⟨s,hs,hs1,hs2⟩:=hM.len 3
   clear hb2 d0 d1 hrd
   go_wp2_with fail
   refine hK.out _ _ ⟨d0n,d1n⟩ (fun hHeld2 => ?_)
   clear hK K hHeld
   have hHeld:=hHeld2
   clear hHeld2
   try simp only [Act.put,pa,pb,pc]
   refine wpAnyH_ready (rs:=[2]) (by kernel_rfl) (by simp) ?_
   refine AllReadyH.cons (i:=2) rfl (fun K hK => ?_) AllReadyH.nil
   go_simp
   refine hK.out _ _ ⟨d0n,d1n⟩ (fun hHeld2 => ?_)
   clear hK K hHeld
   have hHeld:=hHeld2
   clear hHeld2
   try simp only [Act.put,pa,pb,pc]
   refine tk 6 22 rfl _ hHeld (by intro w' h; (try dsimp only at h); obtain ⟨c0,c1⟩:=h; go_simp; try with_reducible rfl) ?_
   try simp only [Act.put,pa,pb,pc]
   refine tk 7 2 rfl _ hHeld (by intro w' h; (try dsimp only at h); obtain ⟨c0,c1⟩:=h; go_simp; try with_reducible rfl) ?_
   try simp only [Act.put,pa,pb,pc]
   refine wpAnyH_done (by kernel_rfl) ?_ _
   by_cases hn : xs.Nodup
   ·have e:=hs2.2 hn
    subst e
    clear hHeld hs hs1 hs2 d0n d1n
    go_wp2
    go_ret
    exact ⟨by unfold snB; rw [hA,decide_eq_true hn]; simp,BN⟩
   ·have e : ¬ s = xs.length:=fun e => hn (hs2.1 e)
    have e2 : ¬ (s : Int) = (xs.length : Int):=by omega
    clear hHeld hs hs1 hs2 d0n d1n
    go_wp2
    go_ret
    exact ⟨by unfold snB; rw [hA,decide_eq_false hn]; simp [e2],BN⟩
/-- What is right of a Cache. -/
def cOk (q : Int) (xs : List A3) : Bool:=btw q (-1) 200000 && (decide (xs.length ≤ 6) && snB xs)
set_option maxRecDepth 100000 in
set_option maxHeartbeats 1600000 in
theorem right_is (q : Int) (a : Option Addr) (cap : Nat) (xs : List A3) (w : World) (hr : ARow w a xs) (hm : xs.length ≤ 1048576) :
  Calls Tryz.prog 134 #[cv q a xs.length cap] w fun e w' => e = .returned (.bool (cOk q xs)) ∧ Below w.heap.size w w':=by
 have hb0 : Below w.heap.size w (w.alloc (.cells #[I q,.slice a xs.length cap] 76)):=(Below.refl _ _).alloc (Nat.le_refl _) _
 by_cases h0 : -1 ≤ q
 ·by_cases h1 : q ≤ 200000
  ·have hq : btw q (-1) 200000 = true:=(btw_iff _ _ _).2 ⟨h0,h1⟩
   by_cases h2 : xs.length ≤ 6
   ·have h2d : decide ((xs.length : Int) ≤ 6) = true:=decide_eq_true (by omega)
    have HX:=fun W (h : ARow W a xs) => seenOk_is q a cap xs W h h2
    have hd : decide (xs.length ≤ 6) = true:=decide_eq_true h2
    have ec : cOk q xs = snB xs:=by unfold cOk; rw [hq,hd]; rfl
    rw [ec]
    generalize snB xs = r at HX ⊢
    go_enter Tryz.func134,Tryz.ntmps134
    go_wp2_with fail
    refine (HX _ (hr.later hb0)).mono ?_
    rintro e w1 ⟨rfl,hb1⟩
    have b1:=hb0.trans (hb1.mono hb0.size)
    clear HX hb1
    go_wp2
    go_ret
    exact ⟨rfl,b1⟩
   ·have h2d : decide ((xs.length : Int) ≤ 6) = false:=decide_eq_false (by omega)
    have hd : decide (xs.length ≤ 6) = false:=decide_eq_false h2
    have ec : cOk q xs = false:=by unfold cOk; rw [hq,hd]; rfl
    rw [ec]
    go_enter Tryz.func134,Tryz.ntmps134
    go_wp2
    go_ret
    exact ⟨rfl,hb0⟩
  ·have hq : btw q (-1) 200000 = false:=by unfold btw; rw [decide_eq_false h1,Bool.and_false]
   have ec : cOk q xs = false:=by unfold cOk; rw [hq]; rfl
   rw [ec]
   go_enter Tryz.func134,Tryz.ntmps134
   go_wp2
   go_ret
   exact ⟨rfl,hb0⟩
 ·have hq : btw q (-1) 200000 = false:=by unfold btw; rw [decide_eq_false h0,Bool.false_and]
  have ec : cOk q xs = false:=by unfold cOk; rw [hq]; rfl
  rw [ec]
  go_enter Tryz.func134,Tryz.ntmps134
  go_wp2
  go_ret
  exact ⟨rfl,hb0⟩
end Go.Proofs.YtlmpfkbgknbcnaaGreat.Ch

set_option linter.unusedVariables false
namespace Go.Proofs.YtlmpfkbgknbcnaaGreat.Ch
open Go Go.RowKit Draw
theorem nodup_take {xs : List A3} {k : Nat} (hk : k < xs.length) : (xs.take (k + 1)).Nodup ↔ (xs.take k).Nodup ∧ xs[k] ∉ xs.take k:=by
 rw [List.take_succ_eq_append_getElem hk,nodup_snoc]
theorem nodup_no {xs : List A3} {k : Nat} (hk : k < xs.length) (h : xs[k] ∈ xs.take k) : ¬ xs.Nodup:=fun hn =>
 ((nodup_take hk).1 (hn.sublist (List.take_sublist _ _))).2 h
set_option maxRecDepth 100000 in
set_option maxHeartbeats 3200000 in
theorem specOk_is (q : Int) (a : Option Addr) (cap : Nat) (xs : List A3) (w : World) (hr : ARow w a xs) (hm : xs.length ≤ 1048576) (hcap : xs.length ≤ cap) :
  Calls Tryz.prog 27 #[cv q a xs.length cap] w fun e w' => e = .returned (.bool (cOk q xs)) ∧ Below w.heap.size w w':=by
 have hb0 : Below w.heap.size w (w.alloc (.cells #[I q,.slice a xs.length cap] 76)):=(Below.refl _ _).alloc (Nat.le_refl _) _
 have HQ:=fun W => in_is q (-1) 200000 W
 by_cases hq : btw q (-1) 200000 = true
 ·have hq' : (decide (-1 ≤ q) && decide (q ≤ 200000)) = true:=hq
  simp only [hq'] at HQ
  by_cases h6 : xs.length ≤ 6
  ·have hd : decide ((6 : Int) < (xs.length : Int)) = false:=by simp; omega
   have hdd : decide (xs.length ≤ 6) = true:=decide_eq_true h6
   have ec : cOk q xs = snB xs:=by unfold cOk; rw [hq,hdd]; rfl
   rw [ec]
   clear ec hdd hq hq'
   go_enter Tryz.func27,Tryz.ntmps27
   go_wp2_with fail
   refine (HQ _).mono ?_
   clear HQ
   rintro e w1 ⟨rfl,rfl⟩
   go_wp2
   go_loopw [3] (fun i wr => ∃ k : Nat,k ≤ xs.length ∧ i = I k ∧ ((∀ j (hj : j < xs.length),j < k → aOk xs[j].1 xs[j].2.1 xs[j].2.2 = true) ∧ (xs.take k).Nodup) ∧ Blk w.heap.size [I q,.slice a xs.length cap] wr ∧ Below w.heap.size w wr) (fun i _ => xs.length - (intOf i).toNat)
   case atStart => exact ⟨0,by omega,rfl,⟨fun j hj h => absurd h (by omega),by simp⟩,Blk.new _ _ _,hb0⟩
   case round =>
    clear hb0
    obtain ⟨k,hk,rfl,⟨hall,hnd⟩,T,hbel⟩:=hrel
    by_cases hlt : k < xs.length
    ·have hrd : ARow wr.drew a (xs.take k):=((hr.later hbel).drew).take k
     obtain ⟨b,off,rfl,hbl,h0,h1,h2⟩:=hr k hlt
     have HN : Hid (aOk xs[k].1 xs[k].2.1 xs[k].2.2 = false → snB xs = false):=(fun h => by unfold snB; rw [allA_no hlt h]; rfl)
     have HM : Hid ((xs[k].1,xs[k].2.1,xs[k].2.2) ∈ xs.take k → snB xs = false):=(fun h => by unfold snB; rw [decide_eq_false (nodup_no hlt h)]; simp)
     have HY : Hid (aOk xs[k].1 xs[k].2.1 xs[k].2.2 = true → (xs[k].1,xs[k].2.1,xs[k].2.2) ∉ xs.take k → (∀ j (hj : j < xs.length),j < k + 1 → aOk xs[j].1 xs[j].2.1 xs[j].2.2 = true) ∧ (xs.take (k + 1)).Nodup):=(fun h hm => ⟨fun j hj hjk => (if e : j = k then by subst e; exact h else hall j hj (by omega) : aOk xs[j].1 xs[j].2.1 xs[j].2.2 = true),(nodup_take hlt).2 ⟨hnd,hm⟩⟩)
     have z0 : w.heap.size < wr.drew.heap.size:=T.lt
     have z1 : b < wr.drew.heap.size:=Nat.lt_of_lt_of_le hbl hbel.size
     have d1 : wr.drew.cell? ⟨w.heap.size,1,none⟩ = _:=T.drew.at 1 rfl
     have d1':=T.at 1 rfl
     replace h0 : wr.drew.cell? ⟨b,off + k * 3,none⟩ = _:=(hbel.cell (p:=⟨b,off + k * 3,none⟩) hbl).trans h0
     replace h1 : wr.drew.cell? ⟨b,off + k * 3 + 1,none⟩ = _:=(hbel.cell (p:=⟨b,off + k * 3 + 1,none⟩) hbl).trans h1
     replace h2 : wr.drew.cell? ⟨b,off + k * 3 + 2,none⟩ = _:=(hbel.cell (p:=⟨b,off + k * 3 + 2,none⟩) hbl).trans h2
     have hlt2 : (k : Int) < (xs.length : Int):=by omega
     have hkc : (k : Int) ≤ (cap : Int):=by omega
     have hlk : (xs.take k).length = k:=by rw [List.length_take]; omega
     generalize hx : xs[k].1 = x at h0 HN HM HY
     generalize hy : xs[k].2.1 = y at h1 HN HM HY
     generalize hz : xs[k].2.2 = z at h2 HN HM HY
     have HA:=fun W => spec_authOk x y z W
     have HS:=fun W (h : ARow W (some ⟨b,off,none⟩) (xs.take k)) => saw_is (some ⟨b,off,none⟩) cap (xs.take k) x y z W h (by omega)
     rw [hlk] at HS
     have TD:=T.drew
     have BD:=hbel.drew
     clear hx hy hz hall hnd hr T hbel hlk
     by_cases hA : aOk x y z = true
     ·rw [hA] at HA
      by_cases hS : (x,y,z) ∈ xs.take k
      ·have hF:=HM.out hS
       rw [decide_eq_true hS] at HS
       clear HN HM HY hS hA
       go_wp2_with fail
       refine wp_region_held_drew (S:=(fun V : World => V.cell? ⟨w.heap.size,1,none⟩ = some (.slice (some ⟨b,off,none⟩) xs.length cap) ∧ V.cell? ⟨b,off + k * 3,none⟩ = some (I x) ∧ V.cell? ⟨b,off + k * 3 + 1,none⟩ = some (I y) ∧ V.cell? ⟨b,off + k * 3 + 2,none⟩ = some (I z))) (by kernel_rfl) ⟨d1,h0,h1,h2⟩ (fun hHeld => ?_)
       refine tk 0 21 rfl _ hHeld (by intro w' h; (try dsimp only at h); obtain ⟨c0,c1,c2,c3⟩:=h; go_simp; try with_reducible rfl) ?_
       try simp only [Act.put,pa,pb,pc]
       refine tk 1 22 rfl _ hHeld (by intro w' h; (try dsimp only at h); obtain ⟨c0,c1,c2,c3⟩:=h; go_simp; try with_reducible rfl) ?_
       try simp only [Act.put,pa,pb,pc]
       refine tk 2 23 rfl _ hHeld (by intro w' h; (try dsimp only at h); obtain ⟨c0,c1,c2,c3⟩:=h; go_simp; try with_reducible rfl) ?_
       try simp only [Act.put,pa,pb,pc]
       refine tk 3 24 rfl _ hHeld (by intro w' h; (try dsimp only at h); obtain ⟨c0,c1,c2,c3⟩:=h; go_simp; try with_reducible rfl) ?_
       try simp only [Act.put,pa,pb,pc]
       refine tk 4 25 rfl _ hHeld (by intro w' h; (try dsimp only at h); obtain ⟨c0,c1,c2,c3⟩:=h; go_simp; try with_reducible rfl) ?_
       try simp only [Act.put,pa,pb,pc]
       refine wpAnyH_ready (rs:=[5]) (by kernel_rfl) (by simp) ?_
       refine AllReadyH.cons (i:=5) rfl (fun K hK => ?_) AllReadyH.nil
       go_simp
       refine (HA wr.drew).mono ?_
       rintro e w2 ⟨rfl,hb2⟩
       have HK2 : ((fun V : World => V.cell? ⟨w.heap.size,1,none⟩ = some (.slice (some ⟨b,off,none⟩) xs.length cap) ∧ V.cell? ⟨b,off + k * 3,none⟩ = some (I x) ∧ V.cell? ⟨b,off + k * 3 + 1,none⟩ = some (I y) ∧ V.cell? ⟨b,off + k * 3 + 2,none⟩ = some (I z))) w2:=⟨(hb2.cell (p:=⟨w.heap.size,1,none⟩) z0).trans d1,(hb2.cell (p:=⟨b,off + k * 3,none⟩) z1).trans h0,(hb2.cell (p:=⟨b,off + k * 3 + 1,none⟩) z1).trans h1,(hb2.cell (p:=⟨b,off + k * 3 + 2,none⟩) z1).trans h2⟩
       have z2 : wr.drew.heap.size ≤ w2.heap.size:=hb2.size
       go_wp2_with fail
       refine hK.out _ _ HK2 (fun hHeld2 => ?_)
       clear hK K hHeld
       have hHeld:=hHeld2
       clear hHeld2
       try simp only [Act.put,pa,pb,pc]
       refine tk 6 27 rfl _ hHeld (by intro w' h; (try dsimp only at h); obtain ⟨c0,c1,c2,c3⟩:=h; go_simp; try with_reducible rfl) ?_
       try simp only [Act.put,pa,pb,pc]
       refine tk 7 28 rfl _ hHeld (by intro w' h; (try dsimp only at h); obtain ⟨c0,c1,c2,c3⟩:=h; go_simp; try with_reducible rfl) ?_
       try simp only [Act.put,pa,pb,pc]
       refine tk 8 29 rfl _ hHeld (by intro w' h; (try dsimp only at h); obtain ⟨c0,c1,c2,c3⟩:=h; go_simp; try with_reducible rfl) ?_
       try simp only [Act.put,pa,pb,pc]
       refine tk 9 30 rfl _ hHeld (by intro w' h; (try dsimp only at h); obtain ⟨c0,c1,c2,c3⟩:=h; go_simp; try with_reducible rfl) ?_
       try simp only [Act.put,pa,pb,pc]
       refine tk 10 31 rfl _ hHeld (by intro w' h; (try dsimp only at h); obtain ⟨c0,c1,c2,c3⟩:=h; go_simp; try with_reducible rfl) ?_
       try simp only [Act.put,pa,pb,pc]
       refine tk 11 32 rfl _ hHeld (by intro w' h; (try dsimp only at h); obtain ⟨c0,c1,c2,c3⟩:=h; go_simp; try with_reducible rfl) ?_
       try simp only [Act.put,pa,pb,pc]
       refine tk 12 33 rfl _ hHeld (by intro w' h; (try dsimp only at h); obtain ⟨c0,c1,c2,c3⟩:=h; go_simp; try with_reducible rfl) ?_
       try simp only [Act.put,pa,pb,pc]
       refine tk 13 34 rfl _ hHeld (by intro w' h; (try dsimp only at h); obtain ⟨c0,c1,c2,c3⟩:=h; go_simp; try with_reducible rfl) ?_
       try simp only [Act.put,pa,pb,pc]
       refine tk 14 35 rfl _ hHeld (by intro w' h; (try dsimp only at h); obtain ⟨c0,c1,c2,c3⟩:=h; go_simp; try with_reducible rfl) ?_
       try simp only [Act.put,pa,pb,pc]
       refine tk 15 36 rfl _ hHeld (by intro w' h; (try dsimp only at h); obtain ⟨c0,c1,c2,c3⟩:=h; go_simp; try with_reducible rfl) ?_
       try simp only [Act.put,pa,pb,pc]
       refine tk 16 37 rfl _ hHeld (by intro w' h; (try dsimp only at h); obtain ⟨c0,c1,c2,c3⟩:=h; go_simp; try with_reducible rfl) ?_
       try simp only [Act.put,pa,pb,pc]
       refine wpAnyH_ready (rs:=[17]) (by kernel_rfl) (by simp) ?_
       refine AllReadyH.cons (i:=17) rfl (fun K hK => ?_) AllReadyH.nil
       go_simp
       refine (HS w2 (hrd.later hb2)).mono ?_
       rintro e w3 ⟨rfl,hb3⟩
       go_wp2_with fail
       refine hK.out _ _ ⟨(hb3.cell (p:=⟨w.heap.size,1,none⟩) (Nat.lt_of_lt_of_le z0 z2)).trans HK2.1,(hb3.cell (p:=⟨b,off + k * 3,none⟩) (Nat.lt_of_lt_of_le z1 z2)).trans HK2.2.1,(hb3.cell (p:=⟨b,off + k * 3 + 1,none⟩) (Nat.lt_of_lt_of_le z1 z2)).trans HK2.2.2.1,(hb3.cell (p:=⟨b,off + k * 3 + 2,none⟩) (Nat.lt_of_lt_of_le z1 z2)).trans HK2.2.2.2⟩ (fun hHeld2 => ?_)
       clear hK K hHeld
       have hHeld:=hHeld2
       clear hHeld2
       try simp only [Act.put,pa,pb,pc]
       refine tk 18 39 rfl _ hHeld (by intro w' h; (try dsimp only at h); obtain ⟨c0,c1,c2,c3⟩:=h; go_simp; try with_reducible rfl) ?_
       try simp only [Act.put,pa,pb,pc]
       refine wpAnyH_done (by kernel_rfl) ?_ _
       have BN:=(BD.trans (hb2.mono BD.size)).trans (hb3.mono (Nat.le_trans BD.size z2))
       clear hHeld HK2 h0 h1 h2 d1 d1' hrd HA HS
       go_wp2
       go_ret
       exact ⟨by rw [hF]; rfl,BN⟩
      ·obtain hF:=HY.out hA hS
       rw [decide_eq_false hS] at HS
       clear HN HM HY hS hA
       go_wp2_with fail
       refine wp_region_held_drew (S:=(fun V : World => V.cell? ⟨w.heap.size,1,none⟩ = some (.slice (some ⟨b,off,none⟩) xs.length cap) ∧ V.cell? ⟨b,off + k * 3,none⟩ = some (I x) ∧ V.cell? ⟨b,off + k * 3 + 1,none⟩ = some (I y) ∧ V.cell? ⟨b,off + k * 3 + 2,none⟩ = some (I z))) (by kernel_rfl) ⟨d1,h0,h1,h2⟩ (fun hHeld => ?_)
       refine tk 0 21 rfl _ hHeld (by intro w' h; (try dsimp only at h); obtain ⟨c0,c1,c2,c3⟩:=h; go_simp; try with_reducible rfl) ?_
       try simp only [Act.put,pa,pb,pc]
       refine tk 1 22 rfl _ hHeld (by intro w' h; (try dsimp only at h); obtain ⟨c0,c1,c2,c3⟩:=h; go_simp; try with_reducible rfl) ?_
       try simp only [Act.put,pa,pb,pc]
       refine tk 2 23 rfl _ hHeld (by intro w' h; (try dsimp only at h); obtain ⟨c0,c1,c2,c3⟩:=h; go_simp; try with_reducible rfl) ?_
       try simp only [Act.put,pa,pb,pc]
       refine tk 3 24 rfl _ hHeld (by intro w' h; (try dsimp only at h); obtain ⟨c0,c1,c2,c3⟩:=h; go_simp; try with_reducible rfl) ?_
       try simp only [Act.put,pa,pb,pc]
       refine tk 4 25 rfl _ hHeld (by intro w' h; (try dsimp only at h); obtain ⟨c0,c1,c2,c3⟩:=h; go_simp; try with_reducible rfl) ?_
       try simp only [Act.put,pa,pb,pc]
       refine wpAnyH_ready (rs:=[5]) (by kernel_rfl) (by simp) ?_
       refine AllReadyH.cons (i:=5) rfl (fun K hK => ?_) AllReadyH.nil
       go_simp
       refine (HA wr.drew).mono ?_
       rintro e w2 ⟨rfl,hb2⟩
       have HK2 : ((fun V : World => V.cell? ⟨w.heap.size,1,none⟩ = some (.slice (some ⟨b,off,none⟩) xs.length cap) ∧ V.cell? ⟨b,off + k * 3,none⟩ = some (I x) ∧ V.cell? ⟨b,off + k * 3 + 1,none⟩ = some (I y) ∧ V.cell? ⟨b,off + k * 3 + 2,none⟩ = some (I z))) w2:=⟨(hb2.cell (p:=⟨w.heap.size,1,none⟩) z0).trans d1,(hb2.cell (p:=⟨b,off + k * 3,none⟩) z1).trans h0,(hb2.cell (p:=⟨b,off + k * 3 + 1,none⟩) z1).trans h1,(hb2.cell (p:=⟨b,off + k * 3 + 2,none⟩) z1).trans h2⟩
       have z2 : wr.drew.heap.size ≤ w2.heap.size:=hb2.size
       go_wp2_with fail
       refine hK.out _ _ HK2 (fun hHeld2 => ?_)
       clear hK K hHeld
       have hHeld:=hHeld2
       clear hHeld2
       try simp only [Act.put,pa,pb,pc]
       refine tk 6 27 rfl _ hHeld (by intro w' h; (try dsimp only at h); obtain ⟨c0,c1,c2,c3⟩:=h; go_simp; try with_reducible rfl) ?_
       try simp only [Act.put,pa,pb,pc]
       refine tk 7 28 rfl _ hHeld (by intro w' h; (try dsimp only at h); obtain ⟨c0,c1,c2,c3⟩:=h; go_simp; try with_reducible rfl) ?_
       try simp only [Act.put,pa,pb,pc]
       refine tk 8 29 rfl _ hHeld (by intro w' h; (try dsimp only at h); obtain ⟨c0,c1,c2,c3⟩:=h; go_simp; try with_reducible rfl) ?_
       try simp only [Act.put,pa,pb,pc]
       refine tk 9 30 rfl _ hHeld (by intro w' h; (try dsimp only at h); obtain ⟨c0,c1,c2,c3⟩:=h; go_simp; try with_reducible rfl) ?_
       try simp only [Act.put,pa,pb,pc]
       refine tk 10 31 rfl _ hHeld (by intro w' h; (try dsimp only at h); obtain ⟨c0,c1,c2,c3⟩:=h; go_simp; try with_reducible rfl) ?_
       try simp only [Act.put,pa,pb,pc]
       refine tk 11 32 rfl _ hHeld (by intro w' h; (try dsimp only at h); obtain ⟨c0,c1,c2,c3⟩:=h; go_simp; try with_reducible rfl) ?_
       try simp only [Act.put,pa,pb,pc]
       refine tk 12 33 rfl _ hHeld (by intro w' h; (try dsimp only at h); obtain ⟨c0,c1,c2,c3⟩:=h; go_simp; try with_reducible rfl) ?_
       try simp only [Act.put,pa,pb,pc]
       refine tk 13 34 rfl _ hHeld (by intro w' h; (try dsimp only at h); obtain ⟨c0,c1,c2,c3⟩:=h; go_simp; try with_reducible rfl) ?_
       try simp only [Act.put,pa,pb,pc]
       refine tk 14 35 rfl _ hHeld (by intro w' h; (try dsimp only at h); obtain ⟨c0,c1,c2,c3⟩:=h; go_simp; try with_reducible rfl) ?_
       try simp only [Act.put,pa,pb,pc]
       refine tk 15 36 rfl _ hHeld (by intro w' h; (try dsimp only at h); obtain ⟨c0,c1,c2,c3⟩:=h; go_simp; try with_reducible rfl) ?_
       try simp only [Act.put,pa,pb,pc]
       refine tk 16 37 rfl _ hHeld (by intro w' h; (try dsimp only at h); obtain ⟨c0,c1,c2,c3⟩:=h; go_simp; try with_reducible rfl) ?_
       try simp only [Act.put,pa,pb,pc]
       refine wpAnyH_ready (rs:=[17]) (by kernel_rfl) (by simp) ?_
       refine AllReadyH.cons (i:=17) rfl (fun K hK => ?_) AllReadyH.nil
       go_simp
       refine (HS w2 (hrd.later hb2)).mono ?_
       rintro e w3 ⟨rfl,hb3⟩
       go_wp2_with fail
       refine hK.out _ _ ⟨(hb3.cell (p:=⟨w.heap.size,1,none⟩) (Nat.lt_of_lt_of_le z0 z2)).trans HK2.1,(hb3.cell (p:=⟨b,off + k * 3,none⟩) (Nat.lt_of_lt_of_le z1 z2)).trans HK2.2.1,(hb3.cell (p:=⟨b,off + k * 3 + 1,none⟩) (Nat.lt_of_lt_of_le z1 z2)).trans HK2.2.2.1,(hb3.cell (p:=⟨b,off + k * 3 + 2,none⟩) (Nat.lt_of_lt_of_le z1 z2)).trans HK2.2.2.2⟩ (fun hHeld2 => ?_)
       clear hK K hHeld
       have hHeld:=hHeld2
       clear hHeld2
       try simp only [Act.put,pa,pb,pc]
       refine tk 18 39 rfl _ hHeld (by intro w' h; (try dsimp only at h); obtain ⟨c0,c1,c2,c3⟩:=h; go_simp; try with_reducible rfl) ?_
       try simp only [Act.put,pa,pb,pc]
       refine wpAnyH_done (by kernel_rfl) ?_ _
       have BN:=(BD.trans (hb2.mono BD.size)).trans (hb3.mono (Nat.le_trans BD.size z2))
       have TN:=(TD.later hb2 TD.lt).later hb3 (Nat.lt_of_lt_of_le z0 z2)
       clear hHeld HK2 h0 h1 h2 d1 d1' hrd HA HS
       go_wp2
       go_roundw
       case rel => exact ⟨k + 1,by omega,by go_num,hF,TN,BN⟩
       case measure => simp [intOf]; omega
     ·rw [Bool.not_eq_true] at hA
      have hF:=HN.out hA
      rw [hA] at HA
      clear HN HM HY hA HS
      go_wp2_with fail
      refine wp_region_held_drew (S:=(fun V : World => V.cell? ⟨w.heap.size,1,none⟩ = some (.slice (some ⟨b,off,none⟩) xs.length cap) ∧ V.cell? ⟨b,off + k * 3,none⟩ = some (I x) ∧ V.cell? ⟨b,off + k * 3 + 1,none⟩ = some (I y) ∧ V.cell? ⟨b,off + k * 3 + 2,none⟩ = some (I z))) (by kernel_rfl) ⟨d1,h0,h1,h2⟩ (fun hHeld => ?_)
      refine tk 0 21 rfl _ hHeld (by intro w' h; (try dsimp only at h); obtain ⟨c0,c1,c2,c3⟩:=h; go_simp; try with_reducible rfl) ?_
      try simp only [Act.put,pa,pb,pc]
      refine tk 1 22 rfl _ hHeld (by intro w' h; (try dsimp only at h); obtain ⟨c0,c1,c2,c3⟩:=h; go_simp; try with_reducible rfl) ?_
      try simp only [Act.put,pa,pb,pc]
      refine tk 2 23 rfl _ hHeld (by intro w' h; (try dsimp only at h); obtain ⟨c0,c1,c2,c3⟩:=h; go_simp; try with_reducible rfl) ?_
      try simp only [Act.put,pa,pb,pc]
      refine tk 3 24 rfl _ hHeld (by intro w' h; (try dsimp only at h); obtain ⟨c0,c1,c2,c3⟩:=h; go_simp; try with_reducible rfl) ?_
      try simp only [Act.put,pa,pb,pc]
      refine tk 4 25 rfl _ hHeld (by intro w' h; (try dsimp only at h); obtain ⟨c0,c1,c2,c3⟩:=h; go_simp; try with_reducible rfl) ?_
      try simp only [Act.put,pa,pb,pc]
      refine wpAnyH_ready (rs:=[5]) (by kernel_rfl) (by simp) ?_
      refine AllReadyH.cons (i:=5) rfl (fun K hK => ?_) AllReadyH.nil
      go_simp
      refine (HA wr.drew).mono ?_
      rintro e w2 ⟨rfl,hb2⟩
      have HK2 : ((fun V : World => V.cell? ⟨w.heap.size,1,none⟩ = some (.slice (some ⟨b,off,none⟩) xs.length cap) ∧ V.cell? ⟨b,off + k * 3,none⟩ = some (I x) ∧ V.cell? ⟨b,off + k * 3 + 1,none⟩ = some (I y) ∧ V.cell? ⟨b,off + k * 3 + 2,none⟩ = some (I z))) w2:=⟨(hb2.cell (p:=⟨w.heap.size,1,none⟩) z0).trans d1,(hb2.cell (p:=⟨b,off + k * 3,none⟩) z1).trans h0,(hb2.cell (p:=⟨b,off + k * 3 + 1,none⟩) z1).trans h1,(hb2.cell (p:=⟨b,off + k * 3 + 2,none⟩) z1).trans h2⟩
      have z2 : wr.drew.heap.size ≤ w2.heap.size:=hb2.size
      go_wp2_with fail
      refine hK.out _ _ HK2 (fun hHeld2 => ?_)
      clear hK K hHeld
      have hHeld:=hHeld2
      clear hHeld2
      try simp only [Act.put,pa,pb,pc]
      refine tk 6 27 rfl _ hHeld (by intro w' h; (try dsimp only at h); obtain ⟨c0,c1,c2,c3⟩:=h; go_simp; try with_reducible rfl) ?_
      try simp only [Act.put,pa,pb,pc]
      refine tk 7 28 rfl _ hHeld (by intro w' h; (try dsimp only at h); obtain ⟨c0,c1,c2,c3⟩:=h; go_simp; try with_reducible rfl) ?_
      try simp only [Act.put,pa,pb,pc]
      refine sk 8 29 rfl hHeld (unwanted (c:=true) rfl rfl (by simp) rfl) ?_
      try simp only [Act.put,pa,pb,pc]
      refine sk 9 30 rfl hHeld (unwanted (c:=true) rfl rfl (by simp) rfl) ?_
      try simp only [Act.put,pa,pb,pc]
      refine sk 10 31 rfl hHeld (unwanted (c:=true) rfl rfl (by simp) rfl) ?_
      try simp only [Act.put,pa,pb,pc]
      refine sk 11 32 rfl hHeld (unwanted (c:=true) rfl rfl (by simp) rfl) ?_
      try simp only [Act.put,pa,pb,pc]
      refine sk 12 33 rfl hHeld (unwanted (c:=true) rfl rfl (by simp) rfl) ?_
      try simp only [Act.put,pa,pb,pc]
      refine sk 13 34 rfl hHeld (unwanted (c:=true) rfl rfl (by simp) rfl) ?_
      try simp only [Act.put,pa,pb,pc]
      refine sk 14 35 rfl hHeld (unwanted (c:=true) rfl rfl (by simp) rfl) ?_
      try simp only [Act.put,pa,pb,pc]
      refine sk 15 36 rfl hHeld (unwanted (c:=true) rfl rfl (by simp) rfl) ?_
      try simp only [Act.put,pa,pb,pc]
      refine sk 16 37 rfl hHeld (unwanted (c:=true) rfl rfl (by simp) rfl) ?_
      try simp only [Act.put,pa,pb,pc]
      refine sk 17 38 rfl hHeld (unwanted (c:=true) rfl rfl (by simp) rfl) ?_
      try simp only [Act.put,pa,pb,pc]
      refine tk 18 39 rfl _ hHeld (by intro w' h; (try dsimp only at h); obtain ⟨c0,c1,c2,c3⟩:=h; go_simp; try with_reducible rfl) ?_
      try simp only [Act.put,pa,pb,pc]
      refine wpAnyH_done (by kernel_rfl) ?_ _
      have BN:=BD.trans (hb2.mono BD.size)
      clear hHeld HK2 h0 h1 h2 d1 d1' hrd HA
      go_wp2
      go_ret
      exact ⟨by rw [hF]; rfl,BN⟩
    ·obtain rfl : k = xs.length:=by omega
     have hA : allA xs = true:=allA_yes (fun j hj => hall j hj hj)
     rw [List.take_length] at hnd
     have hF : snB xs = true:=by unfold snB; rw [hA,decide_eq_true hnd]; rfl
     have d1:=T.at 1 rfl
     clear hA hnd hall
     go_wp2
     go_ret
     exact ⟨by rw [hF]; rfl,hbel⟩
  ·have hd : decide ((6 : Int) < (xs.length : Int)) = true:=by simp; omega
   have hdd : decide (xs.length ≤ 6) = false:=decide_eq_false h6
   have ec : cOk q xs = false:=by unfold cOk; rw [hdd,Bool.false_and,Bool.and_false]
   rw [ec]
   clear ec hdd hq hq'
   go_enter Tryz.func27,Tryz.ntmps27
   go_wp2_with fail
   refine (HQ _).mono ?_
   clear HQ
   rintro e w1 ⟨rfl,rfl⟩
   go_wp2
   go_ret
   exact ⟨rfl,hb0⟩
 ·rw [Bool.not_eq_true] at hq
  have hq' : (decide (-1 ≤ q) && decide (q ≤ 200000)) = false:=hq
  simp only [hq'] at HQ
  have ec : cOk q xs = false:=by unfold cOk; rw [hq]; rfl
  rw [ec]
  clear ec hq hq'
  go_enter Tryz.func27,Tryz.ntmps27
  go_wp2_with fail
  refine (HQ _).mono ?_
  clear HQ
  rintro e w1 ⟨rfl,rfl⟩
  go_wp2
  go_ret
  exact ⟨rfl,hb0⟩
end Go.Proofs.YtlmpfkbgknbcnaaGreat.Ch
