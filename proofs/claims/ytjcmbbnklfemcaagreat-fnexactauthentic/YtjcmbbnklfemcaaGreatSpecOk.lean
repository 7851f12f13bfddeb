/- What is right of a Cache: the model. -/
import Derived.Test.YtjcmbbnklfemcaaGreatRow3
set_option linter.unusedVariables false
namespace Go.Proofs.YtjcmbbnklfemcaaGreat.Ch
open Go Go.RowKit Draw
theorem nodup_take {xs:List A3} {k:Nat} (hk:k < xs.length):(xs.take (k + 1)).Nodup ↔ (xs.take k).Nodup∧xs[k] ∉ xs.take k := by
 rw [List.take_succ_eq_append_getElem hk,nodup_snoc]
theorem nodup_no {xs:List A3} {k:Nat} (hk:k < xs.length) (h:xs[k]∈xs.take k):¬ xs.Nodup := fun hn =>
 ((nodup_take hk).1 (hn.sublist (List.take_sublist _ _))).2 h
set_option maxRecDepth 100000 in
set_option maxHeartbeats 3200000 in
theorem specOk_is (q:Int) (a:Option Addr) (cap:Nat) (xs:List A3) (w:World) (hr:ARow w a xs) (hm:xs.length≤1048576) (hcap:xs.length≤cap) :
  Calls Tryz.prog 33 #[cv q a xs.length cap] w fun e w'=>e=.returned (.bool (cOk q xs))∧Below w.heap.size w w' := by
 have hb0:Below w.heap.size w (w.alloc (.cells #[.int .i64 q,.slice a xs.length cap] 78)) := (Below.refl _ _).alloc (Nat.le_refl _) _
 have HQ := fun W=>in_is q (-1) 200000 W
 by_cases hq:btw q (-1) 200000=true
 ·have hq':(decide (-1≤q) && decide (q≤200000))=true := hq
  simp only [hq'] at HQ
  by_cases h6:xs.length≤6
  ·have hd:decide ((6:Int) < (xs.length:Int))=false := by simp;omega
   have hdd:decide (xs.length≤6)=true := decide_eq_true h6
   have ec:cOk q xs=snB xs := by unfold cOk;rw [hq,hdd];rfl
   rw [ec]
   clear ec hdd hq hq'
   go_enter Tryz.func33,Tryz.ntmps33
   go_wp2_with fail
   refine (HQ _).mono ?_
   clear HQ
   rintro e w1 ⟨rfl,rfl⟩
   go_wp2
   go_loopw [3] (fun i wr=>∃ k:Nat,k≤xs.length∧i=.int .i64 k∧((∀ j (hj:j < xs.length),j < k→aOk xs[j].1 xs[j].2.1 xs[j].2.2=true)∧(xs.take k).Nodup)∧Blk w.heap.size [.int .i64 q,.slice a xs.length cap] wr∧Below w.heap.size w wr) (fun i _=>xs.length - (intOf i).toNat)
   case atStart=>exact ⟨0,by omega,rfl,⟨fun j hj h=>absurd h (by omega),by simp⟩,Blk.new _ _ _,hb0⟩
   case round =>
    clear hb0
    obtain ⟨k,hk,rfl,⟨hall,hnd⟩,T,hbel⟩ := hrel
    by_cases hlt:k < xs.length
    ·have hrd:ARow wr.drew a (xs.take k) := ((hr.later hbel).drew).take k
     obtain ⟨b,off,rfl,hbl,h0,h1,h2⟩ := hr k hlt
     have HN:Hid (aOk xs[k].1 xs[k].2.1 xs[k].2.2=false→snB xs=false) := (fun h=>by unfold snB;rw [allA_no hlt h];rfl)
     have HM:Hid ((xs[k].1,xs[k].2.1,xs[k].2.2)∈xs.take k→snB xs=false) := (fun h=>by unfold snB;rw [decide_eq_false (nodup_no hlt h)];simp)
     have HY:Hid (aOk xs[k].1 xs[k].2.1 xs[k].2.2=true→(xs[k].1,xs[k].2.1,xs[k].2.2) ∉ xs.take k→(∀ j (hj:j < xs.length),j < k + 1→aOk xs[j].1 xs[j].2.1 xs[j].2.2=true)∧(xs.take (k + 1)).Nodup) := (fun h hm=>⟨fun j hj hjk=>(if e:j=k then by subst e;exact h else hall j hj (by omega):aOk xs[j].1 xs[j].2.1 xs[j].2.2=true),(nodup_take hlt).2 ⟨hnd,hm⟩⟩)
     have z0:w.heap.size < wr.drew.heap.size := T.lt
     have z1:b < wr.drew.heap.size := Nat.lt_of_lt_of_le hbl hbel.size
     have d1:wr.drew.cell? ⟨w.heap.size,1,none⟩=_ := T.drew.at 1 rfl
     have d1' := T.at 1 rfl
     replace h0:wr.drew.cell? ⟨b,off + k * 3,none⟩=_ := (hbel.cell (p := ⟨b,off + k * 3,none⟩) hbl).trans h0
     replace h1:wr.drew.cell? ⟨b,off + k * 3 + 1,none⟩=_ := (hbel.cell (p := ⟨b,off + k * 3 + 1,none⟩) hbl).trans h1
     replace h2:wr.drew.cell? ⟨b,off + k * 3 + 2,none⟩=_ := (hbel.cell (p := ⟨b,off + k * 3 + 2,none⟩) hbl).trans h2
     have hlt2:(k:Int) < (xs.length:Int) := by omega
     have hkc:(k:Int)≤(cap:Int) := by omega
     have hlk:(xs.take k).length=k := by rw [List.length_take];omega
     generalize hx:xs[k].1=x at h0 HN HM HY
     generalize hy:xs[k].2.1=y at h1 HN HM HY
     generalize hz:xs[k].2.2=z at h2 HN HM HY
     have HA := fun W=>spec_authOk x y z W
     have HS := fun W (h:ARow W (some ⟨b,off,none⟩) (xs.take k))=>saw_is (some ⟨b,off,none⟩) cap (xs.take k) x y z W h (by omega)
     rw [hlk] at HS
     have TD := T.drew
     have BD := hbel.drew
     clear hx hy hz hall hnd hr T hbel hlk
     by_cases hA:aOk x y z=true
     ·rw [hA] at HA
      by_cases hS:(x,y,z)∈xs.take k
      ·have hF := HM.out hS
       rw [decide_eq_true hS] at HS
       clear HN HM HY hS hA
       go_wp2_with fail
       refine wp_region_held_drew (S := (fun V:World=>V.cell? ⟨w.heap.size,1,none⟩=some (.slice (some ⟨b,off,none⟩) xs.length cap)∧V.cell? ⟨b,off + k * 3,none⟩=some (.int .i64 x)∧V.cell? ⟨b,off + k * 3 + 1,none⟩=some (.int .i64 y)∧V.cell? ⟨b,off + k * 3 + 2,none⟩=some (.int .i64 z))) (by kernel_rfl) ⟨d1,h0,h1,h2⟩ (fun hHeld=>?_)
       refine take_one 0 21 (v := ?_) rfl rfl (by kernel_rfl) (by kernel_rfl) (by kernel_rfl) (fun _ _ _ h=>h) (Or.inl ⟨by rfl,?_⟩) hHeld ?_
       rotate_left
       ·intro w' hSw;(try dsimp only at hSw);obtain ⟨c0,c1,c2,c3⟩ := hSw;go_simp;try with_reducible rfl
       try simp only [Act.put,List.setIfInBounds_toArray,List.set_cons_zero,List.set_cons_succ]
       refine take_one 1 22 (v := ?_) rfl rfl (by kernel_rfl) (by kernel_rfl) (by kernel_rfl) (fun _ _ _ h=>h) (Or.inl ⟨by rfl,?_⟩) hHeld ?_
       rotate_left
       ·intro w' hSw;(try dsimp only at hSw);obtain ⟨c0,c1,c2,c3⟩ := hSw;go_simp;try with_reducible rfl
       try simp only [Act.put,List.setIfInBounds_toArray,List.set_cons_zero,List.set_cons_succ]
       refine take_one 2 23 (v := ?_) rfl rfl (by kernel_rfl) (by kernel_rfl) (by kernel_rfl) (fun _ _ _ h=>h) (Or.inl ⟨by rfl,?_⟩) hHeld ?_
       rotate_left
       ·intro w' hSw;(try dsimp only at hSw);obtain ⟨c0,c1,c2,c3⟩ := hSw;go_simp;try with_reducible rfl
       try simp only [Act.put,List.setIfInBounds_toArray,List.set_cons_zero,List.set_cons_succ]
       refine take_one 3 24 (v := ?_) rfl rfl (by kernel_rfl) (by kernel_rfl) (by kernel_rfl) (fun _ _ _ h=>h) (Or.inl ⟨by rfl,?_⟩) hHeld ?_
       rotate_left
       ·intro w' hSw;(try dsimp only at hSw);obtain ⟨c0,c1,c2,c3⟩ := hSw;go_simp;try with_reducible rfl
       try simp only [Act.put,List.setIfInBounds_toArray,List.set_cons_zero,List.set_cons_succ]
       refine take_one 4 25 (v := ?_) rfl rfl (by kernel_rfl) (by kernel_rfl) (by kernel_rfl) (fun _ _ _ h=>h) (Or.inl ⟨by rfl,?_⟩) hHeld ?_
       rotate_left
       ·intro w' hSw;(try dsimp only at hSw);obtain ⟨c0,c1,c2,c3⟩ := hSw;go_simp;try with_reducible rfl
       try simp only [Act.put,List.setIfInBounds_toArray,List.set_cons_zero,List.set_cons_succ]
       refine wpAnyH_ready (rs := [5]) (by kernel_rfl) (by simp) ?_
       refine AllReadyH.cons (i := 5) rfl (fun K hK=>?_) AllReadyH.nil
       go_simp
       refine (HA wr.drew).mono ?_
       rintro e w2 ⟨rfl,hb2⟩
       have HK2:((fun V:World=>V.cell? ⟨w.heap.size,1,none⟩=some (.slice (some ⟨b,off,none⟩) xs.length cap)∧V.cell? ⟨b,off + k * 3,none⟩=some (.int .i64 x)∧V.cell? ⟨b,off + k * 3 + 1,none⟩=some (.int .i64 y)∧V.cell? ⟨b,off + k * 3 + 2,none⟩=some (.int .i64 z))) w2 := ⟨(hb2.cell (p := ⟨w.heap.size,1,none⟩) z0).trans d1,(hb2.cell (p := ⟨b,off + k * 3,none⟩) z1).trans h0,(hb2.cell (p := ⟨b,off + k * 3 + 1,none⟩) z1).trans h1,(hb2.cell (p := ⟨b,off + k * 3 + 2,none⟩) z1).trans h2⟩
       have z2:wr.drew.heap.size≤w2.heap.size := hb2.size
       go_wp2_with fail
       refine hK.out _ _ HK2 (fun hHeld2=>?_)
       clear hK K hHeld
       have hHeld := hHeld2
       clear hHeld2
       try simp only [Act.put,List.setIfInBounds_toArray,List.set_cons_zero,List.set_cons_succ]
       refine take_one 6 27 (v := ?_) rfl rfl (by kernel_rfl) (by kernel_rfl) (by kernel_rfl) (fun _ _ _ h=>h) (Or.inl ⟨by rfl,?_⟩) hHeld ?_
       rotate_left
       ·intro w' hSw;(try dsimp only at hSw);obtain ⟨c0,c1,c2,c3⟩ := hSw;go_simp;try with_reducible rfl
       try simp only [Act.put,List.setIfInBounds_toArray,List.set_cons_zero,List.set_cons_succ]
       refine take_one 7 28 (v := ?_) rfl rfl (by kernel_rfl) (by kernel_rfl) (by kernel_rfl) (fun _ _ _ h=>h) (Or.inl ⟨by rfl,?_⟩) hHeld ?_
       rotate_left
       ·intro w' hSw;(try dsimp only at hSw);obtain ⟨c0,c1,c2,c3⟩ := hSw;go_simp;try with_reducible rfl
       try simp only [Act.put,List.setIfInBounds_toArray,List.set_cons_zero,List.set_cons_succ]
       refine take_one 8 29 (v := ?_) rfl rfl (by kernel_rfl) (by kernel_rfl) (by kernel_rfl) (fun _ _ _ h=>h) (Or.inl ⟨by rfl,?_⟩) hHeld ?_
       rotate_left
       ·intro w' hSw;(try dsimp only at hSw);obtain ⟨c0,c1,c2,c3⟩ := hSw;go_simp;try with_reducible rfl
       try simp only [Act.put,List.setIfInBounds_toArray,List.set_cons_zero,List.set_cons_succ]
       refine take_one 9 30 (v := ?_) rfl rfl (by kernel_rfl) (by kernel_rfl) (by kernel_rfl) (fun _ _ _ h=>h) (Or.inl ⟨by rfl,?_⟩) hHeld ?_
       rotate_left
       ·intro w' hSw;(try dsimp only at hSw);obtain ⟨c0,c1,c2,c3⟩ := hSw;go_simp;try with_reducible rfl
       try simp only [Act.put,List.setIfInBounds_toArray,List.set_cons_zero,List.set_cons_succ]
       refine take_one 10 31 (v := ?_) rfl rfl (by kernel_rfl) (by kernel_rfl) (by kernel_rfl) (fun _ _ _ h=>h) (Or.inl ⟨by rfl,?_⟩) hHeld ?_
       rotate_left
       ·intro w' hSw;(try dsimp only at hSw);obtain ⟨c0,c1,c2,c3⟩ := hSw;go_simp;try with_reducible rfl
       try simp only [Act.put,List.setIfInBounds_toArray,List.set_cons_zero,List.set_cons_succ]
       refine take_one 11 32 (v := ?_) rfl rfl (by kernel_rfl) (by kernel_rfl) (by kernel_rfl) (fun _ _ _ h=>h) (Or.inl ⟨by rfl,?_⟩) hHeld ?_
       rotate_left
       ·intro w' hSw;(try dsimp only at hSw);obtain ⟨c0,c1,c2,c3⟩ := hSw;go_simp;try with_reducible rfl
       try simp only [Act.put,List.setIfInBounds_toArray,List.set_cons_zero,List.set_cons_succ]
       refine take_one 12 33 (v := ?_) rfl rfl (by kernel_rfl) (by kernel_rfl) (by kernel_rfl) (fun _ _ _ h=>h) (Or.inl ⟨by rfl,?_⟩) hHeld ?_
       rotate_left
       ·intro w' hSw;(try dsimp only at hSw);obtain ⟨c0,c1,c2,c3⟩ := hSw;go_simp;try with_reducible rfl
       try simp only [Act.put,List.setIfInBounds_toArray,List.set_cons_zero,List.set_cons_succ]
       refine take_one 13 34 (v := ?_) rfl rfl (by kernel_rfl) (by kernel_rfl) (by kernel_rfl) (fun _ _ _ h=>h) (Or.inl ⟨by rfl,?_⟩) hHeld ?_
       rotate_left
       ·intro w' hSw;(try dsimp only at hSw);obtain ⟨c0,c1,c2,c3⟩ := hSw;go_simp;try with_reducible rfl
       try simp only [Act.put,List.setIfInBounds_toArray,List.set_cons_zero,List.set_cons_succ]
       refine take_one 14 35 (v := ?_) rfl rfl (by kernel_rfl) (by kernel_rfl) (by kernel_rfl) (fun _ _ _ h=>h) (Or.inl ⟨by rfl,?_⟩) hHeld ?_
       rotate_left
       ·intro w' hSw;(try dsimp only at hSw);obtain ⟨c0,c1,c2,c3⟩ := hSw;go_simp;try with_reducible rfl
       try simp only [Act.put,List.setIfInBounds_toArray,List.set_cons_zero,List.set_cons_succ]
       refine take_one 15 36 (v := ?_) rfl rfl (by kernel_rfl) (by kernel_rfl) (by kernel_rfl) (fun _ _ _ h=>h) (Or.inl ⟨by rfl,?_⟩) hHeld ?_
       rotate_left
       ·intro w' hSw;(try dsimp only at hSw);obtain ⟨c0,c1,c2,c3⟩ := hSw;go_simp;try with_reducible rfl
       try simp only [Act.put,List.setIfInBounds_toArray,List.set_cons_zero,List.set_cons_succ]
       refine take_one 16 37 (v := ?_) rfl rfl (by kernel_rfl) (by kernel_rfl) (by kernel_rfl) (fun _ _ _ h=>h) (Or.inl ⟨by rfl,?_⟩) hHeld ?_
       rotate_left
       ·intro w' hSw;(try dsimp only at hSw);obtain ⟨c0,c1,c2,c3⟩ := hSw;go_simp;try with_reducible rfl
       try simp only [Act.put,List.setIfInBounds_toArray,List.set_cons_zero,List.set_cons_succ]
       refine wpAnyH_ready (rs := [17]) (by kernel_rfl) (by simp) ?_
       refine AllReadyH.cons (i := 17) rfl (fun K hK=>?_) AllReadyH.nil
       go_simp
       refine (HS w2 (hrd.later hb2)).mono ?_
       rintro e w3 ⟨rfl,hb3⟩
       go_wp2_with fail
       refine hK.out _ _ ⟨(hb3.cell (p := ⟨w.heap.size,1,none⟩) (Nat.lt_of_lt_of_le z0 z2)).trans HK2.1,(hb3.cell (p := ⟨b,off + k * 3,none⟩) (Nat.lt_of_lt_of_le z1 z2)).trans HK2.2.1,(hb3.cell (p := ⟨b,off + k * 3 + 1,none⟩) (Nat.lt_of_lt_of_le z1 z2)).trans HK2.2.2.1,(hb3.cell (p := ⟨b,off + k * 3 + 2,none⟩) (Nat.lt_of_lt_of_le z1 z2)).trans HK2.2.2.2⟩ (fun hHeld2=>?_)
       clear hK K hHeld
       have hHeld := hHeld2
       clear hHeld2
       try simp only [Act.put,List.setIfInBounds_toArray,List.set_cons_zero,List.set_cons_succ]
       refine take_one 18 39 (v := ?_) rfl rfl (by kernel_rfl) (by kernel_rfl) (by kernel_rfl) (fun _ _ _ h=>h) (Or.inl ⟨by rfl,?_⟩) hHeld ?_
       rotate_left
       ·intro w' hSw;(try dsimp only at hSw);obtain ⟨c0,c1,c2,c3⟩ := hSw;go_simp;try with_reducible rfl
       try simp only [Act.put,List.setIfInBounds_toArray,List.set_cons_zero,List.set_cons_succ]
       refine wpAnyH_done (by kernel_rfl) ?_ _
       have BN := (BD.trans (hb2.mono BD.size)).trans (hb3.mono (Nat.le_trans BD.size z2))
       clear hHeld HK2 h0 h1 h2 d1 d1' hrd HA HS
       go_wp2
       go_ret
       exact ⟨by rw [hF];rfl,BN⟩
      ·obtain hF := HY.out hA hS
       rw [decide_eq_false hS] at HS
       clear HN HM HY hS hA
       go_wp2_with fail
       refine wp_region_held_drew (S := (fun V:World=>V.cell? ⟨w.heap.size,1,none⟩=some (.slice (some ⟨b,off,none⟩) xs.length cap)∧V.cell? ⟨b,off + k * 3,none⟩=some (.int .i64 x)∧V.cell? ⟨b,off + k * 3 + 1,none⟩=some (.int .i64 y)∧V.cell? ⟨b,off + k * 3 + 2,none⟩=some (.int .i64 z))) (by kernel_rfl) ⟨d1,h0,h1,h2⟩ (fun hHeld=>?_)
       refine take_one 0 21 (v := ?_) rfl rfl (by kernel_rfl) (by kernel_rfl) (by kernel_rfl) (fun _ _ _ h=>h) (Or.inl ⟨by rfl,?_⟩) hHeld ?_
       rotate_left
       ·intro w' hSw;(try dsimp only at hSw);obtain ⟨c0,c1,c2,c3⟩ := hSw;go_simp;try with_reducible rfl
       try simp only [Act.put,List.setIfInBounds_toArray,List.set_cons_zero,List.set_cons_succ]
       refine take_one 1 22 (v := ?_) rfl rfl (by kernel_rfl) (by kernel_rfl) (by kernel_rfl) (fun _ _ _ h=>h) (Or.inl ⟨by rfl,?_⟩) hHeld ?_
       rotate_left
       ·intro w' hSw;(try dsimp only at hSw);obtain ⟨c0,c1,c2,c3⟩ := hSw;go_simp;try with_reducible rfl
       try simp only [Act.put,List.setIfInBounds_toArray,List.set_cons_zero,List.set_cons_succ]
       refine take_one 2 23 (v := ?_) rfl rfl (by kernel_rfl) (by kernel_rfl) (by kernel_rfl) (fun _ _ _ h=>h) (Or.inl ⟨by rfl,?_⟩) hHeld ?_
       rotate_left
       ·intro w' hSw;(try dsimp only at hSw);obtain ⟨c0,c1,c2,c3⟩ := hSw;go_simp;try with_reducible rfl
       try simp only [Act.put,List.setIfInBounds_toArray,List.set_cons_zero,List.set_cons_succ]
       refine take_one 3 24 (v := ?_) rfl rfl (by kernel_rfl) (by kernel_rfl) (by kernel_rfl) (fun _ _ _ h=>h) (Or.inl ⟨by rfl,?_⟩) hHeld ?_
       rotate_left
       ·intro w' hSw;(try dsimp only at hSw);obtain ⟨c0,c1,c2,c3⟩ := hSw;go_simp;try with_reducible rfl
       try simp only [Act.put,List.setIfInBounds_toArray,List.set_cons_zero,List.set_cons_succ]
       refine take_one 4 25 (v := ?_) rfl rfl (by kernel_rfl) (by kernel_rfl) (by kernel_rfl) (fun _ _ _ h=>h) (Or.inl ⟨by rfl,?_⟩) hHeld ?_
       rotate_left
       ·intro w' hSw;(try dsimp only at hSw);obtain ⟨c0,c1,c2,c3⟩ := hSw;go_simp;try with_reducible rfl
       try simp only [Act.put,List.setIfInBounds_toArray,List.set_cons_zero,List.set_cons_succ]
       refine wpAnyH_ready (rs := [5]) (by kernel_rfl) (by simp) ?_
       refine AllReadyH.cons (i := 5) rfl (fun K hK=>?_) AllReadyH.nil
       go_simp
       refine (HA wr.drew).mono ?_
       rintro e w2 ⟨rfl,hb2⟩
       have HK2:((fun V:World=>V.cell? ⟨w.heap.size,1,none⟩=some (.slice (some ⟨b,off,none⟩) xs.length cap)∧V.cell? ⟨b,off + k * 3,none⟩=some (.int .i64 x)∧V.cell? ⟨b,off + k * 3 + 1,none⟩=some (.int .i64 y)∧V.cell? ⟨b,off + k * 3 + 2,none⟩=some (.int .i64 z))) w2 := ⟨(hb2.cell (p := ⟨w.heap.size,1,none⟩) z0).trans d1,(hb2.cell (p := ⟨b,off + k * 3,none⟩) z1).trans h0,(hb2.cell (p := ⟨b,off + k * 3 + 1,none⟩) z1).trans h1,(hb2.cell (p := ⟨b,off + k * 3 + 2,none⟩) z1).trans h2⟩
       have z2:wr.drew.heap.size≤w2.heap.size := hb2.size
       go_wp2_with fail
       refine hK.out _ _ HK2 (fun hHeld2=>?_)
       clear hK K hHeld
       have hHeld := hHeld2
       clear hHeld2
       try simp only [Act.put,List.setIfInBounds_toArray,List.set_cons_zero,List.set_cons_succ]
       refine take_one 6 27 (v := ?_) rfl rfl (by kernel_rfl) (by kernel_rfl) (by kernel_rfl) (fun _ _ _ h=>h) (Or.inl ⟨by rfl,?_⟩) hHeld ?_
       rotate_left
       ·intro w' hSw;(try dsimp only at hSw);obtain ⟨c0,c1,c2,c3⟩ := hSw;go_simp;try with_reducible rfl
       try simp only [Act.put,List.setIfInBounds_toArray,List.set_cons_zero,List.set_cons_succ]
       refine take_one 7 28 (v := ?_) rfl rfl (by kernel_rfl) (by kernel_rfl) (by kernel_rfl) (fun _ _ _ h=>h) (Or.inl ⟨by rfl,?_⟩) hHeld ?_
       rotate_left
       ·intro w' hSw;(try dsimp only at hSw);obtain ⟨c0,c1,c2,c3⟩ := hSw;go_simp;try with_reducible rfl
       try simp only [Act.put,List.setIfInBounds_toArray,List.set_cons_zero,List.set_cons_succ]
       refine take_one 8 29 (v := ?_) rfl rfl (by kernel_rfl) (by kernel_rfl) (by kernel_rfl) (fun _ _ _ h=>h) (Or.inl ⟨by rfl,?_⟩) hHeld ?_
       rotate_left
       ·intro w' hSw;(try dsimp only at hSw);obtain ⟨c0,c1,c2,c3⟩ := hSw;go_simp;try with_reducible rfl
       try simp only [Act.put,List.setIfInBounds_toArray,List.set_cons_zero,List.set_cons_succ]
       refine take_one 9 30 (v := ?_) rfl rfl (by kernel_rfl) (by kernel_rfl) (by kernel_rfl) (fun _ _ _ h=>h) (Or.inl ⟨by rfl,?_⟩) hHeld ?_
       rotate_left
       ·intro w' hSw;(try dsimp only at hSw);obtain ⟨c0,c1,c2,c3⟩ := hSw;go_simp;try with_reducible rfl
       try simp only [Act.put,List.setIfInBounds_toArray,List.set_cons_zero,List.set_cons_succ]
       refine take_one 10 31 (v := ?_) rfl rfl (by kernel_rfl) (by kernel_rfl) (by kernel_rfl) (fun _ _ _ h=>h) (Or.inl ⟨by rfl,?_⟩) hHeld ?_
       rotate_left
       ·intro w' hSw;(try dsimp only at hSw);obtain ⟨c0,c1,c2,c3⟩ := hSw;go_simp;try with_reducible rfl
       try simp only [Act.put,List.setIfInBounds_toArray,List.set_cons_zero,List.set_cons_succ]
       refine take_one 11 32 (v := ?_) rfl rfl (by kernel_rfl) (by kernel_rfl) (by kernel_rfl) (fun _ _ _ h=>h) (Or.inl ⟨by rfl,?_⟩) hHeld ?_
       rotate_left
       ·intro w' hSw;(try dsimp only at hSw);obtain ⟨c0,c1,c2,c3⟩ := hSw;go_simp;try with_reducible rfl
       try simp only [Act.put,List.setIfInBounds_toArray,List.set_cons_zero,List.set_cons_succ]
       refine take_one 12 33 (v := ?_) rfl rfl (by kernel_rfl) (by kernel_rfl) (by kernel_rfl) (fun _ _ _ h=>h) (Or.inl ⟨by rfl,?_⟩) hHeld ?_
       rotate_left
       ·intro w' hSw;(try dsimp only at hSw);obtain ⟨c0,c1,c2,c3⟩ := hSw;go_simp;try with_reducible rfl
       try simp only [Act.put,List.setIfInBounds_toArray,List.set_cons_zero,List.set_cons_succ]
       refine take_one 13 34 (v := ?_) rfl rfl (by kernel_rfl) (by kernel_rfl) (by kernel_rfl) (fun _ _ _ h=>h) (Or.inl ⟨by rfl,?_⟩) hHeld ?_
       rotate_left
       ·intro w' hSw;(try dsimp only at hSw);obtain ⟨c0,c1,c2,c3⟩ := hSw;go_simp;try with_reducible rfl
       try simp only [Act.put,List.setIfInBounds_toArray,List.set_cons_zero,List.set_cons_succ]
       refine take_one 14 35 (v := ?_) rfl rfl (by kernel_rfl) (by kernel_rfl) (by kernel_rfl) (fun _ _ _ h=>h) (Or.inl ⟨by rfl,?_⟩) hHeld ?_
       rotate_left
       ·intro w' hSw;(try dsimp only at hSw);obtain ⟨c0,c1,c2,c3⟩ := hSw;go_simp;try with_reducible rfl
       try simp only [Act.put,List.setIfInBounds_toArray,List.set_cons_zero,List.set_cons_succ]
       refine take_one 15 36 (v := ?_) rfl rfl (by kernel_rfl) (by kernel_rfl) (by kernel_rfl) (fun _ _ _ h=>h) (Or.inl ⟨by rfl,?_⟩) hHeld ?_
       rotate_left
       ·intro w' hSw;(try dsimp only at hSw);obtain ⟨c0,c1,c2,c3⟩ := hSw;go_simp;try with_reducible rfl
       try simp only [Act.put,List.setIfInBounds_toArray,List.set_cons_zero,List.set_cons_succ]
       refine take_one 16 37 (v := ?_) rfl rfl (by kernel_rfl) (by kernel_rfl) (by kernel_rfl) (fun _ _ _ h=>h) (Or.inl ⟨by rfl,?_⟩) hHeld ?_
       rotate_left
       ·intro w' hSw;(try dsimp only at hSw);obtain ⟨c0,c1,c2,c3⟩ := hSw;go_simp;try with_reducible rfl
       try simp only [Act.put,List.setIfInBounds_toArray,List.set_cons_zero,List.set_cons_succ]
       refine wpAnyH_ready (rs := [17]) (by kernel_rfl) (by simp) ?_
       refine AllReadyH.cons (i := 17) rfl (fun K hK=>?_) AllReadyH.nil
       go_simp
       refine (HS w2 (hrd.later hb2)).mono ?_
       rintro e w3 ⟨rfl,hb3⟩
       go_wp2_with fail
       refine hK.out _ _ ⟨(hb3.cell (p := ⟨w.heap.size,1,none⟩) (Nat.lt_of_lt_of_le z0 z2)).trans HK2.1,(hb3.cell (p := ⟨b,off + k * 3,none⟩) (Nat.lt_of_lt_of_le z1 z2)).trans HK2.2.1,(hb3.cell (p := ⟨b,off + k * 3 + 1,none⟩) (Nat.lt_of_lt_of_le z1 z2)).trans HK2.2.2.1,(hb3.cell (p := ⟨b,off + k * 3 + 2,none⟩) (Nat.lt_of_lt_of_le z1 z2)).trans HK2.2.2.2⟩ (fun hHeld2=>?_)
       clear hK K hHeld
       have hHeld := hHeld2
       clear hHeld2
       try simp only [Act.put,List.setIfInBounds_toArray,List.set_cons_zero,List.set_cons_succ]
       refine take_one 18 39 (v := ?_) rfl rfl (by kernel_rfl) (by kernel_rfl) (by kernel_rfl) (fun _ _ _ h=>h) (Or.inl ⟨by rfl,?_⟩) hHeld ?_
       rotate_left
       ·intro w' hSw;(try dsimp only at hSw);obtain ⟨c0,c1,c2,c3⟩ := hSw;go_simp;try with_reducible rfl
       try simp only [Act.put,List.setIfInBounds_toArray,List.set_cons_zero,List.set_cons_succ]
       refine wpAnyH_done (by kernel_rfl) ?_ _
       have BN := (BD.trans (hb2.mono BD.size)).trans (hb3.mono (Nat.le_trans BD.size z2))
       have TN := (TD.later hb2 TD.lt).later hb3 (Nat.lt_of_lt_of_le z0 z2)
       clear hHeld HK2 h0 h1 h2 d1 d1' hrd HA HS
       go_wp2
       go_roundw
       case rel=>exact ⟨k + 1,by omega,by go_num,hF,TN,BN⟩
       case measure=>simp [intOf];omega
     ·rw [Bool.not_eq_true] at hA
      have hF := HN.out hA
      rw [hA] at HA
      clear HN HM HY hA HS
      go_wp2_with fail
      refine wp_region_held_drew (S := (fun V:World=>V.cell? ⟨w.heap.size,1,none⟩=some (.slice (some ⟨b,off,none⟩) xs.length cap)∧V.cell? ⟨b,off + k * 3,none⟩=some (.int .i64 x)∧V.cell? ⟨b,off + k * 3 + 1,none⟩=some (.int .i64 y)∧V.cell? ⟨b,off + k * 3 + 2,none⟩=some (.int .i64 z))) (by kernel_rfl) ⟨d1,h0,h1,h2⟩ (fun hHeld=>?_)
      refine take_one 0 21 (v := ?_) rfl rfl (by kernel_rfl) (by kernel_rfl) (by kernel_rfl) (fun _ _ _ h=>h) (Or.inl ⟨by rfl,?_⟩) hHeld ?_
      rotate_left
      ·intro w' hSw;(try dsimp only at hSw);obtain ⟨c0,c1,c2,c3⟩ := hSw;go_simp;try with_reducible rfl
      try simp only [Act.put,List.setIfInBounds_toArray,List.set_cons_zero,List.set_cons_succ]
      refine take_one 1 22 (v := ?_) rfl rfl (by kernel_rfl) (by kernel_rfl) (by kernel_rfl) (fun _ _ _ h=>h) (Or.inl ⟨by rfl,?_⟩) hHeld ?_
      rotate_left
      ·intro w' hSw;(try dsimp only at hSw);obtain ⟨c0,c1,c2,c3⟩ := hSw;go_simp;try with_reducible rfl
      try simp only [Act.put,List.setIfInBounds_toArray,List.set_cons_zero,List.set_cons_succ]
      refine take_one 2 23 (v := ?_) rfl rfl (by kernel_rfl) (by kernel_rfl) (by kernel_rfl) (fun _ _ _ h=>h) (Or.inl ⟨by rfl,?_⟩) hHeld ?_
      rotate_left
      ·intro w' hSw;(try dsimp only at hSw);obtain ⟨c0,c1,c2,c3⟩ := hSw;go_simp;try with_reducible rfl
      try simp only [Act.put,List.setIfInBounds_toArray,List.set_cons_zero,List.set_cons_succ]
      refine take_one 3 24 (v := ?_) rfl rfl (by kernel_rfl) (by kernel_rfl) (by kernel_rfl) (fun _ _ _ h=>h) (Or.inl ⟨by rfl,?_⟩) hHeld ?_
      rotate_left
      ·intro w' hSw;(try dsimp only at hSw);obtain ⟨c0,c1,c2,c3⟩ := hSw;go_simp;try with_reducible rfl
      try simp only [Act.put,List.setIfInBounds_toArray,List.set_cons_zero,List.set_cons_succ]
      refine take_one 4 25 (v := ?_) rfl rfl (by kernel_rfl) (by kernel_rfl) (by kernel_rfl) (fun _ _ _ h=>h) (Or.inl ⟨by rfl,?_⟩) hHeld ?_
      rotate_left
      ·intro w' hSw;(try dsimp only at hSw);obtain ⟨c0,c1,c2,c3⟩ := hSw;go_simp;try with_reducible rfl
      try simp only [Act.put,List.setIfInBounds_toArray,List.set_cons_zero,List.set_cons_succ]
      refine wpAnyH_ready (rs := [5]) (by kernel_rfl) (by simp) ?_
      refine AllReadyH.cons (i := 5) rfl (fun K hK=>?_) AllReadyH.nil
      go_simp
      refine (HA wr.drew).mono ?_
      rintro e w2 ⟨rfl,hb2⟩
      have HK2:((fun V:World=>V.cell? ⟨w.heap.size,1,none⟩=some (.slice (some ⟨b,off,none⟩) xs.length cap)∧V.cell? ⟨b,off + k * 3,none⟩=some (.int .i64 x)∧V.cell? ⟨b,off + k * 3 + 1,none⟩=some (.int .i64 y)∧V.cell? ⟨b,off + k * 3 + 2,none⟩=some (.int .i64 z))) w2 := ⟨(hb2.cell (p := ⟨w.heap.size,1,none⟩) z0).trans d1,(hb2.cell (p := ⟨b,off + k * 3,none⟩) z1).trans h0,(hb2.cell (p := ⟨b,off + k * 3 + 1,none⟩) z1).trans h1,(hb2.cell (p := ⟨b,off + k * 3 + 2,none⟩) z1).trans h2⟩
      have z2:wr.drew.heap.size≤w2.heap.size := hb2.size
      go_wp2_with fail
      refine hK.out _ _ HK2 (fun hHeld2=>?_)
      clear hK K hHeld
      have hHeld := hHeld2
      clear hHeld2
      try simp only [Act.put,List.setIfInBounds_toArray,List.set_cons_zero,List.set_cons_succ]
      refine take_one 6 27 (v := ?_) rfl rfl (by kernel_rfl) (by kernel_rfl) (by kernel_rfl) (fun _ _ _ h=>h) (Or.inl ⟨by rfl,?_⟩) hHeld ?_
      rotate_left
      ·intro w' hSw;(try dsimp only at hSw);obtain ⟨c0,c1,c2,c3⟩ := hSw;go_simp;try with_reducible rfl
      try simp only [Act.put,List.setIfInBounds_toArray,List.set_cons_zero,List.set_cons_succ]
      refine take_one 7 28 (v := ?_) rfl rfl (by kernel_rfl) (by kernel_rfl) (by kernel_rfl) (fun _ _ _ h=>h) (Or.inl ⟨by rfl,?_⟩) hHeld ?_
      rotate_left
      ·intro w' hSw;(try dsimp only at hSw);obtain ⟨c0,c1,c2,c3⟩ := hSw;go_simp;try with_reducible rfl
      try simp only [Act.put,List.setIfInBounds_toArray,List.set_cons_zero,List.set_cons_succ]
      refine skip_one 8 29 rfl rfl (by kernel_rfl) (by kernel_rfl) (by kernel_rfl) (fun _ _ _ h=>h) (unwanted (c := true) rfl rfl (by simp) rfl) hHeld ?_
      try simp only [Act.put,List.setIfInBounds_toArray,List.set_cons_zero,List.set_cons_succ]
      refine skip_one 9 30 rfl rfl (by kernel_rfl) (by kernel_rfl) (by kernel_rfl) (fun _ _ _ h=>h) (unwanted (c := true) rfl rfl (by simp) rfl) hHeld ?_
      try simp only [Act.put,List.setIfInBounds_toArray,List.set_cons_zero,List.set_cons_succ]
      refine skip_one 10 31 rfl rfl (by kernel_rfl) (by kernel_rfl) (by kernel_rfl) (fun _ _ _ h=>h) (unwanted (c := true) rfl rfl (by simp) rfl) hHeld ?_
      try simp only [Act.put,List.setIfInBounds_toArray,List.set_cons_zero,List.set_cons_succ]
      refine skip_one 11 32 rfl rfl (by kernel_rfl) (by kernel_rfl) (by kernel_rfl) (fun _ _ _ h=>h) (unwanted (c := true) rfl rfl (by simp) rfl) hHeld ?_
      try simp only [Act.put,List.setIfInBounds_toArray,List.set_cons_zero,List.set_cons_succ]
      refine skip_one 12 33 rfl rfl (by kernel_rfl) (by kernel_rfl) (by kernel_rfl) (fun _ _ _ h=>h) (unwanted (c := true) rfl rfl (by simp) rfl) hHeld ?_
      try simp only [Act.put,List.setIfInBounds_toArray,List.set_cons_zero,List.set_cons_succ]
      refine skip_one 13 34 rfl rfl (by kernel_rfl) (by kernel_rfl) (by kernel_rfl) (fun _ _ _ h=>h) (unwanted (c := true) rfl rfl (by simp) rfl) hHeld ?_
      try simp only [Act.put,List.setIfInBounds_toArray,List.set_cons_zero,List.set_cons_succ]
      refine skip_one 14 35 rfl rfl (by kernel_rfl) (by kernel_rfl) (by kernel_rfl) (fun _ _ _ h=>h) (unwanted (c := true) rfl rfl (by simp) rfl) hHeld ?_
      try simp only [Act.put,List.setIfInBounds_toArray,List.set_cons_zero,List.set_cons_succ]
      refine skip_one 15 36 rfl rfl (by kernel_rfl) (by kernel_rfl) (by kernel_rfl) (fun _ _ _ h=>h) (unwanted (c := true) rfl rfl (by simp) rfl) hHeld ?_
      try simp only [Act.put,List.setIfInBounds_toArray,List.set_cons_zero,List.set_cons_succ]
      refine skip_one 16 37 rfl rfl (by kernel_rfl) (by kernel_rfl) (by kernel_rfl) (fun _ _ _ h=>h) (unwanted (c := true) rfl rfl (by simp) rfl) hHeld ?_
      try simp only [Act.put,List.setIfInBounds_toArray,List.set_cons_zero,List.set_cons_succ]
      refine skip_one 17 38 rfl rfl (by kernel_rfl) (by kernel_rfl) (by kernel_rfl) (fun _ _ _ h=>h) (unwanted (c := true) rfl rfl (by simp) rfl) hHeld ?_
      try simp only [Act.put,List.setIfInBounds_toArray,List.set_cons_zero,List.set_cons_succ]
      refine take_one 18 39 (v := ?_) rfl rfl (by kernel_rfl) (by kernel_rfl) (by kernel_rfl) (fun _ _ _ h=>h) (Or.inl ⟨by rfl,?_⟩) hHeld ?_
      rotate_left
      ·intro w' hSw;(try dsimp only at hSw);obtain ⟨c0,c1,c2,c3⟩ := hSw;go_simp;try with_reducible rfl
      try simp only [Act.put,List.setIfInBounds_toArray,List.set_cons_zero,List.set_cons_succ]
      refine wpAnyH_done (by kernel_rfl) ?_ _
      have BN := BD.trans (hb2.mono BD.size)
      clear hHeld HK2 h0 h1 h2 d1 d1' hrd HA
      go_wp2
      go_ret
      exact ⟨by rw [hF];rfl,BN⟩
    ·obtain rfl:k=xs.length := by omega
     have hA:allA xs=true := allA_yes (fun j hj=>hall j hj hj)
     rw [List.take_length] at hnd
     have hF:snB xs=true := by unfold snB;rw [hA,decide_eq_true hnd];rfl
     have d1 := T.at 1 rfl
     clear hA hnd hall
     go_wp2
     go_ret
     exact ⟨by rw [hF];rfl,hbel⟩
  ·have hd:decide ((6:Int) < (xs.length:Int))=true := by simp;omega
   have hdd:decide (xs.length≤6)=false := decide_eq_false h6
   have ec:cOk q xs=false := by unfold cOk;rw [hdd,Bool.false_and,Bool.and_false]
   rw [ec]
   clear ec hdd hq hq'
   go_enter Tryz.func33,Tryz.ntmps33
   go_wp2_with fail
   refine (HQ _).mono ?_
   clear HQ
   rintro e w1 ⟨rfl,rfl⟩
   go_wp2
   go_ret
   exact ⟨rfl,hb0⟩
 ·rw [Bool.not_eq_true] at hq
  have hq':(decide (-1≤q) && decide (q≤200000))=false := hq
  simp only [hq'] at HQ
  have ec:cOk q xs=false := by unfold cOk;rw [hq];rfl
  rw [ec]
  clear ec hq hq'
  go_enter Tryz.func33,Tryz.ntmps33
  go_wp2_with fail
  refine (HQ _).mono ?_
  clear HQ
  rintro e w1 ⟨rfl,rfl⟩
  go_wp2
  go_ret
  exact ⟨rfl,hb0⟩
end Go.Proofs.YtjcmbbnklfemcaaGreat.Ch
