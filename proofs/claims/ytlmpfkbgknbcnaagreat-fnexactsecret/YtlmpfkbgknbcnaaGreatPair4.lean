/- Rows of pairs that are right: the model. -/
import Derived.Test.YtlmpfkbgknbcnaaGreatAb
import Derived.Test.YtlmpfkbgknbcnaaGreatPair2
set_option linter.unusedVariables false
set_option maxRecDepth 100000
namespace Go.Proofs.YtlmpfkbgknbcnaaGreat
open Go Go.RowKit Var Term Draw
set_option maxRecDepth 100000 in
set_option maxHeartbeats 12800000 in
theorem specPairsU_is (a : Option Addr) (cap : Nat) (xs : List (Int × Int)) (w : World) (hr : PRow w a xs) (hl : xs.length ≤ 1048576) (hcap : xs.length ≤ cap) :
  Calls Tryz.prog 63 #[.slice a xs.length cap,I 3,.bool true] w fun e w' => e = .returned (.bool (pairsB ulB xs)) ∧ Below w.heap.size w w':=by
 by_cases h6 : xs.length ≤ 6
 ·have hd : decide ((6 : Int) < (xs.length : Int)) = false:=by simp; omega
  have hd2 : decide (6 < xs.length) = false:=by simp; omega
  go_enter Tryz.func63,Tryz.ntmps63
  go_wp2
  go_loopw [7] (fun i wr => ∃ k : Nat,k ≤ xs.length ∧ i = I k ∧ ((∀ j (hj : j < xs.length),j < k → ulB xs[j].1 xs[j].2 = true) ∧ (xs.take k).Nodup) ∧ Below w.heap.size w wr) (fun i _ => xs.length - (intOf i).toNat)
  case atStart => exact ⟨0,by omega,rfl,⟨fun j hj h => absurd h (by omega),by simp⟩,Below.refl _ _⟩
  case round =>
   obtain ⟨k,hk,rfl,⟨hall,hnd⟩,hbel⟩:=hrel
   by_cases hlt : k < xs.length
   ·obtain ⟨b,off,rfl,hbl,l0,l1⟩:=hr k hlt
    rw [← hbel.cell (p:=⟨b,off + k * 2,none⟩) hbl] at l0
    rw [← hbel.cell (p:=⟨b,off + k * 2 + 1,none⟩) hbl] at l1
    have hlt2 : (k : Int) < (xs.length : Int):=by omega
    have HN : Hid (ulB xs[k].1 xs[k].2 = false → pairsB ulB xs = false):=(fun h => pairsB_not hlt h)
    have HM : Hid (xs[k] ∈ xs.take k → pairsB ulB xs = false):=(fun h => by unfold pairsB; rw [decide_eq_false (nodup_no hlt h)]; simp)
    have HY : Hid (ulB xs[k].1 xs[k].2 = true → (xs[k].1,xs[k].2) ∉ xs.take k → (∀ j (hj : j < xs.length),j < k + 1 → ulB xs[j].1 xs[j].2 = true) ∧ (xs.take (k + 1)).Nodup):=(fun h hm => ⟨fun j hj hjk => (if e : j = k then by subst e; exact h else hall j hj (by omega) : ulB xs[j].1 xs[j].2 = true),(nodup_take hlt).2 ⟨hnd,hm⟩⟩)
    replace HM : Hid ((xs[k].1,xs[k].2) ∈ xs.take k → pairsB ulB xs = false):=HM
    have hlen : (xs.take k).length = k:=by rw [List.length_take]; omega
    clear hall hnd
    generalize xs[k].1 = x at l0 HN HM HY
    generalize xs[k].2 = y at l1 HN HM HY
    obtain ⟨V,hV⟩ : ∃ V,wr.alloc (.cells #[I x,I y] 178) = V:=⟨_,rfl⟩
    have BV : Below w.heap.size w V:=by rw [← hV]; exact hbel.alloc hbel.size _
    have T : Blk wr.heap.size [I x,I y] V:=by rw [← hV]; exact Blk.new _ _ _
    have ZD : wr.heap.size < V.drew.heap.size:=by rw [← hV]; show _ < (wr.alloc _).heap.size; simp
    have TD:=T.drew
    have BD:=BV.drew
    have HH:=has_is (some ⟨b,off,none⟩) cap (xs.take k) x y V.drew ((hr.later BD).take k) (by rw [hlen]; omega)
    rw [hlen] at HH
    have d0:=T.at 0 rfl
    have d1:=T.at 1 rfl
    have hkc : (k : Int) ≤ (cap : Int):=by omega
    have hkc2 : k ≤ cap:=by omega
    clear hr hbel BV T
    replace ZD : Hid (wr.heap.size < V.drew.heap.size):=ZD
    by_cases h1 : x < 0
    ·have p0 : decide (x < 0) = true:=decide_eq_true h1
     have H1 : Hid (pairsB ulB xs = false):=HN.out (by unfold ulB btw; simp; omega)
     clear HN HY HH
     go_wp2
     try rw [hV]
     clear hV d0 d1
     refine wp_region_held_drew (S:=(fun W : World => Blk wr.heap.size [I x,I y] W)) (by kernel_rfl) TD (fun hHeld => ?_)
     refine tk 0 22 rfl _ hHeld (by intro w' h; have c0:=h.e2; go_simp; try with_reducible rfl) ?_
     try simp only [Act.put,pa,pb,pc]
     refine tk 1 23 rfl _ hHeld (by intro w' h; have c0:=h.e2; go_simp; try with_reducible rfl) ?_
     try simp only [Act.put,pa,pb,pc]
     refine tk 2 24 rfl _ hHeld (by intro w' h; have c0:=h.e2; go_simp; try with_reducible rfl) ?_
     try simp only [Act.put,pa,pb,pc]
     refine tk 3 25 rfl _ hHeld (by intro w' h; have c0:=h.e2; go_simp; try with_reducible rfl) ?_
     try simp only [Act.put,pa,pb,pc]
     refine sk 4 26 rfl hHeld (unwanted (c:=true) rfl rfl (by simp) rfl) ?_
     try simp only [Act.put,pa,pb,pc]
     refine sk 5 27 rfl hHeld (unwanted (c:=true) rfl rfl (by simp) rfl) ?_
     try simp only [Act.put,pa,pb,pc]
     refine sk 6 28 rfl hHeld (unwanted (c:=true) rfl rfl (by simp) rfl) ?_
     try simp only [Act.put,pa,pb,pc]
     refine sk 7 29 rfl hHeld (unwanted (c:=true) rfl rfl (by simp) rfl) ?_
     try simp only [Act.put,pa,pb,pc]
     refine tk 8 30 rfl _ hHeld (by intro w' h; have c0:=h.e2; go_simp; try with_reducible rfl) ?_
     try simp only [Act.put,pa,pb,pc]
     refine tk 9 31 rfl _ hHeld (by intro w' h; have c0:=h.e2; go_simp; try with_reducible rfl) ?_
     try simp only [Act.put,pa,pb,pc]
     refine sk 10 32 rfl hHeld (unwanted (c:=true) rfl rfl (by simp) rfl) ?_
     try simp only [Act.put,pa,pb,pc]
     refine sk 11 33 rfl hHeld (unwanted (c:=true) rfl rfl (by simp) rfl) ?_
     try simp only [Act.put,pa,pb,pc]
     refine sk 12 34 rfl hHeld (unwanted (c:=true) rfl rfl (by simp) rfl) ?_
     try simp only [Act.put,pa,pb,pc]
     refine tk 13 35 rfl _ hHeld (by intro w' h; have c0:=h.e2; go_simp; try with_reducible rfl) ?_
     try simp only [Act.put,pa,pb,pc]
     refine tk 14 36 rfl _ hHeld (by intro w' h; have c0:=h.e2; go_simp; try with_reducible rfl) ?_
     try simp only [Act.put,pa,pb,pc]
     refine sk 15 37 rfl hHeld (unwanted (c:=true) rfl rfl (by simp) rfl) ?_
     try simp only [Act.put,pa,pb,pc]
     refine sk 16 38 rfl hHeld (unwanted (c:=true) rfl rfl (by simp) rfl) ?_
     try simp only [Act.put,pa,pb,pc]
     refine sk 17 39 rfl hHeld (unwanted (c:=true) rfl rfl (by simp) rfl) ?_
     try simp only [Act.put,pa,pb,pc]
     refine sk 18 40 rfl hHeld (unwanted (c:=true) rfl rfl (by simp) rfl) ?_
     try simp only [Act.put,pa,pb,pc]
     refine tk 19 41 rfl _ hHeld (by intro w' h; have c0:=h.e2; go_simp; try with_reducible rfl) ?_
     try simp only [Act.put,pa,pb,pc]
     refine tk 20 42 rfl _ hHeld (by intro w' h; have c0:=h.e2; go_simp; try with_reducible rfl) ?_
     try simp only [Act.put,pa,pb,pc]
     refine sk 21 43 rfl hHeld (unwanted (c:=true) rfl rfl (by simp) rfl) ?_
     try simp only [Act.put,pa,pb,pc]
     refine sk 22 44 rfl hHeld (unwanted (c:=true) rfl rfl (by simp) rfl) ?_
     try simp only [Act.put,pa,pb,pc]
     refine sk 23 45 rfl hHeld (unwanted_undef rfl rfl (by simp)) ?_
     try simp only [Act.put,pa,pb,pc]
     refine sk 24 46 rfl hHeld (unwanted_undef rfl rfl (by simp)) ?_
     try simp only [Act.put,pa,pb,pc]
     refine sk 25 47 rfl hHeld (unwanted_undef rfl rfl (by simp)) ?_
     try simp only [Act.put,pa,pb,pc]
     refine sk 26 48 rfl hHeld (unwanted_undef rfl rfl (by simp)) ?_
     try simp only [Act.put,pa,pb,pc]
     refine sk 27 49 rfl hHeld (unwanted_undef rfl rfl (by simp)) ?_
     try simp only [Act.put,pa,pb,pc]
     refine sk 28 50 rfl hHeld (unwanted (c:=true) rfl rfl (by simp) rfl) ?_
     try simp only [Act.put,pa,pb,pc]
     refine tk 29 51 rfl _ hHeld (by intro w' h; have c0:=h.e2; go_simp; try with_reducible rfl) ?_
     try simp only [Act.put,pa,pb,pc]
     refine tk 30 52 rfl _ hHeld (by intro w' h; have c0:=h.e2; go_simp; try with_reducible rfl) ?_
     try simp only [Act.put,pa,pb,pc]
     refine sk 31 53 rfl hHeld (unwanted (c:=true) rfl rfl (by simp) rfl) ?_
     try simp only [Act.put,pa,pb,pc]
     refine sk 32 54 rfl hHeld (unwanted (c:=true) rfl rfl (by simp) rfl) ?_
     try simp only [Act.put,pa,pb,pc]
     refine sk 33 55 rfl hHeld (unwanted (c:=true) rfl rfl (by simp) rfl) ?_
     try simp only [Act.put,pa,pb,pc]
     refine sk 34 56 rfl hHeld (unwanted (c:=true) rfl rfl (by simp) rfl) ?_
     try simp only [Act.put,pa,pb,pc]
     refine sk 35 57 rfl hHeld (unwanted (c:=true) rfl rfl (by simp) rfl) ?_
     try simp only [Act.put,pa,pb,pc]
     refine tk 36 58 rfl _ hHeld (by intro w' h; have c0:=h.e2; go_simp; try with_reducible rfl) ?_
     try simp only [Act.put,pa,pb,pc]
     refine wpAnyH_done (by kernel_rfl) ?_ _
     clear hHeld
     go_wp2
     go_ret
     exact ⟨by rw [H1.out]; rfl,BD⟩
    ·by_cases h2 : 3 ≤ x
     ·have p0 : decide (x < 0) = false:=decide_eq_false h1
      have p1 : decide (3 ≤ x) = true:=decide_eq_true h2
      have H1 : Hid (pairsB ulB xs = false):=HN.out (by unfold ulB btw; simp; omega)
      clear HN HY HH
      go_wp2
      try rw [hV]
      clear hV d0 d1
      refine wp_region_held_drew (S:=(fun W : World => Blk wr.heap.size [I x,I y] W)) (by kernel_rfl) TD (fun hHeld => ?_)
      refine tk 0 22 rfl _ hHeld (by intro w' h; have c0:=h.e2; go_simp; try with_reducible rfl) ?_
      try simp only [Act.put,pa,pb,pc]
      refine tk 1 23 rfl _ hHeld (by intro w' h; have c0:=h.e2; go_simp; try with_reducible rfl) ?_
      try simp only [Act.put,pa,pb,pc]
      refine tk 2 24 rfl _ hHeld (by intro w' h; have c0:=h.e2; go_simp; try with_reducible rfl) ?_
      try simp only [Act.put,pa,pb,pc]
      refine tk 3 25 rfl _ hHeld (by intro w' h; have c0:=h.e2; go_simp; try with_reducible rfl) ?_
      try simp only [Act.put,pa,pb,pc]
      refine tk 4 26 rfl _ hHeld (by intro w' h; have c0:=h.e2; go_simp; try with_reducible rfl) ?_
      try simp only [Act.put,pa,pb,pc]
      refine tk 5 27 rfl _ hHeld (by intro w' h; have c0:=h.e2; go_simp; try with_reducible rfl) ?_
      try simp only [Act.put,pa,pb,pc]
      refine tk 6 28 rfl _ hHeld (by intro w' h; have c0:=h.e2; go_simp; try with_reducible rfl) ?_
      try simp only [Act.put,pa,pb,pc]
      refine tk 7 29 rfl _ hHeld (by intro w' h; have c0:=h.e2; go_simp; try with_reducible rfl) ?_
      try simp only [Act.put,pa,pb,pc]
      refine tk 8 30 rfl _ hHeld (by intro w' h; have c0:=h.e2; go_simp; try with_reducible rfl) ?_
      try simp only [Act.put,pa,pb,pc]
      refine tk 9 31 rfl _ hHeld (by intro w' h; have c0:=h.e2; go_simp; try with_reducible rfl) ?_
      try simp only [Act.put,pa,pb,pc]
      refine sk 10 32 rfl hHeld (unwanted (c:=true) rfl rfl (by simp) rfl) ?_
      try simp only [Act.put,pa,pb,pc]
      refine sk 11 33 rfl hHeld (unwanted (c:=true) rfl rfl (by simp) rfl) ?_
      try simp only [Act.put,pa,pb,pc]
      refine sk 12 34 rfl hHeld (unwanted (c:=true) rfl rfl (by simp) rfl) ?_
      try simp only [Act.put,pa,pb,pc]
      refine tk 13 35 rfl _ hHeld (by intro w' h; have c0:=h.e2; go_simp; try with_reducible rfl) ?_
      try simp only [Act.put,pa,pb,pc]
      refine tk 14 36 rfl _ hHeld (by intro w' h; have c0:=h.e2; go_simp; try with_reducible rfl) ?_
      try simp only [Act.put,pa,pb,pc]
      refine sk 15 37 rfl hHeld (unwanted (c:=true) rfl rfl (by simp) rfl) ?_
      try simp only [Act.put,pa,pb,pc]
      refine sk 16 38 rfl hHeld (unwanted (c:=true) rfl rfl (by simp) rfl) ?_
      try simp only [Act.put,pa,pb,pc]
      refine sk 17 39 rfl hHeld (unwanted (c:=true) rfl rfl (by simp) rfl) ?_
      try simp only [Act.put,pa,pb,pc]
      refine sk 18 40 rfl hHeld (unwanted (c:=true) rfl rfl (by simp) rfl) ?_
      try simp only [Act.put,pa,pb,pc]
      refine tk 19 41 rfl _ hHeld (by intro w' h; have c0:=h.e2; go_simp; try with_reducible rfl) ?_
      try simp only [Act.put,pa,pb,pc]
      refine tk 20 42 rfl _ hHeld (by intro w' h; have c0:=h.e2; go_simp; try with_reducible rfl) ?_
      try simp only [Act.put,pa,pb,pc]
      refine sk 21 43 rfl hHeld (unwanted (c:=true) rfl rfl (by simp) rfl) ?_
      try simp only [Act.put,pa,pb,pc]
      refine sk 22 44 rfl hHeld (unwanted (c:=true) rfl rfl (by simp) rfl) ?_
      try simp only [Act.put,pa,pb,pc]
      refine sk 23 45 rfl hHeld (unwanted_undef rfl rfl (by simp)) ?_
      try simp only [Act.put,pa,pb,pc]
      refine sk 24 46 rfl hHeld (unwanted_undef rfl rfl (by simp)) ?_
      try simp only [Act.put,pa,pb,pc]
      refine sk 25 47 rfl hHeld (unwanted_undef rfl rfl (by simp)) ?_
      try simp only [Act.put,pa,pb,pc]
      refine sk 26 48 rfl hHeld (unwanted_undef rfl rfl (by simp)) ?_
      try simp only [Act.put,pa,pb,pc]
      refine sk 27 49 rfl hHeld (unwanted_undef rfl rfl (by simp)) ?_
      try simp only [Act.put,pa,pb,pc]
      refine sk 28 50 rfl hHeld (unwanted (c:=true) rfl rfl (by simp) rfl) ?_
      try simp only [Act.put,pa,pb,pc]
      refine tk 29 51 rfl _ hHeld (by intro w' h; have c0:=h.e2; go_simp; try with_reducible rfl) ?_
      try simp only [Act.put,pa,pb,pc]
      refine tk 30 52 rfl _ hHeld (by intro w' h; have c0:=h.e2; go_simp; try with_reducible rfl) ?_
      try simp only [Act.put,pa,pb,pc]
      refine sk 31 53 rfl hHeld (unwanted (c:=true) rfl rfl (by simp) rfl) ?_
      try simp only [Act.put,pa,pb,pc]
      refine sk 32 54 rfl hHeld (unwanted (c:=true) rfl rfl (by simp) rfl) ?_
      try simp only [Act.put,pa,pb,pc]
      refine sk 33 55 rfl hHeld (unwanted (c:=true) rfl rfl (by simp) rfl) ?_
      try simp only [Act.put,pa,pb,pc]
      refine sk 34 56 rfl hHeld (unwanted (c:=true) rfl rfl (by simp) rfl) ?_
      try simp only [Act.put,pa,pb,pc]
      refine sk 35 57 rfl hHeld (unwanted (c:=true) rfl rfl (by simp) rfl) ?_
      try simp only [Act.put,pa,pb,pc]
      refine tk 36 58 rfl _ hHeld (by intro w' h; have c0:=h.e2; go_simp; try with_reducible rfl) ?_
      try simp only [Act.put,pa,pb,pc]
      refine wpAnyH_done (by kernel_rfl) ?_ _
      clear hHeld
      go_wp2
      go_ret
      exact ⟨by rw [H1.out]; rfl,BD⟩
     ·by_cases h3 : y < 0
      ·have p0 : decide (x < 0) = false:=decide_eq_false h1
       have p1 : decide (3 ≤ x) = false:=decide_eq_false h2
       have p2 : decide (y < 0) = true:=decide_eq_true h3
       have H1 : Hid (pairsB ulB xs = false):=HN.out (by unfold ulB btw; simp; omega)
       clear HN HY HH
       go_wp2
       try rw [hV]
       clear hV d0 d1
       refine wp_region_held_drew (S:=(fun W : World => Blk wr.heap.size [I x,I y] W)) (by kernel_rfl) TD (fun hHeld => ?_)
       refine tk 0 22 rfl _ hHeld (by intro w' h; have c0:=h.e2; go_simp; try with_reducible rfl) ?_
       try simp only [Act.put,pa,pb,pc]
       refine tk 1 23 rfl _ hHeld (by intro w' h; have c0:=h.e2; go_simp; try with_reducible rfl) ?_
       try simp only [Act.put,pa,pb,pc]
       refine tk 2 24 rfl _ hHeld (by intro w' h; have c0:=h.e2; go_simp; try with_reducible rfl) ?_
       try simp only [Act.put,pa,pb,pc]
       refine tk 3 25 rfl _ hHeld (by intro w' h; have c0:=h.e2; go_simp; try with_reducible rfl) ?_
       try simp only [Act.put,pa,pb,pc]
       refine tk 4 26 rfl _ hHeld (by intro w' h; have c0:=h.e2; go_simp; try with_reducible rfl) ?_
       try simp only [Act.put,pa,pb,pc]
       refine tk 5 27 rfl _ hHeld (by intro w' h; have c0:=h.e2; go_simp; try with_reducible rfl) ?_
       try simp only [Act.put,pa,pb,pc]
       refine tk 6 28 rfl _ hHeld (by intro w' h; have c0:=h.e2; go_simp; try with_reducible rfl) ?_
       try simp only [Act.put,pa,pb,pc]
       refine tk 7 29 rfl _ hHeld (by intro w' h; have c0:=h.e2; go_simp; try with_reducible rfl) ?_
       try simp only [Act.put,pa,pb,pc]
       refine tk 8 30 rfl _ hHeld (by intro w' h; have c0:=h.e2; go_simp; try with_reducible rfl) ?_
       try simp only [Act.put,pa,pb,pc]
       refine tk 9 31 rfl _ hHeld (by intro w' h; have c0:=h.e2; go_simp; try with_reducible rfl) ?_
       try simp only [Act.put,pa,pb,pc]
       refine tk 10 32 rfl _ hHeld (by intro w' h; have c0:=h.e2; go_simp; try with_reducible rfl) ?_
       try simp only [Act.put,pa,pb,pc]
       refine tk 11 33 rfl _ hHeld (by intro w' h; have c0:=h.e2; go_simp; try with_reducible rfl) ?_
       try simp only [Act.put,pa,pb,pc]
       refine tk 12 34 rfl _ hHeld (by intro w' h; have c0:=h.e2; go_simp; try with_reducible rfl) ?_
       try simp only [Act.put,pa,pb,pc]
       refine tk 13 35 rfl _ hHeld (by intro w' h; have c0:=h.e2; go_simp; try with_reducible rfl) ?_
       try simp only [Act.put,pa,pb,pc]
       refine tk 14 36 rfl _ hHeld (by intro w' h; have c0:=h.e2; go_simp; try with_reducible rfl) ?_
       try simp only [Act.put,pa,pb,pc]
       refine sk 15 37 rfl hHeld (unwanted (c:=true) rfl rfl (by simp) rfl) ?_
       try simp only [Act.put,pa,pb,pc]
       refine sk 16 38 rfl hHeld (unwanted (c:=true) rfl rfl (by simp) rfl) ?_
       try simp only [Act.put,pa,pb,pc]
       refine sk 17 39 rfl hHeld (unwanted (c:=true) rfl rfl (by simp) rfl) ?_
       try simp only [Act.put,pa,pb,pc]
       refine sk 18 40 rfl hHeld (unwanted (c:=true) rfl rfl (by simp) rfl) ?_
       try simp only [Act.put,pa,pb,pc]
       refine tk 19 41 rfl _ hHeld (by intro w' h; have c0:=h.e2; go_simp; try with_reducible rfl) ?_
       try simp only [Act.put,pa,pb,pc]
       refine tk 20 42 rfl _ hHeld (by intro w' h; have c0:=h.e2; go_simp; try with_reducible rfl) ?_
       try simp only [Act.put,pa,pb,pc]
       refine sk 21 43 rfl hHeld (unwanted (c:=true) rfl rfl (by simp) rfl) ?_
       try simp only [Act.put,pa,pb,pc]
       refine sk 22 44 rfl hHeld (unwanted (c:=true) rfl rfl (by simp) rfl) ?_
       try simp only [Act.put,pa,pb,pc]
       refine sk 23 45 rfl hHeld (unwanted_undef rfl rfl (by simp)) ?_
       try simp only [Act.put,pa,pb,pc]
       refine sk 24 46 rfl hHeld (unwanted_undef rfl rfl (by simp)) ?_
       try simp only [Act.put,pa,pb,pc]
       refine sk 25 47 rfl hHeld (unwanted_undef rfl rfl (by simp)) ?_
       try simp only [Act.put,pa,pb,pc]
       refine sk 26 48 rfl hHeld (unwanted_undef rfl rfl (by simp)) ?_
       try simp only [Act.put,pa,pb,pc]
       refine sk 27 49 rfl hHeld (unwanted_undef rfl rfl (by simp)) ?_
       try simp only [Act.put,pa,pb,pc]
       refine sk 28 50 rfl hHeld (unwanted (c:=true) rfl rfl (by simp) rfl) ?_
       try simp only [Act.put,pa,pb,pc]
       refine tk 29 51 rfl _ hHeld (by intro w' h; have c0:=h.e2; go_simp; try with_reducible rfl) ?_
       try simp only [Act.put,pa,pb,pc]
       refine tk 30 52 rfl _ hHeld (by intro w' h; have c0:=h.e2; go_simp; try with_reducible rfl) ?_
       try simp only [Act.put,pa,pb,pc]
       refine sk 31 53 rfl hHeld (unwanted (c:=true) rfl rfl (by simp) rfl) ?_
       try simp only [Act.put,pa,pb,pc]
       refine sk 32 54 rfl hHeld (unwanted (c:=true) rfl rfl (by simp) rfl) ?_
       try simp only [Act.put,pa,pb,pc]
       refine sk 33 55 rfl hHeld (unwanted (c:=true) rfl rfl (by simp) rfl) ?_
       try simp only [Act.put,pa,pb,pc]
       refine sk 34 56 rfl hHeld (unwanted (c:=true) rfl rfl (by simp) rfl) ?_
       try simp only [Act.put,pa,pb,pc]
       refine sk 35 57 rfl hHeld (unwanted (c:=true) rfl rfl (by simp) rfl) ?_
       try simp only [Act.put,pa,pb,pc]
       refine tk 36 58 rfl _ hHeld (by intro w' h; have c0:=h.e2; go_simp; try with_reducible rfl) ?_
       try simp only [Act.put,pa,pb,pc]
       refine wpAnyH_done (by kernel_rfl) ?_ _
       clear hHeld
       go_wp2
       go_ret
       exact ⟨by rw [H1.out]; rfl,BD⟩
      ·by_cases h4 : 3 ≤ y
       ·have p0 : decide (x < 0) = false:=decide_eq_false h1
        have p1 : decide (3 ≤ x) = false:=decide_eq_false h2
        have p2 : decide (y < 0) = false:=decide_eq_false h3
        have p3 : decide (3 ≤ y) = true:=decide_eq_true h4
        have H1 : Hid (pairsB ulB xs = false):=HN.out (by unfold ulB btw; simp; omega)
        clear HN HY HH
        go_wp2
        try rw [hV]
        clear hV d0 d1
        refine wp_region_held_drew (S:=(fun W : World => Blk wr.heap.size [I x,I y] W)) (by kernel_rfl) TD (fun hHeld => ?_)
        refine tk 0 22 rfl _ hHeld (by intro w' h; have c0:=h.e2; go_simp; try with_reducible rfl) ?_
        try simp only [Act.put,pa,pb,pc]
        refine tk 1 23 rfl _ hHeld (by intro w' h; have c0:=h.e2; go_simp; try with_reducible rfl) ?_
        try simp only [Act.put,pa,pb,pc]
        refine tk 2 24 rfl _ hHeld (by intro w' h; have c0:=h.e2; go_simp; try with_reducible rfl) ?_
        try simp only [Act.put,pa,pb,pc]
        refine tk 3 25 rfl _ hHeld (by intro w' h; have c0:=h.e2; go_simp; try with_reducible rfl) ?_
        try simp only [Act.put,pa,pb,pc]
        refine tk 4 26 rfl _ hHeld (by intro w' h; have c0:=h.e2; go_simp; try with_reducible rfl) ?_
        try simp only [Act.put,pa,pb,pc]
        refine tk 5 27 rfl _ hHeld (by intro w' h; have c0:=h.e2; go_simp; try with_reducible rfl) ?_
        try simp only [Act.put,pa,pb,pc]
        refine tk 6 28 rfl _ hHeld (by intro w' h; have c0:=h.e2; go_simp; try with_reducible rfl) ?_
        try simp only [Act.put,pa,pb,pc]
        refine tk 7 29 rfl _ hHeld (by intro w' h; have c0:=h.e2; go_simp; try with_reducible rfl) ?_
        try simp only [Act.put,pa,pb,pc]
        refine tk 8 30 rfl _ hHeld (by intro w' h; have c0:=h.e2; go_simp; try with_reducible rfl) ?_
        try simp only [Act.put,pa,pb,pc]
        refine tk 9 31 rfl _ hHeld (by intro w' h; have c0:=h.e2; go_simp; try with_reducible rfl) ?_
        try simp only [Act.put,pa,pb,pc]
        refine tk 10 32 rfl _ hHeld (by intro w' h; have c0:=h.e2; go_simp; try with_reducible rfl) ?_
        try simp only [Act.put,pa,pb,pc]
        refine tk 11 33 rfl _ hHeld (by intro w' h; have c0:=h.e2; go_simp; try with_reducible rfl) ?_
        try simp only [Act.put,pa,pb,pc]
        refine tk 12 34 rfl _ hHeld (by intro w' h; have c0:=h.e2; go_simp; try with_reducible rfl) ?_
        try simp only [Act.put,pa,pb,pc]
        refine tk 13 35 rfl _ hHeld (by intro w' h; have c0:=h.e2; go_simp; try with_reducible rfl) ?_
        try simp only [Act.put,pa,pb,pc]
        refine tk 14 36 rfl _ hHeld (by intro w' h; have c0:=h.e2; go_simp; try with_reducible rfl) ?_
        try simp only [Act.put,pa,pb,pc]
        refine tk 15 37 rfl _ hHeld (by intro w' h; have c0:=h.e2; go_simp; try with_reducible rfl) ?_
        try simp only [Act.put,pa,pb,pc]
        refine tk 16 38 rfl _ hHeld (by intro w' h; have c0:=h.e2; go_simp; try with_reducible rfl) ?_
        try simp only [Act.put,pa,pb,pc]
        refine tk 17 39 rfl _ hHeld (by intro w' h; have c0:=h.e2; go_simp; try with_reducible rfl) ?_
        try simp only [Act.put,pa,pb,pc]
        refine tk 18 40 rfl _ hHeld (by intro w' h; have c0:=h.e2; go_simp; try with_reducible rfl) ?_
        try simp only [Act.put,pa,pb,pc]
        refine tk 19 41 rfl _ hHeld (by intro w' h; have c0:=h.e2; go_simp; try with_reducible rfl) ?_
        try simp only [Act.put,pa,pb,pc]
        refine tk 20 42 rfl _ hHeld (by intro w' h; have c0:=h.e2; go_simp; try with_reducible rfl) ?_
        try simp only [Act.put,pa,pb,pc]
        refine sk 21 43 rfl hHeld (unwanted (c:=true) rfl rfl (by simp) rfl) ?_
        try simp only [Act.put,pa,pb,pc]
        refine sk 22 44 rfl hHeld (unwanted (c:=true) rfl rfl (by simp) rfl) ?_
        try simp only [Act.put,pa,pb,pc]
        refine sk 23 45 rfl hHeld (unwanted_undef rfl rfl (by simp)) ?_
        try simp only [Act.put,pa,pb,pc]
        refine sk 24 46 rfl hHeld (unwanted_undef rfl rfl (by simp)) ?_
        try simp only [Act.put,pa,pb,pc]
        refine sk 25 47 rfl hHeld (unwanted_undef rfl rfl (by simp)) ?_
        try simp only [Act.put,pa,pb,pc]
        refine sk 26 48 rfl hHeld (unwanted_undef rfl rfl (by simp)) ?_
        try simp only [Act.put,pa,pb,pc]
        refine sk 27 49 rfl hHeld (unwanted_undef rfl rfl (by simp)) ?_
        try simp only [Act.put,pa,pb,pc]
        refine sk 28 50 rfl hHeld (unwanted (c:=true) rfl rfl (by simp) rfl) ?_
        try simp only [Act.put,pa,pb,pc]
        refine tk 29 51 rfl _ hHeld (by intro w' h; have c0:=h.e2; go_simp; try with_reducible rfl) ?_
        try simp only [Act.put,pa,pb,pc]
        refine tk 30 52 rfl _ hHeld (by intro w' h; have c0:=h.e2; go_simp; try with_reducible rfl) ?_
        try simp only [Act.put,pa,pb,pc]
        refine sk 31 53 rfl hHeld (unwanted (c:=true) rfl rfl (by simp) rfl) ?_
        try simp only [Act.put,pa,pb,pc]
        refine sk 32 54 rfl hHeld (unwanted (c:=true) rfl rfl (by simp) rfl) ?_
        try simp only [Act.put,pa,pb,pc]
        refine sk 33 55 rfl hHeld (unwanted (c:=true) rfl rfl (by simp) rfl) ?_
        try simp only [Act.put,pa,pb,pc]
        refine sk 34 56 rfl hHeld (unwanted (c:=true) rfl rfl (by simp) rfl) ?_
        try simp only [Act.put,pa,pb,pc]
        refine sk 35 57 rfl hHeld (unwanted (c:=true) rfl rfl (by simp) rfl) ?_
        try simp only [Act.put,pa,pb,pc]
        refine tk 36 58 rfl _ hHeld (by intro w' h; have c0:=h.e2; go_simp; try with_reducible rfl) ?_
        try simp only [Act.put,pa,pb,pc]
        refine wpAnyH_done (by kernel_rfl) ?_ _
        clear hHeld
        go_wp2
        go_ret
        exact ⟨by rw [H1.out]; rfl,BD⟩
       ·by_cases h5 : x = y
        ·have p0 : decide (x < 0) = false:=decide_eq_false h1
         have p1 : decide (3 ≤ x) = false:=decide_eq_false h2
         have p2 : decide (y < 0) = false:=decide_eq_false h3
         have p3 : decide (3 ≤ y) = false:=decide_eq_false h4
         have p4 : (x == y) = true:=beq_iff_eq.2 h5
         have H1 : Hid (pairsB ulB xs = false):=HN.out (by subst h5; unfold ulB; simp)
         clear HN HY HH h5
         go_wp2
         try rw [hV]
         clear hV d0 d1
         refine wp_region_held_drew (S:=(fun W : World => Blk wr.heap.size [I x,I y] W)) (by kernel_rfl) TD (fun hHeld => ?_)
         refine tk 0 22 rfl _ hHeld (by intro w' h; have c0:=h.e2; go_simp; try with_reducible rfl) ?_
         try simp only [Act.put,pa,pb,pc]
         refine tk 1 23 rfl _ hHeld (by intro w' h; have c0:=h.e2; go_simp; try with_reducible rfl) ?_
         try simp only [Act.put,pa,pb,pc]
         refine tk 2 24 rfl _ hHeld (by intro w' h; have c0:=h.e2; go_simp; try with_reducible rfl) ?_
         try simp only [Act.put,pa,pb,pc]
         refine tk 3 25 rfl _ hHeld (by intro w' h; have c0:=h.e2; go_simp; try with_reducible rfl) ?_
         try simp only [Act.put,pa,pb,pc]
         refine tk 4 26 rfl _ hHeld (by intro w' h; have c0:=h.e2; go_simp; try with_reducible rfl) ?_
         try simp only [Act.put,pa,pb,pc]
         refine tk 5 27 rfl _ hHeld (by intro w' h; have c0:=h.e2; go_simp; try with_reducible rfl) ?_
         try simp only [Act.put,pa,pb,pc]
         refine tk 6 28 rfl _ hHeld (by intro w' h; have c0:=h.e2; go_simp; try with_reducible rfl) ?_
         try simp only [Act.put,pa,pb,pc]
         refine tk 7 29 rfl _ hHeld (by intro w' h; have c0:=h.e2; go_simp; try with_reducible rfl) ?_
         try simp only [Act.put,pa,pb,pc]
         refine tk 8 30 rfl _ hHeld (by intro w' h; have c0:=h.e2; go_simp; try with_reducible rfl) ?_
         try simp only [Act.put,pa,pb,pc]
         refine tk 9 31 rfl _ hHeld (by intro w' h; have c0:=h.e2; go_simp; try with_reducible rfl) ?_
         try simp only [Act.put,pa,pb,pc]
         refine tk 10 32 rfl _ hHeld (by intro w' h; have c0:=h.e2; go_simp; try with_reducible rfl) ?_
         try simp only [Act.put,pa,pb,pc]
         refine tk 11 33 rfl _ hHeld (by intro w' h; have c0:=h.e2; go_simp; try with_reducible rfl) ?_
         try simp only [Act.put,pa,pb,pc]
         refine tk 12 34 rfl _ hHeld (by intro w' h; have c0:=h.e2; go_simp; try with_reducible rfl) ?_
         try simp only [Act.put,pa,pb,pc]
         refine tk 13 35 rfl _ hHeld (by intro w' h; have c0:=h.e2; go_simp; try with_reducible rfl) ?_
         try simp only [Act.put,pa,pb,pc]
         refine tk 14 36 rfl _ hHeld (by intro w' h; have c0:=h.e2; go_simp; try with_reducible rfl) ?_
         try simp only [Act.put,pa,pb,pc]
         refine tk 15 37 rfl _ hHeld (by intro w' h; have c0:=h.e2; go_simp; try with_reducible rfl) ?_
         try simp only [Act.put,pa,pb,pc]
         refine tk 16 38 rfl _ hHeld (by intro w' h; have c0:=h.e2; go_simp; try with_reducible rfl) ?_
         try simp only [Act.put,pa,pb,pc]
         refine tk 17 39 rfl _ hHeld (by intro w' h; have c0:=h.e2; go_simp; try with_reducible rfl) ?_
         try simp only [Act.put,pa,pb,pc]
         refine tk 18 40 rfl _ hHeld (by intro w' h; have c0:=h.e2; go_simp; try with_reducible rfl) ?_
         try simp only [Act.put,pa,pb,pc]
         refine tk 19 41 rfl _ hHeld (by intro w' h; have c0:=h.e2; go_simp; try with_reducible rfl) ?_
         try simp only [Act.put,pa,pb,pc]
         refine tk 20 42 rfl _ hHeld (by intro w' h; have c0:=h.e2; go_simp; try with_reducible rfl) ?_
         try simp only [Act.put,pa,pb,pc]
         refine tk 21 43 rfl _ hHeld (by intro w' h; have c0:=h.e2; go_simp; try with_reducible rfl) ?_
         try simp only [Act.put,pa,pb,pc]
         refine tk 22 44 rfl _ hHeld (by intro w' h; have c0:=h.e2; go_simp; try with_reducible rfl) ?_
         try simp only [Act.put,pa,pb,pc]
         refine tk 23 45 rfl _ hHeld (by intro w' h; have c0:=h.e2; go_simp; try with_reducible rfl) ?_
         try simp only [Act.put,pa,pb,pc]
         refine tk 24 46 rfl _ hHeld (by intro w' h; have c0:=h.e2; go_simp; try with_reducible rfl) ?_
         try simp only [Act.put,pa,pb,pc]
         refine tk 25 47 rfl _ hHeld (by intro w' h; have c0:=h.e2; go_simp; try with_reducible rfl) ?_
         try simp only [Act.put,pa,pb,pc]
         refine tk 26 48 rfl _ hHeld (by intro w' h; have c0:=h.e2; go_simp; try with_reducible rfl) ?_
         try simp only [Act.put,pa,pb,pc]
         refine tk 27 49 rfl _ hHeld (by intro w' h; have c0:=h.e2; go_simp; try with_reducible rfl) ?_
         try simp only [Act.put,pa,pb,pc]
         refine tk 28 50 rfl _ hHeld (by intro w' h; have c0:=h.e2; go_simp; try with_reducible rfl) ?_
         try simp only [Act.put,pa,pb,pc]
         refine tk 29 51 rfl _ hHeld (by intro w' h; have c0:=h.e2; go_simp; try with_reducible rfl) ?_
         try simp only [Act.put,pa,pb,pc]
         refine tk 30 52 rfl _ hHeld (by intro w' h; have c0:=h.e2; go_simp; try with_reducible rfl) ?_
         try simp only [Act.put,pa,pb,pc]
         refine sk 31 53 rfl hHeld (unwanted (c:=true) rfl rfl (by simp) rfl) ?_
         try simp only [Act.put,pa,pb,pc]
         refine sk 32 54 rfl hHeld (unwanted (c:=true) rfl rfl (by simp) rfl) ?_
         try simp only [Act.put,pa,pb,pc]
         refine sk 33 55 rfl hHeld (unwanted (c:=true) rfl rfl (by simp) rfl) ?_
         try simp only [Act.put,pa,pb,pc]
         refine sk 34 56 rfl hHeld (unwanted (c:=true) rfl rfl (by simp) rfl) ?_
         try simp only [Act.put,pa,pb,pc]
         refine sk 35 57 rfl hHeld (unwanted (c:=true) rfl rfl (by simp) rfl) ?_
         try simp only [Act.put,pa,pb,pc]
         refine tk 36 58 rfl _ hHeld (by intro w' h; have c0:=h.e2; go_simp; try with_reducible rfl) ?_
         try simp only [Act.put,pa,pb,pc]
         refine wpAnyH_done (by kernel_rfl) ?_ _
         clear hHeld
         go_wp2
         go_ret
         exact ⟨by rw [H1.out]; rfl,BD⟩
        ·have p0 : decide (x < 0) = false:=decide_eq_false h1
         have p1 : decide (3 ≤ x) = false:=decide_eq_false h2
         have p2 : decide (y < 0) = false:=decide_eq_false h3
         have p3 : decide (3 ≤ y) = false:=decide_eq_false h4
         have p4 : (x == y) = false:=beq_eq_false_iff_ne.2 h5
         have hg : ulB x y = true:=by unfold ulB btw; simp; omega
         replace HY:=HY.out hg
         replace HM:=HM.out
         clear HN hg
         by_cases hm : (x,y) ∈ xs.take k
         ·have H1 : Hid (pairsB ulB xs = false):=HM hm
          rw [decide_eq_true hm] at HH
          clear HY HM hm
          go_wp2
          try rw [hV]
          clear hV d0 d1
          refine wp_region_held_drew (S:=(fun W : World => Blk wr.heap.size [I x,I y] W)) (by kernel_rfl) TD (fun hHeld => ?_)
          refine tk 0 22 rfl _ hHeld (by intro w' h; have c0:=h.e2; go_simp; try with_reducible rfl) ?_
          try simp only [Act.put,pa,pb,pc]
          refine tk 1 23 rfl _ hHeld (by intro w' h; have c0:=h.e2; go_simp; try with_reducible rfl) ?_
          try simp only [Act.put,pa,pb,pc]
          refine tk 2 24 rfl _ hHeld (by intro w' h; have c0:=h.e2; go_simp; try with_reducible rfl) ?_
          try simp only [Act.put,pa,pb,pc]
          refine tk 3 25 rfl _ hHeld (by intro w' h; have c0:=h.e2; go_simp; try with_reducible rfl) ?_
          try simp only [Act.put,pa,pb,pc]
          refine tk 4 26 rfl _ hHeld (by intro w' h; have c0:=h.e2; go_simp; try with_reducible rfl) ?_
          try simp only [Act.put,pa,pb,pc]
          refine tk 5 27 rfl _ hHeld (by intro w' h; have c0:=h.e2; go_simp; try with_reducible rfl) ?_
          try simp only [Act.put,pa,pb,pc]
          refine tk 6 28 rfl _ hHeld (by intro w' h; have c0:=h.e2; go_simp; try with_reducible rfl) ?_
          try simp only [Act.put,pa,pb,pc]
          refine tk 7 29 rfl _ hHeld (by intro w' h; have c0:=h.e2; go_simp; try with_reducible rfl) ?_
          try simp only [Act.put,pa,pb,pc]
          refine tk 8 30 rfl _ hHeld (by intro w' h; have c0:=h.e2; go_simp; try with_reducible rfl) ?_
          try simp only [Act.put,pa,pb,pc]
          refine tk 9 31 rfl _ hHeld (by intro w' h; have c0:=h.e2; go_simp; try with_reducible rfl) ?_
          try simp only [Act.put,pa,pb,pc]
          refine tk 10 32 rfl _ hHeld (by intro w' h; have c0:=h.e2; go_simp; try with_reducible rfl) ?_
          try simp only [Act.put,pa,pb,pc]
          refine tk 11 33 rfl _ hHeld (by intro w' h; have c0:=h.e2; go_simp; try with_reducible rfl) ?_
          try simp only [Act.put,pa,pb,pc]
          refine tk 12 34 rfl _ hHeld (by intro w' h; have c0:=h.e2; go_simp; try with_reducible rfl) ?_
          try simp only [Act.put,pa,pb,pc]
          refine tk 13 35 rfl _ hHeld (by intro w' h; have c0:=h.e2; go_simp; try with_reducible rfl) ?_
          try simp only [Act.put,pa,pb,pc]
          refine tk 14 36 rfl _ hHeld (by intro w' h; have c0:=h.e2; go_simp; try with_reducible rfl) ?_
          try simp only [Act.put,pa,pb,pc]
          refine tk 15 37 rfl _ hHeld (by intro w' h; have c0:=h.e2; go_simp; try with_reducible rfl) ?_
          try simp only [Act.put,pa,pb,pc]
          refine tk 16 38 rfl _ hHeld (by intro w' h; have c0:=h.e2; go_simp; try with_reducible rfl) ?_
          try simp only [Act.put,pa,pb,pc]
          refine tk 17 39 rfl _ hHeld (by intro w' h; have c0:=h.e2; go_simp; try with_reducible rfl) ?_
          try simp only [Act.put,pa,pb,pc]
          refine tk 18 40 rfl _ hHeld (by intro w' h; have c0:=h.e2; go_simp; try with_reducible rfl) ?_
          try simp only [Act.put,pa,pb,pc]
          refine tk 19 41 rfl _ hHeld (by intro w' h; have c0:=h.e2; go_simp; try with_reducible rfl) ?_
          try simp only [Act.put,pa,pb,pc]
          refine tk 20 42 rfl _ hHeld (by intro w' h; have c0:=h.e2; go_simp; try with_reducible rfl) ?_
          try simp only [Act.put,pa,pb,pc]
          refine tk 21 43 rfl _ hHeld (by intro w' h; have c0:=h.e2; go_simp; try with_reducible rfl) ?_
          try simp only [Act.put,pa,pb,pc]
          refine tk 22 44 rfl _ hHeld (by intro w' h; have c0:=h.e2; go_simp; try with_reducible rfl) ?_
          try simp only [Act.put,pa,pb,pc]
          refine tk 23 45 rfl _ hHeld (by intro w' h; have c0:=h.e2; go_simp; try with_reducible rfl) ?_
          try simp only [Act.put,pa,pb,pc]
          refine tk 24 46 rfl _ hHeld (by intro w' h; have c0:=h.e2; go_simp; try with_reducible rfl) ?_
          try simp only [Act.put,pa,pb,pc]
          refine tk 25 47 rfl _ hHeld (by intro w' h; have c0:=h.e2; go_simp; try with_reducible rfl) ?_
          try simp only [Act.put,pa,pb,pc]
          refine tk 26 48 rfl _ hHeld (by intro w' h; have c0:=h.e2; go_simp; try with_reducible rfl) ?_
          try simp only [Act.put,pa,pb,pc]
          refine tk 27 49 rfl _ hHeld (by intro w' h; have c0:=h.e2; go_simp; try with_reducible rfl) ?_
          try simp only [Act.put,pa,pb,pc]
          refine tk 28 50 rfl _ hHeld (by intro w' h; have c0:=h.e2; go_simp; try with_reducible rfl) ?_
          try simp only [Act.put,pa,pb,pc]
          refine tk 29 51 rfl _ hHeld (by intro w' h; have c0:=h.e2; go_simp; try with_reducible rfl) ?_
          try simp only [Act.put,pa,pb,pc]
          refine tk 30 52 rfl _ hHeld (by intro w' h; have c0:=h.e2; go_simp; try with_reducible rfl) ?_
          try simp only [Act.put,pa,pb,pc]
          refine tk 31 53 rfl _ hHeld (by intro w' h; have c0:=h.e2; go_simp; try with_reducible rfl) ?_
          try simp only [Act.put,pa,pb,pc]
          refine tk 32 54 rfl _ hHeld (by intro w' h; have c0:=h.e2; go_simp; try with_reducible rfl) ?_
          try simp only [Act.put,pa,pb,pc]
          refine tk 33 55 rfl _ hHeld (by intro w' h; have c0:=h.e2; go_simp; try with_reducible rfl) ?_
          try simp only [Act.put,pa,pb,pc]
          refine tk 34 56 rfl _ hHeld (by intro w' h; have c0:=h.e2; go_simp; try with_reducible rfl) ?_
          try simp only [Act.put,pa,pb,pc]
          refine wpAnyH_ready (rs:=[35]) (by kernel_rfl) (by simp) ?_
          refine AllReadyH.cons (i:=35) rfl (fun K hK => ?_) AllReadyH.nil
          go_simp
          refine (HH).mono ?_
          rintro e w2 ⟨rfl,hb2⟩
          go_wp2_with fail
          refine hK.out _ _ (TD.later hb2 ZD.out) (fun hHeld2 => ?_)
          clear hK K hHeld
          have hHeld:=hHeld2
          clear hHeld2
          try simp only [Act.put,pa,pb,pc]
          refine tk 36 58 rfl _ hHeld (by intro w' h; have c0:=h.e2; go_simp; try with_reducible rfl) ?_
          try simp only [Act.put,pa,pb,pc]
          refine wpAnyH_done (by kernel_rfl) ?_ _
          have B2:=BD.trans (hb2.mono BD.size)
          clear hHeld
          go_wp2
          go_ret
          exact ⟨by rw [H1.out]; rfl,B2⟩
         ·have H1 : Hid ((∀ j (hj : j < xs.length),j < k + 1 → ulB xs[j].1 xs[j].2 = true) ∧ (xs.take (k + 1)).Nodup):=HY hm
          rw [decide_eq_false hm] at HH
          clear HY HM hm
          go_wp2
          try rw [hV]
          clear hV d0 d1
          refine wp_region_held_drew (S:=(fun W : World => Blk wr.heap.size [I x,I y] W)) (by kernel_rfl) TD (fun hHeld => ?_)
          refine tk 0 22 rfl _ hHeld (by intro w' h; have c0:=h.e2; go_simp; try with_reducible rfl) ?_
          try simp only [Act.put,pa,pb,pc]
          refine tk 1 23 rfl _ hHeld (by intro w' h; have c0:=h.e2; go_simp; try with_reducible rfl) ?_
          try simp only [Act.put,pa,pb,pc]
          refine tk 2 24 rfl _ hHeld (by intro w' h; have c0:=h.e2; go_simp; try with_reducible rfl) ?_
          try simp only [Act.put,pa,pb,pc]
          refine tk 3 25 rfl _ hHeld (by intro w' h; have c0:=h.e2; go_simp; try with_reducible rfl) ?_
          try simp only [Act.put,pa,pb,pc]
          refine tk 4 26 rfl _ hHeld (by intro w' h; have c0:=h.e2; go_simp; try with_reducible rfl) ?_
          try simp only [Act.put,pa,pb,pc]
          refine tk 5 27 rfl _ hHeld (by intro w' h; have c0:=h.e2; go_simp; try with_reducible rfl) ?_
          try simp only [Act.put,pa,pb,pc]
          refine tk 6 28 rfl _ hHeld (by intro w' h; have c0:=h.e2; go_simp; try with_reducible rfl) ?_
          try simp only [Act.put,pa,pb,pc]
          refine tk 7 29 rfl _ hHeld (by intro w' h; have c0:=h.e2; go_simp; try with_reducible rfl) ?_
          try simp only [Act.put,pa,pb,pc]
          refine tk 8 30 rfl _ hHeld (by intro w' h; have c0:=h.e2; go_simp; try with_reducible rfl) ?_
          try simp only [Act.put,pa,pb,pc]
          refine tk 9 31 rfl _ hHeld (by intro w' h; have c0:=h.e2; go_simp; try with_reducible rfl) ?_
          try simp only [Act.put,pa,pb,pc]
          refine tk 10 32 rfl _ hHeld (by intro w' h; have c0:=h.e2; go_simp; try with_reducible rfl) ?_
          try simp only [Act.put,pa,pb,pc]
          refine tk 11 33 rfl _ hHeld (by intro w' h; have c0:=h.e2; go_simp; try with_reducible rfl) ?_
          try simp only [Act.put,pa,pb,pc]
          refine tk 12 34 rfl _ hHeld (by intro w' h; have c0:=h.e2; go_simp; try with_reducible rfl) ?_
          try simp only [Act.put,pa,pb,pc]
          refine tk 13 35 rfl _ hHeld (by intro w' h; have c0:=h.e2; go_simp; try with_reducible rfl) ?_
          try simp only [Act.put,pa,pb,pc]
          refine tk 14 36 rfl _ hHeld (by intro w' h; have c0:=h.e2; go_simp; try with_reducible rfl) ?_
          try simp only [Act.put,pa,pb,pc]
          refine tk 15 37 rfl _ hHeld (by intro w' h; have c0:=h.e2; go_simp; try with_reducible rfl) ?_
          try simp only [Act.put,pa,pb,pc]
          refine tk 16 38 rfl _ hHeld (by intro w' h; have c0:=h.e2; go_simp; try with_reducible rfl) ?_
          try simp only [Act.put,pa,pb,pc]
          refine tk 17 39 rfl _ hHeld (by intro w' h; have c0:=h.e2; go_simp; try with_reducible rfl) ?_
          try simp only [Act.put,pa,pb,pc]
          refine tk 18 40 rfl _ hHeld (by intro w' h; have c0:=h.e2; go_simp; try with_reducible rfl) ?_
          try simp only [Act.put,pa,pb,pc]
          refine tk 19 41 rfl _ hHeld (by intro w' h; have c0:=h.e2; go_simp; try with_reducible rfl) ?_
          try simp only [Act.put,pa,pb,pc]
          refine tk 20 42 rfl _ hHeld (by intro w' h; have c0:=h.e2; go_simp; try with_reducible rfl) ?_
          try simp only [Act.put,pa,pb,pc]
          refine tk 21 43 rfl _ hHeld (by intro w' h; have c0:=h.e2; go_simp; try with_reducible rfl) ?_
          try simp only [Act.put,pa,pb,pc]
          refine tk 22 44 rfl _ hHeld (by intro w' h; have c0:=h.e2; go_simp; try with_reducible rfl) ?_
          try simp only [Act.put,pa,pb,pc]
          refine tk 23 45 rfl _ hHeld (by intro w' h; have c0:=h.e2; go_simp; try with_reducible rfl) ?_
          try simp only [Act.put,pa,pb,pc]
          refine tk 24 46 rfl _ hHeld (by intro w' h; have c0:=h.e2; go_simp; try with_reducible rfl) ?_
          try simp only [Act.put,pa,pb,pc]
          refine tk 25 47 rfl _ hHeld (by intro w' h; have c0:=h.e2; go_simp; try with_reducible rfl) ?_
          try simp only [Act.put,pa,pb,pc]
          refine tk 26 48 rfl _ hHeld (by intro w' h; have c0:=h.e2; go_simp; try with_reducible rfl) ?_
          try simp only [Act.put,pa,pb,pc]
          refine tk 27 49 rfl _ hHeld (by intro w' h; have c0:=h.e2; go_simp; try with_reducible rfl) ?_
          try simp only [Act.put,pa,pb,pc]
          refine tk 28 50 rfl _ hHeld (by intro w' h; have c0:=h.e2; go_simp; try with_reducible rfl) ?_
          try simp only [Act.put,pa,pb,pc]
          refine tk 29 51 rfl _ hHeld (by intro w' h; have c0:=h.e2; go_simp; try with_reducible rfl) ?_
          try simp only [Act.put,pa,pb,pc]
          refine tk 30 52 rfl _ hHeld (by intro w' h; have c0:=h.e2; go_simp; try with_reducible rfl) ?_
          try simp only [Act.put,pa,pb,pc]
          refine tk 31 53 rfl _ hHeld (by intro w' h; have c0:=h.e2; go_simp; try with_reducible rfl) ?_
          try simp only [Act.put,pa,pb,pc]
          refine tk 32 54 rfl _ hHeld (by intro w' h; have c0:=h.e2; go_simp; try with_reducible rfl) ?_
          try simp only [Act.put,pa,pb,pc]
          refine tk 33 55 rfl _ hHeld (by intro w' h; have c0:=h.e2; go_simp; try with_reducible rfl) ?_
          try simp only [Act.put,pa,pb,pc]
          refine tk 34 56 rfl _ hHeld (by intro w' h; have c0:=h.e2; go_simp; try with_reducible rfl) ?_
          try simp only [Act.put,pa,pb,pc]
          refine wpAnyH_ready (rs:=[35]) (by kernel_rfl) (by simp) ?_
          refine AllReadyH.cons (i:=35) rfl (fun K hK => ?_) AllReadyH.nil
          go_simp
          refine (HH).mono ?_
          rintro e w2 ⟨rfl,hb2⟩
          go_wp2_with fail
          refine hK.out _ _ (TD.later hb2 ZD.out) (fun hHeld2 => ?_)
          clear hK K hHeld
          have hHeld:=hHeld2
          clear hHeld2
          try simp only [Act.put,pa,pb,pc]
          refine tk 36 58 rfl _ hHeld (by intro w' h; have c0:=h.e2; go_simp; try with_reducible rfl) ?_
          try simp only [Act.put,pa,pb,pc]
          refine wpAnyH_done (by kernel_rfl) ?_ _
          have B2:=BD.trans (hb2.mono BD.size)
          clear hHeld
          go_wp2
          go_roundw
          case rel => exact ⟨k + 1,by omega,by go_num,H1.out,B2⟩
          case measure => simp [intOf]; omega
   ·obtain rfl : k = xs.length:=by omega
    rw [List.take_length] at hnd
    have HA : Hid (pairsB ulB xs = true):=by show pairsB ulB xs = true; rw [pairsB_all h6 (fun j hj => hall j hj (by omega))]; exact decide_eq_true hnd
    clear hall hnd
    go_wp2
    go_ret
    exact ⟨by rw [HA.out]; rfl,hbel⟩
 ·have hd : decide ((6 : Int) < (xs.length : Int)) = true:=by simp; omega
  have hd2 : decide (6 < xs.length) = true:=by simp; omega
  go_enter Tryz.func63,Tryz.ntmps63
  go_wp2
  go_ret
  exact ⟨by rw [pairsB_many ulB xs h6]; rfl,Below.refl _ _⟩
end Go.Proofs.YtlmpfkbgknbcnaaGreat
