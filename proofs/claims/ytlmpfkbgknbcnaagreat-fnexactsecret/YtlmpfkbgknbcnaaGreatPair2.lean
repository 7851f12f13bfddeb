/- Links: the map that the program makes of them, and what is linked. -/
import Derived.Test.YtlmpfkbgknbcnaaGreatAb
import Derived.Test.YtlmpfkbgknbcnaaGreatCpA
import Derived.Test.YtlmpfkbgknbcnaaGreatRest3
set_option linter.unusedVariables false
set_option maxRecDepth 100000
namespace Go.Proofs.YtlmpfkbgknbcnaaGreat
open Go Go.RowKit Var Term Draw
theorem wrap_i64_small (n : Nat) (h : n < 9223372036854775808) : IntKind.i64.wrap (n : Int) = (n : Int):=by
 rw [IntKind.wrap_i64]
 omega
theorem i64_of (a : Int) (h0 : 0 ≤ a) (h1 : a ≤ 2) : i64 a:=by unfold i64; omega
set_option maxRecDepth 100000 in
set_option maxHeartbeats 3200000 in
theorem linksOf_is (a : Option Addr) (cap : Nat) (xs : List (Int × Int)) (w : World) (hr : PRow w a xs) (hl : xs.length ≤ 6) (hin : ∀ p ∈ xs,i64 p.1 ∧ i64 p.2) :
  Calls Tryz.prog 163 #[.slice a xs.length cap] w fun e w' => ∃ m,e = .returned (.map (some m)) ∧ LinkM m 6 xs w' ∧ w.heap.size ≤ m ∧ Below w.heap.size w w':=by
 have hM0:=LinkM.made w
 have hB0 : Below w.heap.size w (w.alloc (.map #[] 0)):=(Below.refl _ _).alloc (Nat.le_refl _) _
 have hl2 : (xs.length : Int) ≤ 6:=by omega
 have hmm:=@run_makeMap Tryz.prog
 go_enter Tryz.func163,Tryz.ntmps163
 go_wp2
 go_loopw [9] (fun i wr => ∃ k : Nat,k ≤ xs.length ∧ i = I k ∧ LinkM w.heap.size k (xs.take k) wr ∧ Below w.heap.size w wr) (fun i _ => xs.length - (intOf i).toNat)
 case atStart => exact ⟨0,by omega,rfl,by simpa using hM0,hB0⟩
 case round =>
  clear hM0 hB0
  obtain ⟨k,hk,rfl,hM,hbel⟩:=hrel
  by_cases hlt : k < xs.length
  ·obtain ⟨b,off,rfl,hbl,h0,h1⟩:=hr k hlt
   rw [← hbel.cell (p:=⟨b,off + k * 2,none⟩) hbl] at h0
   rw [← hbel.cell (p:=⟨b,off + k * 2 + 1,none⟩) hbl] at h1
   have hlt2 : (k : Int) < (xs.length : Int):=by omega
   obtain ⟨ix,iy⟩:=hin xs[k] (List.getElem_mem hlt)
   have hsn : xs.take k ++ [(xs[k].1,xs[k].2)] = xs.take (k + 1):=(List.take_succ_eq_append_getElem hlt).symm
   generalize xs[k].1 = x at h0 ix hsn
   generalize xs[k].2 = y at h1 iy hsn
   obtain ⟨V,hV⟩ : ∃ V,wr.alloc (.cells #[I x,I y] 178) = V:=⟨_,rfl⟩
   have T : Blk wr.heap.size [I x,I y] V.drew:=by rw [← hV]; exact (Blk.new _ _ _).drew
   have BV : Below wr.heap.size wr V.drew:=by rw [← hV]; exact ((Below.refl _ _).alloc (Nat.le_refl _) _).drew
   have hMV:=hM.kept BV
   obtain ⟨c,st,W2,W3,f1,f2,f3,f4,f5,f6,hc⟩:=hMV.more (by unfold maxLen; omega) ix iy (fun p hp => hin p (List.mem_of_mem_take hp)) (by rw [List.length_take]; omega)
   rw [hsn] at f5
   replace f4 : (Instr.entryStore 215 (.map (some w.heap.size)) (I (st : Int)) (I ((c : Int) + 1))).run Tryz.prog W2 = .ok () W3:=f4
   have HS : Hid (∃ k' : Nat,k' ≤ xs.length ∧ Value.int .i64 ((k : Int) + 1) = I k' ∧ LinkM w.heap.size k' (xs.take k') W3 ∧ Below w.heap.size w W3) :=
    ⟨k + 1,by omega,by go_num,f5,(hbel.trans (BV.mono hbel.size)).grown f6 (Nat.le_trans hbel.size BV.size) (fun j hj => by cases hj; exact Nat.le_refl _)⟩
   have hwr : IntKind.i64.wrap ((c : Int) + 1) = (c : Int) + 1:=wrap_i64_small (c + 1) (by omega)
   have d0:=T.at 0 rfl
   have d1:=T.at 1 rfl
   clear hsn f5 f6 hMV hM T BV hbel ix iy hr hin
   go_wp2
   try rw [hV]
   clear hV
   refine wp_region_any (by kernel_rfl) ?_
   show wpAny _ _ _ _ _ _ _ V.drew
   refine take_any 0 13 (v:=?_) rfl rfl (by kernel_rfl) (by kernel_rfl) (by kernel_rfl) (fun _ _ _ h => h) (Or.inl ⟨by rfl,?_⟩) ?_
   rotate_left
   ·intro w'; go_simp; try with_reducible rfl
   try simp only [Act.put,pa,pb,pc]
   refine take_any 1 14 (v:=?_) rfl rfl (by kernel_rfl) (by kernel_rfl) (by kernel_rfl) (fun _ _ _ h => h) (Or.inl ⟨by rfl,?_⟩) ?_
   rotate_left
   ·intro w'; go_simp; try with_reducible rfl
   try simp only [Act.put,pa,pb,pc]
   refine take_any 3 16 (v:=?_) rfl rfl (by kernel_rfl) (by kernel_rfl) (by kernel_rfl) (fun _ _ _ h => h) (Or.inl ⟨by rfl,?_⟩) ?_
   rotate_left
   ·intro w'; go_simp; try with_reducible rfl
   try simp only [Act.put,pa,pb,pc]
   refine wpAny_ready (rs:=[2,4]) (by kernel_rfl) (by simp) ?_
   refine AllReady.cons (i:=2) rfl (fun K hK => ?_) (AllReady.cons (i:=4) rfl (fun K hK => ?_) AllReady.nil)
   ·
    go_simp
    refine hK _ _ ?_
    clear hK K
    try simp only [Act.put,pa,pb,pc]
    refine wpAny_ready (rs:=[4]) (by kernel_rfl) (by simp) ?_
    refine AllReady.cons (i:=4) rfl (fun K hK => ?_) AllReady.nil
    go_simp
    refine hK _ _ ?_
    clear hK K
    try simp only [Act.put,pa,pb,pc]
    refine take_any 5 18 (v:=?_) rfl rfl (by kernel_rfl) (by kernel_rfl) (by kernel_rfl) (fun _ _ _ h => h) (Or.inl ⟨by rfl,?_⟩) ?_
    rotate_left
    ·intro w'; go_simp; try with_reducible rfl
    try simp only [Act.put,pa,pb,pc]
    refine wpAny_ready (rs:=[6,8]) (by kernel_rfl) (by simp) ?_
    refine AllReady.cons (i:=6) rfl (fun K hK => ?_) (AllReady.cons (i:=8) rfl (fun K hK => ?_) AllReady.nil)
    ·
     go_simp
     refine hK _ _ ?_
     clear hK K
     try simp only [Act.put,pa,pb,pc]
     refine take_any 7 20 (v:=?_) rfl rfl (by kernel_rfl) (by kernel_rfl) (by kernel_rfl) (fun _ _ _ h => h) (Or.inl ⟨by rfl,?_⟩) ?_
     rotate_left
     ·intro w'; go_simp; try with_reducible rfl
     try simp only [Act.put,pa,pb,pc]
     refine wpAny_ready (rs:=[8]) (by kernel_rfl) (by simp) ?_
     refine AllReady.cons (i:=8) rfl (fun K hK => ?_) AllReady.nil
     go_simp
     refine hK _ _ ?_
     clear hK K
     try simp only [Act.put,pa,pb,pc]
     refine take_any 9 22 (v:=?_) rfl rfl (by kernel_rfl) (by kernel_rfl) (by kernel_rfl) (fun _ _ _ h => h) (Or.inl ⟨by rfl,?_⟩) ?_
     rotate_left
     ·intro w'; go_simp; try with_reducible rfl
     try simp only [Act.put,pa,pb,pc]
     refine wpAny_ready (rs:=[10]) (by kernel_rfl) (by simp) ?_
     refine AllReady.cons (i:=10) rfl (fun K hK => ?_) AllReady.nil
     go_simp
     refine hK _ _ ?_
     clear hK K
     try simp only [Act.put,pa,pb,pc]
     refine wpAny_done (by kernel_rfl) ?_ _
     go_wp2
     go_roundw
     case rel => exact HS.out
     case measure => simp [intOf]; omega
    ·
     go_simp
     refine hK _ _ ?_
     clear hK K
     try simp only [Act.put,pa,pb,pc]
     refine take_any 9 22 (v:=?_) rfl rfl (by kernel_rfl) (by kernel_rfl) (by kernel_rfl) (fun _ _ _ h => h) (Or.inl ⟨by rfl,?_⟩) ?_
     rotate_left
     ·intro w'; go_simp; try with_reducible rfl
     try simp only [Act.put,pa,pb,pc]
     refine wpAny_ready (rs:=[6]) (by kernel_rfl) (by simp) ?_
     refine AllReady.cons (i:=6) rfl (fun K hK => ?_) AllReady.nil
     go_simp
     refine hK _ _ ?_
     clear hK K
     try simp only [Act.put,pa,pb,pc]
     refine take_any 7 20 (v:=?_) rfl rfl (by kernel_rfl) (by kernel_rfl) (by kernel_rfl) (fun _ _ _ h => h) (Or.inl ⟨by rfl,?_⟩) ?_
     rotate_left
     ·intro w'; go_simp; try with_reducible rfl
     try simp only [Act.put,pa,pb,pc]
     refine wpAny_ready (rs:=[10]) (by kernel_rfl) (by simp) ?_
     refine AllReady.cons (i:=10) rfl (fun K hK => ?_) AllReady.nil
     go_simp
     refine hK _ _ ?_
     clear hK K
     try simp only [Act.put,pa,pb,pc]
     refine wpAny_done (by kernel_rfl) ?_ _
     go_wp2
     go_roundw
     case rel => exact HS.out
     case measure => simp [intOf]; omega
   ·
    go_simp
    refine hK _ _ ?_
    clear hK K
    try simp only [Act.put,pa,pb,pc]
    refine wpAny_ready (rs:=[2]) (by kernel_rfl) (by simp) ?_
    refine AllReady.cons (i:=2) rfl (fun K hK => ?_) AllReady.nil
    go_simp
    refine hK _ _ ?_
    clear hK K
    try simp only [Act.put,pa,pb,pc]
    refine take_any 5 18 (v:=?_) rfl rfl (by kernel_rfl) (by kernel_rfl) (by kernel_rfl) (fun _ _ _ h => h) (Or.inl ⟨by rfl,?_⟩) ?_
    rotate_left
    ·intro w'; go_simp; try with_reducible rfl
    try simp only [Act.put,pa,pb,pc]
    refine wpAny_ready (rs:=[6,8]) (by kernel_rfl) (by simp) ?_
    refine AllReady.cons (i:=6) rfl (fun K hK => ?_) (AllReady.cons (i:=8) rfl (fun K hK => ?_) AllReady.nil)
    ·
     go_simp
     refine hK _ _ ?_
     clear hK K
     try simp only [Act.put,pa,pb,pc]
     refine take_any 7 20 (v:=?_) rfl rfl (by kernel_rfl) (by kernel_rfl) (by kernel_rfl) (fun _ _ _ h => h) (Or.inl ⟨by rfl,?_⟩) ?_
     rotate_left
     ·intro w'; go_simp; try with_reducible rfl
     try simp only [Act.put,pa,pb,pc]
     refine wpAny_ready (rs:=[8]) (by kernel_rfl) (by simp) ?_
     refine AllReady.cons (i:=8) rfl (fun K hK => ?_) AllReady.nil
     go_simp
     refine hK _ _ ?_
     clear hK K
     try simp only [Act.put,pa,pb,pc]
     refine take_any 9 22 (v:=?_) rfl rfl (by kernel_rfl) (by kernel_rfl) (by kernel_rfl) (fun _ _ _ h => h) (Or.inl ⟨by rfl,?_⟩) ?_
     rotate_left
     ·intro w'; go_simp; try with_reducible rfl
     try simp only [Act.put,pa,pb,pc]
     refine wpAny_ready (rs:=[10]) (by kernel_rfl) (by simp) ?_
     refine AllReady.cons (i:=10) rfl (fun K hK => ?_) AllReady.nil
     go_simp
     refine hK _ _ ?_
     clear hK K
     try simp only [Act.put,pa,pb,pc]
     refine wpAny_done (by kernel_rfl) ?_ _
     go_wp2
     go_roundw
     case rel => exact HS.out
     case measure => simp [intOf]; omega
    ·
     go_simp
     refine hK _ _ ?_
     clear hK K
     try simp only [Act.put,pa,pb,pc]
     refine take_any 9 22 (v:=?_) rfl rfl (by kernel_rfl) (by kernel_rfl) (by kernel_rfl) (fun _ _ _ h => h) (Or.inl ⟨by rfl,?_⟩) ?_
     rotate_left
     ·intro w'; go_simp; try with_reducible rfl
     try simp only [Act.put,pa,pb,pc]
     refine wpAny_ready (rs:=[6]) (by kernel_rfl) (by simp) ?_
     refine AllReady.cons (i:=6) rfl (fun K hK => ?_) AllReady.nil
     go_simp
     refine hK _ _ ?_
     clear hK K
     try simp only [Act.put,pa,pb,pc]
     refine take_any 7 20 (v:=?_) rfl rfl (by kernel_rfl) (by kernel_rfl) (by kernel_rfl) (fun _ _ _ h => h) (Or.inl ⟨by rfl,?_⟩) ?_
     rotate_left
     ·intro w'; go_simp; try with_reducible rfl
     try simp only [Act.put,pa,pb,pc]
     refine wpAny_ready (rs:=[10]) (by kernel_rfl) (by simp) ?_
     refine AllReady.cons (i:=10) rfl (fun K hK => ?_) AllReady.nil
     go_simp
     refine hK _ _ ?_
     clear hK K
     try simp only [Act.put,pa,pb,pc]
     refine wpAny_done (by kernel_rfl) ?_ _
     go_wp2
     go_roundw
     case rel => exact HS.out
     case measure => simp [intOf]; omega
  ·obtain rfl : k = xs.length:=by omega
   rw [List.take_length] at hM
   obtain ⟨D,hD⟩:=hM
   go_wp2
   go_ret
   exact ⟨_,rfl,⟨D,hD.1.mono hl,hD.2⟩,Nat.le_refl _,hbel⟩
end Go.Proofs.YtlmpfkbgknbcnaaGreat

set_option linter.unusedVariables false
set_option maxRecDepth 100000
namespace Go.Proofs.YtlmpfkbgknbcnaaGreat
open Go Go.RowKit Var Term Draw
/-- At most six pairs, each right, none twice. -/
def pairsB (g : Int → Int → Bool) (xs : List (Int × Int)) : Bool:=decide (xs.length ≤ 6) && (xs.all (fun p => g p.1 p.2) && decide xs.Nodup)
theorem pairsB_many (g : Int → Int → Bool) (xs : List (Int × Int)) (h : ¬ xs.length ≤ 6) : pairsB g xs = false:=by unfold pairsB; simp [h]
theorem pairsB_not {g : Int → Int → Bool} {xs : List (Int × Int)} {k : Nat} (hk : k < xs.length) (h : g xs[k].1 xs[k].2 = false) : pairsB g xs = false:=by
 unfold pairsB
 have : xs.all (fun p => g p.1 p.2) = false:=by
  rw [List.all_eq_false]
  exact ⟨xs[k],List.getElem_mem hk,by rw [h]; simp⟩
 rw [this]; simp
theorem pairsB_all {g : Int → Int → Bool} {xs : List (Int × Int)} (h6 : xs.length ≤ 6) (h : ∀ j (hj : j < xs.length),g xs[j].1 xs[j].2 = true) : pairsB g xs = decide xs.Nodup:=by
 unfold pairsB
 have : xs.all (fun p => g p.1 p.2) = true:=by
  rw [List.all_eq_true]
  intro p hp
  obtain ⟨j,hj,rfl⟩:=List.getElem_of_mem hp
  exact h j hj
 rw [this,decide_eq_true h6]; simp
theorem nodup_take {xs : List (Int × Int)} {k : Nat} (hk : k < xs.length) : (xs.take (k + 1)).Nodup ↔ (xs.take k).Nodup ∧ xs[k] ∉ xs.take k:=by
 rw [List.take_succ_eq_append_getElem hk]; exact nodup_snoc
theorem nodup_no {xs : List (Int × Int)} {k : Nat} (hk : k < xs.length) (h : xs[k] ∈ xs.take k) : ¬ xs.Nodup:=fun hn =>
 ((nodup_take hk).1 (hn.sublist (List.take_sublist _ _))).2 h
theorem enters59 (args : Array Value) (w : World) : (callFunc 121 args).run Tryz.prog w = .ok (.enter 121 args) w:=by
 simp [callFunc,Tryz.func121,mark,Tryz.f121]
theorem enters60 (args : Array Value) (w : World) : (callFunc 122 args).run Tryz.prog w = .ok (.enter 122 args) w:=by
 simp [callFunc,Tryz.func122,mark,Tryz.f122]
set_option maxRecDepth 100000 in
set_option maxHeartbeats 3200000 in
theorem pairsOk_is (f : Nat) (g : Int → Int → Bool) (hen : ∀ (args : Array Value) (w : World),(callFunc f args).run Tryz.prog w = .ok (.enter f args) w)
  (hf : ∀ (a b : Int) (w : World),Calls Tryz.prog f #[pv a b] w fun e w' => e = .returned (.bool (g a b)) ∧ Below w.heap.size w w')
  (hg : ∀ a b,g a b = true → i64 a ∧ i64 b)
  (a : Option Addr) (cap : Nat) (xs : List (Int × Int)) (w : World) (hr : PRow w a xs) (hl : xs.length ≤ 1048576) :
  Calls Tryz.prog 120 #[.slice a xs.length cap,.func (.func f) #[] #[]] w fun e w' => e = .returned (.bool (pairsB g xs)) ∧ Below w.heap.size w w':=by
 by_cases h6 : xs.length ≤ 6
 ·have hd : decide ((6 : Int) < (xs.length : Int)) = false:=by simp; omega
  have hd2 : decide (6 < xs.length) = false:=by simp; omega
  go_enter Tryz.func120,Tryz.ntmps120
  go_wp2
  go_loopw [12] (fun i wr => ∃ k : Nat,k ≤ xs.length ∧ i = I k ∧ (∀ j (hj : j < xs.length),j < k → g xs[j].1 xs[j].2 = true) ∧ Below w.heap.size w wr) (fun i _ => xs.length - (intOf i).toNat)
  case atStart => exact ⟨0,by omega,rfl,fun j hj h => absurd h (by omega),Below.refl _ _⟩
  case round =>
   obtain ⟨k,hk,rfl,hall,hbel⟩:=hrel
   by_cases hlt : k < xs.length
   ·obtain ⟨b,off,rfl,hbl,h0,h1⟩:=hr k hlt
    rw [← hbel.cell (p:=⟨b,off + k * 2,none⟩) hbl] at h0
    rw [← hbel.cell (p:=⟨b,off + k * 2 + 1,none⟩) hbl] at h1
    have hlt2 : (k : Int) < (xs.length : Int):=by omega
    have H : Hid (g xs[k].1 xs[k].2 = true → ∀ j (hj : j < xs.length),j < k + 1 → g xs[j].1 xs[j].2 = true):=(fun h j hj hjk => (if e : j = k then by subst e; exact h else hall j hj (by omega) : g xs[j].1 xs[j].2 = true))
    have HN : Hid (g xs[k].1 xs[k].2 = false → pairsB g xs = false):=(fun h => pairsB_not hlt h)
    clear hall hr
    generalize xs[k].1 = x at h0 H HN
    generalize xs[k].2 = y at h1 H HN
    obtain ⟨V,hV⟩ : ∃ V,wr.alloc (.cells #[I x,I y] 178) = V:=⟨_,rfl⟩
    have HC:=hf x y V
    have BV : Below w.heap.size w V:=by rw [← hV]; exact hbel.alloc hbel.size _
    have T : Blk wr.heap.size [I x,I y] V:=by rw [← hV]; exact Blk.new _ _ _
    have d0:=T.at 0 rfl
    have d1:=T.at 1 rfl
    go_wp2_with fail
    try rw [hV]
    refine HC.mono ?_
    rintro e wx ⟨rfl,hbx⟩
    have BX:=BV.trans (hbx.mono BV.size)
    clear HC hV h0 h1 BV hbx hbel d0 d1 T
    by_cases hh : g x y = true
    ·have H1 : Hid (∀ j (hj : j < xs.length),j < k + 1 → g xs[j].1 xs[j].2 = true):=H.out hh
     rw [hh]
     clear H HN
     go_wp2
     go_roundw
     case rel => exact ⟨k + 1,by omega,by go_num,H1.out,BX⟩
     case measure => simp [intOf]; omega
    ·rw [Bool.not_eq_true] at hh
     have H1 : Hid (pairsB g xs = false):=HN.out hh
     rw [hh]
     clear H HN
     go_wp2
     go_ret
     exact ⟨by rw [H1.out]; rfl,BX⟩
   ·have HA : Hid (pairsB g xs = decide xs.Nodup):=pairsB_all h6 (fun j hj => hall j hj (by omega))
    have hin : ∀ p ∈ xs,i64 p.1 ∧ i64 p.2:=fun p hp => by
     obtain ⟨j,hj,rfl⟩:=List.getElem_of_mem hp
     exact hg _ _ (hall j hj (by omega))
    have HL:=linksOf_is a cap xs wr (hr.later hbel) h6 hin
    clear hall hin
    go_wp2_with fail
    refine HL.mono ?_
    rintro e wx ⟨m,rfl,⟨D,hD,hL⟩,_,hbx⟩
    have BX:=hbel.trans (hbx.mono hbel.size)
    clear HL hbel hbx
    have hs1:=hL.2.2.1
    have HE : Hid (decide xs.Nodup = decide (((Maps.size D : Nat) : Int) = (xs.length : Int))):=by
     show decide xs.Nodup = _
     rw [decide_eq_decide,← hL.2.2.2]
     omega
    clear hL
    go_wp2_with (first | (at_len; refine wpList_len_own _ rfl _ 215 rfl 237 3 Tryz.underlying215 _ m 6 D rfl hD ?_) | go_in)
    go_ret
    exact ⟨by rw [HA.out,HE.out]; rfl,BX⟩
 ·have hd : decide ((6 : Int) < (xs.length : Int)) = true:=by simp; omega
  have hd2 : decide (6 < xs.length) = true:=by simp; omega
  go_enter Tryz.func120,Tryz.ntmps120
  go_wp2
  go_ret
  exact ⟨by rw [pairsB_many g xs h6]; rfl,Below.refl _ _⟩
end Go.Proofs.YtlmpfkbgknbcnaaGreat

set_option linter.unusedVariables false
set_option maxRecDepth 100000
namespace Go.Proofs.YtlmpfkbgknbcnaaGreat
open Go Go.RowKit Var Term Draw
/-- A Config: its rows, where they lie, how far they may grow, and Skew. -/
structure Cf where
 ua : Option Addr
 uc : Nat
 U : List Int
 sa : Option Addr
 sc : Nat
 S : List Int
 la : Option Addr
 lc : Nat
 L : List (Int × Int)
 xa : Option Addr
 xc : Nat
 X : List (Int × Int)
 k : Int
abbrev Cf.val (c : Cf) : Value:=.agg #[.slice c.ua c.U.length c.uc,.slice c.sa c.S.length c.sc,.slice c.la c.L.length c.lc,.slice c.xa c.X.length c.xc,I c.k]
abbrev Cf.cells (c : Cf) : List Value:=[.slice c.ua c.U.length c.uc,.slice c.sa c.S.length c.sc,.slice c.la c.L.length c.lc,.slice c.xa c.X.length c.xc,I c.k]
/-- The rows of a Config lie in memory. -/
structure CfAt (c : Cf) (w : World) : Prop where
 hu : RowAt (Value.int .i64) w c.ua c.U
 hs : RowAt (Value.int .i64) w c.sa c.S
 hl : PRow w c.la c.L
 hx : PRow w c.xa c.X
structure CfOk (c : Cf) : Prop where
 lu : c.U.length ≤ 1048576
 ls : c.S.length ≤ 1048576
 ll : c.L.length ≤ 1048576
 lx : c.X.length ≤ 1048576
 cl : c.L.length ≤ c.lc
 cx : c.X.length ≤ c.xc
theorem CfAt.later {c : Cf} {w w' : World} (h : CfAt c w) (hb : Below w.heap.size w w') : CfAt c w':=⟨h.hu.later hb,h.hs.later hb,h.hl.later hb,h.hx.later hb⟩
def realmB (l : List Int) : Bool:=decide (l.length = 3) && allB l 3
def confB (c : Cf) : Bool:=realmB c.U && (realmB c.S && (pairsB ulB c.L && (pairsB svB c.X && btw c.k 0 20)))
theorem ul_i64 (a b : Int) (h : ulB a b = true) : i64 a ∧ i64 b:=by
 unfold ulB at h
 rw [Bool.and_eq_true,Bool.and_eq_true] at h
 have h0:=(btw_iff _ _ _).1 h.1
 have h1:=(btw_iff _ _ _).1 h.2.1
 unfold i64
 omega
theorem sv_i64 (a b : Int) (h : svB a b = true) : i64 a ∧ i64 b:=by
 unfold svB at h
 rw [Bool.and_eq_true] at h
 have h0:=(btw_iff _ _ _).1 h.1
 have h1:=(btw_iff _ _ _).1 h.2
 unfold i64
 omega
set_option maxRecDepth 100000 in
theorem realmsOk_is (a : Option Addr) (cap : Nat) (xs : List Int) (w : World) (hr : RowAt (Value.int .i64) w a xs) (hl : xs.length ≤ 1048576) :
  Calls Tryz.prog 119 #[.slice a xs.length cap,I 3] w fun e w' => e = .returned (.bool (realmB xs)) ∧ Below w.heap.size w w':=by
 by_cases h : xs.length = 3
 ·have e1 : ((xs.length : Int) == 3) = true:=beq_iff_eq.2 (by omega)
  have e2 : decide ((xs.length : Int) = 3) = true:=decide_eq_true (by omega)
  have HR : Hid (realmB xs = allB xs 3):=by show realmB xs = _; unfold realmB; rw [decide_eq_true h]; rfl
  clear h
  go_enter Tryz.func119,Tryz.ntmps119
  go_wp2_with fail
  refine (listOk_is 162 enters95 realm_is a cap xs 3 _ hr hl (by omega)).mono ?_
  rintro e w1 ⟨rfl,hb⟩
  generalize hv : allB xs 3 = v
  go_wp2
  go_ret
  exact ⟨by rw [HR.out,hv]; rfl,hb⟩
 ·have e1 : ((xs.length : Int) == 3) = false:=beq_eq_false_iff_ne.2 (by omega)
  have e2 : decide ((xs.length : Int) = 3) = false:=decide_eq_false (by omega)
  have HR : Hid (realmB xs = false):=by show realmB xs = _; unfold realmB; rw [decide_eq_false h]; rfl
  go_enter Tryz.func119,Tryz.ntmps119
  go_wp2
  go_ret
  exact ⟨by rw [HR.out]; rfl,Below.refl _ _⟩
set_option maxRecDepth 100000 in
set_option maxHeartbeats 3200000 in
theorem cfRight_is (c : Cf) (w : World) (C : CfAt c w) (K : CfOk c) : Calls Tryz.prog 76 #[c.val] w fun en w' => en = .returned (.bool (confB c)) ∧ Below w.heap.size w w':=by
 obtain ⟨W1,hW1⟩ : ∃ W1,w.alloc (.cells #[.slice c.ua c.U.length c.uc,.slice c.sa c.S.length c.sc,.slice c.la c.L.length c.lc,.slice c.xa c.X.length c.xc,I c.k] 40) = W1:=⟨_,rfl⟩
 have B0 : Below w.heap.size w W1:=by rw [← hW1]; exact (Below.refl _ _).alloc (Nat.le_refl _) _
 have T0 : Blk w.heap.size c.cells W1:=by rw [← hW1]; exact Blk.new _ _ _
 have Z0 : Hid (w.heap.size < W1.heap.size):=by show _ < _; rw [← hW1]; simp
 have d0:=T0.at 0 rfl
 have d1:=T0.at 1 rfl
 have d2:=T0.at 2 rfl
 have d3:=T0.at 3 rfl
 have d4:=T0.at 4 rfl
 have HC : Hid (confB c = (realmB c.U && (realmB c.S && (pairsB ulB c.L && (pairsB svB c.X && btw c.k 0 20))))):=(rfl : confB c = _)
 go_enter Tryz.func76,Tryz.ntmps76
 go_wp2_with fail
 try rw [hW1]
 refine (realmsOk_is c.ua c.uc c.U _ (C.hu.later B0) K.lu).mono ?_
 clear hW1
 rintro e w2 ⟨rfl,hb2⟩
 have B2:=B0.trans (hb2.mono B0.size)
 clear d0 d1 d2 d3 d4
 have T2:=T0.later hb2 Z0.out
 have Z2 : Hid (w.heap.size < w2.heap.size):=Nat.lt_of_lt_of_le Z0.out hb2.size
 clear T0 Z0 hb2
 have d0:=T2.at 0 rfl
 have d1:=T2.at 1 rfl
 have d2:=T2.at 2 rfl
 have d3:=T2.at 3 rfl
 have d4:=T2.at 4 rfl
 by_cases h0 : realmB c.U = true
 ·rw [h0]
  go_wp2_with fail
  refine (realmsOk_is c.sa c.sc c.S _ (C.hs.later B2) K.ls).mono ?_
  rintro e w3 ⟨rfl,hb3⟩
  have B3:=B2.trans (hb3.mono B2.size)
  clear d0 d1 d2 d3 d4
  have T3:=T2.later hb3 Z2.out
  have Z3 : Hid (w.heap.size < w3.heap.size):=Nat.lt_of_lt_of_le Z2.out hb3.size
  clear T2 Z2 hb3
  have d0:=T3.at 0 rfl
  have d1:=T3.at 1 rfl
  have d2:=T3.at 2 rfl
  have d3:=T3.at 3 rfl
  have d4:=T3.at 4 rfl
  by_cases h1 : realmB c.S = true
  ·rw [h1]
   go_wp2_with fail
   refine (pairsOk_is 121 ulB enters59 unlike_is ul_i64 c.la c.lc c.L _ (C.hl.later B3) K.ll).mono ?_
   rintro e w4 ⟨rfl,hb4⟩
   have B4:=B3.trans (hb4.mono B3.size)
   clear d0 d1 d2 d3 d4
   have T4:=T3.later hb4 Z3.out
   have Z4 : Hid (w.heap.size < w4.heap.size):=Nat.lt_of_lt_of_le Z3.out hb4.size
   clear T3 Z3 hb4
   have d0:=T4.at 0 rfl
   have d1:=T4.at 1 rfl
   have d2:=T4.at 2 rfl
   have d3:=T4.at 3 rfl
   have d4:=T4.at 4 rfl
   by_cases h2 : pairsB ulB c.L = true
   ·rw [h2]
    go_wp2_with fail
    refine (pairsOk_is 122 svB enters60 services_is sv_i64 c.xa c.xc c.X _ (C.hx.later B4) K.lx).mono ?_
    rintro e w5 ⟨rfl,hb5⟩
    have B5:=B4.trans (hb5.mono B4.size)
    clear d0 d1 d2 d3 d4
    have T5:=T4.later hb5 Z4.out
    have Z5 : Hid (w.heap.size < w5.heap.size):=Nat.lt_of_lt_of_le Z4.out hb5.size
    clear T4 Z4 hb5
    have d0:=T5.at 0 rfl
    have d1:=T5.at 1 rfl
    have d2:=T5.at 2 rfl
    have d3:=T5.at 3 rfl
    have d4:=T5.at 4 rfl
    by_cases h3 : pairsB svB c.X = true
    ·rw [h3]
     go_wp2_with fail
     refine (within_is c.k 20 _).mono ?_
     rintro e wx ⟨rfl,rfl⟩
     rw [show inB c.k 20 = btw c.k 0 20 from rfl]
     clear d0 d1 d2 d3 d4
     generalize hval : btw c.k 0 20 = bb
     go_wp2
     go_ret
     exact ⟨by rw [HC.out,h0,h1,h2,h3,hval]; rfl,B5⟩
    ·rw [Bool.not_eq_true] at h3
     rw [h3]
     clear d0 d1 d2 d3 d4
     go_wp2
     go_ret
     exact ⟨by rw [HC.out,h0,h1,h2,h3]; rfl,B5⟩
   ·rw [Bool.not_eq_true] at h2
    rw [h2]
    clear d0 d1 d2 d3 d4
    go_wp2
    go_ret
    exact ⟨by rw [HC.out,h0,h1,h2]; rfl,B4⟩
  ·rw [Bool.not_eq_true] at h1
   rw [h1]
   clear d0 d1 d2 d3 d4
   go_wp2
   go_ret
   exact ⟨by rw [HC.out,h0,h1]; rfl,B3⟩
 ·rw [Bool.not_eq_true] at h0
  rw [h0]
  clear d0 d1 d2 d3 d4
  go_wp2
  go_ret
  exact ⟨by rw [HC.out,h0]; rfl,B2⟩
end Go.Proofs.YtlmpfkbgknbcnaaGreat
