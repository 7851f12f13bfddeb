/- Is what is known right: the model's two loops. -/
import Derived.Test.YtjcmbbnklfemcaaGreatSeek
import Derived.BigQuiet
set_option linter.unusedVariables false
namespace Go.Proofs.YtjcmbbnklfemcaaGreat.Kn
open Go.RowKit Own Var Term
theorem below_drewN {B:Nat} {a w:World} (h:Below B a w) (n:Nat):Below B a (w.drewN n) := ⟨h.os,h.tape,h.output,h.size,h.block⟩
theorem unwanted {ops:Array Oper} {tmps:Array Value} {o:Oper} {j d:Nat} {b c:Bool} (hg:o.guard=some (j,b)) (hd:(ops[j]?).bind (·.dst)=some d) (ht:tmps[d]?=some (.bool c)) (hc:(c == b)=false):Region.wanted o (yielded ops tmps)=false := by
 have hy:yielded ops tmps j=some c := by unfold yielded;rw [hd];simp only [Option.bind_some,ht]
 unfold Region.wanted
 rw [hg]
 simp only [hy]
 simpa using hc
theorem unwanted_undef {ops:Array Oper} {tmps:Array Value} {o:Oper} {j d:Nat} {b:Bool} (hg:o.guard=some (j,b)) (hd:(ops[j]?).bind (·.dst)=some d) (ht:tmps[d]?=some undef):Region.wanted o (yielded ops tmps)=false := by
 have hy:yielded ops tmps j=none := by unfold yielded;rw [hd];simp only [Option.bind_some,ht];rfl
 unfold Region.wanted
 rw [hg]
 simp only [hy]
 rfl
/-- An operation of a drawn region that yields its value wherever S holds is taken first. -/
theorem take_one {P:Program} {ops:Array Oper} {Q:Exit→Act→World→Prop} {md:Region.Mode} {S:World→Prop} (i d:Nat) {oi:Oper} {v:Value} {fuel:Nat} {listed:Array Bool} {a:Act} {w:World} (hi:ops[i]?=some oi) (hd:oi.dst=some d)
  (hs:Region.noSelect ops=true) (hf:Region.free md ops listed i=true) (hr:(Region.ready md ops listed).contains i=true) (hQ:∀ c a w,Q (.panic c) (a.put (some d) v) w→Q (.panic c) a w)
  (hy:YieldsIf P ops S oi v a) (hS:S w) (h:wpAnyH P md ops Q S fuel (listed.setIfInBounds i true) (a.put (some d) v) w):wpAnyH P md ops Q S (fuel + 1) listed a w :=
 wpAnyH_take hi hs hf hr (by rw [hd];exact hQ) hy hS (by rw [hd];exact h)
/-- An operation of a drawn region that its guard passes over is taken first. -/
theorem skip_one {P:Program} {ops:Array Oper} {Q:Exit→Act→World→Prop} {md:Region.Mode} {S:World→Prop} (i d:Nat) {oi:Oper} {fuel:Nat} {listed:Array Bool} {a:Act} {w:World} (hi:ops[i]?=some oi) (hd:oi.dst=some d)
  (hs:Region.noSelect ops=true) (hf:Region.free md ops listed i=true) (hr:(Region.ready md ops listed).contains i=true) (hQ:∀ c a w,Q (.panic c) (a.put (some d) undef) w→Q (.panic c) a w)
  (hw:Region.wanted oi (yielded ops a.tmps)=false) (hS:S w) (h:wpAnyH P md ops Q S fuel (listed.setIfInBounds i true) (a.put (some d) undef) w):wpAnyH P md ops Q S (fuel + 1) listed a w :=
 take_one i d hi hd hs hf hr hQ (Or.inr ⟨hw,rfl⟩) hS h
set_option maxRecDepth 100000 in
set_option maxHeartbeats 6400000 in
theorem spec_knownOk (a b:Option Addr) (ca cb:Nat) (xs:List ByteArray) (ks:List Int) (w:World) (hr:RowAt Value.string w a xs) (hq:RowAt (Value.int .i64) w b ks)
  (hl:xs.length≤1048576) (hl2:ks.length≤1048576) (hcap:xs.length≤ca) (hs:∀ x∈xs,x.size≤1048576) :
  Calls Tryz.prog 29 #[.agg #[.slice a xs.length ca,.slice b ks.length cb]] w fun e w'=>e=.returned (.bool (kOk xs ks))∧Below w.heap.size w w' := by
 have hb0:Below w.heap.size w (w.alloc (.cells #[.slice a xs.length ca,.slice b ks.length cb] 41)) := (Below.refl _ _).alloc (Nat.le_refl _) _
 by_cases h1:xs.length≤60
 ·have h1':decide ((xs.length:Int) > 60)=false := by simp;omega
  by_cases h2:ks.length≤40
  ·have h2':decide ((ks.length:Int) > 40)=false := by simp;omega
   obtain ⟨W1,hW1⟩:∃ W1,w.alloc (.cells #[.slice a xs.length ca,.slice b ks.length cb] 41)=W1 := ⟨_,rfl⟩
   have hc0:W1.cell? ⟨w.heap.size,0,none⟩=some (.slice a xs.length ca) := by rw [← hW1];simp [go_sem]
   have hc1:W1.cell? ⟨w.heap.size,1,none⟩=some (.slice b ks.length cb) := by rw [← hW1];simp [go_sem]
   have hz1:W1.heap.size=w.heap.size + 1 := by rw [← hW1];simp
   rw [hW1] at hb0
   have hr1 := hr.later hb0
   have hq1 := hq.later hb0
   go_enter Tryz.func29,Tryz.ntmps29
   go_wp2
   try rw [hW1]
   go_loopw [3] (fun i wr=>∃ k:Nat,k≤xs.length∧i=.int .i64 k∧Hid (∀ j,j < k→goodT xs j=true)∧Below W1.heap.size W1 wr) (fun i _=>xs.length - (intOf i).toNat)
   case atStart=>exact ⟨0,by omega,rfl,fun j hj=>absurd hj (by omega),Below.refl _ _⟩
   case round =>
    obtain ⟨k,hk,rfl,hx,hbel⟩ := hrel
    have d0:wr.cell? ⟨w.heap.size,0,none⟩=some (.slice a xs.length ca) := (hbel.cell (p := ⟨w.heap.size,0,none⟩) (by show w.heap.size < _;omega)).trans hc0
    have d1:wr.cell? ⟨w.heap.size,1,none⟩=some (.slice b ks.length cb) := (hbel.cell (p := ⟨w.heap.size,1,none⟩) (by show w.heap.size < _;omega)).trans hc1
    by_cases hlt:k < xs.length
    ·obtain ⟨b1,o1,rfl,l1,he⟩ := hr1 k hlt
     rw [← hbel.cell (p := ⟨b1,o1 + k,none⟩) l1] at he
     have hG := goodT_at hlt
     have hz := hs _ (List.getElem_mem hlt)
     have htk:(xs.take k).length=k := by rw [List.length_take];omega
     have hC := fun w' (hb:Below W1.heap.size W1 w')=>l3In_is (some ⟨b1,o1,none⟩) ca (xs.take k) xs[k] w' (RowAt.take (hr1.later hb) k) (by omega)
     rw [htk] at hC
     generalize xs[k]=y at he hG hz hC
     have hO := fun w'=>spec_ok y w' (by omega)
     cases hT:isT y with
     | false =>
      rw [hT] at hG hO
      have hF:kTerms xs=false := kTerms_no hlt (by rw [hG];rfl)
      have hF2:kOk xs ks=false := by unfold kOk;rw [hF];simp
      clear hG hT hC hF
      go_wp2_with fail
      refine wp_region_held_drew (S := (fun W=>Below W1.heap.size W1 W∧W.cell? ⟨w.heap.size,0,none⟩=some (.slice (some ⟨b1,o1,none⟩) xs.length ca)∧W.cell? ⟨b1,o1 + k,none⟩=some (.string y))) (by kernel_rfl) ⟨hbel.drew,by simpa using d0,by simpa using he⟩ (fun hHeld=>?_)
      refine take_one 0 22 (v := ?_) rfl rfl (by kernel_rfl) (by kernel_rfl) (by kernel_rfl) (fun _ _ _ h=>h) (Or.inl ⟨by rfl,?_⟩) hHeld ?_
      rotate_left
      ·intro w' hSw;(try dsimp only at hSw);go_simp;try with_reducible rfl
      try simp only [Act.put,List.setIfInBounds_toArray,List.set_cons_zero,List.set_cons_succ]
      refine take_one 1 23 (v := ?_) rfl rfl (by kernel_rfl) (by kernel_rfl) (by kernel_rfl) (fun _ _ _ h=>h) (Or.inl ⟨by rfl,?_⟩) hHeld ?_
      rotate_left
      ·intro w' hSw;(try dsimp only at hSw);go_simp;try with_reducible rfl
      try simp only [Act.put,List.setIfInBounds_toArray,List.set_cons_zero,List.set_cons_succ]
      refine take_one 2 24 (v := ?_) rfl rfl (by kernel_rfl) (by kernel_rfl) (by kernel_rfl) (fun _ _ _ h=>h) (Or.inl ⟨by rfl,?_⟩) hHeld ?_
      rotate_left
      ·intro w' hSw;(try dsimp only at hSw);go_simp;try with_reducible rfl
      try simp only [Act.put,List.setIfInBounds_toArray,List.set_cons_zero,List.set_cons_succ]
      refine take_one 3 25 (v := ?_) rfl rfl (by kernel_rfl) (by kernel_rfl) (by kernel_rfl) (fun _ _ _ h=>h) (Or.inl ⟨by rfl,?_⟩) hHeld ?_
      rotate_left
      ·intro w' hSw;(try dsimp only at hSw);go_simp;try with_reducible rfl
      try simp only [Act.put,List.setIfInBounds_toArray,List.set_cons_zero,List.set_cons_succ]
      refine take_one 4 26 (v := ?_) rfl rfl (by kernel_rfl) (by kernel_rfl) (by kernel_rfl) (fun _ _ _ h=>h) (Or.inl ⟨by rfl,?_⟩) hHeld ?_
      rotate_left
      ·intro w' hSw;(try dsimp only at hSw);go_simp;try with_reducible rfl
      try simp only [Act.put,List.setIfInBounds_toArray,List.set_cons_zero,List.set_cons_succ]
      refine wpAnyH_ready (rs := [5]) (by kernel_rfl) (by simp) ?_
      refine AllReadyH.cons (i := 5) rfl (fun K hK=>?_) AllReadyH.nil
      go_simp
      refine (hO _).mono ?_
      rintro e w3 ⟨rfl,hb3⟩
      go_wp2_with fail
      refine hK.out _ _ ⟨hbel.drew.trans (hb3.mono hbel.size),(hb3.cell (p := ⟨w.heap.size,0,none⟩) (by have := hbel.size;show w.heap.size < wr.heap.size;omega)).trans (by simpa using d0),(hb3.cell (p := ⟨b1,o1 + k,none⟩) (by have := hbel.size;show b1 < wr.heap.size;omega)).trans (by simpa using he)⟩ (fun hHeld2=>?_)
      clear hK K hHeld
      have hHeld := hHeld2
      clear hHeld2
      try simp only [Act.put,List.setIfInBounds_toArray,List.set_cons_zero,List.set_cons_succ]
      refine take_one 6 28 (v := ?_) rfl rfl (by kernel_rfl) (by kernel_rfl) (by kernel_rfl) (fun _ _ _ h=>h) (Or.inl ⟨by rfl,?_⟩) hHeld ?_
      rotate_left
      ·intro w' hSw;(try dsimp only at hSw);go_simp;try with_reducible rfl
      try simp only [Act.put,List.setIfInBounds_toArray,List.set_cons_zero,List.set_cons_succ]
      refine take_one 7 29 (v := ?_) rfl rfl (by kernel_rfl) (by kernel_rfl) (by kernel_rfl) (fun _ _ _ h=>h) (Or.inl ⟨by rfl,?_⟩) hHeld ?_
      rotate_left
      ·intro w' hSw;(try dsimp only at hSw);go_simp;try with_reducible rfl
      try simp only [Act.put,List.setIfInBounds_toArray,List.set_cons_zero,List.set_cons_succ]
      refine skip_one 8 30 rfl rfl (by kernel_rfl) (by kernel_rfl) (by kernel_rfl) (fun _ _ _ h=>h) (unwanted (c := true) rfl rfl (by simp) rfl) hHeld ?_
      try simp only [Act.put,List.setIfInBounds_toArray,List.set_cons_zero,List.set_cons_succ]
      refine skip_one 9 31 rfl rfl (by kernel_rfl) (by kernel_rfl) (by kernel_rfl) (fun _ _ _ h=>h) (unwanted (c := true) rfl rfl (by simp) rfl) hHeld ?_
      try simp only [Act.put,List.setIfInBounds_toArray,List.set_cons_zero,List.set_cons_succ]
      refine skip_one 10 32 rfl rfl (by kernel_rfl) (by kernel_rfl) (by kernel_rfl) (fun _ _ _ h=>h) (unwanted (c := true) rfl rfl (by simp) rfl) hHeld ?_
      try simp only [Act.put,List.setIfInBounds_toArray,List.set_cons_zero,List.set_cons_succ]
      refine skip_one 11 33 rfl rfl (by kernel_rfl) (by kernel_rfl) (by kernel_rfl) (fun _ _ _ h=>h) (unwanted (c := true) rfl rfl (by simp) rfl) hHeld ?_
      try simp only [Act.put,List.setIfInBounds_toArray,List.set_cons_zero,List.set_cons_succ]
      refine skip_one 12 34 rfl rfl (by kernel_rfl) (by kernel_rfl) (by kernel_rfl) (fun _ _ _ h=>h) (unwanted (c := true) rfl rfl (by simp) rfl) hHeld ?_
      try simp only [Act.put,List.setIfInBounds_toArray,List.set_cons_zero,List.set_cons_succ]
      refine skip_one 13 35 rfl rfl (by kernel_rfl) (by kernel_rfl) (by kernel_rfl) (fun _ _ _ h=>h) (unwanted (c := true) rfl rfl (by simp) rfl) hHeld ?_
      try simp only [Act.put,List.setIfInBounds_toArray,List.set_cons_zero,List.set_cons_succ]
      refine skip_one 14 36 rfl rfl (by kernel_rfl) (by kernel_rfl) (by kernel_rfl) (fun _ _ _ h=>h) (unwanted (c := true) rfl rfl (by simp) rfl) hHeld ?_
      try simp only [Act.put,List.setIfInBounds_toArray,List.set_cons_zero,List.set_cons_succ]
      refine skip_one 15 37 rfl rfl (by kernel_rfl) (by kernel_rfl) (by kernel_rfl) (fun _ _ _ h=>h) (unwanted (c := true) rfl rfl (by simp) rfl) hHeld ?_
      try simp only [Act.put,List.setIfInBounds_toArray,List.set_cons_zero,List.set_cons_succ]
      refine skip_one 16 38 rfl rfl (by kernel_rfl) (by kernel_rfl) (by kernel_rfl) (fun _ _ _ h=>h) (unwanted (c := true) rfl rfl (by simp) rfl) hHeld ?_
      try simp only [Act.put,List.setIfInBounds_toArray,List.set_cons_zero,List.set_cons_succ]
      refine skip_one 17 39 rfl rfl (by kernel_rfl) (by kernel_rfl) (by kernel_rfl) (fun _ _ _ h=>h) (unwanted (c := true) rfl rfl (by simp) rfl) hHeld ?_
      try simp only [Act.put,List.setIfInBounds_toArray,List.set_cons_zero,List.set_cons_succ]
      refine take_one 18 40 (v := ?_) rfl rfl (by kernel_rfl) (by kernel_rfl) (by kernel_rfl) (fun _ _ _ h=>h) (Or.inl ⟨by rfl,?_⟩) hHeld ?_
      rotate_left
      ·intro w' hSw;(try dsimp only at hSw);go_simp;try with_reducible rfl
      try simp only [Act.put,List.setIfInBounds_toArray,List.set_cons_zero,List.set_cons_succ]
      refine wpAnyH_done (by kernel_rfl) ?_ _
      have hb4:Below W1.heap.size W1 w3 := hHeld.1
      clear hHeld hO hb3 hbel d0 d1 he
      go_wp2
      go_ret
      exact ⟨by rw [hF2];rfl,hb0.trans (hb4.mono hb0.size)⟩
     | true =>
      rw [hT] at hG hO
      clear hT
      have i0:(0:Int)≤(k:Int) := by omega
      have i1:(k:Int) < (xs.length:Int) := by omega
      have i2:(k:Int)≤(ca:Int) := by omega
      cases hI:inB (xs.take k) y with
      | true =>
       rw [hI] at hG
       simp only [hI] at hC
       have hF:kTerms xs=false := kTerms_no hlt (by rw [hG];rfl)
       have hF2:kOk xs ks=false := by unfold kOk;rw [hF];simp
       clear hG hI hF
       go_wp2_with fail
       go_region_held3 (fun W=>Below W1.heap.size W1 W∧W.cell? ⟨w.heap.size,0,none⟩=some (.slice (some ⟨b1,o1,none⟩) xs.length ca)∧W.cell? ⟨b1,o1 + k,none⟩=some (.string y))
        (first | exact ⟨hbel.drew,by simpa using d0,by simpa using he⟩ | exact hS1)
        ((first
         | (go_at_call 30;refine (hO _).mono ?_;rintro e w3 ⟨rfl,hb3⟩;have hS1:Below W1.heap.size W1 w3∧w3.cell? ⟨w.heap.size,0,none⟩=some (.slice (some ⟨b1,o1,none⟩) xs.length ca)∧w3.cell? ⟨b1,o1 + k,none⟩=some (.string y) := ⟨hbel.drew.trans (hb3.mono hbel.size),(hb3.cell (p := ⟨w.heap.size,0,none⟩) (by have := hbel.size;show w.heap.size < wr.heap.size;omega)).trans (by simpa using d0),(hb3.cell (p := ⟨b1,o1 + k,none⟩) (by have := hbel.size;show b1 < wr.heap.size;omega)).trans (by simpa using he)⟩)
         | (go_at_call 66;refine (hC _ hS1.1).mono ?_;rintro e w4 ⟨rfl,rfl⟩)))
       all_goals
        have hb4 := hS1.1
        go_wp2
        go_ret
        exact ⟨by first | rfl | (rw [hF2];rfl),hb0.trans (hb4.mono hb0.size)⟩
      | false =>
       rw [hI] at hG
       simp only [hI] at hC
       have HN:Hid (∀ j,j < k + 1→goodT xs j=true) := by
        intro j hj
        by_cases e:j=k
        ·subst e;rw [hG];rfl
        ·exact hx.out j (by omega)
       clear hG hI
       go_wp2_with fail
       go_region_held3 (fun W=>Below W1.heap.size W1 W∧W.cell? ⟨w.heap.size,0,none⟩=some (.slice (some ⟨b1,o1,none⟩) xs.length ca)∧W.cell? ⟨b1,o1 + k,none⟩=some (.string y))
        (first | exact ⟨hbel.drew,by simpa using d0,by simpa using he⟩ | exact hS1)
        ((first
         | (go_at_call 30;refine (hO _).mono ?_;rintro e w3 ⟨rfl,hb3⟩;have hS1:Below W1.heap.size W1 w3∧w3.cell? ⟨w.heap.size,0,none⟩=some (.slice (some ⟨b1,o1,none⟩) xs.length ca)∧w3.cell? ⟨b1,o1 + k,none⟩=some (.string y) := ⟨hbel.drew.trans (hb3.mono hbel.size),(hb3.cell (p := ⟨w.heap.size,0,none⟩) (by have := hbel.size;show w.heap.size < wr.heap.size;omega)).trans (by simpa using d0),(hb3.cell (p := ⟨b1,o1 + k,none⟩) (by have := hbel.size;show b1 < wr.heap.size;omega)).trans (by simpa using he)⟩)
         | (go_at_call 66;refine (hC _ hS1.1).mono ?_;rintro e w4 ⟨rfl,rfl⟩)))
       all_goals
        have hb4 := hS1.1
        go_wp2
        go_roundw
        case rel=>exact ⟨k + 1,by omega,by go_num,HN,hb4⟩
        case measure=>simp [intOf];omega
    ·have hTT:kTerms xs=true := kTerms_yes (fun j hj=>hx.out j (by omega))
     have HKO:Hid (kOk xs ks=kKeys ks) := by show kOk xs ks=kKeys ks;unfold kOk;rw [hTT,decide_eq_true h1,decide_eq_true h2];simp
     clear hx hTT
     go_wp2
     go_loopw [4] (fun i wr=>∃ q:Nat,q≤ks.length∧i=.int .i64 q∧Hid (∀ j,j < q→goodK ks j=true)∧Below W1.heap.size W1 wr) (fun i _=>ks.length - (intOf i).toNat)
     case atStart=>exact ⟨0,by omega,rfl,fun j hj=>absurd hj (by omega),hbel⟩
     case round =>
      clear d0 d1
      obtain ⟨q,hqk,rfl,hy,hbel2⟩ := hrel
      have d1:wr.cell? ⟨w.heap.size,1,none⟩=some (.slice b ks.length cb) := (hbel2.cell (p := ⟨w.heap.size,1,none⟩) (by show w.heap.size < _;omega)).trans hc1
      by_cases hlt2:q < ks.length
      ·obtain ⟨b2,o2,rfl,l2,hf⟩ := hq1 q hlt2
       rw [← hbel2.cell (p := ⟨b2,o2 + q,none⟩) l2] at hf
       have hG := goodK_at hlt2
       have hO2 := fun w'=>in_is ks[q] 1 1000000 w'
       have i0:(0:Int)≤(q:Int) := by omega
       have i1:(q:Int) < (ks.length:Int) := by omega
       have hLK:∀ p,q=p + 1→∃ v,lastK ks q=v∧wr.cell? ⟨b2,o2 + p,none⟩=some (.int .i64 v) := by
        rintro p rfl
        obtain ⟨b3,o3,e3,l3,hf3⟩ := hq1 p (by omega)
        simp only [Option.some.injEq,Addr.mk.injEq] at e3
        obtain ⟨rfl,rfl,_⟩ := e3
        rw [← hbel2.cell (p := ⟨b2,o2 + p,none⟩) l3] at hf3
        refine ⟨_,rfl,?_⟩
        rw [hf3]
        unfold lastK
        rw [if_neg (by omega),Nat.add_sub_cancel,getD_at (by omega)]
       generalize ks[q]=y at hf hG hO2
       cases hT:(decide (1≤y) && decide (y≤1000000)) with
       | false =>
        rw [hT] at hG hO2
        have hF:kKeys ks=false := kKeys_no hlt2 (by rw [hG];rfl)
        clear hG hT hLK
        go_wp2_with fail
        refine wp_region_held_drew (S := (fun W=>Below W1.heap.size W1 W∧W.cell? ⟨w.heap.size,1,none⟩=some (.slice (some ⟨b2,o2,none⟩) ks.length cb)∧W.cell? ⟨b2,o2 + q,none⟩=some (.int .i64 y))) (by kernel_rfl) ⟨hbel2.drew,by simpa using d1,by simpa using hf⟩ (fun hHeld=>?_)
        refine take_one 0 48 (v := ?_) rfl rfl (by kernel_rfl) (by kernel_rfl) (by kernel_rfl) (fun _ _ _ h=>h) (Or.inl ⟨by rfl,?_⟩) hHeld ?_
        rotate_left
        ·intro w' hSw;(try dsimp only at hSw);go_simp;try with_reducible rfl
        simp only [Act.put,List.setIfInBounds_toArray,List.set_cons_zero,List.set_cons_succ]
        refine take_one 1 49 (v := ?_) rfl rfl (by kernel_rfl) (by kernel_rfl) (by kernel_rfl) (fun _ _ _ h=>h) (Or.inl ⟨by rfl,?_⟩) hHeld ?_
        rotate_left
        ·intro w' hSw;(try dsimp only at hSw);go_simp;try with_reducible rfl
        simp only [Act.put,List.setIfInBounds_toArray,List.set_cons_zero,List.set_cons_succ]
        refine take_one 2 50 (v := ?_) rfl rfl (by kernel_rfl) (by kernel_rfl) (by kernel_rfl) (fun _ _ _ h=>h) (Or.inl ⟨by rfl,?_⟩) hHeld ?_
        rotate_left
        ·intro w' hSw;(try dsimp only at hSw);go_simp;try with_reducible rfl
        simp only [Act.put,List.setIfInBounds_toArray,List.set_cons_zero,List.set_cons_succ]
        refine take_one 3 51 (v := ?_) rfl rfl (by kernel_rfl) (by kernel_rfl) (by kernel_rfl) (fun _ _ _ h=>h) (Or.inl ⟨by rfl,?_⟩) hHeld ?_
        rotate_left
        ·intro w' hSw;(try dsimp only at hSw);go_simp;try with_reducible rfl
        simp only [Act.put,List.setIfInBounds_toArray,List.set_cons_zero,List.set_cons_succ]
        refine take_one 4 52 (v := ?_) rfl rfl (by kernel_rfl) (by kernel_rfl) (by kernel_rfl) (fun _ _ _ h=>h) (Or.inl ⟨by rfl,?_⟩) hHeld ?_
        rotate_left
        ·intro w' hSw;(try dsimp only at hSw);go_simp;try with_reducible rfl
        simp only [Act.put,List.setIfInBounds_toArray,List.set_cons_zero,List.set_cons_succ]
        refine wpAnyH_ready (rs := [5]) (by kernel_rfl) (by simp) ?_
        refine AllReadyH.cons (i := 5) rfl (fun K hK=>?_) AllReadyH.nil
        go_simp
        refine (hO2 _).mono ?_
        rintro e w3 ⟨rfl,rfl⟩
        go_wp2_with fail
        refine hK.out _ _ hHeld (fun hHeld2=>?_)
        clear hK K hHeld2
        try simp only [Act.put,List.setIfInBounds_toArray,List.set_cons_zero,List.set_cons_succ]
        refine take_one 6 54 (v := ?_) rfl rfl (by kernel_rfl) (by kernel_rfl) (by kernel_rfl) (fun _ _ _ h=>h) (Or.inl ⟨by rfl,?_⟩) hHeld ?_
        rotate_left
        ·intro w' hSw;(try dsimp only at hSw);go_simp;try with_reducible rfl
        simp only [Act.put,List.setIfInBounds_toArray,List.set_cons_zero,List.set_cons_succ]
        refine take_one 7 55 (v := ?_) rfl rfl (by kernel_rfl) (by kernel_rfl) (by kernel_rfl) (fun _ _ _ h=>h) (Or.inl ⟨by rfl,?_⟩) hHeld ?_
        rotate_left
        ·intro w' hSw;(try dsimp only at hSw);go_simp;try with_reducible rfl
        simp only [Act.put,List.setIfInBounds_toArray,List.set_cons_zero,List.set_cons_succ]
        refine skip_one 8 56 rfl rfl (by kernel_rfl) (by kernel_rfl) (by kernel_rfl) (fun _ _ _ h=>h) (unwanted (c := true) rfl rfl (by simp) rfl) hHeld ?_
        try simp only [Act.put,List.setIfInBounds_toArray,List.set_cons_zero,List.set_cons_succ]
        refine skip_one 9 57 rfl rfl (by kernel_rfl) (by kernel_rfl) (by kernel_rfl) (fun _ _ _ h=>h) (unwanted (c := true) rfl rfl (by simp) rfl) hHeld ?_
        try simp only [Act.put,List.setIfInBounds_toArray,List.set_cons_zero,List.set_cons_succ]
        refine skip_one 10 58 rfl rfl (by kernel_rfl) (by kernel_rfl) (by kernel_rfl) (fun _ _ _ h=>h) (unwanted (c := true) rfl rfl (by simp) rfl) hHeld ?_
        try simp only [Act.put,List.setIfInBounds_toArray,List.set_cons_zero,List.set_cons_succ]
        refine skip_one 11 59 rfl rfl (by kernel_rfl) (by kernel_rfl) (by kernel_rfl) (fun _ _ _ h=>h) (unwanted_undef rfl rfl (by simp)) hHeld ?_
        try simp only [Act.put,List.setIfInBounds_toArray,List.set_cons_zero,List.set_cons_succ]
        refine skip_one 12 60 rfl rfl (by kernel_rfl) (by kernel_rfl) (by kernel_rfl) (fun _ _ _ h=>h) (unwanted_undef rfl rfl (by simp)) hHeld ?_
        try simp only [Act.put,List.setIfInBounds_toArray,List.set_cons_zero,List.set_cons_succ]
        refine skip_one 13 61 rfl rfl (by kernel_rfl) (by kernel_rfl) (by kernel_rfl) (fun _ _ _ h=>h) (unwanted_undef rfl rfl (by simp)) hHeld ?_
        try simp only [Act.put,List.setIfInBounds_toArray,List.set_cons_zero,List.set_cons_succ]
        refine skip_one 14 62 rfl rfl (by kernel_rfl) (by kernel_rfl) (by kernel_rfl) (fun _ _ _ h=>h) (unwanted_undef rfl rfl (by simp)) hHeld ?_
        try simp only [Act.put,List.setIfInBounds_toArray,List.set_cons_zero,List.set_cons_succ]
        refine skip_one 15 63 rfl rfl (by kernel_rfl) (by kernel_rfl) (by kernel_rfl) (fun _ _ _ h=>h) (unwanted_undef rfl rfl (by simp)) hHeld ?_
        try simp only [Act.put,List.setIfInBounds_toArray,List.set_cons_zero,List.set_cons_succ]
        refine skip_one 16 64 rfl rfl (by kernel_rfl) (by kernel_rfl) (by kernel_rfl) (fun _ _ _ h=>h) (unwanted_undef rfl rfl (by simp)) hHeld ?_
        try simp only [Act.put,List.setIfInBounds_toArray,List.set_cons_zero,List.set_cons_succ]
        refine skip_one 17 65 rfl rfl (by kernel_rfl) (by kernel_rfl) (by kernel_rfl) (fun _ _ _ h=>h) (unwanted_undef rfl rfl (by simp)) hHeld ?_
        try simp only [Act.put,List.setIfInBounds_toArray,List.set_cons_zero,List.set_cons_succ]
        refine skip_one 18 66 rfl rfl (by kernel_rfl) (by kernel_rfl) (by kernel_rfl) (fun _ _ _ h=>h) (unwanted_undef rfl rfl (by simp)) hHeld ?_
        try simp only [Act.put,List.setIfInBounds_toArray,List.set_cons_zero,List.set_cons_succ]
        refine skip_one 19 67 rfl rfl (by kernel_rfl) (by kernel_rfl) (by kernel_rfl) (fun _ _ _ h=>h) (unwanted_undef rfl rfl (by simp)) hHeld ?_
        try simp only [Act.put,List.setIfInBounds_toArray,List.set_cons_zero,List.set_cons_succ]
        refine skip_one 20 68 rfl rfl (by kernel_rfl) (by kernel_rfl) (by kernel_rfl) (fun _ _ _ h=>h) (unwanted_undef rfl rfl (by simp)) hHeld ?_
        try simp only [Act.put,List.setIfInBounds_toArray,List.set_cons_zero,List.set_cons_succ]
        refine skip_one 21 69 rfl rfl (by kernel_rfl) (by kernel_rfl) (by kernel_rfl) (fun _ _ _ h=>h) (unwanted_undef rfl rfl (by simp)) hHeld ?_
        try simp only [Act.put,List.setIfInBounds_toArray,List.set_cons_zero,List.set_cons_succ]
        refine skip_one 22 70 rfl rfl (by kernel_rfl) (by kernel_rfl) (by kernel_rfl) (fun _ _ _ h=>h) (unwanted_undef rfl rfl (by simp)) hHeld ?_
        try simp only [Act.put,List.setIfInBounds_toArray,List.set_cons_zero,List.set_cons_succ]
        refine skip_one 23 71 rfl rfl (by kernel_rfl) (by kernel_rfl) (by kernel_rfl) (fun _ _ _ h=>h) (unwanted (c := true) rfl rfl (by simp) rfl) hHeld ?_
        try simp only [Act.put,List.setIfInBounds_toArray,List.set_cons_zero,List.set_cons_succ]
        refine take_one 24 72 (v := ?_) rfl rfl (by kernel_rfl) (by kernel_rfl) (by kernel_rfl) (fun _ _ _ h=>h) (Or.inl ⟨by rfl,?_⟩) hHeld ?_
        rotate_left
        ·intro w' hSw;(try dsimp only at hSw);go_simp;try with_reducible rfl
        simp only [Act.put,List.setIfInBounds_toArray,List.set_cons_zero,List.set_cons_succ]
        refine wpAnyH_done (by kernel_rfl) ?_ _
        have hb5:Below W1.heap.size W1 wr.drew := hHeld.1
        clear hHeld hO2 hf d1 hbel2
        go_wp2
        go_ret
        exact ⟨by rw [HKO.out,hF];rfl,hb0.trans (hb5.mono hb0.size)⟩
       | true =>
        rw [hT] at hG hO2
        have hT0 := hT
        clear hT
        by_cases hq0:q=0
        ·subst hq0
         have HN:Hid (∀ j,j < 0 + 1→goodK ks j=true) := by
          intro j hj
          obtain rfl:j=0 := by omega
          rw [hG]
          have h1y:1≤y := by simp at hT0;exact hT0.1
          simp [lastK]
          omega
         clear hG hLK
         go_wp2_with fail
         refine wp_region_held_drew (S := (fun W=>Below W1.heap.size W1 W∧W.cell? ⟨w.heap.size,1,none⟩=some (.slice (some ⟨b2,o2,none⟩) ks.length cb)∧W.cell? ⟨b2,o2,none⟩=some (.int .i64 y))) (by kernel_rfl) ⟨hbel2.drew,by simpa using d1,by simpa using hf⟩ (fun hHeld=>?_)
         refine take_one 0 48 (v := ?_) rfl rfl (by kernel_rfl) (by kernel_rfl) (by kernel_rfl) (fun _ _ _ h=>h) (Or.inl ⟨by rfl,?_⟩) hHeld ?_
         rotate_left
         ·intro w' hSw;(try dsimp only at hSw);go_simp;try with_reducible rfl
         simp only [Act.put,List.setIfInBounds_toArray,List.set_cons_zero,List.set_cons_succ]
         refine take_one 1 49 (v := ?_) rfl rfl (by kernel_rfl) (by kernel_rfl) (by kernel_rfl) (fun _ _ _ h=>h) (Or.inl ⟨by rfl,?_⟩) hHeld ?_
         rotate_left
         ·intro w' hSw;(try dsimp only at hSw);go_simp;try with_reducible rfl
         simp only [Act.put,List.setIfInBounds_toArray,List.set_cons_zero,List.set_cons_succ]
         refine take_one 2 50 (v := ?_) rfl rfl (by kernel_rfl) (by kernel_rfl) (by kernel_rfl) (fun _ _ _ h=>h) (Or.inl ⟨by rfl,?_⟩) hHeld ?_
         rotate_left
         ·intro w' hSw;(try dsimp only at hSw);go_simp;try with_reducible rfl
         simp only [Act.put,List.setIfInBounds_toArray,List.set_cons_zero,List.set_cons_succ]
         refine take_one 3 51 (v := ?_) rfl rfl (by kernel_rfl) (by kernel_rfl) (by kernel_rfl) (fun _ _ _ h=>h) (Or.inl ⟨by rfl,?_⟩) hHeld ?_
         rotate_left
         ·intro w' hSw;(try dsimp only at hSw);go_simp;try with_reducible rfl
         simp only [Act.put,List.setIfInBounds_toArray,List.set_cons_zero,List.set_cons_succ]
         refine take_one 4 52 (v := ?_) rfl rfl (by kernel_rfl) (by kernel_rfl) (by kernel_rfl) (fun _ _ _ h=>h) (Or.inl ⟨by rfl,?_⟩) hHeld ?_
         rotate_left
         ·intro w' hSw;(try dsimp only at hSw);go_simp;try with_reducible rfl
         simp only [Act.put,List.setIfInBounds_toArray,List.set_cons_zero,List.set_cons_succ]
         refine wpAnyH_ready (rs := [5]) (by kernel_rfl) (by simp) ?_
         refine AllReadyH.cons (i := 5) rfl (fun K hK=>?_) AllReadyH.nil
         go_simp
         refine (hO2 _).mono ?_
         rintro e w3 ⟨rfl,rfl⟩
         go_wp2_with fail
         refine hK.out _ _ hHeld (fun hHeld2=>?_)
         clear hK K hHeld2
         try simp only [Act.put,List.setIfInBounds_toArray,List.set_cons_zero,List.set_cons_succ]
         refine take_one 6 54 (v := ?_) rfl rfl (by kernel_rfl) (by kernel_rfl) (by kernel_rfl) (fun _ _ _ h=>h) (Or.inl ⟨by rfl,?_⟩) hHeld ?_
         rotate_left
         ·intro w' hSw;(try dsimp only at hSw);go_simp;try with_reducible rfl
         simp only [Act.put,List.setIfInBounds_toArray,List.set_cons_zero,List.set_cons_succ]
         refine take_one 7 55 (v := ?_) rfl rfl (by kernel_rfl) (by kernel_rfl) (by kernel_rfl) (fun _ _ _ h=>h) (Or.inl ⟨by rfl,?_⟩) hHeld ?_
         rotate_left
         ·intro w' hSw;(try dsimp only at hSw);go_simp;try with_reducible rfl
         simp only [Act.put,List.setIfInBounds_toArray,List.set_cons_zero,List.set_cons_succ]
         refine take_one 8 56 (v := ?_) rfl rfl (by kernel_rfl) (by kernel_rfl) (by kernel_rfl) (fun _ _ _ h=>h) (Or.inl ⟨by rfl,?_⟩) hHeld ?_
         rotate_left
         ·intro w' hSw;(try dsimp only at hSw);go_simp;try with_reducible rfl
         simp only [Act.put,List.setIfInBounds_toArray,List.set_cons_zero,List.set_cons_succ]
         refine take_one 9 57 (v := ?_) rfl rfl (by kernel_rfl) (by kernel_rfl) (by kernel_rfl) (fun _ _ _ h=>h) (Or.inl ⟨by rfl,?_⟩) hHeld ?_
         rotate_left
         ·intro w' hSw;(try dsimp only at hSw);go_simp;try with_reducible rfl
         simp only [Act.put,List.setIfInBounds_toArray,List.set_cons_zero,List.set_cons_succ]
         refine take_one 10 58 (v := ?_) rfl rfl (by kernel_rfl) (by kernel_rfl) (by kernel_rfl) (fun _ _ _ h=>h) (Or.inl ⟨by rfl,?_⟩) hHeld ?_
         rotate_left
         ·intro w' hSw;(try dsimp only at hSw);go_simp;try with_reducible rfl
         simp only [Act.put,List.setIfInBounds_toArray,List.set_cons_zero,List.set_cons_succ]
         refine skip_one 11 59 rfl rfl (by kernel_rfl) (by kernel_rfl) (by kernel_rfl) (fun _ _ _ h=>h) (unwanted (c := false) rfl rfl (by simp) rfl) hHeld ?_
         try simp only [Act.put,List.setIfInBounds_toArray,List.set_cons_zero,List.set_cons_succ]
         refine skip_one 12 60 rfl rfl (by kernel_rfl) (by kernel_rfl) (by kernel_rfl) (fun _ _ _ h=>h) (unwanted (c := false) rfl rfl (by simp) rfl) hHeld ?_
         try simp only [Act.put,List.setIfInBounds_toArray,List.set_cons_zero,List.set_cons_succ]
         refine skip_one 13 61 rfl rfl (by kernel_rfl) (by kernel_rfl) (by kernel_rfl) (fun _ _ _ h=>h) (unwanted (c := false) rfl rfl (by simp) rfl) hHeld ?_
         try simp only [Act.put,List.setIfInBounds_toArray,List.set_cons_zero,List.set_cons_succ]
         refine skip_one 14 62 rfl rfl (by kernel_rfl) (by kernel_rfl) (by kernel_rfl) (fun _ _ _ h=>h) (unwanted (c := false) rfl rfl (by simp) rfl) hHeld ?_
         try simp only [Act.put,List.setIfInBounds_toArray,List.set_cons_zero,List.set_cons_succ]
         refine skip_one 15 63 rfl rfl (by kernel_rfl) (by kernel_rfl) (by kernel_rfl) (fun _ _ _ h=>h) (unwanted (c := false) rfl rfl (by simp) rfl) hHeld ?_
         try simp only [Act.put,List.setIfInBounds_toArray,List.set_cons_zero,List.set_cons_succ]
         refine skip_one 16 64 rfl rfl (by kernel_rfl) (by kernel_rfl) (by kernel_rfl) (fun _ _ _ h=>h) (unwanted (c := false) rfl rfl (by simp) rfl) hHeld ?_
         try simp only [Act.put,List.setIfInBounds_toArray,List.set_cons_zero,List.set_cons_succ]
         refine skip_one 17 65 rfl rfl (by kernel_rfl) (by kernel_rfl) (by kernel_rfl) (fun _ _ _ h=>h) (unwanted (c := false) rfl rfl (by simp) rfl) hHeld ?_
         try simp only [Act.put,List.setIfInBounds_toArray,List.set_cons_zero,List.set_cons_succ]
         refine skip_one 18 66 rfl rfl (by kernel_rfl) (by kernel_rfl) (by kernel_rfl) (fun _ _ _ h=>h) (unwanted (c := false) rfl rfl (by simp) rfl) hHeld ?_
         try simp only [Act.put,List.setIfInBounds_toArray,List.set_cons_zero,List.set_cons_succ]
         refine skip_one 19 67 rfl rfl (by kernel_rfl) (by kernel_rfl) (by kernel_rfl) (fun _ _ _ h=>h) (unwanted (c := false) rfl rfl (by simp) rfl) hHeld ?_
         try simp only [Act.put,List.setIfInBounds_toArray,List.set_cons_zero,List.set_cons_succ]
         refine skip_one 20 68 rfl rfl (by kernel_rfl) (by kernel_rfl) (by kernel_rfl) (fun _ _ _ h=>h) (unwanted (c := false) rfl rfl (by simp) rfl) hHeld ?_
         try simp only [Act.put,List.setIfInBounds_toArray,List.set_cons_zero,List.set_cons_succ]
         refine skip_one 21 69 rfl rfl (by kernel_rfl) (by kernel_rfl) (by kernel_rfl) (fun _ _ _ h=>h) (unwanted (c := false) rfl rfl (by simp) rfl) hHeld ?_
         try simp only [Act.put,List.setIfInBounds_toArray,List.set_cons_zero,List.set_cons_succ]
         refine skip_one 22 70 rfl rfl (by kernel_rfl) (by kernel_rfl) (by kernel_rfl) (fun _ _ _ h=>h) (unwanted (c := false) rfl rfl (by simp) rfl) hHeld ?_
         try simp only [Act.put,List.setIfInBounds_toArray,List.set_cons_zero,List.set_cons_succ]
         refine take_one 23 71 (v := ?_) rfl rfl (by kernel_rfl) (by kernel_rfl) (by kernel_rfl) (fun _ _ _ h=>h) (Or.inl ⟨by rfl,?_⟩) hHeld ?_
         rotate_left
         ·intro w' hSw;(try dsimp only at hSw);go_simp;try with_reducible rfl
         simp only [Act.put,List.setIfInBounds_toArray,List.set_cons_zero,List.set_cons_succ]
         refine take_one 24 72 (v := ?_) rfl rfl (by kernel_rfl) (by kernel_rfl) (by kernel_rfl) (fun _ _ _ h=>h) (Or.inl ⟨by rfl,?_⟩) hHeld ?_
         rotate_left
         ·intro w' hSw;(try dsimp only at hSw);go_simp;try with_reducible rfl
         simp only [Act.put,List.setIfInBounds_toArray,List.set_cons_zero,List.set_cons_succ]
         refine wpAnyH_done (by kernel_rfl) ?_ _
         have hb5:Below W1.heap.size W1 wr.drew := hHeld.1
         clear hHeld hO2 hf d1 hbel2
         go_wp2
         go_roundw
         case rel=>exact ⟨1,by omega,by go_num,HN,hb5⟩
         case measure=>simp [intOf];omega
        ·obtain ⟨p,rfl⟩:∃ p,q=p + 1 := ⟨q - 1,by omega⟩
         obtain ⟨v,hLv,hfv⟩ := hLK p rfl
         rw [hLv] at hG
         have j0:(0:Int)≤(p:Int) := by omega
         have j1:(p:Int) < (ks.length:Int) := by omega
         have e1:((p + 1:Nat):Int)=(p:Int) + 1 := by omega
         rw [e1] at i0 i1
         have hwr:IntKind.i64.wrap (p:Int)=(p:Int) := by rw [IntKind.wrap_i64];omega
         have hg0:decide ((p:Int) + 1 > 0)=true := decide_eq_true (by omega)
         clear hT0 hLK
         by_cases hI:v < y
         ·have hI':decide (v ≥ y)=false := by simp;omega
          rw [decide_eq_true hI] at hG
          have HN:Hid (∀ j,j < p + 1 + 1→goodK ks j=true) := by
           intro j hj
           by_cases e:j=p + 1
           ·subst e;rw [hG];rfl
           ·exact hy.out j (by omega)
          clear hG
          go_wp2_with fail
          go_region_held3 (fun W=>Below W1.heap.size W1 W∧W.cell? ⟨w.heap.size,1,none⟩=some (.slice (some ⟨b2,o2,none⟩) ks.length cb)∧W.cell? ⟨b2,o2 + (p + 1),none⟩=some (.int .i64 y)∧W.cell? ⟨b2,o2 + p,none⟩=some (.int .i64 v))
           (first | exact ⟨hbel2.drew,by simpa using d1,by simpa using hf,by simpa using hfv⟩ | assumption)
           ((go_at_call 28;refine (hO2 _).mono ?_;rintro e w3 ⟨rfl,rfl⟩))
          all_goals
           go_wp2
           go_roundw
           case rel=>exact ⟨p + 1 + 1,by omega,by go_num,HN,hbel2.drew⟩
           case measure=>simp [intOf];omega
         ·have hI':decide (v ≥ y)=true := by simp;omega
          rw [decide_eq_false hI] at hG
          have hF:kKeys ks=false := kKeys_no hlt2 (by rw [hG];rfl)
          clear hG
          go_wp2_with fail
          go_region_held3 (fun W=>Below W1.heap.size W1 W∧W.cell? ⟨w.heap.size,1,none⟩=some (.slice (some ⟨b2,o2,none⟩) ks.length cb)∧W.cell? ⟨b2,o2 + (p + 1),none⟩=some (.int .i64 y)∧W.cell? ⟨b2,o2 + p,none⟩=some (.int .i64 v))
           (first | exact ⟨hbel2.drew,by simpa using d1,by simpa using hf,by simpa using hfv⟩ | assumption)
           ((go_at_call 28;refine (hO2 _).mono ?_;rintro e w3 ⟨rfl,rfl⟩))
          all_goals
           go_wp2
           go_ret
           exact ⟨by rw [HKO.out,hF];rfl,hb0.trans (hbel2.drew.mono hb0.size)⟩
      ·have hF:kKeys ks=true := kKeys_yes (fun j hj=>hy.out j (by omega))
       go_wp2
       go_ret
       exact ⟨by rw [HKO.out,hF];rfl,hb0.trans (hbel2.mono hb0.size)⟩
  ·have h2':decide ((ks.length:Int) > 40)=true := by simp;omega
   have hF2:kOk xs ks=false := by unfold kOk;rw [decide_eq_false h2];simp
   go_enter Tryz.func29,Tryz.ntmps29
   go_wp2
   go_ret
   exact ⟨by rw [hF2];rfl,hb0⟩
 ·have h1':decide ((xs.length:Int) > 60)=true := by simp;omega
  have hF2:kOk xs ks=false := by unfold kOk;rw [decide_eq_false h1];simp
  go_enter Tryz.func29,Tryz.ntmps29
  go_wp2
  go_ret
  exact ⟨by rw [hF2];rfl,hb0⟩
end Go.Proofs.YtjcmbbnklfemcaaGreat.Kn
