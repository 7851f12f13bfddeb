/- Is what is known right: the model's two loops. -/
import Derived.Test.YtlmpfkbgknbcnaaGreatAb
import Derived.Test.YtlmpfkbgknbcnaaGreatCr1
import Derived.BigQuiet
set_option linter.unusedVariables false
namespace Go.Proofs.YtlmpfkbgknbcnaaGreat.Kn
open Go.RowKit Own Var Term
theorem unwanted {ops : Array Oper} {tmps : Array Value} {o : Oper} {j d : Nat} {b c : Bool} (hg : o.guard = some (j,b)) (hd : (ops[j]?).bind (·.dst) = some d) (ht : tmps[d]? = some (.bool c)) (hc : (c == b) = false) : Region.wanted o (yielded ops tmps) = false:=by
 have hy : yielded ops tmps j = some c:=by unfold yielded; rw [hd]; simp only [Option.bind_some,ht]
 unfold Region.wanted
 rw [hg]
 simp only [hy]
 simpa using hc
theorem unwanted_undef {ops : Array Oper} {tmps : Array Value} {o : Oper} {j d : Nat} {b : Bool} (hg : o.guard = some (j,b)) (hd : (ops[j]?).bind (·.dst) = some d) (ht : tmps[d]? = some undef) : Region.wanted o (yielded ops tmps) = false:=by
 have hy : yielded ops tmps j = none:=by unfold yielded; rw [hd]; simp only [Option.bind_some,ht]; rfl
 unfold Region.wanted
 rw [hg]
 simp only [hy]
 rfl
/-- An operation of a drawn region that yields its value wherever S holds is taken first. -/
theorem take_one {P : Program} {ops : Array Oper} {Q : Exit → Act → World → Prop} {md : Region.Mode} {S : World → Prop} (i d : Nat) {oi : Oper} {v : Value} {fuel : Nat} {listed : Array Bool} {a : Act} {w : World} (hi : ops[i]? = some oi) (hd : oi.dst = some d)
  (hs : Region.noSelect ops = true) (hf : Region.free md ops listed i = true) (hr : (Region.ready md ops listed).contains i = true) (hQ : ∀ c a w,Q (.panic c) (a.put (some d) v) w → Q (.panic c) a w)
  (hy : YieldsIf P ops S oi v a) (hS : S w) (h : wpAnyH P md ops Q S fuel (listed.setIfInBounds i true) (a.put (some d) v) w) : wpAnyH P md ops Q S (fuel + 1) listed a w :=
 wpAnyH_take hi hs hf hr (by rw [hd]; exact hQ) hy hS (by rw [hd]; exact h)
/-- An operation of a drawn region that its guard passes over is taken first. -/
theorem skip_one {P : Program} {ops : Array Oper} {Q : Exit → Act → World → Prop} {md : Region.Mode} {S : World → Prop} (i d : Nat) {oi : Oper} {fuel : Nat} {listed : Array Bool} {a : Act} {w : World} (hi : ops[i]? = some oi) (hd : oi.dst = some d)
  (hs : Region.noSelect ops = true) (hf : Region.free md ops listed i = true) (hr : (Region.ready md ops listed).contains i = true) (hQ : ∀ c a w,Q (.panic c) (a.put (some d) undef) w → Q (.panic c) a w)
  (hw : Region.wanted oi (yielded ops a.tmps) = false) (hS : S w) (h : wpAnyH P md ops Q S fuel (listed.setIfInBounds i true) (a.put (some d) undef) w) : wpAnyH P md ops Q S (fuel + 1) listed a w :=
 take_one i d hi hd hs hf hr hQ (Or.inr ⟨hw,rfl⟩) hS h
theorem pa {α : Type} (l : List α) (i : Nat) (v : α) : l.toArray.setIfInBounds i v = (l.set i v).toArray:=List.setIfInBounds_toArray _ _ _
theorem pb {α : Type} (x y : α) (l : List α) : (x :: l).set 0 y = y :: l:=List.set_cons_zero
theorem pc {α : Type} (x y : α) (l : List α) (i : Nat) : (x :: l).set (i + 1) y = x :: l.set i y:=List.set_cons_succ
theorem tk {P : Program} {ops : Array Oper} {Q : Exit → Act → World → Prop} {md : Region.Mode} {S : World → Prop} (i d : Nat) {oi : Oper} {fuel : Nat} {listed : Array Bool} {a : Act} {w : World} (hi : ops[i]? = some oi) (v : Value) (hS : S w)
  (hy : ∀ w,S w → (execOp a.eval oi).run P w = .ok (.value v) w) (h : wpAnyH P md ops Q S fuel (listed.setIfInBounds i true) (a.put (some d) v) w)
  (hd : oi.dst = some d:=by rfl) (hb : (Region.noSelect ops && (Region.free md ops listed i && (Region.ready md ops listed).contains i)) = true:=by kernel_rfl)
  (hQ : ∀ c a w,Q (.panic c) (a.put (some d) v) w → Q (.panic c) a w:=by exact fun _ _ _ h => h) (hw : Region.wanted oi (yielded ops a.tmps) = true:=by rfl) : wpAnyH P md ops Q S (fuel + 1) listed a w:=by
 simp only [Bool.and_eq_true] at hb
 exact take_one i d hi hd hb.1 hb.2.1 hb.2.2 hQ (Or.inl ⟨hw,hy⟩) hS h
theorem sk {P : Program} {ops : Array Oper} {Q : Exit → Act → World → Prop} {md : Region.Mode} {S : World → Prop} (i d : Nat) {oi : Oper} {fuel : Nat} {listed : Array Bool} {a : Act} {w : World} (hi : ops[i]? = some oi) (hS : S w) (hw : Region.wanted oi (yielded ops a.tmps) = false)
  (h : wpAnyH P md ops Q S fuel (listed.setIfInBounds i true) (a.put (some d) undef) w)
  (hd : oi.dst = some d:=by rfl) (hb : (Region.noSelect ops && (Region.free md ops listed i && (Region.ready md ops listed).contains i)) = true:=by kernel_rfl)
  (hQ : ∀ c a w,Q (.panic c) (a.put (some d) undef) w → Q (.panic c) a w:=by exact fun _ _ _ h => h) : wpAnyH P md ops Q S (fuel + 1) listed a w:=by
 simp only [Bool.and_eq_true] at hb
 exact skip_one i d hi hd hb.1 hb.2.1 hb.2.2 hQ hw hS h
set_option maxRecDepth 100000 in
set_option maxHeartbeats 6400000 in
theorem spec_knownOk (a b : Option Addr) (ca cb : Nat) (xs : List ByteArray) (ks : List Int) (w : World) (hr : RowAt Value.string w a xs) (hq : RowAt (Value.int .i64) w b ks)
  (hl : xs.length ≤ 1048576) (hl2 : ks.length ≤ 1048576) (hcap : xs.length ≤ ca) (hs : ∀ x ∈ xs,x.size ≤ 1048576) :
  Calls Tryz.prog 23 #[.agg #[.slice a xs.length ca,.slice b ks.length cb]] w fun e w' => e = .returned (.bool (kOk xs ks)) ∧ Below w.heap.size w w':=by
 have hb0 : Below w.heap.size w (w.alloc (.cells #[.slice a xs.length ca,.slice b ks.length cb] 41)):=(Below.refl _ _).alloc (Nat.le_refl _) _
 by_cases h1 : xs.length ≤ 60
 ·have h1' : decide ((xs.length : Int) > 60) = false:=by simp; omega
  by_cases h2 : ks.length ≤ 40
  ·have h2' : decide ((ks.length : Int) > 40) = false:=by simp; omega
   obtain ⟨W1,hW1⟩ : ∃ W1,w.alloc (.cells #[.slice a xs.length ca,.slice b ks.length cb] 41) = W1:=⟨_,rfl⟩
   have hc0 : W1.cell? ⟨w.heap.size,0,none⟩ = some (.slice a xs.length ca):=by rw [← hW1]; simp [go_sem]
   have hc1 : W1.cell? ⟨w.heap.size,1,none⟩ = some (.slice b ks.length cb):=by rw [← hW1]; simp [go_sem]
   have hz1 : W1.heap.size = w.heap.size + 1:=by rw [← hW1]; simp
   rw [hW1] at hb0
   have hr1:=hr.later hb0
   have hq1:=hq.later hb0
   go_enter Tryz.func23,Tryz.ntmps23
   go_wp2
   try rw [hW1]
   go_loopw [3] (fun i wr => ∃ k : Nat,k ≤ xs.length ∧ i = I k ∧ Hid (∀ j,j < k → goodT xs j = true) ∧ Below W1.heap.size W1 wr) (fun i _ => xs.length - (intOf i).toNat)
   case atStart => exact ⟨0,by omega,rfl,fun j hj => absurd hj (by omega),Below.refl _ _⟩
   case round =>
    obtain ⟨k,hk,rfl,hx,hbel⟩:=hrel
    have d0 : wr.cell? ⟨w.heap.size,0,none⟩ = some (.slice a xs.length ca):=(hbel.cell (p:=⟨w.heap.size,0,none⟩) (by show w.heap.size < _; omega)).trans hc0
    have d1 : wr.cell? ⟨w.heap.size,1,none⟩ = some (.slice b ks.length cb):=(hbel.cell (p:=⟨w.heap.size,1,none⟩) (by show w.heap.size < _; omega)).trans hc1
    by_cases hlt : k < xs.length
    ·obtain ⟨b1,o1,rfl,l1,he⟩:=hr1 k hlt
     rw [← hbel.cell (p:=⟨b1,o1 + k,none⟩) l1] at he
     have hG:=goodT_at hlt
     have hz:=hs _ (List.getElem_mem hlt)
     have htk : (xs.take k).length = k:=by rw [List.length_take]; omega
     have hC:=fun w' (hb : Below W1.heap.size W1 w') => l3In_is (some ⟨b1,o1,none⟩) ca (xs.take k) xs[k] w' (RowAt.take (hr1.later hb) k) (by omega)
     rw [htk] at hC
     generalize xs[k] = y at he hG hz hC
     have hO:=fun w' => spec_ok y w' (by omega)
     cases hT : isT y with
     | false =>
      rw [hT] at hG hO
      have hF : kTerms xs = false:=kTerms_no hlt (by rw [hG]; rfl)
      have hF2 : kOk xs ks = false:=by unfold kOk; rw [hF]; simp
      clear hG hT hC hF
      go_wp2_with fail
      refine wp_region_held_drew (S:=(fun W => Below W1.heap.size W1 W ∧ W.cell? ⟨w.heap.size,0,none⟩ = some (.slice (some ⟨b1,o1,none⟩) xs.length ca) ∧ W.cell? ⟨b1,o1 + k,none⟩ = some (.string y))) (by kernel_rfl) ⟨hbel.drew,by simpa using d0,by simpa using he⟩ (fun hHeld => ?_)
      refine tk 0 22 rfl _ hHeld (by intro w' h; (try dsimp only at h); go_simp; try with_reducible rfl) ?_
      try simp only [Act.put,pa,pb,pc]
      refine tk 1 23 rfl _ hHeld (by intro w' h; (try dsimp only at h); go_simp; try with_reducible rfl) ?_
      try simp only [Act.put,pa,pb,pc]
      refine tk 2 24 rfl _ hHeld (by intro w' h; (try dsimp only at h); go_simp; try with_reducible rfl) ?_
      try simp only [Act.put,pa,pb,pc]
      refine tk 3 25 rfl _ hHeld (by intro w' h; (try dsimp only at h); go_simp; try with_reducible rfl) ?_
      try simp only [Act.put,pa,pb,pc]
      refine tk 4 26 rfl _ hHeld (by intro w' h; (try dsimp only at h); go_simp; try with_reducible rfl) ?_
      try simp only [Act.put,pa,pb,pc]
      refine wpAnyH_ready (rs:=[5]) (by kernel_rfl) (by simp) ?_
      refine AllReadyH.cons (i:=5) rfl (fun K hK => ?_) AllReadyH.nil
      go_simp
      refine (hO _).mono ?_
      rintro e w3 ⟨rfl,hb3⟩
      go_wp2_with fail
      refine hK.out _ _ ⟨hbel.drew.trans (hb3.mono hbel.size),(hb3.cell (p:=⟨w.heap.size,0,none⟩) (by have:=hbel.size; show w.heap.size < wr.heap.size; omega)).trans (by simpa using d0),(hb3.cell (p:=⟨b1,o1 + k,none⟩) (by have:=hbel.size; show b1 < wr.heap.size; omega)).trans (by simpa using he)⟩ (fun hHeld2 => ?_)
      clear hK K hHeld
      have hHeld:=hHeld2
      clear hHeld2
      try simp only [Act.put,pa,pb,pc]
      refine tk 6 28 rfl _ hHeld (by intro w' h; (try dsimp only at h); go_simp; try with_reducible rfl) ?_
      try simp only [Act.put,pa,pb,pc]
      refine tk 7 29 rfl _ hHeld (by intro w' h; (try dsimp only at h); go_simp; try with_reducible rfl) ?_
      try simp only [Act.put,pa,pb,pc]
      refine sk 8 30 rfl hHeld (unwanted (c:=true) rfl rfl (by simp) rfl) ?_
      try simp only [Act.put,pa,pb,pc]
      refine sk 9 31 rfl hHeld (unwanted (c:=true) rfl rfl (by simp) rfl) ?_
      try simp only [Act.put,pa,pb,pc]
      refine sk 10 32 rfl hHeld (unwanted (c:=true) rfl rfl (by simp) rfl) ?_
      try simp only [Act.put,pa,pb,pc]
      refine sk 11 33 rfl hHeld (unwanted (c:=true) rfl rfl (by simp) rfl) ?_
      try simp only [Act.put,pa,pb,pc]
      refine sk 12 34 rfl hHeld (unwanted (c:=true) rfl rfl (by simp) rfl) ?_
      try simp only [Act.put,pa,pb,pc]
      refine sk 13 35 rfl hHeld (unwanted (c:=true) rfl rfl (by simp) rfl) ?_
      try simp only [Act.put,pa,pb,pc]
      refine sk 14 36 rfl hHeld (unwanted (c:=true) rfl rfl (by simp) rfl) ?_
      try simp only [Act.put,pa,pb,pc]
      refine sk 15 37 rfl hHeld (unwanted (c:=true) rfl rfl (by simp) rfl) ?_
      try simp only [Act.put,pa,pb,pc]
      refine sk 16 38 rfl hHeld (unwanted (c:=true) rfl rfl (by simp) rfl) ?_
      try simp only [Act.put,pa,pb,pc]
      refine sk 17 39 rfl hHeld (unwanted (c:=true) rfl rfl (by simp) rfl) ?_
      try simp only [Act.put,pa,pb,pc]
      refine tk 18 40 rfl _ hHeld (by intro w' h; (try dsimp only at h); go_simp; try with_reducible rfl) ?_
      try simp only [Act.put,pa,pb,pc]
      refine wpAnyH_done (by kernel_rfl) ?_ _
      have hb4 : Below W1.heap.size W1 w3:=hHeld.1
      clear hHeld hO hb3 hbel d0 d1 he
      go_wp2
      go_ret
      exact ⟨by rw [hF2]; rfl,hb0.trans (hb4.mono hb0.size)⟩
     | true =>
      rw [hT] at hG hO
      clear hT
      have i0 : (0 : Int) ≤ (k : Int):=by omega
      have i1 : (k : Int) < (xs.length : Int):=by omega
      have i2 : (k : Int) ≤ (ca : Int):=by omega
      cases hI : inB (xs.take k) y with
      | true =>
       rw [hI] at hG
       simp only [hI] at hC
       have hF : kTerms xs = false:=kTerms_no hlt (by rw [hG]; rfl)
       have hF2 : kOk xs ks = false:=by unfold kOk; rw [hF]; simp
       clear hG hI hF
       go_wp2_with fail
       go_region_held3 (fun W => Below W1.heap.size W1 W ∧ W.cell? ⟨w.heap.size,0,none⟩ = some (.slice (some ⟨b1,o1,none⟩) xs.length ca) ∧ W.cell? ⟨b1,o1 + k,none⟩ = some (.string y))
        (first | exact ⟨hbel.drew,by simpa using d0,by simpa using he⟩ | exact hS1)
        ((first
         | (go_at_call 24; refine (hO _).mono ?_; rintro e w3 ⟨rfl,hb3⟩; have hS1 : Below W1.heap.size W1 w3 ∧ w3.cell? ⟨w.heap.size,0,none⟩ = some (.slice (some ⟨b1,o1,none⟩) xs.length ca) ∧ w3.cell? ⟨b1,o1 + k,none⟩ = some (.string y):=⟨hbel.drew.trans (hb3.mono hbel.size),(hb3.cell (p:=⟨w.heap.size,0,none⟩) (by have:=hbel.size; show w.heap.size < wr.heap.size; omega)).trans (by simpa using d0),(hb3.cell (p:=⟨b1,o1 + k,none⟩) (by have:=hbel.size; show b1 < wr.heap.size; omega)).trans (by simpa using he)⟩)
         | (go_at_call 64; refine (hC _ hS1.1).mono ?_; rintro e w4 ⟨rfl,rfl⟩)))
       all_goals
        have hb4:=hS1.1
        go_wp2
        go_ret
        exact ⟨by first | rfl | (rw [hF2]; rfl),hb0.trans (hb4.mono hb0.size)⟩
      | false =>
       rw [hI] at hG
       simp only [hI] at hC
       have HN : Hid (∀ j,j < k + 1 → goodT xs j = true):=by
        intro j hj
        by_cases e : j = k
        ·subst e; rw [hG]; rfl
        ·exact hx.out j (by omega)
       clear hG hI
       go_wp2_with fail
       go_region_held3 (fun W => Below W1.heap.size W1 W ∧ W.cell? ⟨w.heap.size,0,none⟩ = some (.slice (some ⟨b1,o1,none⟩) xs.length ca) ∧ W.cell? ⟨b1,o1 + k,none⟩ = some (.string y))
        (first | exact ⟨hbel.drew,by simpa using d0,by simpa using he⟩ | exact hS1)
        ((first
         | (go_at_call 24; refine (hO _).mono ?_; rintro e w3 ⟨rfl,hb3⟩; have hS1 : Below W1.heap.size W1 w3 ∧ w3.cell? ⟨w.heap.size,0,none⟩ = some (.slice (some ⟨b1,o1,none⟩) xs.length ca) ∧ w3.cell? ⟨b1,o1 + k,none⟩ = some (.string y):=⟨hbel.drew.trans (hb3.mono hbel.size),(hb3.cell (p:=⟨w.heap.size,0,none⟩) (by have:=hbel.size; show w.heap.size < wr.heap.size; omega)).trans (by simpa using d0),(hb3.cell (p:=⟨b1,o1 + k,none⟩) (by have:=hbel.size; show b1 < wr.heap.size; omega)).trans (by simpa using he)⟩)
         | (go_at_call 64; refine (hC _ hS1.1).mono ?_; rintro e w4 ⟨rfl,rfl⟩)))
       all_goals
        have hb4:=hS1.1
        go_wp2
        go_roundw
        case rel => exact ⟨k + 1,by omega,by go_num,HN,hb4⟩
        case measure => simp [intOf]; omega
    ·have hTT : kTerms xs = true:=kTerms_yes (fun j hj => hx.out j (by omega))
     have HKO : Hid (kOk xs ks = kKeys ks):=by show kOk xs ks = kKeys ks; unfold kOk; rw [hTT,decide_eq_true h1,decide_eq_true h2]; simp
     clear hx hTT
     go_wp2
     go_loopw [4] (fun i wr => ∃ q : Nat,q ≤ ks.length ∧ i = I q ∧ Hid (∀ j,j < q → goodK ks j = true) ∧ Below W1.heap.size W1 wr) (fun i _ => ks.length - (intOf i).toNat)
     case atStart => exact ⟨0,by omega,rfl,fun j hj => absurd hj (by omega),hbel⟩
     case round =>
      clear d0 d1
      obtain ⟨q,hqk,rfl,hy,hbel2⟩:=hrel
      have d1 : wr.cell? ⟨w.heap.size,1,none⟩ = some (.slice b ks.length cb):=(hbel2.cell (p:=⟨w.heap.size,1,none⟩) (by show w.heap.size < _; omega)).trans hc1
      by_cases hlt2 : q < ks.length
      ·obtain ⟨b2,o2,rfl,l2,hf⟩:=hq1 q hlt2
       rw [← hbel2.cell (p:=⟨b2,o2 + q,none⟩) l2] at hf
       have hG:=goodK_at hlt2
       have hO2:=fun w' => in_is ks[q] 1 1000000 w'
       have i0 : (0 : Int) ≤ (q : Int):=by omega
       have i1 : (q : Int) < (ks.length : Int):=by omega
       have hLK : ∀ p,q = p + 1 → ∃ v,lastK ks q = v ∧ wr.cell? ⟨b2,o2 + p,none⟩ = some (I v):=by
        rintro p rfl
        obtain ⟨b3,o3,e3,l3,hf3⟩:=hq1 p (by omega)
        simp only [Option.some.injEq,Addr.mk.injEq] at e3
        obtain ⟨rfl,rfl,_⟩:=e3
        rw [← hbel2.cell (p:=⟨b2,o2 + p,none⟩) l3] at hf3
        refine ⟨_,rfl,?_⟩
        rw [hf3]
        unfold lastK
        rw [if_neg (by omega),Nat.add_sub_cancel,getD_at (by omega)]
       generalize ks[q] = y at hf hG hO2
       cases hT : (decide (1 ≤ y) && decide (y ≤ 1000000)) with
       | false =>
        rw [hT] at hG hO2
        have hF : kKeys ks = false:=kKeys_no hlt2 (by rw [hG]; rfl)
        clear hG hT hLK
        go_wp2_with fail
        refine wp_region_held_drew (S:=(fun W => Below W1.heap.size W1 W ∧ W.cell? ⟨w.heap.size,1,none⟩ = some (.slice (some ⟨b2,o2,none⟩) ks.length cb) ∧ W.cell? ⟨b2,o2 + q,none⟩ = some (I y))) (by kernel_rfl) ⟨hbel2.drew,by simpa using d1,by simpa using hf⟩ (fun hHeld => ?_)
        refine tk 0 48 rfl _ hHeld (by intro w' h; (try dsimp only at h); go_simp; try with_reducible rfl) ?_
        simp only [Act.put,List.setIfInBounds_toArray,List.set_cons_zero,List.set_cons_succ]
        refine tk 1 49 rfl _ hHeld (by intro w' h; (try dsimp only at h); go_simp; try with_reducible rfl) ?_
        simp only [Act.put,List.setIfInBounds_toArray,List.set_cons_zero,List.set_cons_succ]
        refine tk 2 50 rfl _ hHeld (by intro w' h; (try dsimp only at h); go_simp; try with_reducible rfl) ?_
        simp only [Act.put,List.setIfInBounds_toArray,List.set_cons_zero,List.set_cons_succ]
        refine tk 3 51 rfl _ hHeld (by intro w' h; (try dsimp only at h); go_simp; try with_reducible rfl) ?_
        simp only [Act.put,List.setIfInBounds_toArray,List.set_cons_zero,List.set_cons_succ]
        refine tk 4 52 rfl _ hHeld (by intro w' h; (try dsimp only at h); go_simp; try with_reducible rfl) ?_
        simp only [Act.put,List.setIfInBounds_toArray,List.set_cons_zero,List.set_cons_succ]
        refine wpAnyH_ready (rs:=[5]) (by kernel_rfl) (by simp) ?_
        refine AllReadyH.cons (i:=5) rfl (fun K hK => ?_) AllReadyH.nil
        go_simp
        refine (hO2 _).mono ?_
        rintro e w3 ⟨rfl,rfl⟩
        go_wp2_with fail
        refine hK.out _ _ hHeld (fun hHeld2 => ?_)
        clear hK K hHeld2
        try simp only [Act.put,pa,pb,pc]
        refine tk 6 54 rfl _ hHeld (by intro w' h; (try dsimp only at h); go_simp; try with_reducible rfl) ?_
        simp only [Act.put,List.setIfInBounds_toArray,List.set_cons_zero,List.set_cons_succ]
        refine tk 7 55 rfl _ hHeld (by intro w' h; (try dsimp only at h); go_simp; try with_reducible rfl) ?_
        simp only [Act.put,List.setIfInBounds_toArray,List.set_cons_zero,List.set_cons_succ]
        refine sk 8 56 rfl hHeld (unwanted (c:=true) rfl rfl (by simp) rfl) ?_
        try simp only [Act.put,pa,pb,pc]
        refine sk 9 57 rfl hHeld (unwanted (c:=true) rfl rfl (by simp) rfl) ?_
        try simp only [Act.put,pa,pb,pc]
        refine sk 10 58 rfl hHeld (unwanted (c:=true) rfl rfl (by simp) rfl) ?_
        try simp only [Act.put,pa,pb,pc]
        refine sk 11 59 rfl hHeld (unwanted_undef rfl rfl (by simp)) ?_
        try simp only [Act.put,pa,pb,pc]
        refine sk 12 60 rfl hHeld (unwanted_undef rfl rfl (by simp)) ?_
        try simp only [Act.put,pa,pb,pc]
        refine sk 13 61 rfl hHeld (unwanted_undef rfl rfl (by simp)) ?_
        try simp only [Act.put,pa,pb,pc]
        refine sk 14 62 rfl hHeld (unwanted_undef rfl rfl (by simp)) ?_
        try simp only [Act.put,pa,pb,pc]
        refine sk 15 63 rfl hHeld (unwanted_undef rfl rfl (by simp)) ?_
        try simp only [Act.put,pa,pb,pc]
        refine sk 16 64 rfl hHeld (unwanted_undef rfl rfl (by simp)) ?_
        try simp only [Act.put,pa,pb,pc]
        refine sk 17 65 rfl hHeld (unwanted_undef rfl rfl (by simp)) ?_
        try simp only [Act.put,pa,pb,pc]
        refine sk 18 66 rfl hHeld (unwanted_undef rfl rfl (by simp)) ?_
        try simp only [Act.put,pa,pb,pc]
        refine sk 19 67 rfl hHeld (unwanted_undef rfl rfl (by simp)) ?_
        try simp only [Act.put,pa,pb,pc]
        refine sk 20 68 rfl hHeld (unwanted_undef rfl rfl (by simp)) ?_
        try simp only [Act.put,pa,pb,pc]
        refine sk 21 69 rfl hHeld (unwanted_undef rfl rfl (by simp)) ?_
        try simp only [Act.put,pa,pb,pc]
        refine sk 22 70 rfl hHeld (unwanted_undef rfl rfl (by simp)) ?_
        try simp only [Act.put,pa,pb,pc]
        refine sk 23 71 rfl hHeld (unwanted (c:=true) rfl rfl (by simp) rfl) ?_
        try simp only [Act.put,pa,pb,pc]
        refine tk 24 72 rfl _ hHeld (by intro w' h; (try dsimp only at h); go_simp; try with_reducible rfl) ?_
        simp only [Act.put,List.setIfInBounds_toArray,List.set_cons_zero,List.set_cons_succ]
        refine wpAnyH_done (by kernel_rfl) ?_ _
        have hb5 : Below W1.heap.size W1 wr.drew:=hHeld.1
        clear hHeld hO2 hf d1 hbel2
        go_wp2
        go_ret
        exact ⟨by rw [HKO.out,hF]; rfl,hb0.trans (hb5.mono hb0.size)⟩
       | true =>
        rw [hT] at hG hO2
        have hT0:=hT
        clear hT
        by_cases hq0 : q = 0
        ·subst hq0
         have HN : Hid (∀ j,j < 0 + 1 → goodK ks j = true):=by
          intro j hj
          obtain rfl : j = 0:=by omega
          rw [hG]
          have h1y : 1 ≤ y:=by simp at hT0; exact hT0.1
          simp [lastK]
          omega
         clear hG hLK
         go_wp2_with fail
         refine wp_region_held_drew (S:=(fun W => Below W1.heap.size W1 W ∧ W.cell? ⟨w.heap.size,1,none⟩ = some (.slice (some ⟨b2,o2,none⟩) ks.length cb) ∧ W.cell? ⟨b2,o2,none⟩ = some (I y))) (by kernel_rfl) ⟨hbel2.drew,by simpa using d1,by simpa using hf⟩ (fun hHeld => ?_)
         refine tk 0 48 rfl _ hHeld (by intro w' h; (try dsimp only at h); go_simp; try with_reducible rfl) ?_
         simp only [Act.put,List.setIfInBounds_toArray,List.set_cons_zero,List.set_cons_succ]
         refine tk 1 49 rfl _ hHeld (by intro w' h; (try dsimp only at h); go_simp; try with_reducible rfl) ?_
         simp only [Act.put,List.setIfInBounds_toArray,List.set_cons_zero,List.set_cons_succ]
         refine tk 2 50 rfl _ hHeld (by intro w' h; (try dsimp only at h); go_simp; try with_reducible rfl) ?_
         simp only [Act.put,List.setIfInBounds_toArray,List.set_cons_zero,List.set_cons_succ]
         refine tk 3 51 rfl _ hHeld (by intro w' h; (try dsimp only at h); go_simp; try with_reducible rfl) ?_
         simp only [Act.put,List.setIfInBounds_toArray,List.set_cons_zero,List.set_cons_succ]
         refine tk 4 52 rfl _ hHeld (by intro w' h; (try dsimp only at h); go_simp; try with_reducible rfl) ?_
         simp only [Act.put,List.setIfInBounds_toArray,List.set_cons_zero,List.set_cons_succ]
         refine wpAnyH_ready (rs:=[5]) (by kernel_rfl) (by simp) ?_
         refine AllReadyH.cons (i:=5) rfl (fun K hK => ?_) AllReadyH.nil
         go_simp
         refine (hO2 _).mono ?_
         rintro e w3 ⟨rfl,rfl⟩
         go_wp2_with fail
         refine hK.out _ _ hHeld (fun hHeld2 => ?_)
         clear hK K hHeld2
         try simp only [Act.put,pa,pb,pc]
         refine tk 6 54 rfl _ hHeld (by intro w' h; (try dsimp only at h); go_simp; try with_reducible rfl) ?_
         simp only [Act.put,List.setIfInBounds_toArray,List.set_cons_zero,List.set_cons_succ]
         refine tk 7 55 rfl _ hHeld (by intro w' h; (try dsimp only at h); go_simp; try with_reducible rfl) ?_
         simp only [Act.put,List.setIfInBounds_toArray,List.set_cons_zero,List.set_cons_succ]
         refine tk 8 56 rfl _ hHeld (by intro w' h; (try dsimp only at h); go_simp; try with_reducible rfl) ?_
         simp only [Act.put,List.setIfInBounds_toArray,List.set_cons_zero,List.set_cons_succ]
         refine tk 9 57 rfl _ hHeld (by intro w' h; (try dsimp only at h); go_simp; try with_reducible rfl) ?_
         simp only [Act.put,List.setIfInBounds_toArray,List.set_cons_zero,List.set_cons_succ]
         refine tk 10 58 rfl _ hHeld (by intro w' h; (try dsimp only at h); go_simp; try with_reducible rfl) ?_
         simp only [Act.put,List.setIfInBounds_toArray,List.set_cons_zero,List.set_cons_succ]
         refine sk 11 59 rfl hHeld (unwanted (c:=false) rfl rfl (by simp) rfl) ?_
         try simp only [Act.put,pa,pb,pc]
         refine sk 12 60 rfl hHeld (unwanted (c:=false) rfl rfl (by simp) rfl) ?_
         try simp only [Act.put,pa,pb,pc]
         refine sk 13 61 rfl hHeld (unwanted (c:=false) rfl rfl (by simp) rfl) ?_
         try simp only [Act.put,pa,pb,pc]
         refine sk 14 62 rfl hHeld (unwanted (c:=false) rfl rfl (by simp) rfl) ?_
         try simp only [Act.put,pa,pb,pc]
         refine sk 15 63 rfl hHeld (unwanted (c:=false) rfl rfl (by simp) rfl) ?_
         try simp only [Act.put,pa,pb,pc]
         refine sk 16 64 rfl hHeld (unwanted (c:=false) rfl rfl (by simp) rfl) ?_
         try simp only [Act.put,pa,pb,pc]
         refine sk 17 65 rfl hHeld (unwanted (c:=false) rfl rfl (by simp) rfl) ?_
         try simp only [Act.put,pa,pb,pc]
         refine sk 18 66 rfl hHeld (unwanted (c:=false) rfl rfl (by simp) rfl) ?_
         try simp only [Act.put,pa,pb,pc]
         refine sk 19 67 rfl hHeld (unwanted (c:=false) rfl rfl (by simp) rfl) ?_
         try simp only [Act.put,pa,pb,pc]
         refine sk 20 68 rfl hHeld (unwanted (c:=false) rfl rfl (by simp) rfl) ?_
         try simp only [Act.put,pa,pb,pc]
         refine sk 21 69 rfl hHeld (unwanted (c:=false) rfl rfl (by simp) rfl) ?_
         try simp only [Act.put,pa,pb,pc]
         refine sk 22 70 rfl hHeld (unwanted (c:=false) rfl rfl (by simp) rfl) ?_
         try simp only [Act.put,pa,pb,pc]
         refine tk 23 71 rfl _ hHeld (by intro w' h; (try dsimp only at h); go_simp; try with_reducible rfl) ?_
         simp only [Act.put,List.setIfInBounds_toArray,List.set_cons_zero,List.set_cons_succ]
         refine tk 24 72 rfl _ hHeld (by intro w' h; (try dsimp only at h); go_simp; try with_reducible rfl) ?_
         simp only [Act.put,List.setIfInBounds_toArray,List.set_cons_zero,List.set_cons_succ]
         refine wpAnyH_done (by kernel_rfl) ?_ _
         have hb5 : Below W1.heap.size W1 wr.drew:=hHeld.1
         clear hHeld hO2 hf d1 hbel2
         go_wp2
         go_roundw
         case rel => exact ⟨1,by omega,by go_num,HN,hb5⟩
         case measure => simp [intOf]; omega
        ·obtain ⟨p,rfl⟩ : ∃ p,q = p + 1:=⟨q - 1,by omega⟩
         obtain ⟨v,hLv,hfv⟩:=hLK p rfl
         rw [hLv] at hG
         have j0 : (0 : Int) ≤ (p : Int):=by omega
         have j1 : (p : Int) < (ks.length : Int):=by omega
         have e1 : ((p + 1 : Nat) : Int) = (p : Int) + 1:=by omega
         rw [e1] at i0 i1
         have hwr : IntKind.i64.wrap (p : Int) = (p : Int):=by rw [IntKind.wrap_i64]; omega
         have hg0 : decide ((p : Int) + 1 > 0) = true:=decide_eq_true (by omega)
         clear hT0 hLK
         by_cases hI : v < y
         ·have hI' : decide (v ≥ y) = false:=by simp; omega
          rw [decide_eq_true hI] at hG
          have HN : Hid (∀ j,j < p + 1 + 1 → goodK ks j = true):=by
           intro j hj
           by_cases e : j = p + 1
           ·subst e; rw [hG]; rfl
           ·exact hy.out j (by omega)
          clear hG
          go_wp2_with fail
          go_region_held3 (fun W => Below W1.heap.size W1 W ∧ W.cell? ⟨w.heap.size,1,none⟩ = some (.slice (some ⟨b2,o2,none⟩) ks.length cb) ∧ W.cell? ⟨b2,o2 + (p + 1),none⟩ = some (I y) ∧ W.cell? ⟨b2,o2 + p,none⟩ = some (I v))
           (first | exact ⟨hbel2.drew,by simpa using d1,by simpa using hf,by simpa using hfv⟩ | assumption)
           ((go_at_call 22; refine (hO2 _).mono ?_; rintro e w3 ⟨rfl,rfl⟩))
          all_goals
           go_wp2
           go_roundw
           case rel => exact ⟨p + 1 + 1,by omega,by go_num,HN,hbel2.drew⟩
           case measure => simp [intOf]; omega
         ·have hI' : decide (v ≥ y) = true:=by simp; omega
          rw [decide_eq_false hI] at hG
          have hF : kKeys ks = false:=kKeys_no hlt2 (by rw [hG]; rfl)
          clear hG
          go_wp2_with fail
          go_region_held3 (fun W => Below W1.heap.size W1 W ∧ W.cell? ⟨w.heap.size,1,none⟩ = some (.slice (some ⟨b2,o2,none⟩) ks.length cb) ∧ W.cell? ⟨b2,o2 + (p + 1),none⟩ = some (I y) ∧ W.cell? ⟨b2,o2 + p,none⟩ = some (I v))
           (first | exact ⟨hbel2.drew,by simpa using d1,by simpa using hf,by simpa using hfv⟩ | assumption)
           ((go_at_call 22; refine (hO2 _).mono ?_; rintro e w3 ⟨rfl,rfl⟩))
          all_goals
           go_wp2
           go_ret
           exact ⟨by rw [HKO.out,hF]; rfl,hb0.trans (hbel2.drew.mono hb0.size)⟩
      ·have hF : kKeys ks = true:=kKeys_yes (fun j hj => hy.out j (by omega))
       go_wp2
       go_ret
       exact ⟨by rw [HKO.out,hF]; rfl,hb0.trans (hbel2.mono hb0.size)⟩
  ·have h2' : decide ((ks.length : Int) > 40) = true:=by simp; omega
   have hF2 : kOk xs ks = false:=by unfold kOk; rw [decide_eq_false h2]; simp
   go_enter Tryz.func23,Tryz.ntmps23
   go_wp2
   go_ret
   exact ⟨by rw [hF2]; rfl,hb0⟩
 ·have h1' : decide ((xs.length : Int) > 60) = true:=by simp; omega
  have hF2 : kOk xs ks = false:=by unfold kOk; rw [decide_eq_false h1]; simp
  go_enter Tryz.func23,Tryz.ntmps23
  go_wp2
  go_ret
  exact ⟨by rw [hF2]; rfl,hb0⟩
end Go.Proofs.YtlmpfkbgknbcnaaGreat.Kn
