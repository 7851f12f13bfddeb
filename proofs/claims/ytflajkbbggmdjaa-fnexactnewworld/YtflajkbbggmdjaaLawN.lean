/- The law on NewWorld. -/
import Derived.Test.YtflajkbbggmdjaaMw2
set_option linter.unusedVariables false
set_option maxRecDepth 100000
namespace Go.Proofs.Ytflajkbbggmdjaa.Nd
open Go Go.RowKit Go.Joins Own Draw

theorem OwWd.later {B : Nat} {w w' : World} {x : TWd} (h : OwWd B w x) (hb : Below w.heap.size w w') : OwWd B w' x := ⟨h.1.later hb, own_later h.2.1 hb, own_later h.2.2 hb⟩
theorem ow_spn {B T B' : Nat} {w w' : World} {y : TF} (h : OwF B' w y) (hs : Spn B T w w') (hk : ∀ v ∈ cF y, ∀ k, v.ownBlock = some k → k < B ∨ T ≤ k) : OwF B' w' y :=
  ⟨own_spn h.1 hs (hk _ (by simp [cF])), own_spn h.2.1 hs (hk _ (by simp [cF])), own_spn h.2.2.1 hs (hk _ (by simp [cF])), own_spn h.2.2.2 hs (hk _ (by simp [cF]))⟩
theorem OwWd.spn {B T B' : Nat} {w w' : World} {x : TWd} (h : OwWd B' w x) (hs : Spn B T w w') (hk : ∀ v ∈ cWd x, ∀ k, v.ownBlock = some k → k < B ∨ T ≤ k) : OwWd B' w' x :=
  ⟨ow_spn h.1 hs (fun v hv => hk v (by simp only [cF, List.mem_cons, List.not_mem_nil, or_false] at hv; rcases hv with rfl | rfl | rfl | rfl | rfl <;> simp)), own_spn h.2.1 hs (hk _ (by simp)), own_spn h.2.2 hs (hk _ (by simp))⟩
theorem OwWd.chg {B' : Nat} {w w' : World} {x : TWd} {vs : List Value} (h : OwWd B' w x) (hc : Chg vs w w') (hk : ∀ v ∈ cWd x, ∀ c ∈ vs, Ap v c) : OwWd B' w' x :=
  ⟨⟨hc.own h.1.1 (hk _ (by simp)), hc.own h.1.2.1 (hk _ (by simp)), hc.own h.1.2.2.1 (hk _ (by simp)), hc.own h.1.2.2.2 (hk _ (by simp))⟩, hc.own h.2.1 (hk _ (by simp)), hc.own h.2.2 (hk _ (by simp))⟩
theorem wd_lt {B : Nat} {w : World} {x : TWd} (h : OwWd B w x) : ∀ v ∈ cWd x, ∀ k, v.ownBlock = some k → B ≤ k ∧ k < w.heap.size := by
  intro v hv k hk
  have h1 := ow_lt h.1
  have h2 := ow_low h.1
  simp only [List.mem_cons, List.not_mem_nil, or_false] at hv
  have nn : ∀ (n c k : Nat), ¬ (Value.slice none n c).ownBlock = some k := fun n c k e => by simp [Value.ownBlock] at e
  have ni : ∀ (z : Int) (k : Nat), ¬ (Value.int .i64 z).ownBlock = some k := fun z k e => by simp [Value.ownBlock] at e
  rcases hv with rfl | rfl | rfl | rfl | rfl | rfl | rfl | rfl | rfl | rfl | rfl | rfl | rfl | rfl | rfl | rfl
  · exact ⟨h2 _ (by simp [cF]) k hk, h1 _ (by simp [cF]) k hk⟩
  · exact ⟨h2 _ (by simp [cF]) k hk, h1 _ (by simp [cF]) k hk⟩
  · exact ⟨h2 _ (by simp [cF]) k hk, h1 _ (by simp [cF]) k hk⟩
  · exact ⟨h2 _ (by simp [cF]) k hk, h1 _ (by simp [cF]) k hk⟩
  · exact absurd hk (ni _ _)
  · exact absurd hk (ni _ _)
  · exact absurd hk (ni _ _)
  · exact absurd hk (nn _ _ _)
  · exact absurd hk (nn _ _ _)
  · exact absurd hk (nn _ _ _)
  · exact World.ownsRow.lt h.2.1 k hk
  · exact absurd hk (nn _ _ _)
  · exact World.ownsRow.lt h.2.2 k hk
  · exact absurd hk (nn _ _ _)
  · exact absurd hk (nn _ _ _)
  · exact absurd hk (nn _ _ _)
theorem nw_st {y d : TF} (h : stF y = stF d) : nwS y = nwS d := by unfold nwS; rw [conf_st h, h]
theorem nw_len {x : TWd} {c : TF} (h : stWd x = nwS c) (hl : totF c ≤ 1048576) : totF x.1 ≤ 1048576 ∧ x.2.2.1.2.2.length ≤ 6 ∧ x.2.2.2.2.2.length ≤ 3 := by
  unfold nwS stWd at h
  split at h
  · simp only [Prod.mk.injEq] at h
    obtain ⟨h1, _, h2, h3⟩ := h
    exact ⟨by rw [tot_st h1]; exact hl, by rw [h2]; simp, by rw [h3]; simp⟩
  · simp only [Prod.mk.injEq] at h
    obtain ⟨h1, _, h2, h3⟩ := h
    exact ⟨by rw [tot_st h1]; unfold totF rtI rtP; simp, by rw [h2]; simp, by rw [h3]; simp⟩
theorem eqOw_is {B B' : Nat} (x x' : TWd) (w : World) (h : OwWd B w x) (h' : OwWd B' w x') (hs : stWd x = stWd x') (hn : totF x.1 ≤ 1048576 ∧ x.2.2.1.2.2.length ≤ 6 ∧ x.2.2.2.2.2.length ≤ 3) :
    Calls Try.prog 20 #[vWd x, vWd x'] w fun en w' => en = .returned (.bool true) ∧ Below w.heap.size w w' :=
  eqWd_is x x' w h.1.dp h'.1.dp hs (FOwn.row lW h.2.1) (FOwn.row lW h'.2.1) (FOwn.row lC h.2.2) (FOwn.row lC h'.2.2) hn.1 hn.2.1 hn.2.2
theorem Blk.ltL {g : Nat} {x : TWd} {L : List Value} {W : World} (h : Blk g L W) (hL : Hid (cWd x = L)) : g < W.heap.size := by
  have e := hL.out
  subst e
  exact h.lt
theorem specNewL (c : TF) (B0 : Nat) (w : World) (hd : OwF B0 w c) (hl : totF c ≤ 1048576) : Calls Try.prog 18 #[vF c] w fun en w' => ∃ (x : TWd) (L : List Value), en = .returned (.tuple #[.agg L.toArray, .bool (confB (cfOf c))]) ∧ Hid (cWd x = L) ∧ stWd x = nwS c ∧ OwWd w.heap.size w' x ∧ Below w.heap.size w w' :=
  (specNew_is c B0 w hd hl).mono fun en w' ⟨x, h1, h2⟩ => ⟨x, cWd x, h1, rfl, h2⟩
theorem implNewL (c : TF) (B0 : Nat) (w : World) (hd : OwF B0 w c) (hl : totF c ≤ 1048576) : Calls Try.prog 19 #[vF c] w fun en w' => ∃ (x : TWd) (L : List Value), en = .returned (.tuple #[.agg L.toArray, .bool (confB (cfOf c))]) ∧ Hid (cWd x = L) ∧ stWd x = nwS c ∧ OwWd w.heap.size w' x ∧ ApWd x ∧ Below w.heap.size w w' :=
  (implNew_is c B0 w hd hl).mono fun en w' ⟨x, h1, h2⟩ => ⟨x, cWd x, h1, rfl, h2⟩
theorem eqL_is {B B' : Nat} (x x' : TWd) (L L' : List Value) (hL : Hid (cWd x = L)) (hL' : Hid (cWd x' = L')) (w : World) (h : OwWd B w x) (h' : OwWd B' w x') (hs : stWd x = stWd x') (hn : totF x.1 ≤ 1048576 ∧ x.2.2.1.2.2.length ≤ 6 ∧ x.2.2.2.2.2.length ≤ 3) :
    Calls Try.prog 20 #[.agg L.toArray, .agg L'.toArray] w fun en w' => en = .returned (.bool true) ∧ Below w.heap.size w w' := by
  rw [← hL.out, ← hL'.out]
  exact eqOw_is x x' w h h' hs hn
theorem markL_is (B : Nat) (x : TWd) (L : List Value) (hL : Hid (cWd x = L)) (w : World) (h : OwWd B w x) (ha : ApWd x) (hn : totF x.1 ≤ 1048576 ∧ x.2.2.1.2.2.length ≤ 6 ∧ x.2.2.2.2.2.length ≤ 3) :
    Calls Try.prog 21 #[.agg L.toArray, .int .i64 1] w fun en w' => en = .returned (.int .i64 ((kW x : Nat) : Int)) ∧ MkWd B w' x ∧ Chg (cWd x) w w' := by
  rw [← hL.out]
  exact markWd_is B x w h ha hn.1 hn.2.1 hn.2.2
theorem heldL_is (B : Nat) (x : TWd) (L : List Value) (hL : Hid (cWd x = L)) (w : World) (h : MkWd B w x) (hn : totF x.1 ≤ 1048576 ∧ x.2.2.1.2.2.length ≤ 6 ∧ x.2.2.2.2.2.length ≤ 3) :
    Calls Try.prog 22 #[.agg L.toArray, .int .i64 1] w fun en w' => en = .returned (.int .i64 ((kW x : Nat) : Int)) ∧ Below w.heap.size w w' := by
  rw [← hL.out]
  exact heldWd_is B x w h hn.1 hn.2.1 hn.2.2
theorem lenL {x : TWd} {L : List Value} (hL : Hid (cWd x = L)) : L.length = 16 := by rw [← hL.out]; rfl
theorem oneL {x : TWd} {L : List Value} (hL : Hid (cWd x = L)) : L.all (·.oneCell') = true := by rw [← hL.out]; rfl
theorem wanted_yes {ops : Array Oper} {tmps : Array Value} {o : Oper} {j d : Nat} {b : Bool} (hg : o.guard = some (j, b)) (hd : (ops[j]?).bind (·.dst) = some d) (ht : tmps[d]? = some (.bool b)) : Region.wanted o (yielded ops tmps) = true := by
  have hy : yielded ops tmps j = some b := by unfold yielded; rw [hd]; simp only [Option.bind_some, ht]
  unfold Region.wanted
  rw [hg]
  simp only [hy]
  simp
theorem wpList_ldG {P : Program} {ops : Array Oper} {rest : List Oper} {o : Oper} {a : Act} {w : World} {Q : Exit → Act → World → Prop} (ty : TypeId) (x : Operand) (g off : Nat) (us vs : List Value) (ie : TypeInfo) (hie : P.info? ty = some ie) (hagg : ∀ w, (isAgg ty).run P w = .ok true w) (h : Blk g us w) (hs : vs.length = ie.size) (hv : (us.drop off).take vs.length = vs) {j d : Nat} {b : Bool}
    (hg : o.guard = some (j, b)) (hd : (ops[j]?).bind (·.dst) = some d) (ht : a.tmps[d]? = some (.bool b)) (ho : o.op = .load ty x) (hx : a.eval x = .pointer (some ⟨g, off, none⟩))
    (hn : wpList P ops Q rest (a.put o.dst (.agg vs.toArray)) w) : wpList P ops Q (o :: rest) a w := by
  refine BigFrame.wpList_want (wanted_yes hg hd ht) fun K hK => ?_
  unfold Oper.wp execOp
  simp only [ho, hx, Instr.loadAt, Instr.sureAddr, Sem.run_bind, Sem.run_pure, Result.andThen_ok, ldB ty ie hie hagg vs h hs hv]
  exact hK _ _ hn
set_option maxRecDepth 100000 in
set_option maxHeartbeats 12800000 in
theorem law_new (d : TF) (w : World) (hd : DpF w d) (hlm : LmF d) :
    Calls Try.prog 5 #[vF d] w fun en w' => en = .returned (.bool true) ∧ Below w.heap.size w w' := by
  obtain ⟨ie, hie, his⟩ := info_F
  obtain ⟨iv, hiv, hivs⟩ := info_Wd
  obtain ⟨V, hV⟩ : ∃ V, w.alloc (.cells #[.slice d.1.1 d.1.2.2.length d.1.2.1, .slice d.2.1.1 d.2.1.2.2.length d.2.1.2.1, .slice d.2.2.1.1 d.2.2.1.2.2.length d.2.2.1.2.1, .slice d.2.2.2.1.1 d.2.2.2.1.2.2.length d.2.2.2.1.2.1, .int .i64 d.2.2.2.2] 25) = V := ⟨_, rfl⟩
  have TA : Blk w.heap.size [.slice d.1.1 d.1.2.2.length d.1.2.1, .slice d.2.1.1 d.2.1.2.2.length d.2.1.2.1, .slice d.2.2.1.1 d.2.2.1.2.2.length d.2.2.1.2.1, .slice d.2.2.2.1.1 d.2.2.2.1.2.2.length d.2.2.2.1.2.1, .int .i64 d.2.2.2.2] V := by rw [← hV]; exact Blk.new _ _ _
  have b0 : Below w.heap.size w V := by rw [← hV]; exact (Below.refl _ _).alloc (Nat.le_refl _) _
  go_enter Try.func5, Try.ntmps5
  have K := szF_is d 1048576 V (by omega) (hd.later b0) hlm
  have cA0 := TA.at 0 rfl
  have cA1 := TA.at 1 rfl
  have cA2 := TA.at 2 rfl
  have cA3 := TA.at 3 rfl
  have cA4 := TA.at 4 rfl
  go_wp2_with fail
  try rw [hV]
  refine K.mono ?_
  clear K hV
  clear cA0 cA1 cA2 cA3 cA4
  rintro en v1 ⟨rfl, hb⟩
  replace TA := TA.later hb TA.lt
  replace b0 := b0.trans (hb.mono b0.size)
  clear hb
  by_cases hz : totF d ≤ 1048576
  · rw [show szV (totF d) 1048576 = ((1048576 - totF d : Nat) : Int) from if_pos hz]
    have nz : ¬ (((1048576 - totF d : Nat) : Int) < 0) := by omega
    have K := toF_is d v1 (hd.later b0) hz
    have cA0 := TA.at 0 rfl
    have cA1 := TA.at 1 rfl
    have cA2 := TA.at 2 rfl
    have cA3 := TA.at 3 rfl
    have cA4 := TA.at 4 rfl
    go_wp2_with fail
    refine K.mono ?_
    clear K
    clear cA0 cA1 cA2 cA3 cA4
    rintro en v2 ⟨y1, rfl, s1, o1, hb⟩
    replace TA := TA.later hb TA.lt
    replace b0 := b0.trans (hb.mono b0.size)
    clear hb
    clear nz
    have K := specNewL y1 _ v2 o1 (by rw [tot_st s1]; exact hz)
    rw [conf_st s1, nw_st s1] at K
    go_wp2_with fail
    refine K.mono ?_
    clear K
    rintro en v3 ⟨x1, L1, rfl, H1, t1, so, hb⟩
    replace TA := TA.later hb TA.lt
    replace b0 := b0.trans (hb.mono b0.size)
    clear hb
    clear o1 s1
    obtain ⟨X4, hX0⟩ : ∃ X, v3.alloc (.cells #[.slice none 0 0, .slice none 0 0, .slice none 0 0, .slice none 0 0, .int .i64 0, .int .i64 0, .int .i64 0, .slice none 0 0, .slice none 0 0, .slice none 0 0, .slice none 0 0, .slice none 0 0, .slice none 0 0, .slice none 0 0, .slice none 0 0, .slice none 0 0] 53) = X := ⟨_, rfl⟩
    have R0 : Blk v3.heap.size [.slice none 0 0, .slice none 0 0, .slice none 0 0, .slice none 0 0, .int .i64 0, .int .i64 0, .int .i64 0, .slice none 0 0, .slice none 0 0, .slice none 0 0, .slice none 0 0, .slice none 0 0, .slice none 0 0, .slice none 0 0, .slice none 0 0, .slice none 0 0] X4 := by rw [← hX0]; exact Blk.new _ _ _
    have bb0 : Below v3.heap.size v3 X4 := by rw [← hX0]; exact (Below.refl _ _).alloc (Nat.le_refl _) _
    obtain ⟨Y4, hX1⟩ : ∃ X, X4.setCells v3.heap.size 0 L1 = X := ⟨_, rfl⟩
    have T4 : Blk v3.heap.size L1 Y4 := by rw [← hX1]; exact R0.sets _ (lenL H1).symm
    have hb : Below v3.heap.size v3 Y4 := by rw [← hX1]; exact below_sets (Nat.le_refl _) _ _ _ bb0
    clear bb0
    replace TA := TA.later hb TA.lt
    replace so := so.later hb
    replace b0 := b0.trans (hb.mono b0.size)
    clear hb
    have qT4 := Blk.ltL T4 H1
    have n1 := nw_len t1 hz
    have sl : ∀ v ∈ cWd x1, ∀ k, v.ownBlock = some k → k < Y4.heap.size := fun v hv k e => (wd_lt so v hv k e).2
    have hw2 := b0.size
    have qA := TA.lt
    have K := toF_is d Y4 (hd.later b0) hz
    have cA0 := TA.at 0 rfl
    have cA1 := TA.at 1 rfl
    have cA2 := TA.at 2 rfl
    have cA3 := TA.at 3 rfl
    have cA4 := TA.at 4 rfl
    go_wp2_with (first | (refine wpList_stB 53 _ _ v3.heap.size 0 _ L1 iv hiv R0 ((lenL H1).trans hivs.symm) (by rw [lenL H1]; simp) (oneL H1) rfl rfl rfl rfl ?_; rw [hX1]))
    clear R0 hX0 hX1
    refine K.mono ?_
    clear K
    clear cA0 cA1 cA2 cA3 cA4
    rintro en v4 ⟨y2, rfl, s2, o2, hb⟩
    have o2t := ow_lt o2
    have qB := hb.size
    replace TA := TA.later hb TA.lt
    replace T4 := T4.later hb (Blk.ltL T4 H1)
    replace so := so.later hb
    replace b0 := b0.trans (hb.mono b0.size)
    clear hb
    obtain ⟨X6, hX0⟩ : ∃ X, v4.alloc (.cells #[.slice none 0 0, .slice none 0 0, .slice none 0 0, .slice none 0 0, .int .i64 0] 30) = X := ⟨_, rfl⟩
    have R0 : Blk v4.heap.size [.slice none 0 0, .slice none 0 0, .slice none 0 0, .slice none 0 0, .int .i64 0] X6 := by rw [← hX0]; exact Blk.new _ _ _
    have bb0 : Below v4.heap.size v4 X6 := by rw [← hX0]; exact (Below.refl _ _).alloc (Nat.le_refl _) _
    obtain ⟨Y6, hX1⟩ : ∃ X, X6.setCells v4.heap.size 0 [.slice y2.1.1 y2.1.2.2.length y2.1.2.1, .slice y2.2.1.1 y2.2.1.2.2.length y2.2.1.2.1, .slice y2.2.2.1.1 y2.2.2.1.2.2.length y2.2.2.1.2.1, .slice y2.2.2.2.1.1 y2.2.2.2.1.2.2.length y2.2.2.2.1.2.1, .int .i64 y2.2.2.2.2] = X := ⟨_, rfl⟩
    have TX : Blk v4.heap.size [.slice y2.1.1 y2.1.2.2.length y2.1.2.1, .slice y2.2.1.1 y2.2.1.2.2.length y2.2.1.2.1, .slice y2.2.2.1.1 y2.2.2.1.2.2.length y2.2.2.1.2.1, .slice y2.2.2.2.1.1 y2.2.2.2.1.2.2.length y2.2.2.2.1.2.1, .int .i64 y2.2.2.2.2] Y6 := by rw [← hX1]; exact R0.sets _ rfl
    have hb : Below v4.heap.size v4 Y6 := by rw [← hX1]; exact below_sets (Nat.le_refl _) _ _ _ bb0
    clear bb0
    replace TA := TA.later hb TA.lt
    replace T4 := T4.later hb (Blk.ltL T4 H1)
    replace so := so.later hb
    replace o2 := o2.later hb
    replace b0 := b0.trans (hb.mono b0.size)
    clear hb
    have qTX := TX.lt
    have K := implNewL y2 _ Y6 o2 (by rw [tot_st s2]; exact hz)
    rw [conf_st s2, nw_st s2] at K
    have cX0 := TX.at 0 rfl
    have cX1 := TX.at 1 rfl
    have cX2 := TX.at 2 rfl
    have cX3 := TX.at 3 rfl
    have cX4 := TX.at 4 rfl
    go_wp2_with (first | (refine wpList_stB 30 _ _ v4.heap.size 0 _ [.slice y2.1.1 y2.1.2.2.length y2.1.2.1, .slice y2.2.1.1 y2.2.1.2.2.length y2.2.1.2.1, .slice y2.2.2.1.1 y2.2.2.1.2.2.length y2.2.2.1.2.1, .slice y2.2.2.2.1.1 y2.2.2.2.1.2.2.length y2.2.2.2.1.2.1, .int .i64 y2.2.2.2.2] ie hie R0 his.symm (by simp) rfl rfl rfl rfl rfl ?_; rw [hX1]))
    clear R0 hX0 hX1
    refine K.mono ?_
    clear K
    clear cX0 cX1 cX2 cX3 cX4
    rintro en v5 ⟨x2, L2, rfl, H2, t2, go, ag, hb⟩
    have qG := hb.size
    replace TA := TA.later hb TA.lt
    replace T4 := T4.later hb (Blk.ltL T4 H1)
    replace TX := TX.later hb TX.lt
    replace so := so.later hb
    replace o2 := o2.later hb
    replace b0 := b0.trans (hb.mono b0.size)
    clear hb
    have gl : ∀ v ∈ cWd x2, ∀ k, v.ownBlock = some k → Y6.heap.size ≤ k ∧ k < v5.heap.size := fun v hv k e => wd_lt go v hv k e
    have n2 := nw_len t2 hz
    obtain ⟨X7, hX0⟩ : ∃ X, v5.alloc (.cells #[.slice none 0 0, .slice none 0 0, .slice none 0 0, .slice none 0 0, .int .i64 0, .int .i64 0, .int .i64 0, .slice none 0 0, .slice none 0 0, .slice none 0 0, .slice none 0 0, .slice none 0 0, .slice none 0 0, .slice none 0 0, .slice none 0 0, .slice none 0 0] 53) = X := ⟨_, rfl⟩
    have R0 : Blk v5.heap.size [.slice none 0 0, .slice none 0 0, .slice none 0 0, .slice none 0 0, .int .i64 0, .int .i64 0, .int .i64 0, .slice none 0 0, .slice none 0 0, .slice none 0 0, .slice none 0 0, .slice none 0 0, .slice none 0 0, .slice none 0 0, .slice none 0 0, .slice none 0 0] X7 := by rw [← hX0]; exact Blk.new _ _ _
    have bb0 : Below v5.heap.size v5 X7 := by rw [← hX0]; exact (Below.refl _ _).alloc (Nat.le_refl _) _
    obtain ⟨Y7, hX1⟩ : ∃ X, X7.setCells v5.heap.size 0 L2 = X := ⟨_, rfl⟩
    have T7 : Blk v5.heap.size L2 Y7 := by rw [← hX1]; exact R0.sets _ (lenL H2).symm
    have hb : Below v5.heap.size v5 Y7 := by rw [← hX1]; exact below_sets (Nat.le_refl _) _ _ _ bb0
    clear bb0
    replace TA := TA.later hb TA.lt
    replace T4 := T4.later hb (Blk.ltL T4 H1)
    replace TX := TX.later hb TX.lt
    replace so := so.later hb
    replace o2 := o2.later hb
    replace go := go.later hb
    replace b0 := b0.trans (hb.mono b0.size)
    clear hb
    have qT7 := Blk.ltL T7 H2
    obtain ⟨cb, hcb⟩ : ∃ cb, confB (cfOf d) = cb := ⟨_, rfl⟩
    have HCB : Hid (confB (cfOf d) = cb) := hcb
    rw [hcb]
    clear hcb
    have K := eqL_is x2 x1 L2 L1 H2 H1 Y7 go so (t2.trans t1.symm) n2
    go_wp2_with (first | (refine wpList_stB 53 _ _ v5.heap.size 0 _ L2 iv hiv R0 ((lenL H2).trans hivs.symm) (by rw [lenL H2]; simp) (oneL H2) rfl rfl rfl rfl ?_; rw [hX1]) | (refine wpList_ldB 53 _ v5.heap.size 0 _ L2 iv hiv (Try.isAgg53) T7 ((lenL H2).trans hivs.symm) (by simp) rfl rfl rfl ?_) | (refine wpList_ldB 53 _ v3.heap.size 0 _ L1 iv hiv (Try.isAgg53) T4 ((lenL H1).trans hivs.symm) (by simp) rfl rfl rfl ?_))
    clear R0 hX0 hX1
    refine K.mono ?_
    clear K
    rintro en v6 ⟨rfl, hb⟩
    replace TA := TA.later hb TA.lt
    replace T4 := T4.later hb (Blk.ltL T4 H1)
    replace TX := TX.later hb TX.lt
    replace T7 := T7.later hb (Blk.ltL T7 H2)
    replace so := so.later hb
    replace o2 := o2.later hb
    replace go := go.later hb
    replace b0 := b0.trans (hb.mono b0.size)
    clear hb
    have bD : Below w.heap.size w v6.drew := b0.drew
    have lA : w.heap.size < v6.drew.heap.size := TA.lt
    have lX : v4.heap.size < v6.drew.heap.size := TX.lt
    go_wp2_with fail
    refine wp_region_held_drew (S := (fun U : World => Blk w.heap.size [.slice d.1.1 d.1.2.2.length d.1.2.1, .slice d.2.1.1 d.2.1.2.2.length d.2.1.2.1, .slice d.2.2.1.1 d.2.2.1.2.2.length d.2.2.1.2.1, .slice d.2.2.2.1.1 d.2.2.2.1.2.2.length d.2.2.2.1.2.1, .int .i64 d.2.2.2.2] U ∧ Blk v4.heap.size [.slice y2.1.1 y2.1.2.2.length y2.1.2.1, .slice y2.2.1.1 y2.2.1.2.2.length y2.2.1.2.1, .slice y2.2.2.1.1 y2.2.2.1.2.2.length y2.2.2.1.2.1, .slice y2.2.2.2.1.1 y2.2.2.2.1.2.2.length y2.2.2.2.1.2.1, .int .i64 y2.2.2.2.2] U)) (by kernel_rfl) ⟨TA.drew, TX.drew⟩ (fun hHeld => ?_)
    refine take_one 0 41 (v := .agg #[.slice y2.1.1 y2.1.2.2.length y2.1.2.1, .slice y2.2.1.1 y2.2.1.2.2.length y2.2.1.2.1, .slice y2.2.2.1.1 y2.2.2.1.2.2.length y2.2.2.1.2.1, .slice y2.2.2.2.1.1 y2.2.2.2.1.2.2.length y2.2.2.2.1.2.1, .int .i64 y2.2.2.2.2]) rfl rfl (by kernel_rfl) (by kernel_rfl) (by kernel_rfl) (fun _ _ _ h => h) (Or.inl ⟨by rfl, ?_⟩) hHeld ?_
    · intro w' hSw; (try dsimp only at hSw); obtain ⟨bA, bX⟩ := hSw; have c0 := bX.at 0 rfl; have c1 := bX.at 1 rfl; have c2 := bX.at 2 rfl; have c3 := bX.at 3 rfl; have c4 := bX.at 4 rfl; go_simp; try with_reducible rfl
    try simp only [Act.put, List.setIfInBounds_toArray, List.set_cons_zero, List.set_cons_succ]
    refine take_one 1 42 (v := .agg #[.slice d.1.1 d.1.2.2.length d.1.2.1, .slice d.2.1.1 d.2.1.2.2.length d.2.1.2.1, .slice d.2.2.1.1 d.2.2.1.2.2.length d.2.2.1.2.1, .slice d.2.2.2.1.1 d.2.2.2.1.2.2.length d.2.2.2.1.2.1, .int .i64 d.2.2.2.2]) rfl rfl (by kernel_rfl) (by kernel_rfl) (by kernel_rfl) (fun _ _ _ h => h) (Or.inl ⟨by rfl, ?_⟩) hHeld ?_
    · intro w' hSw; (try dsimp only at hSw); obtain ⟨bA, bX⟩ := hSw; have c0 := bA.at 0 rfl; have c1 := bA.at 1 rfl; have c2 := bA.at 2 rfl; have c3 := bA.at 3 rfl; have c4 := bA.at 4 rfl; go_simp; try with_reducible rfl
    try simp only [Act.put, List.setIfInBounds_toArray, List.set_cons_zero, List.set_cons_succ]
    have K5 := toF_is d v6.drew (hd.later bD) hz
    refine wpAnyH_ready (rs := [2]) (by kernel_rfl) (by simp) ?_
    refine AllReadyH.cons (i := 2) rfl (fun K hK => ?_) AllReadyH.nil
    go_simp
    refine K5.mono ?_
    rintro en u5 ⟨y3, rfl, s3, o3, hb5⟩
    clear K5
    go_wp2_with fail
    refine hK.out _ _ ⟨TA.drew.later hb5 lA, TX.drew.later hb5 lX⟩ (fun hHeld2 => ?_)
    clear hK K hHeld
    have hHeld := hHeld2
    clear hHeld2
    try simp only [Act.put, List.setIfInBounds_toArray, List.set_cons_zero, List.set_cons_succ]
    refine wpAnyH_ready (rs := [3]) (by kernel_rfl) (by simp) ?_
    refine AllReadyH.cons (i := 3) rfl (fun K hK => ?_) AllReadyH.nil
    go_simp
    refine (eqF_is y2 y3 u5 ((o2.later (Below.refl _ v6).drew).later hb5).dp o3.dp (s2.trans s3.symm) (by rw [tot_st s2]; exact hz)).mono ?_
    rintro en u6 ⟨rfl, hb6⟩
    go_wp2_with fail
    refine hK.out _ _ ⟨TA.drew.later (hb5.trans (hb6.mono hb5.size)) lA, TX.drew.later (hb5.trans (hb6.mono hb5.size)) lX⟩ (fun hHeld2 => ?_)
    clear hK K hHeld
    have hHeld := hHeld2
    clear hHeld2
    try simp only [Act.put, List.setIfInBounds_toArray, List.set_cons_zero, List.set_cons_succ]
    refine take_one 4 45 (v := ?_) rfl rfl (by kernel_rfl) (by kernel_rfl) (by kernel_rfl) (fun _ _ _ h => h) (Or.inl ⟨by rfl, ?_⟩) hHeld ?_
    rotate_left
    · intro w' hSw; (try dsimp only at hSw); go_simp; try with_reducible rfl
    try simp only [Act.put, List.setIfInBounds_toArray, List.set_cons_zero, List.set_cons_succ]
    refine wpAnyH_done (by kernel_rfl) ?_ _
    have hb : Below v6.heap.size v6 u6 := (Below.refl _ v6).drew.trans (hb5.trans (hb6.mono hb5.size))
    clear hHeld hb5 hb6 o3 s3 lA lX bD
    replace TA := TA.later hb TA.lt
    replace T4 := T4.later hb (Blk.ltL T4 H1)
    replace TX := TX.later hb TX.lt
    replace T7 := T7.later hb (Blk.ltL T7 H2)
    replace so := so.later hb
    replace o2 := o2.later hb
    replace go := go.later hb
    replace b0 := b0.trans (hb.mono b0.size)
    clear hb
    have K := markF_is Y4.heap.size v4.heap.size y2 u6 o2 (Or.inr o2t) (by rw [tot_st s2]; exact hz)
    have cX0 := TX.at 0 rfl
    have cX1 := TX.at 1 rfl
    have cX2 := TX.at 2 rfl
    have cX3 := TX.at 3 rfl
    have cX4 := TX.at 4 rfl
    go_wp2_with fail
    refine K.mono ?_
    clear K
    clear cX0 cX1 cX2 cX3 cX4
    rintro en v7 ⟨⟨k1, rfl, hk1, hk2⟩, SP⟩
    replace so := so.spn SP (fun v hv k e => Or.inl (sl v hv k e))
    replace go := go.spn SP (fun v hv k e => Or.inr (by have := (gl v hv k e).1; omega))
    have SB := SP.below (n := Y4.heap.size) (Nat.le_refl _) (by have := TX.lt; omega)
    replace TA := TA.lower SB (by omega)
    replace T4 := T4.lower SB (by omega)
    replace T7 := Blk.spn T7 SP (Blk.ltL T7 H2) (Or.inr (by omega))
    replace b0 := b0.trans (SP.below hw2 b0.size)
    clear SP SB o2 TX
    have nk : ¬ ((k1 : Int) < 0) := by omega
    have K := eqL_is x2 x1 L2 L1 H2 H1 v7 go so (t2.trans t1.symm) n2
    go_wp2_with (first | (refine wpList_ldG 53 _ v5.heap.size 0 _ L2 iv hiv (Try.isAgg53) T7 ((lenL H2).trans hivs.symm) (by simp) rfl rfl rfl rfl rfl ?_) | (refine wpList_ldG 53 _ v3.heap.size 0 _ L1 iv hiv (Try.isAgg53) T4 ((lenL H1).trans hivs.symm) (by simp) rfl rfl rfl rfl rfl ?_))
    refine K.mono ?_
    clear K
    rintro en v8 ⟨rfl, hb⟩
    replace TA := TA.later hb TA.lt
    replace T4 := T4.later hb (Blk.ltL T4 H1)
    replace T7 := T7.later hb (Blk.ltL T7 H2)
    replace so := so.later hb
    replace go := go.later hb
    replace b0 := b0.trans (hb.mono b0.size)
    clear hb
    clear nk
    have K := markL_is _ x2 L2 H2 v8 go ag n2
    go_wp2_with (first | (refine wpList_ldB 53 _ v5.heap.size 0 _ L2 iv hiv (Try.isAgg53) T7 ((lenL H2).trans hivs.symm) (by simp) rfl rfl rfl ?_))
    refine K.mono ?_
    clear K
    rintro en v9 ⟨rfl, mo, hc⟩
    replace so := so.chg hc (fun v hv c hcc k h1 h2 => by have := sl v hv k h1; have := (gl c hcc k h2).1; omega)
    replace TA := hc.blk TA TA.lt (fun c hcc e => by have := gl c hcc _ e; omega)
    replace T4 := hc.blk T4 (Blk.ltL T4 H1) (fun c hcc e => by have := gl c hcc _ e; omega)
    replace T7 := hc.blk T7 (Blk.ltL T7 H2) (fun c hcc e => by have := gl c hcc _ e; omega)
    replace b0 := hc.below b0 b0.size (fun c hcc k e => by have := (gl c hcc k e).1; omega)
    clear hc go
    have K := heldL_is _ x2 L2 H2 v9 mo n2
    go_wp2_with (first | (refine wpList_ldB 53 _ v5.heap.size 0 _ L2 iv hiv (Try.isAgg53) T7 ((lenL H2).trans hivs.symm) (by simp) rfl rfl rfl ?_))
    refine K.mono ?_
    clear K
    rintro en v10 ⟨rfl, hb⟩
    replace TA := TA.later hb TA.lt
    replace T4 := T4.later hb (Blk.ltL T4 H1)
    replace T7 := T7.later hb (Blk.ltL T7 H2)
    replace so := so.later hb
    replace mo := mo.later hb
    replace b0 := b0.trans (hb.mono b0.size)
    clear hb
    have hn : ¬ (((kW x2 : Nat) : Int) < 0) := by omega
    have K := toF_is d v10 (hd.later b0) hz
    have cA0 := TA.at 0 rfl
    have cA1 := TA.at 1 rfl
    have cA2 := TA.at 2 rfl
    have cA3 := TA.at 3 rfl
    have cA4 := TA.at 4 rfl
    go_wp2_with fail
    refine K.mono ?_
    clear K
    clear cA0 cA1 cA2 cA3 cA4
    rintro en v11 ⟨y4, rfl, s4, o4, hb⟩
    replace TA := TA.later hb TA.lt
    replace T4 := T4.later hb (Blk.ltL T4 H1)
    replace T7 := T7.later hb (Blk.ltL T7 H2)
    replace so := so.later hb
    replace mo := mo.later hb
    replace b0 := b0.trans (hb.mono b0.size)
    clear hb
    have K := implNewL y4 _ v11 o4 (by rw [tot_st s4]; exact hz)
    rw [conf_st s4, nw_st s4, HCB.out] at K
    go_wp2_with fail
    refine K.mono ?_
    clear K
    rintro en v12 ⟨x4, L4, rfl, H4, t4, ho, ah, hb⟩
    replace TA := TA.later hb TA.lt
    replace T4 := T4.later hb (Blk.ltL T4 H1)
    replace T7 := T7.later hb (Blk.ltL T7 H2)
    replace so := so.later hb
    replace mo := mo.later hb
    replace b0 := b0.trans (hb.mono b0.size)
    clear hb
    clear o4 s4 ah
    have n4 := nw_len t4 hz
    obtain ⟨X12, hX0⟩ : ∃ X, v12.alloc (.cells #[.slice none 0 0, .slice none 0 0, .slice none 0 0, .slice none 0 0, .int .i64 0, .int .i64 0, .int .i64 0, .slice none 0 0, .slice none 0 0, .slice none 0 0, .slice none 0 0, .slice none 0 0, .slice none 0 0, .slice none 0 0, .slice none 0 0, .slice none 0 0] 53) = X := ⟨_, rfl⟩
    have R0 : Blk v12.heap.size [.slice none 0 0, .slice none 0 0, .slice none 0 0, .slice none 0 0, .int .i64 0, .int .i64 0, .int .i64 0, .slice none 0 0, .slice none 0 0, .slice none 0 0, .slice none 0 0, .slice none 0 0, .slice none 0 0, .slice none 0 0, .slice none 0 0, .slice none 0 0] X12 := by rw [← hX0]; exact Blk.new _ _ _
    have bb0 : Below v12.heap.size v12 X12 := by rw [← hX0]; exact (Below.refl _ _).alloc (Nat.le_refl _) _
    obtain ⟨Y12, hX1⟩ : ∃ X, X12.setCells v12.heap.size 0 L4 = X := ⟨_, rfl⟩
    have T12 : Blk v12.heap.size L4 Y12 := by rw [← hX1]; exact R0.sets _ (lenL H4).symm
    have hb : Below v12.heap.size v12 Y12 := by rw [← hX1]; exact below_sets (Nat.le_refl _) _ _ _ bb0
    clear bb0
    replace TA := TA.later hb TA.lt
    replace T4 := T4.later hb (Blk.ltL T4 H1)
    replace T7 := T7.later hb (Blk.ltL T7 H2)
    replace so := so.later hb
    replace mo := mo.later hb
    replace ho := ho.later hb
    replace b0 := b0.trans (hb.mono b0.size)
    clear hb
    have qT12 := Blk.ltL T12 H4
    have K := eqL_is x4 x1 L4 L1 H4 H1 Y12 ho so (t4.trans t1.symm) n4
    go_wp2_with (first | (refine wpList_stB 53 _ _ v12.heap.size 0 _ L4 iv hiv R0 ((lenL H4).trans hivs.symm) (by rw [lenL H4]; simp) (oneL H4) rfl rfl rfl rfl ?_; rw [hX1]) | (refine wpList_ldB 53 _ v12.heap.size 0 _ L4 iv hiv (Try.isAgg53) T12 ((lenL H4).trans hivs.symm) (by simp) rfl rfl rfl ?_) | (refine wpList_ldB 53 _ v3.heap.size 0 _ L1 iv hiv (Try.isAgg53) T4 ((lenL H1).trans hivs.symm) (by simp) rfl rfl rfl ?_))
    clear R0 hX0 hX1
    refine K.mono ?_
    clear K
    rintro en v13 ⟨rfl, hb⟩
    replace TA := TA.later hb TA.lt
    replace T4 := T4.later hb (Blk.ltL T4 H1)
    replace T7 := T7.later hb (Blk.ltL T7 H2)
    replace T12 := T12.later hb (Blk.ltL T12 H4)
    replace so := so.later hb
    replace mo := mo.later hb
    replace ho := ho.later hb
    replace b0 := b0.trans (hb.mono b0.size)
    clear hb
    have K := heldL_is _ x2 L2 H2 v13 mo n2
    go_wp2_with (first | (refine wpList_ldB 53 _ v5.heap.size 0 _ L2 iv hiv (Try.isAgg53) T7 ((lenL H2).trans hivs.symm) (by simp) rfl rfl rfl ?_))
    refine K.mono ?_
    clear K
    rintro en v14 ⟨rfl, hb⟩
    replace TA := TA.later hb TA.lt
    replace T4 := T4.later hb (Blk.ltL T4 H1)
    replace T7 := T7.later hb (Blk.ltL T7 H2)
    replace T12 := T12.later hb (Blk.ltL T12 H4)
    replace so := so.later hb
    replace mo := mo.later hb
    replace ho := ho.later hb
    replace b0 := b0.trans (hb.mono b0.size)
    clear hb
    go_wp2
    go_ret
    exact ⟨rfl, b0⟩
  · rw [show szV (totF d) 1048576 = -1 from if_neg hz]
    go_wp2
    go_ret
    exact ⟨rfl, b0⟩
end Go.Proofs.Ytflajkbbggmdjaa.Nd
