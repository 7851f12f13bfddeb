/- TabKeep of the program. -/
import Derived.Test.YtkfjpgkpmdbnoaaKe0
import Derived.Test.YtkfjpgkpmdbnoaaWr0
import Derived.Test.YtkfjpgkpmdbnoaaIt0
import Derived.LoopIn
set_option linter.unusedVariables false
set_option maxRecDepth 100000
namespace Go.Proofs.Ytkfjpgkpmdbnoaa
attribute [local go_sem] Oper.semAt_some
open Go Go.RowKit Go.Joins Go.Shelf Own Draw

/-- What ranges over functions have left to be done: nothing, each. -/
def dM (D : Nat) : Deferred := { target := .collected D, args := #[] }
structure DsOk (B : Nat) (ns : List Nat) (w : World) : Prop where
  nd : ns.Nodup
  at_ : ∀ D ∈ ns, B ≤ D ∧ w.heap[D]? = some (.deferred (some []))
theorem DsOk.later {B : Nat} {ns : List Nat} {w w' : World} (h : DsOk B ns w) (hb : Below w.heap.size w w') : DsOk B ns w' :=
  ⟨h.nd, fun D hD => ⟨(h.at_ D hD).1, (hb.block D (Array.getElem?_eq_some_iff.1 (h.at_ D hD).2).1).trans (h.at_ D hD).2⟩⟩
theorem DsOk.ks {B : Nat} {ns : List Nat} {s : Nat → Prop} {w w' : World} (h : DsOk B ns w) (hk : KS s w w') (hs : ∀ k, s k → ∃ o : Obj, w.heap[k]? = some o ∧ o.isCells = true) : DsOk B ns w' :=
  ⟨h.nd, fun D hD => ⟨(h.at_ D hD).1, hk.obj (h.at_ D hD).2 (fun c => by
    obtain ⟨o, ho, hoc⟩ := hs D c
    rw [(h.at_ D hD).2] at ho
    injection ho with ho
    subst ho
    cases hoc)⟩⟩
theorem DsOk.lt {B : Nat} {ns : List Nat} {w : World} (h : DsOk B ns w) : ∀ D ∈ ns, D < w.heap.size := fun D hD => (Array.getElem?_eq_some_iff.1 (h.at_ D hD).2).1
theorem DsOk.cons {B D n : Nat} {ns : List Nat} {w : World} (h : DsOk B ns w) (hn : ∀ E ∈ ns, E < n) (hD : n ≤ D) (hB : B ≤ D) (hd : w.heap[D]? = some (.deferred (some []))) : DsOk B (D :: ns) w :=
  ⟨List.nodup_cons.2 ⟨fun c => by have := hn D c; omega, h.nd⟩, fun E hE => by
    rcases List.mem_cons.1 hE with rfl | hE
    · exact ⟨hB, hd⟩
    · exact h.at_ E hE⟩
/-- At its end a function whose answer lies in slots does what is left: nothing. -/
theorem leaves_all {F : Fence} {n : Nat} {P : Program} {fn : Func} {tmps : Array Value} {R : Ending → World → Prop} {B : Nat} {v : Value} {w0 : World} (hres : ∀ w, (results fn tmps).run P w = .ok v w) (Q : World → Prop) (hQ : ∀ w D, B ≤ D → (∃ o : Obj, w.heap[D]? = some o ∧ o.isCells = false) → Q w → Q (w.putObj D (.deferred none))) (hR : ∀ w, Below B w0 w → Q w → R (.returned v) w) :
    ∀ (ns : List Nat) (w : World), DsOk B ns w → Below B w0 w → Q w → LeavesInM F n P fn tmps R (ns.map dM) .returning w
  | [], w, _, hb, hq => ⟨v, hres w, hR w hb hq⟩
  | D :: ns, w, h, hb, hq => by
    obtain ⟨hBD, hd⟩ := h.at_ D (List.mem_cons_self ..)
    have hnd := List.nodup_cons.1 h.nd
    refine ⟨by simp, .inl ⟨D, _, rfl, run_takeDeferred hd, leaves_all hres Q hQ hR ns _ ⟨hnd.2, fun E hE => ?_⟩ ?_ (hQ _ _ hBD ⟨_, hd, rfl⟩ hq)⟩⟩
    · obtain ⟨h1, h2⟩ := h.at_ E (List.mem_cons_of_mem _ hE)
      refine ⟨h1, ?_⟩
      have hg := grownBy_putObj' w D (.deferred none)
      exact (hg.block E (Array.getElem?_eq_some_iff.1 h2).1 (fun e => by injection e with e; subst e; exact hnd.1 hE)).trans h2
    · have hg := grownBy_putObj' w D (.deferred none)
      exact ⟨hg.os.trans hb.os, hg.tape.trans hb.tape, hg.output.trans hb.output, Nat.le_trans hb.size hg.size, fun k hk => (hg.block k (Nat.lt_of_lt_of_le hk (by have := (Array.getElem?_eq_some_iff.1 hd).1; omega)) (fun e => by injection e with e; omega)).trans (hb.block k hk)⟩
theorem cells_obj {w : World} {g i : Nat} {v : Value} (h : w.cell? ⟨g, i, none⟩ = some v) : ∃ o : Obj, w.heap[g]? = some o ∧ o.isCells = true := by
  have hl : g < w.heap.size := World.block_lt_of_cell? _ _ h
  refine ⟨w.heap[g], Array.getElem?_eq_getElem hl, ?_⟩
  unfold World.cell? at h
  rw [Array.getElem?_eq_getElem hl] at h
  cases ho : w.heap[g] with
  | cells => rfl
  | _ => rw [ho] at h; simp at h
theorem own_keptO {w w' : World} {B e s n : Nat} {v : Value} {xs : List Value} {r : Option Nat} (h : w.ownsRow B e s v n xs) (hg : w.grownBy w' r) (hq : ∀ k, r = some k → ∃ o : Obj, w.heap[k]? = some o ∧ o.isCells = false) : w'.ownsRow B e s v n xs := by
  refine World.ownsRow.kept h hg ?_
  rcases h.2 with ⟨rfl, _⟩ | ⟨g, cap, cur, rfl, _, hg2, _⟩
  · exact Or.inl rfl
  · right
    intro e
    obtain ⟨o, ho, hoc⟩ := hq g e.symm
    rw [hg2] at ho
    injection ho with ho
    subst ho
    cases hoc
/-- What is kept so far, in the row behind block kb; how many are left, in block lb. -/
def KeI (kb lb : Nat) (ks : List TS) (m : Int) (X : World) : Prop := ∃ (ka : Option Addr) (kc : Nat), Blk kb [.slice ka ks.length kc] X ∧ FOwn 31 3 cS (kb + 1) ka kc ks X ∧ (∀ k, (Value.slice ka ks.length kc).ownBlock = some k → k ≠ lb) ∧ Blk lb [.int .i64 m] X
theorem KeI.keptO {kb lb : Nat} {ks : List TS} {m : Int} {X Y : World} {r : Option Nat} (h : KeI kb lb ks m X) (hg : X.grownBy Y r) (hq : ∀ k, r = some k → ∃ o : Obj, X.heap[k]? = some o ∧ o.isCells = false) : KeI kb lb ks m Y := by
  obtain ⟨ka, kc, h1, h2, h3, h4⟩ := h
  exact ⟨ka, kc, h1.keptO hg hq, own_keptO h2 hg hq, h3, h4.keptO hg hq⟩
/-- The state of the loop over the holders. -/
def LpK (w : World) (a : Option Addr) (cap : Nat) (xs : List TS) (n : Int) (kb : Nat) (act : Act) (W : World) : Prop :=
  ∃ (j : Nat) (ns : List Nat) (u6 u7 u8 u13 u14 u15 u16 u17 u18 u19 u20 u21 u22 u23 u24 u25 u26 u27 u28 : Value) (ka : Option Addr) (kc : Nat), act = { tmps := #[.slice a xs.length cap, .int .i64 n, undef, undef, .slice none 0 0, .pointer (some ⟨kb, 0, none⟩), u6, u7, u8, .slice a xs.length cap, .bool true, .bool false, .int .i64 (j : Int), u13, u14, u15, u16, u17, u18, u19, u20, u21, u22, u23, u24, u25, u26, u27, u28], defers := ns.map dM } ∧ j ≤ 100 ∧ Blk kb [.slice ka (keL xs n j).length kc] W ∧ FOwn 31 3 cS (kb + 1) ka kc (keL xs n j) W ∧ DsOk w.heap.size ns W ∧ Below w.heap.size w W
/-- What came of the rounds of one holder. -/
def KeR (s : Nat → Prop) (W2 : World) (kb lb : Nat) (K : List TS) (n : Int) (pre : List TS) (X : World) : Prop := (pre = [] ∨ (pre.length : Int) ≤ n) ∧ KeI kb lb (pre.foldl puT K) (n - pre.length) X ∧ KS s W2 X
set_option maxHeartbeats 12800000 in
theorem implKeep_is (B cap : Nat) (a : Option Addr) (xs : List TS) (n : Int) (w : World) (ho : FOwn 31 3 cS B a cap xs w) (hl : xs.length ≤ 1048576) (hn64 : i64 n) :
    Calls Try.prog 20 #[.slice a xs.length cap, .int .i64 n] w fun e w' => ∃ (ra : Option Addr) (rc : Nat), e = .returned (.slice ra (keT xs n).length rc) ∧ FOwn 31 3 cS w.heap.size ra rc (keT xs n) w' ∧ Below w.heap.size w w' := by
  have hr := FOwn.row lS ho
  clear ho
  have K0 := implTab_is a cap xs w hr hl
  unfold i64 at hn64
  by_cases ht : tabB xs = true
  rotate_left
  · rw [Bool.not_eq_true] at ht
    rw [ht] at K0
    have HV : Hid (keT xs n = []) := keT_bad ht
    clear ht hr
    refine (callsIn_wide (n := 8)).1 ?_
    refine callsIn_of_wp_marks Try.func20 rfl trivial ?_ rfl
    simp only [Try.ntmps20, List.size_toArray, List.length_cons, List.length_nil, Nat.reduceAdd, Nat.reduceSub, Array.replicate_succ, Array.replicate_zero, List.push_toArray, List.append_toArray, List.nil_append, List.cons_append]
    gi_wp2
    refine ⟨trivial, (callsIn_wide.2 K0).mono ?_⟩
    clear K0
    rintro en W1 ⟨rfl, BC⟩
    gi_wp2
    exact ⟨_, results_tmp rfl _ _ _, none, 0, by rw [HV.out]; rfl, by rw [HV.out]; exact World.ownsRow_nil _ _ _ _, BC⟩
  have HV : Hid (keL xs n 100 = keT xs n) := ke_same ht n
  have h20 := tab_len ht
  rw [ht] at K0
  clear ht
  generalize keT xs n = ans at HV ⊢
  refine (callsIn_wide (n := 8)).1 ?_
  refine callsIn_of_wp_marks Try.func20 rfl trivial ?_ rfl
  simp only [Try.ntmps20, List.size_toArray, List.length_cons, List.length_nil, Nat.reduceAdd, Nat.reduceSub, Array.replicate_succ, Array.replicate_zero, List.push_toArray, List.append_toArray, List.nil_append, List.cons_append]
  gi_wp2
  refine ⟨trivial, (callsIn_wide.2 K0).mono ?_⟩
  clear K0
  rintro en W1 ⟨rfl, BC⟩
  obtain ⟨V, hV⟩ : ∃ V, W1.alloc (.cells #[.slice none 0 0] 24) = V := ⟨_, rfl⟩
  have TV : Blk W1.heap.size [.slice none 0 0] V := by rw [← hV]; exact Blk.new _ _ _
  have hkb : w.heap.size ≤ W1.heap.size := BC.size
  replace BC : Below w.heap.size w V := by rw [← hV]; exact BC.alloc BC.size _
  obtain ⟨kb, hkbe⟩ : ∃ kb, W1.heap.size = kb := ⟨_, rfl⟩
  rw [hkbe] at TV hkb
  gi_wp2
  try rw [hV]
  try rw [hkbe]
  clear hV hkbe
  refine wpIn_loop (LpK w a cap xs n kb) (fun act _ => 100 - (intOf (act.tmps.getD 12 undef)).toNat) ⟨0, [], _, _, _, _, _, _, _, _, _, _, _, _, _, _, _, _, _, _, _, none, 0, rfl, Nat.zero_le _, TV, World.ownsRow_nil _ _ _ _, ⟨List.nodup_nil, fun D hD => by cases hD⟩, BC⟩ ?_
  clear TV BC
  rintro act wr ⟨j, ns, u6, u7, u8, u13, u14, u15, u16, u17, u18, u19, u20, u21, u22, u23, u24, u25, u26, u27, u28, ka, kc, rfl, hj, TK, ro, hds, BC⟩
  by_cases hlt : j < 100
  · have hlt2 : (j : Int) < 100 := by omega
    have hws := BC.size
    have hkl : kb < wr.heap.size := TK.lt
    have HLK : Hid ((keL xs n j).length ≤ 20 * j ∧ (keL xs n j).Pairwise leS) := ⟨ke_len n h20 j, ke_ws xs n j⟩
    have HNX : Hid (∀ (W : World) (ms : List Nat) (act' : Act) (ka' : Option Addr) (kc' : Nat) (ks : List TS), ks = ((vsL xs (j : Int)).take n.toNat).foldl puT (keL xs n j) → Blk kb [.slice ka' ks.length kc'] W → FOwn 31 3 cS (kb + 1) ka' kc' ks W → DsOk w.heap.size ms W → Below w.heap.size w W → (∃ u6 u7 u8 u13 u14 u15 u16 u17 u18 u19 u20 u21 u22 u23 u24 u25 u26 u27 u28 : Value, act' = { tmps := #[.slice a xs.length cap, .int .i64 n, undef, undef, .slice none 0 0, .pointer (some ⟨kb, 0, none⟩), u6, u7, u8, .slice a xs.length cap, .bool true, .bool false, .int .i64 ((j : Int) + 1), u13, u14, u15, u16, u17, u18, u19, u20, u21, u22, u23, u24, u25, u26, u27, u28], defers := ms.map dM }) → LpK w a cap xs n kb act' W) :=
      fun W ms act' ka' kc' ks e h1 h2 h3 h4 ⟨u6, u7, u8, u13, u14, u15, u16, u17, u18, u19, u20, u21, u22, u23, u24, u25, u26, u27, u28, h5⟩ => by
        subst e
        exact ⟨j + 1, ms, u6, u7, u8, u13, u14, u15, u16, u17, u18, u19, u20, u21, u22, u23, u24, u25, u26, u27, u28, ka', kc', h5, by omega, h1, h2, h3, h4⟩
    generalize hKj : keL xs n j = K at TK ro HLK HNX
    clear hKj
    obtain ⟨lb, hlb⟩ : ∃ lb, wr.heap.size = lb := ⟨_, rfl⟩
    obtain ⟨V1, hV1⟩ : ∃ V, wr.alloc (.cells #[.int .i64 n] 3) = V := ⟨_, rfl⟩
    have XA : Below wr.heap.size wr V1 := by rw [← hV1]; exact (Below.refl _ _).alloc (Nat.le_refl _) _
    have TL : Blk lb [.int .i64 n] V1 := by rw [← hV1, ← hlb]; exact Blk.new _ _ _
    have hkn : ∀ k, (Value.slice ka K.length kc).ownBlock = some k → k ≠ lb := fun k e => by have := (World.ownsRow.lt ro k e).2; omega
    replace TK := TK.later XA hkl
    replace ro : FOwn 31 3 cS (kb + 1) ka kc K V1 := own_later ro XA
    replace hds := hds.later XA
    replace BC := BC.trans (XA.mono BC.size)
    have z1 : V1.heap.size = lb + 1 := by rw [← hV1, ← hlb]; simp
    clear XA
    gi_wp2
    try rw [hV1]
    try rw [hlb]
    refine ⟨trivial, (callsIn_wide.2 (vers_is a xs.length cap (j : Int) V1)).mono ?_⟩
    rintro en W2 ⟨rfl, eW⟩
    have B2 : Below V1.heap.size V1 W2 := by rw [eW]; exact ((Below.refl _ _).alloc (Nat.le_refl _) _).alloc (by simp) _
    have z2 : W2.heap.size = lb + 3 := by rw [eW]; simp [z1]
    have cT : W2.cell? ⟨V1.heap.size, 0, none⟩ = some (.slice a xs.length cap) := by rw [eW]; exact ((Blk.new V1 #[.slice a xs.length cap] 24).alloc (by simp) _).at 0 rfl
    have cN : W2.cell? ⟨V1.heap.size + 1, 0, none⟩ = some (.int .i64 (j : Int)) := by
      rw [eW]
      have h_ := (Blk.new (V1.alloc (.cells #[.slice a xs.length cap] 24)) #[.int .i64 (j : Int)] 3).at 0 rfl
      rw [World.size_alloc] at h_
      exact h_
    have hr2 := hr.later (BC.trans (B2.mono BC.size))
    have ap := apart_row hr
    clear eW hV1
    replace TK := TK.later B2 TK.lt
    replace TL := TL.later B2 TL.lt
    replace ro : FOwn 31 3 cS (kb + 1) ka kc K W2 := own_later ro B2
    replace hds := hds.later B2
    replace BC := BC.trans (B2.mono BC.size)
    clear B2
    rw [z1] at cT cN
    rw [z1]
    have hklb : kb < lb := by omega
    have hdlt := hds.lt
    gi_wp2
    refine rangeO (α := TS) (s := fun k => k = kb ∨ k = lb) (gf := 63) (lb := #[.pointer (some ⟨lb + 1, 0, none⟩), .pointer (some ⟨lb + 1 + 1, 0, none⟩)]) rfl (enters_of Try.func63 (by kernel_rfl) rfl)
      (vers_seq 7 (by omega) (lb + 1) (lb + 1 + 1) a cap xs (j : Int) hl (fun k => (k = kb ∨ k = lb) ∨ k = W2.heap.size ∨ k = W2.heap.size + 1) W2 hr2 cT cN (fun c => by omega) (fun c => by omega) (fun p hp h0 c => by have := ap p hp h0; omega))
      (Below.refl _ _) (fun k hk => by omega) (fun _ => rfl)
      (KeR (fun k => k = kb ∨ k = lb) W2 kb lb K n)
      (fun c pre X => c = .exit 2 ∧ ∃ p x, pre = p ++ [x] ∧ n ≤ (p.length : Int) ∧ KeR (fun k => k = kb ∨ k = lb) W2 kb lb K n p X)
      (fun pre X Y row h hg hq => ⟨h.1, h.2.1.keptO hg (fun k e => (hq k e).2), h.2.2.grown hg (fun k e => Or.inl (hq k e).1)⟩)
      (fun c pre X Y row h hg hq => by
        obtain ⟨h1, p, x, h2, h3, h4⟩ := h
        exact ⟨h1, p, x, h2, h3, h4.1, h4.2.1.keptO hg (fun k e => (hq k e).2), h4.2.2.grown hg (fun k e => Or.inl (hq k e).1)⟩)
      ⟨Or.inl rfl, ⟨ka, kc, TK, ro, hkn, by simpa using TL⟩, KS.refl _ _⟩
      (fun x a' X => ∃ v, W2.heap.size ≤ v ∧ a' = { tmps := #[.slice a xs.length cap, .int .i64 n, undef, undef, .slice none 0 0, .pointer (some ⟨kb, 0, none⟩), .int .i64 (j : Int), .pointer (some ⟨lb, 0, none⟩), .pointer (some ⟨v, 0, none⟩), .slice a xs.length cap, .bool true, .bool false, .int .i64 (j : Int), .bool true, .int .i64 (j : Int), .int .i64 n, .slice a xs.length cap, .int .i64 (j : Int), .func (.func 63) #[] #[.pointer (some ⟨lb + 1, 0, none⟩), .pointer (some ⟨lb + 1 + 1, 0, none⟩)], vS x, u20, u21, u22, u23, u24, u25, u26, u27, u28], defers := [] } ∧ Blk v [.int .i64 x.1, .int .i64 x.2.1, .int .i64 x.2.2] X)
      (fun x a' _ X Y row h hg hq => by
        obtain ⟨v, h1, h2, h3⟩ := h
        exact ⟨v, h1, h2, h3.keptO hg (fun r e => (hq r e).2)⟩)
      ?assign ?body ?done ?stop
    case assign =>
      rintro l2 pre x X K2 hI hsz hKK
      obtain ⟨Y, hY0⟩ : ∃ Y, X.alloc (.cells #[.int .i64 x.1, .int .i64 x.2.1, .int .i64 x.2.2] 31) = Y := ⟨_, rfl⟩
      have BY : Below X.heap.size X Y := by rw [← hY0]; exact (Below.refl _ _).alloc (Nat.le_refl _) _
      have TY : Blk X.heap.size [.int .i64 x.1, .int .i64 x.2.1, .int .i64 x.2.2] Y := by rw [← hY0]; exact Blk.new _ _ _
      have HF := hKK _ Y (KS.of BY) ⟨hI.1, hI.2.1.keptO (grown_of_below BY) (fun k e => by cases e), hI.2.2.trans (KS.of BY)⟩ ⟨X.heap.size, hsz, rfl, TY⟩
      replace HF : Hid _ := HF
      clear hKK TY BY hI
      dsimp only [vS] at HF ⊢
      gi_wp2
      try rw [hY0]
      exact HF.out
    case body =>
      rintro l2 pre x a' X hI hsz ⟨v, hv, rfl, TX⟩ hlen
      obtain ⟨hpn, ⟨qa, qc, TQ, rq, hqn, TM⟩, hK⟩ := hI
      have t0 := TM.at 0 rfl
      by_cases hm : n - (pre.length : Int) < 1
      · have HIx : Hid (KeR (fun k => k = kb ∨ k = lb) W2 kb lb K n pre X) := ⟨hpn, ⟨qa, qc, TQ, rq, hqn, TM⟩, hK⟩
        have hnp : n ≤ (pre.length : Int) := by omega
        clear hpn TQ rq hqn hK TX
        generalize n - (pre.length : Int) = m at t0 hm TM
        clear TM
        gi_wp2
        exact ⟨KS.refl _ _, rfl, pre, x, rfl, hnp, HIx.out⟩
      · have hxz : X.heap.size ≥ W2.heap.size := hsz
        have HKS : Hid ((pre.foldl puT K).length ≤ 3000 ∧ (pre.foldl puT K).Pairwise leS) := by
          show _ ∧ _
          refine ⟨?_, fp_ws _ _ HLK.out.2⟩
          have := HLK.out.1
          rw [fp_len]
          omega
        have HSN : Hid ((pre ++ [x]).foldl puT K = puT (pre.foldl puT K) x) := fp_snoc _ _ _
        have hpl : ((pre ++ [x]).length : Int) = (pre.length : Int) + 1 := by simp
        have HPN : Hid (((pre ++ [x]).length : Int) ≤ n ∧ n - ((pre ++ [x]).length : Int) = n - (pre.length : Int) - 1) := by show _ ∧ _; omega
        have hm1 : 1 ≤ n - (pre.length : Int) := by omega
        have hm2 : n - (pre.length : Int) ≤ 9223372036854775807 := by omega
        have HKeR : Hid (∀ Y : World, KeI kb lb (puT (pre.foldl puT K) x) (n - (pre.length : Int) - 1) Y → KS (fun k => k = kb ∨ k = lb) X Y → KeR (fun k => k = kb ∨ k = lb) W2 kb lb K n (pre ++ [x]) Y) := fun Y h1 h2 => by
          refine ⟨Or.inr HPN.out.1, ?_, hK.trans h2⟩
          rw [HSN.out, HPN.out.2]
          exact h1
        clear hpl HPN HSN hpn hK
        generalize n - (pre.length : Int) = m at t0 hm1 hm2 HKeR TM hm
        generalize pre.foldl puT K = ks at TQ rq hqn HKS HKeR
        have KW := with_is qa qc ks x X (rwG_own rq) (Nat.le_trans HKS.out.1 (by decide)) HKS.out.2
        clear rq HKS hqn
        generalize puT ks x = ys at KW HKeR
        have g0 := TX.at 0 rfl
        have g1 := TX.at 1 rfl
        have g2 := TX.at 2 rfl
        have q0 := TQ.at 0 rfl
        have hne : lb ≠ kb := by omega
        have hne2 : kb ≠ lb := by omega
        dsimp only [vS] at KW ⊢
        gi_wp2
        refine ⟨trivial, (CallsIn.inRound l2 (callsIn_wide.2 KW)).mono ?_⟩
        clear KW g0 g1 g2 q0 t0
        rintro e Y ⟨⟨oa, oc, rfl, no⟩, hb⟩
        replace TQ := TQ.later hb TQ.lt
        replace TM := TM.later hb TM.lt
        have q0 := TQ.at 0 rfl
        have qf := TQ.fz 0 rfl
        have t0 := TM.at 0 rfl
        have tf := TM.fz 0 rfl
        have HFin : Hid (KS (fun k => k = kb ∨ k = lb) X ((Y.setCell ⟨kb, 0, none⟩ (.slice oa ys.length oc)).setCell ⟨lb, 0, none⟩ (.int .i64 (m - 1))) ∧ KeR (fun k => k = kb ∨ k = lb) W2 kb lb K n (pre ++ [x]) ((Y.setCell ⟨kb, 0, none⟩ (.slice oa ys.length oc)).setCell ⟨lb, 0, none⟩ (.int .i64 (m - 1)))) := by
          have k1 : KS (fun k => k = kb ∨ k = lb) X ((Y.setCell ⟨kb, 0, none⟩ (.slice oa ys.length oc)).setCell ⟨lb, 0, none⟩ (.int .i64 (m - 1))) := ((KS.of hb).trans (KS.set Y kb 0 _ (Or.inl rfl))).trans (KS.set _ lb 0 _ (Or.inr rfl))
          refine ⟨k1, HKeR.out _ ⟨oa, oc, (TQ.set 0 (.slice oa ys.length oc)).far (g' := lb) (by omega) 0 _, ?_, fun k e => by have := (World.ownsRow.lt no k e).1; omega, (TM.far (g' := kb) (by omega) 0 _).set 0 _⟩ k1⟩
          have n1 : FOwn 31 3 cS (kb + 1) oa oc ys Y := no.le (by omega)
          have far : ∀ (Z : World) (g i : Nat) (u : Value), g < X.heap.size → FOwn 31 3 cS (kb + 1) oa oc ys Z → FOwn 31 3 cS (kb + 1) oa oc ys (Z.setCell ⟨g, i, none⟩ u) := fun Z g i u hg h => World.ownsRow.kept h (set_grown Z g i u) (by
            cases e : (Value.slice oa ys.length oc).ownBlock with
            | none => exact Or.inl rfl
            | some k => right; intro c; have := (World.ownsRow.lt no k e).1; injection c with c; omega)
          exact far _ _ _ _ (by omega) (far _ _ _ _ (by omega) n1)
        clear TQ TM HKeR no hb
        gi_wp2
        exact HFin.out
    case done =>
      rintro D ys X hD hys ⟨hpn, ⟨qa, qc, TQ, rq, _, _⟩, hK⟩ hd
      have HE : Hid (ys.foldl puT K = ((vsL xs (j : Int)).take n.toNat).foldl puT K) := by
        show _ = _
        rw [← hys]
        rcases hpn with rfl | h
        · simp
        · rw [List.take_of_length_le (by omega)]
      have hd2 := hds.ks hK (fun k hk => by
        rcases hk with rfl | rfl
        · exact cells_obj (TK.at 0 rfl)
        · exact cells_obj (TL.at 0 rfl))
      have hdw : DsOk w.heap.size (D :: ns) X := hd2.cons hdlt hD (by omega) hd
      have BW : Below w.heap.size w X := BC.trans (hK.below (by omega) (fun k hk c => by omega))
      have HR := fun act' h4 => HNX.out X (D :: ns) act' qa qc (ys.foldl puT K) HE.out TQ rq hdw BW h4
      clear HNX TQ rq hd2 hdw BW hds BC TK TL hK hpn HE
      replace HR : Hid (∀ act' : Act, _ → _) := HR
      gi_wp2
      exact ⟨HR.out _ ⟨_, _, _, _, _, _, _, _, _, _, _, _, _, _, _, _, _, _, _, rfl⟩, by simp [intOf]; omega⟩
    case stop =>
      rintro D c pre X hD hv ⟨rfl, p, x, rfl, hnp, hpn, ⟨qa, qc, TQ, rq, _, _⟩, hK⟩ hd
      have HE : Hid (p.foldl puT K = ((vsL xs (j : Int)).take n.toNat).foldl puT K) := by
        show _ = _
        obtain ⟨t, ht⟩ := hv
        rw [← ht, List.append_assoc]
        have e : n.toNat = p.length := by
          rcases hpn with rfl | h
          · simp at hnp ⊢; omega
          · omega
        rw [e, List.take_left]
      clear hv
      have hd2 := hds.ks hK (fun k hk => by
        rcases hk with rfl | rfl
        · exact cells_obj (TK.at 0 rfl)
        · exact cells_obj (TL.at 0 rfl))
      have hdw : DsOk w.heap.size (D :: ns) X := hd2.cons hdlt hD (by omega) hd
      have BW : Below w.heap.size w X := BC.trans (hK.below (by omega) (fun k hk c => by omega))
      have HR := fun act' h4 => HNX.out X (D :: ns) act' qa qc (p.foldl puT K) HE.out TQ rq hdw BW h4
      clear HNX TQ rq hd2 hdw BW hds BC TK TL hK hpn HE
      replace HR : Hid (∀ act' : Act, _ → _) := HR
      gi_wp2
      exact ⟨HR.out _ ⟨_, _, _, _, _, _, _, _, _, _, _, _, _, _, _, _, _, _, _, rfl⟩, by simp [intOf]; omega⟩
  · obtain rfl : j = 100 := by omega
    have hlt2 : ¬ (((100 : Nat) : Int) < 100) := by decide
    rw [HV.out] at TK ro
    have q0 := TK.at 0 rfl
    have ro2 : FOwn 31 3 cS w.heap.size ka kc ans wr := ro.le (by omega)
    clear TK ro HV
    gi_wp2
    exact leaves_all (fun w' => results_tmp rfl _ _ _) (fun W => FOwn 31 3 cS w.heap.size ka kc ans W) (fun W D hB ho hq => own_keptO hq (grownBy_putObj' W D _) (fun k e => by cases e; exact ho)) (fun w' hb hq => ⟨ka, kc, rfl, hq, hb⟩) ns wr hds BC ro2
end Go.Proofs.Ytkfjpgkpmdbnoaa
