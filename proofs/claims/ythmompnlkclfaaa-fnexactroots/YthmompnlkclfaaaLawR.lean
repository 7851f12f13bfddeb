/- The law on Roots. -/
import Derived.Test.YthmompnlkclfaaaRo4
import Derived.Test.YthmompnlkclfaaaRe1
import Derived.Test.YthmompnlkclfaaaRe2
import Derived.Test.YthmompnlkclfaaaRe3
import Derived.Test.YthmompnlkclfaaaMk
import Derived.Test.YthmompnlkclfaaaNc6
import Derived.Test.YthmompnlkclfaaaNz1
set_option linter.unusedVariables false
set_option maxRecDepth 100000
namespace Go.Proofs.Ythmompnlkclfaaa
open Go Go.RowKit Go.Joins Own Draw

set_option maxRecDepth 100000 in
set_option maxHeartbeats 1600000 in
theorem eqJ_is (a b : Option Addr) (ca cb : Nat) (xs : List Int) (w : World) (ha : RowAt (Value.int .i64) w a xs) (hb : RowAt (Value.int .i64) w b xs) (hl : xs.length ≤ 2000000) :
    Calls Try.prog 13 #[.slice a xs.length ca, .slice b xs.length cb] w fun e w' => e = .returned (.bool true) ∧ Below w.heap.size w w' := by
  go_enter Try.func13, Try.ntmps13
  go_wp2
  go_loopw [5] (fun i wr => ∃ k : Nat, k ≤ xs.length ∧ i = .int .i64 k ∧ Below w.heap.size w wr) (fun i _ => xs.length - (intOf i).toNat)
  case atStart => exact ⟨0, by omega, rfl, Below.refl _ _⟩
  case round =>
    obtain ⟨k, hk, rfl, hbel⟩ := hrel
    by_cases hlt : k < xs.length
    · obtain ⟨b1, o1, rfl, l1, hc1⟩ := ha k hlt
      obtain ⟨b2, o2, rfl, l2, hc2⟩ := hb k hlt
      rw [← hbel.cell (p := ⟨b1, o1 + k, none⟩) l1] at hc1
      rw [← hbel.cell (p := ⟨b2, o2 + k, none⟩) l2] at hc2
      generalize xs[k] = x at hc1 hc2
      go_wp2
      go_region
      all_goals
        go_wp2
        go_roundw
        case rel => exact ⟨k + 1, by omega, by go_num, hbel.drew⟩
        case measure => simp [intOf]; omega
    · go_wp2
      go_ret
      exact ⟨rfl, hbel⟩
theorem short_of : ∀ (l : List Int) (lo hi : Int), l.Pairwise (· < ·) → (∀ z ∈ l, lo ≤ z ∧ z ≤ hi) → (l.length : Int) ≤ max 0 (hi - lo + 1)
  | [], lo, hi, _, _ => by simp; omega
  | x :: r, lo, hi, hp, hz => by
    rw [List.pairwise_cons] at hp
    have h1 := hz x (by simp)
    have h2 := short_of r (x + 1) hi hp.2 (fun z h => ⟨by have := hp.1 z h; omega, (hz z (List.mem_cons_of_mem _ h)).2⟩)
    rw [List.length_cons]
    omega
theorem roP_short (c : Cf) (xs : List TE) (n : Int) : (roP c xs n).length ≤ 200 := by
  have hp : (roP c xs n).Pairwise (· < ·) := by
    unfold roP
    split
    · split
      · exact riL_rises _
      · exact List.Pairwise.nil
    · exact List.Pairwise.nil
  have := short_of _ 0 100 hp (roP_in c xs n)
  omega
namespace Nd
def cfOf (p : TF) : Cf := ⟨p.1.1, p.1.2.1, p.1.2.2, p.2.1.1, p.2.1.2.1, p.2.1.2.2, p.2.2.1.1, p.2.2.1.2.1, p.2.2.1.2.2, p.2.2.2.1.1, p.2.2.2.1.2.1, p.2.2.2.1.2.2, p.2.2.2.2⟩
theorem prow_of {w : World} {a : Option Addr} {xs : List TP} (h : FRow 2 cP w a xs) : PRow w a xs := by
  intro j hj
  obtain ⟨b, o, e, hb, hc⟩ := h j hj
  exact ⟨b, o, e, hb, hc 0 _ rfl, hc 1 _ rfl⟩
theorem own_cap {w : World} {B t s n c : Nat} {a : Option Addr} {xs : List Value} (h : w.ownsRow B t s (.slice a n c) n xs) : n ≤ c := by
  rcases h.2 with ⟨e, h0⟩ | ⟨g, cap, cur, e, _, _, hc, _⟩
  · omega
  · injection e with _ _ e3; omega
theorem cf_at {B : Nat} {w : World} {p : TF} (h : OwF B w p) : CfAt (cfOf p) w := ⟨h.1.dp, h.2.1.dp, prow_of h.2.2.1.dp, prow_of h.2.2.2.dp⟩
theorem tot_st {y d : TF} (h : stF y = stF d) : totF y = totF d := by
  obtain ⟨f0, f1, f2, f3, f4⟩ := y
  obtain ⟨g0, g1, g2, g3, g4⟩ := d
  unfold stF at h
  simp only [Prod.mk.injEq] at h
  obtain ⟨e0, e1, e2, e3, e4⟩ := h
  unfold totF rtI rtP
  dsimp only
  rw [rsP_len e2, rsP_len e3]
  unfold rsI at e0 e1
  rw [e0, e1]
theorem cf_ok {B : Nat} {w : World} {p : TF} (h : OwF B w p) (hl : totF p ≤ 1048576) : CfOk (cfOf p) := by
  unfold totF rtI rtP at hl
  exact ⟨by unfold cfOf; dsimp only; omega, by unfold cfOf; dsimp only; omega, by unfold cfOf; dsimp only; omega, by unfold cfOf; dsimp only; omega, own_cap h.2.2.1, own_cap h.2.2.2⟩
theorem conf_st {y d : TF} (h : stF y = stF d) : confB (cfOf y) = confB (cfOf d) := by
  obtain ⟨⟨ua, uc, us⟩, ⟨sa, sc, ss⟩, ⟨la, lc, ls⟩, ⟨xa, xc, xs⟩, kk⟩ := y
  obtain ⟨⟨ua', uc', us'⟩, ⟨sa', sc', ss'⟩, ⟨la', lc', ls'⟩, ⟨xa', xc', xs'⟩, kk'⟩ := d
  unfold stF rsI rsP at h
  simp only [Prod.mk.injEq] at h
  obtain ⟨rfl, rfl, rfl, rfl, rfl⟩ := h
  rfl
theorem rt_st {y d : TF} (h : stF y = stF d) (xs : List TE) (n : Int) : roP (cfOf y) xs n = roP (cfOf d) xs n := by unfold roP; rw [conf_st h]
theorem tot_conf {d : TF} (h : confB (cfOf d) = true) : 6 ≤ totF d := by
  unfold confB realmB at h
  simp only [Bool.and_eq_true, decide_eq_true_eq] at h
  have h1 := h.1.1
  have h2 := h.2.1.1
  unfold cfOf at h1 h2
  dsimp only at h1 h2
  unfold totF rtI
  omega
theorem Blk.only2 {g p : Nat} {vs : List Value} {w w' : World} (h : Blk g vs w) (hg : w.grownBy w' (some p)) (hl : g < p) (hw : g < w.heap.size := by omega) : Blk g vs w' :=
  ⟨fun i v e => ⟨(World.cell?_of_block (a := ⟨g, i, none⟩) (hg.block g hw (by simp; omega))).trans (h.out i v e).1, (World.frozen?_of_block (a := ⟨g, i, none⟩) (hg.block g hw (by simp; omega))).trans (h.out i v e).2⟩⟩
theorem Blk.only3 {g : Nat} {r : Option Nat} {vs : List Value} {w w' : World} (h : Blk g vs w) (hg : w.grownBy w' r) (hl : ¬ r = some g) (hw : g < w.heap.size) : Blk g vs w' :=
  ⟨fun i v e => ⟨(World.cell?_of_block (a := ⟨g, i, none⟩) (hg.block g hw (fun e => hl e.symm))).trans (h.out i v e).1, (World.frozen?_of_block (a := ⟨g, i, none⟩) (hg.block g hw (fun e => hl e.symm))).trans (h.out i v e).2⟩⟩
theorem ow_lt {B : Nat} {w : World} {y : TF} (h : OwF B w y) : ∀ v ∈ cF y, ∀ k, v.ownBlock = some k → k < w.heap.size := by
  intro v hv k hk
  obtain ⟨⟨ua, uc, us⟩, ⟨sa, sc, ss⟩, ⟨la, lc, ls⟩, ⟨xa, xc, xs⟩, kk⟩ := y
  obtain ⟨hu, hs, hL, hx⟩ := h
  simp only [cF, List.mem_cons, List.not_mem_nil, or_false] at hv
  rcases hv with rfl | rfl | rfl | rfl | rfl
  · exact (hu.lt k hk).2
  · exact (hs.lt k hk).2
  · exact (hL.lt k hk).2
  · exact (hx.lt k hk).2
  · simp [Value.ownBlock] at hk
set_option maxRecDepth 100000 in
set_option maxHeartbeats 12800000 in
theorem law_roots (d : TF) (a0 : Option Addr) (cap0 : Nat) (xs0 : List TE) (n1 : Int) (w : World) (hd : DpF w d) (hlm : LmF d) (hr0 : FRow 11 cE w a0 xs0) (hl0 : xs0.length ≤ maxLen) (hn0 : i64 n1) (hx : ∀ p ∈ xs0, i64 (kyE p) ∧ i64 (paE p) ∧ i64 (seE p)) :
    Calls Try.prog 5 #[vF d, .slice a0 xs0.length cap0, .int .i64 n1] w fun en w' => en = .returned (.bool true) ∧ Below w.heap.size w w' := by
  obtain ⟨ie, hie, his⟩ := info_F
  obtain ⟨V, hV⟩ : ∃ V, w.alloc (.cells #[.slice d.1.1 d.1.2.2.length d.1.2.1, .slice d.2.1.1 d.2.1.2.2.length d.2.1.2.1, .slice d.2.2.1.1 d.2.2.1.2.2.length d.2.2.1.2.1, .slice d.2.2.2.1.1 d.2.2.2.1.2.2.length d.2.2.2.1.2.1, .int .i64 d.2.2.2.2] 35) = V := ⟨_, rfl⟩
  have TA : Blk w.heap.size [.slice d.1.1 d.1.2.2.length d.1.2.1, .slice d.2.1.1 d.2.1.2.2.length d.2.1.2.1, .slice d.2.2.1.1 d.2.2.1.2.2.length d.2.2.1.2.1, .slice d.2.2.2.1.1 d.2.2.2.1.2.2.length d.2.2.2.1.2.1, .int .i64 d.2.2.2.2] V := by rw [← hV]; exact Blk.new _ _ _
  have b0 : Below w.heap.size w V := by rw [← hV]; exact (Below.refl _ _).alloc (Nat.le_refl _) _
  go_enter Try.func5, Try.ntmps5
  have K := szF_is d 1048576 V (by omega) (hd.later b0) hlm
  have cA0 := TA.at 0 rfl
  have cA1 := TA.at 1 rfl
  have cA2 := TA.at 2 rfl
  have cA3 := TA.at 3 rfl
  have cA4 := TA.at 4 rfl
  go_wp2_with fail
  try rw [hV]
  refine K.mono ?_
  clear K hV
  clear cA0 cA1 cA2 cA3 cA4
  rintro en v1 ⟨rfl, hb⟩
  replace TA := TA.later hb TA.lt
  replace b0 := b0.trans (hb.mono b0.size)
  clear hb
  by_cases hz : totF d ≤ 1048576
  · rw [show szV (totF d) 1048576 = ((1048576 - totF d : Nat) : Int) from if_pos hz]
    have nz : ¬ (((1048576 - totF d : Nat) : Int) < 0) := by omega
    by_cases hz0 : xs0.length ≤ 1048576 - totF d
    · have hx5 : xs0.length ≤ 1048576 := by omega
      have hxc : confB (cfOf d) = true → xs0.length ≤ 1048570 := fun h => by have := tot_conf h; omega
      have K := szSE_is a0 xs0.length cap0 (1048576 - totF d) v1 (by omega) hl0
      rw [if_pos hz0] at K
      go_wp2_with fail
      refine K.mono ?_
      clear K
      rintro en v2 ⟨rfl, rfl⟩
      have nz1 : ¬ (((1048576 - totF d - xs0.length : Nat) : Int) < 0) := by omega
      clear nz
      have K := toF_is d v1 (hd.later b0) hz
      have cA0 := TA.at 0 rfl
      have cA1 := TA.at 1 rfl
      have cA2 := TA.at 2 rfl
      have cA3 := TA.at 3 rfl
      have cA4 := TA.at 4 rfl
      go_wp2_with fail
      refine K.mono ?_
      clear K
      clear cA0 cA1 cA2 cA3 cA4
      rintro en v3 ⟨y1, rfl, s1, o1, hb⟩
      have q1 := hb.size
      replace TA := TA.later hb TA.lt
      replace b0 := b0.trans (hb.mono b0.size)
      clear hb
      clear nz1
      have K := toSE_is a0 cap0 xs0 v3 (hr0.later b0) hx5
      go_wp2_with fail
      refine K.mono ?_
      clear K
      rintro en v4 ⟨rfl, oe, hb⟩
      replace TA := TA.later hb TA.lt
      replace o1 := o1.later hb
      replace b0 := b0.trans (hb.mono b0.size)
      clear hb
      have K := specRoots_is (cfOf y1) _ xs0.length xs0 n1 v4 (cf_at o1) (cf_ok o1 (by rw [tot_st s1]; exact hz)) (FOwn.row lE oe) hx5 (fun h => hxc (by rw [← conf_st s1]; exact h))
      rw [rt_same _ _ _ (fun p h => (hx p h).2.2), rt_st s1] at K
      go_wp2_with fail
      refine K.mono ?_
      clear K
      rintro en v5 ⟨sa, sc, rfl, so, hb⟩
      replace TA := TA.later hb TA.lt
      replace b0 := b0.trans (hb.mono b0.size)
      clear hb
      clear o1 oe
      have sl : ∀ k, (Value.slice sa (roP (cfOf d) xs0 n1).length sc).ownBlock = some k → k < v5.heap.size := fun k e => (so.lt k e).2
      have hw2 := b0.size
      have qA := TA.lt
      have K := toF_is d v5 (hd.later b0) hz
      have cA0 := TA.at 0 rfl
      have cA1 := TA.at 1 rfl
      have cA2 := TA.at 2 rfl
      have cA3 := TA.at 3 rfl
      have cA4 := TA.at 4 rfl
      go_wp2_with fail
      refine K.mono ?_
      clear K
      clear cA0 cA1 cA2 cA3 cA4
      rintro en v6 ⟨y2, rfl, s2, o2, hb⟩
      have o2t := ow_lt o2
      have qB := hb.size
      replace TA := TA.later hb TA.lt
      replace so := own_later so hb
      replace b0 := b0.trans (hb.mono b0.size)
      clear hb
      obtain ⟨X0, hX0⟩ : ∃ X, v6.alloc (.cells #[.slice none 0 0, .slice none 0 0, .slice none 0 0, .slice none 0 0, .int .i64 0] 40) = X := ⟨_, rfl⟩
      have R0 : Blk v6.heap.size [.slice none 0 0, .slice none 0 0, .slice none 0 0, .slice none 0 0, .int .i64 0] X0 := by rw [← hX0]; exact Blk.new _ _ _
      have bb0 : Below v6.heap.size v6 X0 := by rw [← hX0]; exact (Below.refl _ _).alloc (Nat.le_refl _) _
      obtain ⟨X1, hX1⟩ : ∃ X, X0.setCells v6.heap.size 0 [.slice y2.1.1 y2.1.2.2.length y2.1.2.1, .slice y2.2.1.1 y2.2.1.2.2.length y2.2.1.2.1, .slice y2.2.2.1.1 y2.2.2.1.2.2.length y2.2.2.1.2.1, .slice y2.2.2.2.1.1 y2.2.2.2.1.2.2.length y2.2.2.2.1.2.1, .int .i64 y2.2.2.2.2] = X := ⟨_, rfl⟩
      have TX : Blk v6.heap.size [.slice y2.1.1 y2.1.2.2.length y2.1.2.1, .slice y2.2.1.1 y2.2.1.2.2.length y2.2.1.2.1, .slice y2.2.2.1.1 y2.2.2.1.2.2.length y2.2.2.1.2.1, .slice y2.2.2.2.1.1 y2.2.2.2.1.2.2.length y2.2.2.2.1.2.1, .int .i64 y2.2.2.2.2] X1 := by rw [← hX1]; exact R0.sets _ rfl
      have hb : Below v6.heap.size v6 X1 := by rw [← hX1]; exact below_sets (Nat.le_refl _) _ _ _ bb0
      clear bb0
      replace TA := TA.later hb TA.lt
      replace so := own_later so hb
      replace o2 := o2.later hb
      replace b0 := b0.trans (hb.mono b0.size)
      clear hb
      have qX := TX.lt
      have K := toSE_is a0 cap0 xs0 X1 (hr0.later b0) hx5
      go_wp2_with (first | (refine wpList_stB 40 _ _ v6.heap.size 0 _ [.slice y2.1.1 y2.1.2.2.length y2.1.2.1, .slice y2.2.1.1 y2.2.1.2.2.length y2.2.1.2.1, .slice y2.2.2.1.1 y2.2.2.1.2.2.length y2.2.2.1.2.1, .slice y2.2.2.2.1.1 y2.2.2.2.1.2.2.length y2.2.2.2.1.2.1, .int .i64 y2.2.2.2.2] ie hie R0 his.symm (by simp) rfl rfl rfl rfl rfl ?_; rw [hX1]))
      refine K.mono ?_
      clear K R0 hX0 hX1
      rintro en v7 ⟨rfl, oe, hb⟩
      replace TA := TA.later hb TA.lt
      replace TX := TX.later hb TX.lt
      replace so := own_later so hb
      replace o2 := o2.later hb
      replace b0 := b0.trans (hb.mono b0.size)
      clear hb
      have hB3 := oe.lt _ rfl
      have xl := hB3.2
      have K := implRoots_is (cfOf y2) _ xs0.length xs0 n1 v7 (cf_at o2) (cf_ok o2 (by rw [tot_st s2]; exact hz)) (FOwn.row lE oe) hx5 hn0 (fun p h => ⟨(hx p h).1, (hx p h).2.1⟩)
      rw [rt_st s2] at K
      have cX0 := TX.at 0 rfl
      have cX1 := TX.at 1 rfl
      have cX2 := TX.at 2 rfl
      have cX3 := TX.at 3 rfl
      have cX4 := TX.at 4 rfl
      go_wp2_with fail
      refine K.mono ?_
      clear K
      clear cX0 cX1 cX2 cX3 cX4
      rintro en v8 ⟨ga, gc, rfl, go, hb⟩
      replace TA := TA.later hb TA.lt
      replace TX := TX.later hb TX.lt
      replace so := own_later so hb
      replace oe := own_later oe hb
      replace o2 := o2.later hb
      replace b0 := b0.trans (hb.mono b0.size)
      clear hb
      have gl : ∀ k, (Value.slice ga (roP (cfOf d) xs0 n1).length gc).ownBlock = some k → v7.heap.size ≤ k := fun k e => (go.lt k e).1
      have hy : (roP (cfOf d) xs0 n1).length ≤ 2000000 := Nat.le_trans (roP_short _ _ _) (by omega)
      generalize hRe : roP (cfOf d) xs0 n1 = R at so go sl gl hy
      have HR : Hid (roP (cfOf d) xs0 n1 = R) := hRe
      clear hRe
      have K := eqJ_is ga sa gc sc R v8 (irow_of go) (irow_of so) hy
      go_wp2_with fail
      refine K.mono ?_
      clear K
      rintro en v9 ⟨rfl, hb⟩
      replace TA := TA.later hb TA.lt
      replace TX := TX.later hb TX.lt
      replace so := own_later so hb
      replace oe := own_later oe hb
      replace go := own_later go hb
      replace o2 := o2.later hb
      replace b0 := b0.trans (hb.mono b0.size)
      clear hb
      have K5 := toF_is d v9.drew ((hd.later b0).later (Below.refl _ _).drew) hz
      have lA : w.heap.size < v9.drew.heap.size := TA.lt
      have lX : v6.heap.size < v9.drew.heap.size := TX.lt
      go_wp2_with fail
      refine wp_region_held_drew (S := (fun U : World => Blk w.heap.size [.slice d.1.1 d.1.2.2.length d.1.2.1, .slice d.2.1.1 d.2.1.2.2.length d.2.1.2.1, .slice d.2.2.1.1 d.2.2.1.2.2.length d.2.2.1.2.1, .slice d.2.2.2.1.1 d.2.2.2.1.2.2.length d.2.2.2.1.2.1, .int .i64 d.2.2.2.2] U ∧ Blk v6.heap.size [.slice y2.1.1 y2.1.2.2.length y2.1.2.1, .slice y2.2.1.1 y2.2.1.2.2.length y2.2.1.2.1, .slice y2.2.2.1.1 y2.2.2.1.2.2.length y2.2.2.1.2.1, .slice y2.2.2.2.1.1 y2.2.2.2.1.2.2.length y2.2.2.2.1.2.1, .int .i64 y2.2.2.2.2] U)) (by kernel_rfl) ⟨TA.drew, TX.drew⟩ (fun hHeld => ?_)
      refine take_one 0 44 (v := .agg #[.slice y2.1.1 y2.1.2.2.length y2.1.2.1, .slice y2.2.1.1 y2.2.1.2.2.length y2.2.1.2.1, .slice y2.2.2.1.1 y2.2.2.1.2.2.length y2.2.2.1.2.1, .slice y2.2.2.2.1.1 y2.2.2.2.1.2.2.length y2.2.2.2.1.2.1, .int .i64 y2.2.2.2.2]) rfl rfl (by kernel_rfl) (by kernel_rfl) (by kernel_rfl) (fun _ _ _ h => h) (Or.inl ⟨by rfl, ?_⟩) hHeld ?_
      · intro w' hSw; (try dsimp only at hSw); obtain ⟨bA, bX⟩ := hSw; have c0 := bX.at 0 rfl; have c1 := bX.at 1 rfl; have c2 := bX.at 2 rfl; have c3 := bX.at 3 rfl; have c4 := bX.at 4 rfl; go_simp; try with_reducible rfl
      try simp only [Act.put, List.setIfInBounds_toArray, List.set_cons_zero, List.set_cons_succ]
      refine take_one 1 45 (v := .agg #[.slice d.1.1 d.1.2.2.length d.1.2.1, .slice d.2.1.1 d.2.1.2.2.length d.2.1.2.1, .slice d.2.2.1.1 d.2.2.1.2.2.length d.2.2.1.2.1, .slice d.2.2.2.1.1 d.2.2.2.1.2.2.length d.2.2.2.1.2.1, .int .i64 d.2.2.2.2]) rfl rfl (by kernel_rfl) (by kernel_rfl) (by kernel_rfl) (fun _ _ _ h => h) (Or.inl ⟨by rfl, ?_⟩) hHeld ?_
      · intro w' hSw; (try dsimp only at hSw); obtain ⟨bA, bX⟩ := hSw; have c0 := bA.at 0 rfl; have c1 := bA.at 1 rfl; have c2 := bA.at 2 rfl; have c3 := bA.at 3 rfl; have c4 := bA.at 4 rfl; go_simp; try with_reducible rfl
      try simp only [Act.put, List.setIfInBounds_toArray, List.set_cons_zero, List.set_cons_succ]
      refine wpAnyH_ready (rs := [2]) (by kernel_rfl) (by simp) ?_
      refine AllReadyH.cons (i := 2) rfl (fun K hK => ?_) AllReadyH.nil
      go_simp
      refine (K5).mono ?_
      rintro en u5 ⟨y3, rfl, s3, o3, hb5⟩
      clear K5
      go_wp2_with fail
      refine hK.out _ _ ⟨TA.drew.later hb5 lA, TX.drew.later hb5 lX⟩ (fun hHeld2 => ?_)
      clear hK K hHeld
      have hHeld := hHeld2
      clear hHeld2
      try simp only [Act.put, List.setIfInBounds_toArray, List.set_cons_zero, List.set_cons_succ]
      refine wpAnyH_ready (rs := [3]) (by kernel_rfl) (by simp) ?_
      refine AllReadyH.cons (i := 3) rfl (fun K hK => ?_) AllReadyH.nil
      go_simp
      refine (eqF_is y2 y3 u5 ((o2.later (Below.refl _ v9).drew).later hb5).dp o3.dp (s2.trans s3.symm) (by rw [tot_st s2]; exact hz)).mono ?_
      rintro en u6 ⟨rfl, hb6⟩
      go_wp2_with fail
      refine hK.out _ _ ⟨TA.drew.later (hb5.trans (hb6.mono hb5.size)) lA, TX.drew.later (hb5.trans (hb6.mono hb5.size)) lX⟩ (fun hHeld2 => ?_)
      clear hK K hHeld
      have hHeld := hHeld2
      clear hHeld2
      try simp only [Act.put, List.setIfInBounds_toArray, List.set_cons_zero, List.set_cons_succ]
      refine take_one 4 48 (v := ?_) rfl rfl (by kernel_rfl) (by kernel_rfl) (by kernel_rfl) (fun _ _ _ h => h) (Or.inl ⟨by rfl, ?_⟩) hHeld ?_
      rotate_left
      · intro w' hSw; (try dsimp only at hSw); go_simp; try with_reducible rfl
      try simp only [Act.put, List.setIfInBounds_toArray, List.set_cons_zero, List.set_cons_succ]
      refine wpAnyH_done (by kernel_rfl) ?_ _
      have hb : Below v9.heap.size v9 u6 := (Below.refl _ v9).drew.trans (hb5.trans (hb6.mono hb5.size))
      clear hHeld hb5 hb6 o3 s3 lA lX
      replace TA := TA.later hb TA.lt
      replace TX := TX.later hb TX.lt
      replace so := own_later so hb
      replace oe := own_later oe hb
      replace go := own_later go hb
      replace o2 := o2.later hb
      replace b0 := b0.trans (hb.mono b0.size)
      clear hb
      have K := toSE_is a0 cap0 xs0 u6 (hr0.later b0) hx5
      go_wp2_with fail
      refine K.mono ?_
      clear K
      rintro en v10 ⟨rfl, of, hb⟩
      replace TA := TA.later hb TA.lt
      replace TX := TX.later hb TX.lt
      replace so := own_later so hb
      replace oe := own_later oe hb
      replace go := own_later go hb
      replace o2 := o2.later hb
      replace b0 := b0.trans (hb.mono b0.size)
      clear hb
      have K := eqSE_is _ _ xs0.length xs0.length xs0 v10 (FOwn.row lE oe) (FOwn.row lE of) hx5
      go_wp2_with fail
      refine K.mono ?_
      clear K
      rintro en v11 ⟨rfl, hb⟩
      replace TA := TA.later hb TA.lt
      replace TX := TX.later hb TX.lt
      replace so := own_later so hb
      replace oe := own_later oe hb
      replace go := own_later go hb
      replace of := own_later of hb
      replace o2 := o2.later hb
      replace b0 := b0.trans (hb.mono b0.size)
      clear hb
      clear of
      have K := markF_is v5.heap.size v6.heap.size y2 v11 o2 (Or.inr o2t) (by rw [tot_st s2]; exact hz)
      have cX0 := TX.at 0 rfl
      have cX1 := TX.at 1 rfl
      have cX2 := TX.at 2 rfl
      have cX3 := TX.at 3 rfl
      have cX4 := TX.at 4 rfl
      go_wp2_with fail
      refine K.mono ?_
      clear K
      clear cX0 cX1 cX2 cX3 cX4
      rintro en v12 ⟨⟨k1, rfl, hk1, hk2⟩, SP⟩
      replace so := own_spn so SP (fun k e => Or.inl (sl k e))
      replace go := own_spn go SP (fun k e => Or.inr (by have := gl k e; omega))
      replace oe := own_spn oe SP (fun k e => Or.inr (by have := (oe.lt k e).1; omega))
      replace TA := TA.lower (SP.below (n := v5.heap.size) (Nat.le_refl _) (by have := TX.lt; omega)) (by omega)
      replace b0 := b0.trans (SP.below hw2 b0.size)
      clear SP o2 TX
      have K := markE_is _ k1 _ _ _ _ v12 oe (by omega) (by omega)
      go_wp2_with fail
      refine K.mono ?_
      clear K
      rintro en v13 ⟨rfl, mk, hg⟩
      rw [ob_some] at hg
      replace so := own_kept so hg (fun k e h => by have := sl k e; injection h with h; omega)
      replace go := own_kept go hg (fun k e h => by have := gl k e; injection h with h; omega)
      replace TA := Blk.only2 TA hg (by omega) TA.lt
      replace b0 := b0.grown hg b0.size (fun k e => by injection e with e; omega)
      clear mk hg oe
      have nk : ¬ (((k1 + xs0.length * 11 : Nat) : Int) < 0) := by omega
      have K := eqJ_is ga sa gc sc R v13 (irow_of go) (irow_of so) hy
      go_wp2_with fail
      refine K.mono ?_
      clear K
      rintro en v14 ⟨rfl, hb⟩
      replace TA := TA.later hb TA.lt
      replace so := own_later so hb
      replace go := own_later go hb
      replace b0 := b0.trans (hb.mono b0.size)
      clear hb
      clear nk
      have K := markI_is _ 1 _ _ _ _ v14 go hy (by omega)
      go_wp2_with fail
      refine K.mono ?_
      clear K
      rintro en v15 ⟨rfl, mo, hg⟩
      replace so := own_kept so hg (fun k e h => by have := sl k e; have := gl k h; omega)
      replace TA := Blk.only3 TA hg (fun e => by have := gl _ e; omega) TA.lt
      replace b0 := b0.grown hg b0.size (fun k e => by have := gl k e; omega)
      clear hg go
      have K := heldI_is _ 1 _ _ _ v15 mo hy (by omega)
      go_wp2_with fail
      refine K.mono ?_
      clear K
      rintro en v16 ⟨rfl, hb⟩
      replace TA := TA.later hb TA.lt
      replace so := own_later so hb
      replace mo := own_later mo hb
      replace b0 := b0.trans (hb.mono b0.size)
      clear hb
      have hn : ¬ (((1 + R.length : Nat) : Int) < 0) := by omega
      have K := toF_is d v16 (hd.later b0) hz
      have cA0 := TA.at 0 rfl
      have cA1 := TA.at 1 rfl
      have cA2 := TA.at 2 rfl
      have cA3 := TA.at 3 rfl
      have cA4 := TA.at 4 rfl
      go_wp2_with fail
      refine K.mono ?_
      clear K
      clear cA0 cA1 cA2 cA3 cA4
      rintro en v17 ⟨y4, rfl, s4, o4, hb⟩
      replace TA := TA.later hb TA.lt
      replace so := own_later so hb
      replace mo := own_later mo hb
      replace b0 := b0.trans (hb.mono b0.size)
      clear hb
      have K := toSE_is a0 cap0 xs0 v17 (hr0.later b0) hx5
      go_wp2_with fail
      refine K.mono ?_
      clear K
      rintro en v18 ⟨rfl, oe, hb⟩
      replace TA := TA.later hb TA.lt
      replace so := own_later so hb
      replace mo := own_later mo hb
      replace o4 := o4.later hb
      replace b0 := b0.trans (hb.mono b0.size)
      clear hb
      have K := implRoots_is (cfOf y4) _ xs0.length xs0 n1 v18 (cf_at o4) (cf_ok o4 (by rw [tot_st s4]; exact hz)) (FOwn.row lE oe) hx5 hn0 (fun p h => ⟨(hx p h).1, (hx p h).2.1⟩)
      rw [rt_st s4, HR.out] at K
      go_wp2_with fail
      refine K.mono ?_
      clear K
      rintro en v19 ⟨ha, hc, rfl, ho, hb⟩
      replace TA := TA.later hb TA.lt
      replace so := own_later so hb
      replace mo := own_later mo hb
      replace b0 := b0.trans (hb.mono b0.size)
      clear hb
      clear o4 oe
      have K := eqJ_is ha sa hc sc R v19 (irow_of ho) (irow_of so) hy
      go_wp2_with fail
      refine K.mono ?_
      clear K
      rintro en v20 ⟨rfl, hb⟩
      replace TA := TA.later hb TA.lt
      replace so := own_later so hb
      replace mo := own_later mo hb
      replace ho := own_later ho hb
      replace b0 := b0.trans (hb.mono b0.size)
      clear hb
      have K := heldI_is _ 1 _ _ _ v20 mo hy (by omega)
      go_wp2_with fail
      refine K.mono ?_
      clear K
      rintro en v21 ⟨rfl, hb⟩
      replace TA := TA.later hb TA.lt
      replace so := own_later so hb
      replace mo := own_later mo hb
      replace ho := own_later ho hb
      replace b0 := b0.trans (hb.mono b0.size)
      clear hb
      go_wp2
      go_ret
      exact ⟨rfl, b0⟩
    · have K := szSE_is a0 xs0.length cap0 (1048576 - totF d) v1 (by omega) hl0
      rw [if_neg hz0] at K
      go_wp2_with fail
      refine K.mono ?_
      rintro en v2 ⟨rfl, rfl⟩
      clear K nz
      go_wp2
      go_ret
      exact ⟨rfl, b0⟩
  · rw [show szV (totF d) 1048576 = -1 from if_neg hz]
    go_wp2
    go_ret
    exact ⟨rfl, b0⟩
end Nd
end Go.Proofs.Ythmompnlkclfaaa
