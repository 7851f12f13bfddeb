/- The rule of a kind that rules come to: the program. -/
import Derived.Test.YtjbbhegijlnndaaRn1
set_option linter.unusedVariables false
set_option maxRecDepth 100000
namespace Go.Proofs.Ytjbbhegijlnndaa.Nd
open Go Go.RowKit Go.Joins Own Draw Go.Proofs.Ytjbbhegijlnndaa

/-- The rule that was found, and is there one. -/
def OfKP (f : PT × Bool) (B : Nat) (e : Ending) (w : World) : Prop := ∃ y : TT, e = .returned (.tuple #[vT y, .bool f.2]) ∧ stT y = f.1 ∧ OwT B w y
set_option maxHeartbeats 6400000 in
theorem ofKind_is (r : Rw TT) (kd : Int) (w : World) (hr : RpT w r) (hok : okL (rsT r) = true) :
    Calls Try.prog 43 #[.slice r.1 r.2.2.length r.2.1, .int .i64 kd] w fun e w' => OfKP (ofK kd (rsT r)) w.heap.size e w' ∧ Below w.heap.size w w' := by
  obtain ⟨ie, hie, his⟩ := info_T
  obtain ⟨a, cap, xs⟩ := r
  obtain ⟨hrow, hdp⟩ := hr
  dsimp only at hrow hdp ⊢
  have hlen : xs.length ≤ 20 := by have := (okL_mem hok).1; simpa [rsT] using this
  have hall : ∀ j (h : j < xs.length), okP (stT xs[j]) = true := fun j h => (okL_mem hok).2 _ (List.mem_map_of_mem (List.getElem_mem h))
  have hacc : ∀ j, AccOk kd (ofK kd ((xs.map stT).take j)) := fun j => ofK_of hok kd j
  clear hok
  have HF : Hid (ofK kd (rsT (a, cap, xs)) = ofK kd ((xs.map stT).take xs.length)) := by show _ = _; rw [List.take_of_length_le (by simp)]; rfl
  generalize ofK kd (rsT (a, cap, xs)) = fin at HF ⊢
  obtain ⟨V0, hV0⟩ : ∃ V, w.alloc (.cells #[.int .i64 0, .slice none 0 0, .int .i64 0] 59) = V := ⟨_, rfl⟩
  have TY : Blk w.heap.size [.int .i64 0, .slice none 0 0, .int .i64 0] V0 := by rw [← hV0]; exact Blk.new _ _ _
  have BC : Below w.heap.size w V0 := by rw [← hV0]; exact (Below.refl _ _).alloc (Nat.le_refl _) _
  go_enter Try.func43, Try.ntmps43
  go_wp2
  try rw [hV0]
  go_loopw [5, 10] (fun okv iv wr => ∃ (j : Nat) (y : TT), j ≤ xs.length ∧ iv = .int .i64 j ∧ okv = .bool (ofK kd ((xs.map stT).take j)).2 ∧ Hid (stT y = (ofK kd ((xs.map stT).take j)).1) ∧ Blk w.heap.size [.int .i64 y.1, .slice y.2.1.1 y.2.1.2.2.length y.2.1.2.1, .int .i64 y.2.2] wr ∧ OwT (w.heap.size + 1) wr y ∧ Below w.heap.size w wr) (fun _ iv _ => xs.length - (intOf iv).toNat)
  case atStart => exact ⟨0, (0, (none, 0, []), 0), Nat.zero_le _, rfl, rfl, rfl, TY, World.ownsRow_nil _ _ _ _, BC⟩
  case round =>
    clear TY BC hV0
    obtain ⟨j, y, hj, rfl, rfl, HY, TY, oy, BC⟩ := hrel
    by_cases hlt : j < xs.length
    · obtain ⟨b, off, rfl, hb, hc⟩ := hrow j hlt
      have hlt2 : (j : Int) < (xs.length : Int) := by omega
      have hsn : (xs.map stT).take (j + 1) = (xs.map stT).take j ++ [stT xs[j]] := by rw [List.take_succ_eq_append_getElem (by simpa using hlt)]; simp
      have HS : Hid (ofK kd ((xs.map stT).take (j + 1)) = stepK kd (ofK kd ((xs.map stT).take j)) (stT xs[j])) := by show _ = _; rw [hsn, ofK_snoc]
      have hA := hacc j
      have hO := hall j hlt
      have hD := hdp _ (List.getElem_mem hlt)
      have c0 : wr.cell? ⟨b, off + j * 3, none⟩ = some (.int .i64 xs[j].1) := (BC.cell (p := ⟨b, off + j * 3, none⟩) hb).trans (hc 0 _ rfl)
      have c1 : wr.cell? ⟨b, off + j * 3 + 1, none⟩ = some (.slice xs[j].2.1.1 xs[j].2.1.2.2.length xs[j].2.1.2.1) := (BC.cell (p := ⟨b, off + j * 3 + 1, none⟩) hb).trans (hc 1 _ rfl)
      have c2 : wr.cell? ⟨b, off + j * 3 + 2, none⟩ = some (.int .i64 xs[j].2.2) := (BC.cell (p := ⟨b, off + j * 3 + 2, none⟩) hb).trans (hc 2 _ rfl)
      clear hc hsn
      generalize hx : xs[j] = x at HS hO hD c0 c1 c2
      clear hx
      generalize ofK kd ((xs.map stT).take j) = acc at HY HS hA
      have HG : Hid (∀ (z : TT) (bb : Bool) (W : World), stepK kd acc (stT x) = (stT z, bb) → Blk w.heap.size [.int .i64 z.1, .slice z.2.1.1 z.2.1.2.2.length z.2.1.2.1, .int .i64 z.2.2] W → OwT (w.heap.size + 1) W z → Below w.heap.size w W → ∃ (j' : Nat) (y' : TT), j' ≤ xs.length ∧ Value.int .i64 ((j : Int) + 1) = .int .i64 j' ∧ Value.bool bb = .bool (ofK kd ((xs.map stT).take j')).2 ∧ Hid (stT y' = (ofK kd ((xs.map stT).take j')).1) ∧ Blk w.heap.size [.int .i64 y'.1, .slice y'.2.1.1 y'.2.1.2.2.length y'.2.1.2.1, .int .i64 y'.2.2] W ∧ OwT (w.heap.size + 1) W y' ∧ Below w.heap.size w W) :=
        fun z bb W h1 h2 h3 h4 => ⟨j + 1, z, by omega, by go_num, by rw [HS.out, h1], by show _ = _; rw [HS.out, h1], h2, h3, h4⟩
      clear HS
      obtain ⟨V, hV⟩ : ∃ V, wr.alloc (.cells #[.int .i64 x.1, .slice x.2.1.1 x.2.1.2.2.length x.2.1.2.1, .int .i64 x.2.2] 59) = V := ⟨_, rfl⟩
      have XA : Below wr.heap.size wr V := by rw [← hV]; exact (Below.refl _ _).alloc (Nat.le_refl _) _
      have TX : Blk wr.heap.size [.int .i64 x.1, .slice x.2.1.1 x.2.1.2.2.length x.2.1.2.1, .int .i64 x.2.2] V := by rw [← hV]; exact Blk.new _ _ _
      have hwr : w.heap.size < wr.heap.size := TY.lt
      replace TY := TY.later XA hwr
      replace oy := oy.later XA
      replace BC := BC.trans (XA.mono BC.size)
      have hsV : wr.heap.size < V.heap.size := TX.lt
      clear XA
      obtain ⟨p, b0⟩ := acc
      by_cases hk : x.1 = kd
      · have hkb : (x.1 != kd) = false := by rw [hk]; simp
        have HP : Hid (stepK kd (p, b0) (stT x) = if b0 = true then (joinP p (stT x), true) else (stT x, true)) := by show _ = _; unfold stepK; rw [if_pos (show (stT x).1 = kd from hk)]
        have HKD : Hid (x.1 = kd) := hk
        clear hk
        cases b0 with
        | false =>
          have K := joined_is x x
          have HQ : Hid (stepK kd (p, false) (stT x) = (joinP (stT x) (stT x), true)) := by show _ = _; rw [HP.out, join_self hO]; rfl
          clear HP HY hA oy
          have g0 := TX.at 0 rfl
          have g1 := TX.at 1 rfl
          have g2 := TX.at 2 rfl
          have gy0 := TY.at 0 rfl
          have gy1 := TY.at 1 rfl
          have gy2 := TY.at 2 rfl
          obtain ⟨V1, hV1⟩ : ∃ Z, World.setCells V w.heap.size 0 [.int .i64 x.1, .slice x.2.1.1 x.2.1.2.2.length x.2.1.2.1, .int .i64 x.2.2] = Z := ⟨_, rfl⟩
          have TY_ : Blk w.heap.size [.int .i64 x.1, .slice x.2.1.1 x.2.1.2.2.length x.2.1.2.1, .int .i64 x.2.2] V1 := by rw [← hV1]; exact TY.sets [.int .i64 x.1, .slice x.2.1.1 x.2.1.2.2.length x.2.1.2.1, .int .i64 x.2.2] rfl
          have TX_ : Blk (wr.heap.size) [.int .i64 x.1, .slice x.2.1.1 x.2.1.2.2.length x.2.1.2.1, .int .i64 x.2.2] V1 := by rw [← hV1]; exact Blk.farS (by omega) [.int .i64 x.1, .slice x.2.1.1 x.2.1.2.2.length x.2.1.2.1, .int .i64 x.2.2] 0 _ TX
          have BC_ : Below w.heap.size w V1 := by rw [← hV1]; exact below_sets (Nat.le_refl _) [.int .i64 x.1, .slice x.2.1.1 x.2.1.2.2.length x.2.1.2.1, .int .i64 x.2.2] 0 _ BC
          have T0V1 := TY
          replace BC := BC_
          have TY := TY_
          have TX := TX_
          have hD2 := hD.later BC_
          have K2 := K V1 hD2 hD2 hO hO rfl
          clear K TX_
          have u0 := TY.at 0 rfl
          have u1 := TY.at 1 rfl
          have u2 := TY.at 2 rfl
          have v0 := TX.at 0 rfl
          have v1 := TX.at 1 rfl
          have v2 := TX.at 2 rfl
          go_wp2_with (first | (refine wpList_stB 59 _ _ (w.heap.size) 0 [.int .i64 y.1, .slice y.2.1.1 y.2.1.2.2.length y.2.1.2.1, .int .i64 y.2.2] [.int .i64 x.1, .slice x.2.1.1 x.2.1.2.2.length x.2.1.2.1, .int .i64 x.2.2] ie hie T0V1 (by rw [his]; rfl) (by simp) rfl rfl rfl rfl rfl ?_; try simp only [Act.put]; rw [hV1]) | fail)
          refine K2.mono ?_
          clear K2 u0 u1 u2 v0 v1 v2 g0 g1 g2 gy0 gy1 gy2
          rintro en W2 ⟨z, rfl, hz, oz, hb2⟩
          have hs2 : w.heap.size + 1 ≤ V1.heap.size := by have := TY.lt; omega
          replace TY := TY.later hb2 TY.lt
          replace BC := BC.trans (hb2.mono BC.size)
          clear hb2 T0V1 hV1 TY_ BC_
          obtain ⟨V3, hV3⟩ : ∃ Z, World.setCells W2 w.heap.size 0 [.int .i64 z.1, .slice z.2.1.1 z.2.1.2.2.length z.2.1.2.1, .int .i64 z.2.2] = Z := ⟨_, rfl⟩
          have TY_ : Blk w.heap.size [.int .i64 z.1, .slice z.2.1.1 z.2.1.2.2.length z.2.1.2.1, .int .i64 z.2.2] V3 := by rw [← hV3]; exact TY.sets [.int .i64 z.1, .slice z.2.1.1 z.2.1.2.2.length z.2.1.2.1, .int .i64 z.2.2] rfl
          have BC_ : Below w.heap.size w V3 := by rw [← hV3]; exact below_sets (Nat.le_refl _) [.int .i64 z.1, .slice z.2.1.1 z.2.1.2.2.length z.2.1.2.1, .int .i64 z.2.2] 0 _ BC
          have oz_ : OwT V1.heap.size V3 z := by rw [← hV3]; exact OwT.far oz (sets_grown w.heap.size [.int .i64 z.1, .slice z.2.1.1 z.2.1.2.2.length z.2.1.2.1, .int .i64 z.2.2] 0 _) (by omega)
          have T0V3 := TY
          have HR := HG.out z true V3 (by rw [HQ.out, hz]) TY_ (OwT.le oz_ hs2) BC_
          clear TY_ oz_ BC_ HG TX
          go_wp2_with (first | (refine wpList_stB 59 _ _ (w.heap.size) 0 [.int .i64 x.1, .slice x.2.1.1 x.2.1.2.2.length x.2.1.2.1, .int .i64 x.2.2] [.int .i64 z.1, .slice z.2.1.1 z.2.1.2.2.length z.2.1.2.1, .int .i64 z.2.2] ie hie T0V3 (by rw [his]; rfl) (by simp) rfl rfl rfl rfl rfl ?_; try simp only [Act.put]; rw [hV3]) | fail)
          go_roundw
          case rel => exact HR
          case measure => simp [intOf]; omega
        | true =>
          have hA2 : okP p = true ∧ p.1 = kd := by unfold AccOk at hA; rwa [if_pos rfl] at hA
          have hp : stT y = p := HY.out
          have HQ : Hid (stepK kd (p, true) (stT x) = (joinP (stT y) (stT x), true)) := by show _ = _; rw [HP.out, hp]; rfl
          have hoy : okP (stT y) = true := by rw [hp]; exact hA2.1
          have hyk : x.1 = y.1 := by have h1 : (stT y).1 = kd := by rw [hp]; exact hA2.2
                                     exact HKD.out.trans h1.symm
          have K2 := joined_is y x V oy.dp (hD.later BC) hoy hO hyk
          clear HP HY hA hA2 hp hoy hyk
          have u0 := TY.at 0 rfl
          have u1 := TY.at 1 rfl
          have u2 := TY.at 2 rfl
          have v0 := TX.at 0 rfl
          have v1 := TX.at 1 rfl
          have v2 := TX.at 2 rfl
          go_wp2_with fail
          try rw [hV]
          refine K2.mono ?_
          clear K2 u0 u1 u2 v0 v1 v2 hV
          rintro en W2 ⟨z, rfl, hz, oz, hb2⟩
          have hs2 : w.heap.size + 1 ≤ V.heap.size := by have := TY.lt; omega
          replace TY := TY.later hb2 TY.lt
          replace BC := BC.trans (hb2.mono BC.size)
          clear hb2 oy
          obtain ⟨V3, hV3⟩ : ∃ Z, World.setCells W2 w.heap.size 0 [.int .i64 z.1, .slice z.2.1.1 z.2.1.2.2.length z.2.1.2.1, .int .i64 z.2.2] = Z := ⟨_, rfl⟩
          have TY_ : Blk w.heap.size [.int .i64 z.1, .slice z.2.1.1 z.2.1.2.2.length z.2.1.2.1, .int .i64 z.2.2] V3 := by rw [← hV3]; exact TY.sets [.int .i64 z.1, .slice z.2.1.1 z.2.1.2.2.length z.2.1.2.1, .int .i64 z.2.2] rfl
          have BC_ : Below w.heap.size w V3 := by rw [← hV3]; exact below_sets (Nat.le_refl _) [.int .i64 z.1, .slice z.2.1.1 z.2.1.2.2.length z.2.1.2.1, .int .i64 z.2.2] 0 _ BC
          have oz_ : OwT V.heap.size V3 z := by rw [← hV3]; exact OwT.far oz (sets_grown w.heap.size [.int .i64 z.1, .slice z.2.1.1 z.2.1.2.2.length z.2.1.2.1, .int .i64 z.2.2] 0 _) (by omega)
          have T0V3 := TY
          have HR := HG.out z true V3 (by rw [HQ.out, hz]) TY_ (OwT.le oz_ hs2) BC_
          clear TY_ oz_ BC_ HG TX
          go_wp2_with (first | (refine wpList_stB 59 _ _ (w.heap.size) 0 [.int .i64 y.1, .slice y.2.1.1 y.2.1.2.2.length y.2.1.2.1, .int .i64 y.2.2] [.int .i64 z.1, .slice z.2.1.1 z.2.1.2.2.length z.2.1.2.1, .int .i64 z.2.2] ie hie T0V3 (by rw [his]; rfl) (by simp) rfl rfl rfl rfl rfl ?_; try simp only [Act.put]; rw [hV3]) | fail)
          go_roundw
          case rel => exact HR
          case measure => simp [intOf]; omega
      · have hkb : (x.1 != kd) = true := by simpa using hk
        have HP : Hid (stepK kd (p, b0) (stT x) = (p, b0)) := by show _ = _; unfold stepK; rw [if_neg (show ¬ (stT x).1 = kd from hk)]
        have HR := HG.out y b0 V (by rw [HP.out]; exact congrArg (·, b0) HY.out.symm) TY oy BC
        have d0 := TX.at 0 rfl
        have HKD : Hid (¬ x.1 = kd) := hk
        clear hk HG HP TY oy BC
        go_wp2
        try rw [hV]
        go_roundw
        case rel => exact HR
        case measure => simp [intOf]; omega
    · obtain rfl : j = xs.length := by omega
      have hlt2 : ¬ (xs.length : Int) < (xs.length : Int) := by omega
      obtain ⟨V4, hV4⟩ : ∃ Z, World.setCells wr w.heap.size 0 [.int .i64 y.1, .slice y.2.1.1 y.2.1.2.2.length y.2.1.2.1, .int .i64 y.2.2] = Z := ⟨_, rfl⟩
      have TF : Blk w.heap.size [.int .i64 y.1, .slice y.2.1.1 y.2.1.2.2.length y.2.1.2.1, .int .i64 y.2.2] V4 := by rw [← hV4]; exact TY.sets [.int .i64 y.1, .slice y.2.1.1 y.2.1.2.2.length y.2.1.2.1, .int .i64 y.2.2] rfl
      have BF : Below w.heap.size w V4 := by rw [← hV4]; exact below_sets (Nat.le_refl _) [.int .i64 y.1, .slice y.2.1.1 y.2.1.2.2.length y.2.1.2.1, .int .i64 y.2.2] 0 _ BC
      have oF : OwT (w.heap.size + 1) V4 y := by rw [← hV4]; exact OwT.far oy (sets_grown w.heap.size [.int .i64 y.1, .slice y.2.1.1 y.2.1.2.2.length y.2.1.2.1, .int .i64 y.2.2] 0 _) (by omega)
      have hbb : (ofK kd ((xs.map stT).take xs.length)).2 = fin.2 := by rw [HF.out]
      rw [hbb]
      have HY2 : Hid (stT y = fin.1) := by show _ = _; rw [HF.out]; exact HY.out
      obtain ⟨fb, hfb⟩ : ∃ fb, fin.2 = fb := ⟨_, rfl⟩
      have HFB : Hid (fin.2 = fb) := hfb
      rw [hfb]
      clear hbb hfb HY HF hacc hall oy
      have u0 := TY.at 0 rfl
      have u1 := TY.at 1 rfl
      have u2 := TY.at 2 rfl
      go_wp2_with (first | (refine wpList_stB 59 _ _ (w.heap.size) 0 [.int .i64 y.1, .slice y.2.1.1 y.2.1.2.2.length y.2.1.2.1, .int .i64 y.2.2] [.int .i64 y.1, .slice y.2.1.1 y.2.1.2.2.length y.2.1.2.1, .int .i64 y.2.2] ie hie TY (by rw [his]; rfl) (by simp) rfl rfl rfl rfl rfl ?_; try simp only [Act.put]; rw [hV4]) | fail)
      exact bodyPost_ret (res_B2 rfl _ _ w.heap.size [.int .i64 y.1, .slice y.2.1.1 y.2.1.2.2.length y.2.1.2.1, .int .i64 y.2.2] (.bool fb) ie hie (Try.isAgg59) TF his.symm rfl rfl) rfl ⟨⟨y, by rw [HFB.out], HY2.out, oF.le (by omega)⟩, BF⟩
end Go.Proofs.Ytjbbhegijlnndaa.Nd

set_option linter.unusedVariables false
set_option maxRecDepth 100000
namespace Go.Proofs.Ytjbbhegijlnndaa.Nd
open Go Go.RowKit Go.Joins Own Draw Go.Proofs.Ytjbbhegijlnndaa

/-- A row of rules in memory of the call's own, no two with their Sets in one place. -/
def NrmP (l : List PT) (B : Nat) (e : Ending) (w : World) : Prop := ∃ q : Rw TT, e = .returned (.slice q.1 q.2.2.length q.2.1) ∧ rsT q = l ∧ RoT B w q ∧ ApT q
theorem ap_new {B B' : Nat} {w w' : World} {q : Rw TT} {y : TT} (hq : RoT B w q) (hy : OwT B' w' y) (h : w.heap.size ≤ B') : ∀ k, kbT y = some k → ∀ z ∈ q.2.2, kbT z ≠ some k := fun k hk z hz e => by
  have h1 := (World.ownsRow.lt (hq.2 z hz) k e).2
  have h2 := (World.ownsRow.lt hy k hk).1
  omega
theorem RoT.nil (B : Nat) (w : World) : RoT B w (none, 0, []) := ⟨World.ownsRow_nil _ _ _ _, fun x hx => by cases hx⟩
theorem ApT.nil (a : Option Addr) (c : Nat) : ApT (a, c, []) := List.Pairwise.nil
set_option maxHeartbeats 3200000 in
theorem implNormal_is (r : Rw TT) (w : World) (hr : RpT w r) (hl : ∀ x ∈ r.2.2, x.2.1.2.2.length ≤ 1048576) (hx : r.2.2.length ≤ 1048576) :
    Calls Try.prog 14 #[.slice r.1 r.2.2.length r.2.1] w fun e w' => NrmP (nrmP (rsT r)) w.heap.size e w' ∧ Below w.heap.size w w' := by
  have K0 := implRulesOk_is r w hr hl hx
  have HN : Hid (nrmP (rsT r) = if okL (rsT r) = true then nrmK (rsT r) 5 else []) := (rfl : nrmP (rsT r) = _)
  generalize nrmP (rsT r) = nv at HN ⊢
  go_enter Try.func14, Try.ntmps14
  go_wp2_with fail
  refine K0.mono ?_
  clear K0
  rintro en w1 ⟨rfl, BC⟩
  by_cases hok : okL (rsT r) = true
  · rw [hok]
    have HOK : Hid (okL (rsT r) = true) := hok
    have HN2 : Hid (nv = nrmK (rsT r) 5) := by show _ = _; rw [HN.out, if_pos hok]
    clear HN hok hl hx
    go_wp2
    go_loopw [3, 4] (fun sv kv wr => ∃ (i : Nat) (q : Rw TT), i ≤ 5 ∧ kv = .int .i64 ((i : Int) + 1) ∧ sv = .slice q.1 q.2.2.length q.2.1 ∧ Hid (rsT q = nrmK (rsT r) i) ∧ RoT w.heap.size wr q ∧ Hid (ApT q) ∧ q.2.2.length ≤ i ∧ Below w.heap.size w wr) (fun _ kv _ => 6 - (intOf kv).toNat)
    case atStart => exact ⟨0, (none, 0, []), by omega, rfl, rfl, rfl, RoT.nil _ _, ApT.nil _ _, Nat.le_refl _, BC⟩
    case round =>
      clear BC
      obtain ⟨i, q, hi, rfl, rfl, HQ, ro, HA, hql, BC⟩ := hrel
      by_cases hlt : i < 5
      · have hlt2 : (i : Int) + 1 ≤ 5 := by omega
        have K := ofKind_is r ((i : Int) + 1) wr (hr.later BC) HOK.out
        have HS : Hid (nrmK (rsT r) (i + 1) = nrmK (rsT r) i ++ if (ofK ((i : Int) + 1) (rsT r)).2 = true then [(ofK ((i : Int) + 1) (rsT r)).1] else []) := (rfl : nrmK (rsT r) (i + 1) = _)
        generalize ofK ((i : Int) + 1) (rsT r) = f at K HS
        obtain ⟨p, b⟩ := f
        go_wp2_with fail
        refine K.mono ?_
        clear K
        rintro en W1 ⟨⟨y, rfl, hy, oy⟩, hb⟩
        dsimp only at hy ⊢
        have HNEW : Hid (∀ k, kbT y = some k → ∀ z ∈ q.2.2, kbT z ≠ some k) := ap_new ro oy (Nat.le_refl _)
        have hwW : w.heap.size ≤ wr.heap.size := BC.size
        replace ro := ro.later hb
        replace oy := oy.le hwW
        replace BC := BC.trans (hb.mono BC.size)
        clear hb
        obtain ⟨V, hV⟩ : ∃ V, W1.alloc (.cells #[.int .i64 y.1, .slice y.2.1.1 y.2.1.2.2.length y.2.1.2.1, .int .i64 y.2.2] 59) = V := ⟨_, rfl⟩
        have XA : Below W1.heap.size W1 V := by rw [← hV]; exact (Below.refl _ _).alloc (Nat.le_refl _) _
        have TV : Blk W1.heap.size [.int .i64 y.1, .slice y.2.1.1 y.2.1.2.2.length y.2.1.2.1, .int .i64 y.2.2] V := by rw [← hV]; exact Blk.new _ _ _
        replace ro := ro.later XA
        replace oy := oy.later XA
        replace BC := BC.trans (XA.mono BC.size)
        clear XA
        cases b with
        | false =>
          have HQ2 : Hid (rsT q = nrmK (rsT r) (i + 1)) := by show _ = _; rw [HS.out, HQ.out]; simp
          clear HS HQ TV
          go_wp2
          try rw [hV]
          go_roundw
          case rel => exact ⟨i + 1, q, by omega, by go_num, rfl, HQ2, ro, HA, by omega, BC⟩
          case measure => simp [intOf]; omega
        | true =>
          have HQ2 : Hid (rsT (q.1, q.2.1, q.2.2 ++ [y]) = nrmK (rsT r) (i + 1)) := by
            show _ = _
            rw [HS.out, ← HQ.out]
            unfold rsT
            dsimp only
            rw [List.map_append, List.map_cons, List.map_nil, hy]
            rfl
          clear HS HQ hy
          obtain ⟨VA, hVA⟩ : ∃ Z, V.alloc (.cells #[.int .i64 y.1, .slice y.2.1.1 y.2.1.2.2.length y.2.1.2.1, .int .i64 y.2.2] 59) = Z := ⟨_, rfl⟩
          have XA : Below V.heap.size V VA := by rw [← hVA]; exact (Below.refl _ _).alloc (Nat.le_refl _) _
          have TA : Blk V.heap.size [.int .i64 y.1, .slice y.2.1.1 y.2.1.2.2.length y.2.1.2.1, .int .i64 y.2.2] VA := by rw [← hVA]; exact Blk.new _ _ _
          replace ro := ro.later XA
          replace oy := oy.later XA
          replace BC := BC.trans (XA.mono BC.size)
          clear XA
          obtain ⟨jt, hjt, hjz, hjs, hjb⟩ := parts_of info59
          have hBA := BC.size
          have u0 := TV.at 0 rfl
          have u1 := TV.at 1 rfl
          have u2 := TV.at 2 rfl
          go_wp2_with (first | (at_builtin; first | refine wpList_append_where _ rfl _ _ 24 rfl (w.heap.size) 59 jt _ 3 40 Try.underlying24 hjt hjz hjs hjb rfl (by decide) _ _ _ rfl ro.1 ⟨V.heap.size, 0, none⟩ 1 1 [.int .i64 y.1, .slice y.2.1.1 y.2.1.2.2.length y.2.1.2.1, .int .i64 y.2.2] rfl rfl (news_box TA) (fun u hu => by simp at hu; rcases hu with rfl | rfl | rfl <;> rfl) ?c3 ?c4 hBA (by decide) ?_ | (rw [hVA]; refine wpList_append_where _ rfl _ _ 24 rfl (w.heap.size) 59 jt _ 3 40 Try.underlying24 hjt hjz hjs hjb rfl (by decide) _ _ _ rfl ro.1 ⟨V.heap.size, 0, none⟩ 1 1 [.int .i64 y.1, .slice y.2.1.1 y.2.1.2.2.length y.2.1.2.1, .int .i64 y.2.2] rfl rfl (news_box TA) (fun u hu => by simp at hu; rcases hu with rfl | rfl | rfl <;> rfl) ?c3 ?c4 hBA (by decide) ?_)) | go_in)
          case c3 => unfold maxLen; omega
          case c4 => omega
          intro vA wA ownA hgA hwA
          obtain ⟨na, nc, rfl, _⟩ := own_shape ownA
          obtain ⟨RA, CA, OA⟩ := put_mem (x := y) ro oy ownA hgA hwA
          have APF : Hid (ApT (na, nc, q.2.2 ++ [y])) := ap_put HA.out HNEW.out
          have BF : Below w.heap.size w wA := BC.grown hgA BC.size (fun k e => (World.ownsRow.lt ro.1 k e).1)
          have hqe : (q.2.2 ++ [y]).length = q.2.2.length + 1 := by simp
          have HR : ∃ (i' : Nat) (q' : Rw TT), i' ≤ 5 ∧ Value.int .i64 ((i : Int) + 1 + 1) = .int .i64 ((i' : Int) + 1) ∧ Value.slice na (q.2.2.length + 1) nc = .slice q'.1 q'.2.2.length q'.2.1 ∧ Hid (rsT q' = nrmK (rsT r) i') ∧ RoT w.heap.size wA q' ∧ Hid (ApT q') ∧ q'.2.2.length ≤ i' ∧ Below w.heap.size w wA :=
            ⟨i + 1, (na, nc, q.2.2 ++ [y]), by omega, by go_num, by dsimp only; rw [hqe], HQ2, RA, APF, by dsimp only; rw [hqe]; omega, BF⟩
          clear RA OA CA APF BF HQ2 HNEW HA ro oy BC hgA hwA ownA TV TA hV hVA hqe u0 u1 u2
          go_wp2
          go_roundw
          case rel => exact HR
          case measure => simp [intOf]; omega
      · obtain rfl : i = 5 := by omega
        go_wp2
        go_ret
        exact ⟨⟨q, rfl, by rw [HQ.out, HN2.out], ro, HA.out⟩, BC⟩
  · have HN2 : Hid (nv = []) := by show _ = _; rw [HN.out, if_neg hok]
    rw [Bool.not_eq_true] at hok
    rw [hok]
    clear HN hok
    go_wp2
    go_ret
    exact ⟨⟨(none, 0, []), rfl, by rw [HN2.out]; rfl, RoT.nil _ _, ApT.nil _ _⟩, BC⟩
end Go.Proofs.Ytjbbhegijlnndaa.Nd
