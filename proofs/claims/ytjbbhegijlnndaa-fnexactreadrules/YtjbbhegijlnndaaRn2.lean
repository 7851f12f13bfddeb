/- The rule of a kind that rules come to: the program. -/
import Derived.Test.YtjbbhegijlnndaaRn1
set_option linter.unusedVariables false
set_option maxRecDepth 100000
namespace Go.Proofs.Ytjbbhegijlnndaa.Nd
open Go Go.RowKit Go.Joins Own Draw Go.Proofs.Ytjbbhegijlnndaa

/-- The rule that was found, and is there one. -/
def OfKP (f : PT × Bool) (B : Nat) (e : Ending) (w : World) : Prop := ∃ y : TT, e = .returned (.tuple #[vT y, .bool f.2]) ∧ stT y = f.1 ∧ OwT B w y
set_option maxHeartbeats 6400000 in
theorem ofKind_is (r : Rw TT) (kd : Int) (w : World) (hr : RpT w r) (hok : okL (rsT r) = true) :
    Calls Try.prog 43 #[.slice r.1 r.2.2.length r.2.1, .int .i64 kd] w fun e w' => OfKP (ofK kd (rsT r)) w.heap.size e w' ∧ Below w.heap.size w w' := by
  obtain ⟨ie, hie, his⟩ := info_T
  obtain ⟨a, cap, xs⟩ := r
  obtain ⟨hrow, hdp⟩ := hr
  dsimp only at hrow hdp ⊢
  have hlen : xs.length ≤ 20 := by have := (okL_mem hok).1; simpa [rsT] using this
  have hall : ∀ j (h : j < xs.length), okP (stT xs[j]) = true := fun j h => (okL_mem hok).2 _ (List.mem_map_of_mem (List.getElem_mem h))
  have hacc : ∀ j, AccOk kd (ofK kd ((xs.map stT).take j)) := fun j => ofK_of hok kd j
  clear hok
  have HF : Hid (ofK kd (rsT (a, cap, xs)) = ofK kd ((xs.map stT).take xs.length)) := by show _ = _; rw [List.take_of_length_le (by simp)]; rfl
  generalize ofK kd (rsT (a, cap, xs)) = fin at HF ⊢
  obtain ⟨V0, hV0⟩ : ∃ V, w.alloc (.cells #[.int .i64 0, .slice none 0 0, .int .i64 0] 59) = V := ⟨_, rfl⟩
  have TY : Blk w.heap.size [.int .i64 0, .slice none 0 0, .int .i64 0] V0 := by rw [← hV0]; exact Blk.new _ _ _
  have BC : Below w.heap.size w V0 := by rw [← hV0]; exact (Below.refl _ _).alloc (Nat.le_refl _) _
  go_enter Try.func43, Try.ntmps43
  go_wp2
  try rw [hV0]
  go_loopw [5, 10] (fun okv iv wr => ∃ (j : Nat) (y : TT), j ≤ xs.length ∧ iv = .int .i64 j ∧ okv = .bool (ofK kd ((xs.map stT).take j)).2 ∧ Hid (stT y = (ofK kd ((xs.map stT).take j)).1) ∧ Blk w.heap.size [.int .i64 y.1, .slice y.2.1.1 y.2.1.2.2.length y.2.1.2.1, .int .i64 y.2.2] wr ∧ OwT (w.heap.size + 1) wr y ∧ Below w.heap.size w wr) (fun _ iv _ => xs.length - (intOf iv).toNat)
  case atStart => exact ⟨0, (0, (none, 0, []), 0), Nat.zero_le _, rfl, rfl, rfl, TY, World.ownsRow_nil _ _ _ _, BC⟩
  case round =>
    clear TY BC hV0
    obtain ⟨j, y, hj, rfl, rfl, HY, TY, oy, BC⟩ := hrel
    by_cases hlt : j < xs.length
    · obtain ⟨b, off, rfl, hb, hc⟩ := hrow j hlt
      have hlt2 : (j : Int) < (xs.length : Int) := by omega
      have hsn : (xs.map stT).take (j + 1) = (xs.map stT).take j ++ [stT xs[j]] := by rw [List.take_succ_eq_append_getElem (by simpa using hlt)]; simp
      have HS : Hid (ofK kd ((xs.map stT).take (j + 1)) = stepK kd (ofK kd ((xs.map stT).take j)) (stT xs[j])) := by show _ = _; rw [hsn, ofK_snoc]
      have hA := hacc j
      have hO := hall j hlt
      have hD := hdp _ (List.getElem_mem hlt)
      have c0 : wr.cell? ⟨b, off + j * 3, none⟩ = some (.int .i64 xs[j].1) := (BC.cell (p := ⟨b, off + j * 3, none⟩) hb).trans (hc 0 _ rfl)
      have c1 : wr.cell? ⟨b, off + j * 3 + 1, none⟩ = some (.slice xs[j].2.1.1 xs[j].2.1.2.2.length xs[j].2.1.2.1) := (BC.cell (p := ⟨b, off + j * 3 + 1, none⟩) hb).trans (hc 1 _ rfl)
      have c2 : wr.cell? ⟨b, off + j * 3 + 2, none⟩ = some (.int .i64 xs[j].2.2) := (BC.cell (p := ⟨b, off + j * 3 + 2, none⟩) hb).trans (hc 2 _ rfl)
      clear hc hsn
      generalize hx : xs[j] = x at HS hO hD c0 c1 c2
      clear hx
      generalize ofK kd ((xs.map stT).take j) = acc at HY HS hA
      have HG : Hid (∀ (z : TT) (bb : Bool) (W : World), stepK kd acc (stT x) = (stT z, bb) → Blk w.heap.size [.int .i64 z.1, .slice z.2.1.1 z.2.1.2.2.length z.2.1.2.1, .int .i64 z.2.2] W → OwT (w.heap.size + 1) W z → Below w.heap.size w W → ∃ (j' : Nat) (y' : TT), j' ≤ xs.length ∧ Value.int .i64 ((j : Int) + 1) = .int .i64 j' ∧ Value.bool bb = .bool (ofK kd ((xs.map stT).take j')).2 ∧ Hid (stT y' = (ofK kd ((xs.map stT).take j')).1) ∧ Blk w.heap.size [.int .i64 y'.1, .slice y'.2.1.1 y'.2.1.2.2.length y'.2.1.2.1, .int .i64 y'.2.2] W ∧ OwT (w.heap.size + 1) W y' ∧ Below w.heap.size w W) :=
        fun z bb W h1 h2 h3 h4 => ⟨j + 1, z, by omega, by go_num, by rw [HS.out, h1], by show _ = _; rw [HS.out, h1], h2, h3, h4⟩
      clear HS
      obtain ⟨V, hV⟩ : ∃ V, wr.alloc (.cells #[.int .i64 x.1, .slice x.2.1.1 x.2.1.2.2.length x.2.1.2.1, .int .i64 x.2.2] 59) = V := ⟨_, rfl⟩
      have XA : Below wr.heap.size wr V := by rw [← hV]; exact (Below.refl _ _).alloc (Nat.le_refl _) _
      have TX : Blk wr.heap.size [.int .i64 x.1, .slice x.2.1.1 x.2.1.2.2.length x.2.1.2.1, .int .i64 x.2.2] V := by rw [← hV]; exact Blk.new _ _ _
      have hwr : w.heap.size < wr.heap.size := TY.lt
      replace TY := TY.later XA hwr
      replace oy := oy.later XA
      replace BC := BC.trans (XA.mono BC.size)
      have hsV : wr.heap.size < V.heap.size := TX.lt
      clear XA
      obtain ⟨p, b0⟩ := acc
      by_cases hk : x.1 = kd
      · have hkb : (x.1 != kd) = false := by rw [hk]; simp
        have HP : Hid (stepK kd (p, b0) (stT x) = if b0 = true then (joinP p (stT x), true) else (stT x, true)) := by show _ = _; unfold stepK; rw [if_pos (show (stT x).1 = kd from hk)]
        have HKD : Hid (x.1 = kd) := hk
        clear hk
        cases b0 with
        | false =>
          have K := joined_is x x
          have HQ : Hid (stepK kd (p, false) (stT x) = (joinP (stT x) (stT x), true)) := by show _ = _; rw [HP.out, join_self hO]; rfl
          clear HP HY hA oy
          have g0 := TX.at 0 rfl
          have g1 := TX.at 1 rfl
          have g2 := TX.at 2 rfl
          have gy0 := TY.at 0 rfl
          have gy1 := TY.at 1 rfl
          have gy2 := TY.at 2 rfl
          obtain ⟨V1, hV1⟩ : ∃ Z, World.setCells V w.heap.size 0 [.int .i64 x.1, .slice x.2.1.1 x.2.1.2.2.length x.2.1.2.1, .int .i64 x.2.2] = Z := ⟨_, rfl⟩
          have TY_ : Blk w.heap.size [.int .i64 x.1, .slice x.2.1.1 x.2.1.2.2.length x.2.1.2.1, .int .i64 x.2.2] V1 := by rw [← hV1]; exact TY.sets [.int .i64 x.1, .slice x.2.1.1 x.2.1.2.2.length x.2.1.2.1, .int .i64 x.2.2] rfl
          have TX_ : Blk (wr.heap.size) [.int .i64 x.1, .slice x.2.1.1 x.2.1.2.2.length x.2.1.2.1, .int .i64 x.2.2] V1 := by rw [← hV1]; exact Blk.farS (by omega) [.int .i64 x.1, .slice x.2.1.1 x.2.1.2.2.length x.2.1.2.1, .int .i64 x.2.2] 0 _ TX
          have BC_ : Below w.heap.size w V1 := by rw [← hV1]; exact below_sets (Nat.le_refl _) [.int .i64 x.1, .slice x.2.1.1 x.2.1.2.2.length x.2.1.2.1, .int .i64 x.2.2] 0 _ BC
          have T0V1 := TY
          replace BC := BC_
          have TY := TY_
          have TX := TX_
          have hD2 := hD.later BC_
          have K2 := K V1 hD2 hD2 hO hO rfl
          clear K TX_
          have u0 := TY.at 0 rfl
          have u1 := TY.at 1 rfl
          have u2 := TY.at 2 rfl
          have v0 := TX.at 0 rfl
          have v1 := TX.at 1 rfl
          have v2 := TX.at 2 rfl
          go_wp2_with (first | (refine wpList_stB 59 _ _ (w.heap.size) 0 [.int .i64 y.1, .slice y.2.1.1 y.2.1.2.2.length y.2.1.2.1, .int .i64 y.2.2] [.int .i64 x.1, .slice x.2.1.1 x.2.1.2.2.length x.2.1.2.1, .int .i64 x.2.2] ie hie T0V1 (by rw [his]; rfl) (by simp) rfl rfl rfl rfl rfl ?_; try simp only [Act.put]; rw [hV1]) | fail)
          refine K2.mono ?_
          clear K2 u0 u1 u2 v0 v1 v2 g0 g1 g2 gy0 gy1 gy2
          rintro en W2 ⟨z, rfl, hz, oz, hb2⟩
          have hs2 : w.heap.size + 1 ≤ V1.heap.size := by have := TY.lt; omega
          replace TY := TY.later hb2 TY.lt
          replace BC := BC.trans (hb2.mono BC.size)
          clear hb2 T0V1 hV1 TY_ BC_
          obtain ⟨V3, hV3⟩ : ∃ Z, World.setCells W2 w.heap.size 0 [.int .i64 z.1, .slice z.2.1.1 z.2.1.2.2.length z.2.1.2.1, .int .i64 z.2.2] = Z := ⟨_, rfl⟩
          have TY_ : Blk w.heap.size [.int .i64 z.1, .slice z.2.1.1 z.2.1.2.2.length z.2.1.2.1, .int .i64 z.2.2] V3 := by rw [← hV3]; exact TY.sets [.int .i64 z.1, .slice z.2.1.1 z.2.1.2.2.length z.2.1.2.1, .int .i64 z.2.2] rfl
          have BC_ : Below w.heap.size w V3 := by rw [← hV3]; exact below_sets (Nat.le_refl _) [.int .i64 z.1, .slice z.2.1.1 z.2.1.2.2.length z.2.1.2.1, .int .i64 z.2.2] 0 _ BC
          have oz_ : OwT V1.heap.size V3 z := by rw [← hV3]; exact OwT.far oz (sets_grown w.heap.size [.int .i64 z.1, .slice z.2.1.1 z.2.1.2.2.length z.2.1.2.1, .int .i64 z.2.2] 0 _) (by omega)
          have T0V3 := TY
          have HR := HG.out z true V3 (by rw [HQ.out, hz]) TY_ (OwT.le oz_ hs2) BC_
          clear TY_ oz_ BC_ HG TX
          go_wp2_with (first | (refine wpList_stB 59 _ _ (w.heap.size) 0 [.int .i64 x.1, .slice x.2.1.1 x.2.1.2.2.length x.2.1.2.1, .int .i64 x.2.2] [.int .i64 z.1, .slice z.2.1.1 z.2.1.2.2.length z.2.1.2.1, .int .i64 z.2.2] ie hie T0V3 (by rw [his]; rfl) (by simp) rfl rfl rfl rfl rfl ?_; try simp only [Act.put]; rw [hV3]) | fail)
          go_roundw
          case rel => exact HR
          case measure => simp [intOf]; omega
        | true =>
          have hA2 : okP p = true ∧ p.1 = kd := by unfold AccOk at hA; rwa [if_pos rfl] at hA
          have hp : stT y = p := HY.out
          have HQ : Hid (stepK kd (p, true) (stT x) = (joinP (stT y) (stT x), true)) := by show _ = _; rw [HP.out, hp]; rfl
          have hoy : okP (stT y) = true := by rw [hp]; exact hA2.1
          have hyk : x.1 = y.1 := by have h1 : (stT y).1 = kd := by rw [hp]; exact hA2.2
                                     exact HKD.out.trans h1.symm
          have K2 := joined_is y x V oy.dp (hD.later BC) hoy hO hyk
          clear HP HY hA hA2 hp hoy hyk
          have u0 := TY.at 0 rfl
          have u1 := TY.at 1 rfl
          have u2 := TY.at 2 rfl
          have v0 := TX.at 0 rfl
          have v1 := TX.at 1 rfl
          have v2 := TX.at 2 rfl
          go_wp2_with fail
          try rw [hV]
          refine K2.mono ?_
          clear K2 u0 u1 u2 v0 v1 v2 hV
          rintro en W2 ⟨z, rfl, hz, oz, hb2⟩
          have hs2 : w.heap.size + 1 ≤ V.heap.size := by have := TY.lt; omega
          replace TY := TY.later hb2 TY.lt
          replace BC := BC.trans (hb2.mono BC.size)
          clear hb2 oy
          obtain ⟨V3, hV3⟩ : ∃ Z, World.setCells W2 w.heap.size 0 [.int .i64 z.1, .slice z.2.1.1 z.2.1.2.2.length z.2.1.2.1, .int .i64 z.2.2] = Z := ⟨_, rfl⟩
          have TY_ : Blk w.heap.size [.int .i64 z.1, .slice z.2.1.1 z.2.1.2.2.length z.2.1.2.1, .int .i64 z.2.2] V3 := by rw [← hV3]; exact TY.sets [.int .i64 z.1, .slice z.2.1.1 z.2.1.2.2.length z.2.1.2.1, .int .i64 z.2.2] rfl
          have BC_ : Below w.heap.size w V3 := by rw [← hV3]; exact below_sets (Nat.le_refl _) [.int .i64 z.1, .slice z.2.1.1 z.2.1.2.2.length z.2.1.2.1, .int .i64 z.2.2] 0 _ BC
          have oz_ : OwT V.heap.size V3 z := by rw [← hV3]; exact OwT.far oz (sets_grown w.heap.size [.int .i64 z.1, .slice z.2.1.1 z.2.1.2.2.length z.2.1.2.1, .int .i64 z.2.2] 0 _) (by omega)
          have T0V3 := TY
          have HR := HG.out z true V3 (by rw [HQ.out, hz]) TY_ (OwT.le oz_ hs2) BC_
          clear TY_ oz_ BC_ HG TX
          go_wp2_with (first | (refine wpList_stB 59 _ _ (w.heap.size) 0 [.int .i64 y.1, .slice y.2.1.1 y.2.1.2.2.length y.2.1.2.1, .int .i64 y.2.2] [.int .i64 z.1, .slice z.2.1.1 z.2.1.2.2.length z.2.1.2.1, .int .i64 z.2.2] ie hie T0V3 (by rw [his]; rfl) (by simp) rfl rfl rfl rfl rfl ?_; try simp only [Act.put]; rw [hV3]) | fail)
          go_roundw
          case rel => exact HR
          case measure => simp [intOf]; omega
      · have hkb : (x.1 != kd) = true := by simpa using hk
        have HP : Hid (stepK kd (p, b0) (stT x) = (p, b0)) := by show _ = _; unfold stepK; rw [if_neg (show ¬ (stT x).1 = kd from hk)]
        have HR := HG.out y b0 V (by rw [HP.out]; exact congrArg (·, b0) HY.out.symm) TY oy BC
        have d0 := TX.at 0 rfl
        have HKD : Hid (¬ x.1 = kd) := hk
        clear hk HG HP TY oy BC
        go_wp2
        try rw [hV]
        go_roundw
        case rel => exact HR
        case measure => simp [intOf]; omega
    · obtain rfl : j = xs.length := by omega
      have hlt2 : ¬ (xs.length : Int) < (xs.length : Int) := by omega
      obtain ⟨V4, hV4⟩ : ∃ Z, World.setCells wr w.heap.size 0 [.int .i64 y.1, .slice y.2.1.1 y.2.1.2.2.length y.2.1.2.1, .int .i64 y.2.2] = Z := ⟨_, rfl⟩
      have TF : Blk w.heap.size [.int .i64 y.1, .slice y.2.1.1 y.2.1.2.2.length y.2.1.2.1, .int .i64 y.2.2] V4 := by rw [← hV4]; exact TY.sets [.int .i64 y.1, .slice y.2.1.1 y.2.1.2.2.length y.2.1.2.1, .int .i64 y.2.2] rfl
      have BF : Below w.heap.size w V4 := by rw [← hV4]; exact below_sets (Nat.le_refl _) [.int .i64 y.1, .slice y.2.1.1 y.2.1.2.2.length y.2.1.2.1, .int .i64 y.2.2] 0 _ BC
      have oF : OwT (w.heap.size + 1) V4 y := by rw [← hV4]; exact OwT.far oy (sets_grown w.heap.size [.int .i64 y.1, .slice y.2.1.1 y.2.1.2.2.length y.2.1.2.1, .int .i64 y.2.2] 0 _) (by omega)
      have hbb : (ofK kd ((xs.map stT).take xs.length)).2 = fin.2 := by rw [HF.out]
      rw [hbb]
      have HY2 : Hid (stT y = fin.1) := by show _ = _; rw [HF.out]; exact HY.out
      obtain ⟨fb, hfb⟩ : ∃ fb, fin.2 = fb := ⟨_, rfl⟩
      have HFB : Hid (fin.2 = fb) := hfb
      rw [hfb]
      clear hbb hfb HY HF hacc hall oy
      have u0 := TY.at 0 rfl
      have u1 := TY.at 1 rfl
      have u2 := TY.at 2 rfl
      go_wp2_with (first | (refine wpList_stB 59 _ _ (w.heap.size) 0 [.int .i64 y.1, .slice y.2.1.1 y.2.1.2.2.length y.2.1.2.1, .int .i64 y.2.2] [.int .i64 y.1, .slice y.2.1.1 y.2.1.2.2.length y.2.1.2.1, .int .i64 y.2.2] ie hie TY (by rw [his]; rfl) (by simp) rfl rfl rfl rfl rfl ?_; try simp only [Act.put]; rw [hV4]) | fail)
      exact bodyPost_ret (res_B2 rfl _ _ w.heap.size [.int .i64 y.1, .slice y.2.1.1 y.2.1.2.2.length y.2.1.2.1, .int .i64 y.2.2] (.bool fb) ie hie (Try.isAgg59) TF his.symm rfl rfl) rfl ⟨⟨y, by rw [HFB.out], HY2.out, oF.le (by omega)⟩, BF⟩
end Go.Proofs.Ytjbbhegijlnndaa.Nd
