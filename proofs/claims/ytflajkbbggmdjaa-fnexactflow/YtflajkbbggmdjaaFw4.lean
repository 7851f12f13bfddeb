/- Flow of the model. -/
import Derived.Test.YtflajkbbggmdjaaFw3
set_option linter.unusedVariables false
set_option maxRecDepth 100000
namespace Go.Proofs.Ytflajkbbggmdjaa
open Go Go.RowKit Go.Joins Own Draw

/-- Where one is on the way. -/
def OnW (c : Cf) (a b : Int) (ys : List Int) (x : Int) : Prop := (x = a ∧ ys = []) ∨ (¬ a = b ∧ ¬ nhV c a b = -1 ∧ x = nhV c a b ∧ ys = [a]) ∨ (¬ a = b ∧ ¬ nhV c a b = -1 ∧ ¬ nhV c a b = b ∧ x = b ∧ ys = [a, nhV c a b])
theorem OnW.there {c : Cf} {a b : Int} {ys : List Int} {x : Int} (h : OnW c a b ys x) (hx : x = b) : wayL c a b = ys ++ [x] := by
  rcases h with ⟨rfl, rfl⟩ | ⟨h0, h1, h2, rfl⟩ | ⟨h0, h1, h2, h3, rfl⟩
  · rw [hx, wayL_same]; rfl
  · rw [wayL_one h0 h1 (h2.symm.trans hx), hx]; rfl
  · rw [wayL_two h0 h1 h2, h3]; rfl
theorem OnW.none {c : Cf} {a b : Int} {ys : List Int} {x : Int} (h : OnW c a b ys x) (hx : ¬ x = b) (hn : nhV c x b = -1) : wayL c a b = [] := by
  rcases h with ⟨rfl, rfl⟩ | ⟨h0, h1, h2, rfl⟩ | ⟨h0, h1, h2, h3, rfl⟩
  · exact wayL_none hx hn
  · have h4 := hop_on h1 (fun h => hx (h2.trans h))
    rw [← h2, hn] at h4
    have := hop_to h1
    omega
  · exact absurd h3 hx
theorem OnW.next {c : Cf} {a b : Int} {ys : List Int} {x : Int} (h : OnW c a b ys x) (hx : ¬ x = b) (hn : ¬ nhV c x b = -1) : OnW c a b (ys ++ [x]) (nhV c x b) ∧ (ys ++ [x]).length ≤ 2 := by
  rcases h with ⟨rfl, rfl⟩ | ⟨h0, h1, h2, rfl⟩ | ⟨h0, h1, h2, h3, rfl⟩
  · exact ⟨Or.inr (Or.inl ⟨hx, hn, rfl, rfl⟩), by simp⟩
  · have h4 := hop_on h1 (fun h => hx (h2.trans h))
    rw [← h2] at h4
    exact ⟨Or.inr (Or.inr ⟨h0, h1, fun h => hx (h2.trans h), h4, by rw [h2]; rfl⟩), by simp⟩
  · exact absurd h3 hx
theorem OnW.len {c : Cf} {a b : Int} {ys : List Int} {x : Int} (h : OnW c a b ys x) : ys.length ≤ 2 := by
  rcases h with ⟨_, rfl⟩ | ⟨_, _, _, rfl⟩ | ⟨_, _, _, _, rfl⟩ <;> simp
theorem ro_serv {c : Cf} {j : Nat} (h0 : confB c = true) (hj : j < 3) (hl : j < c.S.length) : roV c (3 + (j : Int)) = c.S[j] := by
  unfold roV
  rw [if_pos (by rw [h0, (btw_iff _ _ _).2 (by omega)]; rfl), if_neg (by omega), show (3 + (j : Int) - 3).toNat = j by omega, List.getD_eq_getElem?_getD, List.getElem?_eq_getElem hl]
  rfl
set_option maxRecDepth 100000 in
set_option maxHeartbeats 6400000 in
theorem specFlow_is (c : Cf) (p s : Int) (t : TR) (q : Int) (w : World) (C : CfAt c w) (KC : CfOk c) :
    Calls Try.prog 11 #[c.val, .int .i64 p, .int .i64 s, vR t, .int .i64 q] w fun en w' => ∃ (ra : Option Addr) (rc : Nat), en = .returned (.slice ra (flowL c p s t q).length rc) ∧ FOwn 71 9 cA w.heap.size ra rc (flowL c p s t q) w' ∧ Below w.heap.size w w' := by
  obtain ⟨i0, hi, hz0, hz1, hz2⟩ := info_parts info71
  obtain ⟨t0, t1, t2⟩ := t
  obtain ⟨W1, hW1⟩ : ∃ W1, w.alloc (.cells #[.slice c.ua c.U.length c.uc, .slice c.sa c.S.length c.sc, .slice c.la c.L.length c.lc, .slice c.xa c.X.length c.xc, .int .i64 c.k] 30) = W1 := ⟨_, rfl⟩
  have B1 : Below w.heap.size w W1 := by rw [← hW1]; exact (Below.refl _ _).alloc (Nat.le_refl _) _
  have T1 : Blk w.heap.size c.cells W1 := by rw [← hW1]; exact Blk.new _ _ _
  have Z1 : W1.heap.size = w.heap.size + 1 := by rw [← hW1]; simp
  obtain ⟨W2, hW2⟩ : ∃ W2, W1.alloc (.cells #[.int .i64 t0, .int .i64 t1, .int .i64 t2] 38) = W2 := ⟨_, rfl⟩
  have B2 : Below w.heap.size w W2 := by rw [← hW2]; exact B1.alloc B1.size _
  have T2 : Blk w.heap.size c.cells W2 := by rw [← hW2]; exact T1.alloc (by omega) _
  have R2 : Blk (w.heap.size + 1) [.int .i64 t0, .int .i64 t1, .int .i64 t2] W2 := by rw [← hW2, ← Z1]; exact Blk.new _ _ _
  have Z2 : W2.heap.size = w.heap.size + 2 := by rw [← hW2]; simp [Z1]
  obtain ⟨W3, hW3⟩ : ∃ W3, W2.alloc (.cells #[] 71) = W3 := ⟨_, rfl⟩
  have B3 : Below W2.heap.size W2 W3 := by rw [← hW3]; exact (Below.refl _ _).alloc (Nat.le_refl _) _
  have O3 : FOwn 71 9 cA (w.heap.size + 2) (some ⟨w.heap.size + 2, 0, none⟩) 0 [] W3 := by rw [← hW3, ← Z2]; exact World.ownsRow_lit _ _ _ (Nat.le_refl _) (by simp [maxLen]) rfl
  replace T2 := T2.later B3 T2.lt
  replace R2 := R2.later B3 R2.lt
  replace B2 := B2.trans (B3.mono B2.size)
  have d0 := T2.at 0 rfl
  have d1 := T2.at 1 rfl
  have d2 := T2.at 2 rfl
  have d3 := T2.at 3 rfl
  have d4 := T2.at 4 rfl
  have HO : Hid (okF c p s (t0, t1, t2) q = (confB c && (btw p 0 5 && (btw s 0 2 && (restB (t0, t1, t2) && btw q 0 7))))) := (rfl : okF c p s (t0, t1, t2) q = _)
  go_enter Try.func11, Try.ntmps11
  go_wp2_with fail
  try rw [hW1]
  try rw [hW2]
  try rw [hW3]
  refine (specOk_is c W3 (C.later B2) KC).mono ?_
  clear hW1 hW2 hW3 d0 d1 d2 d3 d4 B1 T1 Z1 B3 Z2
  rintro en w3 ⟨rfl, hb⟩
  replace T2 := T2.later hb T2.lt
  replace R2 := R2.later hb R2.lt
  replace B2 := B2.trans (hb.mono B2.size)
  replace O3 : FOwn 71 9 cA (w.heap.size + 2) (some ⟨w.heap.size + 2, 0, none⟩) 0 [] w3 := own_later O3 hb
  clear hb
  by_cases h0 : confB c = true
  rotate_left
  · rw [Bool.eq_false_iff.2 h0]
    have HV : Hid (flowL c p s (t0, t1, t2) q = []) := flow_no (by rw [HO.out, Bool.eq_false_iff.2 h0]; rfl)
    clear HO T2 R2
    go_wp2
    go_ret
    exact ⟨_, 0, by rw [HV.out]; rfl, by rw [HV.out]; exact O3.le (by omega), B2⟩
  rw [h0]
  go_wp2_with fail
  refine (spec_prin p _).mono ?_
  rintro en wx ⟨rfl, rfl⟩
  by_cases h1 : btw p 0 5 = true
  rotate_left
  · rw [Bool.eq_false_iff.2 h1]
    have HV : Hid (flowL c p s (t0, t1, t2) q = []) := flow_no (by rw [HO.out, h0, Bool.eq_false_iff.2 h1]; rfl)
    clear HO T2 R2
    go_wp2
    go_ret
    exact ⟨_, 0, by rw [HV.out]; rfl, by rw [HV.out]; exact O3.le (by omega), B2⟩
  rw [h1]
  by_cases s0 : 0 ≤ s
  rotate_left
  · have s0n : s < 0 := by omega
    have h2 : btw s 0 2 = false := by unfold btw; rw [show decide (0 ≤ s) = false by simp; omega]; rfl
    have HV : Hid (flowL c p s (t0, t1, t2) q = []) := flow_no (by rw [HO.out, h0, h1, h2]; rfl)
    clear HO T2 R2
    go_wp2
    go_ret
    exact ⟨_, 0, by rw [HV.out]; rfl, by rw [HV.out]; exact O3.le (by omega), B2⟩
  by_cases s2 : s < 3
  rotate_left
  · have s0n : ¬ s < 0 := by omega
    have h2 : btw s 0 2 = false := by unfold btw; rw [show decide (s ≤ 2) = false by simp; omega]; simp
    have HV : Hid (flowL c p s (t0, t1, t2) q = []) := flow_no (by rw [HO.out, h0, h1, h2]; rfl)
    clear HO T2 R2
    go_wp2
    go_ret
    exact ⟨_, 0, by rw [HV.out]; rfl, by rw [HV.out]; exact O3.le (by omega), B2⟩
  have s0n : ¬ s < 0 := by omega
  have s2n : ¬ 3 ≤ s := by omega
  have h2 : btw s 0 2 = true := (btw_iff _ _ _).2 (by omega)
  have e0 := R2.at 0 rfl
  have e1 := R2.at 1 rfl
  have e2 := R2.at 2 rfl
  go_wp2_with fail
  refine (restS_is (t0, t1, t2) _).mono ?_
  clear e0 e1 e2
  rintro en w4 ⟨rfl, hb⟩
  replace T2 := T2.later hb T2.lt
  replace R2 := R2.later hb R2.lt
  replace B2 := B2.trans (hb.mono B2.size)
  replace O3 : FOwn 71 9 cA (w.heap.size + 2) (some ⟨w.heap.size + 2, 0, none⟩) 0 [] w4 := own_later O3 hb
  clear hb
  by_cases h3 : restB (t0, t1, t2) = true
  rotate_left
  · rw [Bool.eq_false_iff.2 h3]
    have HV : Hid (flowL c p s (t0, t1, t2) q = []) := flow_no (by rw [HO.out, h0, h1, h2, Bool.eq_false_iff.2 h3]; rfl)
    clear HO T2 R2
    go_wp2
    go_ret
    exact ⟨_, 0, by rw [HV.out]; rfl, by rw [HV.out]; exact O3.le (by omega), B2⟩
  rw [h3]
  go_wp2_with fail
  refine (in_is q 0 7 _).mono ?_
  rintro en wx ⟨rfl, rfl⟩
  by_cases h4 : btw q 0 7 = true
  rotate_left
  · rw [show (decide (0 ≤ q) && decide (q ≤ 7)) = false from Bool.eq_false_iff.2 h4]
    have HV : Hid (flowL c p s (t0, t1, t2) q = []) := flow_no (by rw [HO.out, h0, h1, h2, h3, Bool.eq_false_iff.2 h4]; rfl)
    clear HO T2 R2
    go_wp2
    go_ret
    exact ⟨_, 0, by rw [HV.out]; rfl, by rw [HV.out]; exact O3.le (by omega), B2⟩
  rw [show (decide (0 ≤ q) && decide (q ≤ 7)) = true from h4]
  have HF : Hid (flowL c p s (t0, t1, t2) q = if wayL c (roV c p) (roV c (3 + s)) = [] then [] else actsF p s (t0, t1, t2) q (roV c p) (wayL c (roV c p) (roV c (3 + s)))) := by
    show _ = _
    unfold flowL
    rw [if_pos (by rw [HO.out, h0, h1, h2, h3, h4]; rfl)]
  obtain ⟨j, rfl⟩ : ∃ j : Nat, s = (j : Int) := ⟨s.toNat, by omega⟩
  have hj : j < 3 := by omega
  have hSl := (conf_len h0).2
  have hroS := ro_serv h0 hj (by omega)
  obtain ⟨b1, o1, hsa, hb1, hcs⟩ := C.hs j (by omega)
  rw [← hroS] at hcs
  have HSA : Hid (c.sa = some ⟨b1, o1, none⟩) := hsa
  clear hsa
  have hjS : (j : Int) < (c.S.length : Int) := by omega
  clear HO h1 h2 h3 h4 s0 s2 s0n s2n hroS hSl h0
  have d0 := T2.at 0 rfl
  have d1 := T2.at 1 rfl
  have d2 := T2.at 2 rfl
  have d3 := T2.at 3 rfl
  have d4 := T2.at 4 rfl
  go_wp2_with fail
  refine (specRO_is c p w4 (C.later B2) KC).mono ?_
  clear d0 d1 d2 d3 d4
  rintro en w5 ⟨rfl, hb⟩
  replace T2 := T2.later hb T2.lt
  replace R2 := R2.later hb R2.lt
  replace B2 := B2.trans (hb.mono B2.size)
  replace O3 : FOwn 71 9 cA (w.heap.size + 2) (some ⟨w.heap.size + 2, 0, none⟩) 0 [] w5 := own_later O3 hb
  clear hb
  generalize roV c p = a at HF ⊢
  generalize roV c (3 + (j : Int)) = b at HF hcs
  have zR := R2.lt
  obtain ⟨WN, hWN⟩ : ∃ WN, w5.alloc (.cells #[.int .i64 2, .int .i64 p, .int .i64 0, .int .i64 0, .int .i64 0, .int .i64 0, .int .i64 0, .int .i64 0, .string ⟨#[]⟩, .int .i64 4, .int .i64 a, .int .i64 0, .int .i64 0, .int .i64 0, .int .i64 0, .int .i64 0, .int .i64 0, .string ⟨#[]⟩, .int .i64 5, .int .i64 p, .int .i64 1, .int .i64 0, .int .i64 0, .int .i64 0, .int .i64 0, .int .i64 0, .string ⟨#[]⟩] 71) = WN := ⟨_, rfl⟩
  have BN : Below w5.heap.size w5 WN := by rw [← hWN]; exact (Below.refl _ _).alloc (Nat.le_refl _) _
  have FN : FRow 9 cA WN (some ⟨w5.heap.size, 0, none⟩) (headA p a) := by rw [← hWN]; exact lit_row _ _ _ rfl
  have zN : w5.heap.size ≤ WN.heap.size := BN.size
  have hnw := news_fl lA (by omega) FN
  replace O3 : WN.ownsRow (w.heap.size + 2) 71 9 (.slice (some ⟨w.heap.size + 2, 0, none⟩) 0 0) 0 (fl cA []) := own_later O3 BN
  replace T2 := T2.later BN T2.lt
  replace R2 := R2.later BN R2.lt
  replace B2 := B2.trans (BN.mono B2.size)
  have zB := B2.size
  clear FN BN
  go_wp2_with (first | (at_builtin; refine wpList_append_row _ rfl _ _ 36 rfl (w.heap.size + 2) 71 i0 _ 9 80 Try.underlying36 hi hz0 hz1 hz2 rfl (by decide) _ _ _ rfl O3 (some ⟨w5.heap.size, 0, none⟩) 3 3 (fl cA (headA p a)) rfl ?c1 hnw (one_acts _) ?c3 ?c4 ?c5 (by simp) ?_) | go_in)
  case c1 => rfl
  case c3 => unfold maxLen; omega
  case c4 => omega
  case c5 => omega
  intro vA wA ownA hgA
  obtain ⟨na, nc, rfl, _⟩ := own_shape ownA
  have hob : ∀ k, (Value.slice (some ⟨w.heap.size + 2, 0, none⟩) 0 0).ownBlock = some k → w.heap.size + 2 ≤ k := fun k hk => (O3.lt k hk).1
  replace T2 : Blk w.heap.size c.cells wA := T2.only3 hgA (fun h => by have := hob _ h; omega) (by omega)
  replace R2 : Blk (w.heap.size + 1) [.int .i64 t0, .int .i64 t1, .int .i64 t2] wA := R2.only3 hgA (fun h => by have := hob _ h; omega) (by omega)
  replace B2 : Below w.heap.size w wA := B2.grown hgA (by omega) (by intro k hk; have := hob _ hk; omega)
  replace ownA : FOwn 71 9 cA (w.heap.size + 2) na nc (headA p a ++ stepsA p (j : Int) (t0, t1, t2) 0 []) wA := ownA
  have HX0 : Hid ((headA p a ++ stepsA p (j : Int) (t0, t1, t2) 0 []).length = 3) := (rfl : (headA p a ++ stepsA p (j : Int) (t0, t1, t2) 0 []).length = 3)
  clear O3 hgA hnw hWN zR zN zB hob
  go_wp2
  go_loopw [11, 12, 13, 14, 15] (fun ov rv sv cv iv wr => ∃ (ys : List Int) (x : Int) (oa : Option Addr) (oc : Nat), OnW c a b ys x ∧ ov = .slice oa (headA p a ++ stepsA p (j : Int) (t0, t1, t2) 0 ys).length oc ∧ rv = .int .i64 x ∧ sv = .int .i64 (2 + 2 * (ys.length : Int)) ∧ cv = .int .i64 ((ys.length : Int) + 1) ∧ iv = .int .i64 (ys.length : Int) ∧ FOwn 71 9 cA (w.heap.size + 2) oa oc (headA p a ++ stepsA p (j : Int) (t0, t1, t2) 0 ys) wr ∧ Blk w.heap.size c.cells wr ∧ Blk (w.heap.size + 1) [.int .i64 t0, .int .i64 t1, .int .i64 t2] wr ∧ Below w.heap.size w wr) (fun _ _ _ _ iv _ => 4 - (intOf iv).toNat)
  case atStart => exact ⟨[], a, na, nc, Or.inl ⟨rfl, rfl⟩, rfl, rfl, rfl, rfl, rfl, ownA, T2, R2, B2⟩
  case round =>
    clear ownA T2 R2 B2 HX0
    obtain ⟨ys, x, oa, oc, HW, rfl, rfl, rfl, rfl, rfl, O, T, R, B⟩ := hrel
    have hyl := HW.len
    have hXl : (headA p a ++ stepsA p (j : Int) (t0, t1, t2) 0 ys).length ≤ 9 := by rw [List.length_append, stepsA_len, show (headA p a).length = 3 from rfl]; omega
    have HT0 : headA p a ++ stepsA p (j : Int) (t0, t1, t2) 0 ys ++ stepA p (j : Int) (t0, t1, t2) ys.length x = headA p a ++ stepsA p (j : Int) (t0, t1, t2) 0 (ys ++ [x]) := by
      rw [stepsA_snoc, List.append_assoc, Nat.zero_add]
    obtain ⟨Xs, hXs⟩ : ∃ Xs, Xs = headA p a ++ stepsA p (j : Int) (t0, t1, t2) 0 ys := ⟨_, rfl⟩
    obtain ⟨Ys, hYs⟩ : ∃ Ys, Ys = headA p a ++ stepsA p (j : Int) (t0, t1, t2) 0 (ys ++ [x]) := ⟨_, rfl⟩
    rw [← hXs, ← hYs] at HT0
    rw [← hXs] at O hXl ⊢
    have HT : Hid (Xs ++ stepA p (j : Int) (t0, t1, t2) ys.length x = Ys) := HT0
    have HY : Hid (Ys = headA p a ++ stepsA p (j : Int) (t0, t1, t2) 0 (ys ++ [x])) := hYs
    clear HT0 hXs hYs
    have HK2 : Hid ((ys ++ [x]).length = ys.length + 1) := by show _ = _; simp
    obtain ⟨k, hk⟩ : ∃ k, ys.length = k := ⟨_, rfl⟩
    rw [hk] at hyl HT HK2 ⊢
    have hk3 : (k : Int) ≤ 3 := by omega
    have zR := R.lt
    have g0 := R.at 0 rfl
    have g1 := R.at 1 rfl
    have g2 := R.at 2 rfl
    replace hk : Hid (ys.length = k) := hk
    obtain ⟨WN, hWN⟩ : ∃ WN, wr.alloc (.cells #[.int .i64 3, .int .i64 p, .int .i64 (k : Int), .int .i64 (j : Int), .int .i64 0, .int .i64 t0, .int .i64 t1, .int .i64 t2, .string ⟨#[]⟩, .int .i64 4, .int .i64 x, .int .i64 (2 + 2 * (k : Int)), .int .i64 0, .int .i64 0, .int .i64 0, .int .i64 0, .int .i64 0, .string ⟨#[]⟩, .int .i64 5, .int .i64 p, .int .i64 (2 + 2 * (k : Int) + 1), .int .i64 0, .int .i64 0, .int .i64 0, .int .i64 0, .int .i64 0, .string ⟨#[]⟩] 71) = WN := ⟨_, rfl⟩
    have BN : Below wr.heap.size wr WN := by rw [← hWN]; exact (Below.refl _ _).alloc (Nat.le_refl _) _
    have FN : FRow 9 cA WN (some ⟨wr.heap.size, 0, none⟩) (stepA p (j : Int) (t0, t1, t2) k x) := by rw [← hWN]; exact lit_row _ _ _ rfl
    have zN : wr.heap.size ≤ WN.heap.size := BN.size
    have hnw := news_fl lA (by omega) FN
    replace O : WN.ownsRow (w.heap.size + 2) 71 9 (.slice oa Xs.length oc) Xs.length (fl cA Xs) := own_later O BN
    replace T := T.later BN T.lt
    replace R := R.later BN R.lt
    replace B := B.trans (BN.mono B.size)
    have zB := B.size
    clear FN BN
    go_wp2_with (first | (at_builtin; refine wpList_append_row _ rfl _ _ 36 rfl (w.heap.size + 2) 71 i0 _ 9 80 Try.underlying36 hi hz0 hz1 hz2 rfl (by decide) _ _ _ rfl O (some ⟨wr.heap.size, 0, none⟩) 3 3 (fl cA (stepA p (j : Int) (t0, t1, t2) k x)) rfl ?c1 hnw (one_acts _) ?c3 ?c4 ?c5 (by simp) ?_) | go_in)
    case c1 => rfl
    case c3 => unfold maxLen; omega
    case c4 => omega
    case c5 => omega
    clear hWN g0 g1 g2
    intro vA wA ownA hgA
    obtain ⟨na, nc, rfl, _⟩ := own_shape ownA
    have hob : ∀ k, (Value.slice oa Xs.length oc).ownBlock = some k → w.heap.size + 2 ≤ k := fun k hk => (O.lt k hk).1
    replace T : Blk w.heap.size c.cells wA := T.only3 hgA (fun h => by have := hob _ h; omega) (by omega)
    replace R : Blk (w.heap.size + 1) [.int .i64 t0, .int .i64 t1, .int .i64 t2] wA := R.only3 hgA (fun h => by have := hob _ h; omega) (by omega)
    replace B : Below w.heap.size w wA := B.grown hgA (by omega) (by intro k hk; have := hob _ hk; omega)
    have hnl : Xs.length + 3 = Ys.length := by rw [← HT.out, List.length_append]; rfl
    rw [hnl] at ownA ⊢
    replace ownA : FOwn 71 9 cA (w.heap.size + 2) na nc Ys wA := by unfold FOwn; rw [← HT.out, ← fl_app, HT.out]; exact ownA
    have hYl : Ys.length ≤ 12 := by omega
    clear O hgA hob hnl hnw zN zB hXl HT zR
    have d1 : wA.cell? ⟨w.heap.size, 1, none⟩ = some (.slice (some ⟨b1, o1, none⟩) c.S.length c.sc) := by rw [← HSA.out]; exact T.at 1 rfl
    have cb : wA.cell? ⟨b1, o1 + j, none⟩ = some (.int .i64 b) := (B.cell (p := ⟨b1, o1 + j, none⟩) hb1).trans hcs
    by_cases hx : x = b
    · have HV : Hid (Ys ++ lastA p (j : Int) q (k + 1) = flowL c p (j : Int) (t0, t1, t2) q) := by
        show _ = _
        rw [HY.out, HF.out, HW.there hx, if_neg (by simp)]
        unfold actsF
        rw [HK2.out]
      subst hx
      obtain ⟨WN, hWN⟩ : ∃ WN, wA.alloc (.cells #[.int .i64 6, .int .i64 p, .int .i64 ((k : Int) + 1), .int .i64 q, .int .i64 0, .int .i64 0, .int .i64 0, .int .i64 0, .string ⟨#[]⟩, .int .i64 7, .int .i64 (j : Int), .int .i64 (2 + 2 * (k : Int) + 2), .int .i64 0, .int .i64 0, .int .i64 0, .int .i64 0, .int .i64 0, .string ⟨#[]⟩] 71) = WN := ⟨_, rfl⟩
      have BN : Below wA.heap.size wA WN := by rw [← hWN]; exact (Below.refl _ _).alloc (Nat.le_refl _) _
      have FN : FRow 9 cA WN (some ⟨wA.heap.size, 0, none⟩) (lastA p (j : Int) q (k + 1)) := by rw [← hWN]; exact lit_row _ _ _ (by rw [show ((k : Int) + 1) = ((k + 1 : Nat) : Int) by omega, show (2 + 2 * (k : Int) + 2) = 2 + 2 * ((k + 1 : Nat) : Int) by omega]; rfl)
      have hnw := news_fl lA (by omega) FN
      replace ownA : WN.ownsRow (w.heap.size + 2) 71 9 (.slice na Ys.length nc) Ys.length (fl cA Ys) := own_later ownA BN
      have zR := R.lt
      replace B := B.trans (BN.mono B.size)
      have zB := BN.size
      clear FN BN HW HF
      go_wp2_with (first | (at_builtin; refine wpList_append_row _ rfl _ _ 36 rfl (w.heap.size + 2) 71 i0 _ 9 80 Try.underlying36 hi hz0 hz1 hz2 rfl (by decide) _ _ _ rfl ownA (some ⟨wA.heap.size, 0, none⟩) 2 2 (fl cA (lastA p (j : Int) q (k + 1))) rfl ?c1 hnw (one_acts _) ?c3 ?c4 ?c5 (by simp) ?_) | go_in)
      case c1 => rfl
      case c3 => unfold maxLen; omega
      case c4 => omega
      case c5 => omega
      clear hWN d1 cb
      intro vB wB ownB hgB
      obtain ⟨ma, mc, rfl, _⟩ := own_shape ownB
      have hob : ∀ k, (Value.slice na Ys.length nc).ownBlock = some k → w.heap.size + 2 ≤ k := fun k hk => (ownA.lt k hk).1
      replace B : Below w.heap.size w wB := B.grown hgB (by omega) (by intro k hk; have := hob _ hk; omega)
      have hnl : Ys.length + 2 = (flowL c p (j : Int) (t0, t1, t2) q).length := by rw [← HV.out, List.length_append]; rfl
      rw [hnl] at ownB ⊢
      replace ownB : FOwn 71 9 cA (w.heap.size + 2) ma mc (flowL c p (j : Int) (t0, t1, t2) q) wB := by unfold FOwn; rw [← HV.out, ← fl_app, HV.out]; exact ownB
      clear ownA hgB hob hnl hnw HV T R
      go_wp2
      go_ret
      exact ⟨ma, mc, rfl, ownB.le (by omega), B⟩
    · have CD : CfAt c wA.drew := (C.later B).later (Below.refl _ _).drew
      have q0 : wA.drew.cell? ⟨w.heap.size, 0, none⟩ = some (.slice c.ua c.U.length c.uc) := T.at 0 rfl
      have q1 : wA.drew.cell? ⟨w.heap.size, 1, none⟩ = some (.slice c.sa c.S.length c.sc) := T.at 1 rfl
      have q2 : wA.drew.cell? ⟨w.heap.size, 2, none⟩ = some (.slice c.la c.L.length c.lc) := T.at 2 rfl
      have q3 : wA.drew.cell? ⟨w.heap.size, 3, none⟩ = some (.slice c.xa c.X.length c.xc) := T.at 3 rfl
      have q4 : wA.drew.cell? ⟨w.heap.size, 4, none⟩ = some (.int .i64 c.k) := T.at 4 rfl
      have q5 : wA.drew.cell? ⟨b1, o1 + j, none⟩ = some (.int .i64 b) := cb
      have cl : w.heap.size < wA.drew.heap.size := T.lt
      have cl2 : b1 < wA.drew.heap.size := Nat.lt_of_lt_of_le hb1 B.size
      go_wp2_with fail
      clear d1 cb
      refine wp_region_held_drew (S := (fun V : World => V.cell? ⟨w.heap.size, 0, none⟩ = some (.slice c.ua c.U.length c.uc) ∧ V.cell? ⟨w.heap.size, 1, none⟩ = some (.slice c.sa c.S.length c.sc) ∧ V.cell? ⟨w.heap.size, 2, none⟩ = some (.slice c.la c.L.length c.lc) ∧ V.cell? ⟨w.heap.size, 3, none⟩ = some (.slice c.xa c.X.length c.xc) ∧ V.cell? ⟨w.heap.size, 4, none⟩ = some (.int .i64 c.k) ∧ V.cell? ⟨b1, o1 + j, none⟩ = some (.int .i64 b))) (by kernel_rfl) ⟨q0, q1, q2, q3, q4, q5⟩ (fun hHeld => ?_)
      refine take_one 0 98 (v := ?_) rfl rfl (by kernel_rfl) (by kernel_rfl) (by kernel_rfl) (fun _ _ _ h => h) (Or.inl ⟨by rfl, ?_⟩) hHeld ?_
      rotate_left
      · intro w' hSw; (try dsimp only at hSw); obtain ⟨q0, q1, q2, q3, q4, q5⟩ := hSw; go_simp; try with_reducible rfl
      try simp only [Act.put, List.setIfInBounds_toArray, List.set_cons_zero, List.set_cons_succ]
      refine take_one 1 99 (v := ?_) rfl rfl (by kernel_rfl) (by kernel_rfl) (by kernel_rfl) (fun _ _ _ h => h) (Or.inl ⟨by rfl, ?_⟩) hHeld ?_
      rotate_left
      · intro w' hSw; (try dsimp only at hSw); obtain ⟨q0, q1, q2, q3, q4, q5⟩ := hSw; go_simp; try with_reducible rfl
      try simp only [Act.put, List.setIfInBounds_toArray, List.set_cons_zero, List.set_cons_succ]
      refine take_one 2 100 (v := ?_) rfl rfl (by kernel_rfl) (by kernel_rfl) (by kernel_rfl) (fun _ _ _ h => h) (Or.inl ⟨by rfl, ?_⟩) hHeld ?_
      rotate_left
      · intro w' hSw; (try dsimp only at hSw); obtain ⟨q0, q1, q2, q3, q4, q5⟩ := hSw; go_simp; try with_reducible rfl
      try simp only [Act.put, List.setIfInBounds_toArray, List.set_cons_zero, List.set_cons_succ]
      refine take_one 3 101 (v := .slice (some ⟨b1, o1, none⟩) c.S.length c.sc) rfl rfl (by kernel_rfl) (by kernel_rfl) (by kernel_rfl) (fun _ _ _ h => h) (Or.inl ⟨by rfl, ?_⟩) hHeld ?_
      · intro w' hSw; (try dsimp only at hSw); go_simp; exact HSA.out
      try simp only [Act.put, List.setIfInBounds_toArray, List.set_cons_zero, List.set_cons_succ]
      refine take_one 4 102 (v := ?_) rfl rfl (by kernel_rfl) (by kernel_rfl) (by kernel_rfl) (fun _ _ _ h => h) (Or.inl ⟨by rfl, ?_⟩) hHeld ?_
      rotate_left
      · intro w' hSw; (try dsimp only at hSw); obtain ⟨q0, q1, q2, q3, q4, q5⟩ := hSw; go_simp; try with_reducible rfl
      try simp only [Act.put, List.setIfInBounds_toArray, List.set_cons_zero, List.set_cons_succ]
      refine take_one 5 103 (v := ?_) rfl rfl (by kernel_rfl) (by kernel_rfl) (by kernel_rfl) (fun _ _ _ h => h) (Or.inl ⟨by rfl, ?_⟩) hHeld ?_
      rotate_left
      · intro w' hSw; (try dsimp only at hSw); obtain ⟨q0, q1, q2, q3, q4, q5⟩ := hSw; go_simp; try with_reducible rfl
      try simp only [Act.put, List.setIfInBounds_toArray, List.set_cons_zero, List.set_cons_succ]
      refine take_one 6 104 (v := ?_) rfl rfl (by kernel_rfl) (by kernel_rfl) (by kernel_rfl) (fun _ _ _ h => h) (Or.inl ⟨by rfl, ?_⟩) hHeld ?_
      rotate_left
      · intro w' hSw; (try dsimp only at hSw); obtain ⟨q0, q1, q2, q3, q4, q5⟩ := hSw; go_simp; try with_reducible rfl
      try simp only [Act.put, List.setIfInBounds_toArray, List.set_cons_zero, List.set_cons_succ]
      refine wpAnyH_ready (rs := [7]) (by kernel_rfl) (by simp) ?_
      refine AllReadyH.cons (i := 7) rfl (fun K hK => ?_) AllReadyH.nil
      go_simp
      refine (specNH_is c x b _ CD KC).mono ?_
      rintro en w7 ⟨rfl, hb7⟩
      go_wp2_with fail
      refine hK.out _ _ ⟨(hb7.cell (p := ⟨w.heap.size, 0, none⟩) cl).trans q0, (hb7.cell (p := ⟨w.heap.size, 1, none⟩) cl).trans q1, (hb7.cell (p := ⟨w.heap.size, 2, none⟩) cl).trans q2, (hb7.cell (p := ⟨w.heap.size, 3, none⟩) cl).trans q3, (hb7.cell (p := ⟨w.heap.size, 4, none⟩) cl).trans q4, (hb7.cell (p := ⟨b1, o1 + j, none⟩) cl2).trans q5⟩ (fun hHeld2 => ?_)
      clear hK K hHeld
      have hHeld := hHeld2
      clear hHeld2
      try simp only [Act.put, List.setIfInBounds_toArray, List.set_cons_zero, List.set_cons_succ]
      refine take_one 8 12 (v := ?_) rfl rfl (by kernel_rfl) (by kernel_rfl) (by kernel_rfl) (fun _ _ _ h => h) (Or.inl ⟨by rfl, ?_⟩) hHeld ?_
      rotate_left
      · intro w' hSw; (try dsimp only at hSw); obtain ⟨q0, q1, q2, q3, q4, q5⟩ := hSw; go_simp; try with_reducible rfl
      try simp only [Act.put, List.setIfInBounds_toArray, List.set_cons_zero, List.set_cons_succ]
      refine wpAnyH_done (by kernel_rfl) ?_ _
      have D7 : Below wA.heap.size wA w7 := ((Below.refl wA.heap.size wA).drew).trans hb7
      replace T := T.later D7 T.lt
      replace R := R.later D7 R.lt
      replace B := B.trans (D7.mono B.size)
      replace ownA : FOwn 71 9 cA (w.heap.size + 2) na nc Ys w7 := own_later ownA D7
      clear hHeld q0 q1 q2 q3 q4 q5 cl cl2 CD D7 hb7
      by_cases hn : nhV c x b = -1
      · have HV : Hid (flowL c p (j : Int) (t0, t1, t2) q = []) := by show _ = _; rw [HF.out, if_pos (HW.none hx hn)]
        rw [hn]
        clear ownA HW HF hn HY
        have zR := B.size
        have OE : FOwn 71 9 cA w.heap.size (some ⟨w7.heap.size, 0, none⟩) 0 [] (w7.alloc (.cells #[] 71)) := World.ownsRow_lit _ _ _ zR (by simp [maxLen]) rfl
        go_wp2
        go_ret
        exact ⟨_, 0, by rw [HV.out]; rfl, by rw [HV.out]; exact OE, B.alloc B.size _⟩
      · have HN := HW.next hx hn
        have hge : ¬ nhV c x b < 0 := by rcases hop_in c x b with h | h <;> omega
        have HM : Hid (k + 1 ≤ 2) := by show _ ≤ _; have := HN.2; rw [HK2.out] at this; exact this
        replace HN := HN.1
        generalize nhV c x b = y at *
        clear hn HF HW hx
        go_wp2
        go_roundw
        case rel =>
          have e := HY.out
          subst e
          exact ⟨ys ++ [x], y, na, nc, HN, rfl, rfl, by rw [HK2.out]; congr 1 <;> omega, by rw [HK2.out]; go_num, by rw [HK2.out]; go_num, ownA, T, R, B⟩
        case measure => have := HM.out; simp [intOf]; omega
end Go.Proofs.Ytflajkbbggmdjaa
