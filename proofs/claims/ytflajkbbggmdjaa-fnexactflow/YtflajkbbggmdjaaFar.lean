/- Ways: how far each realm is, as the model reckons it. -/
import Derived.Test.YtflajkbbggmdjaaWays
import Derived.Test.YtflajkbbggmdjaaConf1
import Derived.Test.YtflajkbbggmdjaaOwn
set_option linter.unusedVariables false
namespace Go.Proofs.Ytflajkbbggmdjaa
open Go Go.RowKit Draw Own

/-- The links as pairs of small numbers. -/
def natP (L : List (Int × Int)) : List (Nat × Nat) := L.map fun p => (p.1.toNat, p.2.toNat)
def passK (L : List (Int × Int)) (t : Nat) : Nat → List Int
  | 0 => zed t
  | k + 1 => pass (natP L) (passK L t k)
theorem passK_len (L : List (Int × Int)) (t : Nat) : ∀ k, (passK L t k).length = 3
  | 0 => zed_len t
  | k + 1 => by show (pass (natP L) (passK L t k)).length = 3; rw [pass_len, passK_len L t k]
def InR (L : List (Int × Int)) : Prop := ∀ p ∈ L, (0 ≤ p.1 ∧ p.1 ≤ 2) ∧ (0 ≤ p.2 ∧ p.2 ≤ 2)
theorem passK_far {L : List (Int × Int)} (hL : InR L) {t : Nat} (ht : t < 3) : ∀ r, r < 3 → gt (passK L t 3) r = far (lkH L) t r := by
  refine three_pass (Ps := natP L) (fun p hp => ?_) (fun a b ha hb hab => ?_) ht
  · unfold natP at hp
    obtain ⟨q, hq, rfl⟩ := List.mem_map.1 hp
    obtain ⟨h1, h2⟩ := hL q hq
    refine ⟨by dsimp only; omega, by dsimp only; omega, ?_⟩
    unfold lkH
    refine decide_eq_true ?_
    rw [show ((q.1.toNat : Nat) : Int) = q.1 by omega, show ((q.2.toNat : Nat) : Int) = q.2 by omega]
    exact hq
  · unfold lkH at hab
    have := of_decide_eq_true hab
    exact List.mem_map.2 ⟨_, this, by simp⟩
theorem natP_take (L : List (Int × Int)) (i : Nat) (hi : i < L.length) {a b : Nat} (ha : L[i].1 = (a : Int)) (hb : L[i].2 = (b : Int)) (zs : List Int) :
    pass (natP (L.take (i + 1))) zs = rel (pass (natP (L.take i)) zs) a b := by
  rw [List.take_succ_eq_append_getElem hi]
  unfold natP
  rw [List.map_append]
  show pass (_ ++ [(L[i].1.toNat, L[i].2.toNat)]) zs = _
  rw [pass_snoc, ha, hb, Int.toNat_natCast, Int.toNat_natCast]
/-- What the rounds keep: the row, and the box of the Config. -/
structure Fr (g : Nat) (c : Cf) (zs : List Int) (w W : World) : Prop where
  z : zs.length = 3
  sm : SmallW zs
  bl : Blk g (intV zs) W
  bx : Blk w.heap.size c.cells W
  be : Below w.heap.size w W
theorem Fr.drew {g : Nat} {c : Cf} {zs : List Int} {w W : World} (h : Fr g c zs w W) : Fr g c zs w W.drew := ⟨h.z, h.sm, h.bl.drew, h.bx.drew, h.be.drew⟩
theorem Fr.set {g : Nat} {c : Cf} {zs : List Int} {w W : World} (h : Fr g c zs w W) {a b : Nat} (ha : a < 3) (hg : w.heap.size < g) (hlt : gt zs b + 1 < gt zs a) : Fr g c (rel zs a b) w (W.setCell ⟨g, a, none⟩ (.int .i64 (gt zs b + 1))) := by
  refine ⟨by rw [rel_len]; exact h.z, h.sm.rel a b (by rw [h.z]; exact ha), ?_, h.bx.far (by omega) _ _, h.be.setCell (by dsimp only; omega) _⟩
  have := h.bl.set a (.int .i64 (gt zs b + 1))
  rw [intV_set, ← rel_set zs a b hlt] at this
  exact this
def threes : Nat → List Value
  | 0 => []
  | k + 1 => threes k ++ [.int .i64 3]
theorem own3 {w : World} {base : Nat} {v : Value} (h : w.ownsRow base 3 1 v 3 (threes 3)) : ∃ b cap, v = .slice (some ⟨b, 0, none⟩) 3 cap ∧ base ≤ b ∧ Blk b (intV [3, 3, 3]) w := by
  rcases h.2 with ⟨rfl, h0⟩ | ⟨g, cap, cur, rfl, e2, e3, e4, e5⟩
  · cases h0
  · refine ⟨g, cap, rfl, (h.lt g rfl).1, ⟨fun i u hu => ?_⟩⟩
    have hi : i < 3 := by have := (List.getElem?_eq_some_iff.1 hu).1; simpa [intV] using this
    refine ⟨?_, h.frozenAt i⟩
    rw [h.cellAt i (by omega)]
    rw [← hu]
    rfl

set_option maxRecDepth 100000 in
set_option maxHeartbeats 12800000 in
theorem far_is (c : Cf) (t : Nat) (ht : t < 3) (w : World) (C : CfAt c w) (K : CfOk c) (hin : InR c.L) :
    Calls Try.prog 83 #[c.val, .int .i64 (t : Int)] w fun e w' => ∃ g cap zs, e = .returned (.slice (some ⟨g, 0, none⟩) 3 cap) ∧ zs.length = 3 ∧ (∀ r, r < 3 → gt zs r = far (lkH c.L) t r) ∧ Blk g (intV zs) w' ∧ w.heap.size < g ∧ Below w.heap.size w w' := by
  obtain ⟨i0, hi, hz0, hz1, hz2⟩ := info_parts infoInt
  obtain ⟨W1, hW1⟩ : ∃ W1, w.alloc (.cells #[.slice c.ua c.U.length c.uc, .slice c.sa c.S.length c.sc, .slice c.la c.L.length c.lc, .slice c.xa c.X.length c.xc, .int .i64 c.k] 30) = W1 := ⟨_, rfl⟩
  have B1 : Below w.heap.size w W1 := by rw [← hW1]; exact (Below.refl _ _).alloc (Nat.le_refl _) _
  have T1 : Blk w.heap.size c.cells W1 := by rw [← hW1]; exact Blk.new _ _ _
  have Z1 : w.heap.size + 1 = W1.heap.size := by rw [← hW1]; simp
  have hown0 : (W1.alloc (.cells #[] 3)).ownsRow (w.heap.size + 1) 3 1 (.slice (some ⟨W1.heap.size, 0, none⟩) 0 0) 0 (threes 0) := World.ownsRow_lit W1 #[] 0 (by omega) (by decide) rfl
  have hbel0 : Below (w.heap.size + 1) W1 (W1.alloc (.cells #[] 3)) := (Below.refl _ _).alloc (by omega) _
  have X1 : Hid (w.heap.size + 1 ≤ W1.heap.size) := by show _ ≤ _; omega
  replace Z1 : Hid (w.heap.size + 1 = W1.heap.size) := Z1
  have ht2 : (t : Int) < 3 := by omega
  have hll := K.ll
  go_enter Try.func83, Try.ntmps83
  go_wp2
  try rw [hW1]
  go_loopw [5, 6] (fun v i wr => ∃ k : Nat, k ≤ 3 ∧ i = .int .i64 k ∧ wr.ownsRow (w.heap.size + 1) 3 1 v k (threes k) ∧ Below (w.heap.size + 1) W1 wr) (fun _ i _ => 3 - (intOf i).toNat)
  case atStart => exact ⟨0, by omega, by first | rfl | (rw [hW1]), by first | exact hown0 | (rw [hW1]; exact hown0), by first | exact hbel0 | (rw [hW1]; exact hbel0)⟩
  case round =>
    clear hown0 hbel0 hW1
    obtain ⟨k, hk, rfl, hown, hbel⟩ := hrel
    by_cases hlt : k < 3
    · have HB : Hid (Below (w.heap.size + 1) W1 wr) := hbel
      have HQ : Hid (threes k ++ [.int .i64 3] = threes (k + 1)) := (rfl : threes k ++ [.int .i64 3] = _)
      go_wp2_with (first | (at_builtin; refine wpList_append_own _ rfl _ _ 22 rfl (w.heap.size + 1) 3 i0 (.int .i64 0) 1 8 Try.underlying22 hi hz0 hz1 hz2 rfl (by decide) _ _ _ rfl (hown.alloc _) ⟨wr.heap.size, 0, none⟩ 1 1 [.int .i64 3] rfl rfl (cell_one_new _ _ _) ?c2 ?c3 ?c4 ?c5 ?_) | go_in)
      case c2 => intro u hu; simp at hu; subst hu; rfl
      case c3 => unfold maxLen; omega
      case c4 => omega
      case c5 => have := HB.out.size; have := X1.out; simp; omega
      intro v' w2 hown1 hgrow _
      have hbel1 : Below (w.heap.size + 1) W1 w2 := below_app HB.out X1.out hown hgrow
      rw [HQ.out] at hown1
      clear hgrow hown hbel HB HQ
      go_wp2
      go_roundw
      case rel =>
        have R : ∃ k' : Nat, k' ≤ 3 ∧ Value.int .i64 ((k : Int) + 1) = .int .i64 k' ∧ w2.ownsRow (w.heap.size + 1) 3 1 v' k' (threes k') ∧ Below (w.heap.size + 1) W1 w2 := ⟨k + 1, by omega, by go_num, hown1, hbel1⟩
        first | exact R | ((repeat apply Exists.intro); exact ⟨R, rfl⟩)
      case measure => simp [intOf]; omega
    · obtain rfl : k = 3 := by omega
      obtain ⟨g, cap, hv, hg, S2⟩ := own3 hown
      subst hv
      have BX : Below w.heap.size w wr := B1.trans (hbel.mono (by omega))
      have TX : Blk w.heap.size c.cells wr := T1.lower hbel (by omega)
      have ct := S2.at t (cell3 rfl ht)
      have ft := S2.fz t (cell3 rfl ht)
      have Y0 : Fr g c (zed t) w (wr.setCell ⟨g, t, none⟩ (.int .i64 0)) := by
        refine ⟨zed_len t, SmallW.zed t ht, ?_, TX.far (by omega) _ _, BX.setCell (by dsimp only; omega) _⟩
        have := S2.set t (.int .i64 0)
        rw [intV_set] at this
        exact this
      have hgw : w.heap.size < g := by omega
      replace hgw : Hid (w.heap.size < g) := hgw
      obtain ⟨W3, hW3⟩ : ∃ W3, wr.setCell ⟨g, t, none⟩ (.int .i64 0) = W3 := ⟨_, rfl⟩
      rw [hW3] at Y0
      clear B1 T1 Z1 X1 BX TX S2 hown hbel hg
      go_wp2
      try rw [hW3]
      go_loopw [7, 8] (fun i v8 wr => ∃ k : Nat, k ≤ 3 ∧ i = .int .i64 k ∧ Fr g c (passK c.L t k) w wr) (fun i _ _ => 3 - (intOf i).toNat)
      case atStart => exact ⟨0, by omega, rfl, by first | exact Y0 | (rw [hW3]; exact Y0)⟩
      case round =>
        clear Y0 hW3 ct ft
        obtain ⟨k, hk, rfl, Y⟩ := hrel
        by_cases hlt : k < 3
        · have k2 : (k : Int) < 3 := by omega
          go_wp2
          go_loopw [8] (fun i wr => ∃ j : Nat, j ≤ c.L.length ∧ i = .int .i64 j ∧ Fr g c (pass (natP (c.L.take j)) (passK c.L t k)) w wr) (fun i _ => c.L.length - (intOf i).toNat)
          case atStart => exact ⟨0, by omega, rfl, Y⟩
          case round =>
            clear Y
            obtain ⟨j, hj, rfl, Y⟩ := hrel
            have d2 := Y.bx.at 2 rfl
            by_cases hlt2 : j < c.L.length
            · have j2 : (j : Int) < (c.L.length : Int) := by omega
              obtain ⟨⟨p0, p1⟩, q0, q1⟩ := hin c.L[j] (List.getElem_mem hlt2)
              obtain ⟨a, ha⟩ : ∃ a : Nat, c.L[j].1 = (a : Int) := ⟨c.L[j].1.toNat, by omega⟩
              obtain ⟨b, hb⟩ : ∃ b : Nat, c.L[j].2 = (b : Int) := ⟨c.L[j].2.toNat, by omega⟩
              have a3 : a < 3 := by omega
              have b3 : b < 3 := by omega
              have HN : Hid (pass (natP (c.L.take (j + 1))) (passK c.L t k) = rel (pass (natP (c.L.take j)) (passK c.L t k)) a b) := natP_take c.L j hlt2 ha hb _
              obtain ⟨bl, off, ea, lbl, l0, l1⟩ := (C.hl.later Y.be) j hlt2
              rw [ha] at l0
              rw [hb] at l1
              rw [ea] at d2
              generalize pass (natP (c.L.take j)) (passK c.L t k) = zs at Y HN
              have ca := Y.bl.at a (cell3 Y.z a3)
              have cb := Y.bl.at b (cell3 Y.z b3)
              have fa := Y.bl.fz a (cell3 Y.z a3)
              have sa := Y.sm a
              have sb := Y.sm b
              have hw := wrap_small (gt zs b + 1) (by omega) (by omega)
              have a2 : (a : Int) < 3 := by omega
              have b2 : (b : Int) < 3 := by omega
              by_cases hc : gt zs b + 1 < gt zs a
              · have HY : Hid (Fr g c (pass (natP (c.L.take (j + 1))) (passK c.L t k)) w (wr.drew.drew.setCell ⟨g, a, none⟩ (.int .i64 (gt zs b + 1)))) := by
                  show Fr _ _ _ _ _
                  rw [HN.out]
                  exact Y.drew.drew.set a3 hgw.out hc
                have hc2 : decide (gt zs b + 1 < gt zs a) = true := decide_eq_true hc
                clear HN Y hc ha hb p0 p1 q0 q1 a3 b3
                generalize gt zs a = x at ca sa HY hc2
                generalize gt zs b = y at cb sb hw HY hc2
                go_wp2
                go_region
                all_goals
                  go_wp2
                  go_region
                  all_goals
                    go_wp2
                    go_roundw
                    case rel =>
                      have R : ∃ j' : Nat, j' ≤ c.L.length ∧ Value.int .i64 ((j : Int) + 1) = .int .i64 j' ∧ Fr g c (pass (natP (c.L.take j')) (passK c.L t k)) w (wr.drew.drew.setCell ⟨g, a, none⟩ (.int .i64 (y + 1))) := ⟨j + 1, by omega, by go_num, HY.out⟩
                      first | exact R | ((repeat apply Exists.intro); exact ⟨R, rfl⟩)
                    case measure => simp [intOf]; omega
              · have HY : Hid (Fr g c (pass (natP (c.L.take (j + 1))) (passK c.L t k)) w wr.drew) := by
                  show Fr _ _ _ _ _
                  rw [HN.out, rel_keep zs a b (by rw [Y.z]; exact a3) hc]
                  exact Y.drew
                have hc2 : decide (gt zs b + 1 < gt zs a) = false := decide_eq_false hc
                clear HN Y ha hb p0 p1 q0 q1 a3 b3
                generalize gt zs a = x at ca sa hc2 hc
                generalize gt zs b = y at cb sb hw hc2 hc
                go_wp2
                go_region
                all_goals
                  go_wp2
                  go_roundw
                  case rel =>
                    have R : ∃ j' : Nat, j' ≤ c.L.length ∧ Value.int .i64 ((j : Int) + 1) = .int .i64 j' ∧ Fr g c (pass (natP (c.L.take j')) (passK c.L t k)) w wr.drew := ⟨j + 1, by omega, by go_num, HY.out⟩
                    first | exact R | ((repeat apply Exists.intro); exact ⟨R, rfl⟩)
                  case measure => simp [intOf]; omega
            · obtain rfl : j = c.L.length := by omega
              rw [List.take_length] at Y
              go_wp2
              go_roundw
              case rel =>
                have R : ∃ k' : Nat, k' ≤ 3 ∧ Value.int .i64 ((k : Int) + 1) = .int .i64 k' ∧ Fr g c (passK c.L t k') w wr := ⟨k + 1, by omega, by go_num, Y⟩
                first | exact R | ((repeat apply Exists.intro); exact ⟨R, rfl⟩)
              case measure => simp [intOf]; omega
        · obtain rfl : k = 3 := by omega
          have HF : Hid (∀ r, r < 3 → gt (passK c.L t 3) r = far (lkH c.L) t r) := passK_far hin ht
          generalize passK c.L t 3 = zs at Y HF
          go_wp2
          go_ret
          exact ⟨g, cap, zs, rfl, Y.z, HF.out, Y.bl, hgw.out, Y.be⟩
end Go.Proofs.Ytflajkbbggmdjaa
