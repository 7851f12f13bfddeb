/- A key put into a table: the model. -/
import Derived.Test.YtkfjpgkpmdbnoaaTb1
import Derived.Test.YtkfjpgkpmdbnoaaTf3
import Derived.Test.YtkfjpgkpmdbnoaaTk1
import Derived.Test.YtkfjpgkpmdbnoaaTd0
import Derived.Test.YtkfjpgkpmdbnoaaAppRow
import Derived.Test.YtkfjpgkpmdbnoaaRg1
set_option linter.unusedVariables false
set_option maxRecDepth 100000
namespace Go.Proofs.Ytkfjpgkpmdbnoaa
open Go Go.RowKit Go.Joins Own Draw

set_option maxRecDepth 100000 in
set_option maxHeartbeats 6400000 in
theorem specAdd_is (a : Option Addr) (cap : Nat) (xs : List TS) (who key : Int) (w : World) (hr : FRow 3 cS w a xs) (hl : xs.length ≤ 1048576) :
    Calls Try.prog 15 #[.slice a xs.length cap, .int .i64 who, .int .i64 key] w fun e w' => ∃ (ra : Option Addr) (rc : Nat), e = .returned (.tuple #[.slice ra (adT xs who key).1.length rc, .bool (adT xs who key).2]) ∧ FOwn 31 3 cS w.heap.size ra rc (adT xs who key).1 w' ∧ Below w.heap.size w w' := by
  obtain ⟨i0, hi, hz0, hz1, hz2⟩ := info_parts infoS
  go_enter Try.func15, Try.ntmps15
  go_wp2_with fail
  refine (specTab_is a cap xs w hr hl).mono ?_
  rintro en w1 ⟨rfl, B1⟩
  cases ht : tabB xs with
  | false =>
    have HV : Hid (adT xs who key = ([], false)) := adT_bad ht
    have R1 : FOwn 31 3 cS w.heap.size (some ⟨w1.heap.size, 0, none⟩) 0 [] (w1.alloc (.cells #[] 31)) := World.ownsRow_lit _ _ _ B1.size (by simp [maxLen]) rfl
    have B2 : Below w.heap.size w (w1.alloc (.cells #[] 31)) := B1.alloc B1.size _
    clear hr ht
    go_wp2
    go_ret2
    exact ⟨_, _, by rw [HV.out]; try rfl, by rw [HV.out]; exact R1, B2⟩
  | true =>
    have h20 := tab_len ht
    obtain ⟨u, hu⟩ : ∃ u, laG xs who = u := ⟨_, rfl⟩
    have hub := laG_bound ht who
    rw [hu] at hub
    replace hu : Hid (laG xs who = u) := hu
    have R1 : FOwn 31 3 cS w.heap.size (some ⟨w1.heap.size, 0, none⟩) 0 [] (w1.alloc (.cells #[] 31)) := World.ownsRow_lit _ _ _ B1.size (by simp [maxLen]) rfl
    have B2 : Below w.heap.size w (w1.alloc (.cells #[] 31)) := B1.alloc B1.size _
    have hB2 := B2.size
    have nw := frow_news lS (by decide) (hr.later B2)
    have nn := frow_nil hr
    obtain ⟨U, hU⟩ : ∃ U, w1.alloc (.cells #[] 31) = U := ⟨_, rfl⟩
    rw [hU] at R1 B2 hB2 nw
    replace ht : Hid (tabB xs = true) := ht
    have ht1 : Value.bool (tabB xs) = .bool true := by rw [ht.out]
    go_wp2_with (first | (at_builtin; first | refine wpList_append_row _ rfl _ _ 24 rfl w.heap.size 31 i0 (.agg #[.int .i64 0, .int .i64 0, .int .i64 0]) 3 24 Try.underlying24 hi hz0 hz1 hz2 rfl (by decide) _ _ _ rfl R1 a xs.length cap (fl cS xs) rfl (fl_len lS xs) nw (one_S xs) (by simp [maxLen]; omega) (by simp; omega) hB2 nn ?_ | (rw [hU]; refine wpList_append_row _ rfl _ _ 24 rfl w.heap.size 31 i0 (.agg #[.int .i64 0, .int .i64 0, .int .i64 0]) 3 24 Try.underlying24 hi hz0 hz1 hz2 rfl (by decide) _ _ _ rfl R1 a xs.length cap (fl cS xs) rfl (fl_len lS xs) nw (one_S xs) (by simp [maxLen]; omega) (by simp; omega) hB2 nn ?_)) | fail)
    intro vs ws hos hgs
    rw [show (fl cS ([] : List TS)) = [] from rfl, List.nil_append] at hos
    obtain ⟨sa, sc, rfl, _⟩ := own_shape hos
    have BS : Below w.heap.size w ws := B2.grown hgs hB2 (fun k e => (World.ownsRow.lt R1 k e).1)
    have rs : FOwn 31 3 cS w.heap.size sa sc xs ws := hos
    clear hos hgs R1 B2 hB2 nw hU B1 nn ht1
    have K := specLast_is a cap xs who ws (hr.later BS) hl
    rw [hu.out] at K
    go_wp2_with fail
    refine K.mono ?_
    clear K
    rintro en V ⟨rfl, BL⟩
    replace rs : FOwn 31 3 cS w.heap.size sa sc xs V := own_later rs BL
    have BV := BS.trans (BL.mono BS.size)
    clear BL BS
    have A0 := fun w => inq who 0 99 _ rfl w
    have A1 := fun w => inq key 1 1000000 _ rfl w
    by_cases c0 : btw who 0 99 = true
    · rw [c0] at A0
      by_cases c1 : btw key 1 1000000 = true
      · rw [c1] at A1
        by_cases c2 : (20 : Int) ≤ (xs.length : Int)
        · have HV : Hid (adT xs who key = (xs, false)) := adT_no ht.out (by unfold adK; rw [decide_eq_false (by omega : ¬ xs.length < 20)]; simp)
          clear hr c0 c1 ht
          go_wp2_with (first | (go_at_call_of 44 who; refine (A0 _).mono ?_; rintro en wa ⟨rfl, eW⟩; replace eW := eW.symm; subst eW) | (go_at_call_of 44 key; refine (A1 _).mono ?_; rintro en wa ⟨rfl, eW⟩; replace eW := eW.symm; subst eW) | fail)
          go_ret2
          exact ⟨sa, sc, by rw [HV.out]; try rfl, by rw [HV.out]; exact rs, BV⟩
        · by_cases c3 : (1000 : Int) < u + 1
          · have HV : Hid (adT xs who key = (xs, false)) := adT_no ht.out (by unfold adK; rw [hu.out, decide_eq_false (by omega : ¬ u + 1 ≤ 1000)]; simp)
            clear hr c0 c1 ht
            go_wp2_with (first | (go_at_call_of 44 who; refine (A0 _).mono ?_; rintro en wa ⟨rfl, eW⟩; replace eW := eW.symm; subst eW) | (go_at_call_of 44 key; refine (A1 _).mono ?_; rintro en wa ⟨rfl, eW⟩; replace eW := eW.symm; subst eW) | fail)
            go_ret2
            exact ⟨sa, sc, by rw [HV.out]; try rfl, by rw [HV.out]; exact rs, BV⟩
          · have HK : Hid (adK xs who key = true) := by show _ = _; unfold adK; rw [hu.out, c0, c1, decide_eq_true (by omega : xs.length < 20), decide_eq_true (by omega : u + 1 ≤ 1000)]; rfl
            clear c0 c1
            have H0 : FOwn 31 3 cS V.heap.size (some ⟨V.heap.size, 0, none⟩) 0 [] (V.alloc (.cells #[] 31)) := World.ownsRow_lit _ _ _ (Nat.le_refl _) (by simp [maxLen]) rfl
            have B0 : Below V.heap.size V (V.alloc (.cells #[] 31)) := (Below.refl _ _).alloc (Nat.le_refl _) _
            obtain ⟨x, hx⟩ : ∃ x : TS, x = (who, u + 1, key) := ⟨_, rfl⟩
            have HX : Hid (x = (who, u + 1, key)) := hx
            clear hx
            go_wp2_with (first | (go_at_call_of 44 who; refine (A0 _).mono ?_; rintro en wa ⟨rfl, eW⟩; replace eW := eW.symm; subst eW) | (go_at_call_of 44 key; refine (A1 _).mono ?_; rintro en wa ⟨rfl, eW⟩; replace eW := eW.symm; subst eW) | fail)
            go_loopw [10, 11, 12] (fun ov pv i wr => ∃ (k : Nat) (ys : List TS) (b : Bool) (oa : Option Addr) (oc : Nat), k ≤ xs.length ∧ i = .int .i64 k ∧ pv = .bool b ∧ ov = .slice oa ys.length oc ∧ Hid (∀ j (h : j < xs.length), j < k → ¬ xs[j].2.2 = key) ∧ Hid (inG (xs.take k) x = (ys, b)) ∧ FOwn 31 3 cS V.heap.size oa oc ys wr ∧ Below V.heap.size V wr) (fun _ _ i _ => xs.length - (intOf i).toNat)
            case atStart => exact ⟨0, [], false, _, _, by omega, rfl, rfl, rfl, fun j h hj => absurd hj (by omega), rfl, H0, B0⟩
            case round =>
              clear H0 B0 A0 A1
              obtain ⟨k, ys, b, oa, oc, hk, rfl, rfl, rfl, hno, hin, ro, BC⟩ := hrel
              have HL : Hid (ys.length ≤ k + 1) := by
                have := inG_len xs x k hk
                rw [hin.out] at this
                show ys.length ≤ k + 1
                cases b <;> simp at this <;> omega
              have hyl := HL.out
              by_cases hlt : k < xs.length
              · have hlt2 : (k : Int) < (xs.length : Int) := by omega
                have BW := BV.trans (BC.mono BV.size)
                obtain ⟨b1, o1, rfl, l1, hc⟩ := hr k hlt
                have h0 : wr.cell? ⟨b1, o1 + k * 3, none⟩ = some (.int .i64 xs[k].1) := (BW.cell (p := ⟨b1, o1 + k * 3, none⟩) l1).trans (hc 0 _ rfl)
                have h1 : wr.cell? ⟨b1, o1 + k * 3 + 1, none⟩ = some (.int .i64 xs[k].2.1) := (BW.cell (p := ⟨b1, o1 + k * 3 + 1, none⟩) l1).trans (hc 1 _ rfl)
                have h2 : wr.cell? ⟨b1, o1 + k * 3 + 2, none⟩ = some (.int .i64 xs[k].2.2) := (BW.cell (p := ⟨b1, o1 + k * 3 + 2, none⟩) l1).trans (hc 2 _ rfl)
                have f0 := fun {wx : World} (hb : Below V.heap.size V wx) => ((BV.trans (hb.mono BV.size)).cell (p := ⟨b1, o1 + k * 3, none⟩) l1).trans (hc 0 _ rfl)
                have f1 := fun {wx : World} (hb : Below V.heap.size V wx) => ((BV.trans (hb.mono BV.size)).cell (p := ⟨b1, o1 + k * 3 + 1, none⟩) l1).trans (hc 1 _ rfl)
                have f2 := fun {wx : World} (hb : Below V.heap.size V wx) => ((BV.trans (hb.mono BV.size)).cell (p := ⟨b1, o1 + k * 3 + 2, none⟩) l1).trans (hc 2 _ rfl)
                clear hc BW
                by_cases hz : xs[k].2.2 = key
                · have HV : Hid (adT xs who key = (xs, false)) := adT_has ht.out (adH_at hlt hz)
                  rw [hz] at h2
                  clear hno hin hr ht HK f0 f1 f2 h0 h1 ro HL hyl
                  go_wp2
                  go_ret2
                  exact ⟨sa, sc, by rw [HV.out]; try rfl, by rw [HV.out]; exact own_later rs BC, BV.trans (BC.mono BV.size)⟩
                · have HN : Hid (∀ j (h : j < xs.length), j < k + 1 → ¬ xs[j].2.2 = key) := fun j h hj => by
                    by_cases e : j = k
                    · subst e; exact hz
                    · exact hno.out j h (by omega)
                  have hzk : (xs[k].2.2 == key) = false := beq_eq_false_iff_ne.2 hz
                  have HS := inG_at (x := x) hlt
                  rw [hin.out] at HS
                  clear hno hin hz
                  have F0 : Hid (∀ {wx : World}, Below V.heap.size V wx → wx.cell? ⟨b1, o1 + k * 3, none⟩ = some (.int .i64 xs[k].1)) := fun hb => f0 hb
                  have F1 : Hid (∀ {wx : World}, Below V.heap.size V wx → wx.cell? ⟨b1, o1 + k * 3 + 1, none⟩ = some (.int .i64 xs[k].2.1)) := fun hb => f1 hb
                  have F2 : Hid (∀ {wx : World}, Below V.heap.size V wx → wx.cell? ⟨b1, o1 + k * 3 + 2, none⟩ = some (.int .i64 xs[k].2.2)) := fun hb => f2 hb
                  clear f0 f1 f2
                  replace HS : Hid (inG (xs.take (k + 1)) x = inS x (ys, b) (xs[k].1, xs[k].2.1, xs[k].2.2)) := HS
                  generalize xs[k].1 = y0 at h0 F0 HS
                  generalize xs[k].2.1 = y1 at h1 F1 HS
                  generalize xs[k].2.2 = y2 at h2 F2 HS hzk
                  cases b with
                  | true =>
                    have HM : Hid (inG (xs.take (k + 1)) x = (ys ++ [(y0, y1, y2)], true)) := by show _ = _; rw [HS.out]; rfl
                    clear HS F0 F1 F2 HL
                    have nw := news3 wr (.int .i64 y0) (.int .i64 y1) (.int .i64 y2) 31
                    obtain ⟨U, hU⟩ : ∃ U, wr.alloc (.cells #[.int .i64 y0, .int .i64 y1, .int .i64 y2] 31) = U := ⟨_, rfl⟩
                    have XA : Below wr.heap.size wr U := by rw [← hU]; exact (Below.refl _ _).alloc (Nat.le_refl _) _
                    rw [hU] at nw
                    replace ro := own_later ro XA
                    replace BC := BC.trans (XA.mono BC.size)
                    have hBU := BC.size
                    clear XA
                    go_wp2_with (first | (at_builtin; first | refine wpList_append_row _ rfl _ _ 24 rfl (V.heap.size) 31 i0 (.agg #[.int .i64 0, .int .i64 0, .int .i64 0]) 3 24 Try.underlying24 hi hz0 hz1 hz2 rfl (by decide) _ _ _ rfl ro (some ⟨wr.heap.size, 0, none⟩) 1 1 [.int .i64 y0, .int .i64 y1, .int .i64 y2] rfl rfl (fun ad e => by injection e with e; subst e; exact nw) (fun u hu => by simp at hu; rcases hu with rfl | rfl | rfl <;> rfl) (by unfold maxLen; omega) (by omega) hBU (fun c => by cases c) ?_ | (rw [hU]; refine wpList_append_row _ rfl _ _ 24 rfl (V.heap.size) 31 i0 (.agg #[.int .i64 0, .int .i64 0, .int .i64 0]) 3 24 Try.underlying24 hi hz0 hz1 hz2 rfl (by decide) _ _ _ rfl ro (some ⟨wr.heap.size, 0, none⟩) 1 1 [.int .i64 y0, .int .i64 y1, .int .i64 y2] rfl rfl (fun ad e => by injection e with e; subst e; exact nw) (fun u hu => by simp at hu; rcases hu with rfl | rfl | rfl <;> rfl) (by unfold maxLen; omega) (by omega) hBU (fun c => by cases c) ?_)) | fail)
                    intro v3 w3 ho3 hg3
                    obtain ⟨na3, nc3, rfl, _⟩ := own_shape ho3
                    have B3 : Below (V.heap.size) V w3 := BC.grown hg3 hBU (fun k e => (World.ownsRow.lt ro k e).1)
                    clear hg3 ro BC nw hU hBU
                    have hle : (ys ++ [(y0, y1, y2)]).length = ys.length + 1 := by simp
                    have R9 : FOwn 31 3 cS V.heap.size na3 nc3 (ys ++ [(y0, y1, y2)]) w3 := by unfold FOwn; rw [hle, fl_snoc]; first | exact ho3 | (rw [List.append_assoc]; exact ho3)
                    have HR : ∃ (k' : Nat) (ys' : List TS) (b' : Bool) (oa' : Option Addr) (oc' : Nat), k' ≤ xs.length ∧ Value.int .i64 ((k : Int) + 1) = .int .i64 k' ∧ Value.bool true = .bool b' ∧ Value.slice na3 (ys.length + 1) nc3 = .slice oa' ys'.length oc' ∧ Hid (∀ j (h : j < xs.length), j < k' → ¬ xs[j].2.2 = key) ∧ Hid (inG (xs.take k') x = (ys', b')) ∧ FOwn 31 3 cS V.heap.size oa' oc' ys' w3 ∧ Below V.heap.size V w3 :=
                      ⟨k + 1, _, _, na3, nc3, by omega, by go_num, rfl, by rw [hle], HN, HM, R9, B3⟩
                    clear HN HM R9 B3 ho3 hr
                    go_wp2
                    go_roundw
                    case rel => exact HR
                    case measure => simp [intOf]; omega
                  | false =>
                    by_cases hw : who < y0
                    · have HM : Hid (inG (xs.take (k + 1)) x = (ys ++ [(who, u + 1, key)] ++ [(y0, y1, y2)], true)) := by
                        show _ = _
                        rw [HS.out, HX.out]
                        unfold inS
                        rw [if_pos ⟨rfl, hw⟩]
                      clear HS HL
                      have nw := news3 wr (.int .i64 who) (.int .i64 (u + 1)) (.int .i64 key) 31
                      obtain ⟨U, hU⟩ : ∃ U, wr.alloc (.cells #[.int .i64 who, .int .i64 (u + 1), .int .i64 key] 31) = U := ⟨_, rfl⟩
                      have XA : Below wr.heap.size wr U := by rw [← hU]; exact (Below.refl _ _).alloc (Nat.le_refl _) _
                      rw [hU] at nw
                      replace ro := own_later ro XA
                      replace BC := BC.trans (XA.mono BC.size)
                      have hBU := BC.size
                      clear XA
                      go_wp2_with (first | (at_builtin; first | refine wpList_append_row _ rfl _ _ 24 rfl (V.heap.size) 31 i0 (.agg #[.int .i64 0, .int .i64 0, .int .i64 0]) 3 24 Try.underlying24 hi hz0 hz1 hz2 rfl (by decide) _ _ _ rfl ro (some ⟨wr.heap.size, 0, none⟩) 1 1 [.int .i64 who, .int .i64 (u + 1), .int .i64 key] rfl rfl (fun ad e => by injection e with e; subst e; exact nw) (fun u hu => by simp at hu; rcases hu with rfl | rfl | rfl <;> rfl) (by unfold maxLen; omega) (by omega) hBU (fun c => by cases c) ?_ | (rw [hU]; refine wpList_append_row _ rfl _ _ 24 rfl (V.heap.size) 31 i0 (.agg #[.int .i64 0, .int .i64 0, .int .i64 0]) 3 24 Try.underlying24 hi hz0 hz1 hz2 rfl (by decide) _ _ _ rfl ro (some ⟨wr.heap.size, 0, none⟩) 1 1 [.int .i64 who, .int .i64 (u + 1), .int .i64 key] rfl rfl (fun ad e => by injection e with e; subst e; exact nw) (fun u hu => by simp at hu; rcases hu with rfl | rfl | rfl <;> rfl) (by unfold maxLen; omega) (by omega) hBU (fun c => by cases c) ?_)) | fail)
                      intro v3 w3 ho3 hg3
                      obtain ⟨na3, nc3, rfl, _⟩ := own_shape ho3
                      have B3 : Below (V.heap.size) V w3 := BC.grown hg3 hBU (fun k e => (World.ownsRow.lt ro k e).1)
                      clear hg3 ro BC nw hU hBU
                      have g0 := F0.out B3
                      have g1 := F1.out B3
                      have g2 := F2.out B3
                      have hbs3 := B3.size
                      clear F0 F1 F2 h0 h1 h2
                      have nw := news3 w3 (.int .i64 y0) (.int .i64 y1) (.int .i64 y2) 31
                      obtain ⟨U, hU⟩ : ∃ U, w3.alloc (.cells #[.int .i64 y0, .int .i64 y1, .int .i64 y2] 31) = U := ⟨_, rfl⟩
                      have XA : Below w3.heap.size w3 U := by rw [← hU]; exact (Below.refl _ _).alloc (Nat.le_refl _) _
                      rw [hU] at nw
                      replace ho3 := own_later ho3 XA
                      replace B3 := B3.trans (XA.mono B3.size)
                      have hBU := B3.size
                      clear XA
                      go_wp2_with (first | (at_builtin; first | refine wpList_append_row _ rfl _ _ 24 rfl (V.heap.size) 31 i0 (.agg #[.int .i64 0, .int .i64 0, .int .i64 0]) 3 24 Try.underlying24 hi hz0 hz1 hz2 rfl (by decide) _ _ _ rfl ho3 (some ⟨w3.heap.size, 0, none⟩) 1 1 [.int .i64 y0, .int .i64 y1, .int .i64 y2] rfl rfl (fun ad e => by injection e with e; subst e; exact nw) (fun u hu => by simp at hu; rcases hu with rfl | rfl | rfl <;> rfl) (by unfold maxLen; omega) (by omega) hBU (fun c => by cases c) ?_ | (rw [hU]; refine wpList_append_row _ rfl _ _ 24 rfl (V.heap.size) 31 i0 (.agg #[.int .i64 0, .int .i64 0, .int .i64 0]) 3 24 Try.underlying24 hi hz0 hz1 hz2 rfl (by decide) _ _ _ rfl ho3 (some ⟨w3.heap.size, 0, none⟩) 1 1 [.int .i64 y0, .int .i64 y1, .int .i64 y2] rfl rfl (fun ad e => by injection e with e; subst e; exact nw) (fun u hu => by simp at hu; rcases hu with rfl | rfl | rfl <;> rfl) (by unfold maxLen; omega) (by omega) hBU (fun c => by cases c) ?_)) | fail)
                      intro v4 w4 ho4 hg4
                      obtain ⟨na4, nc4, rfl, _⟩ := own_shape ho4
                      have B4 : Below (V.heap.size) V w4 := B3.grown hg4 hBU (fun k e => (World.ownsRow.lt ho3 k e).1)
                      clear hg4 ho3 B3 nw hU hBU
                      have hle : (ys ++ [(who, u + 1, key)] ++ [(y0, y1, y2)]).length = ys.length + 1 + 1 := by simp
                      have R9 : FOwn 31 3 cS V.heap.size na4 nc4 (ys ++ [(who, u + 1, key)] ++ [(y0, y1, y2)]) w4 := by unfold FOwn; rw [hle, fl_snoc, fl_snoc]; first | exact ho4 | (rw [List.append_assoc]; exact ho4)
                      have HR : ∃ (k' : Nat) (ys' : List TS) (b' : Bool) (oa' : Option Addr) (oc' : Nat), k' ≤ xs.length ∧ Value.int .i64 ((k : Int) + 1) = .int .i64 k' ∧ Value.bool true = .bool b' ∧ Value.slice na4 (ys.length + 1 + 1) nc4 = .slice oa' ys'.length oc' ∧ Hid (∀ j (h : j < xs.length), j < k' → ¬ xs[j].2.2 = key) ∧ Hid (inG (xs.take k') x = (ys', b')) ∧ FOwn 31 3 cS V.heap.size oa' oc' ys' w4 ∧ Below V.heap.size V w4 :=
                        ⟨k + 1, _, _, na4, nc4, by omega, by go_num, rfl, by rw [hle], HN, HM, R9, B4⟩
                      clear HN HM R9 B4 ho4 hr
                      go_wp2
                      go_roundw
                      case rel => exact HR
                      case measure => simp [intOf]; omega
                    · have HM : Hid (inG (xs.take (k + 1)) x = (ys ++ [(y0, y1, y2)], false)) := by
                        show _ = _
                        rw [HS.out, HX.out]
                        unfold inS
                        rw [if_neg (fun c => hw c.2)]
                      clear HS F0 F1 F2 HL
                      have nw := news3 wr (.int .i64 y0) (.int .i64 y1) (.int .i64 y2) 31
                      obtain ⟨U, hU⟩ : ∃ U, wr.alloc (.cells #[.int .i64 y0, .int .i64 y1, .int .i64 y2] 31) = U := ⟨_, rfl⟩
                      have XA : Below wr.heap.size wr U := by rw [← hU]; exact (Below.refl _ _).alloc (Nat.le_refl _) _
                      rw [hU] at nw
                      replace ro := own_later ro XA
                      replace BC := BC.trans (XA.mono BC.size)
                      have hBU := BC.size
                      clear XA
                      go_wp2_with (first | (at_builtin; first | refine wpList_append_row _ rfl _ _ 24 rfl (V.heap.size) 31 i0 (.agg #[.int .i64 0, .int .i64 0, .int .i64 0]) 3 24 Try.underlying24 hi hz0 hz1 hz2 rfl (by decide) _ _ _ rfl ro (some ⟨wr.heap.size, 0, none⟩) 1 1 [.int .i64 y0, .int .i64 y1, .int .i64 y2] rfl rfl (fun ad e => by injection e with e; subst e; exact nw) (fun u hu => by simp at hu; rcases hu with rfl | rfl | rfl <;> rfl) (by unfold maxLen; omega) (by omega) hBU (fun c => by cases c) ?_ | (rw [hU]; refine wpList_append_row _ rfl _ _ 24 rfl (V.heap.size) 31 i0 (.agg #[.int .i64 0, .int .i64 0, .int .i64 0]) 3 24 Try.underlying24 hi hz0 hz1 hz2 rfl (by decide) _ _ _ rfl ro (some ⟨wr.heap.size, 0, none⟩) 1 1 [.int .i64 y0, .int .i64 y1, .int .i64 y2] rfl rfl (fun ad e => by injection e with e; subst e; exact nw) (fun u hu => by simp at hu; rcases hu with rfl | rfl | rfl <;> rfl) (by unfold maxLen; omega) (by omega) hBU (fun c => by cases c) ?_)) | fail)
                      intro v3 w3 ho3 hg3
                      obtain ⟨na3, nc3, rfl, _⟩ := own_shape ho3
                      have B3 : Below (V.heap.size) V w3 := BC.grown hg3 hBU (fun k e => (World.ownsRow.lt ro k e).1)
                      clear hg3 ro BC nw hU hBU
                      have hle : (ys ++ [(y0, y1, y2)]).length = ys.length + 1 := by simp
                      have R9 : FOwn 31 3 cS V.heap.size na3 nc3 (ys ++ [(y0, y1, y2)]) w3 := by unfold FOwn; rw [hle, fl_snoc]; first | exact ho3 | (rw [List.append_assoc]; exact ho3)
                      have HR : ∃ (k' : Nat) (ys' : List TS) (b' : Bool) (oa' : Option Addr) (oc' : Nat), k' ≤ xs.length ∧ Value.int .i64 ((k : Int) + 1) = .int .i64 k' ∧ Value.bool false = .bool b' ∧ Value.slice na3 (ys.length + 1) nc3 = .slice oa' ys'.length oc' ∧ Hid (∀ j (h : j < xs.length), j < k' → ¬ xs[j].2.2 = key) ∧ Hid (inG (xs.take k') x = (ys', b')) ∧ FOwn 31 3 cS V.heap.size oa' oc' ys' w3 ∧ Below V.heap.size V w3 :=
                        ⟨k + 1, _, _, na3, nc3, by omega, by go_num, rfl, by rw [hle], HN, HM, R9, B3⟩
                      clear HN HM R9 B3 ho3 hr
                      go_wp2
                      go_roundw
                      case rel => exact HR
                      case measure => simp [intOf]; omega
              · obtain rfl : k = xs.length := by omega
                have hin2 := hin.out
                rw [List.take_length] at hin2
                have HH : adH xs key = false := adH_no fun j h => hno.out j h h
                cases b with
                | true =>
                  have HV : Hid (adT xs who key = (ys, true)) := by
                    show _ = _
                    rw [adT_yes ht.out HK.out HH, hu.out, ← HX.out]
                    unfold inT
                    rw [hin2]
                    rfl
                  clear hno hin hin2 hr ht HK HH HL
                  have RO := FOwn.le ro BV.size
                  have BO := BV.trans (BC.mono BV.size)
                  go_wp2
                  go_ret2
                  exact ⟨oa, oc, by rw [HV.out]; try rfl, by rw [HV.out]; exact RO, BO⟩
                | false =>
                  have HV : Hid (adT xs who key = (ys ++ [(who, u + 1, key)], true)) := by
                    show _ = _
                    rw [adT_yes ht.out HK.out HH, hu.out, ← HX.out]
                    unfold inT
                    rw [hin2]
                    rfl
                  clear hno hin hin2 hr ht HK HH HL
                  have nw := news3 wr (.int .i64 who) (.int .i64 (u + 1)) (.int .i64 key) 31
                  obtain ⟨U, hU⟩ : ∃ U, wr.alloc (.cells #[.int .i64 who, .int .i64 (u + 1), .int .i64 key] 31) = U := ⟨_, rfl⟩
                  have XA : Below wr.heap.size wr U := by rw [← hU]; exact (Below.refl _ _).alloc (Nat.le_refl _) _
                  rw [hU] at nw
                  replace ro := own_later ro XA
                  replace BC := BC.trans (XA.mono BC.size)
                  have hBU := BC.size
                  clear XA
                  go_wp2_with (first | (at_builtin; first | refine wpList_append_row _ rfl _ _ 24 rfl (V.heap.size) 31 i0 (.agg #[.int .i64 0, .int .i64 0, .int .i64 0]) 3 24 Try.underlying24 hi hz0 hz1 hz2 rfl (by decide) _ _ _ rfl ro (some ⟨wr.heap.size, 0, none⟩) 1 1 [.int .i64 who, .int .i64 (u + 1), .int .i64 key] rfl rfl (fun ad e => by injection e with e; subst e; exact nw) (fun u hu => by simp at hu; rcases hu with rfl | rfl | rfl <;> rfl) (by unfold maxLen; omega) (by omega) hBU (fun c => by cases c) ?_ | (rw [hU]; refine wpList_append_row _ rfl _ _ 24 rfl (V.heap.size) 31 i0 (.agg #[.int .i64 0, .int .i64 0, .int .i64 0]) 3 24 Try.underlying24 hi hz0 hz1 hz2 rfl (by decide) _ _ _ rfl ro (some ⟨wr.heap.size, 0, none⟩) 1 1 [.int .i64 who, .int .i64 (u + 1), .int .i64 key] rfl rfl (fun ad e => by injection e with e; subst e; exact nw) (fun u hu => by simp at hu; rcases hu with rfl | rfl | rfl <;> rfl) (by unfold maxLen; omega) (by omega) hBU (fun c => by cases c) ?_)) | fail)
                  intro v3 w3 ho3 hg3
                  obtain ⟨na3, nc3, rfl, _⟩ := own_shape ho3
                  have B3 : Below (V.heap.size) V w3 := BC.grown hg3 hBU (fun k e => (World.ownsRow.lt ro k e).1)
                  clear hg3 ro BC nw hU hBU
                  have hle : (ys ++ [(who, u + 1, key)]).length = ys.length + 1 := by simp
                  have RO : FOwn 31 3 cS V.heap.size na3 nc3 (ys ++ [(who, u + 1, key)]) w3 := by unfold FOwn; rw [hle, fl_snoc]; exact ho3
                  replace RO := FOwn.le RO BV.size
                  have BO := BV.trans (B3.mono BV.size)
                  clear ho3 B3
                  go_wp2
                  go_ret2
                  exact ⟨na3, nc3, by rw [HV.out, hle]; try rfl, by rw [HV.out]; exact RO, BO⟩
      · rw [Bool.not_eq_true] at c1
        rw [c1] at A1
        have HV : Hid (adT xs who key = (xs, false)) := adT_no ht.out (by unfold adK; rw [c1]; simp)
        clear hr c0 c1 ht
        go_wp2_with (first | (go_at_call_of 44 who; refine (A0 _).mono ?_; rintro en wa ⟨rfl, eW⟩; replace eW := eW.symm; subst eW) | (go_at_call_of 44 key; refine (A1 _).mono ?_; rintro en wa ⟨rfl, eW⟩; replace eW := eW.symm; subst eW) | fail)
        go_ret2
        exact ⟨sa, sc, by rw [HV.out]; try rfl, by rw [HV.out]; exact rs, BV⟩
    · rw [Bool.not_eq_true] at c0
      rw [c0] at A0
      have HV : Hid (adT xs who key = (xs, false)) := adT_no ht.out (by unfold adK; rw [c0]; simp)
      clear hr c0 ht
      go_wp2_with (first | (go_at_call_of 44 who; refine (A0 _).mono ?_; rintro en wa ⟨rfl, eW⟩; replace eW := eW.symm; subst eW) | (go_at_call_of 44 key; refine (A1 _).mono ?_; rintro en wa ⟨rfl, eW⟩; replace eW := eW.symm; subst eW) | fail)
      go_ret2
      exact ⟨sa, sc, by rw [HV.out]; try rfl, by rw [HV.out]; exact rs, BV⟩
end Go.Proofs.Ytkfjpgkpmdbnoaa
