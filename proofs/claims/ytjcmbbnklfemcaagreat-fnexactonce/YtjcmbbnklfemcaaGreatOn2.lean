/- Nothing was taken twice: the model. -/
import Derived.Test.YtjcmbbnklfemcaaGreatOn1
set_option linter.unusedVariables false
set_option maxRecDepth 100000
namespace Go.Proofs.YtjcmbbnklfemcaaGreat.Nd
open Go Go.RowKit Go.Joins Own Draw Term

theorem nodup_of {α β : Type} {f : α → β} {xs : List α} (h : ∀ a b (ha : a < xs.length) (hb : b < a), f xs[a] ≠ f (xs[b]'(Nat.lt_trans hb ha))) : (xs.map f).Nodup := by
  rw [List.Nodup, List.pairwise_iff_getElem]
  intro i j hi hj hij
  simp only [List.getElem_map]
  simp only [List.length_map] at hi hj
  exact fun e => h j i hj hij e.symm
theorem not_nodup {α β : Type} {f : α → β} {xs : List α} {a b : Nat} (ha : a < xs.length) (hb : b < a) (e : f xs[a] = f (xs[b]'(Nat.lt_trans hb ha))) : ¬ (xs.map f).Nodup := by
  rw [List.Nodup, List.pairwise_iff_getElem]
  intro h
  have := h b a (by simp; omega) (by simpa using ha) hb
  simp only [List.getElem_map] at this
  exact this e.symm
set_option maxRecDepth 100000 in
set_option maxHeartbeats 6400000 in
theorem specOnce_is (B : Nat) (d : TD) (w : World) (hd : WdOk B w d) : Calls Tryz.prog 16 #[vD d] w fun e w' => e = .returned (.bool (wokB d && onB d.2.2.2.2.2.2.2.2.2.1.2.2)) ∧ Below w.heap.size w w' := by
  obtain ⟨ie, hie, his⟩ := info_D
  obtain ⟨f0, f1, f2, f3, f4, f5, f6, f7, f8, ⟨aa, ac, xs⟩, f10⟩ := d
  dsimp only
  obtain ⟨V, hV⟩ : ∃ V, w.alloc (.cells #[.slice f0.1.1 f0.1.2.2.length f0.1.2.1, .slice f0.2.1.1 f0.2.1.2.2.length f0.2.1.2.1, .slice f0.2.2.1.1 f0.2.2.1.2.2.length f0.2.2.1.2.1, .slice f0.2.2.2.1.1 f0.2.2.2.1.2.2.length f0.2.2.2.1.2.1, .int .i64 f0.2.2.2.2, .int .i64 f1, .int .i64 f2, .slice f3.1 f3.2.2.length f3.2.1, .slice f4.1.1 f4.1.2.2.length f4.1.2.1, .slice f4.2.1 f4.2.2.2.length f4.2.2.1, .slice f5.1 f5.2.2.length f5.2.1, .slice f6.1 f6.2.2.length f6.2.1, .slice f7.1 f7.2.2.length f7.2.1, .slice f8.1 f8.2.2.length f8.2.1, .slice aa xs.length ac, .slice f10.1 f10.2.2.length f10.2.1] 48) = V := ⟨_, rfl⟩
  have TV : Blk w.heap.size [.slice f0.1.1 f0.1.2.2.length f0.1.2.1, .slice f0.2.1.1 f0.2.1.2.2.length f0.2.1.2.1, .slice f0.2.2.1.1 f0.2.2.1.2.2.length f0.2.2.1.2.1, .slice f0.2.2.2.1.1 f0.2.2.2.1.2.2.length f0.2.2.2.1.2.1, .int .i64 f0.2.2.2.2, .int .i64 f1, .int .i64 f2, .slice f3.1 f3.2.2.length f3.2.1, .slice f4.1.1 f4.1.2.2.length f4.1.2.1, .slice f4.2.1 f4.2.2.2.length f4.2.2.1, .slice f5.1 f5.2.2.length f5.2.1, .slice f6.1 f6.2.2.length f6.2.1, .slice f7.1 f7.2.2.length f7.2.1, .slice f8.1 f8.2.2.length f8.2.1, .slice aa xs.length ac, .slice f10.1 f10.2.2.length f10.2.1] V := by rw [← hV]; exact Blk.new _ _ _
  have BC : Below w.heap.size w V := by rw [← hV]; exact (Below.refl _ _).alloc (Nat.le_refl _) _
  have K1 := specWorldOk_is B _ V (hd.later BC)
  go_enter Tryz.func16, Tryz.ntmps16
  go_wp2_with (first | (refine wpList_ldB 48 _ w.heap.size 0 _ [.slice f0.1.1 f0.1.2.2.length f0.1.2.1, .slice f0.2.1.1 f0.2.1.2.2.length f0.2.1.2.1, .slice f0.2.2.1.1 f0.2.2.1.2.2.length f0.2.2.1.2.1, .slice f0.2.2.2.1.1 f0.2.2.2.1.2.2.length f0.2.2.2.1.2.1, .int .i64 f0.2.2.2.2, .int .i64 f1, .int .i64 f2, .slice f3.1 f3.2.2.length f3.2.1, .slice f4.1.1 f4.1.2.2.length f4.1.2.1, .slice f4.2.1 f4.2.2.2.length f4.2.2.1, .slice f5.1 f5.2.2.length f5.2.1, .slice f6.1 f6.2.2.length f6.2.1, .slice f7.1 f7.2.2.length f7.2.1, .slice f8.1 f8.2.2.length f8.2.1, .slice aa xs.length ac, .slice f10.1 f10.2.2.length f10.2.1] ie hie (Tryz.isAgg48) TV his.symm rfl rfl rfl rfl ?_; try simp only [Act.put]))
  refine K1.mono ?_
  clear K1 hV
  rintro en v0 ⟨rfl, hb⟩
  replace TV := TV.later hb (World.block_lt_of_cell? _ _ (TV.at 0 rfl))
  replace BC := BC.trans (hb.mono BC.size)
  clear hb
  by_cases hw : wokB (f0, f1, f2, f3, f4, f5, f6, f7, f8, (aa, ac, xs), f10) = true
  · have hl40 : xs.length ≤ 40 := wok_acc hw
    have hr : FRow 15 cQ w aa xs := hd.ow.2.2.2.2.2.2.2.1.dp.1
    rw [hw]
    clear hd
    replace hw : Hid (wokB (f0, f1, f2, f3, f4, f5, f6, f7, f8, (aa, ac, xs), f10) = true) := hw
    go_wp2
    go_loopw [3] (fun iv wr => ∃ i : Nat, i ≤ xs.length ∧ iv = .int .i64 i ∧ Hid (∀ a b (ha : a < xs.length) (hb : b < a), a < i → rq xs[a] ≠ rq (xs[b]'(Nat.lt_trans hb ha))) ∧ Below v0.heap.size v0 wr) (fun iv _ => xs.length - (intOf iv).toNat)
    case atStart => exact ⟨0, by omega, rfl, fun a b ha hb h => absurd h (by omega), Below.refl _ _⟩
    case round =>
      obtain ⟨i, hi, rfl, hno, hbel⟩ := hrel
      have TW := TV.later hbel (World.block_lt_of_cell? _ _ (TV.at 0 rfl))
      have e14 := TW.at 14 rfl
      by_cases hlt : i < xs.length
      · have hlt2 : (i : Int) < (xs.length : Int) := by omega
        go_wp2
        clear TW e14
        go_loopw [4] (fun kv wr2 => ∃ k : Nat, k ≤ i ∧ kv = .int .i64 k ∧ Hid (∀ b (hb : b < i), b < k → rq xs[i] ≠ rq (xs[b]'(Nat.lt_trans hb hlt))) ∧ Below v0.heap.size v0 wr2) (fun kv _ => i - (intOf kv).toNat)
        case atStart => exact ⟨0, by omega, rfl, fun b hb h => absurd h (by omega), hbel⟩
        case round =>
          clear hbel
          obtain ⟨k, hk, rfl, hin, hbel⟩ := hrel
          have TW := TV.later hbel (World.block_lt_of_cell? _ _ (TV.at 0 rfl))
          have e14 := TW.at 14 rfl
          have BW := BC.trans (hbel.mono BC.size)
          clear TW
          by_cases hki : k < i
          · have hkl : k < xs.length := by omega
            have hki2 : (k : Int) < (i : Int) := by omega
            have hkl2 : (k : Int) < (xs.length : Int) := by omega
            obtain ⟨b1, o1, ea, l1, hcc⟩ := hr i hlt
            obtain ⟨b2, o2, ea2, l2, hcc2⟩ := hr k hkl
            obtain ⟨rfl, rfl⟩ : b2 = b1 ∧ o2 = o1 := by rw [ea] at ea2; injection ea2 with e; injection e with e1 e2; exact ⟨e1.symm, e2.symm⟩
            rw [ea] at e14
            clear ea ea2
            have p0 : wr.cell? ⟨b2, o2 + i * 15, none⟩ = some (.int .i64 xs[i].1) := (BW.cell (p := ⟨b2, o2 + i * 15, none⟩) l1).trans (hcc 0 _ rfl)
            have q0 : wr.cell? ⟨b2, o2 + k * 15, none⟩ = some (.int .i64 xs[k].1) := (BW.cell (p := ⟨b2, o2 + k * 15, none⟩) l1).trans (hcc2 0 _ rfl)
            have p5 : wr.cell? ⟨b2, o2 + i * 15 + 5, none⟩ = some (.int .i64 xs[i].2.2.2.2.2.1.1) := (BW.cell (p := ⟨b2, o2 + i * 15 + 5, none⟩) l1).trans (hcc 5 _ rfl)
            have q5 : wr.cell? ⟨b2, o2 + k * 15 + 5, none⟩ = some (.int .i64 xs[k].2.2.2.2.2.1.1) := (BW.cell (p := ⟨b2, o2 + k * 15 + 5, none⟩) l1).trans (hcc2 5 _ rfl)
            have p6 : wr.cell? ⟨b2, o2 + i * 15 + 6, none⟩ = some (.int .i64 xs[i].2.2.2.2.2.1.2.1) := (BW.cell (p := ⟨b2, o2 + i * 15 + 6, none⟩) l1).trans (hcc 6 _ rfl)
            have q6 : wr.cell? ⟨b2, o2 + k * 15 + 6, none⟩ = some (.int .i64 xs[k].2.2.2.2.2.1.2.1) := (BW.cell (p := ⟨b2, o2 + k * 15 + 6, none⟩) l1).trans (hcc2 6 _ rfl)
            have p7 : wr.cell? ⟨b2, o2 + i * 15 + 7, none⟩ = some (.int .i64 xs[i].2.2.2.2.2.1.2.2) := (BW.cell (p := ⟨b2, o2 + i * 15 + 7, none⟩) l1).trans (hcc 7 _ rfl)
            have q7 : wr.cell? ⟨b2, o2 + k * 15 + 7, none⟩ = some (.int .i64 xs[k].2.2.2.2.2.1.2.2) := (BW.cell (p := ⟨b2, o2 + k * 15 + 7, none⟩) l1).trans (hcc2 7 _ rfl)
            have hin2 : ¬ rq xs[i] = rq xs[k] → Hid (∀ b (hb : b < i), b < k + 1 → rq xs[i] ≠ rq (xs[b]'(Nat.lt_trans hb hlt))) := fun hne b hb h => by
              by_cases e : b = k
              · subst e; exact hne
              · exact hin.out b hb (by omega)
            have hbad : rq xs[i] = rq xs[k] → Hid (onB xs = false) := fun e => decide_eq_false (not_nodup hlt hki e)
            have hrq : (rq xs[i] = rq xs[k]) ↔ (xs[i].1 = xs[k].1 ∧ xs[i].2.2.2.2.2.1.1 = xs[k].2.2.2.2.2.1.1 ∧ xs[i].2.2.2.2.2.1.2.1 = xs[k].2.2.2.2.2.1.2.1 ∧ xs[i].2.2.2.2.2.1.2.2 = xs[k].2.2.2.2.2.1.2.2) := by unfold rq; simp only [Prod.mk.injEq]
            rw [hrq] at hin2 hbad
            clear hin hcc hcc2 hrq hno
            generalize xs[i].1 = p0v at p0 hin2 hbad
            generalize xs[k].1 = q0v at q0 hin2 hbad
            generalize xs[i].2.2.2.2.2.1.1 = p5v at p5 hin2 hbad
            generalize xs[k].2.2.2.2.2.1.1 = q5v at q5 hin2 hbad
            generalize xs[i].2.2.2.2.2.1.2.1 = p6v at p6 hin2 hbad
            generalize xs[k].2.2.2.2.2.1.2.1 = q6v at q6 hin2 hbad
            generalize xs[i].2.2.2.2.2.1.2.2 = p7v at p7 hin2 hbad
            generalize xs[k].2.2.2.2.2.1.2.2 = q7v at q7 hin2 hbad
            by_cases e0 : p0v = q0v
            · have m0 : (p0v == q0v) = true := beq_iff_eq.2 e0
              by_cases e5 : p5v = q5v
              · have m5 : (p5v == q5v) = true := beq_iff_eq.2 e5
                by_cases e6 : p6v = q6v
                · have m6 : (p6v == q6v) = true := beq_iff_eq.2 e6
                  by_cases e7 : p7v = q7v
                  · have m7 : (p7v == q7v) = true := beq_iff_eq.2 e7
                    have hbd := hbad ⟨e0, e5, e6, e7⟩
                    clear hin2 hbad e0 e5 e6 e7
                    go_wp2_with fail
                    go_big_quiet (fail)
                    go_wp2
                    go_ret
                    exact ⟨by rw [hw.out, hbd.out]; rfl, (Kn.below_drewN BW _)⟩
                  · have m7 : (p7v == q7v) = false := beq_eq_false_iff_ne.2 e7
                    have hin3 := hin2 (fun h => absurd h.2.2.2 e7)
                    clear hin2 hbad e0 e5 e6 e7
                    go_wp2_with fail
                    go_big_quiet (fail)
                    go_wp2
                    go_roundw
                    case rel => exact ⟨k + 1, by omega, by go_num, hin3, (Kn.below_drewN hbel _)⟩
                    case measure => simp [intOf]; omega
                · have m6 : (p6v == q6v) = false := beq_eq_false_iff_ne.2 e6
                  have hin3 := hin2 (fun h => absurd h.2.2.1 e6)
                  clear hin2 hbad e0 e5 e6
                  go_wp2_with fail
                  go_big_quiet (fail)
                  go_wp2
                  go_roundw
                  case rel => exact ⟨k + 1, by omega, by go_num, hin3, (Kn.below_drewN hbel _)⟩
                  case measure => simp [intOf]; omega
              · have m5 : (p5v == q5v) = false := beq_eq_false_iff_ne.2 e5
                have hin3 := hin2 (fun h => absurd h.2.1 e5)
                clear hin2 hbad e0 e5
                go_wp2_with fail
                go_big_quiet (fail)
                go_wp2
                go_roundw
                case rel => exact ⟨k + 1, by omega, by go_num, hin3, (Kn.below_drewN hbel _)⟩
                case measure => simp [intOf]; omega
            · have m0 : (p0v == q0v) = false := beq_eq_false_iff_ne.2 e0
              have hin3 := hin2 (fun h => absurd h.1 e0)
              clear hin2 hbad e0
              go_wp2_with fail
              go_big_quiet (fail)
              go_wp2
              go_roundw
              case rel => exact ⟨k + 1, by omega, by go_num, hin3, (Kn.below_drewN hbel _)⟩
              case measure => simp [intOf]; omega
          · obtain rfl : k = i := by omega
            have hki2 : ¬ (k : Int) < (k : Int) := by omega
            have hno2 : Hid (∀ a b (ha : a < xs.length) (hb : b < a), a < k + 1 → rq xs[a] ≠ rq (xs[b]'(Nat.lt_trans hb ha))) := fun a b ha hb h => by
              by_cases e : a = k
              · subst e; exact hin.out b hb hb
              · exact hno.out a b ha hb (by omega)
            clear hin hno e14 BW
            go_wp2
            go_roundw
            case rel => exact ⟨k + 1, by omega, by go_num, hno2, hbel⟩
            case measure => simp [intOf]; omega
      · have hlt2 : ¬ (i : Int) < (xs.length : Int) := by omega
        have HV : Hid (onB xs = true) := decide_eq_true (nodup_of fun a b ha hb => hno.out a b ha hb (by omega))
        have BW := BC.trans (hbel.mono BC.size)
        clear hno hr
        go_wp2
        go_ret
        exact ⟨by rw [hw.out, HV.out]; rfl, BW⟩
  · rw [Bool.not_eq_true] at hw
    rw [hw]
    go_wp2
    go_ret
    exact ⟨by rw [hw]; rfl, BC⟩
end Go.Proofs.YtjcmbbnklfemcaaGreat.Nd
