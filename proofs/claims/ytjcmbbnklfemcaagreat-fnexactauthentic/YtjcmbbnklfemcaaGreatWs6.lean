/- What principals and services have is right. -/
import Derived.Test.YtjcmbbnklfemcaaGreatWs4
set_option linter.unusedVariables false
set_option maxRecDepth 100000
namespace Go.Proofs.YtjcmbbnklfemcaaGreat.Nd
open Go Go.RowKit Go.Joins Own Draw Term

/-- Is a world right, by what it holds. -/
def endB (d : TD) : Bool := decide (d.2.2.2.2.2.1.2.2.length = 6) && ((d.2.2.2.2.2.1.2.2.all fun x => waitB x) && (decide (d.2.2.2.2.2.2.1.2.2.length ≤ 30) && ((d.2.2.2.2.2.2.1.2.2.all fun x => crB x) && (decide (d.2.2.2.2.2.2.2.1.2.2.length = 3) && (d.2.2.2.2.2.2.2.1.2.2.all fun x => caB x)))))
def recB (d : TD) : Bool := decide (d.2.2.2.2.2.2.2.2.1.2.2.length ≤ 40) && (decide (d.2.2.2.2.2.2.2.2.2.1.2.2.length ≤ 40) && (decide (d.2.2.2.2.2.2.2.2.2.2.2.2.length ≤ 40) && (d.2.2.2.2.2.2.2.2.2.1.2.2.all fun x => acB d.2.2.2.2.2.2.2.2.2.2.2.2.length x)))
def cfOf (p : TF) : Cf := ⟨p.1.1, p.1.2.1, p.1.2.2, p.2.1.1, p.2.1.2.1, p.2.1.2.2, p.2.2.1.1, p.2.2.1.2.1, p.2.2.1.2.2, p.2.2.2.1.1, p.2.2.2.1.2.1, p.2.2.2.1.2.2, p.2.2.2.2⟩
def knB (p : TN) : Bool := Kn.kOk p.1.2.2 p.2.2.2
def wokB (d : TD) : Bool := confB (cfOf d.1) && (btw d.2.1 0 100000 && (decide (101 ≤ d.2.2.1) && (btw d.2.2.1 1 1000000 && (decide (d.2.2.2.1.2.2.length ≤ 50) && ((d.2.2.2.1.2.2.all fun x => isT x) && (knB d.2.2.2.2.1 && (endB d && recB d)))))))
/-- What is asked of a world that is looked at: it lies in memory of one's own, it is not too great, its numbers are in their kind's bounds. -/
structure WdOk (B : Nat) (w : World) (d : TD) : Prop where
  ow : OwD B w d
  le : totD d ≤ 1048576
  ok : ∀ x ∈ d.2.2.2.2.2.2.1.2.2, i64 x.2.2.1
theorem WdOk.later {B : Nat} {w w' : World} {d : TD} (h : WdOk B w d) (hb : Below w.heap.size w w') : WdOk B w' d := ⟨h.ow.later hb, h.le, h.ok⟩
theorem sum_le {α : Type} {f : α → Nat} {xs : List α} {n : Nat} (h : (xs.map f).sum ≤ n) : ∀ x ∈ xs, f x ≤ n := fun x hx => Nat.le_trans (le_sum_of_mem (List.mem_map_of_mem hx)) h
theorem own_at {B : Nat} {w : World} {r : Rw TK} (h : RoK B w r) : ∀ x ∈ r.2.2, RoA B w x.2 := fun x hx => h.2 x hx
theorem tot_parts {d : TD} (h : totD d ≤ 1048576) : (d.1.1.2.2.length ≤ 1048576 ∧ d.1.2.1.2.2.length ≤ 1048576 ∧ d.1.2.2.1.2.2.length ≤ 1048576 ∧ d.1.2.2.2.1.2.2.length ≤ 1048576) ∧ (d.2.2.2.1.2.2.length ≤ 1048576 ∧ ∀ x ∈ d.2.2.2.1.2.2, x.size ≤ 1048576) ∧ (d.2.2.2.2.1.1.2.2.length ≤ 1048576 ∧ d.2.2.2.2.1.2.2.2.length ≤ 1048576 ∧ ∀ x ∈ d.2.2.2.2.1.1.2.2, x.size ≤ 1048576) ∧
    (d.2.2.2.2.2.1.2.2.length ≤ 1048576 ∧ d.2.2.2.2.2.2.1.2.2.length ≤ 1048576 ∧ (∀ x ∈ d.2.2.2.2.2.2.1.2.2, x.2.2.2.2.2.2.2.size ≤ 1048576) ∧ d.2.2.2.2.2.2.2.1.2.2.length ≤ 1048576 ∧ (∀ x ∈ d.2.2.2.2.2.2.2.1.2.2, x.2.2.2.length ≤ 1048576)) ∧
    (d.2.2.2.2.2.2.2.2.1.2.2.length ≤ 1048576 ∧ d.2.2.2.2.2.2.2.2.2.1.2.2.length ≤ 1048576 ∧ (∀ x ∈ d.2.2.2.2.2.2.2.2.2.1.2.2, x.2.2.2.2.2.2.2.1.2.2.length ≤ 1048576 ∧ x.2.2.2.2.2.2.2.2.1.2.2.length ≤ 1048576) ∧ d.2.2.2.2.2.2.2.2.2.2.2.2.length ≤ 1048576) := by
  obtain ⟨⟨c0, c1, c2, c3, c4⟩, nw, fr, nt, ⟨kt, kk⟩, wt, cr, ca, lg, ac, lk⟩ := d
  unfold totD totF totN rtS rtI rtP rtW rtC rtK rtE rtQ at h
  dsimp only at h ⊢
  refine ⟨⟨by omega, by omega, by omega, by omega⟩, ⟨by omega, sum_le (f := ByteArray.size) (by omega)⟩, ⟨by omega, by omega, sum_le (f := ByteArray.size) (by omega)⟩, ⟨by omega, by omega, ?_, by omega, ?_⟩, ⟨by omega, by omega, ?_, by omega⟩⟩
  · exact sum_le (f := totC) (by omega)
  · exact sum_le (f := totK) (by omega)
  · intro x hx
    have := sum_le (f := totQ) (n := 1048576) (by omega) x hx
    unfold totQ rtI at this
    exact ⟨by omega, by omega⟩
set_option maxRecDepth 100000 in
set_option maxHeartbeats 3200000 in
theorem ends_is (B : Nat) (d : TD) (w : World) (hd : WdOk B w d) : Calls Tryz.prog 84 #[vD d] w fun e w' => e = .returned (.bool (endB d)) ∧ Below w.heap.size w w' := by
  obtain ⟨⟨l10, l11, l12, l13⟩, ⟨l30, l31⟩, ⟨l40, l42, l41⟩, ⟨l50, l60, l61, l70, l71⟩, ⟨l80, l90, l91, la0⟩⟩ := tot_parts hd.le
  have hok := hd.ok
  obtain ⟨o0, o3, o4, o5, o6, o7, o8, o9, oa⟩ := hd.ow
  clear hd
  obtain ⟨f0, f1, f2, f3, f4, f5, f6, f7, f8, f9, f10⟩ := d
  dsimp only at *
  obtain ⟨V, hV⟩ : ∃ V, w.alloc (.cells #[.slice f0.1.1 f0.1.2.2.length f0.1.2.1, .slice f0.2.1.1 f0.2.1.2.2.length f0.2.1.2.1, .slice f0.2.2.1.1 f0.2.2.1.2.2.length f0.2.2.1.2.1, .slice f0.2.2.2.1.1 f0.2.2.2.1.2.2.length f0.2.2.2.1.2.1, .int .i64 f0.2.2.2.2, .int .i64 f1, .int .i64 f2, .slice f3.1 f3.2.2.length f3.2.1, .slice f4.1.1 f4.1.2.2.length f4.1.2.1, .slice f4.2.1 f4.2.2.2.length f4.2.2.1, .slice f5.1 f5.2.2.length f5.2.1, .slice f6.1 f6.2.2.length f6.2.1, .slice f7.1 f7.2.2.length f7.2.1, .slice f8.1 f8.2.2.length f8.2.1, .slice f9.1 f9.2.2.length f9.2.1, .slice f10.1 f10.2.2.length f10.2.1] 48) = V := ⟨_, rfl⟩
  have TV : Blk w.heap.size [.slice f0.1.1 f0.1.2.2.length f0.1.2.1, .slice f0.2.1.1 f0.2.1.2.2.length f0.2.1.2.1, .slice f0.2.2.1.1 f0.2.2.1.2.2.length f0.2.2.1.2.1, .slice f0.2.2.2.1.1 f0.2.2.2.1.2.2.length f0.2.2.2.1.2.1, .int .i64 f0.2.2.2.2, .int .i64 f1, .int .i64 f2, .slice f3.1 f3.2.2.length f3.2.1, .slice f4.1.1 f4.1.2.2.length f4.1.2.1, .slice f4.2.1 f4.2.2.2.length f4.2.2.1, .slice f5.1 f5.2.2.length f5.2.1, .slice f6.1 f6.2.2.length f6.2.1, .slice f7.1 f7.2.2.length f7.2.1, .slice f8.1 f8.2.2.length f8.2.1, .slice f9.1 f9.2.2.length f9.2.1, .slice f10.1 f10.2.2.length f10.2.1] V := by rw [← hV]; exact Blk.new _ _ _
  have BC : Below w.heap.size w V := by rw [← hV]; exact (Below.refl _ _).alloc (Nat.le_refl _) _
  have d10 := TV.at 10 rfl
  have d11 := TV.at 11 rfl
  have d12 := TV.at 12 rfl
  have HE : Hid (endB (f0, f1, f2, f3, f4, f5, f6, f7, f8, f9, f10) = (decide (f5.2.2.length = 6) && ((f5.2.2.all fun x => waitB x) && (decide (f6.2.2.length ≤ 30) && ((f6.2.2.all fun x => crB x) && (decide (f7.2.2.length = 3) && ((f7.2.2.all fun x => caB x)))))))) := (rfl : endB (f0, f1, f2, f3, f4, f5, f6, f7, f8, f9, f10) = _)
  go_enter Tryz.func84, Tryz.ntmps84
  by_cases h0 : decide (f5.2.2.length = 6) = true
  · have t0 : (((f5.2.2.length : Nat) : Int) == 6) = true := by have := of_decide_eq_true h0; exact beq_iff_eq.2 (by omega)
    go_wp2_with fail
    try rw [hV]
    refine (allW_is f5.1 f5.2.1 f5.2.2 _ (o5.dp.later BC) l50 (fun x _ w' _ => waitRight_is x w')).mono ?_
    rintro en v1 ⟨rfl, hb⟩
    clear d10 d11 d12
    replace TV := TV.later hb (World.block_lt_of_cell? _ _ (TV.at 0 rfl))
    replace BC := BC.trans (hb.mono BC.size)
    clear hb
    have d10 := TV.at 10 rfl
    have d11 := TV.at 11 rfl
    have d12 := TV.at 12 rfl
    by_cases h1 : (f5.2.2.all fun x => waitB x) = true
    · rw [h1]
      by_cases h2 : decide (f6.2.2.length ≤ 30) = true
      · have t2 : ((f6.2.2.length : Nat) : Int) ≤ 30 := by have := of_decide_eq_true h2; omega
        go_wp2_with fail
        refine (allC_is f6.1 f6.2.1 f6.2.2 _ (o6.dp.later BC) l60 (fun x hx w' _ => credRight_is _ _ _ _ _ _ _ _ w' (hok x hx) (l61 x hx))).mono ?_
        rintro en v3 ⟨rfl, hb⟩
        clear d10 d11 d12
        replace TV := TV.later hb (World.block_lt_of_cell? _ _ (TV.at 0 rfl))
        replace BC := BC.trans (hb.mono BC.size)
        clear hb
        have d10 := TV.at 10 rfl
        have d11 := TV.at 11 rfl
        have d12 := TV.at 12 rfl
        by_cases h3 : (f6.2.2.all fun x => crB x) = true
        · rw [h3]
          by_cases h4 : decide (f7.2.2.length = 3) = true
          · have t4 : (((f7.2.2.length : Nat) : Int) == 3) = true := by have := of_decide_eq_true h4; exact beq_iff_eq.2 (by omega)
            go_wp2_with fail
            refine (allK_is f7.1 f7.2.1 f7.2.2 _ (o7.dp.1.later BC) l70 (fun x hx w' hb => Ch.right_is x.1 x.2.1 x.2.2.1 x.2.2.2 w' (arow_of (((own_at o7 x hx).dp.later BC).later hb)) (l71 x hx))).mono ?_
            rintro en v5 ⟨rfl, hb⟩
            clear d10 d11 d12
            replace TV := TV.later hb (World.block_lt_of_cell? _ _ (TV.at 0 rfl))
            replace BC := BC.trans (hb.mono BC.size)
            clear hb
            have d10 := TV.at 10 rfl
            have d11 := TV.at 11 rfl
            have d12 := TV.at 12 rfl
            by_cases h5 : (f7.2.2.all fun x => caB x) = true
            · rw [h5]
              go_wp2
              go_ret
              exact ⟨by rw [HE.out, h0, h1, h2, h3, h4, h5]; rfl, BC⟩
            · rw [Bool.not_eq_true] at h5
              rw [h5]
              go_wp2
              go_ret
              exact ⟨by rw [HE.out, h0, h1, h2, h3, h4, h5]; rfl, BC⟩
          · rw [Bool.not_eq_true] at h4
            have t4 : (((f7.2.2.length : Nat) : Int) == 3) = false := by have := of_decide_eq_false h4; exact beq_eq_false_iff_ne.2 (by omega)
            go_wp2
            go_ret
            exact ⟨by rw [HE.out, h0, h1, h2, h3, h4]; rfl, BC⟩
        · rw [Bool.not_eq_true] at h3
          rw [h3]
          go_wp2
          go_ret
          exact ⟨by rw [HE.out, h0, h1, h2, h3]; rfl, BC⟩
      · rw [Bool.not_eq_true] at h2
        have t2 : ¬ ((f6.2.2.length : Nat) : Int) ≤ 30 := by have := of_decide_eq_false h2; omega
        go_wp2
        go_ret
        exact ⟨by rw [HE.out, h0, h1, h2]; rfl, BC⟩
    · rw [Bool.not_eq_true] at h1
      rw [h1]
      go_wp2
      go_ret
      exact ⟨by rw [HE.out, h0, h1]; rfl, BC⟩
  · rw [Bool.not_eq_true] at h0
    have t0 : (((f5.2.2.length : Nat) : Int) == 6) = false := by have := of_decide_eq_false h0; exact beq_eq_false_iff_ne.2 (by omega)
    go_wp2
    go_ret
    exact ⟨by rw [HE.out, h0]; rfl, BC⟩
end Go.Proofs.YtjcmbbnklfemcaaGreat.Nd
