/- A message that is read: the model. -/
import Derived.Test.YtengggpobhibcaaDoorTd2
set_option linter.unusedVariables false
set_option maxRecDepth 100000
namespace Go.Proofs.YtengggpobhibcaaDoor.Nd
open Go Go.RowKit Go.Joins Own Draw Var

theorem node_is (s : ByteArray) (hs : s.size ≤ 900) : ∀ (f deep : Nat), deep + f = 8 → ∀ (B : Nat) (r : Rw TT) (bg a en : Nat) (w : World), B ≤ w.heap.size → RoT B w r → ApT r → r.2.2.length ≤ bg → bg ≤ 60 → a ≤ en → en ≤ s.size →
    Calls Tryd.prog 25 #[.agg #[.string s, .slice r.1 r.2.2.length r.2.1, .int .i64 bg, .int .i64 0], .int .i64 a, .int .i64 en, .int .i64 deep] w fun e w' => NodeP s (nodeN s f (rsT r) bg a en) B r w e w'
  | 0, deep, hd, B, r, bg, a, en, w, h1, h2, hp, h3, h4, h5, h6 => by
    have := step_is s hs deep (by omega) (fun _ _ _ _ => (([], 0, 0), 0)) (fun h => by omega) (fun h => by omega) B r bg a en w h1 h2 hp h3 h4 h5 h6
    rw [decide_eq_false (by omega)] at this
    exact this
  | f + 1, deep, hd, B, r, bg, a, en, w, h1, h2, hp, h3, h4, h5, h6 => by
    have := step_is s hs deep (by omega) (nodeN s f) (fun _ => node_good s f) (fun h B r bg a en w g1 g2 gp g3 g4 g5 g6 => by
      have := node_is s hs f (deep + 1) (by omega) B r bg a en w g1 g2 gp g3 g4 g5 g6
      rw [show (((deep + 1 : Nat)) : Int) = (deep : Int) + 1 by omega] at this
      exact this) B r bg a en w h1 h2 hp h3 h4 h5 h6
    rw [decide_eq_true (by omega)] at this
    exact this
theorem below_none {w w' : World} (h : w.grownBy w' none) : Below w.heap.size w w' := ⟨h.os, h.tape, h.output, h.size, fun k hk => h.block k hk (by simp)⟩
/-- What ReadTlv says. -/
noncomputable def rdT (s : ByteArray) : List PT × Int :=
  if 900 < s.size then ([], 4) else if (nodeN s 8 [] 0 0 s.size).1.2.2 ≠ 0 then ([], (nodeN s 8 [] 0 0 s.size).1.2.2) else if (nodeN s 8 [] 0 0 s.size).2 ≠ s.size then ([], 5) else ((nodeN s 8 [] 0 0 s.size).1.1, 0)
theorem lit44 (W : World) (B : Nat) (hB : B ≤ W.heap.size) : RoT B (W.alloc (.cells #[] 61)) (some ⟨W.heap.size, 0, none⟩, 0, []) :=
  ⟨World.ownsRow_lit _ _ _ hB (Nat.zero_le _) rfl, fun x hx => by cases hx⟩
set_option maxRecDepth 100000 in
set_option maxHeartbeats 3200000 in
theorem specRead_is (s : ByteArray) (w : World) : Calls Tryd.prog 12 #[.string s] w fun e w' => ∃ q : Rw TT, e = .returned (.tuple #[.slice q.1 q.2.2.length q.2.1, .int .i64 (rdT s).2]) ∧ rsT q = (rdT s).1 ∧ RoT w.heap.size w' q ∧ ApT q ∧ Below w.heap.size w w' := by
  obtain ⟨il, hil, hils⟩ := info_L
  go_enter Tryd.func12, Tryd.ntmps12
  by_cases h9 : 900 < s.size
  · have c9 : (900 : Int) < (s.size : Int) := by omega
    have HV : Hid (rdT s = ([], 4)) := if_pos h9
    go_wp2
    go_ret2
    exact ⟨(some ⟨w.heap.size, 0, none⟩, 0, []), by rw [HV.out]; rfl, by rw [HV.out]; rfl, lit44 w _ (Nat.le_refl _), List.Pairwise.nil, (Below.refl _ _).alloc (Nat.le_refl _) _⟩
  · have c9 : ¬ (900 : Int) < (s.size : Int) := by omega
    have KC : Calls Tryd.prog 25 #[.agg #[.string s, .slice none 0 0, .int .i64 0, .int .i64 0], .int .i64 0, .int .i64 s.size, .int .i64 0] w fun e w' => NodeP s (nodeN s 8 [] 0 0 s.size) w.heap.size (none, 0, []) w e w' :=
      node_is s (by omega) 8 0 rfl w.heap.size (none, 0, []) 0 0 s.size w (Nat.le_refl _) ⟨FOwn.nil _ _ _ _ _, fun x hx => by cases hx⟩ List.Pairwise.nil (Nat.le_refl _) (by omega) (Nat.zero_le _) (Nat.le_refl _)
    have HV : Hid (rdT s = if (nodeN s 8 [] 0 0 s.size).1.2.2 ≠ 0 then ([], (nodeN s 8 [] 0 0 s.size).1.2.2) else if (nodeN s 8 [] 0 0 s.size).2 ≠ s.size then ([], 5) else ((nodeN s 8 [] 0 0 s.size).1.1, 0)) := if_neg h9
    generalize nodeN s 8 [] 0 0 s.size = R at KC HV
    go_wp2_with fail
    refine KC.mono ?_
    clear KC
    rintro ex W1 ⟨⟨pa, pc, zs⟩, rfl, hz, ro, gr, _, _, ap⟩
    have b1 : Below w.heap.size w W1 := below_none gr
    obtain ⟨W2, hW2⟩ : ∃ Y, W1.alloc (.cells #[.string ⟨#[]⟩, .slice none 0 0, .int .i64 0, .int .i64 0] 51) = Y := ⟨_, rfl⟩
    have ty2 : Blk W1.heap.size [.string ⟨#[]⟩, .slice none 0 0, .int .i64 0, .int .i64 0] W2 := by rw [← hW2]; exact Blk.new _ _ _
    have b2 : Below W1.heap.size W1 W2 := by rw [← hW2]; exact (Below.refl _ _).alloc (Nat.le_refl _) _
    obtain ⟨W3, hW3⟩ : ∃ Y, W2.setCells W1.heap.size 0 [.string s, .slice pa zs.length pc, .int .i64 R.1.2.1, .int .i64 R.1.2.2] = Y := ⟨_, rfl⟩
    have ty3 : Blk W1.heap.size [.string s, .slice pa zs.length pc, .int .i64 R.1.2.1, .int .i64 R.1.2.2] W3 := by rw [← hW3]; exact ty2.sets _ rfl
    have b3 : Below W1.heap.size W1 W3 := by rw [← hW3]; exact below_sets (Nat.le_refl _) _ _ _ b2
    have ro3 := RoT.later ro b3
    have b3w := b1.trans (b3.mono b1.size)
    have e3 := ty3.at 3 rfl
    have e1 := ty3.at 1 rfl
    by_cases hc : R.1.2.2 = 0
    · have hcb : (R.1.2.2 != 0) = false := by rw [hc]; rfl
      have HC : Hid (R.1.2.2 = 0) := hc
      by_cases hn : R.2 = s.size
      · have hnb : ((R.2 : Int) != (s.size : Int)) = false := by rw [hn]; simp
        have HV2 : Hid (rdT s = (R.1.1, 0)) := by show _ = _; rw [HV.out, if_neg (fun c => c hc), if_neg (fun c => c hn)]
        clear hc hn HV
        go_wp2_with (first | (refine wpList_stB 51 _ _ W1.heap.size 0 _ [.string s, .slice pa zs.length pc, .int .i64 R.1.2.1, .int .i64 R.1.2.2] il hil ty2 hils.symm (by simp) rfl rfl rfl rfl rfl ?_; rw [hW3]))
        go_ret2
        exact ⟨(pa, pc, zs), by rw [HV2.out]; rfl, by rw [HV2.out]; exact hz, ro3, ap, b3w⟩
      · have hnb : ((R.2 : Int) != (s.size : Int)) = true := by simp; omega
        have HV2 : Hid (rdT s = ([], 5)) := by show _ = _; rw [HV.out, if_neg (fun c => c hc), if_pos hn]
        clear hc hn HV
        go_wp2_with (first | (refine wpList_stB 51 _ _ W1.heap.size 0 _ [.string s, .slice pa zs.length pc, .int .i64 R.1.2.1, .int .i64 R.1.2.2] il hil ty2 hils.symm (by simp) rfl rfl rfl rfl rfl ?_; rw [hW3]))
        go_ret2
        exact ⟨(some ⟨W3.heap.size, 0, none⟩, 0, []), by rw [HV2.out]; rfl, by rw [HV2.out]; rfl, lit44 W3 _ b3w.size, List.Pairwise.nil, b3w.alloc b3w.size _⟩
    · have hcb : (R.1.2.2 != 0) = true := by simp [hc]
      have HV2 : Hid (rdT s = ([], R.1.2.2)) := by show _ = _; rw [HV.out, if_pos hc]
      clear hc HV
      go_wp2_with (first | (refine wpList_stB 51 _ _ W1.heap.size 0 _ [.string s, .slice pa zs.length pc, .int .i64 R.1.2.1, .int .i64 R.1.2.2] il hil ty2 hils.symm (by simp) rfl rfl rfl rfl rfl ?_; rw [hW3]))
      have e3b := (ty3.alloc ty3.lt (.cells #[] 61)).at 3 rfl
      go_region
      all_goals go_wp2
      go_ret2
      exact ⟨(some ⟨W3.heap.size, 0, none⟩, 0, []), by rw [HV2.out]; rfl, by rw [HV2.out]; rfl, by first | exact lit44 W3 _ b3w.size | exact lit44 W3.drew _ b3w.size, List.Pairwise.nil, by first | exact (b3w.alloc b3w.size _).drew | exact (b3w.drew).alloc b3w.size _⟩
end Go.Proofs.YtengggpobhibcaaDoor.Nd
