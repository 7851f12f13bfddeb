/- A message that is read: the program. -/
import Derived.Test.YtpfonadpojcnnaaDoorRd2
import Derived.Test.YtpfonadpojcnnaaDoorTd3
set_option linter.unusedVariables false
set_option maxRecDepth 100000
namespace Go.Proofs.YtpfonadpojcnnaaDoor.Nd
open Go Go.RowKit Go.Joins Own Draw Var

theorem rnode_is (s : ByteArray) (hs : s.size ≤ 900) (B gb gm gr : Nat) (hgb : gb < B) (hgm : gm < B) (hgr : gr < B) (n1 : gb ≠ gm) (n2 : gb ≠ gr) (n3 : gm ≠ gr) : ∀ (f deep : Nat), deep + f = 8 → ∀ (r : Rw TT) (bg a en : Nat) (w : World), B ≤ w.heap.size → RoT B w r → ApT r → r.2.2.length ≤ bg → bg ≤ 60 → a ≤ en → en ≤ s.size → Blk gb [.int .i64 bg] w → Blk gm [slT r] w → Blk gr [cloV gb gr gm] w →
    Calls Tryd.prog 18 #[.string (s.extract a en), .int .i64 ((deep : Int) + 1), .pointer (some ⟨gb, 0, none⟩), .pointer (some ⟨gr, 0, none⟩), .pointer (some ⟨gm, 0, none⟩)] w fun e w' => ReadP s (nodeN s f (rsT r) bg a en) en B gb gm r w e w'
  | 0, deep, hd, r, bg, a, en, w, h1, h2, h3, h4, h5, h6, h7, k1, k2, k3 => by
    have := rstep_is s hs deep (by omega) B gb gm gr hgb hgm hgr n1 n2 n3 (fun _ _ _ _ => (([], 0, 0), 0)) (fun h => by omega) (fun h => by omega) r bg a en w h1 h2 h3 h4 h5 h6 h7 k1 k2 k3
    rw [decide_eq_false (by omega)] at this
    exact this
  | f + 1, deep, hd, r, bg, a, en, w, h1, h2, h3, h4, h5, h6, h7, k1, k2, k3 => by
    have := rstep_is s hs deep (by omega) B gb gm gr hgb hgm hgr n1 n2 n3 (nodeN s f) (fun _ => node_good s f) (fun h r bg a en w g1 g2 g3 g4 g5 g6 g7 j1 j2 j3 => by
      have := rnode_is s hs B gb gm gr hgb hgm hgr n1 n2 n3 f (deep + 1) (by omega) r bg a en w g1 g2 g3 g4 g5 g6 g7 j1 j2 j3
      rw [show (((deep + 1 : Nat)) : Int) = (deep : Int) + 1 by omega] at this
      exact this) r bg a en w h1 h2 h3 h4 h5 h6 h7 k1 k2 k3
    rw [decide_eq_true (by omega)] at this
    exact this
theorem info_49 : ∃ ie, Tryd.prog.info? 49 = some ie ∧ ie.size = 1 := by
  have h : (Tryd.prog.info? 49).map (fun i => i.size) = some 1 := by kernel_rfl
  cases e : Tryd.prog.info? 49 with
  | none => rw [e] at h; cases h
  | some i => rw [e] at h; exact ⟨i, rfl, by simpa using h⟩
theorem rd_no (s : ByteArray) (h : ¬ (rdT s).2 = 0) : (rdT s).1 = [] := by
  unfold rdT at h ⊢
  split
  · rfl
  · split
    · rfl
    · split
      · rfl
      · rename_i a b c
        rw [if_neg a, if_neg b, if_neg c] at h
        exact absurd rfl h
theorem ext_all (s : ByteArray) : s.extract 0 s.size = s := by
  apply ByteArray.ext
  simp
theorem ch_below {gb gm : Nat} {w W W' : World} (h : Below w.heap.size w W) (k : Ch gb gm none W W') (hb : w.heap.size ≤ gb) (hm : w.heap.size ≤ gm) : Below w.heap.size w W' :=
  ⟨k.os.trans h.os, k.tape.trans h.tape, k.output.trans h.output, Nat.le_trans h.size k.size, fun j hj => (k.block j (Nat.lt_of_lt_of_le hj h.size) (by omega) (by omega) (by simp)).trans (h.block j hj)⟩
set_option maxRecDepth 100000 in
set_option maxHeartbeats 3200000 in
theorem msg_is (s : ByteArray) (w : World) : Calls Tryd.prog 10 #[.string s] w fun e w' => ∃ q : Rw TT, e = .returned (.tuple #[slT q, errV (rdT s).2]) ∧ ((rdT s).2 = 0 → rsT q = (rdT s).1 ∧ RoT w.heap.size w' q ∧ ApT q) ∧ Below w.heap.size w w' := by
  go_enter Tryd.func10, Tryd.ntmps10
  by_cases h9 : 900 < s.size
  · have c9 : (900 : Int) < (s.size : Int) := by omega
    have HV : Hid (rdT s = ([], 4)) := if_pos h9
    go_wp2
    go_ret2
    exact ⟨(none, 0, []), by rw [HV.out]; rfl, (fun c => by rw [HV.out] at c; cases c), Below.refl _ _⟩
  have c9 : ¬ (900 : Int) < (s.size : Int) := by omega
  have HV : Hid (rdT s = if (nodeN s 8 [] 0 0 s.size).1.2.2 ≠ 0 then ([], (nodeN s 8 [] 0 0 s.size).1.2.2) else if (nodeN s 8 [] 0 0 s.size).2 ≠ s.size then ([], 5) else ((nodeN s 8 [] 0 0 s.size).1.1, 0)) := if_neg h9
  obtain ⟨V, hV⟩ : ∃ Y, ((w.alloc (.cells #[.slice none 0 0] 22)).alloc (.cells #[.int .i64 0] 3)).alloc (.cells #[.nilFunc] 49) = Y := ⟨_, rfl⟩
  have BV : Below w.heap.size w V := by rw [← hV]; exact (((Below.refl _ _).alloc (Nat.le_refl _) _).alloc (by simp) _).alloc (by simp; omega) _
  have TF : Blk (w.heap.size + 1 + 1) [.nilFunc] V := by rw [← hV]; have := Blk.new ((w.alloc (.cells #[.slice none 0 0] 22)).alloc (.cells #[.int .i64 0] 3)) #[.nilFunc] 49; simpa using this
  have TM : Blk w.heap.size [.slice none 0 0] V := by rw [← hV]; exact ((Blk.new _ _ _).alloc (by simp) _).alloc (by simp; omega) _
  have TB : Blk (w.heap.size + 1) [.int .i64 0] V := by rw [← hV]; have := (Blk.new (w.alloc (.cells #[.slice none 0 0] 22)) #[.int .i64 0] 3).alloc (by simp) (.cells #[.nilFunc] 49); simpa using this
  obtain ⟨i49, hi49, hs49⟩ := info_49
  obtain ⟨U, hU⟩ : ∃ Y, V.setCells (w.heap.size + 1 + 1) 0 [cloV (w.heap.size + 1) (w.heap.size + 1 + 1) w.heap.size] = Y := ⟨_, rfl⟩
  have BU : Below w.heap.size w U := by rw [← hU]; exact below_sets (by omega) _ _ _ BV
  have UF : Blk (w.heap.size + 1 + 1) [cloV (w.heap.size + 1) (w.heap.size + 1 + 1) w.heap.size] U := by rw [← hU]; exact TF.sets _ rfl
  have UM : Blk w.heap.size [.slice none 0 0] U := by rw [← hU]; exact Blk.farS (by omega) _ _ _ TM
  have UB : Blk (w.heap.size + 1) [.int .i64 0] U := by rw [← hU]; exact Blk.farS (by omega) _ _ _ TB
  have sU : w.heap.size + 1 + 1 + 1 ≤ U.heap.size := UF.lt
  have KC : Calls Tryd.prog 18 #[.string s, .int .i64 1, .pointer (some ⟨w.heap.size + 1, 0, none⟩), .pointer (some ⟨w.heap.size + 1 + 1, 0, none⟩), .pointer (some ⟨w.heap.size, 0, none⟩)] U fun e w' => ReadP s (nodeN s 8 [] 0 0 s.size) s.size (w.heap.size + 1 + 1 + 1) (w.heap.size + 1) w.heap.size (none, 0, []) U e w' := by
    have := rnode_is s (by omega) (w.heap.size + 1 + 1 + 1) (w.heap.size + 1) w.heap.size (w.heap.size + 1 + 1) (by omega) (by omega) (by omega) (by omega) (by omega) (by omega) 8 0 rfl (none, 0, []) 0 0 s.size U sU ⟨FOwn.nil _ _ _ _ _, fun x hx => by cases hx⟩ List.Pairwise.nil (Nat.le_refl _) (by omega) (Nat.zero_le _) (Nat.le_refl _) UB UM UF
    rw [ext_all] at this
    exact this
  have gN := node_good s 8 [] 0 0 s.size (by omega) (Nat.zero_le _) (Nat.le_refl _)
  generalize nodeN s 8 [] 0 0 s.size = R at KC HV gN
  have f0 := UF.at 0 rfl
  have hmf : ∀ (fn : Fn) (first cap : Array Value) (w : World), (Instr.makeFunc fn first cap).run Tryd.prog w = .ok (.func fn first cap) w := fun _ _ _ _ => rfl
  have fc : (((w.alloc (.cells #[.slice none 0 0] 22)).alloc (.cells #[.int .i64 0] 3)).alloc (.cells #[.nilFunc] 49)).cell? ⟨w.heap.size + 1 + 1, 0, none⟩ = some .nilFunc := by rw [hV]; exact TF.at 0 rfl
  have ff : (((w.alloc (.cells #[.slice none 0 0] 22)).alloc (.cells #[.int .i64 0] 3)).alloc (.cells #[.nilFunc] 49)).frozen? ⟨w.heap.size + 1 + 1, 0, none⟩ = false := by rw [hV]; exact TF.fz 0 rfl
  have gc : ((((w.alloc (.cells #[.slice none 0 0] 22)).alloc (.cells #[.int .i64 0] 3)).alloc (.cells #[.nilFunc] 49)).setCell ⟨w.heap.size + 1 + 1, 0, none⟩ (cloV (w.heap.size + 1) (w.heap.size + 1 + 1) w.heap.size)).cell? ⟨w.heap.size + 1 + 1, 0, none⟩ = some (cloV (w.heap.size + 1) (w.heap.size + 1 + 1) w.heap.size) := by rw [hV]; exact (TF.set 0 _).at 0 rfl
  have hst : (store ⟨w.heap.size + 1 + 1, 0, none⟩ (cloV (w.heap.size + 1) (w.heap.size + 1 + 1) w.heap.size)).run Tryd.prog (((w.alloc (.cells #[.slice none 0 0] 22)).alloc (.cells #[.int .i64 0] 3)).alloc (.cells #[.nilFunc] 49)) = .ok () ((((w.alloc (.cells #[.slice none 0 0] 22)).alloc (.cells #[.int .i64 0] 3)).alloc (.cells #[.nilFunc] 49)).setCell ⟨w.heap.size + 1 + 1, 0, none⟩ (cloV (w.heap.size + 1) (w.heap.size + 1 + 1) w.heap.size)) := by
    rw [run_store Tryd.prog _ _ _ _ (by rfl)]
    simp only [fc, ff]
    rfl
  have hU2 : (((w.alloc (.cells #[.slice none 0 0] 22)).alloc (.cells #[.int .i64 0] 3)).alloc (.cells #[.nilFunc] 49)).setCell ⟨w.heap.size + 1 + 1, 0, none⟩ (cloV (w.heap.size + 1) (w.heap.size + 1 + 1) w.heap.size) = U := by rw [hV]; exact hU
  clear hU fc ff hV
  go_wp2_with fail
  try rw [hU2]
  refine KC.mono ?_
  clear KC f0 UF UM UB TF TM TB hU2 BV gc hst
  rintro ex W1 ⟨⟨pa, pc, zs⟩, rfl, hz, ro, bb, bm, ch, _, _, ap⟩
  dsimp only [slT] at hz bm
  have b1 := ch_below BU ch (by omega) (Nat.le_refl _)
  have m0 := bm.at 0 rfl
  clear ch BU sU
  by_cases hc : R.1.2.2 = 0
  · have hg := gN.ok hc
    rw [errV_ok hc, behS_ok hc]
    by_cases hn : R.2 = s.size
    · have HV2 : Hid (rdT s = (R.1.1, 0)) := by show _ = _; rw [HV.out, if_neg (fun c => c hc), if_neg (fun c => c hn)]
      have hne := nil_size (s.extract R.2 s.size) (by rw [ext_size (Nat.le_refl _)]; omega)
      clear hc hn HV hg gN
      go_wp2
      go_ret2
      exact ⟨(pa, pc, zs), by rw [HV2.out]; rfl, (fun _ => by rw [HV2.out]; exact ⟨hz, RoT.le ro (by omega), ap⟩), b1⟩
    · have HV2 : Hid (rdT s = ([], 5)) := by show _ = _; rw [HV.out, if_neg (fun c => c hc), if_pos hn]
      have hne := ne_nil (s.extract R.2 s.size) (by rw [ext_size (Nat.le_refl _)]; omega)
      clear hc hn HV hg gN
      go_wp2
      go_ret2
      exact ⟨(pa, pc, zs), by rw [HV2.out]; rfl, (fun c => by rw [HV2.out] at c; cases c), b1⟩
  · have HV2 : Hid (rdT s = ([], R.1.2.2)) := by show _ = _; rw [HV.out, if_pos hc]
    have HE : Hid (_ = _) := errV_no hc
    have HC : Hid (¬ R.1.2.2 = 0) := hc
    rw [errV_no hc, behS_no hc]
    clear hc HV gN
    go_wp2
    go_ret2
    exact ⟨(pa, pc, zs), by rw [HV2.out]; dsimp only; rw [HE.out]; rfl, (fun c => by rw [HV2.out] at c; exact absurd c HC.out), b1⟩
end Go.Proofs.YtpfonadpojcnnaaDoor.Nd
