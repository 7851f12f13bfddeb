/- The program: the node with which a text begins, as far as its first byte tells it. -/
import Derived.Test.YtengggpobhibcaaDoorTd1
set_option linter.unusedVariables false
set_option maxRecDepth 100000
namespace Go.Proofs.YtengggpobhibcaaDoor.Nd
open Go Go.RowKit Go.Joins Own Draw Var

theorem tagR_is (n : Int) (w : World) : Calls Tryd.prog 41 #[.int .i64 n] w fun e w' => e = .returned (.bool (decide (1 ≤ n) && decide (n ≤ 100))) ∧ w = w' := by
  by_cases h0 : 1 ≤ n
  · by_cases h1 : n ≤ 100
    · go_enter Tryd.func41, Tryd.ntmps41
      go_wp2
      go_ret
      exact ⟨by simp [h0, h1], rfl⟩
    · go_enter Tryd.func41, Tryd.ntmps41
      go_wp2
      go_ret
      exact ⟨by simp [h1], rfl⟩
  · go_enter Tryd.func41, Tryd.ntmps41
    go_wp2
    go_ret
    exact ⟨by rw [decide_eq_false (by omega)]; rfl, rfl⟩
theorem neR_nil (s : ByteArray) (h : 1 ≤ s.size) : (s.toList == []) = false := by
  rw [Bool.eq_false_iff]; intro hh; simp at hh
  rw [ByteArray.toList_eq] at hh
  have h1 := congrArg List.length hh
  have h2 : s.data.toList.length = s.size := rfl
  simp only [List.length_nil] at h1
  omega

theorem nil_size (s : ByteArray) (h : s.size = 0) : (s.toList == []) = true := by
  rw [ByteArray.toList_eq]
  have e : s.data = #[] := Array.eq_empty_of_size_eq_zero h
  rw [e]
  rfl
theorem res_B4 {P : Program} {fn : Func} {p x y z : Tmp} {ty : TypeId} (hres : fn.results = #[.cell p ty, .tmp x, .tmp y, .tmp z]) (tmps : Array Value) (w : World) (g : Nat) (vs : List Value) (u0 u1 u2 : Value) (ie : TypeInfo) (hie : P.info? ty = some ie) (hagg : ∀ w, (isAgg ty).run P w = .ok true w) (h : Blk g vs w) (hs : vs.length = ie.size) (hx : tmps.getD x undef = u0) (hy : tmps.getD y undef = u1) (hz : tmps.getD z undef = u2) (hp : tmps.getD p undef = .pointer (some ⟨g, 0, none⟩)) :
    (results fn tmps).run P w = .ok (.tuple #[.agg vs.toArray, u0, u1, u2]) w := by
  have hp' : tmps[p]?.getD undef = .pointer (some ⟨g, 0, none⟩) := by simpa using hp
  have hx' : tmps[x]?.getD undef = u0 := by simpa using hx
  have hy' : tmps[y]?.getD undef = u1 := by simpa using hy
  have hz' : tmps[z]?.getD undef = u2 := by simpa using hz
  have hl := ldB (P := P) ty ie hie hagg (o := 0) vs h hs (by simp)
  simp [results, hres, hp', hx', hy', hz', asAddr, hl]
theorem nat_ne0 {k : Nat} (h : ¬ k = 0) : ((k : Int) == 0) = false := by rw [beq_eq_false_iff_ne]; omega
theorem lt_in {a k n : Nat} (h : 1 + k ≤ a) (hn : a < 1 + k + n) : (a : Int) - (1 + (k : Int)) < (n : Int) := by omega
theorem lt_out {a k n : Nat} (h : 1 + k ≤ a) (hn : ¬ a < 1 + k + n) : ¬ (a : Int) - (1 + (k : Int)) < (n : Int) := by omega
abbrev misV (c : Int) : Value := .iface 41 (.agg #[.int .i64 c])
abbrev zC : List Value := [.int .i64 0, .bool false, .string ⟨#[]⟩, .slice none 0 0]
noncomputable def cutC (T : ByteArray) (lv : Int) : Int :=
  if T.size = 0 then 1 else if (decide (1 ≤ tgN T 0) && decide (tgN T 0 ≤ 100)) = false then 2 else if 8 < lv then 3
  else if vrN T 0 T.size = 0 ∨ T.size < 1 + vrN T 0 T.size + lnN T 0 T.size then 1 else 0
theorem cut_case {T : ByteArray} {lv : Int} {n k : Nat} (h0 : ¬ T.size = 0) (hbt : (decide (1 ≤ tgN T 0) && decide (tgN T 0 ≤ 100)) = true) (h8 : lv ≤ 8) (hln : lnN T 0 T.size = n) (hvr : vrN T 0 T.size = k) : cutC T lv = if k = 0 ∨ T.size < 1 + k + n then 1 else 0 := by
  unfold cutC
  rw [if_neg h0, if_neg (by rw [hbt]; simp), if_neg (Int.not_lt.2 h8), hvr, hln]
theorem cut_1 {T : ByteArray} {lv : Int} {n k : Nat} (h : cutC T lv = if k = 0 ∨ T.size < 1 + k + n then 1 else 0) (hn : k = 0 ∨ T.size < 1 + k + n) : Hid (cutC T lv = 1) := h.trans (if_pos hn)
theorem cut_0 {T : ByteArray} {lv : Int} {n k : Nat} (h : cutC T lv = if k = 0 ∨ T.size < 1 + k + n then 1 else 0) (h0 : ¬ k = 0) (hn : ¬ T.size < 1 + k + n) : Hid (cutC T lv = 0) := h.trans (if_neg (fun c => c.elim h0 hn))
set_option maxRecDepth 100000 in
set_option maxHeartbeats 3200000 in
theorem cut_is (T : ByteArray) (hT : T.size ≤ 900) (lv : Int) (w : World) : Calls Tryd.prog 32 #[.string T, .int .i64 lv] w fun e w' =>
    ((cutC T lv ≠ 0 ∧ e = .returned (.tuple #[.agg #[.int .i64 0, .bool false, .string ⟨#[]⟩, .slice none 0 0], .string ⟨#[]⟩, .string ⟨#[]⟩, misV (cutC T lv)])) ∨
      (cutC T lv = 0 ∧ e = .returned (.tuple #[.agg #[.int .i64 (tgN T 0), .bool (lfB T 0), .string ⟨#[]⟩, .slice none 0 0], .string (T.extract (1 + vrN T 0 T.size) (1 + vrN T 0 T.size + lnN T 0 T.size)), .string (T.extract (1 + vrN T 0 T.size + lnN T 0 T.size) T.size), .nilIface]))) ∧ Below w.heap.size w w' := by
  obtain ⟨it, hit, hits⟩ := info_T
  obtain ⟨W0, hW0⟩ : ∃ Y, w.alloc (.cells #[.int .i64 0, .bool false, .string ⟨#[]⟩, .slice none 0 0] 61) = Y := ⟨_, rfl⟩
  have T0 : Blk w.heap.size zC W0 := by rw [← hW0]; exact Blk.new _ _ _
  have B0 : Below w.heap.size w W0 := by rw [← hW0]; exact (Below.refl _ _).alloc (Nat.le_refl _) _
  obtain ⟨W1, hW1⟩ : ∃ Y, W0.setCells w.heap.size 0 zC = Y := ⟨_, rfl⟩
  have T1 : Blk w.heap.size zC W1 := by rw [← hW1]; exact T0.sets _ rfl
  have B1 : Below w.heap.size w W1 := by rw [← hW1]; exact below_sets (Nat.le_refl _) _ _ _ B0
  go_enter Tryd.func32, Tryd.ntmps32
  by_cases h0 : T.size = 0
  · have HC : Hid (cutC T lv = 1) := by show _ = _; unfold cutC; rw [if_pos h0]
    have hz := nil_size T h0
    clear h0 hT
    go_wp2_with (first | (refine wpList_stB 61 _ _ w.heap.size 0 _ zC it hit T0 hits.symm (by simp) rfl rfl rfl rfl rfl ?_; rw [hW1]))
    exact bodyPost_ret (res_B4 rfl _ _ w.heap.size zC (.string ⟨#[]⟩) (.string ⟨#[]⟩) (misV 1) it hit (Tryd.isAgg61) T1 hits.symm rfl rfl rfl rfl) rfl ⟨Or.inl ⟨by rw [HC.out]; decide, by rw [HC.out]⟩, B1⟩
  have hz := neR_nil T (by omega)
  have has : 0 < T.size := by omega
  have ew := by_wrap has
  have et := tg_mod T 0
  have KI := tagR_is (tgN T 0) W0
  go_wp2_with fail
  try rw [ew]
  try rw [et]
  refine KI.mono ?_
  clear KI
  rintro ex ux ⟨rfl, rfl⟩
  generalize hbt : (decide (1 ≤ tgN T 0) && decide (tgN T 0 ≤ 100)) = bt
  cases bt with
  | false =>
    have HC : Hid (cutC T lv = 2) := by show _ = _; unfold cutC; rw [if_neg h0, if_pos hbt]
    clear hbt
    go_wp2_with (first | (refine wpList_stB 61 _ _ w.heap.size 0 _ zC it hit T0 hits.symm (by simp) rfl rfl rfl rfl rfl ?_; rw [hW1]))
    exact bodyPost_ret (res_B4 rfl _ _ w.heap.size zC (.string ⟨#[]⟩) (.string ⟨#[]⟩) (misV 2) it hit (Tryd.isAgg61) T1 hits.symm rfl rfl rfl rfl) rfl ⟨Or.inl ⟨by rw [HC.out]; decide, by rw [HC.out]⟩, B1⟩
  | true =>
    by_cases h8 : 8 < lv
    · have HC : Hid (cutC T lv = 3) := by show _ = _; unfold cutC; rw [if_neg h0, if_neg (by rw [hbt]; simp), if_pos h8]
      clear hbt
      go_wp2_with (first | (refine wpList_stB 61 _ _ w.heap.size 0 _ zC it hit T0 hits.symm (by simp) rfl rfl rfl rfl rfl ?_; rw [hW1]))
      exact bodyPost_ret (res_B4 rfl _ _ w.heap.size zC (.string ⟨#[]⟩) (.string ⟨#[]⟩) (misV 3) it hit (Tryd.isAgg61) T1 hits.symm rfl rfl rfl rfl) rfl ⟨Or.inl ⟨by rw [HC.out]; decide, by rw [HC.out]⟩, B1⟩
    have H8 : Hid (lv ≤ 8) := Int.not_lt.1 h8
    have hsz : (T.extract 1 T.size).size ≤ 1048576 := by rw [ByteArray.size_extract]; omega
    have KV := impl_rv (T.extract 1 T.size) W0 hsz
    have sl1 : 1 ≤ T.size := by omega
    go_wp2_with fail
    refine KV.mono ?_
    clear KV
    rintro ex u1 ⟨n, k, rfl, hA, rfl⟩
    have hrv := rv_of hA
    have hkl := ans_k hA
    rw [ByteArray.size_extract] at hkl
    have hln : lnN T 0 T.size = n := by unfold lnN; rw [Nat.zero_add, hrv]
    have hvr : vrN T 0 T.size = k := by unfold vrN; rw [Nat.zero_add, hrv]
    have sl2 : 1 + k ≤ T.size := by omega
    have wk : wrap64 (1 + (k : Int)) = 1 + (k : Int) := by unfold wrap64; omega
    have HK : Hid (lnN T 0 T.size = n ∧ vrN T 0 T.size = k) := ⟨hln, hvr⟩
    have hcc := cut_case h0 hbt H8.out hln hvr
    clear hln hvr hbt hA hrv hkl hz
    by_cases hk0 : k = 0
    · have HC := cut_1 hcc (Or.inl hk0)
      have ck0 : ((k : Int) == 0) = true := by rw [hk0]; rfl
      clear hcc h0 hk0 ew et
      go_wp2_with (first | (refine wpList_stB 61 _ _ w.heap.size 0 _ zC it hit T0 hits.symm (by simp) rfl rfl rfl rfl rfl ?_; rw [hW1]))
      exact bodyPost_ret (res_B4 rfl _ _ w.heap.size zC (.string ⟨#[]⟩) (.string ⟨#[]⟩) (misV 1) it hit (Tryd.isAgg61) T1 hits.symm rfl rfl rfl rfl) rfl ⟨Or.inl ⟨by rw [HC.out]; decide, by rw [HC.out]⟩, B1⟩
    have ck0 : ((k : Int) == 0) = false := nat_ne0 hk0
    by_cases hn : T.size < 1 + k + n
    · have HC := cut_1 hcc (Or.inr hn)
      have cn := lt_in sl2 hn
      clear hcc h0 hk0 ew et hn
      go_wp2_with (first | (refine wpList_stB 61 _ _ w.heap.size 0 _ zC it hit T0 hits.symm (by simp) rfl rfl rfl rfl rfl ?_; rw [hW1]))
      exact bodyPost_ret (res_B4 rfl _ _ w.heap.size zC (.string ⟨#[]⟩) (.string ⟨#[]⟩) (misV 1) it hit (Tryd.isAgg61) T1 hits.symm rfl rfl rfl rfl) rfl ⟨Or.inl ⟨by rw [HC.out]; decide, by rw [HC.out]⟩, B1⟩
    have HC := cut_0 hcc hk0 hn
    have cn := lt_out sl2 hn
    have sl3 : n ≤ T.size - (1 + k) := by omega
    clear hcc h0 hk0 hn
    have hlb : decide (((T[0].toNat : Nat) : Int) < 128) = lfB T 0 := by unfold lfB; rw [at_is has]
    have a0 := T0.at 0 rfl
    have a1 := T0.at 1 rfl
    have a2 := T0.at 2 rfl
    have a3 := T0.at 3 rfl
    have z0 := T0.fz 0 rfl
    have z1 := T0.fz 1 rfl
    have z2 := T0.fz 2 rfl
    have z3 := T0.fz 3 rfl
    go_wp2
    go_region
    obtain ⟨V, hV⟩ : ∃ Y, (((((u1.setCell ⟨w.heap.size, 0, none⟩ (.int .i64 (tgN T 0))).setCell ⟨w.heap.size, 1, none⟩ (.bool (lfB T 0))).setCell ⟨w.heap.size, 2, none⟩ (.string ⟨#[]⟩)).setCell ⟨w.heap.size, 3, none⟩ (.slice none 0 0)).drew) = Y := ⟨_, rfl⟩
    have TV : Blk w.heap.size [.int .i64 (tgN T 0), .bool (lfB T 0), .string ⟨#[]⟩, .slice none 0 0] V := by rw [← hV]; exact (((((T0.set 0 (.int .i64 (tgN T 0))).set 1 (.bool (lfB T 0))).set 2 (.string ⟨#[]⟩)).set 3 (.slice none 0 0)).drew)
    have BV : Below w.heap.size w V := by rw [← hV]; exact (((((B0.setCell (Nat.le_refl _) _).setCell (Nat.le_refl _) _).setCell (Nat.le_refl _) _).setCell (Nat.le_refl _) _).drew)
    rw [hV]
    clear hV a0 a1 a2 a3 z0 z1 z2 z3 T0 B0 T1 B1 hW1
    have a0 := TV.at 0 rfl
    have a1 := TV.at 1 rfl
    have a2 := TV.at 2 rfl
    have a3 := TV.at 3 rfl
    have z0 := TV.fz 0 rfl
    have z1 := TV.fz 1 rfl
    have z2 := TV.fz 2 rfl
    have z3 := TV.fz 3 rfl
    have en : (T.extract (1 + k) T.size).size = T.size - (1 + k) := by rw [ByteArray.size_extract, Nat.min_self]
    have e1 : (T.extract (1 + k) T.size).extract 0 n = T.extract (1 + k) (1 + k + n) := by rw [ByteArray.extract_extract]; congr 1; omega
    have e2 : (T.extract (1 + k) T.size).extract n (T.size - (1 + k)) = T.extract (1 + k + n) T.size := by rw [ByteArray.extract_extract]; congr 1; omega
    go_wp2
    go_region
    obtain ⟨U, hU⟩ : ∃ Y, (((((V.setCell ⟨w.heap.size, 0, none⟩ (.int .i64 (tgN T 0))).setCell ⟨w.heap.size, 1, none⟩ (.bool (lfB T 0))).setCell ⟨w.heap.size, 2, none⟩ (.string ⟨#[]⟩)).setCell ⟨w.heap.size, 3, none⟩ (.slice none 0 0)).drew) = Y := ⟨_, rfl⟩
    have TU : Blk w.heap.size [.int .i64 (tgN T 0), .bool (lfB T 0), .string ⟨#[]⟩, .slice none 0 0] U := by rw [← hU]; exact (((((TV.set 0 (.int .i64 (tgN T 0))).set 1 (.bool (lfB T 0))).set 2 (.string ⟨#[]⟩)).set 3 (.slice none 0 0)).drew)
    have BU : Below w.heap.size w U := by rw [← hU]; exact (((((BV.setCell (Nat.le_refl _) _).setCell (Nat.le_refl _) _).setCell (Nat.le_refl _) _).setCell (Nat.le_refl _) _).drew)
    rw [hU]
    clear hU a0 a1 a2 a3 z0 z1 z2 z3 TV BV
    go_wp2
    exact bodyPost_ret (res_B4 rfl _ _ w.heap.size [.int .i64 (tgN T 0), .bool (lfB T 0), .string ⟨#[]⟩, .slice none 0 0] (.string (T.extract (1 + k) (1 + k + n))) (.string (T.extract (1 + k + n) T.size)) .nilIface it hit (Tryd.isAgg61) TU hits.symm rfl rfl rfl rfl) rfl ⟨Or.inr ⟨HC.out, by rw [HK.out.1, HK.out.2]⟩, BU⟩
end Go.Proofs.YtengggpobhibcaaDoor.Nd
