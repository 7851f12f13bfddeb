/- ShowRules of the program. -/
import Derived.Test.YtjbbhegijlnndaaSh0
import Derived.Test.YtjbbhegijlnndaaSx0
import Derived.Test.YtjbbhegijlnndaaRu2
import Derived.Test.YtjbbhegijlnndaaLr1
import Derived.Test.YtjbbhegijlnndaaRge
import Derived.Test.YtjbbhegijlnndaaRn2
set_option linter.unusedVariables false
set_option maxRecDepth 100000
namespace Go.Proofs.Ytjbbhegijlnndaa.Nd
attribute [local go_sem] Oper.semAt_some
open Go Go.RowKit Go.Joins Own Draw Go.Shelf Maps Go.Proofs.Ytjbbhegijlnndaa Go.Proofs.Ytjbbhegijlnndaa.Var

/-- The state of the loop over the rules: what was shown lies in block sh, what is left to be done in ns. -/
def LpS (w : World) (a : Option Addr) (cap : Nat) (xs : List TT) (sh : Nat) (s0 : ByteArray) (act : Act) (W : World) : Prop :=
  ∃ (j : Nat) (ns : List Nat) (u4 u5 u6 u7 u8 u9 u10 u11 u12 u16 u17 u18 u19 u20 u21 u22 u23 u24 u25 u26 u27 u28 u29 u30 u31 u32 u33 u34 u35 u36 u37 u38 u39 u40 u41 u42 : Value), act = { tmps := #[.slice a xs.length cap, undef, .string ⟨#[]⟩, .pointer (some ⟨sh, 0, none⟩), u4, u5, u6, u7, u8, u9, u10, u11, u12, .slice a xs.length cap, .int .i64 (xs.length : Int), .int .i64 (j : Int), u16, u17, u18, u19, u20, u21, u22, u23, u24, u25, u26, u27, u28, u29, u30, u31, u32, u33, u34, u35, u36, u37, u38, u39, u40, u41, u42], defers := ns.map dM } ∧ j ≤ xs.length ∧ Blk sh [.string (shS s0 ((xs.map stT).take j))] W ∧ DsOk w.heap.size ns W ∧ Below w.heap.size w W
/-- What comes behind, where nothing panics. -/
def NoP (Q : Exit → Act → World → Prop) : Exit → Act → World → Prop
  | .panic _, _, _ => False
  | e, a, w => Q e a w
theorem wp_noP {P : Program} {c : Code} {Q : Exit → Act → World → Prop} {a : Act} {w : World} (h : c.wp P (NoP Q) a w) : c.wp P Q a w :=
  Code.wp_mono (fun e a w h => by cases e <;> first | exact h | exact h.elim) h
theorem kb_set (W : World) (g : Nat) (v : Value) : KB g W.heap.size W (W.setCell ⟨g, 0, none⟩ v) :=
  have h := set_grown W g 0 v
  ⟨h.os, h.tape, h.output, h.size, fun k hk hne => h.block k hk (fun e => hne (by injection e))⟩
theorem blk_obj {g : Nat} {v : Value} {vs : List Value} {W : World} (h : Blk g (v :: vs) W) : ∃ o : Obj, W.heap[g]? = some o ∧ o.isCells = true := by
  have h0 := h.at 0 rfl
  have hl := h.lt
  refine ⟨W.heap[g], Array.getElem?_eq_getElem hl, ?_⟩
  unfold World.cell? at h0
  rw [Array.getElem?_eq_getElem hl] at h0
  cases ho : W.heap[g] with
  | cells => rfl
  | _ => rw [ho] at h0; simp at h0
set_option maxHeartbeats 12800000 in
theorem implShow_is (r : Rw TT) (w : World) (hr : RpT w r) (lr : rtT r ≤ 1048576) :
    Calls Try.prog 20 #[.slice r.1 r.2.2.length r.2.1] w fun e w' => e = .returned (.string (showP (rsT r))) ∧ Below w.heap.size w w' := by
  have p1 := rt_parts lr
  have K0 := implRulesOk_is r w hr p1.2 p1.1
  have HD : Hid (showP (rsT r) = if okL (rsT r) = true then shS (varOf ((rsT r).length : Int)) (rsT r) else ⟨#[]⟩) := (rfl : showP (rsT r) = _)
  generalize showP (rsT r) = ans at HD ⊢
  by_cases hok : okL (rsT r) = true
  rotate_left
  · have HD2 : Hid (ans = ⟨#[]⟩) := by show _ = _; rw [HD.out, if_neg hok]
    rw [Bool.not_eq_true] at hok
    rw [hok] at K0
    clear HD p1 lr hr
    refine (callsIn_wide (n := 6)).1 ?_
    refine callsIn_of_wp_marks Try.func20 rfl trivial ?_ rfl
    simp only [Try.ntmps20, List.size_toArray, List.length_cons, List.length_nil, Nat.reduceAdd, Nat.reduceSub, Array.replicate_succ, Array.replicate_zero, List.push_toArray, List.append_toArray, List.nil_append, List.cons_append]
    gi_wp2
    refine ⟨trivial, (callsIn_wide.2 K0).mono ?_⟩
    clear K0
    rintro en W1 ⟨rfl, BC⟩
    gi_wp2
    exact ⟨_, results_tmp rfl _ _ _, by rw [HD2.out]; rfl, BC⟩
  have HD2 : Hid (ans = shS (varOf ((rsT r).length : Int)) (rsT r)) := by show _ = _; rw [HD.out, if_pos hok]
  have hl20 := (okL_mem hok).1
  have hall := (okL_mem hok).2
  rw [hok] at K0
  clear HD p1 lr
  obtain ⟨a, cap, xs⟩ := r
  obtain ⟨hrow, hdp⟩ := hr
  dsimp only at hrow hdp ⊢
  have hlen : (rsT (a, cap, xs)).length = xs.length := by unfold rsT; simp
  rw [hlen] at HD2 hl20
  have h31 : ∀ p ∈ xs.map stT, p.2.1.length ≤ 31 := fun p hp => ri_len (show riB (-1) p.2.1 = true from okP_set (hall p hp))
  have HOK : Hid (∀ p ∈ xs.map stT, okP p = true) := hall
  have HD3 : Hid (ans = shS (varOf (xs.length : Int)) (xs.map stT)) := HD2
  clear hall HD2 hlen hok
  have hv0 := varOf_size (xs.length : Int)
  refine (callsIn_wide (n := 6)).1 ?_
  refine callsIn_of_wp_marks Try.func20 rfl trivial ?_ rfl
  simp only [Try.ntmps20, List.size_toArray, List.length_cons, List.length_nil, Nat.reduceAdd, Nat.reduceSub, Array.replicate_succ, Array.replicate_zero, List.push_toArray, List.append_toArray, List.nil_append, List.cons_append]
  gi_wp2
  refine ⟨trivial, (callsIn_wide.2 K0).mono ?_⟩
  clear K0
  rintro en W1 ⟨rfl, BC⟩
  gi_wp2
  refine ⟨trivial, (callsIn_wide.2 (impl_var (xs.length : Int) W1)).mono ?_⟩
  rintro en W2 ⟨rfl, hb⟩
  replace BC := BC.trans (hb.mono BC.size)
  clear hb
  generalize varOf (xs.length : Int) = s0 at hv0 HD3
  obtain ⟨V, hV⟩ : ∃ Z, W2.alloc (.cells #[.string s0] 9) = Z := ⟨_, rfl⟩
  have XA : Below W2.heap.size W2 V := by rw [← hV]; exact (Below.refl _ _).alloc (Nat.le_refl _) _
  have TV : Blk W2.heap.size [.string s0] V := by rw [← hV]; exact Blk.new _ _ _
  have hsB : w.heap.size ≤ W2.heap.size := BC.size
  replace BC := BC.trans (XA.mono BC.size)
  clear XA
  obtain ⟨sh, hsh⟩ : ∃ sh, W2.heap.size = sh := ⟨_, rfl⟩
  rw [hsh] at TV hsB
  gi_wp2
  try rw [hV]
  try rw [hsh]
  clear hV hsh
  refine wpIn_loop (LpS w a cap xs sh s0) (fun act _ => xs.length - (intOf (act.tmps.getD 15 undef)).toNat) ⟨0, [], _, _, _, _, _, _, _, _, _, _, _, _, _, _, _, _, _, _, _, _, _, _, _, _, _, _, _, _, _, _, _, _, _, _, _, _, rfl, Nat.zero_le _, TV, ⟨List.nodup_nil, fun D hD => by cases hD⟩, BC⟩ ?_
  clear TV BC
  rintro act wr ⟨j, ns, u4, u5, u6, u7, u8, u9, u10, u11, u12, u16, u17, u18, u19, u20, u21, u22, u23, u24, u25, u26, u27, u28, u29, u30, u31, u32, u33, u34, u35, u36, u37, u38, u39, u40, u41, u42, rfl, hj, TV, hds, BC⟩
  by_cases hlt : j < xs.length
  · obtain ⟨b, off, rfl, hb0, hc⟩ := hrow j hlt
    have hlt2 : (j : Int) < (xs.length : Int) := by omega
    have hjm : j < (xs.map stT).length := by simpa using hlt
    have HS : Hid (shS s0 ((xs.map stT).take (j + 1)) = shN (shS s0 ((xs.map stT).take j) ++ shH (stT xs[j])) xs[j].2.1.2.2) := by
      show _ = _
      rw [shS_step hjm]
      simp only [List.getElem_map]
      rfl
    have hsz : (shS s0 ((xs.map stT).take j)).size ≤ 5000 := by
      have h_ := shS_size ((xs.map stT).take j) s0 (fun p hp => h31 p (List.mem_of_mem_take hp))
      have h2_ : ((xs.map stT).take j).length ≤ 20 := by rw [List.length_take]; omega
      omega
    have hx31 : xs[j].2.1.2.2.length ≤ 31 := h31 (stT xs[j]) (List.mem_map_of_mem (List.getElem_mem hlt))
    have hxr : riB (-1) xs[j].2.1.2.2 = true := okP_set (HOK.out (stT xs[j]) (List.mem_map_of_mem (List.getElem_mem hlt)))
    have c0 : wr.cell? ⟨b, off + j * 3, none⟩ = some (.int .i64 xs[j].1) := (BC.cell (p := ⟨b, off + j * 3, none⟩) hb0).trans (hc 0 _ rfl)
    have c1 : wr.cell? ⟨b, off + j * 3 + 1, none⟩ = some (.slice xs[j].2.1.1 xs[j].2.1.2.2.length xs[j].2.1.2.1) := (BC.cell (p := ⟨b, off + j * 3 + 1, none⟩) hb0).trans (hc 1 _ rfl)
    have c2 : wr.cell? ⟨b, off + j * 3 + 2, none⟩ = some (.int .i64 xs[j].2.2) := (BC.cell (p := ⟨b, off + j * 3 + 2, none⟩) hb0).trans (hc 2 _ rfl)
    have hset : RowAt (Value.int .i64) w xs[j].2.1.1 xs[j].2.1.2.2 := hdp _ (List.getElem_mem hlt)
    have HNX : Hid (∀ W ms act', Blk sh [.string (shN (shS s0 ((xs.map stT).take j) ++ shH (stT xs[j])) xs[j].2.1.2.2)] W → DsOk w.heap.size ms W → Below w.heap.size w W → (∃ u4 u5 u6 u7 u8 u9 u10 u11 u12 u16 u17 u18 u19 u20 u21 u22 u23 u24 u25 u26 u27 u28 u29 u30 u31 u32 u33 u34 u35 u36 u37 u38 u39 u40 u41 u42 : Value, act' = { tmps := #[.slice (some ⟨b, off, none⟩) xs.length cap, undef, .string ⟨#[]⟩, .pointer (some ⟨sh, 0, none⟩), u4, u5, u6, u7, u8, u9, u10, u11, u12, .slice (some ⟨b, off, none⟩) xs.length cap, .int .i64 (xs.length : Int), .int .i64 ((j : Int) + 1), u16, u17, u18, u19, u20, u21, u22, u23, u24, u25, u26, u27, u28, u29, u30, u31, u32, u33, u34, u35, u36, u37, u38, u39, u40, u41, u42], defers := ms.map dM }) → LpS w (some ⟨b, off, none⟩) cap xs sh s0 act' W) :=
      fun W ms act' h1 h2 h3 ⟨u4, u5, u6, u7, u8, u9, u10, u11, u12, u16, u17, u18, u19, u20, u21, u22, u23, u24, u25, u26, u27, u28, u29, u30, u31, u32, u33, u34, u35, u36, u37, u38, u39, u40, u41, u42, h4⟩ => ⟨j + 1, ms, u4, u5, u6, u7, u8, u9, u10, u11, u12, u16, u17, u18, u19, u20, u21, u22, u23, u24, u25, u26, u27, u28, u29, u30, u31, u32, u33, u34, u35, u36, u37, u38, u39, u40, u41, u42, h4, by omega, by rw [HS.out]; exact h1, h2, h3⟩
    clear HS hc
    generalize xs[j] = x at HNX hx31 hxr c0 c1 c2 hset
    generalize shS s0 ((xs.map stT).take j) = st at HNX hsz TV
    have q1 := varOf_size x.1
    have q2 := varOf_size x.2.2
    have q3 := varOf_size (x.2.1.2.2.length : Int)
    have hHs := shH_size (stT x)
    have z1 : ¬ 9223372036854775807 < (varOf x.1).size + (varOf x.2.2).size := by omega
    have z2 : ¬ 9223372036854775807 < (varOf x.1).size + (varOf x.2.2).size + (varOf (x.2.1.2.2.length : Int)).size := by omega
    have z3 : ¬ 9223372036854775807 < st.size + ((varOf x.1).size + (varOf x.2.2).size + (varOf (x.2.1.2.2.length : Int)).size) := by omega
    obtain ⟨V1, hV1⟩ : ∃ Z, wr.alloc (.cells #[.int .i64 x.1, .slice x.2.1.1 x.2.1.2.2.length x.2.1.2.1, .int .i64 x.2.2] 59) = Z := ⟨_, rfl⟩
    have XA : Below wr.heap.size wr V1 := by rw [← hV1]; exact (Below.refl _ _).alloc (Nat.le_refl _) _
    have TX : Blk wr.heap.size [.int .i64 x.1, .slice x.2.1.1 x.2.1.2.2.length x.2.1.2.1, .int .i64 x.2.2] V1 := by rw [← hV1]; exact Blk.new _ _ _
    have hrb : sh < wr.heap.size := TV.lt
    replace TV := TV.later XA TV.lt
    replace hds := hds.later XA
    have hwrs : w.heap.size ≤ wr.heap.size := BC.size
    replace BC := BC.trans (XA.mono BC.size)
    clear XA
    obtain ⟨rb, hrbe⟩ : ∃ rb, wr.heap.size = rb := ⟨_, rfl⟩
    rw [hrbe] at TX hrb hwrs
    gi_wp2
    try rw [hV1]
    try rw [hrbe]
    refine wpIn_wide.2 (wp_noP ?_)
    clear hV1 hrbe c0 c1 c2
    replace TV := TV.drew
    replace TX := TX.drew
    replace BC := BC.drew
    replace hds : DsOk w.heap.size ns V1.drew := ⟨hds.nd, hds.at_⟩
    refine drew_E 14 ((fun Vw => Blk sh [.string st] Vw ∧ Blk rb [.int .i64 x.1, .slice x.2.1.1 x.2.1.2.2.length x.2.1.2.1, .int .i64 x.2.2] Vw)) (by kernel_rfl) ⟨TV, TX⟩ (fun hHeld => ?_)
    refine take_E 0 19 (v := ?_) rfl rfl (by kernel_rfl) (by kernel_rfl) (by kernel_rfl) (by kernel_rfl) (fun _ _ _ h => h) (Or.inl ⟨by rfl, ?_⟩) hHeld ?_
    rotate_left
    · intro w' hSw; (try dsimp only at hSw); obtain ⟨hA_, hB_⟩ := hSw; have k9 := hA_.at 0 rfl; have k0 := hB_.at 0 rfl; have k1 := hB_.at 1 rfl; have k2 := hB_.at 2 rfl; go_simp; try with_reducible rfl
    try simp only [Act.put, List.setIfInBounds_toArray, List.set_cons_zero, List.set_cons_succ]
    refine take_E 1 20 (v := ?_) rfl rfl (by kernel_rfl) (by kernel_rfl) (by kernel_rfl) (by kernel_rfl) (fun _ _ _ h => h) (Or.inl ⟨by rfl, ?_⟩) hHeld ?_
    rotate_left
    · intro w' hSw; (try dsimp only at hSw); obtain ⟨hA_, hB_⟩ := hSw; have k9 := hA_.at 0 rfl; have k0 := hB_.at 0 rfl; have k1 := hB_.at 1 rfl; have k2 := hB_.at 2 rfl; go_simp; try with_reducible rfl
    try simp only [Act.put, List.setIfInBounds_toArray, List.set_cons_zero, List.set_cons_succ]
    refine take_E 2 21 (v := ?_) rfl rfl (by kernel_rfl) (by kernel_rfl) (by kernel_rfl) (by kernel_rfl) (fun _ _ _ h => h) (Or.inl ⟨by rfl, ?_⟩) hHeld ?_
    rotate_left
    · intro w' hSw; (try dsimp only at hSw); obtain ⟨hA_, hB_⟩ := hSw; have k9 := hA_.at 0 rfl; have k0 := hB_.at 0 rfl; have k1 := hB_.at 1 rfl; have k2 := hB_.at 2 rfl; go_simp; try with_reducible rfl
    try simp only [Act.put, List.setIfInBounds_toArray, List.set_cons_zero, List.set_cons_succ]
    refine take_E 4 23 (v := ?_) rfl rfl (by kernel_rfl) (by kernel_rfl) (by kernel_rfl) (by kernel_rfl) (fun _ _ _ h => h) (Or.inl ⟨by rfl, ?_⟩) hHeld ?_
    rotate_left
    · intro w' hSw; (try dsimp only at hSw); obtain ⟨hA_, hB_⟩ := hSw; have k9 := hA_.at 0 rfl; have k0 := hB_.at 0 rfl; have k1 := hB_.at 1 rfl; have k2 := hB_.at 2 rfl; go_simp; try with_reducible rfl
    try simp only [Act.put, List.setIfInBounds_toArray, List.set_cons_zero, List.set_cons_succ]
    refine take_E 5 24 (v := ?_) rfl rfl (by kernel_rfl) (by kernel_rfl) (by kernel_rfl) (by kernel_rfl) (fun _ _ _ h => h) (Or.inl ⟨by rfl, ?_⟩) hHeld ?_
    rotate_left
    · intro w' hSw; (try dsimp only at hSw); obtain ⟨hA_, hB_⟩ := hSw; have k9 := hA_.at 0 rfl; have k0 := hB_.at 0 rfl; have k1 := hB_.at 1 rfl; have k2 := hB_.at 2 rfl; go_simp; try with_reducible rfl
    try simp only [Act.put, List.setIfInBounds_toArray, List.set_cons_zero, List.set_cons_succ]
    refine take_E 8 27 (v := ?_) rfl rfl (by kernel_rfl) (by kernel_rfl) (by kernel_rfl) (by kernel_rfl) (fun _ _ _ h => h) (Or.inl ⟨by rfl, ?_⟩) hHeld ?_
    rotate_left
    · intro w' hSw; (try dsimp only at hSw); obtain ⟨hA_, hB_⟩ := hSw; have k9 := hA_.at 0 rfl; have k0 := hB_.at 0 rfl; have k1 := hB_.at 1 rfl; have k2 := hB_.at 2 rfl; go_simp; try with_reducible rfl
    try simp only [Act.put, List.setIfInBounds_toArray, List.set_cons_zero, List.set_cons_succ]
    refine take_E 9 28 (v := ?_) rfl rfl (by kernel_rfl) (by kernel_rfl) (by kernel_rfl) (by kernel_rfl) (fun _ _ _ h => h) (Or.inl ⟨by rfl, ?_⟩) hHeld ?_
    rotate_left
    · intro w' hSw; (try dsimp only at hSw); obtain ⟨hA_, hB_⟩ := hSw; have k9 := hA_.at 0 rfl; have k0 := hB_.at 0 rfl; have k1 := hB_.at 1 rfl; have k2 := hB_.at 2 rfl; go_simp; try with_reducible rfl
    try simp only [Act.put, List.setIfInBounds_toArray, List.set_cons_zero, List.set_cons_succ]
    refine take_E 10 29 (v := ?_) rfl rfl (by kernel_rfl) (by kernel_rfl) (by kernel_rfl) (by kernel_rfl) (fun _ _ _ h => h) (Or.inl ⟨by rfl, ?_⟩) hHeld ?_
    rotate_left
    · intro w' hSw; (try dsimp only at hSw); obtain ⟨hA_, hB_⟩ := hSw; have k9 := hA_.at 0 rfl; have k0 := hB_.at 0 rfl; have k1 := hB_.at 1 rfl; have k2 := hB_.at 2 rfl; go_simp; try with_reducible rfl
    try simp only [Act.put, List.setIfInBounds_toArray, List.set_cons_zero, List.set_cons_succ]
    refine one_E 3 (by kernel_rfl) rfl (fun K hK => ?_)
    go_simp
    refine ((impl_var x.1 _)).mono ?_
    rintro en v1 ⟨rfl, hb⟩
    replace TV := TV.later hb TV.lt
    replace TX := TX.later hb TX.lt
    replace hds := hds.later hb
    replace BC := BC.trans (hb.mono BC.size)
    clear hb
    go_wp2_with fail
    refine hK.out _ _ ⟨TV, TX⟩ (fun hHeld2 => ?_)
    clear hK K hHeld
    have hHeld := hHeld2
    clear hHeld2
    try simp only [Act.put, List.setIfInBounds_toArray, List.set_cons_zero, List.set_cons_succ]
    refine one_E 6 (by kernel_rfl) rfl (fun K hK => ?_)
    go_simp
    refine ((impl_var x.2.2 _)).mono ?_
    rintro en v2 ⟨rfl, hb⟩
    replace TV := TV.later hb TV.lt
    replace TX := TX.later hb TX.lt
    replace hds := hds.later hb
    replace BC := BC.trans (hb.mono BC.size)
    clear hb
    go_wp2_with fail
    refine hK.out _ _ ⟨TV, TX⟩ (fun hHeld2 => ?_)
    clear hK K hHeld
    have hHeld := hHeld2
    clear hHeld2
    try simp only [Act.put, List.setIfInBounds_toArray, List.set_cons_zero, List.set_cons_succ]
    refine take_E 7 26 (v := ?_) rfl rfl (by kernel_rfl) (by kernel_rfl) (by kernel_rfl) (by kernel_rfl) (fun _ _ _ h => h) (Or.inl ⟨by rfl, ?_⟩) hHeld ?_
    rotate_left
    · intro w' hSw; (try dsimp only at hSw); obtain ⟨hA_, hB_⟩ := hSw; have k9 := hA_.at 0 rfl; have k0 := hB_.at 0 rfl; have k1 := hB_.at 1 rfl; have k2 := hB_.at 2 rfl; go_simp; try with_reducible rfl
    try simp only [Act.put, List.setIfInBounds_toArray, List.set_cons_zero, List.set_cons_succ]
    refine one_E 11 (by kernel_rfl) rfl (fun K hK => ?_)
    go_simp
    refine ((impl_var (x.2.1.2.2.length : Int) _)).mono ?_
    rintro en v3 ⟨rfl, hb⟩
    replace TV := TV.later hb TV.lt
    replace TX := TX.later hb TX.lt
    replace hds := hds.later hb
    replace BC := BC.trans (hb.mono BC.size)
    clear hb
    go_wp2_with fail
    refine hK.out _ _ ⟨TV, TX⟩ (fun hHeld2 => ?_)
    clear hK K hHeld
    have hHeld := hHeld2
    clear hHeld2
    try simp only [Act.put, List.setIfInBounds_toArray, List.set_cons_zero, List.set_cons_succ]
    refine take_E 12 31 (v := ?_) rfl rfl (by kernel_rfl) (by kernel_rfl) (by kernel_rfl) (by kernel_rfl) (fun _ _ _ h => h) (Or.inl ⟨by rfl, ?_⟩) hHeld ?_
    rotate_left
    · intro w' hSw; (try dsimp only at hSw); obtain ⟨hA_, hB_⟩ := hSw; have k9 := hA_.at 0 rfl; have k0 := hB_.at 0 rfl; have k1 := hB_.at 1 rfl; have k2 := hB_.at 2 rfl; go_simp; try with_reducible rfl
    try simp only [Act.put, List.setIfInBounds_toArray, List.set_cons_zero, List.set_cons_succ]
    refine take_E 13 32 (v := ?_) rfl rfl (by kernel_rfl) (by kernel_rfl) (by kernel_rfl) (by kernel_rfl) (fun _ _ _ h => h) (Or.inl ⟨by rfl, ?_⟩) hHeld ?_
    rotate_left
    · intro w' hSw; (try dsimp only at hSw); obtain ⟨hA_, hB_⟩ := hSw; have k9 := hA_.at 0 rfl; have k0 := hB_.at 0 rfl; have k1 := hB_.at 1 rfl; have k2 := hB_.at 2 rfl; go_simp; try with_reducible rfl
    try simp only [Act.put, List.setIfInBounds_toArray, List.set_cons_zero, List.set_cons_succ]
    refine last_E (by kernel_rfl) rfl (by kernel_rfl) (fun K hK => ?_)
    have t0_ := TV.at 0 rfl
    have f0_ := TV.fz 0 rfl
    go_simp
    clear t0_ f0_
    obtain ⟨v4, hv4⟩ : ∃ Z, v3.setCell ⟨sh, 0, none⟩ (.string (st ++ (varOf x.1 ++ varOf x.2.2 ++ varOf (x.2.1.2.2.length : Int)))) = Z := ⟨_, rfl⟩
    rw [hv4]
    have TV4 : Blk sh [.string (st ++ shH (stT x))] v4 := by rw [← hv4]; exact TV.set 0 _
    have TX4 : Blk rb [.int .i64 x.1, .slice x.2.1.1 x.2.1.2.2.length x.2.1.2.1, .int .i64 x.2.2] v4 := by rw [← hv4]; exact TX.far (by omega) 0 _
    have BC4 : Below w.heap.size w v4 := by rw [← hv4]; exact BC.setCell (p := ⟨sh, 0, none⟩) hsB _
    have hds4 : DsOk w.heap.size ns v4 := hds.kb (b := sh) (n := v3.heap.size) (by rw [← hv4]; exact kb_set v3 sh _) (Nat.le_refl _) (blk_obj TV)
    clear TV TX BC hds hv4
    refine hK.out _ _ ?_
    clear hK K hHeld
    simp only [NoP]
    clear z1 z2 z3 q1 q2 q3
    have hs1 : (st ++ shH (stT x)).size ≤ 5021 := by rw [ba_size]; omega
    generalize st ++ shH (stT x) = s1 at HNX TV4 hs1
    have k0 := TX4.at 0 rfl
    have k1 := TX4.at 1 rfl
    have k2 := TX4.at 2 rfl
    gi_wp2
    refine ⟨trivial, (callsIn_wide.2 (numbers_is x.1 x.2.2 (hset.later BC4) (wf_ri hxr) (by omega))).mono ?_⟩
    rintro en v5 ⟨g5, rfl, hg5, hs5, hb⟩
    replace TV4 := TV4.later hb TV4.lt
    replace TX4 := TX4.later hb TX4.lt
    replace hds4 := hds4.later hb
    replace BC4 := BC4.trans (hb.mono BC4.size)
    clear hb k0 k1 k2
    gi_wp2
    refine ⟨trivial, (callsIn_wide.2 (rising2_is (wf_ri hxr) (by omega) hs5)).mono ?_⟩
    rintro en Wc ⟨Bs, L, a2, cap2, rfl, hBs, ⟨cBs, hL, haL, hwL, hlL⟩, hLL, hb⟩
    have hL2 : L = x.2.1.2.2 := rise_ext hLL.1 (ri_pair hxr) hLL.2
    subst hL2
    have hsh5 : sh < v5.heap.size := TV4.lt
    replace TV4 := TV4.later hb TV4.lt
    replace hds4 := hds4.later hb
    replace BC4 := BC4.trans (hb.mono BC4.size)
    have hshc : sh < Wc.heap.size := TV4.lt
    clear hb TX4 hs5 hLL
    have hR := toZ_row hwL hL
    have hzl := toZ_len _ hwL
    have hzz := zs_toZ _ hwL
    have cB2 : Wc.cell? ⟨Bs, 0, none⟩ = some (.slice a2 (toZ _ hwL).length cap2) := by rw [hzl]; exact cBs
    generalize toZ _ hwL = Z at hR hzl hzz cB2
    gi_wp2
    refine wpIn_rangeFunc_ownG (α := Z64) rfl (by omega) (gf := 102) (lb := #[.pointer (some ⟨Bs, 0, none⟩)]) rfl trivial (enters_of Try.func102 (by kernel_rfl) rfl)
      (vals2_stops 5 (by omega) Bs sh Wc.heap.size a2 cap2 Z (by omega) Wc hR (Nat.le_refl _) (fun p hp => by have := haL p hp; omega) (by omega) cB2) KB.trans (KB.put (Nat.le_refl _)) (Below.refl _ _) (fun _ => rfl)
      (fun pre W => Blk sh [.string (shN s1 (zs pre))] W ∧ KB sh Wc.heap.size Wc W)
      (fun _ _ _ => False)
      (OwnFrom.and (fun s A B row h hg hq => h.keptC hg (fun r e => (hq r e).2)) (ownFrom_kb (Nat.le_refl _) (Nat.le_refl _)))
      (fun _ _ _ _ _ h _ _ => h)
      ⟨TV4, KB.refl _ _ _⟩
      (fun z => { tmps := #[.slice (some ⟨b, off, none⟩) xs.length cap, undef, .string ⟨#[]⟩, .pointer (some ⟨sh, 0, none⟩), u4, .pointer (some ⟨rb, 0, none⟩), zV z, u7, u8, u9, u10, u11, u12, .slice (some ⟨b, off, none⟩) xs.length cap, .int .i64 (xs.length : Int), .int .i64 (j : Int), .bool true, .pointer (some ⟨b, off + j * 3, none⟩), .agg #[.int .i64 x.1, .slice x.2.1.1 x.2.1.2.2.length x.2.1.2.1, .int .i64 x.2.2], .string st, .pointer (some ⟨rb, 0, none⟩), .int .i64 x.1, .string (varOf x.1), .pointer (some ⟨rb, 2, none⟩), .int .i64 x.2.2, .string (varOf x.2.2), .string (varOf x.1 ++ varOf x.2.2), .pointer (some ⟨rb, 1, none⟩), .slice x.2.1.1 x.2.1.2.2.length x.2.1.2.1, .int .i64 (x.2.1.2.2.length : Int), .string (varOf (x.2.1.2.2.length : Int)), .string (varOf x.1 ++ varOf x.2.2 ++ varOf (x.2.1.2.2.length : Int)), .string (st ++ (varOf x.1 ++ varOf x.2.2 ++ varOf (x.2.1.2.2.length : Int))), .agg #[.int .i64 x.1, .slice x.2.1.1 x.2.1.2.2.length x.2.1.2.1, .int .i64 x.2.2], .map (some g5), SQ Bs, zV z, u37, u38, u39, u40, u41, u42], defers := [] }) ?assign ?body ?done ?stop
    case assign =>
      intro l z W K hK
      gi_wp2
      exact hK
    case body =>
      rintro l pre z W ⟨TB, hKB⟩ hlt3
      have hn1 : 1 ≤ 6 - 1 - 1 := by omega
      have hmx : Try.prog.follows .mixedOrders = true := by kernel_rfl
      have hq7 := varOf_size z.1
      have hsq := shN_size (zs pre) s1
      have hpl : (zs pre).length = pre.length := by simp [zs]
      have HSN : Hid (shN s1 (zs (pre ++ [z])) = shN s1 (zs pre) ++ varOf z.1) := by show _ = _; rw [zs_snoc, shN_snoc]
      generalize shN s1 (zs pre) = s2 at HSN hsq TB
      have zq : ¬ 9223372036854775807 < s2.size + (varOf z.1).size := by omega
      have TD := TB.drew
      have t0 := TB.at 0 rfl
      have f0 := TB.fz 0 rfl
      unfold zV
      gi_wp2
      gi_region_with_o (refine ⟨trivial, ?_⟩; refine (CallsIn.inRound l (callsIn_wide.2 (impl_var z.1 _))).mono ?_; rintro e w9 ⟨rfl, hb9⟩; have t9 := (TD.later hb9 TD.lt).at 0 rfl; have f9 := (TD.later hb9 TD.lt).fz 0 rfl)
      all_goals gi_wp2
      all_goals exact
        have hb0 : Below W.heap.size W w9 := (Below.refl _ W).drew.trans hb9
        have T9 := (TD.later hb9 TD.lt).set 0 (.string (s2 ++ varOf z.1))
        have hk : KB sh Wc.heap.size W (w9.setCell ⟨sh, 0, none⟩ (.string (s2 ++ varOf z.1))) := (KB.of (hb0.mono hKB.size)).trans ((kb_set w9 sh _).mono (Nat.le_trans hKB.size hb0.size))
        ⟨(KeepsFrom.of_grownBy (grown_of_below hb0) (fun j e => by cases e)).trans (KeepsFrom.of_grownBy (set_grown w9 sh 0 _) (fun j e => by cases e; exact hshc)), hk, by rw [HSN.out]; exact T9, hKB.trans hk⟩
    case done =>
      rintro D us W hD rfl ⟨TB, hKB⟩ hK
      rw [hzz] at TB
      have hd2 := hds4.kb hKB (Nat.le_refl _) (blk_obj TV4)
      have hdw : DsOk w.heap.size (D :: ns) W := hds4.cons (Or.inr (fun E hE => (hd2.at_ E hE).2.trans (hds4.at_ E hE).2.symm)) hD (Nat.le_trans BC4.size hD) hK
      have BW : Below w.heap.size w W := BC4.trans (hKB.below hsB BC4.size)
      have HR := fun act' h4 => HNX.out W (D :: ns) act' TB hdw BW h4
      clear HNX TB hKB hd2 hdw BW hds4 BC4 TV4
      gi_wp2
      exact ⟨HR _ ⟨_, _, _, _, _, _, _, _, _, _, _, _, _, _, _, _, _, _, _, _, _, _, _, _, _, _, _, _, _, _, _, _, _, _, _, _, rfl⟩, by simp [intOf]; omega⟩
    case stop =>
      rintro D c pre W _ _ h _
      exact h.elim
  · obtain rfl : j = xs.length := by omega
    have hlt2 : ¬ ((xs.length : Int) < (xs.length : Int)) := by omega
    have HF : Hid (ans = shS s0 ((xs.map stT).take xs.length)) := by show _ = _; rw [HD3.out, List.take_of_length_le (by simp)]
    generalize shS s0 ((xs.map stT).take xs.length) = fin at HF TV
    have t0 := TV.at 0 rfl
    clear HD3 HOK h31
    gi_wp2
    exact leaves_all (fun w' => results_tmp rfl _ _ _) (fun w' hb => ⟨by rw [HF.out]; rfl, hb⟩) ns wr hds BC
end Go.Proofs.Ytjbbhegijlnndaa.Nd
