/- The keys of a table as a set. -/
import Derived.Test.YtkfjpgkpmdbnoaaSe1
import Derived.Test.YtkfjpgkpmdbnoaaRf0
import Derived.Test.YtkfjpgkpmdbnoaaPa0
set_option linter.unusedVariables false
set_option maxRecDepth 100000
namespace Go.Proofs.Ytkfjpgkpmdbnoaa
open Go Go.RowKit Go.Joins Go.Shelf Own Maps
attribute [local go_sem] Oper.semAt_some

theorem nodup_le {α : Type} [DecidableEq α] : ∀ (S U : List α), S.Nodup → (∀ x, x ∈ S → x ∈ U) → S.length ≤ U.length := by
  intro S
  induction S with
  | nil => intro U _ _; exact Nat.zero_le _
  | cons x r ih =>
    intro U hn hs
    rw [List.nodup_cons] at hn
    have hx := hs x (List.mem_cons_self ..)
    have := ih (U.erase x) hn.2 (fun y hy => (List.mem_erase_of_ne (fun e => hn.1 (by rw [← e]; exact hy))).2 (hs y (List.mem_cons_of_mem _ hy)))
    rw [List.length_erase_of_mem hx] at this
    have := List.length_pos_of_mem hx
    simp only [List.length_cons]
    omega
theorem DS_tidy (xs : List Int) : Maps.Tidy (DS (H := Value) xs) := Maps.tidy_setOf _ _ (fun y hy => by obtain ⟨n, _, rfl⟩ := List.mem_map.1 hy; trivial)
theorem DS_count (xs : List Int) : ∀ j, j ≤ xs.length → ∃ K : List Int, K.Nodup ∧ (∀ x, x ∈ K ↔ x ∈ xs.take j) ∧ Maps.size (DS (H := Value) (xs.take j)) = K.length
  | 0, _ => ⟨[], List.nodup_nil, by simp, rfl⟩
  | j + 1, h => by
    obtain ⟨K, h1, h2, h3⟩ := DS_count xs j (by omega)
    have hlt : j < xs.length := h
    rw [List.take_succ_eq_append_getElem hlt]
    generalize xs[j] = x
    have hp := Maps.size_put (DS_tidy (xs.take j)) (k := .int .i64 x) (.agg [])
    rw [DS_has] at hp
    rw [DS_snoc, hp]
    by_cases hc : x ∈ xs.take j
    · rw [if_pos (by simpa using hc)]
      exact ⟨K, h1, fun y => by rw [h2, List.mem_append, List.mem_singleton]; exact ⟨Or.inl, fun h => h.elim id (fun e => e ▸ hc)⟩, h3⟩
    · rw [if_neg (by simpa using hc)]
      refine ⟨K ++ [x], List.nodup_append.2 ⟨h1, by simp, fun a ha b hb => ?_⟩, fun y => by rw [List.mem_append, List.mem_append, h2], by rw [h3]; simp⟩
      rw [List.mem_singleton] at hb
      rintro rfl
      exact hc (hb ▸ (h2 _).1 ha)
theorem DS_size (xs : List Int) : ∃ K : List Int, K.Nodup ∧ (∀ x, x ∈ K ↔ x ∈ xs) ∧ Maps.size (DS (H := Value) xs) = K.length := by
  have := DS_count xs xs.length (Nat.le_refl _)
  rwa [List.take_length] at this
theorem DS_le (xs : List Int) : Maps.size (DS (H := Value) xs) ≤ xs.length := by
  obtain ⟨K, h1, h2, h3⟩ := DS_size xs
  rw [h3]
  exact nodup_le K xs h1 (fun x hx => (h2 x).1 hx)
def toZ (xs : List Int) (h : ∀ x ∈ xs, (Lit.int .i64 x).wf = true) : List Z64 := xs.attach.map fun x => ⟨x.1, h x.1 x.2⟩
theorem zs_toZ (xs : List Int) (h : ∀ x ∈ xs, (Lit.int .i64 x).wf = true) : zs (toZ xs h) = xs := by unfold zs toZ; rw [List.map_map]; exact List.attach_map_subtype_val xs
theorem toZ_len (xs : List Int) (h : ∀ x ∈ xs, (Lit.int .i64 x).wf = true) : (toZ xs h).length = xs.length := by unfold toZ; simp
theorem DS_nd (xs : List Int) : ∀ j, j ≤ xs.length → (Maps.size (DS (H := Value) (xs.take j)) = j ↔ (xs.take j).Nodup)
  | 0, _ => by simp [DS, Maps.setOf, Maps.size]
  | j + 1, h => by
    have ih := DS_nd xs j (by omega)
    have hle := DS_le (xs.take j)
    have hlt : j < xs.length := h
    rw [List.take_succ_eq_append_getElem hlt]
    generalize xs[j] = x
    have hp := Maps.size_put (DS_tidy (xs.take j)) (k := .int .i64 x) (.agg [])
    rw [DS_has] at hp
    rw [DS_snoc, hp]
    rw [List.length_take] at hle
    by_cases hc : x ∈ xs.take j
    · rw [if_pos (by simpa using hc)]
      constructor
      · intro e; omega
      · intro hn
        rw [List.nodup_append] at hn
        exact absurd rfl (hn.2.2 x hc x (by simp))
    · rw [if_neg (by simpa using hc)]
      constructor
      · intro e
        exact List.nodup_append.2 ⟨ih.1 (by omega), by simp, fun a ha b hb => by rw [List.mem_singleton] at hb; rintro rfl; exact hc (hb ▸ ha)⟩
      · intro hn
        rw [List.nodup_append] at hn
        have := ih.2 hn.1
        omega
theorem DS_nodup (xs : List Int) : Maps.size (DS (H := Value) xs) = xs.length ↔ xs.Nodup := by
  have := DS_nd xs xs.length (Nat.le_refl _)
  rwa [List.take_length] at this
set_option maxHeartbeats 3200000 in
theorem keys_seq (n : Nat) (hn : 1 ≤ n) (Bs : Nat) (a : Option Addr) (cap : Nat) (xs : List TS) (hl : xs.length ≤ 1048576) (hwf : ∀ p ∈ xs, (Lit.int .i64 p.2.2).wf = true) (s : Nat → Prop) (w0 : World) (hr : FRow 3 cS w0 a xs) (hc : w0.cell? ⟨Bs, 0, none⟩ = some (.slice a xs.length cap)) (nB : ¬ s Bs) (nR : ∀ p : Addr, a = some p → 0 < xs.length → ¬ s p.block) :
    SeqO n Try.prog 74 #[.pointer (some ⟨Bs, 0, none⟩)] (fun x : Z64 => #[zV x]) s (fun ys => zs ys = xs.map (·.2.2)) (fun _ => True) xs.length w0 := by
  intro l J Jx W hW hsW oJ oX hY h0
  refine callsIn_of_wp Try.func74 rfl trivial ?_ rfl
  simp only [Try.ntmps74, List.size_toArray, List.length_cons, List.length_nil, Nat.reduceAdd, Nat.reduceSub, Array.replicate_succ, Array.replicate_zero, List.push_toArray, List.append_toArray, List.nil_append, List.cons_append]
  have hBl := World.block_lt_of_cell? _ _ hc
  have hws := hW.size
  have e1 : W.cell? ⟨Bs, 0, none⟩ = some (.slice a xs.length cap) := (hW.cell (p := ⟨Bs, 0, none⟩) hBl).trans hc
  gi_wp2
  gi_loopw [7] (fun q wr => ∃ (j : Nat) (pre : List Z64), j ≤ xs.length ∧ q = .int .i64 (j : Int) ∧ Hid (zs pre = (xs.take j).map (·.2.2)) ∧ J pre wr ∧ KS s W wr) (fun q _ => xs.length - (intOf q).toNat)
  case atStart => exact ⟨0, [], Nat.zero_le _, rfl, rfl, h0, KS.refl s W⟩
  case round =>
    clear e1
    obtain ⟨k, pre, hk2, rfl, hp, hJ, hk⟩ := hrel
    by_cases hkl : k < xs.length
    · obtain ⟨b1, o1, rfl, l1, hc1⟩ := hr k hkl
      have nb := nR _ rfl (by omega)
      have q0 : wr.cell? ⟨b1, o1 + k * 3, none⟩ = some (.int .i64 xs[k].1) := (hk.cell (p := ⟨b1, o1 + k * 3, none⟩) (Nat.lt_of_lt_of_le l1 hws) nb).trans ((hW.cell (p := ⟨b1, o1 + k * 3, none⟩) l1).trans (hc1 0 _ rfl))
      have q1 : wr.cell? ⟨b1, o1 + k * 3 + 1, none⟩ = some (.int .i64 xs[k].2.1) := (hk.cell (p := ⟨b1, o1 + k * 3 + 1, none⟩) (Nat.lt_of_lt_of_le l1 hws) nb).trans ((hW.cell (p := ⟨b1, o1 + k * 3 + 1, none⟩) l1).trans (hc1 1 _ rfl))
      have q2 : wr.cell? ⟨b1, o1 + k * 3 + 2, none⟩ = some (.int .i64 xs[k].2.2) := (hk.cell (p := ⟨b1, o1 + k * 3 + 2, none⟩) (Nat.lt_of_lt_of_le l1 hws) nb).trans ((hW.cell (p := ⟨b1, o1 + k * 3 + 2, none⟩) l1).trans (hc1 2 _ rfl))
      have hlen : pre.length < xs.length := by
        have h1 := congrArg List.length hp.out
        unfold zs at h1
        rw [List.length_map, List.length_map, List.length_take] at h1
        omega
      obtain ⟨z, hz⟩ : ∃ z : Z64, z.1 = xs[k].2.2 := ⟨⟨xs[k].2.2, hwf _ (List.getElem_mem hkl)⟩, rfl⟩
      have HP : Hid (zs (pre ++ [z]) = (xs.take (k + 1)).map (·.2.2)) := by show _ = _; rw [zs_snoc, hp.out, hz, List.take_succ_eq_append_getElem hkl, List.map_append]; rfl
      have hk1 : (k : Int) < (xs.length : Int) := by omega
      obtain ⟨Y, hY0⟩ : ∃ Y, wr.alloc (.cells #[.int .i64 xs[k].1, .int .i64 xs[k].2.1, .int .i64 xs[k].2.2] 31) = Y := ⟨_, rfl⟩
      have BY : Below wr.heap.size wr Y := by rw [← hY0]; exact (Below.refl _ _).alloc (Nat.le_refl _) _
      have TY : Blk wr.heap.size [.int .i64 xs[k].1, .int .i64 xs[k].2.1, .int .i64 xs[k].2.2] Y := by rw [← hY0]; exact Blk.new _ _ _
      have jY : J pre Y := by rw [← hY0]; exact oJ.alloc _ hJ
      have d2 := TY.at 2 rfl
      have KY : KS s W Y := hk.trans (KS.of BY)
      obtain ⟨fn, tmps, assign, body, hyv, hR⟩ := hY pre z Y jY KY.size hlen
      unfold zV at hyv
      rw [hz] at hyv
      clear hp hc1 hlen jY TY BY hk
      generalize hx0 : xs[k].1 = x0 at q0 hY0
      generalize hx1 : xs[k].2.1 = x1 at q1 hY0
      generalize hx2 : xs[k].2.2 = x2 at q2 hY0 hyv hz d2
      clear hx0 hx1 hx2 hz
      gi_wp2
      try rw [hY0]
      try gi_wp2
      refine hR.mono ?_
      clear hR hyv
      rintro e W3 (⟨rfl, hJ3, hk3⟩ | ⟨rfl, hJx3, hk3⟩)
      · have KN := KY.trans hk3
        clear q0 q1 q2 d2 hY0
        gi_wp2
        go_roundw
        case rel => exact ⟨k + 1, _, by omega, by go_num, HP, hJ3, KN⟩
        case measure => first | (simp [intOf]; done) | (simp [intOf]; omega)
      · clear q0 q1 q2 d2 hY0
        gi_wp2
        refine bodyPost_ret (results_none rfl _ _ _) rfl ?_
        exact ⟨⟨_, rfl⟩, .inr ⟨_, trivial, hJx3⟩⟩
    · obtain rfl : k = xs.length := by omega
      have HP : Hid (zs pre = xs.map (·.2.2)) := by show _ = _; rw [hp.out, List.take_length]
      gi_wp2
      go_end0
      exact ⟨⟨_, rfl⟩, .inl ⟨pre, HP.out, hJ⟩⟩
set_option maxHeartbeats 3200000 in
theorem put_keys (b Bs : Nat) (a : Option Addr) (cap : Nat) (xs : List TS) (hl : xs.length ≤ 1048576) (hwf : ∀ p ∈ xs, (Lit.int .i64 p.2.2).wf = true) (w : World) (hs : SetAt w b []) (hr : FRow 3 cS w a xs) (hc : w.cell? ⟨Bs, 0, none⟩ = some (.slice a xs.length cap)) (nB : Bs ≠ b) (nR : ∀ p : Addr, a = some p → 0 < xs.length → p.block ≠ b) :
    Calls Try.prog 79 #[.map (some b), .func (.func 74) #[] #[.pointer (some ⟨Bs, 0, none⟩)]] w fun e W' => e = .returned (.tuple #[]) ∧ SetAt W' b (xs.map (·.2.2)) ∧ KS (fun k => k = b) w W' := by
  refine (callsIn_wide (n := 6)).1 ?_
  refine callsIn_of_wp_marks Try.func79 rfl trivial ?_ rfl
  simp only [Try.ntmps79, List.size_toArray, List.length_cons, List.length_nil, Nat.reduceAdd, Nat.reduceSub, Array.replicate_succ, Array.replicate_zero, List.push_toArray, List.append_toArray, List.nil_append, List.cons_append]
  have hbl := hs.lt
  obtain ⟨V, hV⟩ : ∃ V, w.alloc (.cells #[.map (some b)] 81) = V := ⟨_, rfl⟩
  have BV : Below w.heap.size w V := by rw [← hV]; exact (Below.refl _ _).alloc (Nat.le_refl _) _
  have zV0 : V.heap.size = w.heap.size + 1 := by rw [← hV]; simp
  have cS0 : V.cell? ⟨w.heap.size, 0, none⟩ = some (.map (some b)) := by rw [← hV]; exact (Blk.new w #[.map (some b)] 81).at 0 rfl
  have hs0 : V.ownsMap Try.prog 3 (unitElem (H := Value)) b ([] : List Int).length (DS []) := by rw [← hV]; exact World.ownsMap.alloc hs _
  have hBs : Bs < w.heap.size := World.block_lt_of_cell? _ _ hc
  gi_wp2
  try rw [hV]
  refine rangeO (α := Z64) (s := fun k => k = b) (gf := 74) (lb := #[.pointer (some ⟨Bs, 0, none⟩)]) rfl (enters_of Try.func74 (by kernel_rfl) rfl)
    (keys_seq 5 (by omega) Bs a cap xs hl hwf (fun k => k = b ∨ k = V.heap.size ∨ k = V.heap.size + 1) V (hr.later BV) ((BV.cell (p := ⟨Bs, 0, none⟩) hBs).trans hc) (fun c => by rcases c with c | c | c; exact nB c; omega; omega) (fun p hp h0 c => by
      obtain ⟨q, o, e, hb, _⟩ := hr 0 h0
      rw [hp] at e
      injection e with e
      subst e
      rcases c with c | c | c
      · exact nR _ hp h0 c
      · dsimp only at c; omega
      · dsimp only at c; omega))
    (Below.refl _ _) (fun k hk => by subst hk; omega) (fun _ => rfl)
    (fun pre X => (X.cell? ⟨w.heap.size, 0, none⟩ = some (.map (some b)) ∧ X.ownsMap Try.prog 3 (unitElem (H := Value)) b (zs pre).length (DS (zs pre))) ∧ KS (fun k => k = b) V X)
    (fun _ _ _ => False)
    (OwnFrom.and (fun s A B row h hg hq => ⟨cell_kept h.1 hg (fun r e => (hq r e).2), h.2.kept hg (fun e => by have := (hq _ e.symm).1; omega)⟩) (ownFrom_ks (Nat.le_refl _)))
    (fun _ _ _ _ _ h _ _ => h)
    ⟨⟨cS0, hs0⟩, KS.refl _ _⟩
    (fun x a' X => a' = { tmps := #[.map (some b), .func (.func 74) #[] #[.pointer (some ⟨Bs, 0, none⟩)], .pointer (some ⟨w.heap.size, 0, none⟩), undef, zV x, .func (.func 74) #[] #[.pointer (some ⟨Bs, 0, none⟩)], zV x, undef, undef, undef], defers := [] })
    (fun x a' _ X Y row h hg hq => h)
    ?assign ?body ?done ?stop
  case assign =>
    rintro l x0 x X K hI hsz hK
    have HK := hK _ X (KS.refl _ _) hI rfl
    clear hK
    gi_wp2
    exact HK
  case body =>
    rintro l pre x a' W ⟨⟨hcc, hown⟩, hB⟩ hsz rfl hlt
    have hln : (zs pre).length < 1048577 := by simp [zs]; omega
    have HU := hown
    gi_wp2_with (gi_at_mapUpdate; refine wpListIn_mapUpdate_own _ rfl _ _ _ 81 rfl 3 107 keyed3 Try.underlying81 _ b (zs pre).length _ rfl hown (by unfold maxLen; omega) _ _ _ rfl rfl (Maps.keyOf_int_mk Try.underlying3 x.2) _ [] (unitElem_mk (H := Value)) ?_; intro w1 hown1 hgrow1)
    obtain ⟨es, ck, hh, _⟩ := HU
    have hk1 : KS (fun k => k = b) W w1 := KS.one hgrow1 (fun k e => by cases e; rfl)
    exact ⟨hk1, ⟨cell_kept hcc hgrow1 (fun r e => by cases e; exact ⟨_, hh, rfl⟩), by rw [zs_snoc, DS_snoc, List.length_append]; exact hown1⟩, hB.trans hk1⟩
  case done =>
    rintro D us W hD hus ⟨⟨hcc, hown⟩, hB⟩ hK
    rw [hus] at hown
    clear hus
    gi_wp2
    refine ⟨by simp, .inl ⟨_, _, rfl, run_takeDeferred hK, ?_⟩⟩
    exact ⟨_, results_none rfl _ _ _, rfl, hown.kept (grownBy_putObj' _ D _) (fun e => by cases e; omega), ((KS.of BV).trans hB).grown (grownBy_putObj' _ D _) (fun k e => by cases e; exact Or.inl (by omega))⟩
  case stop =>
    rintro D c pre W _ _ h _
    exact h.elim
set_option maxHeartbeats 3200000 in
theorem setOf_keys (Bs : Nat) (a : Option Addr) (cap : Nat) (xs : List TS) (hl : xs.length ≤ 1048576) (hwf : ∀ p ∈ xs, (Lit.int .i64 p.2.2).wf = true) (w : World) (hr : FRow 3 cS w a xs) (hc : w.cell? ⟨Bs, 0, none⟩ = some (.slice a xs.length cap)) :
    Calls Try.prog 73 #[.func (.func 74) #[] #[.pointer (some ⟨Bs, 0, none⟩)]] w fun e W' => e = .returned (.map (some w.heap.size)) ∧ SetAt W' w.heap.size (xs.map (·.2.2)) ∧ Below w.heap.size w W' := by
  have hmm := @run_makeMap Try.prog
  have hb0 : Below w.heap.size w (w.alloc (.map #[] 0)) := (Below.refl _ w).alloc (Nat.le_refl _) _
  have h0 : SetAt (w.alloc (.map #[] 0)) w.heap.size [] := World.ownsMap_made w Try.prog 3 (unitElem (H := Value))
  have hBs : Bs < w.heap.size := World.block_lt_of_cell? _ _ hc
  have K := put_keys w.heap.size Bs a cap xs hl hwf (w.alloc (.map #[] 0)) h0 (hr.later hb0) ((hb0.cell (p := ⟨Bs, 0, none⟩) hBs).trans hc) (by omega) (fun p hp h1 c => by
    obtain ⟨q, o, e, hb, _⟩ := hr 0 h1
    rw [hp] at e
    injection e with e
    subst e
    dsimp only at c
    omega)
  clear h0
  go_enter Try.func73, Try.ntmps73
  go_wp2_with fail
  refine K.mono ?_
  clear K
  rintro e W ⟨rfl, h1, h2⟩
  have h3 : Below w.heap.size w W := hb0.trans (h2.below (by simp) (fun k hk c => by omega))
  clear h2 hb0
  go_wp2
  go_ret
  exact ⟨rfl, h1, h3⟩
set_option maxHeartbeats 3200000 in
theorem keysOf_is (a : Option Addr) (cap : Nat) (xs : List TS) (w : World) (hr : FRow 3 cS w a xs) (hl : xs.length ≤ 1048576) (hwf : ∀ p ∈ xs, (Lit.int .i64 p.2.2).wf = true) :
    Calls Try.prog 57 #[.slice a xs.length cap] w fun e W' => ∃ g, e = .returned (.map (some g)) ∧ SetAt W' g (xs.map (·.2.2)) ∧ Below w.heap.size w W' := by
  obtain ⟨V, hV⟩ : ∃ V, w.alloc (.cells #[.slice a xs.length cap] 24) = V := ⟨_, rfl⟩
  have TV : Blk w.heap.size [.slice a xs.length cap] V := by rw [← hV]; exact Blk.new _ _ _
  have BC : Below w.heap.size w V := by rw [← hV]; exact (Below.refl _ _).alloc (Nat.le_refl _) _
  have K := setOf_keys w.heap.size a cap xs hl hwf V (hr.later BC) (TV.at 0 rfl)
  go_enter Try.func57, Try.ntmps57
  go_wp2_with fail
  try rw [hV]
  refine K.mono ?_
  clear K hV
  rintro e W ⟨rfl, h1, h2⟩
  have h3 := BC.trans (h2.mono BC.size)
  go_wp2
  go_ret
  exact ⟨_, rfl, h1, h3⟩
end Go.Proofs.Ytkfjpgkpmdbnoaa
