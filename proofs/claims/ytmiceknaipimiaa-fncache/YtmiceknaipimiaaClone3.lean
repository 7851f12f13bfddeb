/- Caches copied, by the program and by the model. -/
import Derived.Test.YtmiceknaipimiaaRight
import Derived.Lib.SliceRun
set_option linter.unusedVariables false
namespace Go.Proofs.Ytmiceknaipimiaa
open Go Go.RowKit Go.Joins Own Draw

theorem run_append_none {P : Program} {w : World} {base : Nat} (t ty e : TypeId) (i : TypeInfo) {size n : Nat} {v : Value} {xs : List Value} (ht : P.underlying t = some (.slice e)) (hi : P.info? e = some i) (hown : w.ownsRow base e size v n xs) (c : Nat) :
    (Builtin.append_ #[t, t] ty #[v, .slice none 0 c]).run P w = .ok v w := by
  rcases hown.2 with ⟨rfl, rfl⟩ | ⟨g, cap, cur, rfl, hbg, hg, hnc, hcm, hcs, htake⟩
  · simp [Builtin.append_, run_underlying ht, sizeOf, typeInfo, hi, Builtin.lenOf, Builtin.firstCells]
  · simp [Builtin.append_, run_underlying ht, sizeOf, typeInfo, hi, Builtin.lenOf, Builtin.firstCells, loadCells, hnc, storeCells]
theorem run_append_row {P : Program} (w : World) (t ty : TypeId)
    (base : Nat) (e : TypeId) (i : TypeInfo) (z : Value) (size bytes : Nat) (ht : P.underlying t = some (.slice e)) (hi : P.info? e = some i) (hz : i.zero = some z)
    (hsize : i.size = size) (hby : i.bytes = bytes) (hzs : z.cells.size = size) (hsz : 0 < size)
    (v : Value) (n : Nat) (xs : List Value) (hown : w.ownsRow base e size v n xs)
    (oa : Option Addr) (m c : Nat) (news : List Value) (hl : news.length = m * size) (hnews : ∀ ad, oa = some ad → ∀ j u, news[j]? = some u → w.cell? (ad.add j) = some u) (h1 : ∀ u ∈ news, u.oneCell' = true)
    (h63 : n + m ≤ maxLen) (hbytes : (n + m) * bytes ≤ 140737488355328) (hbase : base ≤ w.heap.size) (hnil : oa = none → m = 0) :
    ∃ v' w', (Builtin.append_ #[t, t] ty #[v, .slice oa m c]).run P w = .ok v' w' ∧ w'.ownsRow base e size v' (n + m) (xs ++ news) ∧ w.grownBy w' v.ownBlock := by
  cases oa with
  | some ad =>
    obtain ⟨v', w', hr, h2, h3, _, _⟩ := run_append_own_at (P := P) w base t ty e i z size bytes ht hi hz hsize hby hzs hsz v n xs hown ad m c news hl (hnews ad rfl) h1 h63 hbytes hbase
    exact ⟨v', w', hr, h2, h3⟩
  | none =>
    obtain rfl := hnil rfl
    have hn : news = [] := List.eq_nil_of_length_eq_zero (by simpa using hl)
    subst hn
    exact ⟨v, w, run_append_none t ty e i ht hi hown c, by simpa using hown, World.grownBy.refl w _⟩
theorem arow_nil {w : World} {a : Option Addr} {xs : List A3} (h : ARow w a xs) (ha : a = none) : xs.length = 0 := by
  cases xs with
  | nil => rfl
  | cons x xs =>
    obtain ⟨b, off, e, _⟩ := h 0 (by simp)
    rw [ha] at e; cases e
theorem news_trips {w : World} {a : Option Addr} {xs : List A3} (h : ARow w a xs) : ∀ ad, a = some ad → ∀ j u, (trV xs)[j]? = some u → w.cell? (ad.add j) = some u := by
  intro ad ha j u hu
  have hj : j < xs.length * 3 := by
    obtain ⟨q, _⟩ := List.getElem?_eq_some_iff.1 hu
    rwa [trV_len] at q
  obtain ⟨b, off, e, _, c0, c1, c2⟩ := h (j / 3) (by omega)
  rw [ha] at e
  cases e
  have e2 : (⟨b, off, none⟩ : Addr).add j = ⟨b, off + j, none⟩ := by simp only [Addr.add]; split <;> simp_all
  obtain ⟨g0, g1, g2⟩ := trV_get xs (j / 3) (by omega)
  rw [e2]
  have hc : j = j / 3 * 3 ∨ j = j / 3 * 3 + 1 ∨ j = j / 3 * 3 + 2 := by omega
  rcases hc with hc | hc | hc
  · rw [hc] at hu ⊢
    rw [g0] at hu
    rw [c0]; exact hu
  · rw [hc] at hu ⊢
    rw [g1] at hu
    rw [← Nat.add_assoc, c1]; exact hu
  · rw [hc] at hu ⊢
    rw [g2] at hu
    rw [← Nat.add_assoc, c2]; exact hu
theorem one_trips (xs : List A3) : ∀ u ∈ trV xs, u.oneCell' = true := by
  intro u hu
  unfold trV at hu
  rw [List.mem_flatMap] at hu
  obtain ⟨p, _, hp⟩ := hu
  simp only [List.mem_cons, List.not_mem_nil, or_false] at hp
  rcases hp with rfl | rfl | rfl <;> rfl
/-- A row of Auths is appended to one of the call's own, the new one behind the slice v. -/
theorem app_trips (w : World) (ty : TypeId) (B : Nat) (v : Value) (n : Nat) (ys : List A3) (hown : w.ownsRow B 28 3 v n (trV ys)) (a : Option Addr) (c : Nat) (xs : List A3) (hr : ARow w a xs) (hn : n + xs.length ≤ 2000000) (hB : B ≤ w.heap.size) :
    ∃ v' w', (Builtin.append_ #[24, 24] ty #[v, .slice a xs.length c]).run Try.prog w = .ok v' w' ∧ w'.ownsRow B 28 3 v' (n + xs.length) (trV (ys ++ xs)) ∧ w.grownBy w' v.ownBlock := by
  obtain ⟨i0, hi, hz0, hz1, hz2⟩ := info_parts infoAuth
  have := run_append_row (P := Try.prog) w 24 ty B 28 i0 (.agg #[.int .i64 0, .int .i64 0, .int .i64 0]) 3 24 Try.underlying24 hi hz0 hz1 hz2 rfl (by decide) v n (trV ys) hown a xs.length c (trV xs) (trV_len xs) (news_trips hr) (one_trips xs) (by unfold maxLen; omega) (by omega) hB (arow_nil hr)
  rwa [trV_app] at this
theorem wpList_app_trips (w : World) {ops : Array Oper} {rest : List Oper} {o : Oper} {a : Act} {Q : Exit → Act → World → Prop} (hgd : o.guard = none) (s x : Operand)
    (ho : o.op = .call { callee := .builtin .append, args := #[s, x], argTypes := #[24, 24] })
    (B : Nat) (v : Value) (n : Nat) (ys : List A3) (hs : a.eval s = v) (hown : w.ownsRow B 28 3 v n (trV ys)) (oa : Option Addr) (c : Nat) (xs : List A3) (hx : a.eval x = .slice oa xs.length c) (hr : ARow w oa xs) (hn : n + xs.length ≤ 2000000) (hB : B ≤ w.heap.size)
    (h : ∀ v' w', w'.ownsRow B 28 3 v' (n + xs.length) (trV (ys ++ xs)) → w.grownBy w' v.ownBlock → wpList Try.prog ops Q rest (a.put o.dst v') w') : wpList Try.prog ops Q (o :: rest) a w := by
  obtain ⟨v', w', hrun, h2, h3⟩ := app_trips w o.type B v n ys hown oa c xs hr hn hB
  refine wpList_plain hgd fun K hK => ?_
  unfold Oper.wp execOp
  simp only [ho, resolve, invoke, builtin, Sem.run_bind, Sem.run_pure, Result.andThen_ok, List.map_toArray, List.map_cons, List.map_nil, hs, hx, hrun]
  exact hK _ _ (h v' w' h2 h3)
theorem step_app_trips {ops : Array Oper} {o : Oper} {a : Act} {w : World} {K : Act → World → Prop} {Q : Exit → Act → World → Prop} {E : Prop} (d : Nat) (hd : o.dst = some d) (hgd : o.guard = none) (s x : Operand)
    (ho : o.op = .call { callee := .builtin .append, args := #[s, x], argTypes := #[24, 24] })
    (B : Nat) (v : Value) (n : Nat) (ys : List A3) (hs : a.eval s = v) (hown : w.ownsRow B 28 3 v n (trV ys)) (oa : Option Addr) (c : Nat) (xs : List A3) (hx : a.eval x = .slice oa xs.length c) (hr : ARow w oa xs) (hn : n + xs.length ≤ 2000000) (hB : B ≤ w.heap.size)
    (h : ∀ v' w', w'.ownsRow B 28 3 v' (n + xs.length) (trV (ys ++ xs)) → w.grownBy w' v.ownBlock → K (a.put (some d) v') w') :
    if Region.wanted o (yielded ops a.tmps) = true then Oper.wp Try.prog o a w K Q else E := by
  have hw : Region.wanted o (yielded ops a.tmps) = true := by simp [Region.wanted, hgd]
  rw [if_pos hw]
  obtain ⟨v', w', hrun, h2, h3⟩ := app_trips w o.type B v n ys hown oa c xs hr hn hB
  unfold Oper.wp execOp
  simp only [ho, resolve, invoke, builtin, Sem.run_bind, Sem.run_pure, Result.andThen_ok, List.map_toArray, List.map_cons, List.map_nil, hs, hx, hrun]
  have := h v' w' h2 h3
  rw [← hd] at this
  exact this

set_option maxRecDepth 100000 in
set_option maxHeartbeats 1600000 in
theorem clone_is (a : Option Addr) (cap : Nat) (xs : List A3) (w : World) (hr : ARow w a xs) (hl : xs.length ≤ 1048576) :
    Calls Try.prog 53 #[.slice a xs.length cap] w fun e w' => ∃ g c, e = .returned (.slice g xs.length c) ∧ Own3 w.heap.size g c xs w' ∧ Below w.heap.size w w' := by
  have q24 : ∀ (w : World) (a : Option Addr) (n c n' c' : Nat), (binOp .eql 24 (.slice a n c) (.slice none n' c')).run Try.prog w = .ok (.bool a.isNone) w := fun w a n c n' c' => Lib.run_eql_slice_nil w _ _ a n c n' c' Try.underlying24
  cases a with
  | none =>
    have hx : xs = [] := List.length_eq_zero_iff.1 (arow_nil hr rfl)
    subst hx
    go_enter Try.func53, Try.ntmps53
    go_wp2
    go_ret
    exact ⟨none, 0, rfl, Own3.nil _ _, Below.refl _ _⟩
  | some p =>
    have hlit : (w.alloc (.cells #[] 28)).ownsRow w.heap.size 28 3 (.slice (some ⟨w.heap.size, 0, none⟩) 0 0) 0 (trV []) := World.ownsRow_lit _ _ _ (Nat.le_refl _) (by unfold maxLen; omega) rfl
    have hb0 : Below w.heap.size w (w.alloc (.cells #[] 28)) := (Below.refl _ _).alloc (Nat.le_refl _) _
    go_enter Try.func53, Try.ntmps53
    go_wp2_with (first | (at_builtin; refine wpList_app_trips _ rfl _ _ rfl w.heap.size _ 0 [] rfl hlit (some p) cap xs rfl (hr.later hb0) (by omega) (by simp) ?_) | go_in)
    intro v' w' hown hg
    obtain ⟨g, c, rfl, _⟩ := own_shape hown
    have hb1 : Below w.heap.size w w' := hb0.grown hg (by simp) (fun k hk => (hlit.lt k hk).1)
    go_wp2
    go_ret
    exact ⟨g, c, rfl, hown, hb1⟩

set_option maxRecDepth 100000 in
set_option maxHeartbeats 1600000 in
theorem copied_is (q : Int) (a : Option Addr) (cap : Nat) (xs : List A3) (w : World) (hr : ARow w a xs) (hl : xs.length ≤ 1048576) :
    Calls Try.prog 34 #[cv q a xs.length cap] w fun e w' => ∃ g c, e = .returned (cv q g xs.length c) ∧ Own3 w.heap.size g c xs w' ∧ Below w.heap.size w w' := by
  obtain ⟨W, hW⟩ : ∃ W, (w.alloc (.cells #[.int .i64 q, .slice a xs.length cap] 26)).alloc (.cells #[.int .i64 0, .slice none 0 0] 26) = W := ⟨_, rfl⟩
  have BW : Below w.heap.size w W := by rw [← hW]; exact ((Below.refl _ _).alloc (Nat.le_refl _) _).alloc (by simp) _
  have T0 : Blk w.heap.size [.int .i64 q, .slice a xs.length cap] W := by rw [← hW]; exact (Blk.new _ _ _).alloc (by simp) _
  have T1 : Blk (w.heap.size + 1) [.int .i64 0, .slice none 0 0] W := by rw [← hW]; have h := Blk.new (w.alloc (.cells #[.int .i64 q, .slice a xs.length cap] 26)) #[.int .i64 0, .slice none 0 0] 26; rw [World.size_alloc] at h; exact h
  have hrd := (hr.later BW).drew
  go_enter Try.func34, Try.ntmps34
  go_wp2_with fail
  try rw [hW]
  clear hW hr
  refine wp_region_held_drew (S := (fun V : World => Blk w.heap.size [.int .i64 q, .slice a xs.length cap] V)) (by kernel_rfl) T0.drew (fun hHeld => ?_)
  refine take_one 0 3 (v := ?_) rfl rfl (by kernel_rfl) (by kernel_rfl) (by kernel_rfl) (fun _ _ _ h => h) (Or.inl ⟨by rfl, ?_⟩) hHeld ?_
  rotate_left
  · intro w' hSw; (try dsimp only at hSw); have c0 := hSw.at 0 rfl; have c1 := hSw.at 1 rfl; go_simp; try with_reducible rfl
  try simp only [Act.put, List.setIfInBounds_toArray, List.set_cons_zero, List.set_cons_succ]
  refine take_one 1 4 (v := ?_) rfl rfl (by kernel_rfl) (by kernel_rfl) (by kernel_rfl) (fun _ _ _ h => h) (Or.inl ⟨by rfl, ?_⟩) hHeld ?_
  rotate_left
  · intro w' hSw; (try dsimp only at hSw); have c0 := hSw.at 0 rfl; have c1 := hSw.at 1 rfl; go_simp; try with_reducible rfl
  try simp only [Act.put, List.setIfInBounds_toArray, List.set_cons_zero, List.set_cons_succ]
  refine take_one 2 5 (v := ?_) rfl rfl (by kernel_rfl) (by kernel_rfl) (by kernel_rfl) (fun _ _ _ h => h) (Or.inl ⟨by rfl, ?_⟩) hHeld ?_
  rotate_left
  · intro w' hSw; (try dsimp only at hSw); have c0 := hSw.at 0 rfl; have c1 := hSw.at 1 rfl; go_simp; try with_reducible rfl
  try simp only [Act.put, List.setIfInBounds_toArray, List.set_cons_zero, List.set_cons_succ]
  refine take_one 3 6 (v := ?_) rfl rfl (by kernel_rfl) (by kernel_rfl) (by kernel_rfl) (fun _ _ _ h => h) (Or.inl ⟨by rfl, ?_⟩) hHeld ?_
  rotate_left
  · intro w' hSw; (try dsimp only at hSw); have c0 := hSw.at 0 rfl; have c1 := hSw.at 1 rfl; go_simp; try with_reducible rfl
  try simp only [Act.put, List.setIfInBounds_toArray, List.set_cons_zero, List.set_cons_succ]
  refine wpAnyH_ready (rs := [4]) (by kernel_rfl) (by simp) ?_
  refine AllReadyH.cons (i := 4) rfl (fun K hK => ?_) AllReadyH.nil
  go_simp
  refine (clone_is a cap xs W.drew hrd hl).mono ?_
  rintro e w2 ⟨g, c, rfl, hown, hb2⟩
  have T0n := T0.drew.later hb2 T0.lt
  have T1n := T1.drew.later hb2 T1.lt
  have BN := BW.drew.trans (hb2.mono BW.drew.size)
  have e0 := T1n.at 0 rfl
  have e1 := T1n.at 1 rfl
  have f0 := T1n.fz 0 rfl
  have f1 := T1n.fz 1 rfl
  have hb3 : Below w.heap.size w ((w2.setCell ⟨w.heap.size + 1, 0, none⟩ (.int .i64 q)).setCell ⟨w.heap.size + 1, 1, none⟩ (.slice g xs.length c)) := (BN.setCell (by dsimp only; omega) _).setCell (by dsimp only; omega) _
  have ho3 : Own3 W.heap.size g c xs ((w2.setCell ⟨w.heap.size + 1, 0, none⟩ (.int .i64 q)).setCell ⟨w.heap.size + 1, 1, none⟩ (.slice g xs.length c)) := ownsRow_setCell_below (ownsRow_setCell_below hown (by dsimp only; exact T1.lt) _) (by dsimp only; exact T1.lt) _
  have R3 := (T1n.set 0 (.int .i64 q)).set 1 (.slice g xs.length c)
  have T3 := (T0n.far (g' := w.heap.size + 1) (by omega) 0 (.int .i64 q)).far (g' := w.heap.size + 1) (by omega) 1 (.slice g xs.length c)
  clear hown BN T1n
  go_wp2_with fail
  refine hK.out _ _ T0n (fun hHeld2 => ?_)
  clear hK K hHeld
  have hHeld := hHeld2
  clear hHeld2
  try simp only [Act.put, List.setIfInBounds_toArray, List.set_cons_zero, List.set_cons_succ]
  refine take_one 5 8 (v := ?_) rfl rfl (by kernel_rfl) (by kernel_rfl) (by kernel_rfl) (fun _ _ _ h => h) (Or.inl ⟨by rfl, ?_⟩) hHeld ?_
  rotate_left
  · intro w' hSw; (try dsimp only at hSw); have c0 := hSw.at 0 rfl; have c1 := hSw.at 1 rfl; go_simp; try with_reducible rfl
  try simp only [Act.put, List.setIfInBounds_toArray, List.set_cons_zero, List.set_cons_succ]
  refine wpAnyH_ready (rs := [6]) (by kernel_rfl) (by simp) ?_
  refine AllReadyH.cons (i := 6) rfl (fun K hK => ?_) AllReadyH.nil
  go_simp
  refine hK.out _ _ T3 (fun hHeld2 => ?_)
  clear hK K hHeld
  have hHeld := hHeld2
  clear hHeld2
  try simp only [Act.put, List.setIfInBounds_toArray, List.set_cons_zero, List.set_cons_succ]
  refine wpAnyH_done (by kernel_rfl) ?_ _
  clear hHeld
  go_wp2
  exact bodyPost_ret (res_c rfl _ _ (w.heap.size + 1) _ _ rfl (R3.at 0 rfl) (R3.at 1 rfl)) rfl ⟨g, c, rfl, ho3.le BW.size, hb3⟩

set_option maxRecDepth 100000 in
set_option maxHeartbeats 1600000 in
theorem specCopy_is (q : Int) (a : Option Addr) (cap : Nat) (xs : List A3) (w : World) (hr : ARow w a xs) (hl : xs.length ≤ 1048576) :
    Calls Try.prog 37 #[cv q a xs.length cap] w fun e w' => ∃ g c, e = .returned (cv q g xs.length c) ∧ Own3 w.heap.size g c xs w' ∧ Below w.heap.size w w' := by
  obtain ⟨W, hW⟩ : ∃ W, (w.alloc (.cells #[.int .i64 q, .slice a xs.length cap] 26)).alloc (.cells #[.int .i64 0, .slice none 0 0] 26) = W := ⟨_, rfl⟩
  have BW : Below w.heap.size w W := by rw [← hW]; exact ((Below.refl _ _).alloc (Nat.le_refl _) _).alloc (by simp) _
  have T0 : Blk w.heap.size [.int .i64 q, .slice a xs.length cap] W := by rw [← hW]; exact (Blk.new _ _ _).alloc (by simp) _
  have T1 : Blk (w.heap.size + 1) [.int .i64 0, .slice none 0 0] W := by rw [← hW]; have h := Blk.new (w.alloc (.cells #[.int .i64 q, .slice a xs.length cap] 26)) #[.int .i64 0, .slice none 0 0] 26; rw [World.size_alloc] at h; exact h
  have hrd := (hr.later BW).drew
  have BWd : Below W.heap.size W W.drew := (Below.refl _ _).drew
  have hlit : (W.drew.alloc (.cells #[] 28)).ownsRow W.heap.size 28 3 (.slice (some ⟨W.heap.size, 0, none⟩) 0 0) 0 (trV []) := World.ownsRow_lit W.drew _ _ (Nat.le_refl _) (by unfold maxLen; omega) rfl
  have hbl : Below W.heap.size W.drew (W.drew.alloc (.cells #[] 28)) := (Below.refl W.heap.size W.drew).alloc (show W.heap.size ≤ W.drew.heap.size from Nat.le_refl _) _
  go_enter Try.func37, Try.ntmps37
  go_wp2_with fail
  try rw [hW]
  clear hW hr
  refine wp_region_held_drew (S := (fun V : World => Blk w.heap.size [.int .i64 q, .slice a xs.length cap] V)) (by kernel_rfl) T0.drew (fun hHeld => ?_)
  refine take_one 0 3 (v := ?_) rfl rfl (by kernel_rfl) (by kernel_rfl) (by kernel_rfl) (fun _ _ _ h => h) (Or.inl ⟨by rfl, ?_⟩) hHeld ?_
  rotate_left
  · intro w' hSw; (try dsimp only at hSw); have c0 := hSw.at 0 rfl; have c1 := hSw.at 1 rfl; go_simp; try with_reducible rfl
  try simp only [Act.put, List.setIfInBounds_toArray, List.set_cons_zero, List.set_cons_succ]
  refine take_one 1 4 (v := ?_) rfl rfl (by kernel_rfl) (by kernel_rfl) (by kernel_rfl) (fun _ _ _ h => h) (Or.inl ⟨by rfl, ?_⟩) hHeld ?_
  rotate_left
  · intro w' hSw; (try dsimp only at hSw); have c0 := hSw.at 0 rfl; have c1 := hSw.at 1 rfl; go_simp; try with_reducible rfl
  try simp only [Act.put, List.setIfInBounds_toArray, List.set_cons_zero, List.set_cons_succ]
  refine take_one 3 6 (v := ?_) rfl rfl (by kernel_rfl) (by kernel_rfl) (by kernel_rfl) (fun _ _ _ h => h) (Or.inl ⟨by rfl, ?_⟩) hHeld ?_
  rotate_left
  · intro w' hSw; (try dsimp only at hSw); have c0 := hSw.at 0 rfl; have c1 := hSw.at 1 rfl; go_simp; try with_reducible rfl
  try simp only [Act.put, List.setIfInBounds_toArray, List.set_cons_zero, List.set_cons_succ]
  refine take_one 4 7 (v := ?_) rfl rfl (by kernel_rfl) (by kernel_rfl) (by kernel_rfl) (fun _ _ _ h => h) (Or.inl ⟨by rfl, ?_⟩) hHeld ?_
  rotate_left
  · intro w' hSw; (try dsimp only at hSw); have c0 := hSw.at 0 rfl; have c1 := hSw.at 1 rfl; go_simp; try with_reducible rfl
  try simp only [Act.put, List.setIfInBounds_toArray, List.set_cons_zero, List.set_cons_succ]
  refine wpAnyH_ready (rs := [2]) (by kernel_rfl) (by simp) ?_
  refine AllReadyH.cons (i := 2) rfl (fun K hK => ?_) AllReadyH.nil
  go_simp
  refine hK.out _ _ ((T0.drew).alloc T0.lt _) (fun hHeld2 => ?_)
  clear hK K hHeld
  have hHeld := hHeld2
  clear hHeld2
  try simp only [Act.put, List.setIfInBounds_toArray, List.set_cons_zero, List.set_cons_succ]
  refine wpAnyH_ready (rs := [5]) (by kernel_rfl) (by simp) ?_
  refine AllReadyH.cons (i := 5) rfl (fun K hK => ?_) AllReadyH.nil
  refine step_app_trips 8 rfl rfl _ _ rfl W.heap.size _ 0 [] rfl hlit a cap xs rfl (hrd.later hbl) (by omega) (by simp) ?_
  intro v' w2 hown hg
  rw [Nat.zero_add, List.nil_append] at hown
  obtain ⟨g, c, rfl, _⟩ := own_shape hown
  have hb2 : Below W.heap.size W w2 := (BWd.trans hbl).grown hg (by simp) (fun k hk => (hlit.lt k hk).1)
  have T0n := T0.later hb2 T0.lt
  have T1n := T1.later hb2 T1.lt
  have BN := BW.trans (hb2.mono BW.size)
  have e0 := T1n.at 0 rfl
  have e1 := T1n.at 1 rfl
  have f0 := T1n.fz 0 rfl
  have f1 := T1n.fz 1 rfl
  have hb3 : Below w.heap.size w ((w2.setCell ⟨w.heap.size + 1, 0, none⟩ (.int .i64 q)).setCell ⟨w.heap.size + 1, 1, none⟩ (.slice g xs.length c)) := (BN.setCell (by dsimp only; omega) _).setCell (by dsimp only; omega) _
  have ho3 : Own3 W.heap.size g c xs ((w2.setCell ⟨w.heap.size + 1, 0, none⟩ (.int .i64 q)).setCell ⟨w.heap.size + 1, 1, none⟩ (.slice g xs.length c)) := ownsRow_setCell_below (ownsRow_setCell_below hown (by dsimp only; exact T1.lt) _) (by dsimp only; exact T1.lt) _
  have R3 := (T1n.set 0 (.int .i64 q)).set 1 (.slice g xs.length c)
  have T3 := (T0n.far (g' := w.heap.size + 1) (by omega) 0 (.int .i64 q)).far (g' := w.heap.size + 1) (by omega) 1 (.slice g xs.length c)
  clear hown BN T1n hg
  refine hK.out _ _ T0n (fun hHeld2 => ?_)
  clear hK K hHeld
  have hHeld := hHeld2
  clear hHeld2
  try simp only [Act.put, List.setIfInBounds_toArray, List.set_cons_zero, List.set_cons_succ]
  refine take_one 6 9 (v := ?_) rfl rfl (by kernel_rfl) (by kernel_rfl) (by kernel_rfl) (fun _ _ _ h => h) (Or.inl ⟨by rfl, ?_⟩) hHeld ?_
  rotate_left
  · intro w' hSw; (try dsimp only at hSw); have c0 := hSw.at 0 rfl; have c1 := hSw.at 1 rfl; go_simp; try with_reducible rfl
  try simp only [Act.put, List.setIfInBounds_toArray, List.set_cons_zero, List.set_cons_succ]
  refine wpAnyH_ready (rs := [7]) (by kernel_rfl) (by simp) ?_
  refine AllReadyH.cons (i := 7) rfl (fun K hK => ?_) AllReadyH.nil
  go_simp
  refine hK.out _ _ T3 (fun hHeld2 => ?_)
  clear hK K hHeld
  have hHeld := hHeld2
  clear hHeld2
  try simp only [Act.put, List.setIfInBounds_toArray, List.set_cons_zero, List.set_cons_succ]
  refine wpAnyH_done (by kernel_rfl) ?_ _
  clear hHeld
  go_wp2
  exact bodyPost_ret (res_c rfl _ _ (w.heap.size + 1) _ _ rfl (R3.at 0 rfl) (R3.at 1 rfl)) rfl ⟨g, c, rfl, ho3.le BW.size, hb3⟩
end Go.Proofs.Ytmiceknaipimiaa
