/- The rule of a kind that rules come to: the model. -/
import Derived.Test.YtjbbhegijlnndaaRk1
import Derived.Test.YtjbbhegijlnndaaRn2
import Derived.Test.YtjbbhegijlnndaaRge
set_option linter.unusedVariables false
set_option maxRecDepth 100000
namespace Go.Proofs.Ytjbbhegijlnndaa.Nd
open Go Go.RowKit Go.Joins Own Draw Go.Proofs.Ytjbbhegijlnndaa

theorem step_app {P : Program} {ops : Array Oper} {o : Oper} {a : Act} {w : World} {K : Act → World → Prop} {Q : Exit → Act → World → Prop} {E : Prop} (hgd : o.guard = none) (s x : Operand) (t : TypeId)
    (ho : o.op = .call { callee := .builtin .append, args := #[s, x], argTypes := #[t, t] })
    (base : Nat) (e : TypeId) (i : TypeInfo) (z : Value) (size bytes : Nat) (ht : P.underlying t = some (.slice e)) (hi : P.info? e = some i) (hz : i.zero = some z)
    (hsize : i.size = size) (hby : i.bytes = bytes) (hzs : z.cells.size = size) (hsz : 0 < size)
    (v : Value) (n : Nat) (xs : List Value) (hs : a.eval s = v) (hown : w.ownsRow base e size v n xs)
    (oa : Option Addr) (m c : Nat) (news : List Value) (hx : a.eval x = .slice oa m c) (hl : news.length = m * size) (hnews : ∀ ad, oa = some ad → ∀ j u, news[j]? = some u → w.cell? (ad.add j) = some u) (h1 : ∀ u ∈ news, u.oneCell' = true)
    (h63 : n + m ≤ maxLen) (hbytes : (n + m) * bytes ≤ 140737488355328) (hbase : base ≤ w.heap.size) (hnil : oa = none → m = 0)
    (h : ∀ v' w', w'.ownsRow base e size v' (n + m) (xs ++ news) → w.grownBy w' v.ownBlock → K (a.put o.dst v') w') : if Region.wanted o (yielded ops a.tmps) = true then Oper.wp P o a w K Q else E := by
  rw [if_pos (by simp [Region.wanted, hgd])]
  cases oa with
  | some ad =>
    obtain ⟨v', w', hr, h2, h3, _⟩ := run_append_own w base t o.type e i z size bytes ht hi hz hsize hby hzs hsz v n xs hown ad m c news hl (hnews ad rfl) h1 h63 hbytes hbase
    unfold Oper.wp execOp
    simp only [ho, resolve, invoke, builtin, Sem.run_bind, Sem.run_pure, Result.andThen_ok, List.map_toArray, List.map_cons, List.map_nil, hs, hx, hr]
    exact h v' w' h2 h3
  | none =>
    obtain rfl := hnil rfl
    have hn : news = [] := List.eq_nil_of_length_eq_zero (by simpa using hl)
    subst hn
    have hr := run_append_none t o.type e i ht hi hown c
    unfold Oper.wp execOp
    simp only [ho, resolve, invoke, builtin, Sem.run_bind, Sem.run_pure, Result.andThen_ok, List.map_toArray, List.map_cons, List.map_nil, hs, hx, hr]
    exact h v w (by simpa using hown) (World.grownBy.refl w _)
theorem step_build0 {P : Program} {ops : Array Oper} {w : World} {o : Oper} {a : Act} {K : Act → World → Prop} {Q : Exit → Act → World → Prop} {E : Prop} (hgd : o.guard = none) (t e : TypeId) (ho : o.op = .buildSlice t 0 #[]) (ie : TypeInfo) (z : Value)
    (hu : P.underlying t = some (.slice e)) (hie : P.info? e = some ie) (hz : ie.zero = some z) (h : K (a.put o.dst (.slice (some ⟨w.heap.size, 0, none⟩) 0 0)) (w.alloc (.cells #[] e))) : if Region.wanted o (yielded ops a.tmps) = true then o.wp P a w K Q else E := by
  rw [if_pos (by simp [Region.wanted, hgd])]
  have hr : (Instr.buildSlice t 0 #[]).run P w = .ok (.slice (some ⟨w.heap.size, 0, none⟩) 0 0) (w.alloc (.cells #[] e)) := by
    simp [Instr.buildSlice, run_underlying hu, sizeOf, typeInfo, hie, newRow, Instr.fill]
    exact congrArg (fun x => w.alloc (.cells x e)) (Array.eq_empty_of_size_eq_zero (by simp))
  unfold Oper.wp execOp
  simp only [ho, Sem.run_bind, List.map_toArray, List.map_nil, hr, Result.andThen_ok]
  exact h
theorem one_ints (ys : List Int) : ∀ u ∈ ys.map (Value.int .i64), u.oneCell' = true := by
  intro u hu
  obtain ⟨x, _, rfl⟩ := List.mem_map.1 hu
  rfl
set_option maxHeartbeats 6400000 in
theorem kind_is (r : Rw TT) (kd : Int) (w : World) (hr : RpT w r) (hok : okL (rsT r) = true) :
    Calls Try.prog 52 #[.slice r.1 r.2.2.length r.2.1, .int .i64 kd] w fun e w' => OfKP (ofK kd (rsT r)) w.heap.size e w' ∧ Below w.heap.size w w' := by
  obtain ⟨ie, hie, his⟩ := info_T
  obtain ⟨i0, hi0, hz0, hz1, hz2⟩ := info_parts infoInt
  obtain ⟨a, cap, xs⟩ := r
  obtain ⟨hrow, hdp⟩ := hr
  dsimp only at hrow hdp ⊢
  have hlen : xs.length ≤ 20 := by have := (okL_mem hok).1; simpa [rsT] using this
  have hall : ∀ j (h : j < xs.length), okP (stT xs[j]) = true := fun j h => (okL_mem hok).2 _ (List.mem_map_of_mem (List.getElem_mem h))
  have hacc : ∀ j, AccOk kd (ofK kd ((xs.map stT).take j)) := fun j => ofK_of hok kd j
  clear hok
  have HF : Hid (ofK kd (rsT (a, cap, xs)) = ofK kd ((xs.map stT).take xs.length)) := by show _ = _; rw [List.take_of_length_le (by simp)]; rfl
  generalize ofK kd (rsT (a, cap, xs)) = fin at HF ⊢
  obtain ⟨V00, hV00⟩ : ∃ V, (w.alloc (.cells #[.int .i64 0, .slice none 0 0, .int .i64 0] 59)).alloc (.cells #[.int .i64 0, .slice none 0 0, .int .i64 0] 59) = V := ⟨_, rfl⟩
  obtain ⟨V0, hV0⟩ : ∃ V, World.setCells V00 (w.heap.size + 1) 0 [.int .i64 0, .slice none 0 0, .int .i64 0] = V := ⟨_, rfl⟩
  have RC0 : Blk w.heap.size [.int .i64 0, .slice none 0 0, .int .i64 0] V00 := by rw [← hV00]; exact (Blk.new w #[.int .i64 0, .slice none 0 0, .int .i64 0] 59).alloc (by simp) _
  have TY0 : Blk (w.heap.size + 1) [.int .i64 0, .slice none 0 0, .int .i64 0] V00 := by rw [← hV00]; have h_ := Blk.new (w.alloc (.cells #[.int .i64 0, .slice none 0 0, .int .i64 0] 59)) #[.int .i64 0, .slice none 0 0, .int .i64 0] 59; simpa using h_
  have BC0 : Below w.heap.size w V00 := by rw [← hV00]; exact ((Below.refl _ _).alloc (Nat.le_refl _) _).alloc (by simp) _
  have RC : Blk w.heap.size [.int .i64 0, .slice none 0 0, .int .i64 0] V0 := by rw [← hV0]; exact Blk.farS (by omega) _ 0 _ RC0
  have TY : Blk (w.heap.size + 1) [.int .i64 0, .slice none 0 0, .int .i64 0] V0 := by rw [← hV0]; exact TY0.sets [.int .i64 0, .slice none 0 0, .int .i64 0] rfl
  have BC : Below w.heap.size w V0 := by rw [← hV0]; exact below_sets (by omega) _ 0 _ BC0
  have HV00 : Hid ((w.alloc (.cells #[.int .i64 0, .slice none 0 0, .int .i64 0] 59)).alloc (.cells #[.int .i64 0, .slice none 0 0, .int .i64 0] 59) = V00) := hV00
  clear hV00
  go_enter Try.func52, Try.ntmps52
  go_wp2_with (first | (rw [HV00.out]; refine wpList_stB 59 _ _ (w.heap.size + 1) 0 [.int .i64 0, .slice none 0 0, .int .i64 0] [.int .i64 0, .slice none 0 0, .int .i64 0] ie hie TY0 (by rw [his]; rfl) (by simp) rfl rfl rfl rfl rfl ?_; try simp only [Act.put]; rw [hV0]) | fail)
  clear TY0 RC0 BC0 HV00
  go_loopw [7, 8] (fun okv iv wr => ∃ (j : Nat) (y : TT), j ≤ xs.length ∧ iv = .int .i64 j ∧ okv = .bool (ofK kd ((xs.map stT).take j)).2 ∧ Hid (stT y = (ofK kd ((xs.map stT).take j)).1) ∧ Blk (w.heap.size + 1) [.int .i64 y.1, .slice y.2.1.1 y.2.1.2.2.length y.2.1.2.1, .int .i64 y.2.2] wr ∧ Blk w.heap.size [.int .i64 0, .slice none 0 0, .int .i64 0] wr ∧ OwT (w.heap.size + 2) wr y ∧ Below w.heap.size w wr) (fun _ iv _ => xs.length - (intOf iv).toNat)
  case atStart => exact ⟨0, (0, (none, 0, []), 0), Nat.zero_le _, rfl, rfl, rfl, TY, RC, World.ownsRow_nil _ _ _ _, BC⟩
  case round =>
    clear TY RC BC hV0
    obtain ⟨j, y, hj, rfl, rfl, HY, TY, RC, oy, BC⟩ := hrel
    by_cases hlt : j < xs.length
    · obtain ⟨b, off, rfl, hb, hc⟩ := hrow j hlt
      have hlt2 : (j : Int) < (xs.length : Int) := by omega
      have hsn : (xs.map stT).take (j + 1) = (xs.map stT).take j ++ [stT xs[j]] := by rw [List.take_succ_eq_append_getElem (by simpa using hlt)]; simp
      have HS : Hid (ofK kd ((xs.map stT).take (j + 1)) = stepK kd (ofK kd ((xs.map stT).take j)) (stT xs[j])) := by show _ = _; rw [hsn, ofK_snoc]
      have hA := hacc j
      have hO := hall j hlt
      have hD := hdp _ (List.getElem_mem hlt)
      have c0 : wr.cell? ⟨b, off + j * 3, none⟩ = some (.int .i64 xs[j].1) := (BC.cell (p := ⟨b, off + j * 3, none⟩) hb).trans (hc 0 _ rfl)
      have c1 : wr.cell? ⟨b, off + j * 3 + 1, none⟩ = some (.slice xs[j].2.1.1 xs[j].2.1.2.2.length xs[j].2.1.2.1) := (BC.cell (p := ⟨b, off + j * 3 + 1, none⟩) hb).trans (hc 1 _ rfl)
      have c2 : wr.cell? ⟨b, off + j * 3 + 2, none⟩ = some (.int .i64 xs[j].2.2) := (BC.cell (p := ⟨b, off + j * 3 + 2, none⟩) hb).trans (hc 2 _ rfl)
      clear hc hsn
      generalize hx : xs[j] = x at HS hO hD c0 c1 c2
      clear hx
      generalize ofK kd ((xs.map stT).take j) = acc at HY HS hA
      have HG : Hid (∀ (z : TT) (bb : Bool) (W : World), stepK kd acc (stT x) = (stT z, bb) → Blk (w.heap.size + 1) [.int .i64 z.1, .slice z.2.1.1 z.2.1.2.2.length z.2.1.2.1, .int .i64 z.2.2] W → Blk w.heap.size [.int .i64 0, .slice none 0 0, .int .i64 0] W → OwT (w.heap.size + 2) W z → Below w.heap.size w W → ∃ (j' : Nat) (y' : TT), j' ≤ xs.length ∧ Value.int .i64 ((j : Int) + 1) = .int .i64 j' ∧ Value.bool bb = .bool (ofK kd ((xs.map stT).take j')).2 ∧ Hid (stT y' = (ofK kd ((xs.map stT).take j')).1) ∧ Blk (w.heap.size + 1) [.int .i64 y'.1, .slice y'.2.1.1 y'.2.1.2.2.length y'.2.1.2.1, .int .i64 y'.2.2] W ∧ Blk w.heap.size [.int .i64 0, .slice none 0 0, .int .i64 0] W ∧ OwT (w.heap.size + 2) W y' ∧ Below w.heap.size w W) :=
        fun z bb W h1 h2 h3 h4 h5 => ⟨j + 1, z, by omega, by go_num, by rw [HS.out, h1], by show _ = _; rw [HS.out, h1], h2, h3, h4, h5⟩
      clear HS
      have hD2 := hD.later BC
      have hlx := ri_len (show riB (-1) x.2.1.2.2 = true from okP_set hO)
      obtain ⟨p, b0⟩ := acc
      by_cases hk : x.1 = kd
      · have hkb : (x.1 != kd) = false := by rw [hk]; simp
        have HP : Hid (stepK kd (p, b0) (stT x) = if b0 = true then (joinP p (stT x), true) else (stT x, true)) := by show _ = _; unfold stepK; rw [if_pos (show (stT x).1 = kd from hk)]
        have HKD : Hid (x.1 = kd) := hk
        clear hk
        cases b0 with
        | false =>
          have HQ : Hid (stepK kd (p, false) (stT x) = (stT x, true)) := (HP.out.trans (if_neg (fun c => by cases c)) : stepK kd (p, false) (stT x) = (stT x, true))
          clear HP HY hA
          go_wp2_with fail
          replace TY := TY.drew
          replace RC := RC.drew
          replace BC := BC.drew
          replace hD2 : DpT wr.drew x := hD2
          replace c0 : wr.drew.cell? ⟨b, off + j * 3, none⟩ = _ := c0
          replace c1 : wr.drew.cell? ⟨b, off + j * 3 + 1, none⟩ = _ := c1
          replace c2 : wr.drew.cell? ⟨b, off + j * 3 + 2, none⟩ = _ := c2
          refine drew_E 14 ((fun Vw => Blk (w.heap.size + 1) [.int .i64 y.1, .slice y.2.1.1 y.2.1.2.2.length y.2.1.2.1, .int .i64 y.2.2] Vw ∧ Vw.cell? ⟨b, off + j * 3, none⟩ = some (.int .i64 x.1) ∧ Vw.cell? ⟨b, off + j * 3 + 1, none⟩ = some (.slice x.2.1.1 x.2.1.2.2.length x.2.1.2.1) ∧ Vw.cell? ⟨b, off + j * 3 + 2, none⟩ = some (.int .i64 x.2.2))) (by kernel_rfl) ⟨TY, c0, c1, c2⟩ (fun hHeld => ?_)
          refine take_E 0 30 (v := ?_) rfl rfl (by kernel_rfl) (by kernel_rfl) (by kernel_rfl) (by kernel_rfl) (fun _ _ _ h => h) (Or.inl ⟨by rfl, ?_⟩) hHeld ?_
          rotate_left
          · intro w' hSw; (try dsimp only at hSw); obtain ⟨hY_, k0, k1, k2⟩ := hSw; have d0 := hY_.at 0 rfl; have d1 := hY_.at 1 rfl; have d2 := hY_.at 2 rfl; go_simp; try with_reducible rfl
          try simp only [Act.put, List.setIfInBounds_toArray, List.set_cons_zero, List.set_cons_succ]
          refine take_E 2 32 (v := ?_) rfl rfl (by kernel_rfl) (by kernel_rfl) (by kernel_rfl) (by kernel_rfl) (fun _ _ _ h => h) (Or.inl ⟨by rfl, ?_⟩) hHeld ?_
          rotate_left
          · intro w' hSw; (try dsimp only at hSw); obtain ⟨hY_, k0, k1, k2⟩ := hSw; have d0 := hY_.at 0 rfl; have d1 := hY_.at 1 rfl; have d2 := hY_.at 2 rfl; go_simp; try with_reducible rfl
          try simp only [Act.put, List.setIfInBounds_toArray, List.set_cons_zero, List.set_cons_succ]
          refine take_E 3 33 (v := ?_) rfl rfl (by kernel_rfl) (by kernel_rfl) (by kernel_rfl) (by kernel_rfl) (fun _ _ _ h => h) (Or.inl ⟨by rfl, ?_⟩) hHeld ?_
          rotate_left
          · intro w' hSw; (try dsimp only at hSw); obtain ⟨hY_, k0, k1, k2⟩ := hSw; have d0 := hY_.at 0 rfl; have d1 := hY_.at 1 rfl; have d2 := hY_.at 2 rfl; go_simp; try with_reducible rfl
          try simp only [Act.put, List.setIfInBounds_toArray, List.set_cons_zero, List.set_cons_succ]
          refine take_E 4 34 (v := ?_) rfl rfl (by kernel_rfl) (by kernel_rfl) (by kernel_rfl) (by kernel_rfl) (fun _ _ _ h => h) (Or.inl ⟨by rfl, ?_⟩) hHeld ?_
          rotate_left
          · intro w' hSw; (try dsimp only at hSw); obtain ⟨hY_, k0, k1, k2⟩ := hSw; have d0 := hY_.at 0 rfl; have d1 := hY_.at 1 rfl; have d2 := hY_.at 2 rfl; go_simp; try with_reducible rfl
          try simp only [Act.put, List.setIfInBounds_toArray, List.set_cons_zero, List.set_cons_succ]
          refine take_E 5 35 (v := ?_) rfl rfl (by kernel_rfl) (by kernel_rfl) (by kernel_rfl) (by kernel_rfl) (fun _ _ _ h => h) (Or.inl ⟨by rfl, ?_⟩) hHeld ?_
          rotate_left
          · intro w' hSw; (try dsimp only at hSw); obtain ⟨hY_, k0, k1, k2⟩ := hSw; have d0 := hY_.at 0 rfl; have d1 := hY_.at 1 rfl; have d2 := hY_.at 2 rfl; go_simp; try with_reducible rfl
          try simp only [Act.put, List.setIfInBounds_toArray, List.set_cons_zero, List.set_cons_succ]
          refine take_E 6 36 (v := ?_) rfl rfl (by kernel_rfl) (by kernel_rfl) (by kernel_rfl) (by kernel_rfl) (fun _ _ _ h => h) (Or.inl ⟨by rfl, ?_⟩) hHeld ?_
          rotate_left
          · intro w' hSw; (try dsimp only at hSw); obtain ⟨hY_, k0, k1, k2⟩ := hSw; have d0 := hY_.at 0 rfl; have d1 := hY_.at 1 rfl; have d2 := hY_.at 2 rfl; go_simp; try with_reducible rfl
          try simp only [Act.put, List.setIfInBounds_toArray, List.set_cons_zero, List.set_cons_succ]
          refine take_E 8 38 (v := ?_) rfl rfl (by kernel_rfl) (by kernel_rfl) (by kernel_rfl) (by kernel_rfl) (fun _ _ _ h => h) (Or.inl ⟨by rfl, ?_⟩) hHeld ?_
          rotate_left
          · intro w' hSw; (try dsimp only at hSw); obtain ⟨hY_, k0, k1, k2⟩ := hSw; have d0 := hY_.at 0 rfl; have d1 := hY_.at 1 rfl; have d2 := hY_.at 2 rfl; go_simp; try with_reducible rfl
          try simp only [Act.put, List.setIfInBounds_toArray, List.set_cons_zero, List.set_cons_succ]
          refine take_E 9 39 (v := ?_) rfl rfl (by kernel_rfl) (by kernel_rfl) (by kernel_rfl) (by kernel_rfl) (fun _ _ _ h => h) (Or.inl ⟨by rfl, ?_⟩) hHeld ?_
          rotate_left
          · intro w' hSw; (try dsimp only at hSw); obtain ⟨hY_, k0, k1, k2⟩ := hSw; have d0 := hY_.at 0 rfl; have d1 := hY_.at 1 rfl; have d2 := hY_.at 2 rfl; go_simp; try with_reducible rfl
          try simp only [Act.put, List.setIfInBounds_toArray, List.set_cons_zero, List.set_cons_succ]
          refine take_E 10 40 (v := ?_) rfl rfl (by kernel_rfl) (by kernel_rfl) (by kernel_rfl) (by kernel_rfl) (fun _ _ _ h => h) (Or.inl ⟨by rfl, ?_⟩) hHeld ?_
          rotate_left
          · intro w' hSw; (try dsimp only at hSw); obtain ⟨hY_, k0, k1, k2⟩ := hSw; have d0 := hY_.at 0 rfl; have d1 := hY_.at 1 rfl; have d2 := hY_.at 2 rfl; go_simp; try with_reducible rfl
          try simp only [Act.put, List.setIfInBounds_toArray, List.set_cons_zero, List.set_cons_succ]
          refine take_E 11 41 (v := ?_) rfl rfl (by kernel_rfl) (by kernel_rfl) (by kernel_rfl) (by kernel_rfl) (fun _ _ _ h => h) (Or.inl ⟨by rfl, ?_⟩) hHeld ?_
          rotate_left
          · intro w' hSw; (try dsimp only at hSw); obtain ⟨hY_, k0, k1, k2⟩ := hSw; have d0 := hY_.at 0 rfl; have d1 := hY_.at 1 rfl; have d2 := hY_.at 2 rfl; go_simp; try with_reducible rfl
          try simp only [Act.put, List.setIfInBounds_toArray, List.set_cons_zero, List.set_cons_succ]
          refine take_E 12 42 (v := ?_) rfl rfl (by kernel_rfl) (by kernel_rfl) (by kernel_rfl) (by kernel_rfl) (fun _ _ _ h => h) (Or.inl ⟨by rfl, ?_⟩) hHeld ?_
          rotate_left
          · intro w' hSw; (try dsimp only at hSw); obtain ⟨hY_, k0, k1, k2⟩ := hSw; have d0 := hY_.at 0 rfl; have d1 := hY_.at 1 rfl; have d2 := hY_.at 2 rfl; go_simp; try with_reducible rfl
          try simp only [Act.put, List.setIfInBounds_toArray, List.set_cons_zero, List.set_cons_succ]
          refine one_E 1 (by kernel_rfl) rfl (fun K hK => ?_)
          refine step_build0 rfl 32 3 rfl i0 (.int .i64 0) Try.underlying32 hi0 hz0 ?_
          try simp only [Act.put, List.setIfInBounds_toArray]
          obtain ⟨U, hU⟩ : ∃ Wz, World.alloc wr.drew (.cells #[] 3) = Wz := ⟨_, rfl⟩
          have XA : Below wr.drew.heap.size wr.drew U := by rw [← hU]; exact (Below.refl _ _).alloc (Nat.le_refl _) _
          have ho0 : U.ownsRow (w.heap.size + 2) 3 1 (.slice (some ⟨wr.drew.heap.size, 0, none⟩) 0 0) 0 [] := by rw [← hU]; exact World.ownsRow_lit _ _ _ (by have := TY.lt; omega) (by unfold maxLen; omega) rfl
          rw [hU]
          have hsd0 : w.heap.size + 2 ≤ wr.drew.heap.size := TY.lt
          replace TY := TY.later XA TY.lt
          replace RC := RC.later XA RC.lt
          replace c0 := (XA.cell (p := ⟨b, off + j * 3, none⟩) (Nat.lt_of_lt_of_le hb BC.size)).trans c0
          replace c1 := (XA.cell (p := ⟨b, off + j * 3 + 1, none⟩) (Nat.lt_of_lt_of_le hb BC.size)).trans c1
          replace c2 := (XA.cell (p := ⟨b, off + j * 3 + 2, none⟩) (Nat.lt_of_lt_of_le hb BC.size)).trans c2
          replace hD2 := hD2.later XA
          have hUs : w.heap.size + 2 ≤ U.heap.size := by have := TY.lt; omega
          replace BC := BC.trans (XA.mono BC.size)
          have hsd : w.heap.size + 2 ≤ wr.drew.heap.size := hsd0
          clear XA hU
          refine hK.out _ _ ⟨TY, c0, c1, c2⟩ (fun hHeld2 => ?_)
          clear hK K hHeld
          have hHeld := hHeld2
          clear hHeld2
          try simp only [Act.put, List.setIfInBounds_toArray, List.set_cons_zero, List.set_cons_succ]
          refine one_E 7 (by kernel_rfl) rfl (fun K hK => ?_)
          refine step_app rfl _ _ 32 rfl (w.heap.size + 2) 3 i0 (.int .i64 0) 1 8 Try.underlying32 hi0 hz0 hz1 hz2 rfl (by decide) _ _ _ rfl ho0 x.2.1.1 x.2.1.2.2.length x.2.1.2.1 (x.2.1.2.2.map (Value.int .i64)) rfl (by simp) (news_row hD2) (one_ints _) (by unfold maxLen; omega) (by omega) hUs (row_nil hD2) ?_
          intro v1 W1 ho1 hg1
          try simp only [Act.put]
          rw [Nat.zero_add, List.nil_append] at ho1
          obtain ⟨na, nc, rfl, _⟩ := own_shape ho1
          have hb1 : Below (w.heap.size + 2) U W1 := ⟨hg1.os, hg1.tape, hg1.output, hg1.size, fun k hk => hg1.block k (by omega) (fun e => by injection e with e; dsimp only at e; omega)⟩
          replace TY := blk_kept TY hg1 (fun e => by injection e with e; dsimp only at e; omega) (by omega)
          replace RC := blk_kept RC hg1 (fun e => by injection e with e; dsimp only at e; omega) (by omega)
          have hbw : b < w.heap.size := hb
          replace c0 := (hb1.cell (p := ⟨b, off + j * 3, none⟩) (by dsimp only; omega)).trans c0
          replace c1 := (hb1.cell (p := ⟨b, off + j * 3 + 1, none⟩) (by dsimp only; omega)).trans c1
          replace c2 := (hb1.cell (p := ⟨b, off + j * 3 + 2, none⟩) (by dsimp only; omega)).trans c2
          replace BC := BC.trans (hb1.mono (by omega))
          clear hb1 hg1
          refine hK.out _ _ ⟨TY, c0, c1, c2⟩ (fun hHeld2 => ?_)
          clear hK K hHeld
          have hHeld := hHeld2
          clear hHeld2
          try simp only [Act.put, List.setIfInBounds_toArray, List.set_cons_zero, List.set_cons_succ]
          refine take_E 13 43 (v := ?_) rfl rfl (by kernel_rfl) (by kernel_rfl) (by kernel_rfl) (by kernel_rfl) (fun _ _ _ h => h) (Or.inl ⟨by rfl, ?_⟩) hHeld ?_
          rotate_left
          · intro w' hSw; (try dsimp only at hSw); obtain ⟨hY_, k0, k1, k2⟩ := hSw; have d0 := hY_.at 0 rfl; have d1 := hY_.at 1 rfl; have d2 := hY_.at 2 rfl; go_simp; try with_reducible rfl
          try simp only [Act.put]
          refine last_E (by kernel_rfl) rfl (by kernel_rfl) (fun K hK => ?_)
          refine stepB 59 _ _ (w.heap.size + 1) 0 [.int .i64 y.1, .slice y.2.1.1 y.2.1.2.2.length y.2.1.2.1, .int .i64 y.2.2] [.int .i64 kd, .slice na x.2.1.2.2.length nc, .int .i64 x.2.2] ie hie TY (by rw [his]; rfl) (by simp) rfl rfl rfl rfl rfl ?_
          try simp only [Act.put]
          obtain ⟨V9, hV9⟩ : ∃ Wz, World.setCells W1 (w.heap.size + 1) 0 [.int .i64 kd, .slice na x.2.1.2.2.length nc, .int .i64 x.2.2] = Wz := ⟨_, rfl⟩
          have TF : Blk (w.heap.size + 1) [.int .i64 kd, .slice na x.2.1.2.2.length nc, .int .i64 x.2.2] V9 := by rw [← hV9]; exact TY.sets [.int .i64 kd, .slice na x.2.1.2.2.length nc, .int .i64 x.2.2] rfl
          have RF : Blk w.heap.size [.int .i64 0, .slice none 0 0, .int .i64 0] V9 := by rw [← hV9]; exact Blk.farS (by omega) [.int .i64 kd, .slice na x.2.1.2.2.length nc, .int .i64 x.2.2] 0 _ RC
          have BF : Below w.heap.size w V9 := by rw [← hV9]; exact below_sets (by omega) [.int .i64 kd, .slice na x.2.1.2.2.length nc, .int .i64 x.2.2] 0 _ BC
          have oF : OwT (w.heap.size + 2) V9 (kd, (na, nc, x.2.1.2.2), x.2.2) := by
            rw [← hV9]
            have h_ : OwT (w.heap.size + 2) W1 (kd, (na, nc, x.2.1.2.2), x.2.2) := by
              show W1.ownsRow (w.heap.size + 2) 3 1 (.slice na x.2.1.2.2.length nc) x.2.1.2.2.length (x.2.1.2.2.map (Value.int .i64))
              exact ho1
            exact OwT.far h_ (sets_grown (w.heap.size + 1) [.int .i64 kd, .slice na x.2.1.2.2.length nc, .int .i64 x.2.2] 0 _) (by omega)
          rw [hV9]
          have HR := HG.out (kd, (na, nc, x.2.1.2.2), x.2.2) true V9 (by rw [HQ.out, ← HKD.out]; rfl) TF RF oF BF
          clear HG HQ TF RF oF BF TY RC BC hV9 c0 c1 c2 oy ho0 ho1 hD2
          refine hK.out _ _ ?_
          clear hK K hHeld
          go_wp2
          go_roundw
          case rel => exact HR
          case measure => simp [intOf]; omega
        | true =>
          have hA2 : okP p = true ∧ p.1 = kd := by unfold AccOk at hA; rwa [if_pos rfl] at hA
          have hp : stT y = p := HY.out
          have HQ : Hid (stepK kd (p, true) (stT x) = (joinP (stT y) (stT x), true)) := by show _ = _; rw [HP.out, hp]; rfl
          have hoy : okP (stT y) = true := by rw [hp]; exact hA2.1
          have hyk : x.1 = y.1 := by have h1 : (stT y).1 = kd := by rw [hp]; exact hA2.2
                                     exact HKD.out.trans h1.symm
          have HHY : Hid (okP (stT y) = true ∧ x.1 = y.1) := ⟨hoy, hyk⟩
          clear HP HY hA hA2 hp hoy hyk
          go_wp2_with fail
          replace TY := TY.drew
          replace RC := RC.drew
          replace BC := BC.drew
          replace hD2 : DpT wr.drew x := hD2
          replace oy : OwT (w.heap.size + 2) wr.drew y := oy
          replace c0 : wr.drew.cell? ⟨b, off + j * 3, none⟩ = _ := c0
          replace c1 : wr.drew.cell? ⟨b, off + j * 3 + 1, none⟩ = _ := c1
          replace c2 : wr.drew.cell? ⟨b, off + j * 3 + 2, none⟩ = _ := c2
          refine drew_E 6 ((fun Vw => Blk (w.heap.size + 1) [.int .i64 y.1, .slice y.2.1.1 y.2.1.2.2.length y.2.1.2.1, .int .i64 y.2.2] Vw ∧ Vw.cell? ⟨b, off + j * 3, none⟩ = some (.int .i64 x.1) ∧ Vw.cell? ⟨b, off + j * 3 + 1, none⟩ = some (.slice x.2.1.1 x.2.1.2.2.length x.2.1.2.1) ∧ Vw.cell? ⟨b, off + j * 3 + 2, none⟩ = some (.int .i64 x.2.2))) (by kernel_rfl) ⟨TY, c0, c1, c2⟩ (fun hHeld => ?_)
          refine take_E 0 24 (v := ?_) rfl rfl (by kernel_rfl) (by kernel_rfl) (by kernel_rfl) (by kernel_rfl) (fun _ _ _ h => h) (Or.inl ⟨by rfl, ?_⟩) hHeld ?_
          rotate_left
          · intro w' hSw; (try dsimp only at hSw); obtain ⟨hY_, k0, k1, k2⟩ := hSw; have d0 := hY_.at 0 rfl; have d1 := hY_.at 1 rfl; have d2 := hY_.at 2 rfl; go_simp; try with_reducible rfl
          try simp only [Act.put, List.setIfInBounds_toArray, List.set_cons_zero, List.set_cons_succ]
          refine take_E 1 25 (v := ?_) rfl rfl (by kernel_rfl) (by kernel_rfl) (by kernel_rfl) (by kernel_rfl) (fun _ _ _ h => h) (Or.inl ⟨by rfl, ?_⟩) hHeld ?_
          rotate_left
          · intro w' hSw; (try dsimp only at hSw); obtain ⟨hY_, k0, k1, k2⟩ := hSw; have d0 := hY_.at 0 rfl; have d1 := hY_.at 1 rfl; have d2 := hY_.at 2 rfl; go_simp; try with_reducible rfl
          try simp only [Act.put, List.setIfInBounds_toArray, List.set_cons_zero, List.set_cons_succ]
          refine take_E 2 26 (v := ?_) rfl rfl (by kernel_rfl) (by kernel_rfl) (by kernel_rfl) (by kernel_rfl) (fun _ _ _ h => h) (Or.inl ⟨by rfl, ?_⟩) hHeld ?_
          rotate_left
          · intro w' hSw; (try dsimp only at hSw); obtain ⟨hY_, k0, k1, k2⟩ := hSw; have d0 := hY_.at 0 rfl; have d1 := hY_.at 1 rfl; have d2 := hY_.at 2 rfl; go_simp; try with_reducible rfl
          try simp only [Act.put, List.setIfInBounds_toArray, List.set_cons_zero, List.set_cons_succ]
          refine take_E 3 27 (v := ?_) rfl rfl (by kernel_rfl) (by kernel_rfl) (by kernel_rfl) (by kernel_rfl) (fun _ _ _ h => h) (Or.inl ⟨by rfl, ?_⟩) hHeld ?_
          rotate_left
          · intro w' hSw; (try dsimp only at hSw); obtain ⟨hY_, k0, k1, k2⟩ := hSw; have d0 := hY_.at 0 rfl; have d1 := hY_.at 1 rfl; have d2 := hY_.at 2 rfl; go_simp; try with_reducible rfl
          try simp only [Act.put, List.setIfInBounds_toArray, List.set_cons_zero, List.set_cons_succ]
          refine take_E 4 28 (v := ?_) rfl rfl (by kernel_rfl) (by kernel_rfl) (by kernel_rfl) (by kernel_rfl) (fun _ _ _ h => h) (Or.inl ⟨by rfl, ?_⟩) hHeld ?_
          rotate_left
          · intro w' hSw; (try dsimp only at hSw); obtain ⟨hY_, k0, k1, k2⟩ := hSw; have d0 := hY_.at 0 rfl; have d1 := hY_.at 1 rfl; have d2 := hY_.at 2 rfl; go_simp; try with_reducible rfl
          try simp only [Act.put, List.setIfInBounds_toArray, List.set_cons_zero, List.set_cons_succ]
          refine one_E 5 (by kernel_rfl) rfl (fun K hK => ?_)
          go_simp
          refine ((meet_spec y x _ oy.dp hD2 HHY.out.1 hO HHY.out.2)).mono ?_
          rintro en W2 ⟨z, rfl, hz, oz, hb2⟩
          have hsd : w.heap.size + 2 ≤ wr.drew.heap.size := TY.lt
          replace TY := TY.later hb2 TY.lt
          replace RC := RC.later hb2 RC.lt
          replace c0 := (hb2.cell (p := ⟨b, off + j * 3, none⟩) (Nat.lt_of_lt_of_le hb BC.size)).trans c0
          replace c1 := (hb2.cell (p := ⟨b, off + j * 3 + 1, none⟩) (Nat.lt_of_lt_of_le hb BC.size)).trans c1
          replace c2 := (hb2.cell (p := ⟨b, off + j * 3 + 2, none⟩) (Nat.lt_of_lt_of_le hb BC.size)).trans c2
          have hs2 := hb2.size
          replace BC := BC.trans (hb2.mono BC.size)
          clear hb2
          go_wp2_with fail
          refine hK.out _ _ ⟨TY, c0, c1, c2⟩ (fun hHeld2 => ?_)
          clear hK K hHeld
          have hHeld := hHeld2
          clear hHeld2
          try simp only [Act.put, List.setIfInBounds_toArray, List.set_cons_zero, List.set_cons_succ]
          refine last_E (by kernel_rfl) rfl (by kernel_rfl) (fun K hK => ?_)
          refine stepB 59 _ _ (w.heap.size + 1) 0 [.int .i64 y.1, .slice y.2.1.1 y.2.1.2.2.length y.2.1.2.1, .int .i64 y.2.2] [.int .i64 z.1, .slice z.2.1.1 z.2.1.2.2.length z.2.1.2.1, .int .i64 z.2.2] ie hie TY (by rw [his]; rfl) (by simp) rfl rfl rfl rfl rfl ?_
          try simp only [Act.put, List.setIfInBounds_toArray]
          obtain ⟨V9, hV9⟩ : ∃ Wz, World.setCells W2 (w.heap.size + 1) 0 [.int .i64 z.1, .slice z.2.1.1 z.2.1.2.2.length z.2.1.2.1, .int .i64 z.2.2] = Wz := ⟨_, rfl⟩
          have TF : Blk (w.heap.size + 1) [.int .i64 z.1, .slice z.2.1.1 z.2.1.2.2.length z.2.1.2.1, .int .i64 z.2.2] V9 := by rw [← hV9]; exact TY.sets [.int .i64 z.1, .slice z.2.1.1 z.2.1.2.2.length z.2.1.2.1, .int .i64 z.2.2] rfl
          have RF : Blk w.heap.size [.int .i64 0, .slice none 0 0, .int .i64 0] V9 := by rw [← hV9]; exact Blk.farS (by omega) [.int .i64 z.1, .slice z.2.1.1 z.2.1.2.2.length z.2.1.2.1, .int .i64 z.2.2] 0 _ RC
          have BF : Below w.heap.size w V9 := by rw [← hV9]; exact below_sets (by omega) [.int .i64 z.1, .slice z.2.1.1 z.2.1.2.2.length z.2.1.2.1, .int .i64 z.2.2] 0 _ BC
          have oF : OwT (w.heap.size + 2) V9 z := by rw [← hV9]; exact OwT.le (OwT.far oz (sets_grown (w.heap.size + 1) [.int .i64 z.1, .slice z.2.1.1 z.2.1.2.2.length z.2.1.2.1, .int .i64 z.2.2] 0 _) (by omega)) (by omega)
          rw [hV9]
          have HR := HG.out z true V9 (by rw [HQ.out, hz]) TF RF oF BF
          clear HG HQ TF RF oF BF TY RC BC hV9 c0 c1 c2 oy oz
          refine hK.out _ _ ?_
          clear hK K hHeld
          go_wp2
          go_roundw
          case rel => exact HR
          case measure => simp [intOf]; omega
      · have hkb : (x.1 != kd) = true := by simpa using hk
        have HP : Hid (stepK kd (p, b0) (stT x) = (p, b0)) := by show _ = _; unfold stepK; rw [if_neg (show ¬ (stT x).1 = kd from hk)]
        have HR := HG.out y b0 wr (by rw [HP.out]; exact congrArg (·, b0) HY.out.symm) TY RC oy BC
        have HKD : Hid (¬ x.1 = kd) := hk
        clear hk HG HP TY RC oy BC
        go_wp2
        go_roundw
        case rel => exact HR
        case measure => simp [intOf]; omega
    · obtain rfl : j = xs.length := by omega
      have hlt2 : ¬ (xs.length : Int) < (xs.length : Int) := by omega
      obtain ⟨V4, hV4⟩ : ∃ Z, World.setCells wr w.heap.size 0 [.int .i64 y.1, .slice y.2.1.1 y.2.1.2.2.length y.2.1.2.1, .int .i64 y.2.2] = Z := ⟨_, rfl⟩
      have TF : Blk w.heap.size [.int .i64 y.1, .slice y.2.1.1 y.2.1.2.2.length y.2.1.2.1, .int .i64 y.2.2] V4 := by rw [← hV4]; exact RC.sets [.int .i64 y.1, .slice y.2.1.1 y.2.1.2.2.length y.2.1.2.1, .int .i64 y.2.2] rfl
      have BF : Below w.heap.size w V4 := by rw [← hV4]; exact below_sets (Nat.le_refl _) [.int .i64 y.1, .slice y.2.1.1 y.2.1.2.2.length y.2.1.2.1, .int .i64 y.2.2] 0 _ BC
      have oF : OwT (w.heap.size + 2) V4 y := by rw [← hV4]; exact OwT.far oy (sets_grown w.heap.size [.int .i64 y.1, .slice y.2.1.1 y.2.1.2.2.length y.2.1.2.1, .int .i64 y.2.2] 0 _) (by omega)
      have hbb : (ofK kd ((xs.map stT).take xs.length)).2 = fin.2 := by rw [HF.out]
      rw [hbb]
      have HY2 : Hid (stT y = fin.1) := by show _ = _; rw [HF.out]; exact HY.out
      obtain ⟨fb, hfb⟩ : ∃ fb, fin.2 = fb := ⟨_, rfl⟩
      have HFB : Hid (fin.2 = fb) := hfb
      rw [hfb]
      clear hbb hfb HY HF hacc hall oy
      have u0 := TY.at 0 rfl
      have u1 := TY.at 1 rfl
      have u2 := TY.at 2 rfl
      go_wp2_with (first | (refine wpList_stB 59 _ _ (w.heap.size) 0 [.int .i64 0, .slice none 0 0, .int .i64 0] [.int .i64 y.1, .slice y.2.1.1 y.2.1.2.2.length y.2.1.2.1, .int .i64 y.2.2] ie hie RC (by rw [his]; rfl) (by simp) rfl rfl rfl rfl rfl ?_; try simp only [Act.put]; rw [hV4]) | fail)
      exact bodyPost_ret (res_B2 rfl _ _ w.heap.size [.int .i64 y.1, .slice y.2.1.1 y.2.1.2.2.length y.2.1.2.1, .int .i64 y.2.2] (.bool fb) ie hie (Try.isAgg59) TF his.symm rfl rfl) rfl ⟨⟨y, by rw [HFB.out], HY2.out, oF.le (by omega)⟩, BF⟩
end Go.Proofs.Ytjbbhegijlnndaa.Nd
