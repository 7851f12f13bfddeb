/- TlvFind as the program has it. -/
import Derived.Test.YtengggpobhibcaaTf2
import Derived.Test.YtengggpobhibcaaOk1
import Derived.Test.YtengggpobhibcaaClone
set_option linter.unusedVariables false
set_option maxRecDepth 100000
namespace Go.Proofs.Ytengggpobhibcaa.Nd
open Go Go.RowKit Go.Joins Own Draw Var

theorem stepB2 {P : Program} {ops : Array Oper} {o : Oper} {a : Act} {w : World} {K : Act → World → Prop} {Q : Exit → Act → World → Prop} {E : Prop} (ty : TypeId) (x y : Operand) (g off : Nat) (us vs : List Value) (ie : TypeInfo) (hie : P.info? ty = some ie) (h : Blk g us w) (hs : vs.length = ie.size) (hl : off + vs.length ≤ us.length) (h1 : vs.all (·.oneCell') = true)
    (hgd : o.guard = none) (ho : o.op = .store ty x y) (hx : a.eval x = .pointer (some ⟨g, off, none⟩)) (hy : a.eval y = .agg vs.toArray) (hd : o.dst = none)
    (hn : K a (w.setCells g off vs)) : if Region.wanted o (yielded ops a.tmps) = true then Oper.wp P o a w K Q else E := by
  rw [if_pos (by simp [Region.wanted, hgd])]
  unfold Oper.wp execOp
  simp only [ho, hx, hy, Instr.storeAt, Instr.sureAddr, Sem.run_bind, Sem.run_pure, Result.andThen_ok, stB ty ie hie vs h hs hl h1]
  have hn2 : K (a.put o.dst undef) (w.setCells g off vs) := by rw [hd]; exact hn
  exact hn2
theorem stepL {P : Program} {ops : Array Oper} {o : Oper} {a : Act} {w : World} {K : Act → World → Prop} {Q : Exit → Act → World → Prop} {E : Prop} (ty : TypeId) (x : Operand) (g off : Nat) (v : Value) (hl : LdV P ty g off v w) (d : Nat) (hd : o.dst = some d)
    (hgd : o.guard = none) (ho : o.op = .load ty x) (hx : a.eval x = .pointer (some ⟨g, off, none⟩))
    (hn : K (a.put (some d) v) w) : if Region.wanted o (yielded ops a.tmps) = true then Oper.wp P o a w K Q else E := by
  rw [if_pos (by simp [Region.wanted, hgd])]
  unfold Oper.wp execOp
  simp only [ho, hx, Instr.loadAt, Instr.sureAddr, Sem.run_bind, Sem.run_pure, Result.andThen_ok, hl.out]
  rw [← hd] at hn
  exact hn
set_option maxHeartbeats 6400000 in
theorem implFind_is (a : Option Addr) (ca : Nat) (xs : List TT) (pa : Option Addr) (pc : Nat) (p : List Int) (w : World) (hr : RpT w (a, ca, xs)) (hrt : rtT (a, ca, xs) ≤ 1048576) (hp : RowAt (Value.int .i64) w pa p) (hpl : p.length ≤ 1048576) :
    Calls Try.prog 6 #[.slice a xs.length ca, .slice pa p.length pc] w fun e w' => e = .returned (.tuple #[.string (fdF (xs.map stT) p).1, .bool (fdF (xs.map stT) p).2]) ∧ Below w.heap.size w w' := by
  obtain ⟨it, hit, hits⟩ := info_T
  have hkl := (rt_parts hrt).2.2.1
  have hdl := (rt_parts hrt).2.1
  obtain ⟨V1, hV1⟩ : ∃ V, w.alloc (.cells #[.slice a xs.length ca] 24) = V := ⟨_, rfl⟩
  have TM : Blk w.heap.size [.slice a xs.length ca] V1 := by rw [← hV1]; exact Blk.new _ _ _
  have B1 : Below w.heap.size w V1 := by rw [← hV1]; exact (Below.refl _ _).alloc (Nat.le_refl _) _
  have K1 := implOk_is a ca xs V1 (RpT.later hr B1) hrt
  have m0 := TM.at 0 rfl
  obtain ⟨z, hz⟩ : ∃ z, (shM (xs.map stT)).isSome = z := ⟨_, rfl⟩
  rw [hz] at K1
  have HF : Hid (fdF (xs.map stT) p = if z = true then anO (xs.map stT) (gpN (xs.map stT) p (xs.length - 1)) else (⟨#[]⟩, false)) := by show _ = _; unfold fdF; rw [hz, List.length_map]
  go_enter Try.func6, Try.ntmps6
  go_wp2_with fail
  try rw [hV1]
  refine K1.mono ?_
  clear K1
  rintro e w1 ⟨rfl, b1⟩
  have TM1 := TM.later b1 TM.lt
  have BB1 := B1.trans (b1.mono B1.size)
  have hMlt : w.heap.size < w1.heap.size := TM1.lt
  have m1 := TM1.at 0 rfl
  clear hV1 TM B1 b1 m0
  cases z with
  | false =>
    clear hz
    go_wp2
    go_ret2
    exact ⟨ended2 (show ((⟨#[]⟩ : ByteArray), false) = fdF (xs.map stT) p from HF.out.symm), BB1⟩
  | true =>
    obtain ⟨hlen, hK⟩ := ok_kids hz
    have HF2 : Hid (fdF (xs.map stT) p = anO (xs.map stT) (gpN (xs.map stT) (p.drop 0) (xs.length - 1))) := HF.out.trans (by rw [if_pos rfl]; rfl)
    clear hz HF
    have hl1 : (xs.length : Int) - 1 = ((xs.length - 1 : Nat) : Int) := by omega
    have hil : ((xs.length - 1 : Nat) : Int) < (xs.length : Int) := by omega
    have hi : xs.length - 1 < xs.length := by omega
    have hrow := (RpT.later hr BB1).1
    dsimp only at hrow
    obtain ⟨bb, oo, ea, ll, hcc⟩ := hrow (xs.length - 1) hi
    subst ea
    have ld1 := ld_T it hit hits hcc
    obtain ⟨V2, hV2⟩ : ∃ Y, w1.alloc (.cells #[.int .i64 0, .bool false, .string ⟨#[]⟩, .slice none 0 0] 31) = Y := ⟨_, rfl⟩
    have TG0 : Blk w1.heap.size [.int .i64 0, .bool false, .string ⟨#[]⟩, .slice none 0 0] V2 := by rw [← hV2]; exact Blk.new _ _ _
    have B2 : Below w1.heap.size w1 V2 := by rw [← hV2]; exact (Below.refl _ _).alloc (Nat.le_refl _) _
    generalize hn1 : xs.length - 1 = n1 at *
    obtain ⟨V3, hV3⟩ : ∃ Y, V2.setCells w1.heap.size 0 (cT xs[n1]) = Y := ⟨_, rfl⟩
    have TG : Blk w1.heap.size (cT xs[n1]) V3 := by rw [← hV3]; exact TG0.sets _ rfl
    have B3 : Below w1.heap.size w1 V3 := by rw [← hV3]; exact below_sets (Nat.le_refl _) _ _ _ B2
    have TM3 := TM1.later B3 hMlt
    have BB3 := BB1.trans (B3.mono BB1.size)
    generalize hG : w1.heap.size = G at *
    clear hcc hrow
    go_wp2_with (first | (refine wpList_ldV 31 _ bb (oo + n1 * 4) _ ld1 rfl rfl rfl ?_) | (refine wpList_stB 31 _ _ G 0 _ (cT xs[n1]) it hit TG0 hits.symm (by simp) rfl rfl rfl rfl rfl ?_; rw [hV3]))
    go_loopw [21] (fun v wr => ∃ (i j : Nat) (h : i < xs.length), v = .int .i64 (j : Int) ∧ j ≤ p.length ∧ Hid (fdF (xs.map stT) p = anO (xs.map stT) (gpN (xs.map stT) (p.drop j) i)) ∧ Blk w.heap.size [.slice (some ⟨bb, oo, none⟩) xs.length ca] wr ∧ Blk G (cT xs[i]) wr ∧ Below w.heap.size w wr) (fun v _ => p.length - (intOf v).toNat)
    case atStart => exact ⟨n1, 0, hi, rfl, by omega, HF2, TM3, TG, BB3⟩
    case round =>
      clear HF2 TM3 TG BB3 ld1 TG0 hV2 hV3 B2 B3 TM1 m1
      obtain ⟨i, j, hix, rfl, hj, HF, TM, TG, hb⟩ := hrel
      have m0 := TM.at 0 rfl
      have g1 := TG.at 1 rfl
      have g2 := TG.at 2 rfl
      have g3 := TG.at 3 rfl
      by_cases hlt : j < p.length
      · obtain ⟨pb, po, epa, pl, pcl⟩ := (RowAt.later hp hb) j hlt
        have hjl : (j : Int) < (p.length : Int) := by omega
        subst epa
        have HG : Hid (gpN (xs.map stT) (p.drop j) i = match fkN (xs.map stT) p[j] xs[i].2.2.2.2.2 with | none => none | some k => gpN (xs.map stT) (p.drop (j + 1)) k.toNat) := by
          show _ = _
          rw [gp_step hlt, nd_map hix]
          rfl
        generalize hpj : p[j] = t at *
        obtain ⟨A1, hA1⟩ : ∃ Y, wr.alloc (.cells #[.int .i64 0] 3) = Y := ⟨_, rfl⟩
        have TT0 : Blk wr.heap.size [.int .i64 0] A1 := by rw [← hA1]; exact Blk.new _ _ _
        have BA1 : Below wr.heap.size wr A1 := by rw [← hA1]; exact (Below.refl _ _).alloc (Nat.le_refl _) _
        obtain ⟨A2, hA2⟩ : ∃ Y, A1.setCell ⟨wr.heap.size, 0, none⟩ (.int .i64 t) = Y := ⟨_, rfl⟩
        have TT1 : Blk wr.heap.size [.int .i64 t] A2 := by rw [← hA2]; exact TT0.set 0 _
        have BA2 : Below wr.heap.size wr A2 := by rw [← hA2]; exact BA1.setCell (Nat.le_refl _) _
        have tt0 := TT0.at 0 rfl
        have ttf := TT0.fz 0 rfl
        have k3 := (TG.later BA2 TG.lt).at 3 rfl
        have KI := idx_is w.heap.size wr.heap.size bb oo ca xs i (by omega) hlen.2 t xs[i].2.2.2.1 xs[i].2.2.2.2.1 xs[i].2.2.2.2.2 (hK i hix).2 A2 (Nat.lt_of_lt_of_le TM.lt BA2.size) TT1.lt ((TM.later BA2 TM.lt).at 0 rfl) (TT1.at 0 rfl) (FRow.later (RpT.later hr hb).1 BA2) (RowAt.later ((RpT.later hr hb).2 xs[i] (List.getElem_mem hix)) BA2) (hkl xs[i] (List.getElem_mem hix))
        go_wp2_with fail
        refine KI.mono ?_
        clear KI
        rintro e w2 ⟨hix2, b2⟩
        have BB2 : Below wr.heap.size wr w2 := BA2.trans (b2.mono BA2.size)
        have TM2 := TM.later BB2 TM.lt
        have TG2 := TG.later BB2 TG.lt
        have hb2 := hb.trans (BB2.mono hb.size)
        have hr2 := RpT.later hr hb2
        clear BA1 BA2 TT0 TT1 hA1 hA2 tt0 ttf k3 m0 g1 g2 g3 TM TG b2 BB2 pcl
        rcases hix2 with ⟨hf, rfl⟩ | ⟨jx, hjx, hf, rfl⟩
        · have HE : Hid (fdF (xs.map stT) p = (⟨#[]⟩, false)) := by show _ = _; rw [HF.out, HG.out, hf]; rfl
          clear hf HG HF
          go_wp2
          go_ret2
          exact ⟨ended2 (show ((⟨#[]⟩ : ByteArray), false) = fdF (xs.map stT) p from HE.out.symm), hb2⟩
        · obtain ⟨kb, ko, eka, kl, kcl⟩ := (hr2.2 xs[i] (List.getElem_mem hix)) jx hjx
          have hkk := (hK i hix).2 xs[i].2.2.2.2.2[jx] (List.getElem_mem hjx)
          obtain ⟨m, em⟩ : ∃ m : Nat, xs[i].2.2.2.2.2[jx] = (m : Int) := ⟨(xs[i].2.2.2.2.2[jx]).toNat, by omega⟩
          have hmx : m < xs.length := by omega
          have hml : (m : Int) < (xs.length : Int) := by omega
          have hjxl : (jx : Int) < (xs[i].2.2.2.2.2.length : Int) := by omega
          rw [em] at kcl hf
          have HE : Hid (fdF (xs.map stT) p = anO (xs.map stT) (gpN (xs.map stT) (p.drop (j + 1)) m)) := by show _ = _; rw [HF.out, HG.out, hf]; rfl
          obtain ⟨b3, o3, ea3, l3, cc⟩ := hr2.1 m hmx
          have eb : b3 = bb ∧ o3 = oo := by injection ea3 with h; injection h with h1 h2; exact ⟨h1.symm, h2.symm⟩
          obtain ⟨rfl, rfl⟩ := eb
          have ld3 := ld_T it hit hits (U := w2.drew) cc
          obtain ⟨D, hD⟩ : ∃ Y, w2.drew = Y := ⟨_, rfl⟩
          have TGD : Blk G (cT xs[i]) D := by rw [← hD]; exact TG2.drew
          have TMD : Blk w.heap.size [.slice (some ⟨b3, o3, none⟩) xs.length ca] D := by rw [← hD]; exact TM2.drew
          have dg3 := TGD.at 3 rfl
          have kcD : D.cell? ⟨kb, ko + jx, none⟩ = some (.int .i64 (m : Int)) := by rw [← hD]; exact kcl
          have hbD : Below w.heap.size w D := by rw [← hD]; exact hb2.drew
          rw [hD] at ld3
          clear hf HG HF em hkk cc ea3 TM2 TG2 kcl
          generalize hxi : xs[i] = x at *
          obtain ⟨f0, f1, f2, ka, kc, ks⟩ := x
          dsimp only at *
          subst eka
          obtain ⟨E1, hE1⟩ : ∃ Y, D.setCells G 0 (cT xs[m]) = Y := ⟨_, rfl⟩
          have TGE : Blk G (cT xs[m]) E1 := by rw [← hE1]; exact TGD.sets _ rfl
          have BE : Below G D E1 := by rw [← hE1]; exact below_sets (Nat.le_refl _) _ _ _ (Below.refl _ _)
          have TME := TMD.lower BE hMlt
          have hbE : Below w.heap.size w E1 := hbD.trans (BE.mono (Nat.le_of_lt hMlt))
          go_wp2_with fail
          refine wp_region_held_drew (S := (fun w' : World => Blk w.heap.size [.slice (some ⟨b3, o3, none⟩) xs.length ca] w')) (by kernel_rfl) (by rw [hD]; exact TMD) (fun hHeld => ?_)
          rw [hD] at hHeld ⊢
          clear hD
          refine take_one 0 31 (v := ?_) rfl rfl (by kernel_rfl) (by kernel_rfl) (by kernel_rfl) (fun _ _ _ h => h) (Or.inl ⟨by rfl, ?_⟩) hHeld ?_
          rotate_left
          · intro w' hSw; (try dsimp only at hSw); have c0 := hSw.at 0 rfl; go_simp; try with_reducible rfl
          try simp only [Act.put, List.setIfInBounds_toArray, List.set_cons_zero, List.set_cons_succ]
          refine take_one 1 32 (v := ?_) rfl rfl (by kernel_rfl) (by kernel_rfl) (by kernel_rfl) (fun _ _ _ h => h) (Or.inl ⟨by rfl, ?_⟩) hHeld ?_
          rotate_left
          · intro w' hSw; (try dsimp only at hSw); go_simp; try with_reducible rfl
          try simp only [Act.put, List.setIfInBounds_toArray, List.set_cons_zero, List.set_cons_succ]
          refine take_one 3 34 (v := ?_) rfl rfl (by kernel_rfl) (by kernel_rfl) (by kernel_rfl) (fun _ _ _ h => h) (Or.inl ⟨by rfl, ?_⟩) hHeld ?_
          rotate_left
          · intro w' hSw; (try dsimp only at hSw); go_simp; try with_reducible rfl
          try simp only [Act.put, List.setIfInBounds_toArray, List.set_cons_zero, List.set_cons_succ]
          refine wpAnyH_ready (rs := [2]) (by kernel_rfl) (by simp) ?_
          refine AllReadyH.cons (i := 2) rfl (fun K hK => ?_) AllReadyH.nil
          go_simp
          refine hK.out _ _ hHeld (fun hHeld2 => ?_)
          clear hK K hHeld
          have hHeld := hHeld2
          clear hHeld2
          try simp only [Act.put, List.setIfInBounds_toArray, List.set_cons_zero, List.set_cons_succ]
          refine take_one 4 35 (v := ?_) rfl rfl (by kernel_rfl) (by kernel_rfl) (by kernel_rfl) (fun _ _ _ h => h) (Or.inl ⟨by rfl, ?_⟩) hHeld ?_
          rotate_left
          · intro w' hSw; (try dsimp only at hSw); go_simp; try with_reducible rfl
          try simp only [Act.put, List.setIfInBounds_toArray, List.set_cons_zero, List.set_cons_succ]
          refine wpAnyH_ready (rs := [5]) (by kernel_rfl) (by simp) ?_
          refine AllReadyH.cons (i := 5) rfl (fun K hK => ?_) AllReadyH.nil
          go_simp
          refine hK.out _ _ hHeld (fun hHeld2 => ?_)
          clear hK K hHeld
          have hHeld := hHeld2
          clear hHeld2
          try simp only [Act.put, List.setIfInBounds_toArray, List.set_cons_zero, List.set_cons_succ]
          refine take_one 6 37 (v := ?_) rfl rfl (by kernel_rfl) (by kernel_rfl) (by kernel_rfl) (fun _ _ _ h => h) (Or.inl ⟨by rfl, ?_⟩) hHeld ?_
          rotate_left
          · intro w' hSw; (try dsimp only at hSw); go_simp; try with_reducible rfl
          try simp only [Act.put, List.setIfInBounds_toArray, List.set_cons_zero, List.set_cons_succ]
          refine wpAnyH_ready (rs := [7]) (by kernel_rfl) (by simp) ?_
          refine AllReadyH.cons (i := 7) rfl (fun K hK => ?_) AllReadyH.nil
          refine stepL 31 _ b3 (o3 + m * 4) _ ld3 38 rfl rfl rfl rfl ?_
          refine hK.out _ _ hHeld (fun hHeld2 => ?_)
          clear hK K hHeld
          have hHeld := hHeld2
          clear hHeld2
          try simp only [Act.put, List.setIfInBounds_toArray, List.set_cons_zero, List.set_cons_succ]
          refine wpAnyH_ready (rs := [8]) (by kernel_rfl) (by simp) ?_
          refine AllReadyH.cons (i := 8) rfl (fun K hK => ?_) AllReadyH.nil
          refine stepB2 31 _ _ G 0 _ (cT xs[m]) it hit TGD hits.symm (by simp) rfl rfl rfl rfl rfl rfl ?_
          rw [hE1]
          refine hK.out _ _ TME (fun hHeld2 => ?_)
          clear hK K hHeld
          have hHeld := hHeld2
          clear hHeld2
          try simp only [Act.put, List.setIfInBounds_toArray, List.set_cons_zero, List.set_cons_succ]
          refine wpAnyH_done (by kernel_rfl) ?_ _
          go_wp2
          go_roundw
          case rel => exact ⟨m, j + 1, hmx, by go_num, by omega, HE, hHeld, TGE, hbE⟩
          case measure => simp [intOf]; omega
      · have hjl : ¬ (j : Int) < (p.length : Int) := by omega
        have hdx := hdl xs[i] (List.getElem_mem hix)
        have HE : Hid (fdF (xs.map stT) p = (xs[i].2.2.1, xs[i].2.1)) := by
          show _ = _
          rw [HF.out, List.drop_of_length_le (by omega)]
          show (if (ndN (xs.map stT) i).2.1 = true then ((ndN (xs.map stT) i).2.2.1, true) else ((⟨#[]⟩ : ByteArray), false)) = _
          rw [nd_map hix]
          have h3 := (hK i hix).1.2.2
          show (if xs[i].2.1 = true then (xs[i].2.2.1, true) else ((⟨#[]⟩ : ByteArray), false)) = _
          generalize xs[i].2.2.1 = da at *
          generalize xs[i].2.1 = lf at *
          cases lf with
          | true => rfl
          | false =>
            have : da = ⟨#[]⟩ := Classical.byContradiction fun c => h3 ⟨rfl, c⟩
            rw [if_neg (by decide), this]
        clear HF m0 g1 g2 g3 TM
        generalize hxi : xs[i] = x at *
        obtain ⟨f0, f1, f2, ka, kc, ks⟩ := x
        dsimp only at *
        have hbD := hb.drew
        go_wp2_with fail
        refine wp_region_held_drew (S := (fun w' : World => Blk G (cT (f0, f1, f2, ka, kc, ks)) w')) (by kernel_rfl) TG.drew (fun hHeld => ?_)
        refine take_one 0 40 (v := ?_) rfl rfl (by kernel_rfl) (by kernel_rfl) (by kernel_rfl) (fun _ _ _ h => h) (Or.inl ⟨by rfl, ?_⟩) hHeld ?_
        rotate_left
        · intro w' hSw; (try dsimp only at hSw); go_simp; try with_reducible rfl
        try simp only [Act.put, List.setIfInBounds_toArray, List.set_cons_zero, List.set_cons_succ]
        refine take_one 1 41 (v := ?_) rfl rfl (by kernel_rfl) (by kernel_rfl) (by kernel_rfl) (fun _ _ _ h => h) (Or.inl ⟨by rfl, ?_⟩) hHeld ?_
        rotate_left
        · intro w' hSw; (try dsimp only at hSw); have c1 := hSw.at 1 rfl; have c2 := hSw.at 2 rfl; go_simp; try with_reducible rfl
        try simp only [Act.put, List.setIfInBounds_toArray, List.set_cons_zero, List.set_cons_succ]
        refine take_one 3 43 (v := ?_) rfl rfl (by kernel_rfl) (by kernel_rfl) (by kernel_rfl) (fun _ _ _ h => h) (Or.inl ⟨by rfl, ?_⟩) hHeld ?_
        rotate_left
        · intro w' hSw; (try dsimp only at hSw); go_simp; try with_reducible rfl
        try simp only [Act.put, List.setIfInBounds_toArray, List.set_cons_zero, List.set_cons_succ]
        refine take_one 4 44 (v := ?_) rfl rfl (by kernel_rfl) (by kernel_rfl) (by kernel_rfl) (fun _ _ _ h => h) (Or.inl ⟨by rfl, ?_⟩) hHeld ?_
        rotate_left
        · intro w' hSw; (try dsimp only at hSw); have c1 := hSw.at 1 rfl; have c2 := hSw.at 2 rfl; go_simp; try with_reducible rfl
        try simp only [Act.put, List.setIfInBounds_toArray, List.set_cons_zero, List.set_cons_succ]
        refine wpAnyH_ready (rs := [2]) (by kernel_rfl) (by simp) ?_
        refine AllReadyH.cons (i := 2) rfl (fun K hK => ?_) AllReadyH.nil
        go_simp
        refine (Try.strings_Clone f2 _ hdx).mono ?_
        rintro e w2 ⟨rfl, hb2⟩
        go_wp2_with fail
        refine hK.out _ _ (hHeld.later hb2 hHeld.lt) (fun hHeld2 => ?_)
        clear hK K hHeld
        have hHeld := hHeld2
        clear hHeld2
        have hb3 := hbD.trans (hb2.mono hbD.size)
        try simp only [Act.put, List.setIfInBounds_toArray, List.set_cons_zero, List.set_cons_succ]
        refine take_one 5 4 (v := ?_) rfl rfl (by kernel_rfl) (by kernel_rfl) (by kernel_rfl) (fun _ _ _ h => h) (Or.inl ⟨by rfl, ?_⟩) hHeld ?_
        rotate_left
        · intro w' hSw; (try dsimp only at hSw); go_simp; try with_reducible rfl
        try simp only [Act.put, List.setIfInBounds_toArray, List.set_cons_zero, List.set_cons_succ]
        refine take_one 6 5 (v := ?_) rfl rfl (by kernel_rfl) (by kernel_rfl) (by kernel_rfl) (fun _ _ _ h => h) (Or.inl ⟨by rfl, ?_⟩) hHeld ?_
        rotate_left
        · intro w' hSw; (try dsimp only at hSw); go_simp; try with_reducible rfl
        try simp only [Act.put, List.setIfInBounds_toArray, List.set_cons_zero, List.set_cons_succ]
        refine wpAnyH_done (by kernel_rfl) ?_ _
        go_wp2
        go_ret2
        exact ⟨ended2 (show (f2, f1) = fdF (xs.map stT) p from HE.out.symm), hb3⟩
end Go.Proofs.Ytengggpobhibcaa.Nd
