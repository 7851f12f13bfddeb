/- ReadRules of the model. -/
import Derived.Test.YtjbbhegijlnndaaVs1
import Derived.Test.YtjbbhegijlnndaaSh1
import Derived.Test.YtjbbhegijlnndaaJo1
import Derived.Test.YtjbbhegijlnndaaUp3
import Derived.Test.YtjbbhegijlnndaaSm0
set_option linter.unusedVariables false
set_option maxRecDepth 100000
namespace Go.Proofs.Ytjbbhegijlnndaa.Nd
open Go Go.RowKit Go.Joins Own Draw Go.Proofs.Ytjbbhegijlnndaa Go.Proofs.Ytjbbhegijlnndaa.Var

theorem itW_none {s : ByteArray} {a : Nat} : ∀ {i n : Nat}, i ≤ n → itW s a i = none → itW s a n = none
  | i, 0, h, e => by obtain rfl : i = 0 := by omega
                     exact e
  | i, n + 1, h, e => by
    by_cases hin : i = n + 1
    · subst hin; exact e
    · have := itW_none (i := i) (n := n) (by omega) e
      unfold itW
      rw [this]
theorem same_list9 {x y : ByteArray} (h : ¬ x = y) : (x.toList == y.toList) = false := by
  cases e : (x.toList == y.toList) with
  | false => rfl
  | true =>
    have e2 := eq_of_beq e
    rw [ByteArray.toList_eq, ByteArray.toList_eq] at e2
    exact absurd (ext_list e2) h
theorem thr_get {v : List Int} {i : Nat} (h : i < v.length) : thr v i = v[i] := by unfold thr; rw [List.getD_eq_getElem?_getD, List.getElem?_eq_getElem h]; rfl
/-- A cell of a row of numbers that the call owns. -/
theorem own_cell {B : Nat} {w : World} {a : Option Addr} {c : Nat} {v : List Int} (h : w.ownsRow B 3 1 (.slice a v.length c) v.length (v.map (Value.int .i64))) {i : Nat} (hi : i < v.length) : ∃ g, a = some ⟨g, 0, none⟩ ∧ B ≤ g ∧ g < w.heap.size ∧ w.cell? ⟨g, i, none⟩ = some (.int .i64 (thr v i)) := by
  rcases h.2 with ⟨e, e0⟩ | ⟨g, cap', cur, e, hB, hg, _⟩
  · rw [e0] at hi; omega
  · injection e with e1 e2 e3
    subst e1
    have hl := World.ownsRow.lt h g rfl
    refine ⟨g, rfl, hl.1, hl.2, ?_⟩
    rw [h.cellAt i (by simpa using hi), List.getElem?_map, List.getElem?_eq_getElem hi, thr_get hi]
    rfl
def RdQ (f : List PT × Bool) (B : Nat) (e : Ending) (w : World) : Prop := ∃ q : Rw TT, e = .returned (.tuple #[.slice q.1 q.2.2.length q.2.1, .bool f.2]) ∧ rsT q = f.1 ∧ RoT B w q
theorem step_where {P : Program} {ops : Array Oper} {o : Oper} {a : Act} {w : World} {K : Act → World → Prop} {Q : Exit → Act → World → Prop} {E : Prop} (hgd : o.guard = none) (s x : Operand) (t : TypeId)
    (ho : o.op = .call { callee := .builtin .append, args := #[s, x], argTypes := #[t, t] })
    (base : Nat) (e : TypeId) (i : TypeInfo) (z : Value) (size bytes : Nat) (ht : P.underlying t = some (.slice e)) (hi : P.info? e = some i) (hz : i.zero = some z)
    (hsize : i.size = size) (hby : i.bytes = bytes) (hzs : z.cells.size = size) (hsz : 0 < size)
    (v : Value) (n : Nat) (xs : List Value) (hs : a.eval s = v) (hown : w.ownsRow base e size v n xs)
    (ad : Addr) (m c : Nat) (news : List Value) (hx : a.eval x = .slice (some ad) m c) (hl : news.length = m * size) (hnews : ∀ j u, news[j]? = some u → w.cell? (ad.add j) = some u) (h1 : ∀ u ∈ news, u.oneCell' = true)
    (h63 : n + m ≤ maxLen) (hbytes : (n + m) * bytes ≤ 140737488355328) (hbase : base ≤ w.heap.size) (hm : 0 < m)
    (h : ∀ v' w', w'.ownsRow base e size v' (n + m) (xs ++ news) → w.grownBy w' v.ownBlock → (v'.ownBlock = v.ownBlock ∨ v'.ownBlock = some w.heap.size) → K (a.put o.dst v') w') : if Region.wanted o (yielded ops a.tmps) = true then Oper.wp P o a w K Q else E := by
  rw [if_pos (by simp [Region.wanted, hgd])]
  obtain ⟨v', w', hr, ho2, hg, hw⟩ := run_append_where w base t o.type e i z size bytes ht hi hz hsize hby hzs hsz v n xs hown ad m c news hl hnews h1 h63 hbytes hbase hm
  unfold Oper.wp execOp
  simp only [ho, resolve, invoke, builtin, Sem.run_bind, Sem.run_pure, Result.andThen_ok, List.map_toArray, List.map_cons, List.map_nil, hs, hx, hr]
  exact h v' w' ho2 hg hw
set_option maxHeartbeats 12800000 in
theorem specRead_is (s : ByteArray) (w : World) (hs : s.size ≤ 1048576) :
    Calls Try.prog 28 #[.string s] w fun e w' => RdQ (rdS s) w.heap.size e w' ∧ Below w.heap.size w w' := by
  have HE : Hid (rdS s = match itV s 0 1 with | none => ([], false) | some (v, a) => if 20 < thr v 0 then ([], false) else match itW s a (thr v 0).toNat with | none => ([], false) | some x => if showP x.1 = s then (x.1, true) else ([], false)) := (rfl : rdS s = _)
  generalize rdS s = fin at HE ⊢
  obtain ⟨V0, hV0⟩ : ∃ V, w.alloc (.cells #[] 59) = V := ⟨_, rfl⟩
  have BC : Below w.heap.size w V0 := by rw [← hV0]; exact (Below.refl _ _).alloc (Nat.le_refl _) _
  have ro : RoT w.heap.size V0 (some ⟨w.heap.size, 0, none⟩, 0, []) := by rw [← hV0]; exact RoT.lit (Nat.le_refl _)
  have hv0 : w.heap.size < V0.heap.size := by rw [← hV0]; simp
  have hbz := build0_run
  have K := vars_is s 0 1 V0 hs (Nat.zero_le _) (by omega)
  have hcle : ∀ l p, itV s 0 1 = some (l, p) → p ≤ s.size ∧ l.length = 1 ∧ _ := fun l p h => itV_le (Nat.zero_le _) h
  go_enter Try.func28, Try.ntmps28
  go_wp2_with fail
  try rw [hV0]
  refine K.mono ?_
  clear K hV0
  rintro en W1 ⟨⟨va, vc, v, pe, rfl, rv, hy, hn⟩, hb⟩
  replace ro := ro.later hb
  replace BC := BC.trans (hb.mono BC.size)
  have hv0b := Nat.lt_of_lt_of_le hv0 hb.size
  clear hb
  cases e1 : itV s 0 1 with
  | none =>
    obtain rfl := hn e1
    rw [e1] at HE
    have HN : Hid (fin = ([], false)) := HE
    clear HE hy hn hcle hbz
    go_wp2
    refine bodyPost_ret (results_tmp2 rfl _ _ _) rfl ?_
    exact ⟨⟨_, by rw [HN.out]; rfl, by rw [HN.out]; rfl, ro⟩, BC⟩
  | some f =>
    obtain ⟨v', p⟩ := f
    obtain ⟨rfl, rfl⟩ := hy v' p e1
    obtain ⟨hps, hvl, hvb⟩ := hcle v p e1
    rw [e1] at HE
    clear hcle hy hn e1
    dsimp only at HE
    obtain ⟨vg, rfl, hvg, hvgl, cv⟩ := own_cell rv (i := 0) (by omega)
    have hv0i := hvb (thr v 0) (by rw [thr_get (by omega)]; exact List.getElem_mem _)
    have hp0 : ¬ ((p : Int) < 0) := by omega
    have HVL : Hid (v.length = 1) := hvl
    have hvl1 : (1 : Int) ≤ (v.length : Int) := by omega
    have hvl2 : (0 : Int) < (v.length : Int) := by omega
    clear hvl hvb rv
    generalize thr v 0 = nn at HE cv hv0i
    obtain ⟨m, rfl⟩ := Int.eq_ofNat_of_zero_le hv0i.1
    by_cases c20 : 20 < (m : Int)
    · rw [if_pos c20] at HE
      have HN : Hid (fin = ([], false)) := HE
      have c20b : (m : Int) > 20 := c20
      clear HE c20 hbz
      go_wp2
      refine bodyPost_ret (results_tmp2 rfl _ _ _) rfl ?_
      exact ⟨⟨_, by rw [HN.out]; rfl, by rw [HN.out]; rfl, ro⟩, BC⟩
    · rw [if_neg c20, Int.toNat_natCast] at HE
      have c20b : ¬ ((m : Int) > 20) := c20
      have hvf : Below w.heap.size w W1 := BC
      clear hbz
      go_wp2
      go_loopw [4, 6, 7] (fun lv av iv wr => ∃ (i p1 : Nat) (L : List PT) (q : Rw TT), i ≤ m ∧ iv = .int .i64 (i : Int) ∧ av = .int .i64 (p1 : Int) ∧ lv = .slice q.1 q.2.2.length q.2.1 ∧ Hid (rsT q = L) ∧ Hid (itW s p i = some (L, p1)) ∧ RoT w.heap.size wr q ∧ Hid (∀ k, (Value.slice q.1 q.2.2.length q.2.1).ownBlock = some k → k ≠ vg) ∧ wr.cell? ⟨vg, 0, none⟩ = some (.int .i64 (m : Int)) ∧ Below w.heap.size w wr) (fun _ _ iv _ => m - (intOf iv).toNat)
      case atStart => exact ⟨0, p, [], (some ⟨w.heap.size, 0, none⟩, 0, []), Nat.zero_le _, rfl, rfl, rfl, rfl, rfl, ro, (fun k hk => by injection hk with hk; dsimp only at hk; omega), cv, BC⟩
      case round =>
        clear ro cv BC
        obtain ⟨i, p1, L, q, hi, rfl, rfl, rfl, HQ, HI, ro, HV, cv, BC⟩ := hrel
        have hm20 : m ≤ 20 := by omega
        have hle := itW_le hps HI.out
        by_cases hlt : i < m
        · have hlt2 : (i : Int) < (m : Int) := by omega
          have HX : Hid (itW s p (i + 1) = none → fin = ([], false)) := fun h => by rw [HE.out, itW_none (by omega) h]
          have HSt : Hid (itW s p (i + 1) = stR s (L, p1)) := by
            show _ = _
            show (match itW s p i with | none => none | some x => stR s x) = _
            rw [HI.out]
          have HSR : Hid (stR s (L, p1) = match itV s p1 3 with | none => none | some (v, e) => if 31 < thr v 2 then none else match itV s e (thr v 2).toNat with | none => none | some (l, e2) => some (L ++ [(thr v 0, l, thr v 1)], e2)) := (rfl : stR s (L, p1) = _)
          have K := vars_is s p1 3 wr hs hle.1 (by omega)
          have hcle : ∀ l e, itV s p1 3 = some (l, e) → e ≤ s.size ∧ l.length = 3 ∧ _ := fun l e h => itV_le hle.1 h
          have hql : q.2.2.length = i := by have h_ := hle.2.1; dsimp only at h_; rw [← h_, ← HQ.out]; unfold rsT; simp
          have hq20 : q.2.2.length ≤ 20 := by omega
          have hvgw : vg < wr.heap.size := World.block_lt_of_cell? _ _ cv
          have HQL : Hid (q.2.2.length = i) := hql
          clear HI hle hql
          go_wp2_with fail
          refine K.mono ?_
          clear K
          rintro en W2 ⟨⟨la, lc, l3, pe, rfl, rl, hy, hn⟩, hb⟩
          have hrs := fun k (e : (Value.slice q.1 q.2.2.length q.2.1).ownBlock = some k) => (World.ownsRow.lt ro.1 k e).2
          replace ro := ro.later hb
          replace cv := (hb.cell (p := ⟨vg, 0, none⟩) hvgw).trans cv
          replace hvgw := Nat.lt_of_lt_of_le hvgw hb.size
          have hwB := BC.size
          replace BC := BC.trans (hb.mono BC.size)
          clear hb
          cases e3 : itV s p1 3 with
          | none =>
            obtain rfl := hn e3
            rw [e3] at HSR
            have HN : Hid (fin = ([], false)) := HX.out (HSt.out.trans HSR.out)
            clear HX HSt HSR hy hn hcle e3
            obtain ⟨VN, hVN⟩ : ∃ V, World.alloc W2 (.cells #[] 59) = V := ⟨_, rfl⟩
            have hbV : Below W2.heap.size W2 VN := by rw [← hVN]; exact (Below.refl _ _).alloc (Nat.le_refl _) _
            have roV : RoT w.heap.size VN (some ⟨W2.heap.size, 0, none⟩, 0, []) := by rw [← hVN]; exact RoT.lit BC.size
            have BF : Below w.heap.size w VN := BC.trans (hbV.mono BC.size)
            have hbz := build0_run
            go_wp2
            try rw [hVN]
            refine bodyPost_ret (results_tmp2 rfl _ _ _) rfl ?_
            exact ⟨⟨(some ⟨W2.heap.size, 0, none⟩, 0, []), by rw [HN.out]; rfl, by rw [HN.out]; rfl, roV⟩, BF⟩
          | some f3 =>
            obtain ⟨v, e⟩ := f3
            obtain ⟨rfl, rfl⟩ := hy v e e3
            obtain ⟨hes, hvl, hvb⟩ := hcle l3 e e3
            rw [e3] at HSR
            clear hcle hy hn e3
            dsimp only at HSR
            obtain ⟨lg, rfl, hlB, hlgl, d2⟩ := own_cell rl (i := 2) (by omega)
            have d0 : W2.cell? ⟨lg, 0, none⟩ = some (.int .i64 (thr l3 0)) := by
              obtain ⟨g, e1, _, _, h⟩ := own_cell rl (i := 0) (by omega)
              injection e1 with e1; injection e1 with e1; subst e1; exact h
            have d1 : W2.cell? ⟨lg, 1, none⟩ = some (.int .i64 (thr l3 1)) := by
              obtain ⟨g, e1, _, _, h⟩ := own_cell rl (i := 1) (by omega)
              injection e1 with e1; injection e1 with e1; subst e1; exact h
            have h2i := hvb (thr l3 2) (by rw [thr_get (by omega)]; exact List.getElem_mem _)
            have he0 : ¬ ((e : Int) < 0) := by omega
            have hl0 : (0 : Int) < (l3.length : Int) := by omega
            have hl1 : (1 : Int) < (l3.length : Int) := by omega
            have hl2 : (2 : Int) < (l3.length : Int) := by omega
            clear hvl hvb rl
            generalize thr l3 2 = cc at HSR d2 h2i
            generalize thr l3 0 = k0v at HSR d0
            generalize thr l3 1 = k1v at HSR d1
            obtain ⟨c, rfl⟩ := Int.eq_ofNat_of_zero_le h2i.1
            by_cases c31 : 31 < (c : Int)
            · rw [if_pos c31] at HSR
              have HN : Hid (fin = ([], false)) := HX.out (HSt.out.trans HSR.out)
              have c31b : (c : Int) > 31 := c31
              clear HX HSt HSR c31
              obtain ⟨VN, hVN⟩ : ∃ V, World.alloc W2 (.cells #[] 59) = V := ⟨_, rfl⟩
              have hbV : Below W2.heap.size W2 VN := by rw [← hVN]; exact (Below.refl _ _).alloc (Nat.le_refl _) _
              have roV : RoT w.heap.size VN (some ⟨W2.heap.size, 0, none⟩, 0, []) := by rw [← hVN]; exact RoT.lit BC.size
              have BF : Below w.heap.size w VN := BC.trans (hbV.mono BC.size)
              have hbz := build0_run
              go_wp2
              try rw [hVN]
              refine bodyPost_ret (results_tmp2 rfl _ _ _) rfl ?_
              exact ⟨⟨(some ⟨W2.heap.size, 0, none⟩, 0, []), by rw [HN.out]; rfl, by rw [HN.out]; rfl, roV⟩, BF⟩
            · rw [if_neg c31, Int.toNat_natCast] at HSR
              have c31b : ¬ ((c : Int) > 31) := c31
              have K := vars_is s e c W2 hs hes (by omega)
              go_wp2_with fail
              refine K.mono ?_
              clear K
              rintro en W4 ⟨⟨sa, sc, set, pe, rfl, rs, hy, hn⟩, hb⟩
              have hlg : lg < W4.heap.size := Nat.lt_of_lt_of_le hlgl hb.size
              replace ro := ro.later hb
              replace cv := (hb.cell (p := ⟨vg, 0, none⟩) hvgw).trans cv
              replace d0 := (hb.cell (p := ⟨lg, 0, none⟩) hlgl).trans d0
              replace d1 := (hb.cell (p := ⟨lg, 1, none⟩) hlgl).trans d1
              have hwC := BC.size
              replace hvgw := Nat.lt_of_lt_of_le hvgw hb.size
              replace BC := BC.trans (hb.mono BC.size)
              clear hb d2
              cases e4 : itV s e c with
              | none =>
                obtain rfl := hn e4
                rw [e4] at HSR
                have HN : Hid (fin = ([], false)) := HX.out (HSt.out.trans HSR.out)
                clear HX HSt HSR hy hn e4
                obtain ⟨VN, hVN⟩ : ∃ V, World.alloc W4 (.cells #[] 59) = V := ⟨_, rfl⟩
                have hbV : Below W4.heap.size W4 VN := by rw [← hVN]; exact (Below.refl _ _).alloc (Nat.le_refl _) _
                have roV : RoT w.heap.size VN (some ⟨W4.heap.size, 0, none⟩, 0, []) := by rw [← hVN]; exact RoT.lit BC.size
                have BF : Below w.heap.size w VN := BC.trans (hbV.mono BC.size)
                have hbz := build0_run
                go_wp2
                try rw [hVN]
                refine bodyPost_ret (results_tmp2 rfl _ _ _) rfl ?_
                exact ⟨⟨(some ⟨W4.heap.size, 0, none⟩, 0, []), by rw [HN.out]; rfl, by rw [HN.out]; rfl, roV⟩, BF⟩
              | some f4 =>
                obtain ⟨set', e2⟩ := f4
                obtain ⟨rfl, rfl⟩ := hy set' e2 e4
                rw [e4] at HSR
                clear hy hn e4
                dsimp only at HSR
                have he20 : ¬ ((e2 : Int) < 0) := by omega
                have ox : OwT w.heap.size W4 (k0v, (sa, sc, set), k1v) := ownsRow_le rs hwC
                have hln : ∀ k, (Value.slice q.1 q.2.2.length q.2.1).ownBlock = some k → k ≠ lg := fun k hk => by have := hrs k hk; omega
                have HQ2 : Hid (rsT (q.1, q.2.1, q.2.2 ++ [(k0v, (sa, sc, set), k1v)]) = L ++ [(k0v, set, k1v)]) := by
                  show _ = _
                  rw [← HQ.out]
                  unfold rsT
                  dsimp only
                  rw [List.map_append]; rfl
                have HI2 : Hid (itW s p (i + 1) = some (L ++ [(k0v, set, k1v)], e2)) := HSt.out.trans HSR.out
                clear HX HSt HSR rs hrs
                obtain ⟨jt, hjt, hjz, hjs, hjb⟩ := parts_of info59
                go_wp2_with fail
                replace ro : RoT w.heap.size W4.drew q := ro
                replace ox : OwT w.heap.size W4.drew (k0v, (sa, sc, set), k1v) := ox
                replace cv : W4.drew.cell? ⟨vg, 0, none⟩ = _ := cv
                have c0 : W4.drew.cell? ⟨lg, 0, none⟩ = some (.int .i64 k0v) := d0
                have c1 : W4.drew.cell? ⟨lg, 1, none⟩ = some (.int .i64 k1v) := d1
                replace BC := BC.drew
                replace hlg : lg < W4.drew.heap.size := hlg
                replace hvgw : vg < W4.drew.heap.size := hvgw
                clear d0 d1
                refine wp_region_held_drew (S := (fun Vw => Vw.cell? ⟨lg, 0, none⟩ = some (.int .i64 k0v) ∧ Vw.cell? ⟨lg, 1, none⟩ = some (.int .i64 k1v))) (by kernel_rfl) ⟨c0, c1⟩ (fun hHeld => ?_)
                refine take_one 0 60 (v := ?_) rfl rfl (by kernel_rfl) (by kernel_rfl) (by kernel_rfl) (fun _ _ _ h => h) (Or.inl ⟨by rfl, ?_⟩) hHeld ?_
                rotate_left
                · intro w' hSw; (try dsimp only at hSw); obtain ⟨k0, k1⟩ := hSw; have hn0 : 0 < l3.length := (by omega); have hn1 : 1 < l3.length := (by omega); go_simp; try with_reducible rfl
                try simp only [Act.put, List.setIfInBounds_toArray, List.set_cons_zero, List.set_cons_succ]
                refine take_one 1 61 (v := ?_) rfl rfl (by kernel_rfl) (by kernel_rfl) (by kernel_rfl) (fun _ _ _ h => h) (Or.inl ⟨by rfl, ?_⟩) hHeld ?_
                rotate_left
                · intro w' hSw; (try dsimp only at hSw); obtain ⟨k0, k1⟩ := hSw; have hn0 : 0 < l3.length := (by omega); have hn1 : 1 < l3.length := (by omega); go_simp; try with_reducible rfl
                try simp only [Act.put, List.setIfInBounds_toArray, List.set_cons_zero, List.set_cons_succ]
                refine take_one 2 62 (v := ?_) rfl rfl (by kernel_rfl) (by kernel_rfl) (by kernel_rfl) (fun _ _ _ h => h) (Or.inl ⟨by rfl, ?_⟩) hHeld ?_
                rotate_left
                · intro w' hSw; (try dsimp only at hSw); obtain ⟨k0, k1⟩ := hSw; have hn0 : 0 < l3.length := (by omega); have hn1 : 1 < l3.length := (by omega); go_simp; try with_reducible rfl
                try simp only [Act.put, List.setIfInBounds_toArray, List.set_cons_zero, List.set_cons_succ]
                refine take_one 3 63 (v := ?_) rfl rfl (by kernel_rfl) (by kernel_rfl) (by kernel_rfl) (fun _ _ _ h => h) (Or.inl ⟨by rfl, ?_⟩) hHeld ?_
                rotate_left
                · intro w' hSw; (try dsimp only at hSw); obtain ⟨k0, k1⟩ := hSw; have hn0 : 0 < l3.length := (by omega); have hn1 : 1 < l3.length := (by omega); go_simp; try with_reducible rfl
                try simp only [Act.put, List.setIfInBounds_toArray, List.set_cons_zero, List.set_cons_succ]
                refine take_one 4 64 (v := ?_) rfl rfl (by kernel_rfl) (by kernel_rfl) (by kernel_rfl) (fun _ _ _ h => h) (Or.inl ⟨by rfl, ?_⟩) hHeld ?_
                rotate_left
                · intro w' hSw; (try dsimp only at hSw); obtain ⟨k0, k1⟩ := hSw; have hn0 : 0 < l3.length := (by omega); have hn1 : 1 < l3.length := (by omega); go_simp; try with_reducible rfl
                try simp only [Act.put, List.setIfInBounds_toArray, List.set_cons_zero, List.set_cons_succ]
                refine take_one 5 65 (v := ?_) rfl rfl (by kernel_rfl) (by kernel_rfl) (by kernel_rfl) (fun _ _ _ h => h) (Or.inl ⟨by rfl, ?_⟩) hHeld ?_
                rotate_left
                · intro w' hSw; (try dsimp only at hSw); obtain ⟨k0, k1⟩ := hSw; have hn0 : 0 < l3.length := (by omega); have hn1 : 1 < l3.length := (by omega); go_simp; try with_reducible rfl
                try simp only [Act.put, List.setIfInBounds_toArray, List.set_cons_zero, List.set_cons_succ]
                refine take_one 6 66 (v := ?_) rfl rfl (by kernel_rfl) (by kernel_rfl) (by kernel_rfl) (fun _ _ _ h => h) (Or.inl ⟨by rfl, ?_⟩) hHeld ?_
                rotate_left
                · intro w' hSw; (try dsimp only at hSw); obtain ⟨k0, k1⟩ := hSw; have hn0 : 0 < l3.length := (by omega); have hn1 : 1 < l3.length := (by omega); go_simp; try with_reducible rfl
                try simp only [Act.put, List.setIfInBounds_toArray, List.set_cons_zero, List.set_cons_succ]
                refine take_one 7 67 (v := ?_) rfl rfl (by kernel_rfl) (by kernel_rfl) (by kernel_rfl) (fun _ _ _ h => h) (Or.inl ⟨by rfl, ?_⟩) hHeld ?_
                rotate_left
                · intro w' hSw; (try dsimp only at hSw); obtain ⟨k0, k1⟩ := hSw; have hn0 : 0 < l3.length := (by omega); have hn1 : 1 < l3.length := (by omega); go_simp; try with_reducible rfl
                try simp only [Act.put, List.setIfInBounds_toArray, List.set_cons_zero, List.set_cons_succ]
                refine take_one 8 68 (v := ?_) rfl rfl (by kernel_rfl) (by kernel_rfl) (by kernel_rfl) (fun _ _ _ h => h) (Or.inl ⟨by rfl, ?_⟩) hHeld ?_
                rotate_left
                · intro w' hSw; (try dsimp only at hSw); obtain ⟨k0, k1⟩ := hSw; have hn0 : 0 < l3.length := (by omega); have hn1 : 1 < l3.length := (by omega); go_simp; try with_reducible rfl
                try simp only [Act.put, List.setIfInBounds_toArray, List.set_cons_zero, List.set_cons_succ]
                refine wpAnyH_ready (rs := [9]) (by kernel_rfl) (by simp) ?_
                refine AllReadyH.cons (i := 9) rfl (fun K hK => ?_) AllReadyH.nil
                go_simp
                obtain ⟨VA, hVB⟩ : ∃ Z, (World.alloc W4 (.cells #[.int .i64 k0v, .slice sa set.length sc, .int .i64 k1v] 59)).drew = Z := ⟨_, rfl⟩
                have hVA : W4.drew.alloc (.cells #[.int .i64 k0v, .slice sa set.length sc, .int .i64 k1v] 59) = VA := hVB
                have XA : Below W4.drew.heap.size W4.drew VA := by rw [← hVA]; exact (Below.refl _ _).alloc (Nat.le_refl _) _
                have TA : Blk W4.drew.heap.size [.int .i64 k0v, .slice sa set.length sc, .int .i64 k1v] VA := by rw [← hVA]; exact Blk.new _ _ _
                rw [hVB]
                replace cv := (XA.cell (p := ⟨vg, 0, none⟩) hvgw).trans cv
                have hvg2 : vg < VA.heap.size := Nat.lt_of_lt_of_le hvgw XA.size
                replace c0 := (XA.cell (p := ⟨lg, 0, none⟩) hlg).trans c0
                replace c1 := (XA.cell (p := ⟨lg, 1, none⟩) hlg).trans c1
                replace ro := ro.later XA
                replace ox := ox.later XA
                replace BC := BC.trans (XA.mono BC.size)
                have hBA := BC.size
                have hlg2 : lg < VA.heap.size := Nat.lt_of_lt_of_le hlg XA.size
                clear XA hVA hVB
                refine hK.out _ _ ⟨c0, c1⟩ (fun hHeld2 => ?_)
                clear hK K hHeld
                have hHeld := hHeld2
                clear hHeld2
                try simp only [Act.put, List.setIfInBounds_toArray, List.set_cons_zero, List.set_cons_succ]
                refine wpAnyH_ready (rs := [10]) (by kernel_rfl) (by simp) ?_
                refine AllReadyH.cons (i := 10) rfl (fun K hK => ?_) AllReadyH.nil
                refine step_where rfl _ _ 24 rfl w.heap.size 59 jt _ 3 40 Try.underlying24 hjt hjz hjs hjb rfl (by decide) _ _ _ rfl ro.1 ⟨W4.drew.heap.size, 0, none⟩ 1 1 [.int .i64 k0v, .slice sa set.length sc, .int .i64 k1v] rfl rfl (news_box TA) (fun u hu => by simp at hu; rcases hu with rfl | rfl | rfl <;> rfl) (by unfold maxLen; omega) (by omega) hBA (by decide) ?_
                intro vA wA ownA hgA hwA
                try simp only [Act.put, List.setIfInBounds_toArray]
                obtain ⟨na, nc, rfl, _⟩ := own_shape ownA
                have HV2 : Hid (∀ k, (Value.slice na (q.2.2.length + 1) nc).ownBlock = some k → k ≠ vg) := fun k hk => by
                  rcases hwA with h | h
                  · exact HV.out k (h.symm.trans hk)
                  · rw [h] at hk; injection hk with hk; omega
                replace cv := (World.cell?_of_block (a := ⟨vg, 0, none⟩) (hgA.block vg hvg2 (fun e => HV.out _ e.symm rfl))).trans cv
                obtain ⟨RA, _, _⟩ := put_mem (x := (k0v, (sa, sc, set), k1v)) ro ox ownA hgA hwA
                have hlo : ∀ k, (Value.slice q.1 q.2.2.length q.2.1).ownBlock = some k → k ≠ lg := hln
                replace c0 := (World.cell?_of_block (a := ⟨lg, 0, none⟩) (hgA.block lg hlg2 (fun e => hlo _ e.symm rfl))).trans c0
                replace c1 := (World.cell?_of_block (a := ⟨lg, 1, none⟩) (hgA.block lg hlg2 (fun e => hlo _ e.symm rfl))).trans c1
                replace BC := BC.grown hgA hBA (fun k e => (World.ownsRow.lt ro.1 k e).1)
                clear ownA hgA hwA ro ox TA
                refine hK.out _ _ ⟨c0, c1⟩ (fun hHeld2 => ?_)
                clear hK K hHeld
                have hHeld := hHeld2
                clear hHeld2
                try simp only [Act.put, List.setIfInBounds_toArray, List.set_cons_zero, List.set_cons_succ]
                refine take_one 11 4 (v := ?_) rfl rfl (by kernel_rfl) (by kernel_rfl) (by kernel_rfl) (fun _ _ _ h => h) (Or.inl ⟨by rfl, ?_⟩) hHeld ?_
                rotate_left
                · intro w' hSw; (try dsimp only at hSw); obtain ⟨k0, k1⟩ := hSw; have hn0 : 0 < l3.length := (by omega); have hn1 : 1 < l3.length := (by omega); go_simp; try with_reducible rfl
                try simp only [Act.put]
                refine wpAnyH_done (by kernel_rfl) ?_ _
                have hqe : (q.2.2 ++ [(k0v, (sa, sc, set), k1v)]).length = q.2.2.length + 1 := by simp
                have HR : ∃ (i' p' : Nat) (L' : List PT) (q' : Rw TT), i' ≤ m ∧ Value.int .i64 ((i : Int) + 1) = .int .i64 (i' : Int) ∧ Value.int .i64 (e2 : Int) = .int .i64 (p' : Int) ∧ Value.slice na (q.2.2.length + 1) nc = .slice q'.1 q'.2.2.length q'.2.1 ∧ Hid (rsT q' = L') ∧ Hid (itW s p i' = some (L', p')) ∧ RoT w.heap.size wA q' ∧ Hid (∀ k, (Value.slice q'.1 q'.2.2.length q'.2.1).ownBlock = some k → k ≠ vg) ∧ wA.cell? ⟨vg, 0, none⟩ = some (.int .i64 (m : Int)) ∧ Below w.heap.size w wA :=
                  ⟨i + 1, e2, _, (na, nc, q.2.2 ++ [(k0v, (sa, sc, set), k1v)]), by omega, by go_num, rfl, by dsimp only; rw [hqe], HQ2, HI2, RA, by dsimp only; rw [hqe]; exact HV2, cv, BC⟩
                clear RA HV2 HV cv BC HQ2 HI2 HQ hHeld c0 c1
                go_wp2
                go_roundw
                case rel => exact HR
                case measure => simp [intOf]; omega
        · obtain rfl : i = m := by omega
          have hlt2 : ¬ ((i : Int) < (i : Int)) := by omega
          have h31 := hle.2.2
          have hLl := hle.2.1
          dsimp only at h31 hLl
          have HF : Hid (fin = if showP L = s then (L, true) else ([], false)) := by show _ = _; rw [HE.out, HI.out]
          have hrt : rtT q ≤ 1048576 := by
            have h3 := rt_rs q
            rw [HQ.out] at h3
            have h4 := sum_le_of (fun p : PT => p.2.1.length) 31 L h31
            have h5 : L.length * 31 ≤ 20 * 31 := Nat.mul_le_mul_right _ (by omega)
            omega
          have K := specShow_is q wr ro.dp hrt
          rw [HQ.out] at K
          clear HE HI hle h31 hLl hrt
          go_wp2_with fail
          refine K.mono ?_
          clear K
          rintro en W2 ⟨rfl, hb⟩
          replace ro := ro.later hb
          replace BC := BC.trans (hb.mono BC.size)
          clear hb
          by_cases c : showP L = s
          · have HN : Hid (fin = (L, true)) := by show _ = _; rw [HF.out, if_pos c]
            rw [c]
            have hz1 : (s.toList == s.toList) = true := by simp
            have hz2 : (s.toList != s.toList) = false := by simp
            clear HF c
            go_wp2
            refine bodyPost_ret (results_tmp2 rfl _ _ _) rfl ?_
            exact ⟨⟨q, by rw [HN.out]; rfl, by rw [HN.out]; exact HQ.out, ro⟩, BC⟩
          · have HN : Hid (fin = ([], false)) := by show _ = _; rw [HF.out, if_neg c]
            have hz1 : ((showP L).toList == s.toList) = false := same_list9 c
            have hz2 : ((showP L).toList != s.toList) = true := by rw [bne, hz1]; rfl
            clear HF c
            generalize showP L = sl at hz1 hz2
            obtain ⟨VN, hVN⟩ : ∃ V, World.alloc W2 (.cells #[] 59) = V := ⟨_, rfl⟩
            have hbV : Below W2.heap.size W2 VN := by rw [← hVN]; exact (Below.refl _ _).alloc (Nat.le_refl _) _
            have roV : RoT w.heap.size VN (some ⟨W2.heap.size, 0, none⟩, 0, []) := by rw [← hVN]; exact RoT.lit BC.size
            have BF : Below w.heap.size w VN := BC.trans (hbV.mono BC.size)
            have hbz := build0_run
            go_wp2
            try rw [hVN]
            refine bodyPost_ret (results_tmp2 rfl _ _ _) rfl ?_
            exact ⟨⟨(some ⟨W2.heap.size, 0, none⟩, 0, []), by rw [HN.out]; rfl, by rw [HN.out]; rfl, roV⟩, BF⟩
end Go.Proofs.Ytjbbhegijlnndaa.Nd
