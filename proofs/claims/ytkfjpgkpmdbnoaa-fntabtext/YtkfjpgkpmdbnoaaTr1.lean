/- ReadTab of the model. -/
import Derived.Test.YtkfjpgkpmdbnoaaVs1
import Derived.Test.YtkfjpgkpmdbnoaaTs1
import Derived.Test.YtkfjpgkpmdbnoaaTr0
import Derived.Test.YtkfjpgkpmdbnoaaTk0
import Derived.Test.YtkfjpgkpmdbnoaaAw
import Derived.Test.YtkfjpgkpmdbnoaaReg
import Derived.Test.YtkfjpgkpmdbnoaaRg1
import Derived.Deep.RegionHeld3
import Derived.RangeFuncNested
import Derived.Deep.SlicePairs
import Derived.Lib.SmallJoins
set_option linter.unusedVariables false
set_option maxRecDepth 100000
namespace Go.Proofs.Ytkfjpgkpmdbnoaa
open Go Go.RowKit Go.Joins Own Draw Go.Proofs.Ytkfjpgkpmdbnoaa.Var

theorem step_where {P : Program} {ops : Array Oper} {o : Oper} {a : Act} {w : World} {K : Act → World → Prop} {Q : Exit → Act → World → Prop} {E : Prop} (hgd : o.guard = none) (s x : Operand) (t : TypeId)
    (ho : o.op = .call { callee := .builtin .append, args := #[s, x], argTypes := #[t, t] })
    (base : Nat) (e : TypeId) (i : TypeInfo) (z : Value) (size bytes : Nat) (ht : P.underlying t = some (.slice e)) (hi : P.info? e = some i) (hz : i.zero = some z)
    (hsize : i.size = size) (hby : i.bytes = bytes) (hzs : z.cells.size = size) (hsz : 0 < size)
    (v : Value) (n : Nat) (xs : List Value) (hs : a.eval s = v) (hown : w.ownsRow base e size v n xs)
    (ad : Addr) (m c : Nat) (news : List Value) (hx : a.eval x = .slice (some ad) m c) (hl : news.length = m * size) (hnews : ∀ j u, news[j]? = some u → w.cell? (ad.add j) = some u) (h1 : ∀ u ∈ news, u.oneCell' = true)
    (h63 : n + m ≤ maxLen) (hbytes : (n + m) * bytes ≤ 140737488355328) (hbase : base ≤ w.heap.size) (hm : 0 < m)
    (h : ∀ v' w', w'.ownsRow base e size v' (n + m) (xs ++ news) → w.grownBy w' v.ownBlock → (v'.ownBlock = v.ownBlock ∨ v'.ownBlock = some w.heap.size) → K (a.put o.dst v') w') : if Region.wanted o (yielded ops a.tmps) = true then Oper.wp P o a w K Q else E := by
  rw [if_pos (by simp [Region.wanted, hgd])]
  obtain ⟨v', w', hr, ho2, hg, hw⟩ := run_append_where w base t o.type e i z size bytes ht hi hz hsize hby hzs hsz v n xs hown ad m c news hl hnews h1 h63 hbytes hbase hm
  unfold Oper.wp execOp
  simp only [ho, resolve, invoke, builtin, Sem.run_bind, Sem.run_pure, Result.andThen_ok, List.map_toArray, List.map_cons, List.map_nil, hs, hx, hr]
  exact h v' w' ho2 hg hw
theorem build0_run : ∀ (W : World), (Instr.buildSlice 24 0 #[]).run Try.prog W = .ok (.slice (some ⟨W.heap.size, 0, none⟩) 0 0) (W.alloc (.cells #[] 31)) := fun W => by
  obtain ⟨ie0, hie0, hz00, _⟩ := info_parts infoS
  simp [Instr.buildSlice, run_underlying Try.underlying24, sizeOf, typeInfo, hie0, newRow, Instr.fill]
  try exact congrArg (fun x => W.alloc (.cells x 31)) (Array.eq_empty_of_size_eq_zero (by simp))
/-- What a read answers. -/
def RdQ (f : List TS × Bool) (B : Nat) (e : Ending) (w : World) : Prop := ∃ (ra : Option Addr) (rc : Nat), e = .returned (.tuple #[.slice ra f.1.length rc, .bool f.2]) ∧ FOwn 31 3 cS B ra rc f.1 w
set_option maxRecDepth 100000 in
set_option maxHeartbeats 12800000 in
theorem specRead_is (s : ByteArray) (w : World) (hs : s.size ≤ 1048576) :
    Calls Try.prog 25 #[.string s] w fun e w' => RdQ (rdT s) w.heap.size e w' ∧ Below w.heap.size w w' := by
  have HE : Hid (rdT s = match itV s 0 1 with | none => ([], false) | some (v, a) => if 20 < thr v 0 then ([], false) else match rdI s a (thr v 0).toNat with | none => ([], false) | some x => if shT x.1 = s then (x.1, true) else ([], false)) := (rfl : rdT s = _)
  generalize rdT s = fin at HE ⊢
  obtain ⟨i0, hi0, hz0, hz1, hz2⟩ := info_parts infoS
  obtain ⟨V0, hV0⟩ : ∃ V, w.alloc (.cells #[] 31) = V := ⟨_, rfl⟩
  have BC : Below w.heap.size w V0 := by rw [← hV0]; exact (Below.refl _ _).alloc (Nat.le_refl _) _
  have ro : FOwn 31 3 cS w.heap.size (some ⟨w.heap.size, 0, none⟩) 0 [] V0 := by rw [← hV0]; exact World.ownsRow_lit _ _ _ (Nat.le_refl _) (by simp [maxLen]) rfl
  have hv0 : w.heap.size < V0.heap.size := by rw [← hV0]; simp
  have hbz := build0_run
  have K := vars_is s 0 1 V0 hs (Nat.zero_le _) (by omega)
  have hcle : ∀ l p, itV s 0 1 = some (l, p) → p ≤ s.size ∧ l.length = 1 ∧ _ := fun l p h => itV_le (Nat.zero_le _) h
  go_enter Try.func25, Try.ntmps25
  go_wp2_with fail
  try rw [hV0]
  refine K.mono ?_
  clear K hV0
  rintro en W1 ⟨⟨va, vc, v, pe, rfl, rv, hy, hn⟩, hb⟩
  replace ro : FOwn 31 3 cS w.heap.size (some ⟨w.heap.size, 0, none⟩) 0 [] W1 := own_later ro hb
  replace BC := BC.trans (hb.mono BC.size)
  have hv0b := Nat.lt_of_lt_of_le hv0 hb.size
  clear hb
  cases e1 : itV s 0 1 with
  | none =>
    obtain rfl := hn e1
    rw [e1] at HE
    have HN : Hid (fin = ([], false)) := HE
    clear HE hy hn hcle hbz
    go_wp2
    refine bodyPost_ret (results_tmp2 rfl _ _ _) rfl ?_
    exact ⟨⟨_, _, by rw [HN.out]; rfl, by rw [HN.out]; exact ro⟩, BC⟩
  | some f =>
    obtain ⟨v', p⟩ := f
    obtain ⟨rfl, rfl⟩ := hy v' p e1
    obtain ⟨hps, hvl, hvb⟩ := hcle v p e1
    rw [e1] at HE
    clear hcle hy hn e1
    dsimp only at HE
    obtain ⟨vg, rfl, hvg, hvgl, cv⟩ := own_cell rv (i := 0) (by omega)
    have hv0i := hvb (thr v 0) (by rw [thr_get (by omega)]; exact List.getElem_mem _)
    have hp0 : ¬ ((p : Int) < 0) := by omega
    have HVL : Hid (v.length = 1) := hvl
    have hvl1 : (1 : Int) ≤ (v.length : Int) := by omega
    have hvl2 : (0 : Int) < (v.length : Int) := by omega
    clear hvl hvb rv
    generalize thr v 0 = nn at HE cv hv0i
    obtain ⟨m, rfl⟩ := Int.eq_ofNat_of_zero_le hv0i.1
    by_cases c20 : 20 < (m : Int)
    · rw [if_pos c20] at HE
      have HN : Hid (fin = ([], false)) := HE
      have c20b : (m : Int) > 20 := c20
      clear HE c20 hbz
      go_wp2
      refine bodyPost_ret (results_tmp2 rfl _ _ _) rfl ?_
      exact ⟨⟨_, _, by rw [HN.out]; rfl, by rw [HN.out]; exact ro⟩, BC⟩
    · rw [if_neg c20, Int.toNat_natCast] at HE
      have c20b : ¬ ((m : Int) > 20) := c20
      have hob : Hid (∀ k, (Value.slice (some ⟨w.heap.size, 0, none⟩) ([] : List TS).length 0).ownBlock = some k → k ≠ vg) := fun k hk => by injection hk with hk; dsimp only at hk; omega
      clear hbz
      go_wp2
      go_loopw [4, 6, 7] (fun lv av iv wr => ∃ (i p1 : Nat) (L : List TS) (oa : Option Addr) (oc : Nat), i ≤ m ∧ iv = .int .i64 (i : Int) ∧ av = .int .i64 (p1 : Int) ∧ lv = .slice oa L.length oc ∧ Hid (rdI s p i = some (L, p1)) ∧ FOwn 31 3 cS w.heap.size oa oc L wr ∧ Hid (∀ k, (Value.slice oa L.length oc).ownBlock = some k → k ≠ vg) ∧ wr.cell? ⟨vg, 0, none⟩ = some (.int .i64 (m : Int)) ∧ Below w.heap.size w wr) (fun _ _ iv _ => m - (intOf iv).toNat)
      case atStart => exact ⟨0, p, [], some ⟨w.heap.size, 0, none⟩, 0, Nat.zero_le _, rfl, rfl, rfl, rfl, ro, hob, cv, BC⟩
      case round =>
        clear ro cv BC
        obtain ⟨i, p1, L, oa, oc, hi, rfl, rfl, rfl, HI, ro, HV, cv, BC⟩ := hrel
        have hm20 : m ≤ 20 := by omega
        have hle := rdI_le hps HI.out
        have hLi : L.length = i := hle.2
        have hL20 : L.length ≤ 20 := by omega
        by_cases hlt : i < m
        · have hlt2 : (i : Int) < (m : Int) := by omega
          have HX : Hid (rdI s p (i + 1) = none → fin = ([], false)) := fun h => by rw [HE.out, rdI_none (by omega) h]
          have HSt : Hid (rdI s p (i + 1) = stV s (L, p1)) := by
            show _ = _
            show (match rdI s p i with | none => none | some x => stV s x) = _
            rw [HI.out]
          have HSR : Hid (stV s (L, p1) = match itV s p1 3 with | none => none | some (v, e) => some (L ++ [(thr v 0, thr v 1, thr v 2)], e)) := (rfl : stV s (L, p1) = _)
          have K := vars_is s p1 3 wr hs hle.1 (by omega)
          have hcle : ∀ l e, itV s p1 3 = some (l, e) → e ≤ s.size ∧ l.length = 3 ∧ _ := fun l e h => itV_le hle.1 h
          have hvgw : vg < wr.heap.size := World.block_lt_of_cell? _ _ cv
          have HLI : Hid (L.length = i) := hLi
          clear HI hle hLi
          go_wp2_with fail
          refine K.mono ?_
          clear K
          rintro en W2 ⟨⟨la, lc, l3, pe, rfl, rl, hy, hn⟩, hb⟩
          have hrs := fun k (e : (Value.slice oa L.length oc).ownBlock = some k) => (World.ownsRow.lt ro k e).2
          replace ro := own_later ro hb
          replace cv := (hb.cell (p := ⟨vg, 0, none⟩) hvgw).trans cv
          replace hvgw := Nat.lt_of_lt_of_le hvgw hb.size
          replace BC := BC.trans (hb.mono BC.size)
          clear hb
          cases e3 : itV s p1 3 with
          | none =>
            obtain rfl := hn e3
            rw [e3] at HSR
            have HN : Hid (fin = ([], false)) := HX.out (HSt.out.trans HSR.out)
            clear HX HSt HSR hy hn hcle e3
            obtain ⟨VN, hVN⟩ : ∃ V, World.alloc W2 (.cells #[] 31) = V := ⟨_, rfl⟩
            have hbV : Below W2.heap.size W2 VN := by rw [← hVN]; exact (Below.refl _ _).alloc (Nat.le_refl _) _
            have roV : FOwn 31 3 cS w.heap.size (some ⟨W2.heap.size, 0, none⟩) 0 [] VN := by rw [← hVN]; exact World.ownsRow_lit _ _ _ BC.size (by simp [maxLen]) rfl
            have BF : Below w.heap.size w VN := BC.trans (hbV.mono BC.size)
            have hbz := build0_run
            go_wp2
            try rw [hVN]
            refine bodyPost_ret (results_tmp2 rfl _ _ _) rfl ?_
            exact ⟨⟨_, _, by rw [HN.out]; rfl, by rw [HN.out]; exact roV⟩, BF⟩
          | some f3 =>
            obtain ⟨v, e⟩ := f3
            obtain ⟨rfl, rfl⟩ := hy v e e3
            obtain ⟨hes, hvl, hvb⟩ := hcle l3 e e3
            rw [e3] at HSR
            clear hcle hy hn e3
            dsimp only at HSR
            obtain ⟨lg, rfl, hlB, hlgl, d2⟩ := own_cell rl (i := 2) (by omega)
            have d0 : W2.cell? ⟨lg, 0, none⟩ = some (.int .i64 (thr l3 0)) := by
              obtain ⟨g, e1, _, _, h⟩ := own_cell rl (i := 0) (by omega)
              injection e1 with e1; injection e1 with e1; subst e1; exact h
            have d1 : W2.cell? ⟨lg, 1, none⟩ = some (.int .i64 (thr l3 1)) := by
              obtain ⟨g, e1, _, _, h⟩ := own_cell rl (i := 1) (by omega)
              injection e1 with e1; injection e1 with e1; subst e1; exact h
            have he0 : ¬ ((e : Int) < 0) := by omega
            have hl0 : (0 : Int) < (l3.length : Int) := by omega
            have hl1 : (1 : Int) < (l3.length : Int) := by omega
            have hl2 : (2 : Int) < (l3.length : Int) := by omega
            have hl3 : l3.length = 3 := hvl
            clear hvl hvb rl
            generalize thr l3 0 = k0v at HSR d0
            generalize thr l3 1 = k1v at HSR d1
            generalize thr l3 2 = k2v at HSR d2
            have hln : ∀ k, (Value.slice oa L.length oc).ownBlock = some k → k ≠ lg := fun k hk => by have := hrs k hk; omega
            have HI2 : Hid (rdI s p (i + 1) = some (L ++ [(k0v, k1v, k2v)], e)) := HSt.out.trans HSR.out
            clear HX HSt HSR hrs
            go_wp2_with fail
            replace ro : FOwn 31 3 cS w.heap.size oa oc L W2.drew := ro
            replace cv : W2.drew.cell? ⟨vg, 0, none⟩ = _ := cv
            have c0 : W2.drew.cell? ⟨lg, 0, none⟩ = some (.int .i64 k0v) := d0
            have c1 : W2.drew.cell? ⟨lg, 1, none⟩ = some (.int .i64 k1v) := d1
            have c2 : W2.drew.cell? ⟨lg, 2, none⟩ = some (.int .i64 k2v) := d2
            replace BC := BC.drew
            have hlg : lg < W2.drew.heap.size := hlgl
            replace hvgw : vg < W2.drew.heap.size := hvgw
            clear d0 d1 d2 hlgl
            refine wp_region_held_drew (S := (fun Vw => Vw.cell? ⟨lg, 0, none⟩ = some (.int .i64 k0v) ∧ Vw.cell? ⟨lg, 1, none⟩ = some (.int .i64 k1v) ∧ Vw.cell? ⟨lg, 2, none⟩ = some (.int .i64 k2v))) (by kernel_rfl) ⟨c0, c1, c2⟩ (fun hHeld => ?_)
            refine take_one 0 41 (v := ?_) rfl rfl (by kernel_rfl) (by kernel_rfl) (by kernel_rfl) (fun _ _ _ h => h) (Or.inl ⟨by rfl, ?_⟩) hHeld ?_
            rotate_left
            · intro w' hSw; (try dsimp only at hSw); obtain ⟨k0, k1, k2⟩ := hSw; have hn0 : 0 < l3.length := (by omega); have hn1 : 1 < l3.length := (by omega); have hn2 : 2 < l3.length := (by omega); go_simp; try with_reducible rfl
            try simp only [Act.put, List.setIfInBounds_toArray, List.set_cons_zero, List.set_cons_succ]
            refine take_one 1 42 (v := ?_) rfl rfl (by kernel_rfl) (by kernel_rfl) (by kernel_rfl) (fun _ _ _ h => h) (Or.inl ⟨by rfl, ?_⟩) hHeld ?_
            rotate_left
            · intro w' hSw; (try dsimp only at hSw); obtain ⟨k0, k1, k2⟩ := hSw; have hn0 : 0 < l3.length := (by omega); have hn1 : 1 < l3.length := (by omega); have hn2 : 2 < l3.length := (by omega); go_simp; try with_reducible rfl
            try simp only [Act.put, List.setIfInBounds_toArray, List.set_cons_zero, List.set_cons_succ]
            refine take_one 2 43 (v := ?_) rfl rfl (by kernel_rfl) (by kernel_rfl) (by kernel_rfl) (fun _ _ _ h => h) (Or.inl ⟨by rfl, ?_⟩) hHeld ?_
            rotate_left
            · intro w' hSw; (try dsimp only at hSw); obtain ⟨k0, k1, k2⟩ := hSw; have hn0 : 0 < l3.length := (by omega); have hn1 : 1 < l3.length := (by omega); have hn2 : 2 < l3.length := (by omega); go_simp; try with_reducible rfl
            try simp only [Act.put, List.setIfInBounds_toArray, List.set_cons_zero, List.set_cons_succ]
            refine take_one 3 44 (v := ?_) rfl rfl (by kernel_rfl) (by kernel_rfl) (by kernel_rfl) (fun _ _ _ h => h) (Or.inl ⟨by rfl, ?_⟩) hHeld ?_
            rotate_left
            · intro w' hSw; (try dsimp only at hSw); obtain ⟨k0, k1, k2⟩ := hSw; have hn0 : 0 < l3.length := (by omega); have hn1 : 1 < l3.length := (by omega); have hn2 : 2 < l3.length := (by omega); go_simp; try with_reducible rfl
            try simp only [Act.put, List.setIfInBounds_toArray, List.set_cons_zero, List.set_cons_succ]
            refine take_one 4 45 (v := ?_) rfl rfl (by kernel_rfl) (by kernel_rfl) (by kernel_rfl) (fun _ _ _ h => h) (Or.inl ⟨by rfl, ?_⟩) hHeld ?_
            rotate_left
            · intro w' hSw; (try dsimp only at hSw); obtain ⟨k0, k1, k2⟩ := hSw; have hn0 : 0 < l3.length := (by omega); have hn1 : 1 < l3.length := (by omega); have hn2 : 2 < l3.length := (by omega); go_simp; try with_reducible rfl
            try simp only [Act.put, List.setIfInBounds_toArray, List.set_cons_zero, List.set_cons_succ]
            refine take_one 5 46 (v := ?_) rfl rfl (by kernel_rfl) (by kernel_rfl) (by kernel_rfl) (fun _ _ _ h => h) (Or.inl ⟨by rfl, ?_⟩) hHeld ?_
            rotate_left
            · intro w' hSw; (try dsimp only at hSw); obtain ⟨k0, k1, k2⟩ := hSw; have hn0 : 0 < l3.length := (by omega); have hn1 : 1 < l3.length := (by omega); have hn2 : 2 < l3.length := (by omega); go_simp; try with_reducible rfl
            try simp only [Act.put, List.setIfInBounds_toArray, List.set_cons_zero, List.set_cons_succ]
            refine take_one 6 47 (v := ?_) rfl rfl (by kernel_rfl) (by kernel_rfl) (by kernel_rfl) (fun _ _ _ h => h) (Or.inl ⟨by rfl, ?_⟩) hHeld ?_
            rotate_left
            · intro w' hSw; (try dsimp only at hSw); obtain ⟨k0, k1, k2⟩ := hSw; have hn0 : 0 < l3.length := (by omega); have hn1 : 1 < l3.length := (by omega); have hn2 : 2 < l3.length := (by omega); go_simp; try with_reducible rfl
            try simp only [Act.put, List.setIfInBounds_toArray, List.set_cons_zero, List.set_cons_succ]
            refine take_one 7 48 (v := ?_) rfl rfl (by kernel_rfl) (by kernel_rfl) (by kernel_rfl) (fun _ _ _ h => h) (Or.inl ⟨by rfl, ?_⟩) hHeld ?_
            rotate_left
            · intro w' hSw; (try dsimp only at hSw); obtain ⟨k0, k1, k2⟩ := hSw; have hn0 : 0 < l3.length := (by omega); have hn1 : 1 < l3.length := (by omega); have hn2 : 2 < l3.length := (by omega); go_simp; try with_reducible rfl
            try simp only [Act.put, List.setIfInBounds_toArray, List.set_cons_zero, List.set_cons_succ]
            refine take_one 8 49 (v := ?_) rfl rfl (by kernel_rfl) (by kernel_rfl) (by kernel_rfl) (fun _ _ _ h => h) (Or.inl ⟨by rfl, ?_⟩) hHeld ?_
            rotate_left
            · intro w' hSw; (try dsimp only at hSw); obtain ⟨k0, k1, k2⟩ := hSw; have hn0 : 0 < l3.length := (by omega); have hn1 : 1 < l3.length := (by omega); have hn2 : 2 < l3.length := (by omega); go_simp; try with_reducible rfl
            try simp only [Act.put, List.setIfInBounds_toArray, List.set_cons_zero, List.set_cons_succ]
            refine take_one 9 50 (v := ?_) rfl rfl (by kernel_rfl) (by kernel_rfl) (by kernel_rfl) (fun _ _ _ h => h) (Or.inl ⟨by rfl, ?_⟩) hHeld ?_
            rotate_left
            · intro w' hSw; (try dsimp only at hSw); obtain ⟨k0, k1, k2⟩ := hSw; have hn0 : 0 < l3.length := (by omega); have hn1 : 1 < l3.length := (by omega); have hn2 : 2 < l3.length := (by omega); go_simp; try with_reducible rfl
            try simp only [Act.put, List.setIfInBounds_toArray, List.set_cons_zero, List.set_cons_succ]
            refine take_one 10 51 (v := ?_) rfl rfl (by kernel_rfl) (by kernel_rfl) (by kernel_rfl) (fun _ _ _ h => h) (Or.inl ⟨by rfl, ?_⟩) hHeld ?_
            rotate_left
            · intro w' hSw; (try dsimp only at hSw); obtain ⟨k0, k1, k2⟩ := hSw; have hn0 : 0 < l3.length := (by omega); have hn1 : 1 < l3.length := (by omega); have hn2 : 2 < l3.length := (by omega); go_simp; try with_reducible rfl
            try simp only [Act.put, List.setIfInBounds_toArray, List.set_cons_zero, List.set_cons_succ]
            refine wpAnyH_ready (rs := [11]) (by kernel_rfl) (by simp) ?_
            refine AllReadyH.cons (i := 11) rfl (fun K hK => ?_) AllReadyH.nil
            go_simp
            obtain ⟨VA, hVB⟩ : ∃ Z, (World.alloc W2 (.cells #[.int .i64 k0v, .int .i64 k1v, .int .i64 k2v] 31)).drew = Z := ⟨_, rfl⟩
            have hVA : W2.drew.alloc (.cells #[.int .i64 k0v, .int .i64 k1v, .int .i64 k2v] 31) = VA := hVB
            have XA : Below W2.drew.heap.size W2.drew VA := by rw [← hVA]; exact (Below.refl _ _).alloc (Nat.le_refl _) _
            have nw := news3 W2.drew (.int .i64 k0v) (.int .i64 k1v) (.int .i64 k2v) 31
            rw [hVA] at nw
            rw [hVB]
            replace cv := (XA.cell (p := ⟨vg, 0, none⟩) hvgw).trans cv
            have hvg2 : vg < VA.heap.size := Nat.lt_of_lt_of_le hvgw XA.size
            replace c0 := (XA.cell (p := ⟨lg, 0, none⟩) hlg).trans c0
            replace c1 := (XA.cell (p := ⟨lg, 1, none⟩) hlg).trans c1
            replace c2 := (XA.cell (p := ⟨lg, 2, none⟩) hlg).trans c2
            replace ro := own_later ro XA
            replace BC := BC.trans (XA.mono BC.size)
            have hBA := BC.size
            have hlg2 : lg < VA.heap.size := Nat.lt_of_lt_of_le hlg XA.size
            clear XA hVA hVB
            refine hK.out _ _ ⟨c0, c1, c2⟩ (fun hHeld2 => ?_)
            clear hK K hHeld
            have hHeld := hHeld2
            clear hHeld2
            try simp only [Act.put, List.setIfInBounds_toArray, List.set_cons_zero, List.set_cons_succ]
            refine wpAnyH_ready (rs := [12]) (by kernel_rfl) (by simp) ?_
            refine AllReadyH.cons (i := 12) rfl (fun K hK => ?_) AllReadyH.nil
            refine step_where rfl _ _ 24 rfl w.heap.size 31 i0 (.agg #[.int .i64 0, .int .i64 0, .int .i64 0]) 3 24 Try.underlying24 hi0 hz0 hz1 hz2 rfl (by decide) _ _ _ rfl ro ⟨W2.drew.heap.size, 0, none⟩ 1 1 [.int .i64 k0v, .int .i64 k1v, .int .i64 k2v] rfl rfl nw (fun u hu => by simp at hu; rcases hu with rfl | rfl | rfl <;> rfl) (by unfold maxLen; omega) (by omega) hBA (by decide) ?_
            intro vA wA ownA hgA hwA
            try simp only [Act.put, List.setIfInBounds_toArray]
            obtain ⟨na, nc, rfl, _⟩ := own_shape ownA
            have HV2 : Hid (∀ k, (Value.slice na (L.length + 1) nc).ownBlock = some k → k ≠ vg) := fun k hk => by
              rcases hwA with h | h
              · exact HV.out k (h.symm.trans hk)
              · rw [h] at hk; injection hk with hk; omega
            replace cv := (World.cell?_of_block (a := ⟨vg, 0, none⟩) (hgA.block vg hvg2 (fun e => HV.out _ e.symm rfl))).trans cv
            have hle9 : (L ++ [(k0v, k1v, k2v)]).length = L.length + 1 := by simp
            have RA : FOwn 31 3 cS w.heap.size na nc (L ++ [(k0v, k1v, k2v)]) wA := by unfold FOwn; rw [hle9, fl_snoc]; exact ownA
            replace c0 := (World.cell?_of_block (a := ⟨lg, 0, none⟩) (hgA.block lg hlg2 (fun e => hln _ e.symm rfl))).trans c0
            replace c1 := (World.cell?_of_block (a := ⟨lg, 1, none⟩) (hgA.block lg hlg2 (fun e => hln _ e.symm rfl))).trans c1
            replace c2 := (World.cell?_of_block (a := ⟨lg, 2, none⟩) (hgA.block lg hlg2 (fun e => hln _ e.symm rfl))).trans c2
            replace BC := BC.grown hgA hBA (fun k e => (World.ownsRow.lt ro k e).1)
            clear ownA hgA hwA ro nw
            refine hK.out _ _ ⟨c0, c1, c2⟩ (fun hHeld2 => ?_)
            clear hK K hHeld
            have hHeld := hHeld2
            clear hHeld2
            try simp only [Act.put, List.setIfInBounds_toArray, List.set_cons_zero, List.set_cons_succ]
            refine take_one 13 4 (v := ?_) rfl rfl (by kernel_rfl) (by kernel_rfl) (by kernel_rfl) (fun _ _ _ h => h) (Or.inl ⟨by rfl, ?_⟩) hHeld ?_
            rotate_left
            · intro w' hSw; (try dsimp only at hSw); obtain ⟨k0, k1, k2⟩ := hSw; have hn0 : 0 < l3.length := (by omega); have hn1 : 1 < l3.length := (by omega); have hn2 : 2 < l3.length := (by omega); go_simp; try with_reducible rfl
            try simp only [Act.put]
            refine wpAnyH_done (by kernel_rfl) ?_ _
            have HR : ∃ (i' p' : Nat) (L' : List TS) (oa' : Option Addr) (oc' : Nat), i' ≤ m ∧ Value.int .i64 ((i : Int) + 1) = .int .i64 (i' : Int) ∧ Value.int .i64 (e : Int) = .int .i64 (p' : Int) ∧ Value.slice na (L.length + 1) nc = .slice oa' L'.length oc' ∧ Hid (rdI s p i' = some (L', p')) ∧ FOwn 31 3 cS w.heap.size oa' oc' L' wA ∧ Hid (∀ k, (Value.slice oa' L'.length oc').ownBlock = some k → k ≠ vg) ∧ wA.cell? ⟨vg, 0, none⟩ = some (.int .i64 (m : Int)) ∧ Below w.heap.size w wA :=
              ⟨i + 1, e, _, na, nc, by omega, by go_num, rfl, by rw [hle9], HI2, RA, by rw [hle9]; exact HV2, cv, BC⟩
            clear RA HV2 HV cv BC HI2 hHeld c0 c1 c2
            go_wp2
            go_roundw
            case rel => exact HR
            case measure => simp [intOf]; omega
        · obtain rfl : i = m := by omega
          have hlt2 : ¬ ((i : Int) < (i : Int)) := by omega
          have HF : Hid (fin = if shT L = s then (L, true) else ([], false)) := by show _ = _; rw [HE.out, HI.out]
          have K := specShow_is oa oc L wr (FOwn.row lS ro) (by omega)
          clear HE HI hle hLi
          go_wp2_with fail
          refine K.mono ?_
          clear K
          rintro en W2 ⟨rfl, hb⟩
          replace ro : FOwn 31 3 cS w.heap.size oa oc L W2 := own_later ro hb
          replace BC := BC.trans (hb.mono BC.size)
          clear hb
          by_cases c : shT L = s
          · have HN : Hid (fin = (L, true)) := by show _ = _; rw [HF.out, if_pos c]
            rw [c]
            have hz1 : (s.toList == s.toList) = true := by simp
            have hz2 : (s.toList != s.toList) = false := by simp
            clear HF c
            go_wp2
            refine bodyPost_ret (results_tmp2 rfl _ _ _) rfl ?_
            exact ⟨⟨oa, oc, by rw [HN.out]; rfl, by rw [HN.out]; exact ro⟩, BC⟩
          · have HN : Hid (fin = ([], false)) := by show _ = _; rw [HF.out, if_neg c]
            have hz1 : ((shT L).toList == s.toList) = false := same_list9 c
            have hz2 : ((shT L).toList != s.toList) = true := by rw [bne, hz1]; rfl
            clear HF c
            generalize shT L = sl at hz1 hz2
            obtain ⟨VN, hVN⟩ : ∃ V, World.alloc W2 (.cells #[] 31) = V := ⟨_, rfl⟩
            have hbV : Below W2.heap.size W2 VN := by rw [← hVN]; exact (Below.refl _ _).alloc (Nat.le_refl _) _
            have roV : FOwn 31 3 cS w.heap.size (some ⟨W2.heap.size, 0, none⟩) 0 [] VN := by rw [← hVN]; exact World.ownsRow_lit _ _ _ BC.size (by simp [maxLen]) rfl
            have BF : Below w.heap.size w VN := BC.trans (hbV.mono BC.size)
            have hbz := build0_run
            go_wp2
            try rw [hVN]
            refine bodyPost_ret (results_tmp2 rfl _ _ _) rfl ?_
            exact ⟨⟨_, _, by rw [HN.out]; rfl, by rw [HN.out]; exact roV⟩, BF⟩
end Go.Proofs.Ytkfjpgkpmdbnoaa
