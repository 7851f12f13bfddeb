/- The law on tables. -/
import Derived.Test.YtkfjpgkpmdbnoaaLx0
import Derived.Test.YtkfjpgkpmdbnoaaPl0
import Derived.Test.YtkfjpgkpmdbnoaaKe1
import Derived.Test.YtkfjpgkpmdbnoaaAd1
import Derived.Test.YtkfjpgkpmdbnoaaTd1
import Derived.Test.YtkfjpgkpmdbnoaaDw1
import Derived.Deep.RegionHeld3
import Derived.Deep.CutRange
import Derived.Deep.DeepCutAuto
set_option linter.unusedVariables false
set_option maxRecDepth 100000
namespace Go.Proofs.Ytkfjpgkpmdbnoaa
open Go Go.RowKit Go.Joins Own Draw Go.Proofs.Ytkfjpgkpmdbnoaa.Var

theorem pu_few (xs : List TS) (x : TS) : (puT xs x).length = xs.length + 1 := pu_len ..
theorem ad_few {ys : List TS} {who key : Int} (h : ys.length ≤ 1048576) : (adT ys who key).1.length ≤ 1048576 := by
  cases ht : tabB ys with
  | false => rw [adT_bad ht]; exact Nat.zero_le _
  | true => exact Nat.le_trans (lawB ht who key).lenx (by decide)
set_option maxRecDepth 100000 in
set_option maxHeartbeats 25600000 in
theorem law_tab (ad : Option Addr) (len cap : Nat) (zs : List Int) (W : World) (hl : len ≤ 1048576) (hz : CodeAt W W.heap.size ad len zs) :
    Calls Try.prog 3 #[.slice ad len cap] W fun e w' => e = .returned (.bool true) ∧ Below W.heap.size W w' := by
  go_enter Try.func3, Try.ntmps3
  go_wp2_with fail
  refine (big_go ad len cap W hl).mono ?_
  rintro e w0 ⟨rfl, rfl⟩
  have K := drawAdd_is ad len cap zs W hz
  clear hz
  go_wp2_with fail
  refine K.mono ?_
  clear K
  rintro e w1 ⟨⟨who, key, ra, rc, ys, rfl, hy, ro⟩, BC⟩
  have HB0 : Hid (∃ n, W.heap.size = n) := ⟨_, rfl⟩
  clear HB0
  have hy11 : ys.length ≤ 1048576 := by omega
  have K := implAdd_is W.heap.size rc ra ys who key w1 ro hy11
  have KS := fun w' h => specAdd_is ra rc ys who key w' h hy11
  have HL : Hid (tabB ys = true → LawB ys (adT ys who key).1 who key (adT ys who key).2) := fun h => lawB h who key
  have HN : Hid (tabB ys = false → (adT ys who key).1 = []) := fun h => by rw [adT_bad h]
  have hxl : (adT ys who key).1.length ≤ 1048576 := ad_few hy11
  obtain ⟨xs, is, hxs⟩ : ∃ x b, adT ys who key = (x, b) := ⟨_, _, rfl⟩
  simp only [hxs] at K KS HL HN hxl
  clear hxs
  go_wp2_with fail
  refine K.mono ?_
  clear K
  rintro e w2 ⟨xa, xc, rfl, rx, hb⟩
  replace ro : FOwn 31 3 cS W.heap.size ra rc ys w2 := own_later ro hb
  replace BC := BC.trans (hb.mono BC.size)
  clear hb
  have K := KS w2 (FOwn.row lS ro)
  clear KS
  go_wp2_with fail
  refine K.mono ?_
  clear K
  rintro e w3 ⟨va, vc, rfl, _, hb⟩
  replace ro : FOwn 31 3 cS W.heap.size ra rc ys w3 := own_later ro hb
  replace rx : FOwn 31 3 cS w1.heap.size xa xc xs w3 := own_later rx hb
  replace BC := BC.trans (hb.mono BC.size)
  clear hb
  have K := specTab_is ra rc ys w3 (FOwn.row lS ro) hy11
  obtain ⟨okT, hokT⟩ : ∃ b, tabB ys = b := ⟨_, rfl⟩
  rw [hokT] at K
  have HL2 : Hid (okT = true → LawB ys xs who key is) := fun h => HL.out (hokT.trans h)
  have HN2 : Hid (okT = false → xs = []) := fun h => HN.out (hokT.trans h)
  clear HL HN hokT
  go_wp2_with fail
  refine K.mono ?_
  clear K
  rintro e w4 ⟨rfl, hb⟩
  replace ro : FOwn 31 3 cS W.heap.size ra rc ys w4 := own_later ro hb
  replace rx : FOwn 31 3 cS w1.heap.size xa xc xs w4 := own_later rx hb
  replace BC := BC.trans (hb.mono BC.size)
  clear hb
  cases okT with
  | false =>
    have hx := HN2.out rfl
    subst hx
    clear HN2 HL2 ro rx
    go_wp2
    go_ret
    exact ⟨rfl, BC⟩
  | true =>
    have LB := HL2.out rfl
    clear HL2 HN2
    obtain ⟨ok, ylen, xlen, yes, no, old, fi, k1, kn, k20, k0⟩ := LB
    have K := specNow_is ra rc ys who w4 (FOwn.row lS ro) hy11
    have K2 := fun w' h => implNow_is xa xc xs who w' h hxl
    have K3 := fun a c w' h => implNow_is a c (keT xs 1) who w' h (Nat.le_trans (keT_len xs 1) hxl)
    simp only [kn] at K3
    obtain ⟨⟨o0, o1, o2⟩, was, hod⟩ : ∃ x b, noT ys who = (x, b) := ⟨_, _, rfl⟩
    obtain ⟨⟨n0, n1, n2⟩, th, hnw⟩ : ∃ x b, noT xs who = (x, b) := ⟨_, _, rfl⟩
    simp only [hod, hnw] at K K2 K3 yes no old
    clear hod hnw kn
    dsimp only [vS] at K K2 K3
    have HYES : Hid (is = true → th = true ∧ n2 = key ∧ (was = true → n1 = o1 + 1) ∧ (was = false → n1 = 1) ∧ xs.length = ys.length + 1) := yes
    have HNO : Hid (is = false → ((n0, n1, n2), th) = ((o0, o1, o2), was)) := no
    have HFI : Hid (∀ k (h : k < ys.length), fiT xs ys[k].1 ys[k].2.1 = (ys[k].2.2, true)) := fi
    have HK3 := K3
    have HK1 := (show Hid (tabB (keT xs 1) = true) from k1)
    have H20 := (show Hid ((keT xs 20).length = xs.length) from k20)
    have H0 := (show Hid ((keT xs 0).length = 0) from k0)
    have HOK := (show Hid (tabB xs = true) from ok)
    clear yes no fi K3 k1 k20 k0 ok ylen xlen
    go_wp2_with fail
    refine K.mono ?_
    clear K
    rintro e w5 ⟨rfl, hb⟩
    replace ro : FOwn 31 3 cS W.heap.size ra rc ys w5 := own_later ro hb
    replace rx : FOwn 31 3 cS w1.heap.size xa xc xs w5 := own_later rx hb
    replace BC := BC.trans (hb.mono BC.size)
    clear hb
    obtain ⟨V5, hV5⟩ : ∃ V, w5.alloc (.cells #[.int .i64 o0, .int .i64 o1, .int .i64 o2] 31) = V := ⟨_, rfl⟩
    have T5 : Blk w5.heap.size [.int .i64 o0, .int .i64 o1, .int .i64 o2] V5 := by rw [← hV5]; exact Blk.new _ _ _
    have hb : Below w5.heap.size w5 V5 := by rw [← hV5]; exact (Below.refl _ _).alloc (Nat.le_refl _) _
    replace ro : FOwn 31 3 cS W.heap.size ra rc ys V5 := own_later ro hb
    replace rx : FOwn 31 3 cS w1.heap.size xa xc xs V5 := own_later rx hb
    replace BC := BC.trans (hb.mono BC.size)
    clear hb
    obtain ⟨b5, hb5⟩ : ∃ n, w5.heap.size = n := ⟨_, rfl⟩
    rw [hb5] at T5
    have K := K2 V5 (FOwn.row lS rx)
    clear K2
    go_wp2_with fail
    try rw [hV5]
    try rw [hb5]
    refine K.mono ?_
    clear K hV5 hb5
    rintro e w6 ⟨rfl, hb⟩
    replace ro : FOwn 31 3 cS W.heap.size ra rc ys w6 := own_later ro hb
    replace rx : FOwn 31 3 cS w1.heap.size xa xc xs w6 := own_later rx hb
    replace T5 := T5.later hb T5.lt
    replace BC := BC.trans (hb.mono BC.size)
    clear hb
    obtain ⟨V6, hV6⟩ : ∃ V, w6.alloc (.cells #[.int .i64 n0, .int .i64 n1, .int .i64 n2] 31) = V := ⟨_, rfl⟩
    have T6 : Blk w6.heap.size [.int .i64 n0, .int .i64 n1, .int .i64 n2] V6 := by rw [← hV6]; exact Blk.new _ _ _
    have hb : Below w6.heap.size w6 V6 := by rw [← hV6]; exact (Below.refl _ _).alloc (Nat.le_refl _) _
    replace ro : FOwn 31 3 cS W.heap.size ra rc ys V6 := own_later ro hb
    replace rx : FOwn 31 3 cS w1.heap.size xa xc xs V6 := own_later rx hb
    replace T5 := T5.later hb T5.lt
    replace BC := BC.trans (hb.mono BC.size)
    clear hb
    obtain ⟨b6, hb6⟩ : ∃ n, w6.heap.size = n := ⟨_, rfl⟩
    rw [hb6] at T6
    go_upto_region 12 with fail
    try rw [hV6]
    try rw [hb6]
    clear hV6 hb6
    go_cut [115] (fun s115 wx => s115 = .bool false ∧ Hid (FOwn 31 3 cS W.heap.size ra rc ys wx ∧ FOwn 31 3 cS w1.heap.size xa xc xs wx ∧ Blk b6 [.int .i64 n0, .int .i64 n1, .int .i64 n2] wx ∧ Below W.heap.size W wx))
    case first =>
      have d0 := T5.at 0 rfl
      have d1 := T5.at 1 rfl
      have d2 := T5.at 2 rfl
      have f0 := T6.at 0 rfl
      have f1 := T6.at 1 rfl
      have f2 := T6.at 2 rfl
      clear HFI HK3
      cases is with
      | false =>
        have he := HNO.out rfl
        clear HYES HNO
        injection he with he1 he2
        injection he1 with he1 he3
        injection he3 with he3 he4
        subst he1 he3 he4 he2
        have HH : Hid (FOwn 31 3 cS W.heap.size ra rc ys V6 ∧ FOwn 31 3 cS w1.heap.size xa xc xs V6 ∧ Blk b6 [.int .i64 n0, .int .i64 n1, .int .i64 n2] V6 ∧ Below W.heap.size W V6) := ⟨ro, rx, T6, BC⟩
        clear T5 T6 ro rx BC
        go_wp2
        go_meet
        exact ⟨rfl, HH⟩
      | true =>
        obtain ⟨h1, h2, h3, h4, h5⟩ := HYES.out rfl
        subst h1 h2
        have HLX : Hid ((xs.length : Int) = (ys.length : Int) + 1) := by show _ = _; omega
        obtain ⟨old1, old2⟩ := old
        clear HYES HNO h5
        have K := specTab_is xa xc xs V6 (FOwn.row lS rx) hxl
        rw [HOK.out] at K
        cases was with
        | true =>
          have h6 : n1 = o1 + 1 := h3 rfl
          clear h3 h4
          subst h6
          go_wp2_with fail
          refine K.mono ?_
          clear K
          rintro e w7 ⟨rfl, hb⟩
          replace ro : FOwn 31 3 cS W.heap.size ra rc ys w7 := own_later ro hb
          replace rx : FOwn 31 3 cS w1.heap.size xa xc xs w7 := own_later rx hb
          replace T5 := T5.later hb T5.lt
          replace T6 := T6.later hb T6.lt
          replace BC := BC.trans (hb.mono BC.size)
          clear hb
          have HH : Hid (FOwn 31 3 cS W.heap.size ra rc ys w7 ∧ FOwn 31 3 cS w1.heap.size xa xc xs w7 ∧ Blk b6 [.int .i64 n0, .int .i64 (o1 + 1), .int .i64 n2] w7 ∧ Below W.heap.size W w7) := ⟨ro, rx, T6, BC⟩
          clear T5 T6 ro rx BC d0 d1 d2 f0 f1 f2
          have hlx := HLX.out
          go_wp2
          go_meet
          exact ⟨rfl, HH⟩
        | false =>
          have h6 : n1 = 1 := h4 rfl
          clear h3 h4
          subst h6
          go_wp2_with fail
          refine K.mono ?_
          clear K
          rintro e w7 ⟨rfl, hb⟩
          replace ro : FOwn 31 3 cS W.heap.size ra rc ys w7 := own_later ro hb
          replace rx : FOwn 31 3 cS w1.heap.size xa xc xs w7 := own_later rx hb
          replace T5 := T5.later hb T5.lt
          replace T6 := T6.later hb T6.lt
          replace BC := BC.trans (hb.mono BC.size)
          clear hb
          have HH : Hid (FOwn 31 3 cS W.heap.size ra rc ys w7 ∧ FOwn 31 3 cS w1.heap.size xa xc xs w7 ∧ Blk b6 [.int .i64 n0, .int .i64 (1), .int .i64 n2] w7 ∧ Below W.heap.size W w7) := ⟨ro, rx, T6, BC⟩
          clear T5 T6 ro rx BC d0 d1 d2 f0 f1 f2
          have hlx := HLX.out
          go_wp2
          go_meet
          exact ⟨rfl, HH⟩
    case rest =>
    obtain ⟨rfl, HT⟩ := hcut
    clear T5 T6 ro rx BC HYES HNO old
    obtain ⟨ro, rx, TN, BC⟩ := HT.out
    clear HT
    have hyl : (ys.length : Int) ≤ 20 := by omega
    go_wp2
    go_loopw [14] (fun iv wr => ∃ j : Nat, j ≤ ys.length ∧ iv = .int .i64 j ∧ (FOwn 31 3 cS W.heap.size ra rc ys wr ∧ FOwn 31 3 cS w1.heap.size xa xc xs wr ∧ Blk b6 [.int .i64 n0, .int .i64 n1, .int .i64 n2] wr ∧ Below W.heap.size W wr)) (fun iv _ => ys.length - (intOf iv).toNat)
    case atStart => exact ⟨0, Nat.zero_le _, rfl, ro, rx, TN, BC⟩
    case round =>
      clear BC ro rx TN
      obtain ⟨j, hj, rfl, ro, rx, TN, BC⟩ := hrel
      obtain ⟨wo, hwo⟩ : ∃ wo, wo = wr := ⟨_, rfl⟩
      subst hwo
      by_cases hlt : j < ys.length
      · obtain ⟨b, off, rfl, hb0, hc⟩ := (FOwn.row lS ro) j hlt
        have hlt2 : (j : Int) < (ys.length : Int) := by omega
        have hfi := HFI.out j hlt
        have c0 : wo.cell? ⟨b, off + j * 3, none⟩ = some (.int .i64 ys[j].1) := hc 0 _ rfl
        have c1 : wo.cell? ⟨b, off + j * 3 + 1, none⟩ = some (.int .i64 ys[j].2.1) := hc 1 _ rfl
        have c2 : wo.cell? ⟨b, off + j * 3 + 2, none⟩ = some (.int .i64 ys[j].2.2) := hc 2 _ rfl
        have K := fun w' h => implFind_is xa xc xs ys[j].1 ys[j].2.1 w' h hxl
        simp only [hfi] at K
        generalize ys[j].1 = x0 at K c0 hfi
        generalize ys[j].2.1 = x1 at K c1 hfi
        generalize ys[j].2.2 = x2 at K c2 hfi
        clear hc hfi HFI HK3
        have KF := K
        clear K
        go_wp2_with fail
        replace c0 : wo.drew.cell? ⟨b, off + j * 3, none⟩ = _ := c0
        replace c1 : wo.drew.cell? ⟨b, off + j * 3 + 1, none⟩ = _ := c1
        replace c2 : wo.drew.cell? ⟨b, off + j * 3 + 2, none⟩ = _ := c2
        replace ro : FOwn 31 3 cS W.heap.size (some ⟨b, off, none⟩) rc ys wo.drew := ro
        replace rx : FOwn 31 3 cS w1.heap.size xa xc xs wo.drew := rx
        replace TN := TN.drew
        replace BC := BC.drew
        refine wp_region_held_drew (S := (fun Vw => Vw.cell? ⟨b, off + j * 3, none⟩ = some (.int .i64 x0) ∧ Vw.cell? ⟨b, off + j * 3 + 1, none⟩ = some (.int .i64 x1) ∧ Vw.cell? ⟨b, off + j * 3 + 2, none⟩ = some (.int .i64 x2))) (by kernel_rfl) ⟨c0, c1, c2⟩ (fun hHeld => ?_)
        refine take_one 0 123 (v := ?_) rfl rfl (by kernel_rfl) (by kernel_rfl) (by kernel_rfl) (fun _ _ _ h => h) (Or.inl ⟨by rfl, ?_⟩) hHeld ?_
        rotate_left
        · intro w' hSw; (try dsimp only at hSw); obtain ⟨k0_, k1_, k2_⟩ := hSw; go_simp; try with_reducible rfl
        try simp only [Act.put, List.setIfInBounds_toArray, List.set_cons_zero, List.set_cons_succ]
        refine take_one 1 124 (v := ?_) rfl rfl (by kernel_rfl) (by kernel_rfl) (by kernel_rfl) (fun _ _ _ h => h) (Or.inl ⟨by rfl, ?_⟩) hHeld ?_
        rotate_left
        · intro w' hSw; (try dsimp only at hSw); obtain ⟨k0_, k1_, k2_⟩ := hSw; go_simp; try with_reducible rfl
        try simp only [Act.put, List.setIfInBounds_toArray, List.set_cons_zero, List.set_cons_succ]
        refine take_one 2 125 (v := ?_) rfl rfl (by kernel_rfl) (by kernel_rfl) (by kernel_rfl) (fun _ _ _ h => h) (Or.inl ⟨by rfl, ?_⟩) hHeld ?_
        rotate_left
        · intro w' hSw; (try dsimp only at hSw); obtain ⟨k0_, k1_, k2_⟩ := hSw; go_simp; try with_reducible rfl
        try simp only [Act.put, List.setIfInBounds_toArray, List.set_cons_zero, List.set_cons_succ]
        refine take_one 3 126 (v := ?_) rfl rfl (by kernel_rfl) (by kernel_rfl) (by kernel_rfl) (fun _ _ _ h => h) (Or.inl ⟨by rfl, ?_⟩) hHeld ?_
        rotate_left
        · intro w' hSw; (try dsimp only at hSw); obtain ⟨k0_, k1_, k2_⟩ := hSw; go_simp; try with_reducible rfl
        try simp only [Act.put, List.setIfInBounds_toArray, List.set_cons_zero, List.set_cons_succ]
        refine take_one 4 127 (v := ?_) rfl rfl (by kernel_rfl) (by kernel_rfl) (by kernel_rfl) (fun _ _ _ h => h) (Or.inl ⟨by rfl, ?_⟩) hHeld ?_
        rotate_left
        · intro w' hSw; (try dsimp only at hSw); obtain ⟨k0_, k1_, k2_⟩ := hSw; go_simp; try with_reducible rfl
        try simp only [Act.put, List.setIfInBounds_toArray, List.set_cons_zero, List.set_cons_succ]
        refine take_one 5 128 (v := ?_) rfl rfl (by kernel_rfl) (by kernel_rfl) (by kernel_rfl) (fun _ _ _ h => h) (Or.inl ⟨by rfl, ?_⟩) hHeld ?_
        rotate_left
        · intro w' hSw; (try dsimp only at hSw); obtain ⟨k0_, k1_, k2_⟩ := hSw; go_simp; try with_reducible rfl
        try simp only [Act.put, List.setIfInBounds_toArray, List.set_cons_zero, List.set_cons_succ]
        refine take_one 6 129 (v := ?_) rfl rfl (by kernel_rfl) (by kernel_rfl) (by kernel_rfl) (fun _ _ _ h => h) (Or.inl ⟨by rfl, ?_⟩) hHeld ?_
        rotate_left
        · intro w' hSw; (try dsimp only at hSw); obtain ⟨k0_, k1_, k2_⟩ := hSw; go_simp; try with_reducible rfl
        try simp only [Act.put, List.setIfInBounds_toArray, List.set_cons_zero, List.set_cons_succ]
        refine take_one 7 130 (v := ?_) rfl rfl (by kernel_rfl) (by kernel_rfl) (by kernel_rfl) (fun _ _ _ h => h) (Or.inl ⟨by rfl, ?_⟩) hHeld ?_
        rotate_left
        · intro w' hSw; (try dsimp only at hSw); obtain ⟨k0_, k1_, k2_⟩ := hSw; go_simp; try with_reducible rfl
        try simp only [Act.put, List.setIfInBounds_toArray, List.set_cons_zero, List.set_cons_succ]
        refine take_one 8 131 (v := ?_) rfl rfl (by kernel_rfl) (by kernel_rfl) (by kernel_rfl) (fun _ _ _ h => h) (Or.inl ⟨by rfl, ?_⟩) hHeld ?_
        rotate_left
        · intro w' hSw; (try dsimp only at hSw); obtain ⟨k0_, k1_, k2_⟩ := hSw; go_simp; try with_reducible rfl
        try simp only [Act.put, List.setIfInBounds_toArray, List.set_cons_zero, List.set_cons_succ]
        refine take_one 9 132 (v := ?_) rfl rfl (by kernel_rfl) (by kernel_rfl) (by kernel_rfl) (fun _ _ _ h => h) (Or.inl ⟨by rfl, ?_⟩) hHeld ?_
        rotate_left
        · intro w' hSw; (try dsimp only at hSw); obtain ⟨k0_, k1_, k2_⟩ := hSw; go_simp; try with_reducible rfl
        try simp only [Act.put, List.setIfInBounds_toArray, List.set_cons_zero, List.set_cons_succ]
        refine take_one 10 133 (v := ?_) rfl rfl (by kernel_rfl) (by kernel_rfl) (by kernel_rfl) (fun _ _ _ h => h) (Or.inl ⟨by rfl, ?_⟩) hHeld ?_
        rotate_left
        · intro w' hSw; (try dsimp only at hSw); obtain ⟨k0_, k1_, k2_⟩ := hSw; go_simp; try with_reducible rfl
        try simp only [Act.put, List.setIfInBounds_toArray, List.set_cons_zero, List.set_cons_succ]
        refine wpAnyH_ready (rs := [11]) (by kernel_rfl) (by simp) ?_
        refine AllReadyH.cons (i := 11) rfl (fun K hK => ?_) AllReadyH.nil
        go_simp
        refine (KF _ (FOwn.row lS rx)).mono ?_
        rintro en v1 ⟨rfl, hb⟩
        replace c0 := (hb.cell (p := ⟨b, off + j * 3, none⟩) hb0).trans c0
        replace c1 := (hb.cell (p := ⟨b, off + j * 3 + 1, none⟩) hb0).trans c1
        replace c2 := (hb.cell (p := ⟨b, off + j * 3 + 2, none⟩) hb0).trans c2
        replace ro : FOwn 31 3 cS W.heap.size (some ⟨b, off, none⟩) rc ys v1 := own_later ro hb
        replace rx : FOwn 31 3 cS w1.heap.size xa xc xs v1 := own_later rx hb
        replace TN := TN.later hb TN.lt
        replace BC := BC.trans (hb.mono BC.size)
        clear hb
        clear KF
        go_wp2_with fail
        refine hK.out _ _ ⟨c0, c1, c2⟩ (fun hHeld2 => ?_)
        clear hK K hHeld
        have hHeld := hHeld2
        clear hHeld2
        try simp only [Act.put, List.setIfInBounds_toArray, List.set_cons_zero, List.set_cons_succ]
        refine take_one 12 122 (v := ?_) rfl rfl (by kernel_rfl) (by kernel_rfl) (by kernel_rfl) (fun _ _ _ h => h) (Or.inl ⟨by rfl, ?_⟩) hHeld ?_
        rotate_left
        · intro w' hSw; (try dsimp only at hSw); obtain ⟨k0_, k1_, k2_⟩ := hSw; go_simp; try with_reducible rfl
        try simp only [Act.put, List.setIfInBounds_toArray, List.set_cons_zero, List.set_cons_succ]
        refine take_one 13 135 (v := ?_) rfl rfl (by kernel_rfl) (by kernel_rfl) (by kernel_rfl) (fun _ _ _ h => h) (Or.inl ⟨by rfl, ?_⟩) hHeld ?_
        rotate_left
        · intro w' hSw; (try dsimp only at hSw); obtain ⟨k0_, k1_, k2_⟩ := hSw; go_simp; try with_reducible rfl
        try simp only [Act.put, List.setIfInBounds_toArray, List.set_cons_zero, List.set_cons_succ]
        refine take_one 14 136 (v := ?_) rfl rfl (by kernel_rfl) (by kernel_rfl) (by kernel_rfl) (fun _ _ _ h => h) (Or.inl ⟨by rfl, ?_⟩) hHeld ?_
        rotate_left
        · intro w' hSw; (try dsimp only at hSw); obtain ⟨k0_, k1_, k2_⟩ := hSw; go_simp; try with_reducible rfl
        try simp only [Act.put, List.setIfInBounds_toArray, List.set_cons_zero, List.set_cons_succ]
        refine take_one 15 15 (v := ?_) rfl rfl (by kernel_rfl) (by kernel_rfl) (by kernel_rfl) (fun _ _ _ h => h) (Or.inl ⟨by rfl, ?_⟩) hHeld ?_
        rotate_left
        · intro w' hSw; (try dsimp only at hSw); obtain ⟨k0_, k1_, k2_⟩ := hSw; go_simp; try with_reducible rfl
        try simp only [Act.put, List.setIfInBounds_toArray, List.set_cons_zero, List.set_cons_succ]
        refine take_one 16 16 (v := ?_) rfl rfl (by kernel_rfl) (by kernel_rfl) (by kernel_rfl) (fun _ _ _ h => h) (Or.inl ⟨by rfl, ?_⟩) hHeld ?_
        rotate_left
        · intro w' hSw; (try dsimp only at hSw); obtain ⟨k0_, k1_, k2_⟩ := hSw; go_simp; try with_reducible rfl
        try simp only [Act.put, List.setIfInBounds_toArray, List.set_cons_zero, List.set_cons_succ]
        refine wpAnyH_done (by kernel_rfl) ?_ _
        have HH : Hid (FOwn 31 3 cS W.heap.size (some ⟨b, off, none⟩) rc ys v1 ∧ FOwn 31 3 cS w1.heap.size xa xc xs v1 ∧ Blk b6 [.int .i64 n0, .int .i64 n1, .int .i64 n2] v1 ∧ Below W.heap.size W v1) := ⟨ro, rx, TN, BC⟩
        clear ro rx TN BC
        go_wp2
        go_roundw
        case rel => exact ⟨j + 1, by omega, by go_num, HH.out⟩
        case measure => simp [intOf]; omega
      · obtain rfl : j = ys.length := by omega
        have hlt2 : ¬ ((ys.length : Int) < (ys.length : Int)) := by omega
        clear HFI ro
        have K := implKeep_is w1.heap.size xc xa xs 1 wo rx hxl (by unfold i64; omega)
        go_wp2_with fail
        refine K.mono ?_
        clear K
        rintro e w21 ⟨pa, pc, rfl, rp, hb⟩
        replace rx : FOwn 31 3 cS w1.heap.size xa xc xs w21 := own_later rx hb
        replace TN := TN.later hb TN.lt
        replace BC := BC.trans (hb.mono BC.size)
        clear hb
        have K := HK3 pa pc w21 (FOwn.row lS rp)
        clear HK3
        go_wp2_with fail
        refine K.mono ?_
        clear K
        rintro e w22 ⟨rfl, hb⟩
        replace rx : FOwn 31 3 cS w1.heap.size xa xc xs w22 := own_later rx hb
        replace rp : FOwn 31 3 cS wo.heap.size pa pc (keT xs 1) w22 := own_later rp hb
        replace TN := TN.later hb TN.lt
        replace BC := BC.trans (hb.mono BC.size)
        clear hb
        obtain ⟨V8, hV8⟩ : ∃ V, w22.alloc (.cells #[.int .i64 n0, .int .i64 n1, .int .i64 n2] 31) = V := ⟨_, rfl⟩
        have T8 : Blk w22.heap.size [.int .i64 n0, .int .i64 n1, .int .i64 n2] V8 := by rw [← hV8]; exact Blk.new _ _ _
        have hb : Below w22.heap.size w22 V8 := by rw [← hV8]; exact (Below.refl _ _).alloc (Nat.le_refl _) _
        replace rx : FOwn 31 3 cS w1.heap.size xa xc xs V8 := own_later rx hb
        replace rp : FOwn 31 3 cS wo.heap.size pa pc (keT xs 1) V8 := own_later rp hb
        replace TN := TN.later hb TN.lt
        replace BC := BC.trans (hb.mono BC.size)
        clear hb
        obtain ⟨b8, hb8⟩ : ∃ n, w22.heap.size = n := ⟨_, rfl⟩
        rw [hb8] at T8
        have d0 := T8.at 0 rfl
        have d1 := T8.at 1 rfl
        have d2 := T8.at 2 rfl
        have f0 := TN.at 0 rfl
        have f1 := TN.at 1 rfl
        have f2 := TN.at 2 rfl
        have K := specTab_is pa pc (keT xs 1) V8 (FOwn.row lS rp) (Nat.le_trans (keT_len xs 1) hxl)
        rw [HK1.out] at K
        go_wp2_with fail
        try rw [hV8]
        try rw [hb8]
        refine K.mono ?_
        clear K hV8 hb8
        rintro e w23 ⟨rfl, hb⟩
        replace rx : FOwn 31 3 cS w1.heap.size xa xc xs w23 := own_later rx hb
        replace rp : FOwn 31 3 cS wo.heap.size pa pc (keT xs 1) w23 := own_later rp hb
        replace TN := TN.later hb TN.lt
        replace T8 := T8.later hb T8.lt
        replace BC := BC.trans (hb.mono BC.size)
        clear hb
        have K := implKeep_is w1.heap.size xc xa xs 20 w23 rx hxl (by unfold i64; omega)
        rw [H20.out] at K
        clear rp TN T8 d0 d1 d2 f0 f1 f2
        go_wp2_with fail
        refine K.mono ?_
        clear K
        rintro e w24 ⟨qa, qc, rfl, _, hb⟩
        replace rx : FOwn 31 3 cS w1.heap.size xa xc xs w24 := own_later rx hb
        replace BC := BC.trans (hb.mono BC.size)
        clear hb
        have K := implKeep_is w1.heap.size xc xa xs 0 w24 rx hxl (by unfold i64; omega)
        rw [H0.out] at K
        clear rx
        go_wp2_with fail
        refine K.mono ?_
        clear K
        rintro e w25 ⟨za, zc, rfl, _, hb⟩
        replace BC := BC.trans (hb.mono BC.size)
        clear hb
        go_wp2
        go_ret
        exact ⟨rfl, BC⟩
end Go.Proofs.Ytkfjpgkpmdbnoaa
