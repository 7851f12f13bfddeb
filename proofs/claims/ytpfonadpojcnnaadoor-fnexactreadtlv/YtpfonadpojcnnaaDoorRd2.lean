/- A node that is read: the program. -/
import Derived.Test.YtpfonadpojcnnaaDoorRd1
set_option linter.unusedVariables false
set_option maxRecDepth 100000
namespace Go.Proofs.YtpfonadpojcnnaaDoor.Nd
open Go Go.RowKit Go.Joins Own Draw Var

def szOf : Value → Nat
  | .string b => b.size
  | _ => 0
theorem szOf_ext {s : ByteArray} {a en : Nat} (h : en ≤ s.size) : szOf (.string (s.extract a en)) = en - a := ext_size h
set_option maxRecDepth 100000 in
set_option maxHeartbeats 6400000 in
theorem rstep_is (s : ByteArray) (hs : s.size ≤ 900) (deep : Nat) (hd8 : deep ≤ 8) (B gb gm gr : Nat) (hgb : gb < B) (hgm : gm < B) (hgr : gr < B) (n1 : gb ≠ gm) (n2 : gb ≠ gr) (n3 : gm ≠ gr) (nd : List PT → Nat → Nat → Nat → NdR) (hok : deep < 8 → NdOk nd s.size)
    (hnd : deep < 8 → ∀ (r : Rw TT) (bg a en : Nat) (w : World), B ≤ w.heap.size → RoT B w r → ApT r → r.2.2.length ≤ bg → bg ≤ 60 → a ≤ en → en ≤ s.size → Blk gb [.int .i64 bg] w → Blk gm [slT r] w → Blk gr [cloV gb gr gm] w → Calls Tryd.prog 18 #[.string (s.extract a en), .int .i64 ((deep : Int) + 1 + 1), .pointer (some ⟨gb, 0, none⟩), .pointer (some ⟨gr, 0, none⟩), .pointer (some ⟨gm, 0, none⟩)] w fun e w' => ReadP s (nd (rsT r) bg a en) en B gb gm r w e w')
    (r : Rw TT) (bg a en : Nat) (w : World) (hB : B ≤ w.heap.size) (hr : RoT B w r) (hap : ApT r) (hl : r.2.2.length ≤ bg) (hb : bg ≤ 60) (ha : a ≤ en) (he : en ≤ s.size) (bb : Blk gb [.int .i64 bg] w) (bm : Blk gm [slT r] w) (bf : Blk gr [cloV gb gr gm] w) :
    Calls Tryd.prog 18 #[.string (s.extract a en), .int .i64 ((deep : Int) + 1), .pointer (some ⟨gb, 0, none⟩), .pointer (some ⟨gr, 0, none⟩), .pointer (some ⟨gm, 0, none⟩)] w fun e w' => ReadP s (stepN s (decide (deep < 8)) nd (rsT r) bg a en) en B gb gm r w e w' := by
  obtain ⟨it, hit, hits⟩ := info_T
  obtain ⟨oa, oc, xs⟩ := r
  dsimp only [slT] at hl bm ⊢
  have q0 := bb.at 0 rfl
  have fq := bb.fz 0 rfl
  go_enter Tryd.func18, Tryd.ntmps18
  by_cases h60 : bg = 60
  · have c60 : ((bg : Int) == 60) = true := by rw [h60]; rfl
    have HV : Hid (stepN s (decide (deep < 8)) nd (rsT (oa, oc, xs)) bg a en = ((rsT (oa, oc, xs), bg, 4), a)) := by show _ = _; unfold stepN; rw [if_pos (show 60 ≤ bg by omega)]
    clear hok hnd h60
    go_wp2
    go_ret2
    exact ⟨(oa, oc, xs), by rw [HV.out]; rfl, by rw [HV.out], hr, by rw [HV.out]; exact bb, bm, Ch.refl _ _ _ _, Or.inl rfl, fun _ _ h => h, hap⟩
  have h6n : ¬ 60 ≤ bg := by omega
  have c60 : ((bg : Int) == 60) = false := by rw [beq_eq_false_iff_ne]; omega
  obtain ⟨U, hU⟩ : ∃ U, w.setCell ⟨gb, 0, none⟩ (.int .i64 ((bg : Int) + 1)) = U := ⟨_, rfl⟩
  have bb1 : Blk gb [.int .i64 ((bg : Int) + 1)] U := by rw [← hU]; exact bb.set 0 _
  have bm1 : Blk gm [.slice oa xs.length oc] U := by rw [← hU]; exact bm.far (by omega) 0 _
  have bf1 : Blk gr [cloV gb gr gm] U := by rw [← hU]; exact bf.far (by omega) 0 _
  have hr1 : RoT B U (oa, oc, xs) := by rw [← hU]; exact hr.far (set_grown w gb 0 _) hgb
  have ch1 : Ch gb gm (obT (oa, oc, xs)) w U := by rw [← hU]; exact (Ch.refl _ _ _ _).grown (set_grown w gb 0 _) (fun j e => by injection e with e; exact Or.inl e.symm)
  have sU : U.heap.size = w.heap.size := by rw [← hU]; simp
  have KC := cut_is (s.extract a en) (by rw [ext_size he]; omega) ((deep : Int) + 1) U
  go_wp2_with fail
  try rw [hU]
  refine KC.mono ?_
  clear KC
  rintro ex u1 ⟨hcase, hbu⟩
  have bb2 := bb1.later hbu bb1.lt
  have bm2 := bm1.later hbu bm1.lt
  have bf2 := bf1.later hbu bf1.lt
  have hr2 := RoT.later hr1 hbu
  have ch2 := ch1.below hbu
  have s2 : w.heap.size ≤ u1.heap.size := by rw [← sU]; exact hbu.size
  clear bb1 bm1 bf1 hr1 ch1 hbu hU q0 fq
  have SC := step_cut s deep nd (rsT (oa, oc, xs)) bg a en (by omega) he
  rcases hcase with ⟨hc, rfl⟩ | ⟨hc, rfl⟩
  · obtain ⟨c, hcE⟩ : ∃ c, cutC (s.extract a en) ((deep : Int) + 1) = c := ⟨_, rfl⟩
    have HVa := SC.1 hc
    rw [hcE] at hc HVa ⊢
    have HV : Hid (stepN s (decide (deep < 8)) nd (rsT (oa, oc, xs)) bg a en = ((rsT (oa, oc, xs), bg + 1, c), a)) := HVa
    obtain ⟨X0, hX0⟩ : ∃ Y, u1.alloc (.cells #[.int .i64 0, .bool false, .string ⟨#[]⟩, .slice none 0 0] 43) = Y := ⟨_, rfl⟩
    have TX0 : Blk u1.heap.size zC X0 := by rw [← hX0]; exact Blk.new _ _ _
    have BX0 : Below u1.heap.size u1 X0 := by rw [← hX0]; exact (Below.refl _ _).alloc (Nat.le_refl _) _
    obtain ⟨X, hX⟩ : ∃ Y, X0.setCells u1.heap.size 0 zC = Y := ⟨_, rfl⟩
    have BX : Below u1.heap.size u1 X := by rw [← hX]; exact below_sets (Nat.le_refl _) _ _ _ BX0
    clear hok hnd SC HVa hcE
    go_wp2_with (first | (refine wpList_stB 43 _ _ u1.heap.size 0 _ zC it hit TX0 hits.symm (by simp) rfl rfl rfl rfl rfl ?_; rw [hX]))
    go_ret2
    exact ⟨(oa, oc, xs), by rw [HV.out]; dsimp only; rw [errV_no hc, behS_no hc]; rfl, by rw [HV.out], RoT.later hr2 BX, by rw [HV.out]; exact bb2.later BX bb2.lt, bm2.later BX bm2.lt, ch2.below BX, Or.inl rfl, fun _ _ h => h, hap⟩
  obtain ⟨h8, hae, hv1, hv2, HST0⟩ := SC.2 hc
  clear SC hc c60
  obtain ⟨k, hk⟩ : ∃ k, vrN s a en = k := ⟨_, rfl⟩
  obtain ⟨n, hn⟩ : ∃ n, lnN s a en = n := ⟨_, rfl⟩
  rw [hk, hn] at hv2 HST0
  rw [hk] at hv1
  have e1 : (s.extract a en).extract (1 + k) (1 + k + n) = s.extract (a + 1 + k) (a + 1 + k + n) := by rw [ext_ext (by omega)]; congr 1 <;> omega
  have e2 : (s.extract a en).extract (1 + k + n) (s.extract a en).size = s.extract (a + 1 + k + n) en := by rw [ext_size he, ext_ext (by omega)]; congr 1 <;> omega
  rw [(cut_vr he hae).1, (cut_vr he hae).2, (cut_tg he hae).1, (cut_tg he hae).2, hk, hn, e1, e2]
  clear e1 e2 hk hn
  have hobw : ∀ j, obT (oa, oc, xs) = some j → B ≤ j ∧ j < u1.heap.size := fun j e => World.ownsRow.lt hr2.1 j e
  obtain ⟨X0, hX0⟩ : ∃ Y, u1.alloc (.cells #[.int .i64 0, .bool false, .string ⟨#[]⟩, .slice none 0 0] 43) = Y := ⟨_, rfl⟩
  have TX0 : Blk u1.heap.size zC X0 := by rw [← hX0]; exact Blk.new _ _ _
  have BX0 : Below u1.heap.size u1 X0 := by rw [← hX0]; exact (Below.refl _ _).alloc (Nat.le_refl _) _
  by_cases hlf : lfB s a = true
  · rw [hlf]
    rw [if_pos hlf] at HST0
    have HV : Hid (stepN s (decide (deep < 8)) nd (rsT (oa, oc, xs)) bg a en = ((rsT (oa, oc, xs) ++ [stT ((tgN s a, true, s.extract (a + 1 + k) (a + 1 + k + n), (none, 0, [])) : TT)], bg + 1, 0), a + 1 + k + n)) := HST0
    have HVt := show Hid (_ = _) from (by have := HV.out; rw [decide_eq_true h8] at this; exact this)
    obtain ⟨X, hX⟩ : ∃ Y, X0.setCells u1.heap.size 0 [.int .i64 (tgN s a), .bool true, .string ⟨#[]⟩, .slice none 0 0] = Y := ⟨_, rfl⟩
    have TX : Blk u1.heap.size [.int .i64 (tgN s a), .bool true, .string ⟨#[]⟩, .slice none 0 0] X := by rw [← hX]; exact TX0.sets _ rfl
    have BX : Below u1.heap.size u1 X := by rw [← hX]; exact below_sets (Nat.le_refl _) _ _ _ BX0
    have x1 := TX.at 1 rfl
    have KS := Tryd.strings_Clone (s.extract (a + 1 + k) (a + 1 + k + n)) X (by rw [ext_size (by omega)]; omega)
    clear hok hnd HST0
    go_wp2_with (first | (refine wpList_stB 43 _ _ u1.heap.size 0 _ [.int .i64 (tgN s a), .bool true, .string ⟨#[]⟩, .slice none 0 0] it hit TX0 hits.symm (by simp) rfl rfl rfl rfl rfl ?_; rw [hX]))
    refine KS.mono ?_
    clear KS x1
    rintro ex u2 ⟨rfl, hb3⟩
    have TX2 := TX.later hb3 TX.lt
    have B2 : Below u1.heap.size u1 u2 := BX.trans (hb3.mono BX.size)
    have x2 := TX2.at 2 rfl
    have z2 := TX2.fz 2 rfl
    obtain ⟨Y, hY⟩ : ∃ Y, u2.setCell ⟨u1.heap.size, 2, none⟩ (.string (s.extract (a + 1 + k) (a + 1 + k + n))) = Y := ⟨_, rfl⟩
    have TY : Blk u1.heap.size [.int .i64 (tgN s a), .bool true, .string (s.extract (a + 1 + k) (a + 1 + k + n)), .slice none 0 0] Y := by rw [← hY]; exact TX2.set 2 _
    have BY : Below u1.heap.size u1 Y := by rw [← hY]; exact B2.setCell (Nat.le_refl _) _
    have sY : u1.heap.size < Y.heap.size := TY.lt
    have bbY := bb2.later BY bb2.lt
    have bmY := bm2.later BY bm2.lt
    have chY := ch2.below BY
    have roY := RoT.later hr2 BY
    go_wp2
    try rw [hY]
    obtain ⟨YA, hYA⟩ : ∃ Z, Y.alloc (.cells #[.int .i64 (tgN s a), .bool true, .string (s.extract (a + 1 + k) (a + 1 + k + n)), .slice none 0 0] 43) = Z := ⟨_, rfl⟩
    have TA : Blk Y.heap.size [.int .i64 (tgN s a), .bool true, .string (s.extract (a + 1 + k) (a + 1 + k + n)), .slice none 0 0] YA := by rw [← hYA]; exact Blk.new _ _ _
    have BYA : Below Y.heap.size Y YA := by rw [← hYA]; exact (Below.refl _ _).alloc (Nat.le_refl _) _
    have ROA : RoT B YA (oa, oc, xs) := RoT.later roY BYA
    have KOA : RoI B YA (none, 0, []) := World.ownsRow_nil _ _ _ _
    have BBA := bbY.later BYA bbY.lt
    have BMA := bmY.later BYA bmY.lt
    have CHA := chY.below BYA
    obtain ⟨jt, hjt, hjz, hjs, hjb⟩ := parts_of info44
    have sYA : Y.heap.size < YA.heap.size := TA.lt
    have hBA : B ≤ YA.heap.size := by omega
    have m0 := bmY.at 0 rfl
    refine wp_loop_rounds 1 ?_
    rw [rounds_succ]
    go_wp2_with (first | (refine wpList_ldB 43 _ u1.heap.size 0 _ [.int .i64 (tgN s a), .bool true, .string (s.extract (a + 1 + k) (a + 1 + k + n)), .slice none 0 0] it hit (Tryd.isAgg43) TY hits.symm rfl rfl rfl rfl ?_) | (at_builtin; first | refine wpList_append_where _ rfl _ _ 22 rfl B 43 jt _ 4 56 Tryd.underlying22 hjt hjz hjs hjb rfl (by decide) _ _ _ rfl ROA.1 ⟨Y.heap.size, 0, none⟩ 1 1 [.int .i64 (tgN s a), .bool true, .string (s.extract (a + 1 + k) (a + 1 + k + n)), .slice none 0 0] rfl rfl (news_box TA) (fun u hu => by simp at hu; rcases hu with rfl | rfl | rfl | rfl <;> rfl) ?c3 ?c4 hBA (by decide) ?_ | (rw [hYA]; refine wpList_append_where _ rfl _ _ 22 rfl B 43 jt _ 4 56 Tryd.underlying22 hjt hjz hjs hjb rfl (by decide) _ _ _ rfl ROA.1 ⟨Y.heap.size, 0, none⟩ 1 1 [.int .i64 (tgN s a), .bool true, .string (s.extract (a + 1 + k) (a + 1 + k + n)), .slice none 0 0] rfl rfl (news_box TA) (fun u hu => by simp at hu; rcases hu with rfl | rfl | rfl | rfl <;> rfl) ?c3 ?c4 hBA (by decide) ?_)))
    case c3 => unfold maxLen; (try dsimp only); omega
    case c4 => (try dsimp only); omega
    intro vA wA ownA hgA hwA
    obtain ⟨na, nc, rfl, _⟩ := own_shape ownA
    try dsimp only at ownA hwA ⊢
    obtain ⟨RA, CA, OA⟩ := put_mem (x := ((tgN s a, true, s.extract (a + 1 + k) (a + 1 + k + n), (none, 0, [])) : TT)) ROA KOA ownA hgA hwA
    dsimp only at RA CA OA
    have hlo : ∀ j, obT (oa, oc, xs) = some j → B ≤ j := fun j e => (World.ownsRow.lt ROA.1 j e).1
    have BMB := blk_kept BMA hgA (fun e => by have := hlo gm e.symm; omega) BMA.lt
    have BBB := blk_kept BBA hgA (fun e => by have := hlo gb e.symm; omega) BBA.lt
    have b0 := BMB.at 0 rfl
    have bz := BMB.fz 0 rfl
    have BMF := BMB.set 0 (.slice na (xs.length + 1) nc)
    have BBF := BBB.far (g' := gm) (by omega) 0 (.slice na (xs.length + 1) nc)
    have RF := RA.far (set_grown wA gm 0 (.slice na (xs.length + 1) nc)) hgm
    have CHF := (CHA.grown hgA (fun j e => by
        rcases (Or.inl rfl : obT (oa, oc, xs) = obT (oa, oc, xs) ∨ ∃ k, obT (oa, oc, xs) = some k ∧ w.heap.size ≤ k) with c | ⟨i, c, hi⟩
        · exact Or.inr (Or.inr (Or.inl (e.symm.trans c)))
        · exact Or.inr (Or.inr (Or.inr (by have e3 := e.symm.trans c; injection e3 with e3; omega))))).grown (set_grown wA gm 0 (.slice na (xs.length + 1) nc)) (fun j e => by injection e with e; exact Or.inr (Or.inl e.symm))
    have CUF : obT (na, nc, xs ++ [((tgN s a, true, s.extract (a + 1 + k) (a + 1 + k + n), (none, 0, [])) : TT)]) = obT (oa, oc, xs) ∨ ∃ j, obT (na, nc, xs ++ [((tgN s a, true, s.extract (a + 1 + k) (a + 1 + k + n), (none, 0, [])) : TT)]) = some j ∧ w.heap.size ≤ j := by
      rcases CA with e | e
      · rw [e]; exact (Or.inl rfl : obT (oa, oc, xs) = obT (oa, oc, xs) ∨ ∃ k, obT (oa, oc, xs) = some k ∧ w.heap.size ≤ k)
      · exact Or.inr ⟨_, e, by omega⟩
    have OFF : ∀ g, g < w.heap.size → Off g (oa, oc, xs) → Off g (na, nc, xs ++ [((tgN s a, true, s.extract (a + 1 + k) (a + 1 + k + n), (none, 0, [])) : TT)]) := fun g hg ho => OA g (by omega) (ho) (fun e => by cases e)
    have APF : ApT (na, nc, xs ++ [((tgN s a, true, s.extract (a + 1 + k) (a + 1 + k + n), (none, 0, [])) : TT)]) := ap_put (r := (oa, oc, xs)) hap (fun j e => by cases e)
    go_wp2
    go_ret2
    exact ⟨(na, nc, xs ++ [((tgN s a, true, s.extract (a + 1 + k) (a + 1 + k + n), (none, 0, [])) : TT)]), by first | (rw [HV.out]; rfl) | (rw [HVt.out]; rfl), by first | (rw [HV.out]; simp [rsT]) | (rw [HVt.out]; simp [rsT]), RF, by first | (rw [HV.out]; exact BBF) | (rw [HVt.out]; exact BBF), by simpa [slT, List.length_append] using BMF, CHF, CUF, OFF, APF⟩
  rw [Bool.eq_false_iff.2 hlf]
  rw [if_neg hlf] at HST0
  obtain ⟨R, hR⟩ : ∃ R, (loopN nd n (rsT (oa, oc, xs)) (bg + 1) [] (a + 1 + k) (a + 1 + k + n)) = R := ⟨_, rfl⟩
  rw [hR] at HST0
  have HST : Hid (stepN s (decide (deep < 8)) nd (rsT (oa, oc, xs)) bg a en = if R.1.2.2 = 0 then ((R.1.1 ++ [(tgN s a, false, ⟨#[]⟩, R.2)], R.1.2.1, 0), a + 1 + k + n) else (R.1, a)) := HST0
  obtain ⟨X, hX⟩ : ∃ Y, X0.setCells u1.heap.size 0 [.int .i64 (tgN s a), .bool false, .string ⟨#[]⟩, .slice none 0 0] = Y := ⟨_, rfl⟩
  have TX : Blk u1.heap.size [.int .i64 (tgN s a), .bool false, .string ⟨#[]⟩, .slice none 0 0] X := by rw [← hX]; exact TX0.sets _ rfl
  have BX : Below u1.heap.size u1 X := by rw [← hX]; exact below_sets (Nat.le_refl _) _ _ _ BX0
  have x1 := TX.at 1 rfl
  have hsX : u1.heap.size < X.heap.size := TX.lt
  have HI : Hid (LpJ s nd R B gb gm gr (oa, oc, xs) w u1.heap.size (tgN s a) (a + 1 + k + n) n (a + 1 + k) (oa, oc, xs) (bg + 1) (none, 0, []) X) := {
    fl := by omega
    fm := Nat.le_refl _
    eq := hR
    bb := bb2.later BX bb2.lt
    bm := bm2.later BX bm2.lt
    bf := bf2.later BX bf2.lt
    tx := TX
    ro := RoT.later hr2 BX
    ko := World.ownsRow_nil _ _ _ _
    ch := ch2.below BX
    cu := Or.inl rfl
    oX := off_ge hr2 (Nat.le_refl _)
    ok := fun j e => by cases e
    of := fun _ _ h => h
    ln := by dsimp only; omega
    bt := by omega
    ap := hap
    kl := Nat.zero_le _
    }
  clear HST0 hR bb2 bm2 bf2 hr2 ch2 BX0 bb bm bf hr h60 h6n
  go_wp2_with (first | (refine wpList_stB 43 _ _ u1.heap.size 0 _ [.int .i64 (tgN s a), .bool false, .string ⟨#[]⟩, .slice none 0 0] it hit TX0 hits.symm (by simp) rfl rfl rfl rfl rfl ?_; rw [hX]))
  clear TX TX0 BX hX x1 hX0
  go_loopw [10] (fun iv wr => ∃ (m fr : Nat) (q : Rw TT) (bq : Nat) (kr : Rw Int), iv = .string (s.extract fr (a + 1 + k + n)) ∧ Hid (LpJ s nd R B gb gm gr (oa, oc, xs) w u1.heap.size (tgN s a) (a + 1 + k + n) m fr q bq kr wr) ∧ u1.heap.size < wr.heap.size) (fun iv _ => szOf iv)
  case atStart => exact ⟨n, a + 1 + k, (oa, oc, xs), bg + 1, (none, 0, []), rfl, HI, hsX⟩
  case round =>
    obtain ⟨m, fr, ⟨qa, qc, ys⟩, bq, ⟨ka, kc, ks⟩, rfl, hI, hgx⟩ := hrel
    have i_bb := hI.out.bb
    have i_bm := hI.out.bm
    have i_bf := hI.out.bf
    have i_tx := hI.out.tx
    have i_ro := hI.out.ro
    have i_ko := hI.out.ko
    have i_ch := hI.out.ch
    have i_cu := hI.out.cu
    have i_oX := hI.out.oX
    have i_ok := hI.out.ok
    have i_of := hI.out.of
    have i_ln := hI.out.ln
    have i_bt := hI.out.bt
    have i_ap := hI.out.ap
    have i_kl := hI.out.kl
    have i_fl := hI.out.fl
    have i_fm := hI.out.fm
    have i_eq := hI.out.eq
    dsimp only [slT] at i_bm i_tx i_ln i_kl i_eq
    clear hI HI
    have hBw : B ≤ wr.heap.size := by omega
    have hts : a + 1 + k + n ≤ s.size := by omega
    have hsz2 : (s.extract fr (a + 1 + k + n)).size = a + 1 + k + n - fr := ext_size hts
    have hlo : ∀ j, obT (qa, qc, ys) = some j → B ≤ j := fun j e => (World.ownsRow.lt i_ro.1 j e).1
    by_cases hlt : fr < a + 1 + k + n
    · have hne := ne_nil (s.extract fr (a + 1 + k + n)) (by rw [hsz2]; omega)
      cases m with
      | zero => exfalso; omega
      | succ m =>
        unfold loopN at i_eq
        rw [if_pos hlt] at i_eq
        have KC := hnd h8 (qa, qc, ys) bq fr (a + 1 + k + n) wr hBw i_ro i_ap (by dsimp only; omega) i_bt i_fl hts i_bb i_bm i_bf
        have gN := hok h8 (rsT (qa, qc, ys)) bq fr (a + 1 + k + n) i_bt i_fl hts
        generalize hN : nd (rsT (qa, qc, ys)) bq fr (a + 1 + k + n) = N1 at KC gN i_eq
        clear hN hnd hok
        have f0 := i_bf.at 0 rfl
        have HS : Hid (_ = _) := hsz2
        clear hsz2
        go_wp2_with fail
        refine KC.mono ?_
        clear KC f0
        rintro ex W1 ⟨⟨pa, pc, zs⟩, rfl, hz, ro1, bb1, bm1, ch1, cu1, of1, ap1⟩
        try dsimp only [slT] at hz bm1
        have hzl : N1.1.1.length = zs.length := by rw [← hz]; simp [rsT]
        have hs1 : wr.heap.size ≤ W1.heap.size := ch1.size
        have tx1 := ch1.blk i_tx hgx (by omega) (by omega) (fun e => i_oX.1 e.symm)
        have bf1 := ch1.blk i_bf i_bf.lt (by omega) (by omega) (fun e => by have := hlo gr e.symm; omega)
        have ko1 := ch1.rowI i_ko hgb hgm (fun j e c => (i_ok j e).1.1 c.symm)
        have oX1 := of1 u1.heap.size hgx i_oX
        have ok1 : ∀ j, kB (ka, kc, ks) = some j → Off j (pa, pc, zs) ∧ w.heap.size ≤ j ∧ j ≠ u1.heap.size := fun j e => ⟨of1 j (World.ownsRow.lt i_ko j e).2 (i_ok j e).1, (i_ok j e).2⟩
        have chw := i_ch.trans ch1 i_cu
        have cuw : obT (pa, pc, zs) = obT (oa, oc, xs) ∨ ∃ j, obT (pa, pc, zs) = some j ∧ w.heap.size ≤ j := by
          rcases cu1 with e | ⟨j, e, hj⟩
          · rw [e]; exact i_cu
          · exact Or.inr ⟨j, e, by omega⟩
        have ofw : ∀ g, g < w.heap.size → Off g (oa, oc, xs) → Off g (pa, pc, zs) := fun g hg ho => of1 g (by omega) (i_of g hg ho)
        clear i_bb i_bm i_bf i_tx i_ro i_ko i_ok i_of hlo ch1 i_ch i_cu cu1 of1 i_oX
        by_cases hc : N1.1.2.2 = 0
        rotate_left
        · rw [if_neg hc] at i_eq
          have HV : Hid (stepN s (decide (deep < 8)) nd (rsT (oa, oc, xs)) bg a en = (N1.1, a)) := by show _ = _; rw [HST.out, ← i_eq]; exact if_neg hc
          have HVt := show Hid (_ = _) from (by have := HV.out; rw [decide_eq_true h8] at this; exact this)
          have he0 := errV_no hc
          have hb0 : behS s N1.1.2.2 a en = ⟨#[]⟩ := behS_no hc
          rw [errV_no hc, behS_no hc]
          have HE : Hid (_ = _) := he0
          have HB0 : Hid (_ = _) := hb0
          clear HST i_eq hc he0 hb0 gN
          go_wp2
          go_ret2
          exact ⟨(pa, pc, zs), by first | (rw [HV.out]; dsimp only; rw [HE.out, HB0.out]; rfl) | (rw [HVt.out]; dsimp only; rw [HE.out, HB0.out]; rfl), by first | (rw [HV.out]; exact hz) | (rw [HVt.out]; exact hz), ro1, by first | (rw [HV.out]; exact bb1) | (rw [HVt.out]; exact bb1), bm1, chw, cuw, ofw, ap1⟩
        rw [if_pos hc, hzl, ← hz] at i_eq
        have gk := gN.ok hc
        have gz : 1 ≤ zs.length := by have := gk.2.2; omega
        have gr3 := gN.rel
        have gtop := gN.top
        rw [hzl] at gr3
        have gl2 : (rsT (qa, qc, ys)).length = ys.length := by simp [rsT]
        have hz60 : zs.length ≤ 60 := by omega
        have hzi : (1 : Int) ≤ (zs.length : Int) ∧ (zs.length : Int) ≤ 60 := by omega
        obtain ⟨W5, hW5⟩ : ∃ Y, W1.alloc (.cells #[.int .i64 ((zs.length : Int) - 1)] 3) = Y := ⟨_, rfl⟩
        have tk5 : Blk W1.heap.size [.int .i64 ((zs.length : Int) - 1)] W5 := by rw [← hW5]; exact Blk.new _ _ _
        have b5 : Below W1.heap.size W1 W5 := by rw [← hW5]; exact (Below.refl _ _).alloc (Nat.le_refl _) _
        have s5 : W1.heap.size < W5.heap.size := tk5.lt
        have bb5 := bb1.later b5 bb1.lt
        have bm5 := bm1.later b5 bm1.lt
        have bf5 := bf1.later b5 bf1.lt
        have tx5 := tx1.later b5 tx1.lt
        have ro5 := RoT.later ro1 b5
        have ko5 : RoI B W5 (ka, kc, ks) := RoI.later ko1 b5
        have x3 := tx1.at 3 rfl
        have q1 := bm1.at 0 rfl
        obtain ⟨j3, hj3, hjz, hjs, hjb⟩ := parts_of info3
        have hB5 : B ≤ W5.heap.size := by omega
        rw [errV_ok hc, behS_ok hc]
        have HC : Hid (N1.1.2.2 = 0) := hc
        clear hc
        go_wp2_with (first | (at_builtin; first | refine wpList_append_where _ rfl _ _ 41 rfl B 3 j3 _ 1 8 Tryd.underlying41 hj3 hjz hjs hjb rfl (by decide) _ _ _ rfl ko5 ⟨W1.heap.size, 0, none⟩ 1 1 [.int .i64 ((zs.length : Int) - 1)] rfl rfl (news_box tk5) (fun u hu => by simp at hu; subst hu; rfl) ?c3 ?c4 hB5 (by decide) ?_ | (rw [hW5]; refine wpList_append_where _ rfl _ _ 41 rfl B 3 j3 _ 1 8 Tryd.underlying41 hj3 hjz hjs hjb rfl (by decide) _ _ _ rfl ko5 ⟨W1.heap.size, 0, none⟩ 1 1 [.int .i64 ((zs.length : Int) - 1)] rfl rfl (news_box tk5) (fun u hu => by simp at hu; subst hu; rfl) ?c3 ?c4 hB5 (by decide) ?_)))
        case c3 => unfold maxLen; omega
        case c4 => omega
        intro vK wK ownK hgK hwK
        obtain ⟨na, nc, rfl, _⟩ := own_shape ownK
        try dsimp only at ownK hwK ⊢
        have rk : RoI B wK (na, nc, ks ++ [((zs.length : Int) - 1)]) := kput (kr := (ka, kc, ks)) ownK
        have hkb : kB (na, nc, ks ++ [((zs.length : Int) - 1)]) = (Value.slice na (ks.length + 1) nc).ownBlock := by unfold kB; dsimp only; rw [List.length_append, List.length_singleton]
        have ok6 : ∀ j, kB (na, nc, ks ++ [((zs.length : Int) - 1)]) = some j → Off j (pa, pc, zs) ∧ w.heap.size ≤ j ∧ j ≠ u1.heap.size := fun j e => by
          rw [hkb] at e
          rcases hwK with h | h
          · exact ok1 j (h.symm.trans e)
          · have e2 := h.symm.trans e
            injection e2 with e2
            subst e2
            exact ⟨off_ge ro5 (Nat.le_refl _), by omega, by omega⟩
        have hkl : ∀ j, kB (ka, kc, ks) = some j → B ≤ j := fun j e => (World.ownsRow.lt ko1 j e).1
        have bb6 := blk_keptO bb5 hgK (fun j e => by have := hkl j e; omega) bb5.lt
        have bm6 := blk_keptO bm5 hgK (fun j e => by have := hkl j e; omega) bm5.lt
        have bf6 := blk_keptO bf5 hgK (fun j e => by have := hkl j e; omega) bf5.lt
        have tx6 := blk_keptO tx5 hgK (fun j e => (ok1 j e).2.2) tx5.lt
        have ro6 := ro5.offO hgK (fun j e => (ok1 j e).1)
        have ch6 := (chw.below b5).grown hgK (fun j e => Or.inr (Or.inr (Or.inr (ok1 j e).2.1)))
        have y3 := tx6.at 3 rfl
        have yz := tx6.fz 3 rfl
        have tx7 := tx6.set 3 (.slice na (ks.length + 1) nc)
        have bb7 := bb6.far (g' := u1.heap.size) (by omega) 3 (.slice na (ks.length + 1) nc)
        have bm7 := bm6.far (g' := u1.heap.size) (by omega) 3 (.slice na (ks.length + 1) nc)
        have bf7 := bf6.far (g' := u1.heap.size) (by omega) 3 (.slice na (ks.length + 1) nc)
        have ro7 := ro6.off (set_grown wK u1.heap.size 3 (.slice na (ks.length + 1) nc)) oX1
        have rk7 := set_far (g := u1.heap.size) rk (.slice na (ks.length + 1) nc) 3 (fun j e => (ok6 j e).2.2)
        have ch7 := ch6.grown (set_grown wK u1.heap.size 3 (.slice na (ks.length + 1) nc)) (fun j e => by injection e with e; exact Or.inr (Or.inr (Or.inr (by omega))))
        have s7 : u1.heap.size < (wK.setCell ⟨u1.heap.size, 3, none⟩ (.slice na (ks.length + 1) nc)).heap.size := tx7.lt
        obtain ⟨W7, hW7⟩ : ∃ Y, wK.setCell ⟨u1.heap.size, 3, none⟩ (.slice na (ks.length + 1) nc) = Y := ⟨_, rfl⟩
        rw [hW7] at tx7 bb7 bm7 bf7 ro7 rk7 ch7 s7
        have HJ : Hid (LpJ s nd R B gb gm gr (oa, oc, xs) w u1.heap.size (tgN s a) (a + 1 + k + n) m N1.2 (pa, pc, zs) N1.1.2.1 (na, nc, ks ++ [((zs.length : Int) - 1)]) W7) := {
          fl := gk.2.1
          fm := by have := gk.1; omega
          eq := i_eq
          bb := bb7
          bm := bm7
          bf := bf7
          tx := by simpa [List.length_append] using tx7
          ro := ro7
          ko := rk7
          ch := ch7
          cu := cuw
          oX := oX1
          ok := ok6
          of := ofw
          ln := by dsimp only; omega
          bt := gtop
          ap := ap1
          kl := by have := gk.1; simp; omega
          }
        have hms : szOf (.string (s.extract N1.2 (a + 1 + k + n))) < szOf (.string (s.extract fr (a + 1 + k + n))) := by rw [szOf_ext hts, szOf_ext hts]; have := gk.1; omega
        clear tx7 bb7 bm7 bf7 ro7 rk7 ch7 tx6 bb6 bm6 bf6 ro6 ch6 tx5 bb5 bm5 bf5 ro5 ko5 tx1 bb1 bm1 bf1 ro1 ko1 rk ok6 ok1 ofw cuw oX1 i_eq HST hgK ownK hwK tk5 b5 gN chw hkl hkb
        go_wp2
        exact ⟨⟨m, N1.2, _, _, _, rfl, HJ, s7⟩, hms⟩
    · have hfe : fr = a + 1 + k + n := by omega
      have hne := nil_size (s.extract fr (a + 1 + k + n)) (by rw [hsz2]; omega)
      have hRe : R = ((rsT (qa, qc, ys), bq, 0), ks) := by
        rw [← i_eq]
        cases m with
        | zero => rfl
        | succ m => unfold loopN; rw [if_neg hlt]
      have HV : Hid (stepN s (decide (deep < 8)) nd (rsT (oa, oc, xs)) bg a en = ((rsT (qa, qc, ys) ++ [stT ((tgN s a, false, ⟨#[]⟩, (ka, kc, ks)) : TT)], bq, 0), a + 1 + k + n)) := by show _ = _; rw [HST.out, hRe]; rfl
      have HVt := show Hid (_ = _) from (by have := HV.out; rw [decide_eq_true h8] at this; exact this)
      clear HST i_eq hRe hsz2 hlo
      obtain ⟨YA, hYA⟩ : ∃ Z, wr.alloc (.cells #[.int .i64 (tgN s a), .bool false, .string ⟨#[]⟩, .slice ka ks.length kc] 43) = Z := ⟨_, rfl⟩
      have TA : Blk wr.heap.size [.int .i64 (tgN s a), .bool false, .string ⟨#[]⟩, .slice ka ks.length kc] YA := by rw [← hYA]; exact Blk.new _ _ _
      have BYA : Below wr.heap.size wr YA := by rw [← hYA]; exact (Below.refl _ _).alloc (Nat.le_refl _) _
      have ROA : RoT B YA (qa, qc, ys) := RoT.later i_ro BYA
      have KOA : RoI B YA (ka, kc, ks) := RoI.later i_ko BYA
      have BBA := i_bb.later BYA i_bb.lt
      have BMA := i_bm.later BYA i_bm.lt
      have CHA := i_ch.below BYA
      obtain ⟨jt, hjt, hjz, hjs, hjb⟩ := parts_of info44
      have sYA : wr.heap.size < YA.heap.size := TA.lt
      have hBA : B ≤ YA.heap.size := by omega
      have m0 := i_bm.at 0 rfl
      clear hnd hok
      go_wp2_with (first | (refine wpList_ldB 43 _ u1.heap.size 0 _ [.int .i64 (tgN s a), .bool false, .string ⟨#[]⟩, .slice ka ks.length kc] it hit (Tryd.isAgg43) i_tx hits.symm rfl rfl rfl rfl ?_) | (at_builtin; first | refine wpList_append_where _ rfl _ _ 22 rfl B 43 jt _ 4 56 Tryd.underlying22 hjt hjz hjs hjb rfl (by decide) _ _ _ rfl ROA.1 ⟨wr.heap.size, 0, none⟩ 1 1 [.int .i64 (tgN s a), .bool false, .string ⟨#[]⟩, .slice ka ks.length kc] rfl rfl (news_box TA) (fun u hu => by simp at hu; rcases hu with rfl | rfl | rfl | rfl <;> rfl) ?c3 ?c4 hBA (by decide) ?_ | (rw [hYA]; refine wpList_append_where _ rfl _ _ 22 rfl B 43 jt _ 4 56 Tryd.underlying22 hjt hjz hjs hjb rfl (by decide) _ _ _ rfl ROA.1 ⟨wr.heap.size, 0, none⟩ 1 1 [.int .i64 (tgN s a), .bool false, .string ⟨#[]⟩, .slice ka ks.length kc] rfl rfl (news_box TA) (fun u hu => by simp at hu; rcases hu with rfl | rfl | rfl | rfl <;> rfl) ?c3 ?c4 hBA (by decide) ?_)))
      case c3 => unfold maxLen; (try dsimp only); omega
      case c4 => (try dsimp only); omega
      intro vA wA ownA hgA hwA
      obtain ⟨na, nc, rfl, _⟩ := own_shape ownA
      try dsimp only at ownA hwA ⊢
      obtain ⟨RA, CA, OA⟩ := put_mem (x := ((tgN s a, false, ⟨#[]⟩, (ka, kc, ks)) : TT)) ROA KOA ownA hgA hwA
      dsimp only at RA CA OA
      have hlo : ∀ j, obT (qa, qc, ys) = some j → B ≤ j := fun j e => (World.ownsRow.lt ROA.1 j e).1
      have BMB := blk_kept BMA hgA (fun e => by have := hlo gm e.symm; omega) BMA.lt
      have BBB := blk_kept BBA hgA (fun e => by have := hlo gb e.symm; omega) BBA.lt
      have b0 := BMB.at 0 rfl
      have bz := BMB.fz 0 rfl
      have BMF := BMB.set 0 (.slice na (ys.length + 1) nc)
      have BBF := BBB.far (g' := gm) (by omega) 0 (.slice na (ys.length + 1) nc)
      have RF := RA.far (set_grown wA gm 0 (.slice na (ys.length + 1) nc)) hgm
      have CHF := (CHA.grown hgA (fun j e => by
        rcases i_cu with c | ⟨i, c, hi⟩
        · exact Or.inr (Or.inr (Or.inl (e.symm.trans c)))
        · exact Or.inr (Or.inr (Or.inr (by have e3 := e.symm.trans c; injection e3 with e3; omega))))).grown (set_grown wA gm 0 (.slice na (ys.length + 1) nc)) (fun j e => by injection e with e; exact Or.inr (Or.inl e.symm))
      have CUF : obT (na, nc, ys ++ [((tgN s a, false, ⟨#[]⟩, (ka, kc, ks)) : TT)]) = obT (oa, oc, xs) ∨ ∃ j, obT (na, nc, ys ++ [((tgN s a, false, ⟨#[]⟩, (ka, kc, ks)) : TT)]) = some j ∧ w.heap.size ≤ j := by
        rcases CA with e | e
        · rw [e]; exact i_cu
        · exact Or.inr ⟨_, e, by omega⟩
      have OFF : ∀ g, g < w.heap.size → Off g (oa, oc, xs) → Off g (na, nc, ys ++ [((tgN s a, false, ⟨#[]⟩, (ka, kc, ks)) : TT)]) := fun g hg ho => OA g (by omega) (i_of g hg ho) (fun e => by have := (i_ok g e).2.1; omega)
      have APF : ApT (na, nc, ys ++ [((tgN s a, false, ⟨#[]⟩, (ka, kc, ks)) : TT)]) := ap_put (r := (qa, qc, ys)) i_ap (fun j e => (i_ok j e).1.2)
      go_wp2
      go_ret2
      exact ⟨(na, nc, ys ++ [((tgN s a, false, ⟨#[]⟩, (ka, kc, ks)) : TT)]), by first | (rw [HV.out]; rfl) | (rw [HVt.out]; rfl), by first | (rw [HV.out]; simp [rsT]) | (rw [HVt.out]; simp [rsT]), RF, by first | (rw [HV.out]; exact BBF) | (rw [HVt.out]; exact BBF), by simpa [slT, List.length_append] using BMF, CHF, CUF, OFF, APF⟩
end Go.Proofs.YtpfonadpojcnnaaDoor.Nd
