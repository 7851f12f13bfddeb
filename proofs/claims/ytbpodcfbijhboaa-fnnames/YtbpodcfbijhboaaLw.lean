/- The law on names. -/
import Derived.Test.YtbpodcfbijhboaaPn
import Derived.Test.YtbpodcfbijhboaaDn3
import Derived.Test.YtbpodcfbijhboaaNi1
import Derived.Test.YtbpodcfbijhboaaNi2
import Derived.Test.YtbpodcfbijhboaaNf1
import Derived.Test.YtbpodcfbijhboaaNf2
import Derived.Deep.CutRange
import Derived.Deep.DeepCutAuto
set_option linter.unusedVariables false
set_option maxRecDepth 100000
namespace Go.Proofs.Ytbpodcfbijhboaa.Nd
open Go Go.RowKit Go.Joins Own Draw Go.Proofs.Ytbpodcfbijhboaa

theorem big_go (a : Option Addr) (len cap : Nat) (W : World) (h : len ≤ 1048576) :
    Calls Try.prog 9 #[.slice a len cap] W fun e w' => e = .returned (.bool false) ∧ W = w' := by
  have hd : decide ((1048576 : Int) < (len : Int)) = false := by simp; omega
  go_enter Try.func9, Try.ntmps9
  go_wp2
  go_ret
  exact ⟨rfl, rfl⟩
theorem big_yes (a : Option Addr) (len cap : Nat) (W : World) (h : 1048576 < len) (h2 : len ≤ maxLen) :
    Calls Try.prog 9 #[.slice a len cap] W fun e w' => e = .returned (.bool true) ∧ W = w' := by
  unfold maxLen at h2
  have hd : decide ((1048576 : Int) < (len : Int)) = true := by simp; omega
  go_enter Try.func9, Try.ntmps9
  go_wp2
  go_ret
  exact ⟨rfl, rfl⟩
theorem DpT.drew {w : World} {p : TT} (h : DpT w p) : DpT w.drew p := h
theorem rd_sm {y : TT} {s : ByteArray} (h : stT y = rdN s) : SmT y := by
  have hs := rd_small s
  rw [← h] at hs
  have h1 : y.1.2.2.length ≤ 4 := hs.1
  have h3 : y.2.size ≤ 20 := hs.2.2
  exact ⟨by omega, fun x hx => by have := hs.2.1 x hx; unfold maxLen; omega, by unfold maxLen; omega⟩
set_option maxHeartbeats 200000000 in
theorem law_names (ad : Option Addr) (len cap : Nat) (zs : List Int) (W : World) (hl : len ≤ 1048576) (hz : CodeAt W W.heap.size ad len zs) :
    Calls Try.prog 3 #[.slice ad len cap] W fun e w' => e = .returned (.bool true) ∧ Below W.heap.size W w' := by
  obtain ⟨ie, hie, his⟩ := info_T
  have HZ : Hid (CodeAt W W.heap.size ad len zs) := hz
  go_enter Try.func3, Try.ntmps3
  go_wp2_with fail
  refine (big_go ad len cap W hl).mono ?_
  rintro e w0 ⟨rfl, rfl⟩
  have K := drawShow_is ad len cap zs W hz
  clear hz
  go_wp2_with fail
  refine K.mono ?_
  clear K
  rintro e w1 ⟨⟨n, rfl, on, sn⟩, BC⟩
  have smn := Sn.sm sn
  have cn := own_cap on
  obtain ⟨V2, hV2⟩ : ∃ V, w1.alloc (.cells #[sv2 n, .string n.2] 26) = V := ⟨_, rfl⟩
  have T3 : Blk w1.heap.size [sv2 n, .string n.2] V2 := by rw [← hV2]; exact Blk.new _ _ _
  have hb : Below w1.heap.size w1 V2 := by rw [← hV2]; exact (Below.refl _ _).alloc (Nat.le_refl _) _
  replace BC := BC.trans (hb.mono BC.size)
  replace on := on.later hb
  clear hb

  obtain ⟨b3, hb3⟩ : ∃ n, w1.heap.size = n := ⟨_, rfl⟩
  rw [hb3] at T3
  have K := implShow_is n V2 on.dp smn cn
  have qT30 := T3.at 0 rfl
  have qT31 := T3.at 1 rfl
  go_wp2_with fail
  try rw [hV2]
  try rw [hb3]
  refine K.mono ?_
  clear K hV2 hb3
  rintro e w4 ⟨rfl, hb⟩
  replace BC := BC.trans (hb.mono BC.size)
  replace on := on.later hb
  replace T3 := T3.later hb T3.lt
  clear hb
  clear qT30 qT31
  have GM := gd_made (stT n)
  have hsz := showN_size (stT n)
  have HOK : Hid (okN (stT n) = okN (stT n)) := (rfl : okN (stT n) = _)
  obtain ⟨s, hs⟩ : ∃ s, showN (stT n) = s := ⟨_, rfl⟩
  rw [hs] at GM hsz
  try rw [hs]
  clear hs HOK
  have K := implRead_is s w4 (by omega)
  unfold RdP at K
  rw [GM.1] at K
  obtain ⟨ok, hok⟩ : ∃ ok, okN (stT n) = ok := ⟨_, rfl⟩
  have HOK : Hid (okN (stT n) = ok) := hok
  rw [hok] at K GM
  have HRD : Hid (ok = true → rdN s = stT n) := GM.2
  clear GM hsz hok
  go_wp2_with fail
  refine K.mono ?_
  clear K
  rintro e w5 ⟨⟨x, rfl, ex, ox⟩, hb⟩
  replace BC := BC.trans (hb.mono BC.size)
  replace on := on.later hb
  replace T3 := T3.later hb T3.lt
  clear hb
  have HEX : Hid (ok = true → stT x = stT n) := fun h => ex.trans (HRD.out h)
  have smx := rd_sm ex
  clear ex HRD
  obtain ⟨V6, hV6⟩ : ∃ V, w5.alloc (.cells #[sv2 x, .string x.2] 26) = V := ⟨_, rfl⟩
  have T5 : Blk w5.heap.size [sv2 x, .string x.2] V6 := by rw [← hV6]; exact Blk.new _ _ _
  have hb : Below w5.heap.size w5 V6 := by rw [← hV6]; exact (Below.refl _ _).alloc (Nat.le_refl _) _
  replace BC := BC.trans (hb.mono BC.size)
  replace on := on.later hb
  replace ox := ox.later hb
  replace T3 := T3.later hb T3.lt
  clear hb

  obtain ⟨b5, hb5⟩ : ∃ n, w5.heap.size = n := ⟨_, rfl⟩
  rw [hb5] at T5
  go_upto_region 6 with fail
  try rw [hV6]
  try rw [hb5]
  clear hV6 hb5
  go_cut [50] (fun s50 wx => s50 = .bool false ∧ Hid (Below W.heap.size W wx))
  case first =>
    have K := specNameOk_is n V6 on.dp smn.1 smn.2.1 smn.2.2
    rw [HOK.out] at K
    clear HOK
    have qT30 := T3.at 0 rfl
    have qT31 := T3.at 1 rfl
    have qT50 := T5.at 0 rfl
    have qT51 := T5.at 1 rfl
    go_wp2_with fail
    refine K.mono ?_
    clear K
    rintro e w7 ⟨rfl, hb⟩
    replace BC := BC.trans (hb.mono BC.size)
    replace on := on.later hb
    replace ox := ox.later hb
    replace T3 := T3.later hb T3.lt
    replace T5 := T5.later hb T5.lt
    clear hb
    clear qT30 qT31 qT50 qT51
    cases ok with
    | false =>
      have HH : Hid (Below W.heap.size W w7) := BC
      clear T3 T5 on ox BC
      go_wp2
      go_meet
      exact ⟨rfl, HH⟩
    | true =>
      have he := HEX.out rfl
      have he1 : x.1.2.2 = n.1.2.2 := (congrArg (fun q : PT => q.1) he : (stT x).1 = (stT n).1)
      have he2 : x.2 = n.2 := (congrArg (fun q : PT => q.2) he : (stT x).2 = (stT n).2)
      have q1 := list_eq he2
      have K := sameT_is x.1.1 n.1.1 x.1.2.1 n.1.2.1 x.1.2.2 n.1.2.2 w7 ox.dp on.dp smx.1 smn.1
      rw [decide_eq_true he1] at K
      clear he he1 he2 HEX
      have qT30 := T3.at 0 rfl
      have qT31 := T3.at 1 rfl
      have qT50 := T5.at 0 rfl
      have qT51 := T5.at 1 rfl
      go_wp2_with fail
      refine K.mono ?_
      clear K
      rintro e w8 ⟨rfl, hb⟩
      replace BC := BC.trans (hb.mono BC.size)
      clear hb
      have HH : Hid (Below W.heap.size W w8) := BC
      clear T3 T5 on ox BC q1 qT30 qT31 qT50 qT51
      go_wp2
      go_meet
      exact ⟨rfl, HH⟩
  case rest =>
  obtain ⟨rfl, HT⟩ := hcut
  clear BC on ox T3 T5 HEX smn smx cn sn HOK
  have BC := HT.out
  clear HT
  have K := drawRead_is ad len cap zs _ ((HZ.out.below BC).lt BC.size)
  go_wp2_with fail
  refine K.mono ?_
  clear K
  rintro e w9 ⟨⟨t, rfl, ht⟩, hb⟩
  replace BC := BC.trans (hb.mono BC.size)
  clear hb
  have KI := implRead_is t w9 (by omega)
  have KS := fun w' => specRead_is t w' (by omega)
  unfold RdP at KI
  simp only [RdP] at KS
  have HGS : Hid (gdN t = true → showN (rdN t) = t) := fun h => gd_shown h
  obtain ⟨g, hg⟩ : ∃ g, gdN t = g := ⟨_, rfl⟩
  rw [hg] at KI HGS
  simp only [hg] at KS
  clear hg
  have K := KI
  clear KI
  go_wp2_with fail
  refine K.mono ?_
  clear K
  rintro e w10 ⟨⟨y, rfl, ey, oy⟩, hb⟩
  replace BC := BC.trans (hb.mono BC.size)
  clear hb
  have smy := rd_sm ey
  have cy := own_cap oy
  have HEY : Hid (g = true → showN (stT y) = t) := fun h => by rw [ey]; exact HGS.out h
  clear ey HGS
  obtain ⟨V11, hV11⟩ : ∃ V, w10.alloc (.cells #[sv2 y, .string y.2] 26) = V := ⟨_, rfl⟩
  have T8 : Blk w10.heap.size [sv2 y, .string y.2] V11 := by rw [← hV11]; exact Blk.new _ _ _
  have hb : Below w10.heap.size w10 V11 := by rw [← hV11]; exact (Below.refl _ _).alloc (Nat.le_refl _) _
  replace BC := BC.trans (hb.mono BC.size)
  replace oy := oy.later hb
  clear hb

  obtain ⟨b8, hb8⟩ : ∃ n, w10.heap.size = n := ⟨_, rfl⟩
  rw [hb8] at T8
  have K := KS V11
  clear KS
  go_wp2_with fail
  try rw [hV11]
  try rw [hb8]
  refine K.mono ?_
  clear K hV11 hb8
  rintro e w12 ⟨⟨z, rfl, ez, oz⟩, hb⟩
  replace BC := BC.trans (hb.mono BC.size)
  replace oy := oy.later hb
  replace T8 := T8.later hb T8.lt
  clear hb
  clear ez
  obtain ⟨V13, hV13⟩ : ∃ V, w12.alloc (.cells #[sv2 z, .string z.2] 26) = V := ⟨_, rfl⟩
  have T10 : Blk w12.heap.size [sv2 z, .string z.2] V13 := by rw [← hV13]; exact Blk.new _ _ _
  have hb : Below w12.heap.size w12 V13 := by rw [← hV13]; exact (Below.refl _ _).alloc (Nat.le_refl _) _
  replace BC := BC.trans (hb.mono BC.size)
  replace oy := oy.later hb
  replace T8 := T8.later hb T8.lt
  clear hb

  obtain ⟨b10, hb10⟩ : ∃ n, w12.heap.size = n := ⟨_, rfl⟩
  rw [hb10] at T10
  clear oz T10
  go_upto_region 11 with fail
  try rw [hV13]
  try rw [hb10]
  clear hV13 hb10
  go_cut [74] (fun s74 wx => s74 = .bool false ∧ Hid (Below W.heap.size W wx))
  case first =>
    cases g with
    | false =>
      have HH : Hid (Below W.heap.size W V13) := BC
      clear T8 oy BC
      go_wp2
      go_meet
      exact ⟨rfl, HH⟩
    | true =>
      have K := implShow_is y V13 oy.dp smy cy
      rw [HEY.out rfl] at K
      clear HEY
      have qT80 := T8.at 0 rfl
      have qT81 := T8.at 1 rfl
      go_wp2_with fail
      refine K.mono ?_
      clear K
      rintro e w14 ⟨rfl, hb⟩
      replace BC := BC.trans (hb.mono BC.size)
      clear hb
      have HH : Hid (Below W.heap.size W w14) := BC
      clear T8 oy BC qT80 qT81
      go_wp2
      go_meet
      exact ⟨rfl, HH⟩
  case rest =>
  obtain ⟨rfl, HT⟩ := hcut
  clear BC oy T8 HEY smy cy
  have BC := HT.out
  clear HT
  have K := drawFits_is ad len cap zs _ ((HZ.out.below BC).lt BC.size)
  go_wp2_with fail
  refine K.mono ?_
  clear K
  rintro e w15 ⟨⟨y1, y2, rfl, o1, s1, o2, s2⟩, hb⟩
  replace BC := BC.trans (hb.mono BC.size)
  clear hb
  obtain ⟨VFa, hVFa⟩ : ∃ V, (w15.alloc (.cells #[.slice none 0 0, .string ⟨#[]⟩] 26)).alloc (.cells #[.slice none 0 0, .string ⟨#[]⟩] 26) = V := ⟨_, rfl⟩
  have ZA : Blk w15.heap.size [.slice none 0 0, .string ⟨#[]⟩] VFa := by rw [← hVFa]; exact (Blk.new w15 #[.slice none 0 0, .string ⟨#[]⟩] 26).alloc (by simp) _
  have ZB : Blk (w15.heap.size + 1) [.slice none 0 0, .string ⟨#[]⟩] VFa := by rw [← hVFa]; have := Blk.new (w15.alloc (.cells #[.slice none 0 0, .string ⟨#[]⟩] 26)) #[.slice none 0 0, .string ⟨#[]⟩] 26; simpa using this
  have hb : Below w15.heap.size w15 VFa := by rw [← hVFa]; exact ((Below.refl _ _).alloc (Nat.le_refl _) _).alloc (by simp) _
  obtain ⟨VFb, hVFb⟩ : ∃ V, World.setCells VFa w15.heap.size 0 [sv2 y1, .string y1.2] = V := ⟨_, rfl⟩
  obtain ⟨VFc, hVFc⟩ : ∃ V, World.setCells VFb (w15.heap.size + 1) 0 [sv2 y2, .string y2.2] = V := ⟨_, rfl⟩
  have ZB2 : Blk (w15.heap.size + 1) [.slice none 0 0, .string ⟨#[]⟩] VFb := by rw [← hVFb]; exact Blk.farS (by omega) _ _ _ ZB
  have TA : Blk w15.heap.size [sv2 y1, .string y1.2] VFc := by rw [← hVFc, ← hVFb]; exact Blk.farS (by omega) _ _ _ (ZA.sets _ rfl)
  have TB : Blk (w15.heap.size + 1) [sv2 y2, .string y2.2] VFc := by rw [← hVFc]; exact ZB2.sets _ rfl
  replace hb : Below w15.heap.size w15 VFc := by rw [← hVFc, ← hVFb]; exact below_sets (by omega) _ _ _ (below_sets (by omega) _ _ _ hb)
  replace BC := BC.trans (hb.mono BC.size)
  have a1 : DpT VFc y1 := o1.dp.later hb
  have a2 : DpT VFc y2 := o2.dp.later hb
  have sm1 := Sn.sm s1
  have sm2 := Sn.sm s2
  clear hb o1 o2 s1 s2
  obtain ⟨ba, hba⟩ : ∃ n, w15.heap.size = n := ⟨_, rfl⟩
  rw [hba] at TA TB ZA ZB ZB2 hVFb hVFc
  go_upto_region 14 with (first | (show wpList Try.prog _ _ ({ dst := none, op := Op.store 26 (Operand.tmp 12) (Operand.tmp 78), type := _, pos := _, after := _, guard := _ } :: _) _ _; (try rw [hVFa]); (try rw [hba]); refine wpList_stB 26 _ _ ba 0 _ [sv2 y1, .string y1.2] ie hie ZA his.symm (by simp) rfl rfl rfl rfl rfl ?_; rw [hVFb]) | (show wpList Try.prog _ _ ({ dst := none, op := Op.store 26 (Operand.tmp 13) (Operand.tmp 79), type := _, pos := _, after := _, guard := _ } :: _) _ _; refine wpList_stB 26 _ _ (ba + 1) 0 _ [sv2 y2, .string y2.2] ie hie ZB2 his.symm (by simp) rfl rfl rfl rfl rfl ?_; rw [hVFc]) | fail)
  clear hVFa hVFb hVFc hba ZA ZB ZB2
  try simp only [Act.put]
  go_cut [96] (fun s96 wx => s96 = .bool false ∧ Hid (Below W.heap.size W wx))
  case first =>
    have HFS : Hid (okN (stT y1) = true → fitsN (stT y1) (stT y1) = true) := fun h => fits_self h
    replace TA := TA.drew
    replace TB := TB.drew
    replace BC := BC.drew
    replace a1 := a1.drew
    replace a2 := a2.drew
    refine wp_region_held_drew (S := (fun Vw => Blk ba [sv2 y1, .string y1.2] Vw ∧ Blk (ba + 1) [sv2 y2, .string y2.2] Vw)) (by kernel_rfl) ⟨TA, TB⟩ (fun hHeld => ?_)
    refine take_one 0 80 (v := ?_) rfl rfl (by kernel_rfl) (by kernel_rfl) (by kernel_rfl) (fun _ _ _ h => h) (Or.inl ⟨by rfl, ?_⟩) hHeld ?_
    rotate_left
    · intro w' hSw; (try dsimp only at hSw); have d0 := hSw.1.at 0 rfl; have f0 := hSw.2.at 0 rfl; have d1 := hSw.1.at 1 rfl; have f1 := hSw.2.at 1 rfl; go_simp; try with_reducible rfl
    try simp only [Act.put, List.setIfInBounds_toArray, List.set_cons_zero, List.set_cons_succ]
    refine take_one 1 81 (v := ?_) rfl rfl (by kernel_rfl) (by kernel_rfl) (by kernel_rfl) (fun _ _ _ h => h) (Or.inl ⟨by rfl, ?_⟩) hHeld ?_
    rotate_left
    · intro w' hSw; (try dsimp only at hSw); have d0 := hSw.1.at 0 rfl; have f0 := hSw.2.at 0 rfl; have d1 := hSw.1.at 1 rfl; have f1 := hSw.2.at 1 rfl; go_simp; try with_reducible rfl
    try simp only [Act.put, List.setIfInBounds_toArray, List.set_cons_zero, List.set_cons_succ]
    refine take_one 3 83 (v := ?_) rfl rfl (by kernel_rfl) (by kernel_rfl) (by kernel_rfl) (fun _ _ _ h => h) (Or.inl ⟨by rfl, ?_⟩) hHeld ?_
    rotate_left
    · intro w' hSw; (try dsimp only at hSw); have d0 := hSw.1.at 0 rfl; have f0 := hSw.2.at 0 rfl; have d1 := hSw.1.at 1 rfl; have f1 := hSw.2.at 1 rfl; go_simp; try with_reducible rfl
    try simp only [Act.put, List.setIfInBounds_toArray, List.set_cons_zero, List.set_cons_succ]
    refine take_one 4 84 (v := ?_) rfl rfl (by kernel_rfl) (by kernel_rfl) (by kernel_rfl) (fun _ _ _ h => h) (Or.inl ⟨by rfl, ?_⟩) hHeld ?_
    rotate_left
    · intro w' hSw; (try dsimp only at hSw); have d0 := hSw.1.at 0 rfl; have f0 := hSw.2.at 0 rfl; have d1 := hSw.1.at 1 rfl; have f1 := hSw.2.at 1 rfl; go_simp; try with_reducible rfl
    try simp only [Act.put, List.setIfInBounds_toArray, List.set_cons_zero, List.set_cons_succ]
    refine wpAnyH_ready (rs := [2]) (by kernel_rfl) (by simp) ?_
    refine AllReadyH.cons (i := 2) rfl (fun K hK => ?_) AllReadyH.nil
    go_simp
    refine (implFits_is y1 y2 _ a1 a2 sm1 sm2).mono ?_
    rintro en u1 ⟨rfl, hb⟩
    replace TA := TA.later hb TA.lt
    replace TB := TB.later hb TB.lt
    replace a1 := a1.later hb
    replace a2 := a2.later hb
    replace BC := BC.trans (hb.mono BC.size)
    clear hb
    obtain ⟨z1, hz1⟩ : ∃ z, fitsN (stT y1) (stT y2) = z := ⟨_, rfl⟩
    rw [hz1]
    go_wp2_with fail
    refine hK.out _ _ ⟨TA, TB⟩ (fun hHeld2 => ?_)
    clear hK K hHeld
    have hHeld := hHeld2
    clear hHeld2
    try simp only [Act.put, List.setIfInBounds_toArray, List.set_cons_zero, List.set_cons_succ]
    refine wpAnyH_ready (rs := [5]) (by kernel_rfl) (by simp) ?_
    refine AllReadyH.cons (i := 5) rfl (fun K hK => ?_) AllReadyH.nil
    go_simp
    refine (specFits_is y1 y2 _ a1 a2 sm1 sm2).mono ?_
    rintro en u2 ⟨rfl, hb⟩
    replace TA := TA.later hb TA.lt
    replace TB := TB.later hb TB.lt
    replace a1 := a1.later hb
    replace a2 := a2.later hb
    replace BC := BC.trans (hb.mono BC.size)
    clear hb
    rw [hz1]
    have hzz : (z1 != z1) = false := by simp
    clear hz1
    go_wp2_with fail
    refine hK.out _ _ ⟨TA, TB⟩ (fun hHeld2 => ?_)
    clear hK K hHeld
    have hHeld := hHeld2
    clear hHeld2
    try simp only [Act.put, List.setIfInBounds_toArray, List.set_cons_zero, List.set_cons_succ]
    refine take_one 6 86 (v := ?_) rfl rfl (by kernel_rfl) (by kernel_rfl) (by kernel_rfl) (fun _ _ _ h => h) (Or.inl ⟨by rfl, ?_⟩) hHeld ?_
    rotate_left
    · intro w' hSw; (try dsimp only at hSw); have d0 := hSw.1.at 0 rfl; have f0 := hSw.2.at 0 rfl; have d1 := hSw.1.at 1 rfl; have f1 := hSw.2.at 1 rfl; go_simp; try with_reducible rfl
    try simp only [Act.put, List.setIfInBounds_toArray, List.set_cons_zero, List.set_cons_succ]
    refine take_one 7 87 (v := ?_) rfl rfl (by kernel_rfl) (by kernel_rfl) (by kernel_rfl) (fun _ _ _ h => h) (Or.inl ⟨by rfl, ?_⟩) hHeld ?_
    rotate_left
    · intro w' hSw; (try dsimp only at hSw); have d0 := hSw.1.at 0 rfl; have f0 := hSw.2.at 0 rfl; have d1 := hSw.1.at 1 rfl; have f1 := hSw.2.at 1 rfl; go_simp; try with_reducible rfl
    try simp only [Act.put, List.setIfInBounds_toArray, List.set_cons_zero, List.set_cons_succ]
    refine take_one 8 88 (v := ?_) rfl rfl (by kernel_rfl) (by kernel_rfl) (by kernel_rfl) (fun _ _ _ h => h) (Or.inl ⟨by rfl, ?_⟩) hHeld ?_
    rotate_left
    · intro w' hSw; (try dsimp only at hSw); have d0 := hSw.1.at 0 rfl; have f0 := hSw.2.at 0 rfl; have d1 := hSw.1.at 1 rfl; have f1 := hSw.2.at 1 rfl; go_simp; try with_reducible rfl
    try simp only [Act.put, List.setIfInBounds_toArray, List.set_cons_zero, List.set_cons_succ]
    refine wpAnyH_ready (rs := [9]) (by kernel_rfl) (by simp) ?_
    refine AllReadyH.cons (i := 9) rfl (fun K hK => ?_) AllReadyH.nil
    go_simp
    refine (specNameOk_is y1 _ a1 sm1.1 sm1.2.1 sm1.2.2).mono ?_
    rintro en u3 ⟨rfl, hb⟩
    replace TA := TA.later hb TA.lt
    replace TB := TB.later hb TB.lt
    replace a1 := a1.later hb
    replace a2 := a2.later hb
    replace BC := BC.trans (hb.mono BC.size)
    clear hb
    obtain ⟨ok, hok⟩ : ∃ ok, okN (stT y1) = ok := ⟨_, rfl⟩
    rw [hok] at HFS
    rw [hok]
    clear hok
    go_wp2_with fail
    refine hK.out _ _ ⟨TA, TB⟩ (fun hHeld2 => ?_)
    clear hK K hHeld
    have hHeld := hHeld2
    clear hHeld2
    try simp only [Act.put, List.setIfInBounds_toArray, List.set_cons_zero, List.set_cons_succ]
    refine take_one 10 90 (v := ?_) rfl rfl (by kernel_rfl) (by kernel_rfl) (by kernel_rfl) (fun _ _ _ h => h) (Or.inl ⟨by rfl, ?_⟩) hHeld ?_
    rotate_left
    · intro w' hSw; (try dsimp only at hSw); have d0 := hSw.1.at 0 rfl; have f0 := hSw.2.at 0 rfl; have d1 := hSw.1.at 1 rfl; have f1 := hSw.2.at 1 rfl; go_simp; try with_reducible rfl
    try simp only [Act.put, List.setIfInBounds_toArray, List.set_cons_zero, List.set_cons_succ]
    cases ok with
    | true =>
      refine take_one 11 91 (v := ?_) rfl rfl (by kernel_rfl) (by kernel_rfl) (by kernel_rfl) (fun _ _ _ h => h) (Or.inl ⟨by rfl, ?_⟩) hHeld ?_
      rotate_left
      · intro w' hSw; (try dsimp only at hSw); have d0 := hSw.1.at 0 rfl; have f0 := hSw.2.at 0 rfl; have d1 := hSw.1.at 1 rfl; have f1 := hSw.2.at 1 rfl; go_simp; try with_reducible rfl
      try simp only [Act.put, List.setIfInBounds_toArray, List.set_cons_zero, List.set_cons_succ]
      refine take_one 12 92 (v := ?_) rfl rfl (by kernel_rfl) (by kernel_rfl) (by kernel_rfl) (fun _ _ _ h => h) (Or.inl ⟨by rfl, ?_⟩) hHeld ?_
      rotate_left
      · intro w' hSw; (try dsimp only at hSw); have d0 := hSw.1.at 0 rfl; have f0 := hSw.2.at 0 rfl; have d1 := hSw.1.at 1 rfl; have f1 := hSw.2.at 1 rfl; go_simp; try with_reducible rfl
      try simp only [Act.put, List.setIfInBounds_toArray, List.set_cons_zero, List.set_cons_succ]
      refine wpAnyH_ready (rs := [13]) (by kernel_rfl) (by simp) ?_
      refine AllReadyH.cons (i := 13) rfl (fun K hK => ?_) AllReadyH.nil
      go_simp
      refine (implFits_is y1 y1 _ a1 a1 sm1 sm1).mono ?_
      rintro en u4 ⟨rfl, hb⟩
      replace TA := TA.later hb TA.lt
      replace TB := TB.later hb TB.lt
      replace a1 := a1.later hb
      replace a2 := a2.later hb
      replace BC := BC.trans (hb.mono BC.size)
      clear hb
      rw [HFS.out rfl]
      go_wp2_with fail
      refine hK.out _ _ ⟨TA, TB⟩ (fun hHeld2 => ?_)
      clear hK K hHeld
      have hHeld := hHeld2
      clear hHeld2
      try simp only [Act.put, List.setIfInBounds_toArray, List.set_cons_zero, List.set_cons_succ]
      refine take_one 14 94 (v := ?_) rfl rfl (by kernel_rfl) (by kernel_rfl) (by kernel_rfl) (fun _ _ _ h => h) (Or.inl ⟨by rfl, ?_⟩) hHeld ?_
      rotate_left
      · intro w' hSw; (try dsimp only at hSw); have d0 := hSw.1.at 0 rfl; have f0 := hSw.2.at 0 rfl; have d1 := hSw.1.at 1 rfl; have f1 := hSw.2.at 1 rfl; go_simp; try with_reducible rfl
      try simp only [Act.put, List.setIfInBounds_toArray, List.set_cons_zero, List.set_cons_succ]
      refine take_one 15 95 (v := ?_) rfl rfl (by kernel_rfl) (by kernel_rfl) (by kernel_rfl) (fun _ _ _ h => h) (Or.inl ⟨by rfl, ?_⟩) hHeld ?_
      rotate_left
      · intro w' hSw; (try dsimp only at hSw); have d0 := hSw.1.at 0 rfl; have f0 := hSw.2.at 0 rfl; have d1 := hSw.1.at 1 rfl; have f1 := hSw.2.at 1 rfl; go_simp; try with_reducible rfl
      try simp only [Act.put, List.setIfInBounds_toArray, List.set_cons_zero, List.set_cons_succ]
      refine take_one 16 96 (v := ?_) rfl rfl (by kernel_rfl) (by kernel_rfl) (by kernel_rfl) (fun _ _ _ h => h) (Or.inl ⟨by rfl, ?_⟩) hHeld ?_
      rotate_left
      · intro w' hSw; (try dsimp only at hSw); have d0 := hSw.1.at 0 rfl; have f0 := hSw.2.at 0 rfl; have d1 := hSw.1.at 1 rfl; have f1 := hSw.2.at 1 rfl; go_simp; try with_reducible rfl
      try simp only [Act.put, List.setIfInBounds_toArray, List.set_cons_zero, List.set_cons_succ]
      refine wpAnyH_done (by kernel_rfl) ?_ _
      have HH : Hid (Below W.heap.size W u4) := BC
      clear TA TB a1 a2 BC
      try go_wp2
      go_meet
      exact ⟨rfl, HH⟩
    | false =>
      refine skip_one 11 91 rfl rfl (by kernel_rfl) (by kernel_rfl) (by kernel_rfl) (fun _ _ _ h => h) (unwanted (c := false) rfl rfl (by simp) rfl) hHeld ?_
      try simp only [Act.put, List.setIfInBounds_toArray, List.set_cons_zero, List.set_cons_succ]
      refine skip_one 12 92 rfl rfl (by kernel_rfl) (by kernel_rfl) (by kernel_rfl) (fun _ _ _ h => h) (unwanted (c := false) rfl rfl (by simp) rfl) hHeld ?_
      try simp only [Act.put, List.setIfInBounds_toArray, List.set_cons_zero, List.set_cons_succ]
      refine skip_one 13 93 rfl rfl (by kernel_rfl) (by kernel_rfl) (by kernel_rfl) (fun _ _ _ h => h) (unwanted (c := false) rfl rfl (by simp) rfl) hHeld ?_
      try simp only [Act.put, List.setIfInBounds_toArray, List.set_cons_zero, List.set_cons_succ]
      refine skip_one 14 94 rfl rfl (by kernel_rfl) (by kernel_rfl) (by kernel_rfl) (fun _ _ _ h => h) (unwanted (c := false) rfl rfl (by simp) rfl) hHeld ?_
      try simp only [Act.put, List.setIfInBounds_toArray, List.set_cons_zero, List.set_cons_succ]
      refine take_one 15 95 (v := ?_) rfl rfl (by kernel_rfl) (by kernel_rfl) (by kernel_rfl) (fun _ _ _ h => h) (Or.inl ⟨by rfl, ?_⟩) hHeld ?_
      rotate_left
      · intro w' hSw; (try dsimp only at hSw); go_simp; try with_reducible rfl
      try simp only [Act.put, List.setIfInBounds_toArray, List.set_cons_zero, List.set_cons_succ]
      refine take_one 16 96 (v := ?_) rfl rfl (by kernel_rfl) (by kernel_rfl) (by kernel_rfl) (fun _ _ _ h => h) (Or.inl ⟨by rfl, ?_⟩) hHeld ?_
      rotate_left
      · intro w' hSw; (try dsimp only at hSw); go_simp; try with_reducible rfl
      try simp only [Act.put, List.setIfInBounds_toArray, List.set_cons_zero, List.set_cons_succ]
      refine wpAnyH_done (by kernel_rfl) ?_ _
      have HH : Hid (Below W.heap.size W u3) := BC
      clear TA TB a1 a2 BC
      try go_wp2
      go_meet
      exact ⟨rfl, HH⟩
  case rest =>
  obtain ⟨rfl, HT⟩ := hcut
  clear BC TA TB a1 a2 sm1 sm2
  have BC := HT.out
  clear HT
  have K := drawLess_is ad len cap zs _ ((HZ.out.below BC).lt BC.size)
  go_wp2_with fail
  refine K.mono ?_
  clear K
  rintro e w16 ⟨⟨y1, y2, rfl, o1, s1, o2, s2⟩, hb⟩
  replace BC := BC.trans (hb.mono BC.size)
  clear hb
  obtain ⟨VLa, hVLa⟩ : ∃ V, (w16.alloc (.cells #[.slice none 0 0, .string ⟨#[]⟩] 26)).alloc (.cells #[.slice none 0 0, .string ⟨#[]⟩] 26) = V := ⟨_, rfl⟩
  have ZA : Blk w16.heap.size [.slice none 0 0, .string ⟨#[]⟩] VLa := by rw [← hVLa]; exact (Blk.new w16 #[.slice none 0 0, .string ⟨#[]⟩] 26).alloc (by simp) _
  have ZB : Blk (w16.heap.size + 1) [.slice none 0 0, .string ⟨#[]⟩] VLa := by rw [← hVLa]; have := Blk.new (w16.alloc (.cells #[.slice none 0 0, .string ⟨#[]⟩] 26)) #[.slice none 0 0, .string ⟨#[]⟩] 26; simpa using this
  have hb : Below w16.heap.size w16 VLa := by rw [← hVLa]; exact ((Below.refl _ _).alloc (Nat.le_refl _) _).alloc (by simp) _
  obtain ⟨VLb, hVLb⟩ : ∃ V, World.setCells VLa w16.heap.size 0 [sv2 y1, .string y1.2] = V := ⟨_, rfl⟩
  obtain ⟨VLc, hVLc⟩ : ∃ V, World.setCells VLb (w16.heap.size + 1) 0 [sv2 y2, .string y2.2] = V := ⟨_, rfl⟩
  have ZB2 : Blk (w16.heap.size + 1) [.slice none 0 0, .string ⟨#[]⟩] VLb := by rw [← hVLb]; exact Blk.farS (by omega) _ _ _ ZB
  have TA : Blk w16.heap.size [sv2 y1, .string y1.2] VLc := by rw [← hVLc, ← hVLb]; exact Blk.farS (by omega) _ _ _ (ZA.sets _ rfl)
  have TB : Blk (w16.heap.size + 1) [sv2 y2, .string y2.2] VLc := by rw [← hVLc]; exact ZB2.sets _ rfl
  replace hb : Below w16.heap.size w16 VLc := by rw [← hVLc, ← hVLb]; exact below_sets (by omega) _ _ _ (below_sets (by omega) _ _ _ hb)
  replace BC := BC.trans (hb.mono BC.size)
  have a1 : DpT VLc y1 := o1.dp.later hb
  have a2 : DpT VLc y2 := o2.dp.later hb
  have sm1 := Sn.sm s1
  have sm2 := Sn.sm s2
  clear hb o1 o2 s1 s2
  obtain ⟨bl, hbl⟩ : ∃ n, w16.heap.size = n := ⟨_, rfl⟩
  rw [hbl] at TA TB ZA ZB ZB2 hVLb hVLc
  have K := implLess_is y1 y2 VLc a1 a2 sm1 sm2
  obtain ⟨l1, hl1⟩ : ∃ l, lessN (stT y1) (stT y2) = l := ⟨_, rfl⟩
  have HL1 : Hid (lessN (stT y1) (stT y2) = l1) := hl1
  rw [hl1] at K
  clear hl1
  have qTA0 := TA.at 0 rfl
  have qTA1 := TA.at 1 rfl
  have qTB0 := TB.at 0 rfl
  have qTB1 := TB.at 1 rfl
  go_wp2_with (first | (show wpList Try.prog _ _ ({ dst := none, op := Op.store 26 (Operand.tmp 14) (Operand.tmp 100), type := _, pos := _, after := _, guard := _ } :: _) _ _; (try rw [hVLa]); (try rw [hbl]); refine wpList_stB 26 _ _ bl 0 _ [sv2 y1, .string y1.2] ie hie ZA his.symm (by simp) rfl rfl rfl rfl rfl ?_; rw [hVLb]) | (show wpList Try.prog _ _ ({ dst := none, op := Op.store 26 (Operand.tmp 15) (Operand.tmp 101), type := _, pos := _, after := _, guard := _ } :: _) _ _; refine wpList_stB 26 _ _ (bl + 1) 0 _ [sv2 y2, .string y2.2] ie hie ZB2 his.symm (by simp) rfl rfl rfl rfl rfl ?_; rw [hVLc]) | fail)
  clear hVLa hVLb hVLc hbl ZA ZB ZB2
  refine K.mono ?_
  clear K qTA0 qTA1 qTB0 qTB1
  rintro e w17 ⟨rfl, hb⟩
  replace BC := BC.trans (hb.mono BC.size)
  replace TA := TA.later hb TA.lt
  replace TB := TB.later hb TB.lt
  replace a1 := a1.later hb
  replace a2 := a2.later hb
  clear hb
  obtain ⟨smv, hsmv⟩ : ∃ s, smN (stT y1) (stT y2) = s := ⟨_, rfl⟩
  have HSV : Hid (smN (stT y1) (stT y2) = smv) := hsmv
  clear hsmv
  go_upto_region 18 with fail
  go_cut [17] (fun s17 wx => s17 = .bool smv ∧ Hid (Below W.heap.size W wx ∧ Blk bl [sv2 y1, .string y1.2] wx ∧ Blk (bl + 1) [sv2 y2, .string y2.2] wx ∧ DpT wx y1 ∧ DpT wx y2))
  case first =>
    have HSM : Hid (smN (stT y1) (stT y2) = (decide (y1.2 = y2.2) && decide (y1.1.2.2 = y2.1.2.2))) := (rfl : smN _ _ = _)
    rw [HSV.out] at HSM
    have qTA0 := TA.at 0 rfl
    have qTA1 := TA.at 1 rfl
    have qTB0 := TB.at 0 rfl
    have qTB1 := TB.at 1 rfl
    by_cases h2 : y1.2 = y2.2
    · have HV : Hid (smv = decide (y1.1.2.2 = y2.1.2.2)) := by show _ = _; rw [HSM.out, decide_eq_true h2]; rfl
      have q1 := list_eq h2
      have K := sameT_is y1.1.1 y2.1.1 y1.1.2.1 y2.1.2.1 y1.1.2.2 y2.1.2.2 w17 a1 a2 sm1.1 sm2.1
      rw [← HV.out] at K
      clear HSM h2 HV
      go_wp2_with fail
      refine K.mono ?_
      clear K qTA0 qTA1 qTB0 qTB1
      rintro e w18 ⟨rfl, hb⟩
      replace BC := BC.trans (hb.mono BC.size)
      replace TA := TA.later hb TA.lt
      replace TB := TB.later hb TB.lt
      replace a1 := a1.later hb
      replace a2 := a2.later hb
      clear hb
      have HH : Hid (_ ∧ _ ∧ _ ∧ _ ∧ _) := ⟨BC, TA, TB, a1, a2⟩
      clear TA TB a1 a2 BC q1
      go_wp2
      go_meet
      exact ⟨rfl, HH⟩
    · have HV : Hid (smv = false) := by show _ = _; rw [HSM.out, decide_eq_false h2]; rfl
      have q1 := list_ne h2
      have HH : Hid (_ ∧ _ ∧ _ ∧ _ ∧ _) := ⟨BC, TA, TB, a1, a2⟩
      clear HSM h2 TA TB a1 a2 BC
      go_wp2
      go_meet
      exact ⟨by rw [HV.out], HH⟩
  case rest =>
  obtain ⟨rfl, HT⟩ := hcut
  clear BC TA TB a1 a2
  obtain ⟨BC, TA, TB, a1, a2⟩ := HT.out
  clear HT
  have K := specLess_is y1 y2 _ a1 a2 sm1 sm2
  rw [HL1.out] at K
  have qTA0 := TA.at 0 rfl
  have qTA1 := TA.at 1 rfl
  have qTB0 := TB.at 0 rfl
  have qTB1 := TB.at 1 rfl
  go_wp2_with fail
  refine K.mono ?_
  clear K qTA0 qTA1 qTB0 qTB1
  rintro e w19 ⟨rfl, hb⟩
  replace BC := BC.trans (hb.mono BC.size)
  replace TA := TA.later hb TA.lt
  replace TB := TB.later hb TB.lt
  replace a1 := a1.later hb
  replace a2 := a2.later hb
  clear hb
  have K := implLess_is y2 y1 w19 a2 a1 sm2 sm1
  have hll : (l1 == l1) = true := by simp
  cases l1 with
  | true =>
    rw [less_asym HL1.out] at K
    have hnt : smv = false := by rw [← HSV.out]; exact less_not HL1.out
    subst hnt
    clear HL1 HSV
    have qTA0 := TA.at 0 rfl
    have qTA1 := TA.at 1 rfl
    have qTB0 := TB.at 0 rfl
    have qTB1 := TB.at 1 rfl
    go_wp2_with fail
    refine K.mono ?_
    clear K qTA0 qTA1 qTB0 qTB1
    rintro e w20 ⟨rfl, hb⟩
    have BF := BC.trans (hb.mono BC.size)
    clear hb BC TA TB a1 a2
    go_wp2
    go_ret
    exact ⟨rfl, BF⟩
  | false =>
    rw [less_total HL1.out, HSV.out] at K
    clear HL1 HSV
    have qTA0 := TA.at 0 rfl
    have qTA1 := TA.at 1 rfl
    have qTB0 := TB.at 0 rfl
    have qTB1 := TB.at 1 rfl
    go_wp2_with fail
    refine K.mono ?_
    clear K qTA0 qTA1 qTB0 qTB1
    rintro e w20 ⟨rfl, hb⟩
    have BF := BC.trans (hb.mono BC.size)
    clear hb BC TA TB a1 a2
    cases smv <;> (go_wp2; go_ret; exact ⟨rfl, BF⟩)
end Go.Proofs.Ytbpodcfbijhboaa.Nd
