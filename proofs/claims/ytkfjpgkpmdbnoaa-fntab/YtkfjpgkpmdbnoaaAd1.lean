/- A key put into a table: the program. -/
import Derived.Test.YtkfjpgkpmdbnoaaAd0
import Derived.Test.YtkfjpgkpmdbnoaaWr0
set_option linter.unusedVariables false
set_option maxRecDepth 100000
namespace Go.Proofs.Ytkfjpgkpmdbnoaa
open Go Go.RowKit Go.Joins Own Draw

set_option maxHeartbeats 1600000 in
theorem cloneS_is (a : Option Addr) (cap : Nat) (xs : List TS) (w : World) (hr : RwG a cap xs w) (hl : xs.length ≤ 1048576) : Calls Try.prog 42 #[.slice a xs.length cap] w fun en w' => ∃ (a' : Option Addr) (k : Nat), en = .returned (.slice a' xs.length k) ∧ FOwn 31 3 cS w.heap.size a' k xs w' ∧ Below w.heap.size w w' := by
  obtain ⟨i0, hi, hz0, hz1, hz2⟩ := info_parts infoS
  have q24 : ∀ (w : World) (a : Option Addr) (n c n' c' : Nat), (binOp .eql 24 (.slice a n c) (.slice none n' c')).run Try.prog w = .ok (.bool a.isNone) w := fun w a n c n' c' => Lib.run_eql_slice_nil w _ _ a n c n' c' Try.underlying24
  rcases hr with ⟨rfl, rfl, rfl⟩ | ⟨g, rfl, hc, hr⟩
  · go_enter Try.func42, Try.ntmps42
    go_wp2
    go_ret
    exact ⟨none, 0, rfl, World.ownsRow_nil _ _ _ _, Below.refl _ _⟩
  · have O0 : (w.alloc (.cells #[] 31)).ownsRow w.heap.size 31 3 (.slice (some ⟨w.heap.size, 0, none⟩) 0 0) 0 [] := World.ownsRow_lit _ _ _ (Nat.le_refl _) (by simp [maxLen]) rfl
    have hb : Below w.heap.size w (w.alloc (.cells #[] 31)) := (Below.refl _ _).alloc (Nat.le_refl _) _
    have hr2 := FRow.later hr hb
    have hnw := frow_news lS (by decide) hr2
    have hsz : (w.alloc (.cells #[] 31)).heap.size = w.heap.size + 1 := by simp
    go_enter Try.func42, Try.ntmps42
    go_wp2_with (first | (at_builtin; refine wpList_append_row _ rfl _ _ 24 rfl w.heap.size 31 i0 _ 3 24 Try.underlying24 hi hz0 hz1 hz2 rfl (by decide) _ _ _ rfl O0 (some ⟨g, 0, none⟩) xs.length cap (fl cS xs) rfl ?c1 hnw (one_S _) ?c3 ?c4 ?c5 (by simp) ?_) | go_in)
    try (case c1 => rw [fl_len lS])
    try (case c3 => unfold maxLen; omega)
    try (case c4 => omega)
    try (case c5 => omega)
    intro vA wA ownA hgA
    try rw [Nat.zero_add, List.nil_append] at ownA
    obtain ⟨na, nc, rfl, _⟩ := own_shape ownA
    have hob : ∀ k, (Value.slice (some ⟨w.heap.size, 0, none⟩) 0 0).ownBlock = some k → w.heap.size ≤ k := fun k hk => (O0.lt k hk).1
    have hB : Below w.heap.size w wA := hb.grown hgA (by omega) (by intro k hk; exact hob _ hk)
    clear O0 hgA hob hnw hr2 hb hsz hr hc
    go_wp2
    go_ret
    exact ⟨na, nc, rfl, ownA, hB⟩
set_option maxHeartbeats 3200000 in
theorem next_is (a : Option Addr) (cap : Nat) (xs : List TS) (who key : Int) (w : World) (hr : FRow 3 cS w a xs) (ht : tabB xs = true) :
    Calls Try.prog 40 #[.slice a xs.length cap, .int .i64 who, .int .i64 key] w fun e w' => e = .returned (vS (nwS xs who key)) ∧ Below w.heap.size w w' := by
  have hb := laG_bound ht who
  have hl := tab_len ht
  have hla := la_no ht who
  unfold nwS
  dsimp only [vS]
  generalize laG xs who = u at hb hla ⊢
  obtain ⟨V, hV⟩ : ∃ V, w.alloc (.cells #[.int .i64 0, .int .i64 0, .int .i64 0] 31) = V := ⟨_, rfl⟩
  have TV : Blk w.heap.size [.int .i64 0, .int .i64 0, .int .i64 0] V := by rw [← hV]; exact Blk.new _ _ _
  have BV : Below w.heap.size w V := by rw [← hV]; exact (Below.refl _ _).alloc (Nat.le_refl _) _
  have K := implNow_is a cap xs who V (hr.later BV) (by omega)
  generalize noT xs who = nn at K hla
  obtain ⟨⟨n0, n1, n2⟩, nb⟩ := nn
  dsimp only [vS] at K hla
  subst hla
  go_enter Try.func40, Try.ntmps40
  go_wp2_with fail
  try rw [hV]
  refine K.mono ?_
  clear K hV
  rintro en W1 ⟨rfl, hb1⟩
  replace TV := TV.later hb1 TV.lt
  replace BV := BV.trans (hb1.mono BV.size)
  clear hb1
  obtain ⟨U, hU⟩ : ∃ U, W1.alloc (.cells #[.int .i64 n0, .int .i64 n1, .int .i64 n2] 31) = U := ⟨_, rfl⟩
  have XA : Below W1.heap.size W1 U := by rw [← hU]; exact (Below.refl _ _).alloc (Nat.le_refl _) _
  have TU : Blk W1.heap.size [.int .i64 n0, .int .i64 n1, .int .i64 n2] U := by rw [← hU]; exact Blk.new _ _ _
  have d1 : (W1.alloc (.cells #[.int .i64 n0, .int .i64 n1, .int .i64 n2] 31)).cell? ⟨W1.heap.size, 1, none⟩ = some (.int .i64 n1) := by rw [hU]; exact TU.at 1 rfl
  replace TV := TV.later XA TV.lt
  replace BV := BV.trans (XA.mono BV.size)
  have t0 := TV.at 0 rfl
  have t1 := TV.at 1 rfl
  have t2 := TV.at 2 rfl
  have f0 := TV.fz 0 rfl
  have f1 := TV.fz 1 rfl
  have f2 := TV.fz 2 rfl
  have TA := ((TV.set 0 (.int .i64 who)).set 1 (.int .i64 (n1 + 1))).set 2 (.int .i64 key)
  have BD := ((BV.setCell (p := ⟨w.heap.size, 0, none⟩) (Nat.le_refl _) (.int .i64 who)).setCell (p := ⟨w.heap.size, 1, none⟩) (Nat.le_refl _) (.int .i64 (n1 + 1))).setCell (p := ⟨w.heap.size, 2, none⟩) (Nat.le_refl _) (.int .i64 key)
  clear TV BV XA TU
  rw [← hU] at t0 t1 t2 f0 f1 f2 TA BD
  clear hU
  go_wp2
  exact bodyPost_ret (resS rfl _ _ w.heap.size _ _ _ rfl (TA.at 0 rfl) (TA.at 1 rfl) (TA.at 2 rfl)) rfl ⟨rfl, BD⟩
set_option maxHeartbeats 6400000 in
theorem implAdd_is (B cap : Nat) (a : Option Addr) (xs : List TS) (who key : Int) (w : World) (ho : FOwn 31 3 cS B a cap xs w) (hl : xs.length ≤ 1048576) :
    Calls Try.prog 14 #[.slice a xs.length cap, .int .i64 who, .int .i64 key] w fun e w' => ∃ (ra : Option Addr) (rc : Nat), e = .returned (.tuple #[.slice ra (adT xs who key).1.length rc, .bool (adT xs who key).2]) ∧ FOwn 31 3 cS w.heap.size ra rc (adT xs who key).1 w' ∧ Below w.heap.size w w' := by
  have hr := rwG_own ho
  clear ho
  have K0 := implTab_is a cap xs w hr.row hl
  by_cases ht : tabB xs = true
  · rw [ht] at K0
    have h20 := tab_len ht
    have HE : Hid (adT xs who key = if tabB (puT xs (nwS xs who key)) = true then (puT xs (nwS xs who key), true) else (xs, false)) := ad_same ht who key
    have hpl := pu_len xs (nwS xs who key)
    have K1 := fun W (h : FRow 3 cS W a xs) => next_is a cap xs who key W h ht
    have K2 := fun W (h : RwG a cap xs W) => with_is a cap xs (nwS xs who key) W h (by omega) (tab_ws ht)
    generalize nwS xs who key = x at K1 K2 HE hpl
    replace hpl : Hid ((puT xs x).length ≤ 21) := (by show _ ≤ _; omega)
    generalize puT xs x = ys at K2 HE hpl
    go_enter Try.func14, Try.ntmps14
    go_wp2_with fail
    refine K0.mono ?_
    clear K0
    rintro en W1 ⟨rfl, B1⟩
    replace hr := hr.later B1
    go_wp2_with fail
    refine (K1 _ hr.row).mono ?_
    clear K1
    rintro en W2 ⟨rfl, hb⟩
    replace hr := hr.later hb
    replace B1 := B1.trans (hb.mono B1.size)
    clear hb
    go_wp2_with fail
    refine (K2 _ hr).mono ?_
    clear K2
    rintro en W3 ⟨⟨ra, rc, rfl, ro⟩, hb⟩
    replace hr := hr.later hb
    replace ro := ro.le B1.size
    replace B1 := B1.trans (hb.mono B1.size)
    clear hb
    go_wp2_with fail
    refine (implTab_is ra rc ys _ (FOwn.row lS ro) (Nat.le_trans hpl.out (by decide))).mono ?_
    rintro en W4 ⟨rfl, hb⟩
    replace hr := hr.later hb
    replace ro : FOwn 31 3 cS w.heap.size ra rc ys W4 := own_later ro hb
    replace B1 := B1.trans (hb.mono B1.size)
    clear hb
    cases h2 : tabB ys with
    | true =>
      have HV : Hid (adT xs who key = (ys, true)) := by show _ = _; rw [HE.out, h2]; rfl
      clear HE hr h2 ht
      go_wp2
      go_ret2
      exact ⟨ra, rc, by rw [HV.out]; try rfl, by rw [HV.out]; exact ro, B1⟩
    | false =>
      have HV : Hid (adT xs who key = (xs, false)) := by show _ = _; rw [HE.out, h2]; rfl
      clear HE h2 ht ro
      go_wp2_with fail
      refine (cloneS_is a cap xs _ hr (by omega)).mono ?_
      rintro en W5 ⟨ca, cc, rfl, co, hb⟩
      replace co := co.le B1.size
      replace B1 := B1.trans (hb.mono B1.size)
      clear hb hr
      go_wp2
      go_ret2
      exact ⟨ca, cc, by rw [HV.out]; try rfl, by rw [HV.out]; exact co, B1⟩
  · rw [Bool.not_eq_true] at ht
    rw [ht] at K0
    have HV : Hid (adT xs who key = ([], false)) := adT_bad ht
    clear hr ht
    go_enter Try.func14, Try.ntmps14
    go_wp2_with fail
    refine K0.mono ?_
    clear K0
    rintro en W1 ⟨rfl, B1⟩
    go_wp2
    go_ret2
    exact ⟨none, 0, by rw [HV.out]; try rfl, by rw [HV.out]; exact World.ownsRow_nil _ _ _ _, B1⟩
end Go.Proofs.Ytkfjpgkpmdbnoaa
