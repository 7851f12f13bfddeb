/- What the law on what is built draws. -/
import Derived.Test.YtkekfogepdhjhaaGreatBlk
import Derived.Test.YtkekfogepdhjhaaGreatDrawP
set_option linter.unusedVariables false
namespace Go.Proofs.YtkekfogepdhjhaaGreat
open Go.RowKit Go.Proofs.YtkekfogepdhjhaaGreat.Own Var Term Draw

theorem RowAt.put {α : Type} {f : α → Value} {w : World} {a : Option Addr} {xs : List α} {q : Nat} (h : RowAt f w a xs) (hn : ∀ p : Addr, a = some p → p.block ≠ q) (i : Nat) (u : Value) : RowAt f (w.setCell ⟨q, i, none⟩ u) a xs := by
  intro j hj
  obtain ⟨b, off, e, hlt, hc⟩ := h j hj
  refine ⟨b, off, e, by simpa using hlt, ?_⟩
  have := hn _ e
  rw [World.cell?_setCell_other _ _ _ _ (by intro he; simp only [Addr.mk.injEq] at he; exact this he.1.symm)]
  exact hc
theorem RowAt.drew {α : Type} {f : α → Value} {w : World} {a : Option Addr} {xs : List α} (h : RowAt f w a xs) : RowAt f w.drew a xs := h
theorem own_block {w : World} {base n : Nat} {e : TypeId} {a : Option Addr} {c : Nat} {xs : List Value} (h : w.ownsRow base e 1 (.slice a n c) n xs) : ∀ p : Addr, a = some p → base ≤ p.block := by
  intro p e
  subst e
  exact (h.lt p.block rfl).1
set_option maxRecDepth 100000 in
set_option maxHeartbeats 6400000 in
theorem drawBuild (ad : Option Addr) (len cap : Nat) (zs : List Int) (W : World) (hl : len ≤ 1048576) (hz : CodeAt W W.heap.size ad len zs) :
    Calls Tryz.prog 5 #[.slice ad len cap] W fun en w' => ∃ (a1 b1 : Option Addr) (c1 d1 : Nat) (xs : List ByteArray) (ks : List Int) (t : ByteArray), en = .returned (.tuple #[.agg #[.slice a1 xs.length c1, .slice b1 ks.length d1], .string t]) ∧
      RowAt Value.string w' a1 xs ∧ RowAt (Value.int .i64) w' b1 ks ∧ xs.length ≤ c1 ∧ xs.length ≤ 16 ∧ ks.length ≤ 16 ∧ (∀ x ∈ xs, x.size ≤ 930) ∧ t.size ≤ 930 ∧ Below W.heap.size W w' := by
  obtain ⟨W1, hW1⟩ : ∃ W1, W.alloc (.cells #[.slice none 0 0, .slice none 0 0] 27) = W1 := ⟨_, rfl⟩
  have RB : Blk W.heap.size [.slice none 0 0, .slice none 0 0] W1 := by rw [← hW1]; exact Blk.new _ _ _
  have B1 : Below W.heap.size W W1 := by rw [← hW1]; exact (Below.refl _ _).alloc (Nat.le_refl _) _
  have HC : Hid (CodeAt W1 W1.heap.size ad len zs) := (hz.below B1).lt B1.size
  have lW : W.heap.size < W1.heap.size := RB.lt
  clear hz
  go_enter Tryz.func5, Tryz.ntmps5
  go_wp2_with fail
  try rw [hW1]
  refine (new_go ad len cap zs W1 HC.out).mono ?_
  clear hW1
  rintro en w2 ⟨rfl, cur, hb2, Z2⟩
  have D2 : Dr w2 W1.heap.size ad len cap zs (newS zs len) := ⟨cur, HC.out.below hb2, Nat.zero_le _⟩
  have CC := Cu.start D2
  have B2 := B1.trans (hb2.mono B1.size)
  have RBN := RB.later hb2 RB.lt
  have pw2 : W1.heap.size < w2.heap.size := CC.lt
  clear cur HC hb2 B1 D2 RB Z2
  have RB := RBN
  clear RBN
  generalize W1.heap.size = p at *
  go_wp2_with fail
  refine (size15_is ad len cap _ hl).mono ?_
  rintro en w3 ⟨L, rfl, L2, L15, rfl⟩
  go_wp2_with fail
  refine (l3Known_is p ad len cap zs L _ L2 L15 CC).mono ?_
  rintro en w4 ⟨a1, b1, c1, d1, xs, ks, rfl, OX, OK, lx, lk, hs, C⟩
  have RBN := RB.only C.2 RB.lt (by omega)
  have l2 : W.heap.size < w2.heap.size := RB.lt
  have XR : RowAt Value.string w4 a1 xs := own_rowAt (f := Value.string) OX
  have KR : RowAt (Value.int .i64) w4 b1 ks := own_rowAt (f := Value.int .i64) OK
  have hxb := own_block OX
  have hkb := own_block OK
  have hc1 : xs.length ≤ c1 := by
    obtain ⟨a9, c9, e9, h9, _⟩ := own_row (f := Value.string) OX
    simp only [Value.slice.injEq] at e9
    omega
  have hxp : ∀ q : Addr, a1 = some q → q.block ≠ p := fun q e => by have := hxb q e; omega
  have hkp : ∀ q : Addr, b1 = some q → q.block ≠ p := fun q e => by have := hkb q e; omega
  have hxr : ∀ q : Addr, a1 = some q → q.block ≠ W.heap.size := fun q e => by have := hxb q e; omega
  have hkr : ∀ q : Addr, b1 = some q → q.block ≠ W.heap.size := fun q e => by have := hkb q e; omega
  have CCN := CC.next C
  clear RB CC C OX OK hxb hkb
  have RB := RBN
  have CC := CCN
  clear RBN CCN
  obtain ⟨W5, hW5⟩ : ∃ W5, w4.alloc (.cells #[.slice a1 xs.length c1, .slice b1 ks.length d1] 27) = W5 := ⟨_, rfl⟩
  have X5 : Below w4.heap.size w4 W5 := by rw [← hW5]; exact (Below.refl _ _).alloc (Nat.le_refl _) _
  have QB : Blk w4.heap.size [.slice a1 xs.length c1, .slice b1 ks.length d1] W5 := by rw [← hW5]; exact Blk.new _ _ _
  have RBN := RB.later X5 RB.lt
  have XRN := XR.later X5
  have KRN := KR.later X5
  have CCN := CC.under X5
  have pq : p < w4.heap.size := CC.lt
  have rq : W.heap.size < w4.heap.size := RB.lt
  clear RB XR KR CC X5
  have RB := RBN
  have XR := XRN
  have KR := KRN
  have CC := CCN
  clear RBN XRN KRN CCN
  have HQ := show Hid _ from hW5
  clear hW5
  have HX := anyW p ad len cap zs W5 CC.here
  go_wp2_with fail
  try rw [HQ.out]
  refine HX.mono ?_
  clear HX HQ
  rintro en w6 ⟨t0, rfl, ht0, C⟩
  generalize w4.heap.size = q at *
  have QBN := QB.only C.2 QB.lt (by omega)
  have RBN := RB.only C.2 RB.lt (by omega)
  have XRN := XR.only C.2 hxp
  have KRN := KR.only C.2 hkp
  have CCN := CC.next C
  clear RB XR KR CC C QB
  have RB := RBN
  have XR := XRN
  have KR := KRN
  have CC := CCN
  have QB := QBN
  clear RBN XRN KRN CCN QBN
  by_cases hx0 : xs.length = 0
  · have hxd : decide ((xs.length : Int) > 0) = false := by simp [hx0]
    have hxn : ¬ (0 : Int) < (xs.length : Int) := by omega
    have hxm : ¬ 0 < xs.length := by omega
    clear hx0
    have r0 := RB.at 0 rfl
    have r1 := RB.at 1 rfl
    have g0 := RB.fz 0 rfl
    have g1 := RB.fz 1 rfl
    have q0 := QB.at 0 rfl
    have q1 := QB.at 1 rfl
    have B5 : Below W.heap.size W w6 := B2.trans (CC.2.below (by omega) pw2)
    have F := show Hid _ from (show Blk W.heap.size [.slice a1 xs.length c1, .slice b1 ks.length d1] (((w6).setCell ⟨W.heap.size, 0, none⟩ (.slice a1 xs.length c1)).setCell ⟨W.heap.size, 1, none⟩ (.slice b1 ks.length d1)) ∧ RowAt Value.string (((w6).setCell ⟨W.heap.size, 0, none⟩ (.slice a1 xs.length c1)).setCell ⟨W.heap.size, 1, none⟩ (.slice b1 ks.length d1)) a1 xs ∧ RowAt (Value.int .i64) (((w6).setCell ⟨W.heap.size, 0, none⟩ (.slice a1 xs.length c1)).setCell ⟨W.heap.size, 1, none⟩ (.slice b1 ks.length d1)) b1 ks ∧ Below W.heap.size W (((w6).setCell ⟨W.heap.size, 0, none⟩ (.slice a1 xs.length c1)).setCell ⟨W.heap.size, 1, none⟩ (.slice b1 ks.length d1)) from ⟨(RB.set 0 (.slice a1 xs.length c1)).set 1 (.slice b1 ks.length d1), (XR.put hxr 0 (.slice a1 xs.length c1)).put hxr 1 (.slice b1 ks.length d1), (KR.put hkr 0 (.slice a1 xs.length c1)).put hkr 1 (.slice b1 ks.length d1), (B5.setCell (by dsimp only; omega) (.slice a1 xs.length c1)).setCell (by dsimp only; omega) (.slice b1 ks.length d1)⟩)
    have NQ : ¬ q = W.heap.size := by omega
    have NR : ¬ W.heap.size = q := by omega
    clear RB QB CC XR KR B5
    go_wp2
    have G := F.out
    exact bodyPost_ret (res_2s rfl _ _ W.heap.size _ _ (.string (t0)) rfl rfl (G.1.at 0 rfl) (G.1.at 1 rfl)) rfl ⟨a1, b1, c1, d1, xs, ks, t0, rfl, G.2.1, G.2.2.1, hc1, lx, lk, hs, ht0, G.2.2.2⟩
  · have hxd : decide ((xs.length : Int) > 0) = true := by simp; omega
    have hxn : (0 : Int) < (xs.length : Int) := by omega
    have hxm : 0 < xs.length := by omega
    have q0 := QB.at 0 rfl
    have HX := onceW 2 CC.here (by omega)
    go_wp2_with fail
    refine HX.mono ?_
    clear HX q0
    rintro en w7 ⟨bb, rfl, C⟩
    have QBN := QB.only C.2 QB.lt (by omega)
    have RBN := RB.only C.2 RB.lt (by omega)
    have XRN := XR.only C.2 hxp
    have KRN := KR.only C.2 hkp
    have CCN := CC.next C
    clear RB XR KR CC C QB
    have RB := RBN
    have XR := XRN
    have KR := KRN
    have CC := CCN
    have QB := QBN
    clear RBN XRN KRN CCN QBN
    cases bb with
    | false =>
      have r0 := RB.at 0 rfl
      have r1 := RB.at 1 rfl
      have g0 := RB.fz 0 rfl
      have g1 := RB.fz 1 rfl
      have q0 := QB.at 0 rfl
      have q1 := QB.at 1 rfl
      have B5 : Below W.heap.size W w7 := B2.trans (CC.2.below (by omega) pw2)
      have F := show Hid _ from (show Blk W.heap.size [.slice a1 xs.length c1, .slice b1 ks.length d1] (((w7).setCell ⟨W.heap.size, 0, none⟩ (.slice a1 xs.length c1)).setCell ⟨W.heap.size, 1, none⟩ (.slice b1 ks.length d1)) ∧ RowAt Value.string (((w7).setCell ⟨W.heap.size, 0, none⟩ (.slice a1 xs.length c1)).setCell ⟨W.heap.size, 1, none⟩ (.slice b1 ks.length d1)) a1 xs ∧ RowAt (Value.int .i64) (((w7).setCell ⟨W.heap.size, 0, none⟩ (.slice a1 xs.length c1)).setCell ⟨W.heap.size, 1, none⟩ (.slice b1 ks.length d1)) b1 ks ∧ Below W.heap.size W (((w7).setCell ⟨W.heap.size, 0, none⟩ (.slice a1 xs.length c1)).setCell ⟨W.heap.size, 1, none⟩ (.slice b1 ks.length d1)) from ⟨(RB.set 0 (.slice a1 xs.length c1)).set 1 (.slice b1 ks.length d1), (XR.put hxr 0 (.slice a1 xs.length c1)).put hxr 1 (.slice b1 ks.length d1), (KR.put hkr 0 (.slice a1 xs.length c1)).put hkr 1 (.slice b1 ks.length d1), (B5.setCell (by dsimp only; omega) (.slice a1 xs.length c1)).setCell (by dsimp only; omega) (.slice b1 ks.length d1)⟩)
      have NQ : ¬ q = W.heap.size := by omega
      have NR : ¬ W.heap.size = q := by omega
      clear RB QB CC XR KR B5
      go_wp2
      have G := F.out
      exact bodyPost_ret (res_2s rfl _ _ W.heap.size _ _ (.string (t0)) rfl rfl (G.1.at 0 rfl) (G.1.at 1 rfl)) rfl ⟨a1, b1, c1, d1, xs, ks, t0, rfl, G.2.1, G.2.2.1, hc1, lx, lk, hs, ht0, G.2.2.2⟩
    | true =>
      go_wp2_with fail
      refine wp_region_held_drew (S := (fun Vw => Blk q [.slice a1 xs.length c1, .slice b1 ks.length d1] Vw ∧ RowAt Value.string Vw a1 xs)) (by kernel_rfl) ⟨QB.drew, XR.drew⟩ (fun hHeld => ?_)
      refine take_one 0 23 (v := ?_) rfl rfl (by kernel_rfl) (by kernel_rfl) (by kernel_rfl) (fun _ _ _ h => h) (Or.inl ⟨by rfl, ?_⟩) hHeld ?_
      rotate_left
      · intro w' hSw; (try dsimp only at hSw); have d0 := hSw.1.at 0 rfl; go_simp; try with_reducible rfl
      try simp only [Act.put, List.setIfInBounds_toArray, List.set_cons_zero, List.set_cons_succ]
      refine take_one 1 24 (v := ?_) rfl rfl (by kernel_rfl) (by kernel_rfl) (by kernel_rfl) (fun _ _ _ h => h) (Or.inl ⟨by rfl, ?_⟩) hHeld ?_
      rotate_left
      · intro w' hSw; (try dsimp only at hSw); have d0 := hSw.1.at 0 rfl; go_simp; try with_reducible rfl
      try simp only [Act.put, List.setIfInBounds_toArray, List.set_cons_zero, List.set_cons_succ]
      refine take_one 2 25 (v := ?_) rfl rfl (by kernel_rfl) (by kernel_rfl) (by kernel_rfl) (fun _ _ _ h => h) (Or.inl ⟨by rfl, ?_⟩) hHeld ?_
      rotate_left
      · intro w' hSw; (try dsimp only at hSw); have d0 := hSw.1.at 0 rfl; go_simp; try with_reducible rfl
      try simp only [Act.put, List.setIfInBounds_toArray, List.set_cons_zero, List.set_cons_succ]
      refine take_one 3 26 (v := ?_) rfl rfl (by kernel_rfl) (by kernel_rfl) (by kernel_rfl) (fun _ _ _ h => h) (Or.inl ⟨by rfl, ?_⟩) hHeld ?_
      rotate_left
      · intro w' hSw; (try dsimp only at hSw); have d0 := hSw.1.at 0 rfl; go_simp; try with_reducible rfl
      try simp only [Act.put, List.setIfInBounds_toArray, List.set_cons_zero, List.set_cons_succ]
      refine take_one 4 27 (v := ?_) rfl rfl (by kernel_rfl) (by kernel_rfl) (by kernel_rfl) (fun _ _ _ h => h) (Or.inl ⟨by rfl, ?_⟩) hHeld ?_
      rotate_left
      · intro w' hSw; (try dsimp only at hSw); have d0 := hSw.1.at 0 rfl; go_simp; try with_reducible rfl
      try simp only [Act.put, List.setIfInBounds_toArray, List.set_cons_zero, List.set_cons_succ]
      refine take_one 5 28 (v := ?_) rfl rfl (by kernel_rfl) (by kernel_rfl) (by kernel_rfl) (fun _ _ _ h => h) (Or.inl ⟨by rfl, ?_⟩) hHeld ?_
      rotate_left
      · intro w' hSw; (try dsimp only at hSw); have d0 := hSw.1.at 0 rfl; go_simp; try with_reducible rfl
      try simp only [Act.put, List.setIfInBounds_toArray, List.set_cons_zero, List.set_cons_succ]
      refine take_one 9 32 (v := ?_) rfl rfl (by kernel_rfl) (by kernel_rfl) (by kernel_rfl) (fun _ _ _ h => h) (Or.inl ⟨by rfl, ?_⟩) hHeld ?_
      rotate_left
      · intro w' hSw; (try dsimp only at hSw); have d0 := hSw.1.at 0 rfl; go_simp; try with_reducible rfl
      try simp only [Act.put, List.setIfInBounds_toArray, List.set_cons_zero, List.set_cons_succ]
      refine wpAnyH_ready (rs := [6]) (by kernel_rfl) (by simp) ?_
      refine AllReadyH.cons (i := 6) rfl (fun K hK => ?_) AllReadyH.nil
      go_simp
      refine (belowW (xs.length : Int) CC.drew.here (by omega) (by omega)).mono ?_
      rintro en w8 ⟨j, rfl, ja, jb, C⟩
      have QBN := QB.drew.only C.2 QB.drew.lt (by omega)
      have XRN := XR.drew.only C.2 hxp
      have RBN := RB.drew.only C.2 RB.drew.lt (by omega)
      have KRN := KR.drew.only C.2 hkp
      have CCN := CC.drew.next C
      clear QB XR RB KR CC C
      have QB := QBN
      have XR := XRN
      have RB := RBN
      have KR := KRN
      have CC := CCN
      obtain ⟨jn, rfl⟩ := Int.eq_ofNat_of_zero_le ja
      have hjn : jn < xs.length := by omega
      obtain ⟨xb, xo, hxa, hxl, hxc⟩ := XR jn hjn
      have hsz : (xs[jn]).size ≤ 930 := hs _ (List.getElem_mem _)
      go_wp2_with fail
      refine hK.out _ _ ⟨QBN, XRN⟩ (fun hHeld2 => ?_)
      clear hK K hHeld
      have hHeld := hHeld2
      clear hHeld2
      try simp only [Act.put, List.setIfInBounds_toArray, List.set_cons_zero, List.set_cons_succ]
      subst hxa
      refine take_one 7 30 (v := ?_) rfl rfl (by kernel_rfl) (by kernel_rfl) (by kernel_rfl) (fun _ _ _ h => h) (Or.inl ⟨by rfl, ?_⟩) hHeld ?_
      rotate_left
      · intro w' hSw; (try dsimp only at hSw); go_simp; try with_reducible rfl
      try simp only [Act.put, List.setIfInBounds_toArray, List.set_cons_zero, List.set_cons_succ]
      refine take_one 8 31 (v := .string xs[jn]) rfl rfl (by kernel_rfl) (by kernel_rfl) (by kernel_rfl) (fun _ _ _ h => h) (Or.inl ⟨by rfl, ?_⟩) hHeld ?_
      · intro w' hSw; (try dsimp only at hSw); obtain ⟨yb, yo, hya, _, hyc⟩ := hSw.2 jn hjn; simp only [Option.some.injEq, Addr.mk.injEq] at hya; obtain ⟨rfl, rfl, _⟩ := hya; go_simp; try with_reducible rfl
      try simp only [Act.put, List.setIfInBounds_toArray, List.set_cons_zero, List.set_cons_succ]
      generalize xs[jn] = xj at *
      refine wpAnyH_ready (rs := [10]) (by kernel_rfl) (by simp) ?_
      refine AllReadyH.cons (i := 10) rfl (fun K hK => ?_) AllReadyH.nil
      go_simp
      refine (someW p ad len cap zs 2 2 w8 rfl (by omega) CC.here).mono ?_
      rintro en w9 ⟨tt, rfl, htt, C⟩
      have QBN := QB.only C.2 QB.lt (by omega)
      have XRN := XR.only C.2 hxp
      have RBN := RB.only C.2 RB.lt (by omega)
      have KRN := KR.only C.2 hkp
      have CCN := CC.next C
      clear QB XR RB KR CC C
      have QB := QBN
      have XR := XRN
      have RB := RBN
      have KR := KRN
      have CC := CCN
      go_wp2_with fail
      refine hK.out _ _ ⟨QBN, XRN⟩ (fun hHeld2 => ?_)
      clear hK K hHeld
      have hHeld := hHeld2
      clear hHeld2
      try simp only [Act.put, List.setIfInBounds_toArray, List.set_cons_zero, List.set_cons_succ]
      have X9 := (Below.refl w9.heap.size w9).alloc (Nat.le_refl _) (.cells #[.string xj, .string tt] 9)
      have HL := spec_list (some ⟨w9.heap.size, 0, none⟩) 2 [xj, tt] _ (row_two w9 xj tt) (by simp) (by intro x hx; simp only [List.mem_cons, List.not_mem_nil, or_false] at hx; rcases hx with rfl | rfl <;> omega)
      refine wpAnyH_ready (rs := [11]) (by kernel_rfl) (by simp) ?_
      refine AllReadyH.cons (i := 11) rfl (fun K hK => ?_) AllReadyH.nil
      go_simp
      refine hK.out _ _ ⟨QB.later X9 QB.lt, XR.later X9⟩ (fun hHeld2 => ?_)
      clear hK K hHeld
      have hHeld := hHeld2
      clear hHeld2
      try simp only [Act.put, List.setIfInBounds_toArray, List.set_cons_zero, List.set_cons_succ]
      refine wpAnyH_ready (rs := [12]) (by kernel_rfl) (by simp) ?_
      refine AllReadyH.cons (i := 12) rfl (fun K hK => ?_) AllReadyH.nil
      go_simp
      refine (HL).mono ?_
      rintro en w10 ⟨rfl, hb10⟩
      have Y10 := X9.trans (hb10.mono X9.size)
      have QBN := QB.later Y10 QB.lt
      have XRN := XR.later Y10
      have RBN := RB.later Y10 RB.lt
      have KRN := KR.later Y10
      have CCN := CC.under Y10
      clear QB XR RB KR CC X9 hb10 Y10 HL
      have QB := QBN
      have XR := XRN
      have RB := RBN
      have KR := KRN
      have CC := CCN
      go_wp2_with fail
      refine hK.out _ _ ⟨QBN, XRN⟩ (fun hHeld2 => ?_)
      clear hK K hHeld
      have hHeld := hHeld2
      clear hHeld2
      try simp only [Act.put, List.setIfInBounds_toArray, List.set_cons_zero, List.set_cons_succ]
      refine take_one 13 6 (v := ?_) rfl rfl (by kernel_rfl) (by kernel_rfl) (by kernel_rfl) (fun _ _ _ h => h) (Or.inl ⟨by rfl, ?_⟩) hHeld ?_
      rotate_left
      · intro w' hSw; (try dsimp only at hSw); go_simp; try with_reducible rfl
      try simp only [Act.put, List.setIfInBounds_toArray, List.set_cons_zero, List.set_cons_succ]
      refine wpAnyH_done (by kernel_rfl) ?_ _
      clear hHeld
      have r0 := RB.at 0 rfl
      have r1 := RB.at 1 rfl
      have g0 := RB.fz 0 rfl
      have g1 := RB.fz 1 rfl
      have q0 := QB.at 0 rfl
      have q1 := QB.at 1 rfl
      have B5 : Below W.heap.size W w10 := B2.trans (CC.2.below (by omega) pw2)
      have F := show Hid _ from (show Blk W.heap.size [.slice (some ⟨xb, xo, none⟩) xs.length c1, .slice b1 ks.length d1] (((w10).setCell ⟨W.heap.size, 0, none⟩ (.slice (some ⟨xb, xo, none⟩) xs.length c1)).setCell ⟨W.heap.size, 1, none⟩ (.slice b1 ks.length d1)) ∧ RowAt Value.string (((w10).setCell ⟨W.heap.size, 0, none⟩ (.slice (some ⟨xb, xo, none⟩) xs.length c1)).setCell ⟨W.heap.size, 1, none⟩ (.slice b1 ks.length d1)) (some ⟨xb, xo, none⟩) xs ∧ RowAt (Value.int .i64) (((w10).setCell ⟨W.heap.size, 0, none⟩ (.slice (some ⟨xb, xo, none⟩) xs.length c1)).setCell ⟨W.heap.size, 1, none⟩ (.slice b1 ks.length d1)) b1 ks ∧ Below W.heap.size W (((w10).setCell ⟨W.heap.size, 0, none⟩ (.slice (some ⟨xb, xo, none⟩) xs.length c1)).setCell ⟨W.heap.size, 1, none⟩ (.slice b1 ks.length d1)) from ⟨(RB.set 0 (.slice (some ⟨xb, xo, none⟩) xs.length c1)).set 1 (.slice b1 ks.length d1), (XR.put hxr 0 (.slice (some ⟨xb, xo, none⟩) xs.length c1)).put hxr 1 (.slice b1 ks.length d1), (KR.put hkr 0 (.slice (some ⟨xb, xo, none⟩) xs.length c1)).put hkr 1 (.slice b1 ks.length d1), (B5.setCell (by dsimp only; omega) (.slice (some ⟨xb, xo, none⟩) xs.length c1)).setCell (by dsimp only; omega) (.slice b1 ks.length d1)⟩)
      have NQ : ¬ q = W.heap.size := by omega
      have NR : ¬ W.heap.size = q := by omega
      clear RB QB CC XR KR B5
      go_wp2
      have G := F.out
      exact bodyPost_ret (res_2s rfl _ _ W.heap.size _ _ (.string (listT [xj, tt])) rfl rfl (G.1.at 0 rfl) (G.1.at 1 rfl)) rfl ⟨some ⟨xb, xo, none⟩, b1, c1, d1, xs, ks, listT [xj, tt], rfl, G.2.1, G.2.2.1, hc1, lx, lk, hs, (Nat.le_trans (listT_size _) (by omega)), G.2.2.2⟩
end Go.Proofs.YtkekfogepdhjhaaGreat
