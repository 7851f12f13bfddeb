/- DrawTlvFind: a message and a path that are drawn. -/
import Derived.Test.YtengggpobhibcaaDm2
set_option linter.unusedVariables false
set_option maxRecDepth 100000
namespace Go.Proofs.Ytengggpobhibcaa.Nd
open Go Go.RowKit Go.Joins Own Draw Var

theorem newW (a : Option Addr) (len cap : Nat) (zs : List Int) (W : World) (hz : CodeAt W W.heap.size a len zs) :
    Calls Try.prog 8 #[.slice a len cap] W fun e w' => e = .returned (.pointer (some ⟨W.heap.size, 0, none⟩)) ∧ Cu W.heap.size a len cap zs w' w' ∧ Below W.heap.size W w' := by
  refine (new_go a len cap zs W hz).mono ?_
  rintro e w' ⟨rfl, h1, h2, h3⟩
  exact ⟨rfl, Cu.start ⟨h1, hz.below h2, Nat.zero_le _⟩, h2⟩
/-- A message and a path that are drawn. -/
def DfP (W : World) (e : Ending) (w' : World) : Prop :=
  ∃ (q : Rw TT) (p : Rw Int), e = .returned (.tuple #[slT q, .slice p.1 p.2.2.length p.2.1]) ∧ RpT w' q ∧ RpI w' p ∧ BdT q ∧ p.2.2.length ≤ 3 ∧ 1 ≤ q.2.2.length ∧ Below W.heap.size W w'
set_option maxHeartbeats 6400000 in
theorem draw_is (ad : Option Addr) (len cap : Nat) (zs : List Int) (W : World) (hz : CodeAt W W.heap.size ad len zs) :
    Calls Try.prog 5 #[.slice ad len cap] W (DfP W) := by
  obtain ⟨j3, hj3, hjz3, hjs3, hjb3⟩ := parts_of info3
  go_enter Try.func5, Try.ntmps5
  go_wp2_with fail
  refine (newW ad len cap zs W hz).mono ?_
  rintro e w1 ⟨rfl, C1, b1⟩
  clear hz
  obtain ⟨pc, hpc⟩ : ∃ n, W.heap.size = n := ⟨_, rfl⟩
  rw [hpc] at C1 b1 ⊢
  have S := some_is w1 C1
  go_wp2_with fail
  refine S.mono ?_
  clear S
  rintro e w2 ⟨⟨qa, qc, ys⟩, rfl, r2, C2, b2, bd, la⟩
  dsimp only at la
  obtain ⟨g0, hg0, hBg, hgl⟩ := own_some r2 la
  dsimp only at hg0
  subst hg0
  have B2 : Below pc W w2 := b1.trans b2
  have hbd1 : ys.length ≤ 200 := bd.1
  have HKD : Hid (∀ x ∈ ys, x.2.2.2.2.2.length ≤ 4) := fun x hx => (bd.2 x hx).2
  have HBD : Hid (BdT (some ⟨g0, 0, none⟩, qc, ys)) := bd
  have HO : Hid (∀ g, w2.heap.size ≤ g → Off g ((some ⟨g0, 0, none⟩, qc, ys) : Rw TT)) := fun g hg => off_ge r2 hg
  obtain ⟨V, hV⟩ : ∃ Y, w2.alloc (.cells #[] 3) = Y := ⟨_, rfl⟩
  have p3 : RoI w2.heap.size V (some ⟨w2.heap.size, 0, none⟩, 0, []) := by rw [← hV]; exact World.ownsRow_lit _ _ _ (Nat.le_refl _) (by show (0 : Nat) ≤ maxLen; exact Nat.zero_le _) rfl
  have b3 : Below w2.heap.size w2 V := by rw [← hV]; exact (Below.refl _ _).alloc (Nat.le_refl _) _
  have pcl : pc < w2.heap.size := C2.lt
  have C3 := cu_under C2 b3
  have r3 := RoT.later r2 b3
  have B3 := B2.trans (b3.mono (by omega))
  clear bd C1 b1 b2 B2 C2 r2
  dsimp only [slT]
  go_wp2_with fail
  try rw [hV]
  refine (belowW 4 C3 (by omega) (by omega)).mono ?_
  rintro e w4 ⟨x0, rfl, xa, xb, c4⟩
  obtain ⟨x, rfl⟩ : ∃ x : Nat, x0 = (x : Int) := ⟨x0.toNat, by omega⟩
  have p4 := p3.drawn c4 (by omega)
  have r4 := r3.drawn c4 (by omega)
  have C4 := c4.here
  have B4 := B3.trans (c4.2.below (Nat.le_refl _) C3.lt)
  have s4 : w2.heap.size ≤ w4.heap.size := Nat.le_trans b3.size c4.size
  clear p3 r3 C3 B3 c4 hV b3
  go_wp2
  go_loopw [6, 7, 8] (fun v6 v7 v8 wr => ∃ (m i : Nat) (p : Rw Int), v6 = .slice p.1 p.2.2.length p.2.1 ∧ v7 = .int .i64 (i : Int) ∧ v8 = .int .i64 (m : Int) ∧ m + p.2.2.length ≤ 3 ∧ i < ys.length ∧ Hid (RoI w2.heap.size wr p ∧ RoT (pc + 1) wr (some ⟨g0, 0, none⟩, qc, ys) ∧ Cu pc ad len cap zs wr wr ∧ Below pc W wr ∧ w2.heap.size ≤ wr.heap.size)) (fun _ _ v8 _ => (intOf v8).toNat)
  case atStart => exact ⟨x, ys.length - 1, (some ⟨w2.heap.size, 0, none⟩, 0, []), rfl, (by first | go_num | (congr 1; omega)), rfl, (by simp; omega), (by omega), ⟨p4, r4, C4, B4, s4⟩⟩
  case round =>
    clear p4 r4 C4 B4 s4
    obtain ⟨m, i, ⟨pa, pcap, p⟩, rfl, rfl, rfl, hmp, hi, HL⟩ := hrel
    obtain ⟨p5, r5, C5, B5, s5⟩ := HL.out
    clear HL
    dsimp only at hmp ⊢
    by_cases hm : m = 0
    · subst hm
      go_wp2
      go_ret2
      exact ⟨(some ⟨g0, 0, none⟩, qc, ys), (pa, pcap, p), rfl, r5.dp, p5.dp, HBD.out, (by show p.length ≤ 3; omega), la, by rw [hpc]; exact B5⟩
    obtain ⟨m, rfl⟩ : ∃ k, m = k + 1 := ⟨m - 1, by omega⟩
    have hil : (i : Int) < (ys.length : Int) := by omega
    obtain ⟨bq, oq, eq, lq, cq⟩ := r5.dp.1 i hi
    have eb : bq = g0 ∧ oq = 0 := by injection eq with h; injection h with h1 h2; exact ⟨h1.symm, h2.symm⟩
    obtain ⟨rfl, rfl⟩ := eb
    have q3 : wr.cell? ⟨bq, i * 4 + 3, none⟩ = some (.slice ys[i].2.2.2.1 ys[i].2.2.2.2.2.length ys[i].2.2.2.2.1) := by have := cq 3 _ rfl; simpa using this
    clear cq eq
    have hpb : pc + 1 ≤ bq := (World.ownsRow.lt r5.1 bq rfl).1
    have hbw : bq < wr.heap.size := (World.ownsRow.lt r5.1 bq rfl).2
    have hkk4 := HKD.out ys[i] (List.getElem_mem hi)
    by_cases hk0 : ys[i].2.2.2.2.2.length = 0
    · have hk1 : ¬ (0 : Int) < (ys[i].2.2.2.2.2.length : Int) := by omega
      obtain ⟨VA, hVA⟩ : ∃ Y, wr.alloc (.cells #[.int .i64 1, .int .i64 2, .int .i64 3, .int .i64 7] 3) = Y := ⟨_, rfl⟩
      have TA : Blk wr.heap.size [.int .i64 1, .int .i64 2, .int .i64 3, .int .i64 7] VA := by rw [← hVA]; exact Blk.new _ _ _
      have bA : Below wr.heap.size wr VA := by rw [← hVA]; exact (Below.refl _ _).alloc (Nat.le_refl _) _
      have CA := cu_under C5 bA
      have KP := pickI wr.heap.size 4 [1, 2, 3, 7] CA (by omega) (by omega) (C5).lt TA.lt rfl TA (by decide)
      have pA := RoI.later p5 bA
      have rA := RoT.later r5 bA
      have BA := (B5).trans (bA.mono (by have := (C5).lt; omega))
      have sA : w2.heap.size ≤ VA.heap.size := Nat.le_trans s5 bA.size
      clear bA p5 r5 C5 B5 s5
      go_wp2_with fail
      try rw [hVA]
      refine KP.mono ?_
      clear KP hVA
      rintro e wB ⟨y, rfl, hy, cB⟩
      have pB := pA.drawn cB (by omega)
      have rB := rA.drawn cB (by omega)
      have CB := cB.here
      have BB := BA.trans (cB.2.below (Nat.le_refl _) CA.lt)
      have sB : w2.heap.size ≤ wB.heap.size := Nat.le_trans sA cB.size
      clear pA rA CA BA cB TA sA
      go_wp2_with (first | (at_builtin; refine wpList_append_own _ rfl _ _ 25 rfl w2.heap.size 3 j3 _ 1 8 Try.underlying25 hj3 hjz3 hjs3 hjb3 rfl (by decide) _ _ _ rfl (World.ownsRow.alloc pB _) ⟨wB.heap.size, 0, none⟩ 1 1 [.int .i64 y] rfl rfl (cell_one_new _ _ _) ?e1c2 ?e1c3 ?e1c4 ?e1c5 ?_) | go_in)
      case e1c2 => intro u hu; simp at hu; subst hu; rfl
      case e1c3 => unfold maxLen; (try dsimp only); omega
      case e1c4 => (try dsimp only); omega
      case e1c5 => have := sB; simp; omega
      intro v' wC hown' hgrow _
      obtain ⟨na, nc, rfl, _⟩ := own_shape hown'
      try dsimp only at hown' hgrow ⊢
      have al : Below wB.heap.size wB (wB.alloc (.cells #[.int .i64 y] 3)) := (Below.refl _ _).alloc (Nat.le_refl _) _
      have rC := (RoT.later rB al).offO hgrow (fun g e => HO.out g (World.ownsRow.lt pB g e).1)
      have CC := cu_grown (cu_under CB al) hgrow (fun j e => Nat.lt_of_lt_of_le pcl (World.ownsRow.lt pB j e).1)
      have BC : Below pc W wC := ((BB).alloc (by have := (CB).lt; omega) (.cells #[.int .i64 y] 3)).grown hgrow (by have := (CB).lt; simp; omega) (fun k hk => by have := (World.ownsRow.lt pB k hk).1; omega)
      have pC : RoI w2.heap.size wC (na, nc, p ++ [y]) := kput (kr := (pa, pcap, p)) hown'
      have HN : Hid (RoI w2.heap.size wC (na, nc, p ++ [y]) ∧ RoT (pc + 1) wC (some ⟨bq, 0, none⟩, qc, ys) ∧ Cu pc ad len cap zs wC wC ∧ Below pc W wC ∧ w2.heap.size ≤ wC.heap.size) := ⟨pC, rC, CC, BC, by have := hgrow.size; have := sB; simp at *; omega⟩
      clear hown' hgrow al rC CC BC pC
      go_wp2
      go_roundw
      case rel => exact ⟨m, i, (na, nc, p ++ [y]), (by simp), rfl, (by first | go_num | (congr 1; omega)), (by simp; omega), hi, HN⟩
      case measure => (simp [intOf]) <;> omega
    · have hk1 : (0 : Int) < (ys[i].2.2.2.2.2.length : Int) := by omega
      go_wp2_with fail
      refine (onceW 5 C5 (by omega)).mono ?_
      rintro e w6 ⟨b, rfl, c6⟩
      have p6 := p5.drawn c6 (by omega)
      have r6 := r5.drawn c6 (by omega)
      have C6 := c6.here
      have B6 := B5.trans (c6.2.below (Nat.le_refl _) C5.lt)
      have q6 := (c6.cell (g := bq) hbw (by omega) (i * 4 + 3)).trans q3
      have hbw6 : bq < w6.heap.size := Nat.lt_of_lt_of_le hbw c6.size
      have s6 : w2.heap.size ≤ w6.heap.size := Nat.le_trans s5 c6.size
      clear p5 r5 C5 B5 q3 c6 hbw s5
      cases b with
      | true =>
        clear q6
        obtain ⟨VA, hVA⟩ : ∃ Y, w6.alloc (.cells #[.int .i64 1, .int .i64 2, .int .i64 3, .int .i64 7] 3) = Y := ⟨_, rfl⟩
        have TA : Blk w6.heap.size [.int .i64 1, .int .i64 2, .int .i64 3, .int .i64 7] VA := by rw [← hVA]; exact Blk.new _ _ _
        have bA : Below w6.heap.size w6 VA := by rw [← hVA]; exact (Below.refl _ _).alloc (Nat.le_refl _) _
        have CA := cu_under C6 bA
        have KP := pickI w6.heap.size 4 [1, 2, 3, 7] CA (by omega) (by omega) (C6).lt TA.lt rfl TA (by decide)
        have pA := RoI.later p6 bA
        have rA := RoT.later r6 bA
        have BA := (B6).trans (bA.mono (by have := (C6).lt; omega))
        have sA : w2.heap.size ≤ VA.heap.size := Nat.le_trans s6 bA.size
        clear bA p6 r6 C6 B6 s6
        go_wp2_with fail
        try rw [hVA]
        refine KP.mono ?_
        clear KP hVA
        rintro e wB ⟨y, rfl, hy, cB⟩
        have pB := pA.drawn cB (by omega)
        have rB := rA.drawn cB (by omega)
        have CB := cB.here
        have BB := BA.trans (cB.2.below (Nat.le_refl _) CA.lt)
        have sB : w2.heap.size ≤ wB.heap.size := Nat.le_trans sA cB.size
        clear pA rA CA BA cB TA sA
        go_wp2_with (first | (at_builtin; refine wpList_append_own _ rfl _ _ 25 rfl w2.heap.size 3 j3 _ 1 8 Try.underlying25 hj3 hjz3 hjs3 hjb3 rfl (by decide) _ _ _ rfl (World.ownsRow.alloc pB _) ⟨wB.heap.size, 0, none⟩ 1 1 [.int .i64 y] rfl rfl (cell_one_new _ _ _) ?e2c2 ?e2c3 ?e2c4 ?e2c5 ?_) | go_in)
        case e2c2 => intro u hu; simp at hu; subst hu; rfl
        case e2c3 => unfold maxLen; (try dsimp only); omega
        case e2c4 => (try dsimp only); omega
        case e2c5 => have := sB; simp; omega
        intro v' wC hown' hgrow _
        obtain ⟨na, nc, rfl, _⟩ := own_shape hown'
        try dsimp only at hown' hgrow ⊢
        have al : Below wB.heap.size wB (wB.alloc (.cells #[.int .i64 y] 3)) := (Below.refl _ _).alloc (Nat.le_refl _) _
        have rC := (RoT.later rB al).offO hgrow (fun g e => HO.out g (World.ownsRow.lt pB g e).1)
        have CC := cu_grown (cu_under CB al) hgrow (fun j e => Nat.lt_of_lt_of_le pcl (World.ownsRow.lt pB j e).1)
        have BC : Below pc W wC := ((BB).alloc (by have := (CB).lt; omega) (.cells #[.int .i64 y] 3)).grown hgrow (by have := (CB).lt; simp; omega) (fun k hk => by have := (World.ownsRow.lt pB k hk).1; omega)
        have pC : RoI w2.heap.size wC (na, nc, p ++ [y]) := kput (kr := (pa, pcap, p)) hown'
        have HN : Hid (RoI w2.heap.size wC (na, nc, p ++ [y]) ∧ RoT (pc + 1) wC (some ⟨bq, 0, none⟩, qc, ys) ∧ Cu pc ad len cap zs wC wC ∧ Below pc W wC ∧ w2.heap.size ≤ wC.heap.size) := ⟨pC, rC, CC, BC, by have := hgrow.size; have := sB; simp at *; omega⟩
        clear hown' hgrow al rC CC BC pC
        go_wp2
        go_roundw
        case rel => exact ⟨m, i, (na, nc, p ++ [y]), (by simp), rfl, (by first | go_num | (congr 1; omega)), (by simp; omega), hi, HN⟩
        case measure => (simp [intOf]) <;> omega
      | false =>
        have pD : RoI w2.heap.size w6.drew (pa, pcap, p) := RoI.later p6 ((Below.refl _ _).drew)
        have rD : RoT (pc + 1) w6.drew (some ⟨bq, 0, none⟩, qc, ys) := RoT.later r6 ((Below.refl _ _).drew)
        have CD : Cu pc ad len cap zs w6.drew w6.drew := cu_under C6 ((Below.refl _ _).drew)
        have BD : Below pc W w6.drew := B6.drew
        have sD : w2.heap.size ≤ w6.drew.heap.size := s6
        have qD : w6.drew.cell? ⟨bq, i * 4 + 3, none⟩ = some (.slice ys[i].2.2.2.1 ys[i].2.2.2.2.2.length ys[i].2.2.2.2.1) := q6
        have hbD : bq < w6.drew.heap.size := hbw6
        clear p6 r6 C6 B6 q6 hbw6 s6
        go_wp2_with fail
        refine wp_region_any (by kernel_rfl) ?_
        have ed : ({ w6 with drawn := w6.drawn + 1 } : World) = w6.drew := rfl
        rw [ed]
        clear ed
        generalize w6.drew = D at *
        obtain ⟨kb, ko, eka, kl, kc0⟩ := (RoI.dp (rD.2 ys[i] (List.getElem_mem hi))) 0 (by omega)
        clear kc0 kl
        rw [eka] at qD
        refine take_any 0 46 (v := ?_) rfl rfl (by kernel_rfl) (by kernel_rfl) (by kernel_rfl) (fun _ _ _ h => h) (Or.inl ⟨by rfl, ?_⟩) ?_
        rotate_left
        · intro w'; go_simp; try with_reducible rfl
        try simp only [Act.put, List.setIfInBounds_toArray, List.set_cons_zero, List.set_cons_succ]
        refine take_any 1 47 (v := ?_) rfl rfl (by kernel_rfl) (by kernel_rfl) (by kernel_rfl) (fun _ _ _ h => h) (Or.inl ⟨by rfl, ?_⟩) ?_
        rotate_left
        · intro w'; go_simp; try with_reducible rfl
        try simp only [Act.put, List.setIfInBounds_toArray, List.set_cons_zero, List.set_cons_succ]
        refine take_any 2 48 (v := ?_) rfl rfl (by kernel_rfl) (by kernel_rfl) (by kernel_rfl) (fun _ _ _ h => h) (Or.inl ⟨by rfl, ?_⟩) ?_
        rotate_left
        · intro w'; go_simp; try with_reducible rfl
        try simp only [Act.put, List.setIfInBounds_toArray, List.set_cons_zero, List.set_cons_succ]
        refine take_any 3 49 (v := ?_) rfl rfl (by kernel_rfl) (by kernel_rfl) (by kernel_rfl) (fun _ _ _ h => h) (Or.inl ⟨by rfl, ?_⟩) ?_
        rotate_left
        · intro w'; go_simp; try with_reducible rfl
        try simp only [Act.put, List.setIfInBounds_toArray, List.set_cons_zero, List.set_cons_succ]
        refine take_any 5 51 (v := ?_) rfl rfl (by kernel_rfl) (by kernel_rfl) (by kernel_rfl) (fun _ _ _ h => h) (Or.inl ⟨by rfl, ?_⟩) ?_
        rotate_left
        · intro w'; go_simp; try with_reducible rfl
        try simp only [Act.put, List.setIfInBounds_toArray, List.set_cons_zero, List.set_cons_succ]
        refine take_any 6 52 (v := ?_) rfl rfl (by kernel_rfl) (by kernel_rfl) (by kernel_rfl) (fun _ _ _ h => h) (Or.inl ⟨by rfl, ?_⟩) ?_
        rotate_left
        · intro w'; go_simp; try with_reducible rfl
        try simp only [Act.put, List.setIfInBounds_toArray, List.set_cons_zero, List.set_cons_succ]
        refine take_any 7 53 (v := ?_) rfl rfl (by kernel_rfl) (by kernel_rfl) (by kernel_rfl) (fun _ _ _ h => h) (Or.inl ⟨by rfl, ?_⟩) ?_
        rotate_left
        · intro w'; go_simp; try with_reducible rfl
        try simp only [Act.put, List.setIfInBounds_toArray, List.set_cons_zero, List.set_cons_succ]
        refine take_any 8 54 (v := ?_) rfl rfl (by kernel_rfl) (by kernel_rfl) (by kernel_rfl) (fun _ _ _ h => h) (Or.inl ⟨by rfl, ?_⟩) ?_
        rotate_left
        · intro w'; go_simp; try with_reducible rfl
        try simp only [Act.put, List.setIfInBounds_toArray, List.set_cons_zero, List.set_cons_succ]
        refine take_any 9 55 (v := ?_) rfl rfl (by kernel_rfl) (by kernel_rfl) (by kernel_rfl) (fun _ _ _ h => h) (Or.inl ⟨by rfl, ?_⟩) ?_
        rotate_left
        · intro w'; go_simp; try with_reducible rfl
        try simp only [Act.put, List.setIfInBounds_toArray, List.set_cons_zero, List.set_cons_succ]
        refine wpAny_ready (rs := [4, 10]) (by kernel_rfl) (by simp) ?_
        refine AllReady.cons (i := 4) rfl (fun K hK => ?_) (AllReady.cons (i := 10) rfl (fun K hK => ?_) AllReady.nil)
        · skip
          go_simp
          refine hK _ _ ?_
          clear hK K
          try simp only [Act.put, List.setIfInBounds_toArray, List.set_cons_zero, List.set_cons_succ]
          refine wpAny_ready (rs := [10]) (by kernel_rfl) (by simp) ?_
          refine AllReady.cons (i := 10) rfl (fun K hK => ?_) AllReady.nil
          go_simp
          refine hK _ _ ?_
          clear hK K
          try simp only [Act.put, List.setIfInBounds_toArray, List.set_cons_zero, List.set_cons_succ]
          refine take_any 11 57 (v := ?_) rfl rfl (by kernel_rfl) (by kernel_rfl) (by kernel_rfl) (fun _ _ _ h => h) (Or.inl ⟨by rfl, ?_⟩) ?_
          rotate_left
          · intro w'; go_simp; try with_reducible rfl
          try simp only [Act.put, List.setIfInBounds_toArray, List.set_cons_zero, List.set_cons_succ]
          refine wpAny_ready (rs := [12]) (by kernel_rfl) (by simp) ?_
          refine AllReady.cons (i := 12) rfl (fun K hK => ?_) AllReady.nil
          have hK3 : Shut _ := hK
          clear hK
          go_simp
          refine (belowW ys[i].2.2.2.2.2.length CD (by omega) (by omega)).mono ?_
          rintro e w5 ⟨j0, rfl, y0, y1, c5⟩
          obtain ⟨j, rfl⟩ : ∃ j : Nat, j0 = (j : Int) := ⟨j0.toNat, by omega⟩
          go_wp2_with fail
          refine hK3.out _ _ ?_
          clear hK3 K
          try simp only [Act.put, List.setIfInBounds_toArray, List.set_cons_zero, List.set_cons_succ]
          have pE := pD.drawn c5 (by omega)
          have rE := rD.drawn c5 (by omega)
          have CE := c5.here
          have BE := BD.trans (c5.2.below (Nat.le_refl _) CD.lt)
          have qE := (c5.cell (g := bq) hbD (by omega) (i * 4 + 3)).trans qD
          have hj : j < ys[i].2.2.2.2.2.length := by omega
          have hjl : (j : Int) < (ys[i].2.2.2.2.2.length : Int) := by omega
          obtain ⟨b2, o2, ea2, l2, kE⟩ := (RoI.dp (rE.2 ys[i] (List.getElem_mem hi))) j hj
          have eb : b2 = kb ∧ o2 = ko := by rw [eka] at ea2; injection ea2 with h; injection h with h1 h2; exact ⟨h1.symm, h2.symm⟩
          obtain ⟨rfl, rfl⟩ := eb
          have sE : w2.heap.size ≤ w5.heap.size := Nat.le_trans sD c5.size
          clear c5 pD rD CD BD qD ea2 l2 sD
          try dsimp only at kE
          refine take_any 13 59 (v := ?_) rfl rfl (by kernel_rfl) (by kernel_rfl) (by kernel_rfl) (fun _ _ _ h => h) (Or.inl ⟨by rfl, ?_⟩) ?_
          rotate_left
          · intro w'; go_simp; try with_reducible rfl
          try simp only [Act.put, List.setIfInBounds_toArray, List.set_cons_zero, List.set_cons_succ]
          refine wpAny_ready (rs := [14]) (by kernel_rfl) (by simp) ?_
          refine AllReady.cons (i := 14) rfl (fun K hK => ?_) AllReady.nil
          go_simp
          refine hK _ _ ?_
          clear hK K
          try simp only [Act.put, List.setIfInBounds_toArray, List.set_cons_zero, List.set_cons_succ]
          refine take_any 15 9 (v := ?_) rfl rfl (by kernel_rfl) (by kernel_rfl) (by kernel_rfl) (fun _ _ _ h => h) (Or.inl ⟨by rfl, ?_⟩) ?_
          rotate_left
          · intro w'; go_simp; try with_reducible rfl
          try simp only [Act.put, List.setIfInBounds_toArray, List.set_cons_zero, List.set_cons_succ]
          refine wpAny_done (by kernel_rfl) ?_ _
          generalize ys[i].2.2.2.2.2[j] = k0 at *
          by_cases hk2 : 0 ≤ k0
          · by_cases hk3 : k0 < (ys.length : Int)
            · obtain ⟨k, rfl⟩ : ∃ k : Nat, k0 = (k : Int) := ⟨k0.toNat, by omega⟩
              have hky : k < ys.length := by omega
              obtain ⟨b3, o3, e3, l3, c3⟩ := rE.dp.1 k hky
              have eb : b3 = bq ∧ o3 = 0 := by injection e3 with h; injection h with h1 h2; exact ⟨h1.symm, h2.symm⟩
              obtain ⟨rfl, rfl⟩ := eb
              have t0 : w5.cell? ⟨b3, k * 4, none⟩ = some (.int .i64 ys[k].1) := by have := c3 0 _ rfl; simpa using this
              clear c3 e3 l3 qE kE
              go_wp2_with (first | (at_builtin; refine wpList_append_own _ rfl _ _ 25 rfl w2.heap.size 3 j3 _ 1 8 Try.underlying25 hj3 hjz3 hjs3 hjb3 rfl (by decide) _ _ _ rfl (World.ownsRow.alloc pE _) ⟨w5.heap.size, 0, none⟩ 1 1 [.int .i64 ys[k].1] rfl rfl (cell_one_new _ _ _) ?e3c2 ?e3c3 ?e3c4 ?e3c5 ?_) | go_in)
              case e3c2 => intro u hu; simp at hu; subst hu; rfl
              case e3c3 => unfold maxLen; (try dsimp only); omega
              case e3c4 => (try dsimp only); omega
              case e3c5 => have := sE; simp; omega
              intro v' wC hown' hgrow _
              obtain ⟨na, nc, rfl, _⟩ := own_shape hown'
              try dsimp only at hown' hgrow ⊢
              have al : Below w5.heap.size w5 (w5.alloc (.cells #[.int .i64 ys[k].1] 3)) := (Below.refl _ _).alloc (Nat.le_refl _) _
              have rC := (RoT.later rE al).offO hgrow (fun g e => HO.out g (World.ownsRow.lt pE g e).1)
              have CC := cu_grown (cu_under CE al) hgrow (fun j e => Nat.lt_of_lt_of_le pcl (World.ownsRow.lt pE j e).1)
              have BC : Below pc W wC := ((BE).alloc (by have := (CE).lt; omega) (.cells #[.int .i64 ys[k].1] 3)).grown hgrow (by have := (CE).lt; simp; omega) (fun k hk => by have := (World.ownsRow.lt pE k hk).1; omega)
              have pC : RoI w2.heap.size wC (na, nc, p ++ [ys[k].1]) := kput (kr := (pa, pcap, p)) hown'
              have HN : Hid (RoI w2.heap.size wC (na, nc, p ++ [ys[k].1]) ∧ RoT (pc + 1) wC (some ⟨b3, 0, none⟩, qc, ys) ∧ Cu pc ad len cap zs wC wC ∧ Below pc W wC ∧ w2.heap.size ≤ wC.heap.size) := ⟨pC, rC, CC, BC, by have := hgrow.size; have := sE; simp at *; omega⟩
              clear hown' hgrow al rC CC BC pC
              go_wp2
              go_roundw
              case rel => exact ⟨m, k, (na, nc, p ++ [ys[k].1]), (by simp), rfl, (by first | go_num | (congr 1; omega)), (by simp; omega), hky, HN⟩
              case measure => (simp [intOf]) <;> omega
            · clear qE kE
              obtain ⟨VA, hVA⟩ : ∃ Y, w5.alloc (.cells #[.int .i64 1, .int .i64 2, .int .i64 3, .int .i64 7] 3) = Y := ⟨_, rfl⟩
              have TA : Blk w5.heap.size [.int .i64 1, .int .i64 2, .int .i64 3, .int .i64 7] VA := by rw [← hVA]; exact Blk.new _ _ _
              have bA : Below w5.heap.size w5 VA := by rw [← hVA]; exact (Below.refl _ _).alloc (Nat.le_refl _) _
              have CA := cu_under CE bA
              have KP := pickI w5.heap.size 4 [1, 2, 3, 7] CA (by omega) (by omega) (CE).lt TA.lt rfl TA (by decide)
              have pA := RoI.later pE bA
              have rA := RoT.later rE bA
              have BA := (BE).trans (bA.mono (by have := (CE).lt; omega))
              have sA : w2.heap.size ≤ VA.heap.size := Nat.le_trans sE bA.size
              clear bA pE rE CE BE sE
              go_wp2_with fail
              try rw [hVA]
              refine KP.mono ?_
              clear KP hVA
              rintro e wB ⟨y, rfl, hy, cB⟩
              have pB := pA.drawn cB (by omega)
              have rB := rA.drawn cB (by omega)
              have CB := cB.here
              have BB := BA.trans (cB.2.below (Nat.le_refl _) CA.lt)
              have sB : w2.heap.size ≤ wB.heap.size := Nat.le_trans sA cB.size
              clear pA rA CA BA cB TA sA
              go_wp2_with (first | (at_builtin; refine wpList_append_own _ rfl _ _ 25 rfl w2.heap.size 3 j3 _ 1 8 Try.underlying25 hj3 hjz3 hjs3 hjb3 rfl (by decide) _ _ _ rfl (World.ownsRow.alloc pB _) ⟨wB.heap.size, 0, none⟩ 1 1 [.int .i64 y] rfl rfl (cell_one_new _ _ _) ?e4c2 ?e4c3 ?e4c4 ?e4c5 ?_) | go_in)
              case e4c2 => intro u hu; simp at hu; subst hu; rfl
              case e4c3 => unfold maxLen; (try dsimp only); omega
              case e4c4 => (try dsimp only); omega
              case e4c5 => have := sB; simp; omega
              intro v' wC hown' hgrow _
              obtain ⟨na, nc, rfl, _⟩ := own_shape hown'
              try dsimp only at hown' hgrow ⊢
              have al : Below wB.heap.size wB (wB.alloc (.cells #[.int .i64 y] 3)) := (Below.refl _ _).alloc (Nat.le_refl _) _
              have rC := (RoT.later rB al).offO hgrow (fun g e => HO.out g (World.ownsRow.lt pB g e).1)
              have CC := cu_grown (cu_under CB al) hgrow (fun j e => Nat.lt_of_lt_of_le pcl (World.ownsRow.lt pB j e).1)
              have BC : Below pc W wC := ((BB).alloc (by have := (CB).lt; omega) (.cells #[.int .i64 y] 3)).grown hgrow (by have := (CB).lt; simp; omega) (fun k hk => by have := (World.ownsRow.lt pB k hk).1; omega)
              have pC : RoI w2.heap.size wC (na, nc, p ++ [y]) := kput (kr := (pa, pcap, p)) hown'
              have HN : Hid (RoI w2.heap.size wC (na, nc, p ++ [y]) ∧ RoT (pc + 1) wC (some ⟨bq, 0, none⟩, qc, ys) ∧ Cu pc ad len cap zs wC wC ∧ Below pc W wC ∧ w2.heap.size ≤ wC.heap.size) := ⟨pC, rC, CC, BC, by have := hgrow.size; have := sB; simp at *; omega⟩
              clear hown' hgrow al rC CC BC pC
              go_wp2
              go_roundw
              case rel => exact ⟨m, i, (na, nc, p ++ [y]), (by simp), rfl, (by first | go_num | (congr 1; omega)), (by simp; omega), hi, HN⟩
              case measure => (simp [intOf]) <;> omega
          · clear qE kE
            obtain ⟨VA, hVA⟩ : ∃ Y, w5.alloc (.cells #[.int .i64 1, .int .i64 2, .int .i64 3, .int .i64 7] 3) = Y := ⟨_, rfl⟩
            have TA : Blk w5.heap.size [.int .i64 1, .int .i64 2, .int .i64 3, .int .i64 7] VA := by rw [← hVA]; exact Blk.new _ _ _
            have bA : Below w5.heap.size w5 VA := by rw [← hVA]; exact (Below.refl _ _).alloc (Nat.le_refl _) _
            have CA := cu_under CE bA
            have KP := pickI w5.heap.size 4 [1, 2, 3, 7] CA (by omega) (by omega) (CE).lt TA.lt rfl TA (by decide)
            have pA := RoI.later pE bA
            have rA := RoT.later rE bA
            have BA := (BE).trans (bA.mono (by have := (CE).lt; omega))
            have sA : w2.heap.size ≤ VA.heap.size := Nat.le_trans sE bA.size
            clear bA pE rE CE BE sE
            go_wp2_with fail
            try rw [hVA]
            refine KP.mono ?_
            clear KP hVA
            rintro e wB ⟨y, rfl, hy, cB⟩
            have pB := pA.drawn cB (by omega)
            have rB := rA.drawn cB (by omega)
            have CB := cB.here
            have BB := BA.trans (cB.2.below (Nat.le_refl _) CA.lt)
            have sB : w2.heap.size ≤ wB.heap.size := Nat.le_trans sA cB.size
            clear pA rA CA BA cB TA sA
            go_wp2_with (first | (at_builtin; refine wpList_append_own _ rfl _ _ 25 rfl w2.heap.size 3 j3 _ 1 8 Try.underlying25 hj3 hjz3 hjs3 hjb3 rfl (by decide) _ _ _ rfl (World.ownsRow.alloc pB _) ⟨wB.heap.size, 0, none⟩ 1 1 [.int .i64 y] rfl rfl (cell_one_new _ _ _) ?e5c2 ?e5c3 ?e5c4 ?e5c5 ?_) | go_in)
            case e5c2 => intro u hu; simp at hu; subst hu; rfl
            case e5c3 => unfold maxLen; (try dsimp only); omega
            case e5c4 => (try dsimp only); omega
            case e5c5 => have := sB; simp; omega
            intro v' wC hown' hgrow _
            obtain ⟨na, nc, rfl, _⟩ := own_shape hown'
            try dsimp only at hown' hgrow ⊢
            have al : Below wB.heap.size wB (wB.alloc (.cells #[.int .i64 y] 3)) := (Below.refl _ _).alloc (Nat.le_refl _) _
            have rC := (RoT.later rB al).offO hgrow (fun g e => HO.out g (World.ownsRow.lt pB g e).1)
            have CC := cu_grown (cu_under CB al) hgrow (fun j e => Nat.lt_of_lt_of_le pcl (World.ownsRow.lt pB j e).1)
            have BC : Below pc W wC := ((BB).alloc (by have := (CB).lt; omega) (.cells #[.int .i64 y] 3)).grown hgrow (by have := (CB).lt; simp; omega) (fun k hk => by have := (World.ownsRow.lt pB k hk).1; omega)
            have pC : RoI w2.heap.size wC (na, nc, p ++ [y]) := kput (kr := (pa, pcap, p)) hown'
            have HN : Hid (RoI w2.heap.size wC (na, nc, p ++ [y]) ∧ RoT (pc + 1) wC (some ⟨bq, 0, none⟩, qc, ys) ∧ Cu pc ad len cap zs wC wC ∧ Below pc W wC ∧ w2.heap.size ≤ wC.heap.size) := ⟨pC, rC, CC, BC, by have := hgrow.size; have := sB; simp at *; omega⟩
            clear hown' hgrow al rC CC BC pC
            go_wp2
            go_roundw
            case rel => exact ⟨m, i, (na, nc, p ++ [y]), (by simp), rfl, (by first | go_num | (congr 1; omega)), (by simp; omega), hi, HN⟩
            case measure => (simp [intOf]) <;> omega
        · skip
          go_simp
          refine hK _ _ ?_
          clear hK K
          try simp only [Act.put, List.setIfInBounds_toArray, List.set_cons_zero, List.set_cons_succ]
          refine take_any 11 57 (v := ?_) rfl rfl (by kernel_rfl) (by kernel_rfl) (by kernel_rfl) (fun _ _ _ h => h) (Or.inl ⟨by rfl, ?_⟩) ?_
          rotate_left
          · intro w'; go_simp; try with_reducible rfl
          try simp only [Act.put, List.setIfInBounds_toArray, List.set_cons_zero, List.set_cons_succ]
          refine wpAny_ready (rs := [4, 12]) (by kernel_rfl) (by simp) ?_
          refine AllReady.cons (i := 4) rfl (fun K hK => ?_) (AllReady.cons (i := 12) rfl (fun K hK => ?_) AllReady.nil)
          · skip
            go_simp
            refine hK _ _ ?_
            clear hK K
            try simp only [Act.put, List.setIfInBounds_toArray, List.set_cons_zero, List.set_cons_succ]
            refine wpAny_ready (rs := [12]) (by kernel_rfl) (by simp) ?_
            refine AllReady.cons (i := 12) rfl (fun K hK => ?_) AllReady.nil
            have hK3 : Shut _ := hK
            clear hK
            go_simp
            refine (belowW ys[i].2.2.2.2.2.length CD (by omega) (by omega)).mono ?_
            rintro e w5 ⟨j0, rfl, y0, y1, c5⟩
            obtain ⟨j, rfl⟩ : ∃ j : Nat, j0 = (j : Int) := ⟨j0.toNat, by omega⟩
            go_wp2_with fail
            refine hK3.out _ _ ?_
            clear hK3 K
            try simp only [Act.put, List.setIfInBounds_toArray, List.set_cons_zero, List.set_cons_succ]
            have pE := pD.drawn c5 (by omega)
            have rE := rD.drawn c5 (by omega)
            have CE := c5.here
            have BE := BD.trans (c5.2.below (Nat.le_refl _) CD.lt)
            have qE := (c5.cell (g := bq) hbD (by omega) (i * 4 + 3)).trans qD
            have hj : j < ys[i].2.2.2.2.2.length := by omega
            have hjl : (j : Int) < (ys[i].2.2.2.2.2.length : Int) := by omega
            obtain ⟨b2, o2, ea2, l2, kE⟩ := (RoI.dp (rE.2 ys[i] (List.getElem_mem hi))) j hj
            have eb : b2 = kb ∧ o2 = ko := by rw [eka] at ea2; injection ea2 with h; injection h with h1 h2; exact ⟨h1.symm, h2.symm⟩
            obtain ⟨rfl, rfl⟩ := eb
            have sE : w2.heap.size ≤ w5.heap.size := Nat.le_trans sD c5.size
            clear c5 pD rD CD BD qD ea2 l2 sD
            try dsimp only at kE
            refine take_any 13 59 (v := ?_) rfl rfl (by kernel_rfl) (by kernel_rfl) (by kernel_rfl) (fun _ _ _ h => h) (Or.inl ⟨by rfl, ?_⟩) ?_
            rotate_left
            · intro w'; go_simp; try with_reducible rfl
            try simp only [Act.put, List.setIfInBounds_toArray, List.set_cons_zero, List.set_cons_succ]
            refine wpAny_ready (rs := [14]) (by kernel_rfl) (by simp) ?_
            refine AllReady.cons (i := 14) rfl (fun K hK => ?_) AllReady.nil
            go_simp
            refine hK _ _ ?_
            clear hK K
            try simp only [Act.put, List.setIfInBounds_toArray, List.set_cons_zero, List.set_cons_succ]
            refine take_any 15 9 (v := ?_) rfl rfl (by kernel_rfl) (by kernel_rfl) (by kernel_rfl) (fun _ _ _ h => h) (Or.inl ⟨by rfl, ?_⟩) ?_
            rotate_left
            · intro w'; go_simp; try with_reducible rfl
            try simp only [Act.put, List.setIfInBounds_toArray, List.set_cons_zero, List.set_cons_succ]
            refine wpAny_done (by kernel_rfl) ?_ _
            generalize ys[i].2.2.2.2.2[j] = k0 at *
            by_cases hk2 : 0 ≤ k0
            · by_cases hk3 : k0 < (ys.length : Int)
              · obtain ⟨k, rfl⟩ : ∃ k : Nat, k0 = (k : Int) := ⟨k0.toNat, by omega⟩
                have hky : k < ys.length := by omega
                obtain ⟨b3, o3, e3, l3, c3⟩ := rE.dp.1 k hky
                have eb : b3 = bq ∧ o3 = 0 := by injection e3 with h; injection h with h1 h2; exact ⟨h1.symm, h2.symm⟩
                obtain ⟨rfl, rfl⟩ := eb
                have t0 : w5.cell? ⟨b3, k * 4, none⟩ = some (.int .i64 ys[k].1) := by have := c3 0 _ rfl; simpa using this
                clear c3 e3 l3 qE kE
                go_wp2_with (first | (at_builtin; refine wpList_append_own _ rfl _ _ 25 rfl w2.heap.size 3 j3 _ 1 8 Try.underlying25 hj3 hjz3 hjs3 hjb3 rfl (by decide) _ _ _ rfl (World.ownsRow.alloc pE _) ⟨w5.heap.size, 0, none⟩ 1 1 [.int .i64 ys[k].1] rfl rfl (cell_one_new _ _ _) ?e6c2 ?e6c3 ?e6c4 ?e6c5 ?_) | go_in)
                case e6c2 => intro u hu; simp at hu; subst hu; rfl
                case e6c3 => unfold maxLen; (try dsimp only); omega
                case e6c4 => (try dsimp only); omega
                case e6c5 => have := sE; simp; omega
                intro v' wC hown' hgrow _
                obtain ⟨na, nc, rfl, _⟩ := own_shape hown'
                try dsimp only at hown' hgrow ⊢
                have al : Below w5.heap.size w5 (w5.alloc (.cells #[.int .i64 ys[k].1] 3)) := (Below.refl _ _).alloc (Nat.le_refl _) _
                have rC := (RoT.later rE al).offO hgrow (fun g e => HO.out g (World.ownsRow.lt pE g e).1)
                have CC := cu_grown (cu_under CE al) hgrow (fun j e => Nat.lt_of_lt_of_le pcl (World.ownsRow.lt pE j e).1)
                have BC : Below pc W wC := ((BE).alloc (by have := (CE).lt; omega) (.cells #[.int .i64 ys[k].1] 3)).grown hgrow (by have := (CE).lt; simp; omega) (fun k hk => by have := (World.ownsRow.lt pE k hk).1; omega)
                have pC : RoI w2.heap.size wC (na, nc, p ++ [ys[k].1]) := kput (kr := (pa, pcap, p)) hown'
                have HN : Hid (RoI w2.heap.size wC (na, nc, p ++ [ys[k].1]) ∧ RoT (pc + 1) wC (some ⟨b3, 0, none⟩, qc, ys) ∧ Cu pc ad len cap zs wC wC ∧ Below pc W wC ∧ w2.heap.size ≤ wC.heap.size) := ⟨pC, rC, CC, BC, by have := hgrow.size; have := sE; simp at *; omega⟩
                clear hown' hgrow al rC CC BC pC
                go_wp2
                go_roundw
                case rel => exact ⟨m, k, (na, nc, p ++ [ys[k].1]), (by simp), rfl, (by first | go_num | (congr 1; omega)), (by simp; omega), hky, HN⟩
                case measure => (simp [intOf]) <;> omega
              · clear qE kE
                obtain ⟨VA, hVA⟩ : ∃ Y, w5.alloc (.cells #[.int .i64 1, .int .i64 2, .int .i64 3, .int .i64 7] 3) = Y := ⟨_, rfl⟩
                have TA : Blk w5.heap.size [.int .i64 1, .int .i64 2, .int .i64 3, .int .i64 7] VA := by rw [← hVA]; exact Blk.new _ _ _
                have bA : Below w5.heap.size w5 VA := by rw [← hVA]; exact (Below.refl _ _).alloc (Nat.le_refl _) _
                have CA := cu_under CE bA
                have KP := pickI w5.heap.size 4 [1, 2, 3, 7] CA (by omega) (by omega) (CE).lt TA.lt rfl TA (by decide)
                have pA := RoI.later pE bA
                have rA := RoT.later rE bA
                have BA := (BE).trans (bA.mono (by have := (CE).lt; omega))
                have sA : w2.heap.size ≤ VA.heap.size := Nat.le_trans sE bA.size
                clear bA pE rE CE BE sE
                go_wp2_with fail
                try rw [hVA]
                refine KP.mono ?_
                clear KP hVA
                rintro e wB ⟨y, rfl, hy, cB⟩
                have pB := pA.drawn cB (by omega)
                have rB := rA.drawn cB (by omega)
                have CB := cB.here
                have BB := BA.trans (cB.2.below (Nat.le_refl _) CA.lt)
                have sB : w2.heap.size ≤ wB.heap.size := Nat.le_trans sA cB.size
                clear pA rA CA BA cB TA sA
                go_wp2_with (first | (at_builtin; refine wpList_append_own _ rfl _ _ 25 rfl w2.heap.size 3 j3 _ 1 8 Try.underlying25 hj3 hjz3 hjs3 hjb3 rfl (by decide) _ _ _ rfl (World.ownsRow.alloc pB _) ⟨wB.heap.size, 0, none⟩ 1 1 [.int .i64 y] rfl rfl (cell_one_new _ _ _) ?e7c2 ?e7c3 ?e7c4 ?e7c5 ?_) | go_in)
                case e7c2 => intro u hu; simp at hu; subst hu; rfl
                case e7c3 => unfold maxLen; (try dsimp only); omega
                case e7c4 => (try dsimp only); omega
                case e7c5 => have := sB; simp; omega
                intro v' wC hown' hgrow _
                obtain ⟨na, nc, rfl, _⟩ := own_shape hown'
                try dsimp only at hown' hgrow ⊢
                have al : Below wB.heap.size wB (wB.alloc (.cells #[.int .i64 y] 3)) := (Below.refl _ _).alloc (Nat.le_refl _) _
                have rC := (RoT.later rB al).offO hgrow (fun g e => HO.out g (World.ownsRow.lt pB g e).1)
                have CC := cu_grown (cu_under CB al) hgrow (fun j e => Nat.lt_of_lt_of_le pcl (World.ownsRow.lt pB j e).1)
                have BC : Below pc W wC := ((BB).alloc (by have := (CB).lt; omega) (.cells #[.int .i64 y] 3)).grown hgrow (by have := (CB).lt; simp; omega) (fun k hk => by have := (World.ownsRow.lt pB k hk).1; omega)
                have pC : RoI w2.heap.size wC (na, nc, p ++ [y]) := kput (kr := (pa, pcap, p)) hown'
                have HN : Hid (RoI w2.heap.size wC (na, nc, p ++ [y]) ∧ RoT (pc + 1) wC (some ⟨bq, 0, none⟩, qc, ys) ∧ Cu pc ad len cap zs wC wC ∧ Below pc W wC ∧ w2.heap.size ≤ wC.heap.size) := ⟨pC, rC, CC, BC, by have := hgrow.size; have := sB; simp at *; omega⟩
                clear hown' hgrow al rC CC BC pC
                go_wp2
                go_roundw
                case rel => exact ⟨m, i, (na, nc, p ++ [y]), (by simp), rfl, (by first | go_num | (congr 1; omega)), (by simp; omega), hi, HN⟩
                case measure => (simp [intOf]) <;> omega
            · clear qE kE
              obtain ⟨VA, hVA⟩ : ∃ Y, w5.alloc (.cells #[.int .i64 1, .int .i64 2, .int .i64 3, .int .i64 7] 3) = Y := ⟨_, rfl⟩
              have TA : Blk w5.heap.size [.int .i64 1, .int .i64 2, .int .i64 3, .int .i64 7] VA := by rw [← hVA]; exact Blk.new _ _ _
              have bA : Below w5.heap.size w5 VA := by rw [← hVA]; exact (Below.refl _ _).alloc (Nat.le_refl _) _
              have CA := cu_under CE bA
              have KP := pickI w5.heap.size 4 [1, 2, 3, 7] CA (by omega) (by omega) (CE).lt TA.lt rfl TA (by decide)
              have pA := RoI.later pE bA
              have rA := RoT.later rE bA
              have BA := (BE).trans (bA.mono (by have := (CE).lt; omega))
              have sA : w2.heap.size ≤ VA.heap.size := Nat.le_trans sE bA.size
              clear bA pE rE CE BE sE
              go_wp2_with fail
              try rw [hVA]
              refine KP.mono ?_
              clear KP hVA
              rintro e wB ⟨y, rfl, hy, cB⟩
              have pB := pA.drawn cB (by omega)
              have rB := rA.drawn cB (by omega)
              have CB := cB.here
              have BB := BA.trans (cB.2.below (Nat.le_refl _) CA.lt)
              have sB : w2.heap.size ≤ wB.heap.size := Nat.le_trans sA cB.size
              clear pA rA CA BA cB TA sA
              go_wp2_with (first | (at_builtin; refine wpList_append_own _ rfl _ _ 25 rfl w2.heap.size 3 j3 _ 1 8 Try.underlying25 hj3 hjz3 hjs3 hjb3 rfl (by decide) _ _ _ rfl (World.ownsRow.alloc pB _) ⟨wB.heap.size, 0, none⟩ 1 1 [.int .i64 y] rfl rfl (cell_one_new _ _ _) ?e8c2 ?e8c3 ?e8c4 ?e8c5 ?_) | go_in)
              case e8c2 => intro u hu; simp at hu; subst hu; rfl
              case e8c3 => unfold maxLen; (try dsimp only); omega
              case e8c4 => (try dsimp only); omega
              case e8c5 => have := sB; simp; omega
              intro v' wC hown' hgrow _
              obtain ⟨na, nc, rfl, _⟩ := own_shape hown'
              try dsimp only at hown' hgrow ⊢
              have al : Below wB.heap.size wB (wB.alloc (.cells #[.int .i64 y] 3)) := (Below.refl _ _).alloc (Nat.le_refl _) _
              have rC := (RoT.later rB al).offO hgrow (fun g e => HO.out g (World.ownsRow.lt pB g e).1)
              have CC := cu_grown (cu_under CB al) hgrow (fun j e => Nat.lt_of_lt_of_le pcl (World.ownsRow.lt pB j e).1)
              have BC : Below pc W wC := ((BB).alloc (by have := (CB).lt; omega) (.cells #[.int .i64 y] 3)).grown hgrow (by have := (CB).lt; simp; omega) (fun k hk => by have := (World.ownsRow.lt pB k hk).1; omega)
              have pC : RoI w2.heap.size wC (na, nc, p ++ [y]) := kput (kr := (pa, pcap, p)) hown'
              have HN : Hid (RoI w2.heap.size wC (na, nc, p ++ [y]) ∧ RoT (pc + 1) wC (some ⟨bq, 0, none⟩, qc, ys) ∧ Cu pc ad len cap zs wC wC ∧ Below pc W wC ∧ w2.heap.size ≤ wC.heap.size) := ⟨pC, rC, CC, BC, by have := hgrow.size; have := sB; simp at *; omega⟩
              clear hown' hgrow al rC CC BC pC
              go_wp2
              go_roundw
              case rel => exact ⟨m, i, (na, nc, p ++ [y]), (by simp), rfl, (by first | go_num | (congr 1; omega)), (by simp; omega), hi, HN⟩
              case measure => (simp [intOf]) <;> omega
          · skip
            have hK3 : Shut _ := hK
            clear hK
            go_simp
            refine (belowW ys[i].2.2.2.2.2.length CD (by omega) (by omega)).mono ?_
            rintro e w5 ⟨j0, rfl, y0, y1, c5⟩
            obtain ⟨j, rfl⟩ : ∃ j : Nat, j0 = (j : Int) := ⟨j0.toNat, by omega⟩
            go_wp2_with fail
            refine hK3.out _ _ ?_
            clear hK3 K
            try simp only [Act.put, List.setIfInBounds_toArray, List.set_cons_zero, List.set_cons_succ]
            have pE := pD.drawn c5 (by omega)
            have rE := rD.drawn c5 (by omega)
            have CE := c5.here
            have BE := BD.trans (c5.2.below (Nat.le_refl _) CD.lt)
            have qE := (c5.cell (g := bq) hbD (by omega) (i * 4 + 3)).trans qD
            have hj : j < ys[i].2.2.2.2.2.length := by omega
            have hjl : (j : Int) < (ys[i].2.2.2.2.2.length : Int) := by omega
            obtain ⟨b2, o2, ea2, l2, kE⟩ := (RoI.dp (rE.2 ys[i] (List.getElem_mem hi))) j hj
            have eb : b2 = kb ∧ o2 = ko := by rw [eka] at ea2; injection ea2 with h; injection h with h1 h2; exact ⟨h1.symm, h2.symm⟩
            obtain ⟨rfl, rfl⟩ := eb
            have sE : w2.heap.size ≤ w5.heap.size := Nat.le_trans sD c5.size
            clear c5 pD rD CD BD qD ea2 l2 sD
            try dsimp only at kE
            refine wpAny_ready (rs := [4]) (by kernel_rfl) (by simp) ?_
            refine AllReady.cons (i := 4) rfl (fun K hK => ?_) AllReady.nil
            go_simp
            refine hK _ _ ?_
            clear hK K
            try simp only [Act.put, List.setIfInBounds_toArray, List.set_cons_zero, List.set_cons_succ]
            refine take_any 13 59 (v := ?_) rfl rfl (by kernel_rfl) (by kernel_rfl) (by kernel_rfl) (fun _ _ _ h => h) (Or.inl ⟨by rfl, ?_⟩) ?_
            rotate_left
            · intro w'; go_simp; try with_reducible rfl
            try simp only [Act.put, List.setIfInBounds_toArray, List.set_cons_zero, List.set_cons_succ]
            refine wpAny_ready (rs := [14]) (by kernel_rfl) (by simp) ?_
            refine AllReady.cons (i := 14) rfl (fun K hK => ?_) AllReady.nil
            go_simp
            refine hK _ _ ?_
            clear hK K
            try simp only [Act.put, List.setIfInBounds_toArray, List.set_cons_zero, List.set_cons_succ]
            refine take_any 15 9 (v := ?_) rfl rfl (by kernel_rfl) (by kernel_rfl) (by kernel_rfl) (fun _ _ _ h => h) (Or.inl ⟨by rfl, ?_⟩) ?_
            rotate_left
            · intro w'; go_simp; try with_reducible rfl
            try simp only [Act.put, List.setIfInBounds_toArray, List.set_cons_zero, List.set_cons_succ]
            refine wpAny_done (by kernel_rfl) ?_ _
            generalize ys[i].2.2.2.2.2[j] = k0 at *
            by_cases hk2 : 0 ≤ k0
            · by_cases hk3 : k0 < (ys.length : Int)
              · obtain ⟨k, rfl⟩ : ∃ k : Nat, k0 = (k : Int) := ⟨k0.toNat, by omega⟩
                have hky : k < ys.length := by omega
                obtain ⟨b3, o3, e3, l3, c3⟩ := rE.dp.1 k hky
                have eb : b3 = bq ∧ o3 = 0 := by injection e3 with h; injection h with h1 h2; exact ⟨h1.symm, h2.symm⟩
                obtain ⟨rfl, rfl⟩ := eb
                have t0 : w5.cell? ⟨b3, k * 4, none⟩ = some (.int .i64 ys[k].1) := by have := c3 0 _ rfl; simpa using this
                clear c3 e3 l3 qE kE
                go_wp2_with (first | (at_builtin; refine wpList_append_own _ rfl _ _ 25 rfl w2.heap.size 3 j3 _ 1 8 Try.underlying25 hj3 hjz3 hjs3 hjb3 rfl (by decide) _ _ _ rfl (World.ownsRow.alloc pE _) ⟨w5.heap.size, 0, none⟩ 1 1 [.int .i64 ys[k].1] rfl rfl (cell_one_new _ _ _) ?e9c2 ?e9c3 ?e9c4 ?e9c5 ?_) | go_in)
                case e9c2 => intro u hu; simp at hu; subst hu; rfl
                case e9c3 => unfold maxLen; (try dsimp only); omega
                case e9c4 => (try dsimp only); omega
                case e9c5 => have := sE; simp; omega
                intro v' wC hown' hgrow _
                obtain ⟨na, nc, rfl, _⟩ := own_shape hown'
                try dsimp only at hown' hgrow ⊢
                have al : Below w5.heap.size w5 (w5.alloc (.cells #[.int .i64 ys[k].1] 3)) := (Below.refl _ _).alloc (Nat.le_refl _) _
                have rC := (RoT.later rE al).offO hgrow (fun g e => HO.out g (World.ownsRow.lt pE g e).1)
                have CC := cu_grown (cu_under CE al) hgrow (fun j e => Nat.lt_of_lt_of_le pcl (World.ownsRow.lt pE j e).1)
                have BC : Below pc W wC := ((BE).alloc (by have := (CE).lt; omega) (.cells #[.int .i64 ys[k].1] 3)).grown hgrow (by have := (CE).lt; simp; omega) (fun k hk => by have := (World.ownsRow.lt pE k hk).1; omega)
                have pC : RoI w2.heap.size wC (na, nc, p ++ [ys[k].1]) := kput (kr := (pa, pcap, p)) hown'
                have HN : Hid (RoI w2.heap.size wC (na, nc, p ++ [ys[k].1]) ∧ RoT (pc + 1) wC (some ⟨b3, 0, none⟩, qc, ys) ∧ Cu pc ad len cap zs wC wC ∧ Below pc W wC ∧ w2.heap.size ≤ wC.heap.size) := ⟨pC, rC, CC, BC, by have := hgrow.size; have := sE; simp at *; omega⟩
                clear hown' hgrow al rC CC BC pC
                go_wp2
                go_roundw
                case rel => exact ⟨m, k, (na, nc, p ++ [ys[k].1]), (by simp), rfl, (by first | go_num | (congr 1; omega)), (by simp; omega), hky, HN⟩
                case measure => (simp [intOf]) <;> omega
              · clear qE kE
                obtain ⟨VA, hVA⟩ : ∃ Y, w5.alloc (.cells #[.int .i64 1, .int .i64 2, .int .i64 3, .int .i64 7] 3) = Y := ⟨_, rfl⟩
                have TA : Blk w5.heap.size [.int .i64 1, .int .i64 2, .int .i64 3, .int .i64 7] VA := by rw [← hVA]; exact Blk.new _ _ _
                have bA : Below w5.heap.size w5 VA := by rw [← hVA]; exact (Below.refl _ _).alloc (Nat.le_refl _) _
                have CA := cu_under CE bA
                have KP := pickI w5.heap.size 4 [1, 2, 3, 7] CA (by omega) (by omega) (CE).lt TA.lt rfl TA (by decide)
                have pA := RoI.later pE bA
                have rA := RoT.later rE bA
                have BA := (BE).trans (bA.mono (by have := (CE).lt; omega))
                have sA : w2.heap.size ≤ VA.heap.size := Nat.le_trans sE bA.size
                clear bA pE rE CE BE sE
                go_wp2_with fail
                try rw [hVA]
                refine KP.mono ?_
                clear KP hVA
                rintro e wB ⟨y, rfl, hy, cB⟩
                have pB := pA.drawn cB (by omega)
                have rB := rA.drawn cB (by omega)
                have CB := cB.here
                have BB := BA.trans (cB.2.below (Nat.le_refl _) CA.lt)
                have sB : w2.heap.size ≤ wB.heap.size := Nat.le_trans sA cB.size
                clear pA rA CA BA cB TA sA
                go_wp2_with (first | (at_builtin; refine wpList_append_own _ rfl _ _ 25 rfl w2.heap.size 3 j3 _ 1 8 Try.underlying25 hj3 hjz3 hjs3 hjb3 rfl (by decide) _ _ _ rfl (World.ownsRow.alloc pB _) ⟨wB.heap.size, 0, none⟩ 1 1 [.int .i64 y] rfl rfl (cell_one_new _ _ _) ?e10c2 ?e10c3 ?e10c4 ?e10c5 ?_) | go_in)
                case e10c2 => intro u hu; simp at hu; subst hu; rfl
                case e10c3 => unfold maxLen; (try dsimp only); omega
                case e10c4 => (try dsimp only); omega
                case e10c5 => have := sB; simp; omega
                intro v' wC hown' hgrow _
                obtain ⟨na, nc, rfl, _⟩ := own_shape hown'
                try dsimp only at hown' hgrow ⊢
                have al : Below wB.heap.size wB (wB.alloc (.cells #[.int .i64 y] 3)) := (Below.refl _ _).alloc (Nat.le_refl _) _
                have rC := (RoT.later rB al).offO hgrow (fun g e => HO.out g (World.ownsRow.lt pB g e).1)
                have CC := cu_grown (cu_under CB al) hgrow (fun j e => Nat.lt_of_lt_of_le pcl (World.ownsRow.lt pB j e).1)
                have BC : Below pc W wC := ((BB).alloc (by have := (CB).lt; omega) (.cells #[.int .i64 y] 3)).grown hgrow (by have := (CB).lt; simp; omega) (fun k hk => by have := (World.ownsRow.lt pB k hk).1; omega)
                have pC : RoI w2.heap.size wC (na, nc, p ++ [y]) := kput (kr := (pa, pcap, p)) hown'
                have HN : Hid (RoI w2.heap.size wC (na, nc, p ++ [y]) ∧ RoT (pc + 1) wC (some ⟨bq, 0, none⟩, qc, ys) ∧ Cu pc ad len cap zs wC wC ∧ Below pc W wC ∧ w2.heap.size ≤ wC.heap.size) := ⟨pC, rC, CC, BC, by have := hgrow.size; have := sB; simp at *; omega⟩
                clear hown' hgrow al rC CC BC pC
                go_wp2
                go_roundw
                case rel => exact ⟨m, i, (na, nc, p ++ [y]), (by simp), rfl, (by first | go_num | (congr 1; omega)), (by simp; omega), hi, HN⟩
                case measure => (simp [intOf]) <;> omega
            · clear qE kE
              obtain ⟨VA, hVA⟩ : ∃ Y, w5.alloc (.cells #[.int .i64 1, .int .i64 2, .int .i64 3, .int .i64 7] 3) = Y := ⟨_, rfl⟩
              have TA : Blk w5.heap.size [.int .i64 1, .int .i64 2, .int .i64 3, .int .i64 7] VA := by rw [← hVA]; exact Blk.new _ _ _
              have bA : Below w5.heap.size w5 VA := by rw [← hVA]; exact (Below.refl _ _).alloc (Nat.le_refl _) _
              have CA := cu_under CE bA
              have KP := pickI w5.heap.size 4 [1, 2, 3, 7] CA (by omega) (by omega) (CE).lt TA.lt rfl TA (by decide)
              have pA := RoI.later pE bA
              have rA := RoT.later rE bA
              have BA := (BE).trans (bA.mono (by have := (CE).lt; omega))
              have sA : w2.heap.size ≤ VA.heap.size := Nat.le_trans sE bA.size
              clear bA pE rE CE BE sE
              go_wp2_with fail
              try rw [hVA]
              refine KP.mono ?_
              clear KP hVA
              rintro e wB ⟨y, rfl, hy, cB⟩
              have pB := pA.drawn cB (by omega)
              have rB := rA.drawn cB (by omega)
              have CB := cB.here
              have BB := BA.trans (cB.2.below (Nat.le_refl _) CA.lt)
              have sB : w2.heap.size ≤ wB.heap.size := Nat.le_trans sA cB.size
              clear pA rA CA BA cB TA sA
              go_wp2_with (first | (at_builtin; refine wpList_append_own _ rfl _ _ 25 rfl w2.heap.size 3 j3 _ 1 8 Try.underlying25 hj3 hjz3 hjs3 hjb3 rfl (by decide) _ _ _ rfl (World.ownsRow.alloc pB _) ⟨wB.heap.size, 0, none⟩ 1 1 [.int .i64 y] rfl rfl (cell_one_new _ _ _) ?e11c2 ?e11c3 ?e11c4 ?e11c5 ?_) | go_in)
              case e11c2 => intro u hu; simp at hu; subst hu; rfl
              case e11c3 => unfold maxLen; (try dsimp only); omega
              case e11c4 => (try dsimp only); omega
              case e11c5 => have := sB; simp; omega
              intro v' wC hown' hgrow _
              obtain ⟨na, nc, rfl, _⟩ := own_shape hown'
              try dsimp only at hown' hgrow ⊢
              have al : Below wB.heap.size wB (wB.alloc (.cells #[.int .i64 y] 3)) := (Below.refl _ _).alloc (Nat.le_refl _) _
              have rC := (RoT.later rB al).offO hgrow (fun g e => HO.out g (World.ownsRow.lt pB g e).1)
              have CC := cu_grown (cu_under CB al) hgrow (fun j e => Nat.lt_of_lt_of_le pcl (World.ownsRow.lt pB j e).1)
              have BC : Below pc W wC := ((BB).alloc (by have := (CB).lt; omega) (.cells #[.int .i64 y] 3)).grown hgrow (by have := (CB).lt; simp; omega) (fun k hk => by have := (World.ownsRow.lt pB k hk).1; omega)
              have pC : RoI w2.heap.size wC (na, nc, p ++ [y]) := kput (kr := (pa, pcap, p)) hown'
              have HN : Hid (RoI w2.heap.size wC (na, nc, p ++ [y]) ∧ RoT (pc + 1) wC (some ⟨bq, 0, none⟩, qc, ys) ∧ Cu pc ad len cap zs wC wC ∧ Below pc W wC ∧ w2.heap.size ≤ wC.heap.size) := ⟨pC, rC, CC, BC, by have := hgrow.size; have := sB; simp at *; omega⟩
              clear hown' hgrow al rC CC BC pC
              go_wp2
              go_roundw
              case rel => exact ⟨m, i, (na, nc, p ++ [y]), (by simp), rfl, (by first | go_num | (congr 1; omega)), (by simp; omega), hi, HN⟩
              case measure => (simp [intOf]) <;> omega
end Go.Proofs.Ytengggpobhibcaa.Nd
