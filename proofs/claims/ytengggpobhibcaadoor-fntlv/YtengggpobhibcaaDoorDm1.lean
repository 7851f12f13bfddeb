/- l14Put: a message that is drawn. -/
import Derived.Test.YtengggpobhibcaaDoorDm0
set_option linter.unusedVariables false
set_option maxRecDepth 100000
namespace Go.Proofs.YtengggpobhibcaaDoor.Nd
open Go Go.RowKit Go.Joins Own Draw Var

set_option maxHeartbeats 6400000 in
theorem put_step {pc : Nat} {ad : Option Addr} {len cap : Nat} {zs : List Int} (d : Nat) (hd : d ≤ 4)
    (ih : ∀ e, e < d → ∀ (B : Nat) (r : Rw TT) (w : World), pc < B → B ≤ w.heap.size → RoT B w r → ApT r → (∀ x ∈ r.2.2, SmX x) → r.2.2.length + cntN e ≤ 1000 → Cu pc ad len cap zs w w → Calls Tryd.prog 26 #[.pointer (some ⟨pc, 0, none⟩), slT r, .int .i64 (e : Int)] w (PutP pc ad len cap zs (cntN e) B r w))
    (B : Nat) (r : Rw TT) (w : World) (hpB : pc < B) (hB : B ≤ w.heap.size) (hr : RoT B w r) (hap : ApT r) (hsm : ∀ x ∈ r.2.2, SmX x) (hln : r.2.2.length + cntN d ≤ 1000) (C : Cu pc ad len cap zs w w) :
    Calls Tryd.prog 26 #[.pointer (some ⟨pc, 0, none⟩), slT r, .int .i64 (d : Int)] w (PutP pc ad len cap zs (cntN d) B r w) := by
  obtain ⟨it, hit, hits⟩ := info_T
  obtain ⟨jt, hjt, hjz, hjs, hjb⟩ := parts_of info44
  obtain ⟨j3, hj3, hjz3, hjs3, hjb3⟩ := parts_of info3
  obtain ⟨oa, oc, xs⟩ := r
  dsimp only at *
  obtain ⟨V, hV⟩ : ∃ V, w.alloc (.cells #[.int .i64 1, .int .i64 2, .int .i64 3, .int .i64 7, .int .i64 100] 3) = V := ⟨_, rfl⟩
  have TV : Blk w.heap.size [.int .i64 1, .int .i64 2, .int .i64 3, .int .i64 7, .int .i64 100] V := by rw [← hV]; exact Blk.new _ _ _
  have BV : Below w.heap.size w V := by rw [← hV]; exact (Below.refl _ _).alloc (Nat.le_refl _) _
  have CV := cu_under C BV
  have KP := pickI w.heap.size 5 [1, 2, 3, 7, 100] CV (by omega) (by omega) (by omega) TV.lt rfl TV (by decide)
  have rV := RoT.later hr BV
  have chV : Ch pc pc (obT (oa, oc, xs)) w V := (Ch.refl pc pc _ w).below BV
  go_enter Tryd.func26, Tryd.ntmps26
  go_wp2_with fail
  try rw [hV]
  refine KP.mono ?_
  clear KP
  rintro e w1 ⟨tg, rfl, htg, c1⟩
  have r1 := rV.drawn c1 hpB
  have ch1 := chV.drawn c1
  have C1 := c1.here
  have s1 : w.heap.size ≤ w1.heap.size := ch1.size
  clear hV TV BV CV rV chV c1 C hr
  cases d with
  | zero =>
    go_wp2_with fail
    refine (textW 5 C1 (by omega) (by omega)).mono ?_
    rintro e w3 ⟨t, rfl, ht, c3⟩
    have r3 := r1.drawn c3 hpB
    have ch3 := ch1.drawn c3
    have C3 := c3.here
    obtain ⟨YA, hYA⟩ : ∃ Z, w3.alloc (.cells #[.int .i64 tg, .bool true, .string t, .slice none 0 0] 61) = Z := ⟨_, rfl⟩
    have TA : Blk w3.heap.size [.int .i64 tg, .bool true, .string t, .slice none 0 0] YA := by rw [← hYA]; exact Blk.new _ _ _
    have BYA : Below w3.heap.size w3 YA := by rw [← hYA]; exact (Below.refl _ _).alloc (Nat.le_refl _) _
    have ROA := RoT.later r3 BYA
    have CHA := ch3.below BYA
    have CA := cu_under C3 BYA
    have sYA : w3.heap.size < YA.heap.size := TA.lt
    have s3 : w.heap.size ≤ w3.heap.size := ch3.size
    have hBA : B ≤ YA.heap.size := by omega
    have hxl : xs.length ≤ 1000 := by have := cntN_pos 0; omega
    clear r1 ch1 C1 c3 r3 ch3 C3 ih
    go_wp2_with (first | (at_builtin; first | refine wpList_append_where _ rfl _ _ 24 rfl B 61 jt _ 4 56 Tryd.underlying24 hjt hjz hjs hjb rfl (by decide) _ _ _ rfl ROA.1 ⟨w3.heap.size, 0, none⟩ 1 1 [.int .i64 tg, .bool true, .string t, .slice none 0 0] rfl rfl (news_box TA) (fun u hu => by simp at hu; rcases hu with rfl | rfl | rfl | rfl <;> rfl) ?c3 ?c4 hBA (by decide) ?_ | (rw [hYA]; refine wpList_append_where _ rfl _ _ 24 rfl B 61 jt _ 4 56 Tryd.underlying24 hjt hjz hjs hjb rfl (by decide) _ _ _ rfl ROA.1 ⟨w3.heap.size, 0, none⟩ 1 1 [.int .i64 tg, .bool true, .string t, .slice none 0 0] rfl rfl (news_box TA) (fun u hu => by simp at hu; rcases hu with rfl | rfl | rfl | rfl <;> rfl) ?c3 ?c4 hBA (by decide) ?_)) | go_in)
    case c3 => unfold maxLen; (try dsimp only); omega
    case c4 => (try dsimp only); omega
    intro vA wA ownA hgA hwA
    obtain ⟨na, nc, rfl, _⟩ := own_shape ownA
    try dsimp only at ownA hwA ⊢
    obtain ⟨RA, CB, OA⟩ := put_mem (x := ((tg, true, t, (none, 0, [])) : TT)) ROA ⟨by simp, Or.inl ⟨rfl, rfl⟩⟩ ownA hgA hwA
    dsimp only at RA CB OA
    have hlo : ∀ j, obT (oa, oc, xs) = some j → B ≤ j := fun j e => (World.ownsRow.lt ROA.1 j e).1
    have CF := cu_grown CA hgA (fun j e => by have := hlo j e; omega)
    have CHF := CHA.grown hgA (fun j e => Or.inr (Or.inr (Or.inl e.symm)))
    have CUF : obT (na, nc, xs ++ [((tg, true, t, (none, 0, [])) : TT)]) = obT (oa, oc, xs) ∨ ∃ j, obT (na, nc, xs ++ [((tg, true, t, (none, 0, [])) : TT)]) = some j ∧ w.heap.size ≤ j := by
      rcases CB with e | e
      · exact Or.inl e
      · exact Or.inr ⟨_, e, by omega⟩
    have OFF : ∀ g, g < w.heap.size → Off g (oa, oc, xs) → Off g (na, nc, xs ++ [((tg, true, t, (none, 0, [])) : TT)]) := fun g hg ho => OA g (by omega) ho (fun e => by cases e)
    have APF : ApT (na, nc, xs ++ [((tg, true, t, (none, 0, [])) : TT)]) := ap_put (r := (oa, oc, xs)) hap (fun j e => by cases e)
    have SMF : ∀ x ∈ (na, nc, xs ++ [((tg, true, t, (none, 0, [])) : TT)]).2.2, SmX x := fun x hx => by
      rcases List.mem_append.1 hx with h | h
      · exact hsm x h
      · rw [List.mem_singleton] at h
        subst h
        exact ⟨ht, Nat.zero_le _⟩
    have hcp := cntN_pos 0
    go_wp2
    go_ret
    exact ⟨(na, nc, xs ++ [((tg, true, t, (none, 0, [])) : TT)]), by simp [slT], RA, CF, CHF, CUF, OFF, APF, SMF, by simp, by simp; omega⟩
  | succ d =>
    have hd0 : (((d + 1 : Nat) : Int) == 0) = false := by simp; omega
    have hd1 : ((d + 1 : Nat) : Int) - 1 = (d : Int) := by omega
    go_wp2_with fail
    refine (onceW 2 C1 (by omega)).mono ?_
    rintro e w2 ⟨b, rfl, c2⟩
    have r2 := r1.drawn c2 hpB
    have ch2 := ch1.drawn c2
    have C2 := c2.here
    clear r1 ch1 C1 c2
    cases b with
    | true =>
      go_wp2_with fail
      refine (textW 5 C2 (by omega) (by omega)).mono ?_
      rintro e w3 ⟨t, rfl, ht, c3⟩
      have r3 := r2.drawn c3 hpB
      have ch3 := ch2.drawn c3
      have C3 := c3.here
      obtain ⟨YA, hYA⟩ : ∃ Z, w3.alloc (.cells #[.int .i64 tg, .bool true, .string t, .slice none 0 0] 61) = Z := ⟨_, rfl⟩
      have TA : Blk w3.heap.size [.int .i64 tg, .bool true, .string t, .slice none 0 0] YA := by rw [← hYA]; exact Blk.new _ _ _
      have BYA : Below w3.heap.size w3 YA := by rw [← hYA]; exact (Below.refl _ _).alloc (Nat.le_refl _) _
      have ROA := RoT.later r3 BYA
      have CHA := ch3.below BYA
      have CA := cu_under C3 BYA
      have sYA : w3.heap.size < YA.heap.size := TA.lt
      have s3 : w.heap.size ≤ w3.heap.size := ch3.size
      have hBA : B ≤ YA.heap.size := by omega
      have hxl : xs.length ≤ 1000 := by have := cntN_pos 0; omega
      clear r2 ch2 C2 c3 r3 ch3 C3 ih
      go_wp2_with (first | (at_builtin; first | refine wpList_append_where _ rfl _ _ 24 rfl B 61 jt _ 4 56 Tryd.underlying24 hjt hjz hjs hjb rfl (by decide) _ _ _ rfl ROA.1 ⟨w3.heap.size, 0, none⟩ 1 1 [.int .i64 tg, .bool true, .string t, .slice none 0 0] rfl rfl (news_box TA) (fun u hu => by simp at hu; rcases hu with rfl | rfl | rfl | rfl <;> rfl) ?c3 ?c4 hBA (by decide) ?_ | (rw [hYA]; refine wpList_append_where _ rfl _ _ 24 rfl B 61 jt _ 4 56 Tryd.underlying24 hjt hjz hjs hjb rfl (by decide) _ _ _ rfl ROA.1 ⟨w3.heap.size, 0, none⟩ 1 1 [.int .i64 tg, .bool true, .string t, .slice none 0 0] rfl rfl (news_box TA) (fun u hu => by simp at hu; rcases hu with rfl | rfl | rfl | rfl <;> rfl) ?c3 ?c4 hBA (by decide) ?_)) | go_in)
      case c3 => unfold maxLen; (try dsimp only); omega
      case c4 => (try dsimp only); omega
      intro vA wA ownA hgA hwA
      obtain ⟨na, nc, rfl, _⟩ := own_shape ownA
      try dsimp only at ownA hwA ⊢
      obtain ⟨RA, CB, OA⟩ := put_mem (x := ((tg, true, t, (none, 0, [])) : TT)) ROA ⟨by simp, Or.inl ⟨rfl, rfl⟩⟩ ownA hgA hwA
      dsimp only at RA CB OA
      have hlo : ∀ j, obT (oa, oc, xs) = some j → B ≤ j := fun j e => (World.ownsRow.lt ROA.1 j e).1
      have CF := cu_grown CA hgA (fun j e => by have := hlo j e; omega)
      have CHF := CHA.grown hgA (fun j e => Or.inr (Or.inr (Or.inl e.symm)))
      have CUF : obT (na, nc, xs ++ [((tg, true, t, (none, 0, [])) : TT)]) = obT (oa, oc, xs) ∨ ∃ j, obT (na, nc, xs ++ [((tg, true, t, (none, 0, [])) : TT)]) = some j ∧ w.heap.size ≤ j := by
        rcases CB with e | e
        · exact Or.inl e
        · exact Or.inr ⟨_, e, by omega⟩
      have OFF : ∀ g, g < w.heap.size → Off g (oa, oc, xs) → Off g (na, nc, xs ++ [((tg, true, t, (none, 0, [])) : TT)]) := fun g hg ho => OA g (by omega) ho (fun e => by cases e)
      have APF : ApT (na, nc, xs ++ [((tg, true, t, (none, 0, [])) : TT)]) := ap_put (r := (oa, oc, xs)) hap (fun j e => by cases e)
      have SMF : ∀ x ∈ (na, nc, xs ++ [((tg, true, t, (none, 0, [])) : TT)]).2.2, SmX x := fun x hx => by
        rcases List.mem_append.1 hx with h | h
        · exact hsm x h
        · rw [List.mem_singleton] at h
          subst h
          exact ⟨ht, Nat.zero_le _⟩
      have hcp := cntN_pos (d + 1)
      go_wp2
      go_ret
      exact ⟨(na, nc, xs ++ [((tg, true, t, (none, 0, [])) : TT)]), by simp [slT], RA, CF, CHF, CUF, OFF, APF, SMF, by simp, by simp; omega⟩
    | false =>
      obtain ⟨X0, hX0⟩ : ∃ Y, w2.alloc (.cells #[.int .i64 0, .bool false, .string ⟨#[]⟩, .slice none 0 0] 61) = Y := ⟨_, rfl⟩
      have TX0 : Blk w2.heap.size [.int .i64 0, .bool false, .string ⟨#[]⟩, .slice none 0 0] X0 := by rw [← hX0]; exact Blk.new _ _ _
      have BX0 : Below w2.heap.size w2 X0 := by rw [← hX0]; exact (Below.refl _ _).alloc (Nat.le_refl _) _
      obtain ⟨X1, hX1⟩ : ∃ Y, X0.setCells w2.heap.size 0 [.int .i64 tg, .bool false, .string ⟨#[]⟩, .slice none 0 0] = Y := ⟨_, rfl⟩
      have TX1 : Blk w2.heap.size [.int .i64 tg, .bool false, .string ⟨#[]⟩, .slice none 0 0] X1 := by rw [← hX1]; exact TX0.sets _ rfl
      have BX1 : Below w2.heap.size w2 X1 := by rw [← hX1]; exact below_sets (Nat.le_refl _) _ _ _ BX0
      have rX := RoT.later r2 BX1
      have chX := ch2.below BX1
      have CX := cu_under C2 BX1
      have oX : Off w2.heap.size (oa, oc, xs) := off_ge r2 (Nat.le_refl _)
      have s2 : w.heap.size ≤ w2.heap.size := ch2.size
      have hpg : pc < w2.heap.size := C2.lt
      generalize hgx : w2.heap.size = gx at *
      go_wp2_with (first | (refine wpList_stB 61 _ _ gx 0 _ [.int .i64 tg, .bool false, .string ⟨#[]⟩, .slice none 0 0] it hit TX0 hits.symm (by simp) rfl rfl rfl rfl rfl ?_; rw [hX1]) | fail)
      refine (belowW 4 CX (by omega) (by omega)).mono ?_
      rintro e w3 ⟨n0, rfl, n0a, n0b, c3⟩
      obtain ⟨nn, rfl⟩ : ∃ nn : Nat, n0 = (nn : Int) := ⟨n0.toNat, by omega⟩
      have r3 := rX.drawn c3 hpB
      have ch3 := chX.drawn c3
      have C3 := c3.here
      have tx3 := TX1.only c3.2 TX1.lt (by omega)
      have s3 : gx < w3.heap.size := tx3.lt
      have HJ0 : Hid (LpD pc ad len cap zs (cntN d) B (oa, oc, xs) w gx tg nn (oa, oc, xs) (none, 0, []) w3) := {
        tx := tx3
        ro := r3
        ko := ⟨by simp, Or.inl ⟨rfl, rfl⟩⟩
        cc := C3
        ch := ch3
        cu := Or.inl rfl
        oX := oX
        ok := fun k e => by cases e
        of := fun _ _ h => h
        ap := hap
        sm := hsm
        kl := by show 0 + nn ≤ 3; omega
        ll := Nat.le_refl _
        lu := Nat.le_add_right _ _
        }
      clear hX0 TX0 BX0 hX1 TX1 BX1 rX chX CX oX r2 ch2 C2 c3 r3 ch3 C3 tx3
      go_wp2
      go_loopw [1, 9] (fun v1 v9 wr => ∃ (q : Rw TT) (m : Nat) (kr : Rw Int), v1 = slT q ∧ v9 = .int .i64 (m : Int) ∧ Hid (LpD pc ad len cap zs (cntN d) B (oa, oc, xs) w gx tg m q kr wr) ∧ gx < wr.heap.size) (fun _ v9 _ => (intOf v9).toNat)
      case atStart => exact ⟨(oa, oc, xs), nn, (none, 0, []), rfl, rfl, HJ0, s3⟩
      case round =>
        clear HJ0 s3
        obtain ⟨⟨qa, qc, ys⟩, m, ⟨ka, kc, ks⟩, rfl, rfl, HJ, sW⟩ := hrel
        obtain ⟨i_tx, i_ro, i_ko, i_cc, i_ch, i_cu, i_oX, i_ok, i_of, i_ap, i_sm, i_kl, i_ll, i_lu⟩ := HJ.out
        clear HJ
        dsimp only at i_tx i_kl i_ll i_lu
        have hsz : w.heap.size ≤ wr.heap.size := i_ch.size
        have hcd : cntN (d + 1) = 1 + 3 * cntN d := rfl
        have hcp := cntN_pos d
        have hbnd : ∀ j, j ≤ 3 → (3 - j) * cntN d ≤ 3 * cntN d := fun j hj => Nat.mul_le_mul_right _ (by omega)
        by_cases hm : m = 0
        · subst hm
          obtain ⟨YA, hYA⟩ : ∃ Z, wr.alloc (.cells #[.int .i64 tg, .bool false, .string ⟨#[]⟩, .slice ka ks.length kc] 61) = Z := ⟨_, rfl⟩
          have TA : Blk wr.heap.size [.int .i64 tg, .bool false, .string ⟨#[]⟩, .slice ka ks.length kc] YA := by rw [← hYA]; exact Blk.new _ _ _
          have BYA : Below wr.heap.size wr YA := by rw [← hYA]; exact (Below.refl _ _).alloc (Nat.le_refl _) _
          have ROA := RoT.later i_ro BYA
          have KOA : RoI B YA (ka, kc, ks) := RoI.later i_ko BYA
          have CHA := i_ch.below BYA
          have CA := cu_under i_cc BYA
          have sYA : wr.heap.size < YA.heap.size := TA.lt
          have hBA : B ≤ YA.heap.size := by omega
          have hb3 := hbnd 0 (by omega)
          have hyl : ys.length ≤ 1000 := by omega
          clear ih
          go_wp2_with (first | (refine wpList_ldB 61 _ gx 0 _ [.int .i64 tg, .bool false, .string ⟨#[]⟩, .slice ka ks.length kc] it hit (Tryd.isAgg61) i_tx hits.symm rfl rfl rfl rfl ?_) | (at_builtin; first | refine wpList_append_where _ rfl _ _ 24 rfl B 61 jt _ 4 56 Tryd.underlying24 hjt hjz hjs hjb rfl (by decide) _ _ _ rfl ROA.1 ⟨wr.heap.size, 0, none⟩ 1 1 [.int .i64 tg, .bool false, .string ⟨#[]⟩, .slice ka ks.length kc] rfl rfl (news_box TA) (fun u hu => by simp at hu; rcases hu with rfl | rfl | rfl | rfl <;> rfl) ?c3 ?c4 hBA (by decide) ?_ | (rw [hYA]; refine wpList_append_where _ rfl _ _ 24 rfl B 61 jt _ 4 56 Tryd.underlying24 hjt hjz hjs hjb rfl (by decide) _ _ _ rfl ROA.1 ⟨wr.heap.size, 0, none⟩ 1 1 [.int .i64 tg, .bool false, .string ⟨#[]⟩, .slice ka ks.length kc] rfl rfl (news_box TA) (fun u hu => by simp at hu; rcases hu with rfl | rfl | rfl | rfl <;> rfl) ?c3 ?c4 hBA (by decide) ?_)) | go_in)
          case c3 => unfold maxLen; (try dsimp only); omega
          case c4 => (try dsimp only); omega
          intro vA wA ownA hgA hwA
          obtain ⟨na, nc, rfl, _⟩ := own_shape ownA
          try dsimp only at ownA hwA ⊢
          obtain ⟨RA, CB, OA⟩ := put_mem (x := ((tg, false, ⟨#[]⟩, (ka, kc, ks)) : TT)) ROA KOA ownA hgA hwA
          dsimp only at RA CB OA
          have hlo : ∀ j, obT (qa, qc, ys) = some j → B ≤ j := fun j e => (World.ownsRow.lt ROA.1 j e).1
          have CF := cu_grown CA hgA (fun j e => by have := hlo j e; omega)
          have CHF := CHA.grown hgA (fun j e => by
            rcases i_cu with c | ⟨i, c, hi⟩
            · exact Or.inr (Or.inr (Or.inl (e.symm.trans c)))
            · exact Or.inr (Or.inr (Or.inr (by have e3 := e.symm.trans c; injection e3 with e3; omega))))
          have CUF : obT (na, nc, ys ++ [((tg, false, ⟨#[]⟩, (ka, kc, ks)) : TT)]) = obT (oa, oc, xs) ∨ ∃ j, obT (na, nc, ys ++ [((tg, false, ⟨#[]⟩, (ka, kc, ks)) : TT)]) = some j ∧ w.heap.size ≤ j := by
            rcases CB with e | e
            · rw [e]; exact i_cu
            · exact Or.inr ⟨_, e, by omega⟩
          have OFF : ∀ g, g < w.heap.size → Off g (oa, oc, xs) → Off g (na, nc, ys ++ [((tg, false, ⟨#[]⟩, (ka, kc, ks)) : TT)]) := fun g hg ho => OA g (by omega) (i_of g hg ho) (fun e => by have := (i_ok g e).2.1; omega)
          have APF : ApT (na, nc, ys ++ [((tg, false, ⟨#[]⟩, (ka, kc, ks)) : TT)]) := ap_put (r := (qa, qc, ys)) i_ap (fun j e => (i_ok j e).1.2)
          have SMF : ∀ x ∈ (na, nc, ys ++ [((tg, false, ⟨#[]⟩, (ka, kc, ks)) : TT)]).2.2, SmX x := fun x hx => by
            rcases List.mem_append.1 hx with h | h
            · exact i_sm x h
            · rw [List.mem_singleton] at h
              subst h
              exact ⟨Nat.zero_le _, by show ks.length ≤ 3; omega⟩
          go_wp2
          go_ret
          exact ⟨(na, nc, ys ++ [((tg, false, ⟨#[]⟩, (ka, kc, ks)) : TT)]), by simp [slT], RA, CF, CHF, CUF, OFF, APF, SMF, by simp; omega, by simp; omega⟩
        · obtain ⟨m, rfl⟩ : ∃ m', m = m' + 1 := ⟨m - 1, by omega⟩
          have hm1 : ¬ (((m + 1 : Nat)) : Int) ≤ 0 := by omega
          have hm2 : ((m + 1 : Nat) : Int) - 1 = (m : Int) := by omega
          have hm0 : (0 : Int) < ((m + 1 : Nat) : Int) := by omega
          have hb3 := hbnd (m + 1) (by omega)
          have hb4 : (3 - (m + 1)) * cntN d + cntN d = (3 - m) * cntN d := by rw [show 3 - m = 3 - (m + 1) + 1 by omega, Nat.succ_mul]
          have KR := ih d (by omega) B (qa, qc, ys) wr hpB (by omega) i_ro i_ap i_sm (by have := hbnd m (by omega); dsimp only; omega) i_cc
          go_wp2_with fail
          refine KR.mono ?_
          clear KR
          rintro e W1 ⟨⟨pa, pk, zz⟩, rfl, ro1, cc1, ch1, cu1, of1, ap1, sm1, la1, lb1⟩
          dsimp only at la1 lb1
          have chw := i_ch.trans ch1 (by
            rcases i_cu with c | ⟨i, c, hi⟩
            · exact Or.inl c
            · exact Or.inr ⟨i, c, hi⟩)
          have cuw : obT (pa, pk, zz) = obT (oa, oc, xs) ∨ ∃ k, obT (pa, pk, zz) = some k ∧ w.heap.size ≤ k := by
            rcases cu1 with e | ⟨k, e, hk⟩
            · rw [e]; exact i_cu
            · exact Or.inr ⟨k, e, by omega⟩
          have ofw : ∀ g, g < w.heap.size → Off g (oa, oc, xs) → Off g (pa, pk, zz) := fun g hg ho => of1 g (by omega) (i_of g hg ho)
          have oX1 := of1 gx sW i_oX
          have hkl : ∀ j, kB (ka, kc, ks) = some j → B ≤ j ∧ j < wr.heap.size := fun j e => World.ownsRow.lt i_ko j e
          have ok1 : ∀ j, kB (ka, kc, ks) = some j → Off j (pa, pk, zz) ∧ w.heap.size ≤ j ∧ j ≠ gx := fun j e => ⟨of1 j (hkl j e).2 (i_ok j e).1, (i_ok j e).2.1, (i_ok j e).2.2⟩
          have ko1 : RoI B W1 (ka, kc, ks) := ch1.rowI i_ko hpB hpB (fun j e c => (i_ok j e).1.1 c.symm)
          have tx1 := ch1.blk i_tx sW (by omega) (by omega) (fun c => i_oX.1 c.symm)
          have s1 : wr.heap.size ≤ W1.heap.size := ch1.size
          clear i_tx i_ro i_ko i_cc i_ch i_cu i_oX i_ok i_of i_ap i_sm ch1 cu1 of1
          obtain ⟨W5, hW5⟩ : ∃ Y, W1.alloc (.cells #[.int .i64 ((zz.length : Int) - 1)] 3) = Y := ⟨_, rfl⟩
          have tk5 : Blk W1.heap.size [.int .i64 ((zz.length : Int) - 1)] W5 := by rw [← hW5]; exact Blk.new _ _ _
          have b5 : Below W1.heap.size W1 W5 := by rw [← hW5]; exact (Below.refl _ _).alloc (Nat.le_refl _) _
          have s5 : W1.heap.size < W5.heap.size := tk5.lt
          have tx5 := tx1.later b5 tx1.lt
          have ro5 := RoT.later ro1 b5
          have ko5 : RoI B W5 (ka, kc, ks) := RoI.later ko1 b5
          have cc5 := cu_under cc1 b5
          have x3 := tx1.at 3 rfl
          have hB5 : B ≤ W5.heap.size := by omega
          have hzl : zz.length ≤ 2000 := by omega
          go_wp2_with (first | (at_builtin; first | refine wpList_append_where _ rfl _ _ 59 rfl B 3 j3 _ 1 8 Tryd.underlying59 hj3 hjz3 hjs3 hjb3 rfl (by decide) _ _ _ rfl ko5 ⟨W1.heap.size, 0, none⟩ 1 1 [.int .i64 ((zz.length : Int) - 1)] rfl rfl (news_box tk5) (fun u hu => by simp at hu; subst hu; rfl) ?c3 ?c4 hB5 (by decide) ?_ | (rw [hW5]; refine wpList_append_where _ rfl _ _ 59 rfl B 3 j3 _ 1 8 Tryd.underlying59 hj3 hjz3 hjs3 hjb3 rfl (by decide) _ _ _ rfl ko5 ⟨W1.heap.size, 0, none⟩ 1 1 [.int .i64 ((zz.length : Int) - 1)] rfl rfl (news_box tk5) (fun u hu => by simp at hu; subst hu; rfl) ?c3 ?c4 hB5 (by decide) ?_)) | go_in)
          case c3 => unfold maxLen; omega
          case c4 => omega
          intro vK wK ownK hgK hwK
          obtain ⟨na, nc, rfl, _⟩ := own_shape ownK
          try dsimp only at ownK hwK ⊢
          have rk : RoI B wK (na, nc, ks ++ [((zz.length : Int) - 1)]) := kput (kr := (ka, kc, ks)) ownK
          have hkb : kB (na, nc, ks ++ [((zz.length : Int) - 1)]) = (Value.slice na (ks.length + 1) nc).ownBlock := by unfold kB; dsimp only; rw [List.length_append, List.length_singleton]
          have ok6 : ∀ j, kB (na, nc, ks ++ [((zz.length : Int) - 1)]) = some j → Off j (pa, pk, zz) ∧ w.heap.size ≤ j ∧ j ≠ gx := fun j e => by
            rw [hkb] at e
            rcases hwK with h | h
            · exact ok1 j (h.symm.trans e)
            · have e2 := h.symm.trans e
              injection e2 with e2
              subst e2
              exact ⟨off_ge ro5 (Nat.le_refl _), by omega, by omega⟩
          have tx6 := blk_keptO tx5 hgK (fun j e => (ok1 j e).2.2) tx5.lt
          have ro6 := ro5.offO hgK (fun j e => (ok1 j e).1)
          have cc6 := cu_grown cc5 hgK (fun j e => by have := (hkl j e).1; omega)
          have ch6 := (chw.below b5).grown hgK (fun j e => Or.inr (Or.inr (Or.inr (ok1 j e).2.1)))
          have y3 := tx6.at 3 rfl
          have yz := tx6.fz 3 rfl
          have tx7 := tx6.set 3 (.slice na (ks.length + 1) nc)
          have ro7 := ro6.off (set_grown wK gx 3 (.slice na (ks.length + 1) nc)) oX1
          have rk7 := set_far (g := gx) rk (.slice na (ks.length + 1) nc) 3 (fun j e => (ok6 j e).2.2)
          have cc7 := cu_grown cc6 (set_grown wK gx 3 (.slice na (ks.length + 1) nc)) (fun j e => by injection e with e; omega)
          have ch7 := ch6.grown (set_grown wK gx 3 (.slice na (ks.length + 1) nc)) (fun j e => by injection e with e; exact Or.inr (Or.inr (Or.inr (by omega))))
          have s7 : gx < (wK.setCell ⟨gx, 3, none⟩ (.slice na (ks.length + 1) nc)).heap.size := tx7.lt
          obtain ⟨W7, hW7⟩ : ∃ Y, wK.setCell ⟨gx, 3, none⟩ (.slice na (ks.length + 1) nc) = Y := ⟨_, rfl⟩
          rw [hW7] at tx7 ro7 rk7 cc7 ch7 s7
          have HJ : Hid (LpD pc ad len cap zs (cntN d) B (oa, oc, xs) w gx tg m (pa, pk, zz) (na, nc, ks ++ [((zz.length : Int) - 1)]) W7) := {
            tx := by simpa [List.length_append] using tx7
            ro := ro7
            ko := rk7
            cc := cc7
            ch := ch7
            cu := cuw
            oX := oX1
            ok := ok6
            of := ofw
            ap := ap1
            sm := sm1
            kl := by simp; omega
            ll := by dsimp only; omega
            lu := by dsimp only; omega
            }
          clear tx7 ro7 rk7 cc7 ch7 tx6 ro6 cc6 ch6 tx5 ro5 ko5 cc5 tx1 ro1 ko1 cc1 rk ok6 ok1 ofw cuw oX1 hgK ownK hwK tk5 b5 chw hkl hkb sm1 ap1
          go_wp2
          go_roundw
          case rel => exact ⟨(pa, pk, zz), m, (na, nc, ks ++ [((zz.length : Int) - 1)]), rfl, by go_num, HJ, s7⟩
          case measure => simp [intOf]
theorem put_is {pc : Nat} {ad : Option Addr} {len cap : Nat} {zs : List Int} : ∀ (n d : Nat), d < n → d ≤ 4 → ∀ (B : Nat) (r : Rw TT) (w : World), pc < B → B ≤ w.heap.size → RoT B w r → ApT r → (∀ x ∈ r.2.2, SmX x) → r.2.2.length + cntN d ≤ 1000 → Cu pc ad len cap zs w w →
    Calls Tryd.prog 26 #[.pointer (some ⟨pc, 0, none⟩), slT r, .int .i64 (d : Int)] w (PutP pc ad len cap zs (cntN d) B r w)
  | 0, d, h => absurd h (by omega)
  | n + 1, d, h => fun hd B r w hpB hB hr hap hsm hln C => put_step d hd (fun e he => put_is n e (by omega) (by omega)) B r w hpB hB hr hap hsm hln C
end Go.Proofs.YtengggpobhibcaaDoor.Nd
