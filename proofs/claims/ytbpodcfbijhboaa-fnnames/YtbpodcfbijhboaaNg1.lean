/- Signs quoted: the model and the program. -/
import Derived.Test.YtbpodcfbijhboaaNg0
import Derived.Test.YtbpodcfbijhboaaNx1
set_option linter.unusedVariables false
set_option maxRecDepth 100000
namespace Go.Proofs.Ytbpodcfbijhboaa.Nd
open Go Go.RowKit Go.Joins Own Draw

theorem infoB8 : (Try.prog.info? 5).map (fun i => (i.zero, i.size, i.bytes)) = some (some (.int .u8 0), 1, 1) := by kernel_rfl
theorem infoR32 : (Try.prog.info? 21).map (fun i => (i.zero, i.size, i.bytes)) = some (some (.int .i32 0), 1, 4) := by kernel_rfl
theorem esc_ascii {s : ByteArray} (h : allB s = true) : ∀ b ∈ escL s.data.toList, b.toNat < 128 := by
  have key : ∀ l : List UInt8, (∀ b ∈ l, b.toNat < 128) → ∀ b ∈ escL l, b.toNat < 128 := by
    intro l
    induction l with
    | nil => intro _ b hb; cases hb
    | cons x t ih =>
      intro hx b hb
      have ht := ih (fun y hy => hx y (List.mem_cons_of_mem _ hy))
      unfold escL at hb
      split at hb
      · rcases List.mem_cons.1 hb with rfl | hb
        · decide
        · rcases List.mem_cons.1 hb with rfl | hb
          · exact hx _ (List.mem_cons_self ..)
          · exact ht b hb
      · rcases List.mem_cons.1 hb with rfl | hb
        · exact hx _ (List.mem_cons_self ..)
        · exact ht b hb
  refine key _ (fun b hb => ?_)
  unfold allB at h
  rw [List.all_eq_true] at h
  have := h b hb
  unfold inB at this
  simp only [Bool.and_eq_true, decide_eq_true_eq] at this
  omega
/-- Behind an append to a row that lies behind g. -/
theorem app_bel {g : Nat} {w wr w1 : World} {e : TypeId} {n : Nat} {v : Value} {xs : List Value} {o : Obj} (hbel : Below g w wr) (hB : g + 1 ≤ wr.heap.size) (hown : wr.ownsRow (g + 1) e 1 v n xs) (hg : (wr.alloc o).grownBy w1 v.ownBlock) : Below g w w1 :=
  (hbel.alloc (by omega) o).grown hg (by simp; omega) (fun k hk => by have := (hown.lt k hk).1; omega)
theorem app_iter {g : Nat} {wr w1 : World} {e : TypeId} {n : Nat} {v : Value} {xs : List Value} {o q : Obj} (hit : wr.heap[g]? = some q) (hown : wr.ownsRow (g + 1) e 1 v n xs) (hg : (wr.alloc o).grownBy w1 v.ownBlock) : w1.heap[g]? = some q := by
  have hl : g < wr.heap.size := (Array.getElem?_eq_some_iff.1 hit).1
  rw [hg.block g (by simp; omega) (fun e => by have := (hown.lt g e.symm).1; omega), Below.heap_alloc _ _ _ hl]
  exact hit
set_option maxHeartbeats 3200000 in
theorem esc_is (s : ByteArray) (w : World) (hs : s.size ≤ 1048576) : Calls Try.prog 49 #[.string s] w fun e w' => e = .returned (.string (escB s)) ∧ Below w.heap.size w w' := by
  obtain ⟨i0, hi, hz0, hz1, hz2⟩ := info_parts infoB8
  go_enter Try.func49, Try.ntmps49
  go_wp2
  go_loopw [3, 4] (fun v i wr => ∃ (k : Nat) (l : List UInt8), k ≤ s.size ∧ i = .int .i64 k ∧ Hid (l = escL (tk s k)) ∧ l.length ≤ 2 * k ∧ wr.ownsRow w.heap.size 5 1 v l.length (bytesOf l) ∧ Below w.heap.size w wr) (fun _ i _ => s.size - (intOf i).toNat)
  case atStart => exact ⟨0, [], Nat.zero_le _, rfl, (rfl : ([] : List UInt8) = _), Nat.zero_le _, World.ownsRow_lit _ _ _ (Nat.le_refl _) (by unfold maxLen; omega) rfl, (Below.refl _ _).alloc (Nat.le_refl _) _⟩
  case round =>
    obtain ⟨k, l, hk, rfl, HL, hll, hown, hbel⟩ := hrel
    by_cases hlt : k < s.size
    · have hlti : (k : Int) < (s.size : Int) := by omega
      have HT : Hid (tk s (k + 1) = tk s k ++ [s[k]]) := tk_succ hlt
      obtain ⟨b, hb⟩ : ∃ b, s[k]'hlt = b := ⟨_, rfl⟩
      rw [hb] at HT
      have HS : Hid (l ++ (if sgB b then [92, b] else [b]) = escL (tk s (k + 1))) := by show _ = _; rw [HT.out, escL_app, HL.out]
      clear HT HL
      by_cases c1 : b.toNat = 47
      · have q1 : ((b.toNat : Int) == 47) = true := by rw [beq_iff_eq]; omega
        have hsg : sgB b = true := by unfold sgB; rw [decide_eq_true c1]; rfl
        clear c1
        have HV : Hid (l ++ [92] ++ [b] = escL (tk s (k + 1))) := by show _ = _; rw [← HS.out, if_pos hsg, List.append_assoc]; rfl
        clear HS hsg
        go_wp2_with (first | (at_builtin; refine wpList_append_own _ rfl _ _ 22 rfl w.heap.size 5 i0 (.int .u8 0) 1 1 Try.underlying22 hi hz0 hz1 hz2 rfl (by decide) _ _ _ rfl (hown.alloc _) ⟨wr.heap.size, 0, none⟩ 1 1 [.int .u8 92] rfl rfl (cell_one_new _ _ _) ?c2 ?c3 ?c4 ?c5 ?_) | go_in)
        case c2 => intro u hu; simp at hu; subst hu; rfl
        case c3 => unfold maxLen; omega
        case c4 => omega
        case c5 => have := hbel.size; simp; omega
        intro v1 w1 hown1 hgrow1 _
        have hb1 := below_app hbel (Nat.le_refl _) hown hgrow1
        rw [show bytesOf l ++ [Value.int .u8 92] = bytesOf (l ++ [92]) by rw [bytesOf_append]; rfl, show l.length + 1 = (l ++ [(92 : UInt8)]).length by simp] at hown1
        have hl1 : (l ++ [(92 : UInt8)]).length ≤ 2 * k + 1 := by simp; omega
        generalize l ++ [(92 : UInt8)] = l1 at *
        clear hgrow1 hown hbel
        go_wp2_with (first | (at_builtin; refine wpList_append_own _ rfl _ _ 22 rfl w.heap.size 5 i0 (.int .u8 0) 1 1 Try.underlying22 hi hz0 hz1 hz2 rfl (by decide) _ _ _ rfl (hown1.alloc _) ⟨w1.heap.size, 0, none⟩ 1 1 [.int .u8 (b.toNat : Int)] rfl rfl (cell_one_new _ _ _) ?c2 ?c3 ?c4 ?c5 ?_) | go_in)
        case c2 => intro u hu; simp at hu; subst hu; rfl
        case c3 => unfold maxLen; omega
        case c4 => omega
        case c5 => have := hb1.size; simp; omega
        intro v2 w2 hown2 hgrow2 _
        have hb2 := below_app hb1 (Nat.le_refl _) hown1 hgrow2
        rw [show bytesOf l1 ++ [Value.int .u8 (b.toNat : Int)] = bytesOf (l1 ++ [b]) by rw [bytesOf_append]; rfl, show l1.length + 1 = (l1 ++ [b]).length by simp] at hown2
        clear hgrow2 hown1 hb1
        have hl2 : (l1 ++ [b]).length ≤ 2 * (k + 1) := by simp; omega
        generalize l1 ++ [b] = l2 at *
        go_wp2
        go_roundw
        case rel => exact ⟨k + 1, l2, by omega, by go_num, HV, hl2, hown2, hb2⟩
        case measure => simp [intOf]; omega
      · have q1 : ((b.toNat : Int) == 47) = false := by rw [beq_eq_false_iff_ne]; omega
        by_cases c2 : b.toNat = 64
        · have q2 : ((b.toNat : Int) == 64) = true := by rw [beq_iff_eq]; omega
          have hsg : sgB b = true := by unfold sgB; rw [decide_eq_true c2, Bool.true_or, Bool.or_true]
          clear c1 c2
          have HV : Hid (l ++ [92] ++ [b] = escL (tk s (k + 1))) := by show _ = _; rw [← HS.out, if_pos hsg, List.append_assoc]; rfl
          clear HS hsg
          go_wp2_with (first | (at_builtin; refine wpList_append_own _ rfl _ _ 22 rfl w.heap.size 5 i0 (.int .u8 0) 1 1 Try.underlying22 hi hz0 hz1 hz2 rfl (by decide) _ _ _ rfl (hown.alloc _) ⟨wr.heap.size, 0, none⟩ 1 1 [.int .u8 92] rfl rfl (cell_one_new _ _ _) ?c2 ?c3 ?c4 ?c5 ?_) | go_in)
          case c2 => intro u hu; simp at hu; subst hu; rfl
          case c3 => unfold maxLen; omega
          case c4 => omega
          case c5 => have := hbel.size; simp; omega
          intro v1 w1 hown1 hgrow1 _
          have hb1 := below_app hbel (Nat.le_refl _) hown hgrow1
          rw [show bytesOf l ++ [Value.int .u8 92] = bytesOf (l ++ [92]) by rw [bytesOf_append]; rfl, show l.length + 1 = (l ++ [(92 : UInt8)]).length by simp] at hown1
          have hl1 : (l ++ [(92 : UInt8)]).length ≤ 2 * k + 1 := by simp; omega
          generalize l ++ [(92 : UInt8)] = l1 at *
          clear hgrow1 hown hbel
          go_wp2_with (first | (at_builtin; refine wpList_append_own _ rfl _ _ 22 rfl w.heap.size 5 i0 (.int .u8 0) 1 1 Try.underlying22 hi hz0 hz1 hz2 rfl (by decide) _ _ _ rfl (hown1.alloc _) ⟨w1.heap.size, 0, none⟩ 1 1 [.int .u8 (b.toNat : Int)] rfl rfl (cell_one_new _ _ _) ?c2 ?c3 ?c4 ?c5 ?_) | go_in)
          case c2 => intro u hu; simp at hu; subst hu; rfl
          case c3 => unfold maxLen; omega
          case c4 => omega
          case c5 => have := hb1.size; simp; omega
          intro v2 w2 hown2 hgrow2 _
          have hb2 := below_app hb1 (Nat.le_refl _) hown1 hgrow2
          rw [show bytesOf l1 ++ [Value.int .u8 (b.toNat : Int)] = bytesOf (l1 ++ [b]) by rw [bytesOf_append]; rfl, show l1.length + 1 = (l1 ++ [b]).length by simp] at hown2
          clear hgrow2 hown1 hb1
          have hl2 : (l1 ++ [b]).length ≤ 2 * (k + 1) := by simp; omega
          generalize l1 ++ [b] = l2 at *
          go_wp2
          go_roundw
          case rel => exact ⟨k + 1, l2, by omega, by go_num, HV, hl2, hown2, hb2⟩
          case measure => simp [intOf]; omega
        · have q2 : ((b.toNat : Int) == 64) = false := by rw [beq_eq_false_iff_ne]; omega
          by_cases c3 : b.toNat = 92
          · have q3 : ((b.toNat : Int) == 92) = true := by rw [beq_iff_eq]; omega
            have hsg : sgB b = true := by unfold sgB; rw [decide_eq_true c3, Bool.or_true, Bool.or_true]
            clear c1 c2 c3
            have HV : Hid (l ++ [92] ++ [b] = escL (tk s (k + 1))) := by show _ = _; rw [← HS.out, if_pos hsg, List.append_assoc]; rfl
            clear HS hsg
            go_wp2_with (first | (at_builtin; refine wpList_append_own _ rfl _ _ 22 rfl w.heap.size 5 i0 (.int .u8 0) 1 1 Try.underlying22 hi hz0 hz1 hz2 rfl (by decide) _ _ _ rfl (hown.alloc _) ⟨wr.heap.size, 0, none⟩ 1 1 [.int .u8 92] rfl rfl (cell_one_new _ _ _) ?c2 ?c3 ?c4 ?c5 ?_) | go_in)
            case c2 => intro u hu; simp at hu; subst hu; rfl
            case c3 => unfold maxLen; omega
            case c4 => omega
            case c5 => have := hbel.size; simp; omega
            intro v1 w1 hown1 hgrow1 _
            have hb1 := below_app hbel (Nat.le_refl _) hown hgrow1
            rw [show bytesOf l ++ [Value.int .u8 92] = bytesOf (l ++ [92]) by rw [bytesOf_append]; rfl, show l.length + 1 = (l ++ [(92 : UInt8)]).length by simp] at hown1
            have hl1 : (l ++ [(92 : UInt8)]).length ≤ 2 * k + 1 := by simp; omega
            generalize l ++ [(92 : UInt8)] = l1 at *
            clear hgrow1 hown hbel
            go_wp2_with (first | (at_builtin; refine wpList_append_own _ rfl _ _ 22 rfl w.heap.size 5 i0 (.int .u8 0) 1 1 Try.underlying22 hi hz0 hz1 hz2 rfl (by decide) _ _ _ rfl (hown1.alloc _) ⟨w1.heap.size, 0, none⟩ 1 1 [.int .u8 (b.toNat : Int)] rfl rfl (cell_one_new _ _ _) ?c2 ?c3 ?c4 ?c5 ?_) | go_in)
            case c2 => intro u hu; simp at hu; subst hu; rfl
            case c3 => unfold maxLen; omega
            case c4 => omega
            case c5 => have := hb1.size; simp; omega
            intro v2 w2 hown2 hgrow2 _
            have hb2 := below_app hb1 (Nat.le_refl _) hown1 hgrow2
            rw [show bytesOf l1 ++ [Value.int .u8 (b.toNat : Int)] = bytesOf (l1 ++ [b]) by rw [bytesOf_append]; rfl, show l1.length + 1 = (l1 ++ [b]).length by simp] at hown2
            clear hgrow2 hown1 hb1
            have hl2 : (l1 ++ [b]).length ≤ 2 * (k + 1) := by simp; omega
            generalize l1 ++ [b] = l2 at *
            go_wp2
            go_roundw
            case rel => exact ⟨k + 1, l2, by omega, by go_num, HV, hl2, hown2, hb2⟩
            case measure => simp [intOf]; omega
          · have q3 : ((b.toNat : Int) == 92) = false := by rw [beq_eq_false_iff_ne]; omega
            have hsg : ¬ sgB b = true := by unfold sgB; rw [decide_eq_false c1, decide_eq_false c2, decide_eq_false c3]; decide
            clear c1 c2 c3
            have HV : Hid (l ++ [b] = escL (tk s (k + 1))) := by show _ = _; rw [← HS.out, if_neg hsg]
            clear HS hsg
            go_wp2_with (first | (at_builtin; refine wpList_append_own _ rfl _ _ 22 rfl w.heap.size 5 i0 (.int .u8 0) 1 1 Try.underlying22 hi hz0 hz1 hz2 rfl (by decide) _ _ _ rfl (hown.alloc _) ⟨wr.heap.size, 0, none⟩ 1 1 [.int .u8 (b.toNat : Int)] rfl rfl (cell_one_new _ _ _) ?c2 ?c3 ?c4 ?c5 ?_) | go_in)
            case c2 => intro u hu; simp at hu; subst hu; rfl
            case c3 => unfold maxLen; omega
            case c4 => omega
            case c5 => have := hbel.size; simp; omega
            intro v2 w2 hown2 hgrow2 _
            have hb2 := below_app hbel (Nat.le_refl _) hown hgrow2
            rw [show bytesOf l ++ [Value.int .u8 (b.toNat : Int)] = bytesOf (l ++ [b]) by rw [bytesOf_append]; rfl, show l.length + 1 = (l ++ [b]).length by simp] at hown2
            clear hgrow2 hown hbel
            have hl2 : (l ++ [b]).length ≤ 2 * (k + 1) := by simp; omega
            generalize l ++ [b] = l2 at *
            go_wp2
            go_roundw
            case rel => exact ⟨k + 1, l2, by omega, by go_num, HV, hl2, hown2, hb2⟩
            case measure => simp [intOf]; omega
    · obtain rfl : k = s.size := by omega
      have hlti : ¬ (s.size : Int) < (s.size : Int) := by omega
      have HE : Hid (escB s = ⟨l.toArray⟩) := by show _ = _; unfold escB; rw [HL.out, tk_all]
      have hcv := conv_own (P := Try.prog) 22 9 5 Try.underlying22 Try.underlying5 Try.underlying9 hown
      clear hown HL
      go_wp2
      go_ret
      exact ⟨by rw [HE.out]; rfl, hbel⟩
set_option maxHeartbeats 3200000 in
theorem sign_is (b : UInt8) (w : World) : Calls Try.prog 52 #[.int .i32 (b.toNat : Int)] w fun e w' => e = .returned (.bool (sgB b)) ∧ w = w' := by
  have HE : Hid (sgB b = (decide (b.toNat = 47) || (decide (b.toNat = 64) || decide (b.toNat = 92)))) := (rfl : sgB b = _)
  generalize sgB b = z at HE ⊢
  go_enter Try.func52, Try.ntmps52
  by_cases c1 : b.toNat = 47
  · have q1 : ((b.toNat : Int) == 47) = true := by rw [beq_iff_eq]; omega
    have HV : Hid (z = true) := by show _ = _; rw [HE.out, decide_eq_true c1]; rfl
    clear HE c1
    go_wp2
    go_ret
    exact ⟨by rw [HV.out]; rfl, rfl⟩
  · have q1 : ((b.toNat : Int) == 47) = false := by rw [beq_eq_false_iff_ne]; omega
    by_cases c2 : b.toNat = 64
    · have q2 : ((b.toNat : Int) == 64) = true := by rw [beq_iff_eq]; omega
      have HV : Hid (z = true) := by show _ = _; rw [HE.out, decide_eq_true c2, Bool.true_or, Bool.or_true]
      clear HE c1 c2
      go_wp2
      go_ret
      exact ⟨by rw [HV.out]; rfl, rfl⟩
    · have q2 : ((b.toNat : Int) == 64) = false := by rw [beq_eq_false_iff_ne]; omega
      by_cases c3 : b.toNat = 92
      · have q3 : ((b.toNat : Int) == 92) = true := by rw [beq_iff_eq]; omega
        have HV : Hid (z = true) := by show _ = _; rw [HE.out, decide_eq_true c3, Bool.or_true, Bool.or_true]
        clear HE c1 c2 c3
        go_wp2
        go_ret
        exact ⟨by rw [HV.out]; rfl, rfl⟩
      · have q3 : ((b.toNat : Int) == 92) = false := by rw [beq_eq_false_iff_ne]; omega
        have HV : Hid (z = false) := by show _ = _; rw [HE.out, decide_eq_false c1, decide_eq_false c2, decide_eq_false c3]; rfl
        clear HE c1 c2 c3
        go_wp2
        go_ret
        exact ⟨by rw [HV.out]; rfl, rfl⟩
set_option maxHeartbeats 3200000 in
theorem quoted_is (s : ByteArray) (w : World) (hs : s.size ≤ 1048576) (ha : allB s = true) : Calls Try.prog 32 #[.string s] w fun e w' => e = .returned (.string (escB s)) ∧ Below w.heap.size w w' := by
  obtain ⟨i0, hi, hz0, hz1, hz2⟩ := info_parts infoR32
  have HA : Hid (∀ b ∈ escL s.data.toList, b.toNat < 128) := esc_ascii ha
  have HB_ : Hid (∀ j (hj : j < s.size), (s[j]'hj).toNat < 128) := fun j hj => by have := (allB_at ha hj).2; omega
  clear ha
  go_enter Try.func32, Try.ntmps32
  go_wp2
  go_loopw [3] (fun v wr => ∃ (k : Nat) (l : List UInt8), k ≤ s.size ∧ Hid (l = escL (tk s k)) ∧ l.length ≤ 2 * k ∧ wr.heap[w.heap.size]? = some (.stringIter s k) ∧ wr.ownsRow (w.heap.size + 1) 21 1 v l.length (runL l) ∧ Below w.heap.size w wr) (fun _ wr => s.size + 1 - wr.iterPos w.heap.size)
  case atStart => exact ⟨0, [], Nat.zero_le _, (rfl : ([] : List UInt8) = _), Nat.zero_le _, World.iter_heap _ _ _, ⟨rfl, Or.inl ⟨rfl, rfl⟩⟩, iter_bel w s 0⟩
  case round =>
    obtain ⟨k, l, hk, HL, hll, hit, hown, hbel⟩ := hrel
    have hw1 : w.heap.size + 1 ≤ wr.heap.size := by
      have := (Array.getElem?_eq_some_iff.1 hit).1
      omega
    by_cases hlt : k < s.size
    · have hnx := fun ty => next_ascii (P := Try.prog) ty hit hlt (HB_.out k hlt)
      have HT : Hid (tk s (k + 1) = tk s k ++ [s[k]]) := tk_succ hlt
      have gr := setIter_grown wr w.heap.size s (k + 1)
      have hit1 := setIter_at hit s (k + 1)
      have hown1 := own_far hown gr (by omega)
      have hbel1 := hbel.grown gr (by omega) (by intro q hq; injection hq with e; omega)
      have hsz1 := setIter_size wr w.heap.size s (k + 1)
      have HIP : Hid (wr.iterPos w.heap.size = k) := iterPos_of hit
      generalize (s[k]'hlt) = b at *
      generalize setIter wr w.heap.size s (k + 1) = wi at *
      have hw2 : w.heap.size + 1 ≤ wi.heap.size := by omega
      have HS : Hid (l ++ (if sgB b then [92, b] else [b]) = escL (tk s (k + 1))) := by show _ = _; rw [HT.out, escL_app, HL.out]
      have K := fun w' => sign_is b w'
      clear HT HL hown hbel gr hit hw1 hsz1
      go_wp2_with fail
      refine (K _).mono ?_
      clear K hnx
      rintro en w0 ⟨rfl, rfl⟩
      by_cases hsg : sgB b = true
      · rw [hsg]
        have HV : Hid (l ++ [92] ++ [b] = escL (tk s (k + 1))) := by show _ = _; rw [← HS.out, if_pos hsg, List.append_assoc]; rfl
        clear HS hsg
        go_wp2_with (first | (at_builtin; refine wpList_append_own _ rfl _ _ 63 rfl (w.heap.size + 1) 21 i0 (.int .i32 0) 1 4 Try.underlying63 hi hz0 hz1 hz2 rfl (by decide) _ _ _ rfl (hown1.alloc _) ⟨wi.heap.size, 0, none⟩ 1 1 [.int .i32 92] rfl rfl (cell_one_new _ _ _) ?c2 ?c3 ?c4 ?c5 ?_) | go_in)
        case c2 => intro u hu; simp at hu; subst hu; rfl
        case c3 => unfold maxLen; omega
        case c4 => omega
        case c5 => simp; omega
        intro v2 w2 hown2_ hgrow2 _
        have hb2 := app_bel hbel1 (by omega) hown1 hgrow2
        have hi2 := app_iter hit1 hown1 hgrow2
        have hw2_ : w.heap.size + 1 ≤ w2.heap.size := by have := hgrow2.size; simp at this; omega
        rw [show runL l ++ [Value.int .i32 92] = runL (l ++ [92]) by rw [runL_append]; rfl, show l.length + 1 = (l ++ [(92 : UInt8)]).length by simp] at hown2_
        clear hgrow2 hown1 hbel1 hit1
        have hl1 : (l ++ [(92 : UInt8)]).length ≤ 2 * k + 1 := by simp; omega
        generalize l ++ [(92 : UInt8)] = l1 at *
        go_wp2_with (first | (at_builtin; refine wpList_append_own _ rfl _ _ 63 rfl (w.heap.size + 1) 21 i0 (.int .i32 0) 1 4 Try.underlying63 hi hz0 hz1 hz2 rfl (by decide) _ _ _ rfl (hown2_.alloc _) ⟨w2.heap.size, 0, none⟩ 1 1 [.int .i32 (b.toNat : Int)] rfl rfl (cell_one_new _ _ _) ?c2 ?c3 ?c4 ?c5 ?_) | go_in)
        case c2 => intro u hu; simp at hu; subst hu; rfl
        case c3 => unfold maxLen; omega
        case c4 => omega
        case c5 => simp; omega
        intro v3 w3 hown3_ hgrow3 _
        have hb3 := app_bel hb2 (by omega) hown2_ hgrow3
        have hi3 := app_iter hi2 hown2_ hgrow3
        have hw3_ : w.heap.size + 1 ≤ w3.heap.size := by have := hgrow3.size; simp at this; omega
        rw [show runL l1 ++ [Value.int .i32 (b.toNat : Int)] = runL (l1 ++ [b]) by rw [runL_append]; rfl, show l1.length + 1 = (l1 ++ [(b : UInt8)]).length by simp] at hown3_
        clear hgrow3 hown2_ hb2 hi2
        have hl2 : (l1 ++ [b]).length ≤ 2 * (k + 1) := by simp; omega
        generalize l1 ++ [b] = l2 at *
        go_wp2
        go_roundw
        case rel => exact ⟨k + 1, l2, by omega, HV, hl2, hi3, hown3_, hb3⟩
        case measure => rw [HIP.out, iterPos_of hi3]; omega
      · have HV : Hid (l ++ [b] = escL (tk s (k + 1))) := by show _ = _; rw [← HS.out, if_neg hsg]
        rw [Bool.not_eq_true] at hsg
        rw [hsg]
        clear HS hsg
        go_wp2_with (first | (at_builtin; refine wpList_append_own _ rfl _ _ 63 rfl (w.heap.size + 1) 21 i0 (.int .i32 0) 1 4 Try.underlying63 hi hz0 hz1 hz2 rfl (by decide) _ _ _ rfl (hown1.alloc _) ⟨wi.heap.size, 0, none⟩ 1 1 [.int .i32 (b.toNat : Int)] rfl rfl (cell_one_new _ _ _) ?c2 ?c3 ?c4 ?c5 ?_) | go_in)
        case c2 => intro u hu; simp at hu; subst hu; rfl
        case c3 => unfold maxLen; omega
        case c4 => omega
        case c5 => simp; omega
        intro v3 w3 hown3_ hgrow3 _
        have hb3 := app_bel hbel1 (by omega) hown1 hgrow3
        have hi3 := app_iter hit1 hown1 hgrow3
        have hw3_ : w.heap.size + 1 ≤ w3.heap.size := by have := hgrow3.size; simp at this; omega
        rw [show runL l ++ [Value.int .i32 (b.toNat : Int)] = runL (l ++ [b]) by rw [runL_append]; rfl, show l.length + 1 = (l ++ [(b : UInt8)]).length by simp] at hown3_
        clear hgrow3 hown1 hbel1 hit1
        have hl2 : (l ++ [b]).length ≤ 2 * (k + 1) := by simp; omega
        generalize l ++ [b] = l2 at *
        go_wp2
        go_roundw
        case rel => exact ⟨k + 1, l2, by omega, HV, hl2, hi3, hown3_, hb3⟩
        case measure => rw [HIP.out, iterPos_of hi3]; omega
    · obtain rfl : k = s.size := by omega
      have hnx := fun ty => next_end (P := Try.prog) ty hit hlt
      have HE : Hid (escB s = ⟨l.toArray⟩) := by show _ = _; unfold escB; rw [HL.out, tk_all]
      have hcv := conv_runes (P := Try.prog) 63 9 21 Try.underlying63 Try.underlying21 Try.underlying9 hown (by rw [HL.out, tk_all]; exact HA.out)
      clear hown HL
      go_wp2
      go_ret
      exact ⟨by rw [HE.out]; rfl, hbel⟩
end Go.Proofs.Ytbpodcfbijhboaa.Nd
