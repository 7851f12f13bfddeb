/- The model: what fits, what is less. -/
import Derived.Test.YtbpodcfbijhboaaNf0
set_option linter.unusedVariables false
set_option maxRecDepth 100000
namespace Go.Proofs.Ytbpodcfbijhboaa.Nd
open Go Go.RowKit Go.Joins Own Draw

set_option maxHeartbeats 3200000 in
theorem specFits_is (x y : TT) (w : World) (hx : DpT w x) (hy : DpT w y) (sx : SmT x) (sy : SmT y) : Calls Try.prog 19 #[vT x, vT y] w fun e w' => e = .returned (.bool (fitsN (stT x) (stT y))) ∧ Below w.heap.size w w' := by
  have HE : Hid (fitsN (stT x) (stT y) = (okN (stT x) && (okN (stT y) && (fitL x.1.2.2 y.1.2.2 && (decide (x.2 = ByteArray.empty) || fitB x.2 y.2))))) := (rfl : fitsN (stT x) (stT y) = _)
  have KA := fun (w' : World) (hb : Below w.heap.size w w') => specNameOk_is x w' (hx.later hb) sx.1 sx.2.1 sx.2.2
  have KB := fun (w' : World) (hb : Below w.heap.size w w') => specNameOk_is y w' (hy.later hb) sy.1 sy.2.1 sy.2.2
  generalize fitsN (stT x) (stT y) = z at HE ⊢
  generalize okN (stT x) = ox at HE KA
  generalize okN (stT y) = oy at HE KB
  obtain ⟨⟨a, ca, xs⟩, m⟩ := x
  obtain ⟨⟨b, cb, ys⟩, n⟩ := y
  have rx : RowAt Value.string w a xs := hx
  have ry : RowAt Value.string w b ys := hy
  dsimp only at HE KA KB
  have lx := sx.1
  have ly := sy.1
  clear hx hy sx sy
  dsimp only at lx ly
  obtain ⟨V, hV⟩ : ∃ V, (w.alloc (.cells #[.slice a xs.length ca, .string m] 26)).alloc (.cells #[.slice b ys.length cb, .string n] 26) = V := ⟨_, rfl⟩
  have TA : Blk w.heap.size [.slice a xs.length ca, .string m] V := by rw [← hV]; have h_ := (Blk.new w #[.slice a xs.length ca, .string m] 26).alloc (by simp <;> omega) (.cells #[.slice b ys.length cb, .string n] 26); simpa using h_
  have TB : Blk (w.heap.size + 1) [.slice b ys.length cb, .string n] V := by rw [← hV]; have h_ := Blk.new (w.alloc (.cells #[.slice a xs.length ca, .string m] 26)) #[.slice b ys.length cb, .string n] 26; simpa using h_
  have BC : Below w.heap.size w V := by rw [← hV]; exact ((Below.refl _ _).alloc (by simp <;> omega) _).alloc (by simp <;> omega) _
  have sV : w.heap.size + 1 < V.heap.size := by rw [← hV]; simp
  have a0 := TA.at 0 rfl
  have a1 := TA.at 1 rfl
  have b0 := TB.at 0 rfl
  have b1 := TB.at 1 rfl
  go_enter Try.func19, Try.ntmps19
  go_wp2_with fail
  try rw [hV]
  refine (KA V BC).mono ?_
  clear KA a0 a1 b0 b1
  rintro en v1 ⟨rfl, hb⟩
  replace TA := TA.lower hb (by omega)
  replace TB := TB.lower hb (by omega)
  replace BC := BC.trans (hb.mono BC.size)
  have sV1 : w.heap.size + 1 < v1.heap.size := Nat.lt_of_lt_of_le sV hb.size
  clear hb sV hV
  cases ox with
  | false =>
    have HZ : Hid (z = false) := by show _ = _; rw [HE.out]; rfl
    clear HE KB
    go_wp2
    go_ret
    exact ⟨by rw [HZ.out]; rfl, BC⟩
  | true =>
    have a0 := TA.at 0 rfl
    have a1 := TA.at 1 rfl
    have b0 := TB.at 0 rfl
    have b1 := TB.at 1 rfl
    go_wp2_with fail
    refine (KB v1 BC).mono ?_
    clear KB a0 a1 b0 b1
    rintro en v2 ⟨rfl, hb⟩
    replace TA := TA.lower hb (by omega)
    replace TB := TB.lower hb (by omega)
    replace BC := BC.trans (hb.mono BC.size)
    clear hb sV1
    cases oy with
    | false =>
      have HZ : Hid (z = false) := by show _ = _; rw [HE.out]; rfl
      clear HE
      go_wp2
      go_ret
      exact ⟨by rw [HZ.out]; rfl, BC⟩
    | true =>
      have a0 := TA.at 0 rfl
      have a1 := TA.at 1 rfl
      have b0 := TB.at 0 rfl
      have b1 := TB.at 1 rfl
      by_cases he : xs.length = ys.length
      rotate_left
      · have HZ : Hid (z = false) := by show _ = _; rw [HE.out]; unfold fitL; rw [decide_eq_false he]; rfl
        have hne : ((xs.length : Int) != (ys.length : Int)) = true := by rw [bne_iff_ne]; omega
        clear HE he
        go_wp2
        go_ret
        exact ⟨by rw [HZ.out]; rfl, BC⟩
      have HV : Hid (z = ((xs.zip ys).all (fun x => fitB x.1 x.2) && (decide (m = ByteArray.empty) || fitB m n))) := by show _ = _; rw [HE.out]; unfold fitL; rw [decide_eq_true he]; rfl
      have hne : ((xs.length : Int) != (ys.length : Int)) = false := by rw [he]; simp
      have HL : Hid (xs.length = ys.length) := he
      clear HE he
      go_wp2
      clear hne a0 a1 b0 b1
      go_loopw [5] (fun i wr => ∃ k : Nat, k ≤ ys.length ∧ i = .int .i64 k ∧ Hid (∀ j (h1 : j < xs.length) (h2 : j < ys.length), j < k → fitB xs[j] ys[j] = true) ∧ Below v2.heap.size v2 wr) (fun i _ => ys.length - (intOf i).toNat)
      case atStart => exact ⟨0, Nat.zero_le _, rfl, fun j _ _ h => absurd h (by omega), Below.refl _ _⟩
      case round =>
        obtain ⟨k, hk, rfl, HY, hb⟩ := hrel
        have UA := TA.lower hb (by have := TA.lt; omega)
        have UB := TB.lower hb (by have := TB.lt; omega)
        have BW := BC.trans (hb.mono BC.size)
        have a0 := UA.at 0 rfl
        have a1 := UA.at 1 rfl
        have b0 := UB.at 0 rfl
        have b1 := UB.at 1 rfl
        by_cases hlt2 : k < ys.length
        · have hlt : k < xs.length := by rw [HL.out]; exact hlt2
          have q1 : (k : Int) < (ys.length : Int) := by omega
          have q2 : (k : Int) < (xs.length : Int) := by omega
          obtain ⟨b1_, o1, rfl, l1, c1⟩ := rx k hlt
          obtain ⟨b2_, o2, rfl, l2, c2⟩ := ry k hlt2
          rw [← BW.cell (p := ⟨b1_, o1 + k, none⟩) l1] at c1
          rw [← BW.cell (p := ⟨b2_, o2 + k, none⟩) l2] at c2
          have HY2 : Hid (fitB xs[k] ys[k] = true → ∀ j (h1 : j < xs.length) (h2 : j < ys.length), j < k + 1 → fitB xs[j] ys[j] = true) := fun he j h1 h2 hj => by
            by_cases e : j = k
            · subst e; exact he
            · exact HY.out j h1 h2 (by omega)
          have HN : Hid (fitB xs[k] ys[k] = false → (xs.zip ys).all (fun x => fitB x.1 x.2) = false) := fun he => zip_not hlt hlt2 he
          generalize xs[k] = p at *
          generalize ys[k] = q at *
          clear HY rx ry
          by_cases h1 : p = star
          · have HZ2 : Hid (∀ j (h1 : j < xs.length) (h2 : j < ys.length), j < k + 1 → fitB xs[j] ys[j] = true) := HY2.out (by unfold fitB; rw [decide_eq_true h1]; rfl)
            clear HY2 HN
            subst h1
            go_wp2
            go_quiet (fail)
            go_wp2
            go_roundw
            case rel => exact ⟨k + 1, by omega, by go_num, HZ2, bel_dn hb _⟩
            case measure => simp [intOf]; omega
          · have q3 := list_star h1
            by_cases h2 : p = q
            · have HZ2 : Hid (∀ j (h1 : j < xs.length) (h2 : j < ys.length), j < k + 1 → fitB xs[j] ys[j] = true) := HY2.out (by unfold fitB; rw [decide_eq_true h2, Bool.or_true])
              have q4 := list_eq h2
              clear HY2 HN h1 h2
              go_wp2
              go_quiet (fail)
              go_wp2
              go_roundw
              case rel => exact ⟨k + 1, by omega, by go_num, HZ2, bel_dn hb _⟩
              case measure => simp [intOf]; omega
            · have HZ : Hid (z = false) := by show _ = _; rw [HV.out, HN.out (by unfold fitB; rw [decide_eq_false h1, decide_eq_false h2]; rfl)]; rfl
              have q4 := list_ne h2
              clear HY2 HN h1 h2 HV
              have BW2 := fun nq => bel_dn BW nq
              go_wp2
              go_quiet (fail)
              go_wp2
              go_ret
              exact ⟨by rw [HZ.out]; rfl, BW2 _⟩
        · have HW : Hid (z = (decide (m = ByteArray.empty) || fitB m n)) := by show _ = _; rw [HV.out, zip_of (fun j h1 h2 => HY.out j h1 h2 (by omega))]; rfl
          have q1 : ¬ (k : Int) < (ys.length : Int) := by omega
          clear HY HV rx ry
          by_cases hm : m = ByteArray.empty
          · have HZ : Hid (z = true) := by show _ = _; rw [HW.out, decide_eq_true hm]; rfl
            subst hm
            clear HW
            go_wp2
            go_ret
            exact ⟨by rw [HZ.out]; rfl, BW⟩
          · have hm2 : m.toList.isEmpty = false := toL_some (fun h => hm (toL_nil h))
            have HZ : Hid (z = (decide (m = star) || decide (m = n))) := by show _ = _; rw [HW.out, decide_eq_false hm]; rfl
            clear HW hm
            by_cases h1 : m = star
            · have HZ2 : Hid (z = true) := by show _ = _; rw [HZ.out, decide_eq_true h1]; rfl
              clear HZ
              subst h1
              go_wp2
              go_ret
              exact ⟨by rw [HZ2.out]; rfl, BW⟩
            · have q3 := list_star h1
              by_cases h2 : m = n
              · have HZ2 : Hid (z = true) := by show _ = _; rw [HZ.out, decide_eq_true h2, Bool.or_true]
                have q4 := list_eq h2
                clear HZ h1 h2
                go_wp2
                go_ret
                exact ⟨by rw [HZ2.out]; rfl, BW⟩
              · have HZ2 : Hid (z = false) := by show _ = _; rw [HZ.out, decide_eq_false h1, decide_eq_false h2]; rfl
                have q4 := list_ne h2
                clear HZ h1 h2
                go_wp2
                go_ret
                exact ⟨by rw [HZ2.out]; rfl, BW⟩
set_option maxHeartbeats 3200000 in
theorem specLess_is (x y : TT) (w : World) (hx : DpT w x) (hy : DpT w y) (sx : SmT x) (sy : SmT y) : Calls Try.prog 22 #[vT x, vT y] w fun e w' => e = .returned (.bool (lessN (stT x) (stT y))) ∧ Below w.heap.size w w' := by
  have HE : Hid (lessN (stT x) (stT y) = if x.2 = y.2 then lsL x.1.2.2 y.1.2.2 else blS x.2 y.2) := (rfl : lessN (stT x) (stT y) = _)
  generalize lessN (stT x) (stT y) = z at HE ⊢
  obtain ⟨⟨a, ca, xs⟩, m⟩ := x
  obtain ⟨⟨b, cb, ys⟩, n⟩ := y
  have rx : RowAt Value.string w a xs := hx
  have ry : RowAt Value.string w b ys := hy
  dsimp only at HE
  have lx := sx.1
  have ly := sy.1
  clear hx hy sx sy
  dsimp only at lx ly
  obtain ⟨V, hV⟩ : ∃ V, (w.alloc (.cells #[.slice a xs.length ca, .string m] 26)).alloc (.cells #[.slice b ys.length cb, .string n] 26) = V := ⟨_, rfl⟩
  have TA : Blk w.heap.size [.slice a xs.length ca, .string m] V := by rw [← hV]; have h_ := (Blk.new w #[.slice a xs.length ca, .string m] 26).alloc (by simp <;> omega) (.cells #[.slice b ys.length cb, .string n] 26); simpa using h_
  have TB : Blk (w.heap.size + 1) [.slice b ys.length cb, .string n] V := by rw [← hV]; have h_ := Blk.new (w.alloc (.cells #[.slice a xs.length ca, .string m] 26)) #[.slice b ys.length cb, .string n] 26; simpa using h_
  have BC : Below w.heap.size w V := by rw [← hV]; exact ((Below.refl _ _).alloc (by simp <;> omega) _).alloc (by simp <;> omega) _
  have a0 := TA.at 0 rfl
  have a1 := TA.at 1 rfl
  have b0 := TB.at 0 rfl
  have b1 := TB.at 1 rfl
  go_enter Try.func22, Try.ntmps22
  by_cases h1 : m = n
  rotate_left
  · have q1 := list_ne h1
    have HV : Hid (z = blS m n) := by show _ = _; rw [HE.out, if_neg h1]
    clear HE h1
    obtain ⟨bl, hbl⟩ : ∃ bl, Op.bytesLess m.toList n.toList = bl := ⟨_, rfl⟩
    have HW : Hid (z = bl) := by show _ = _; rw [HV.out, ← hbl]
    clear HV
    go_wp2
    go_ret
    exact ⟨by rw [HW.out]; rfl, by first | exact BC | (rw [hV]; exact BC)⟩
  have HD : Hid (∀ j, j ≤ xs.length → j ≤ ys.length → (xs.length ≤ j ∨ ys.length ≤ j) → lsL (xs.drop j) (ys.drop j) = decide (xs.length < ys.length)) := fun j h1 h2 h => lsL_done h h1 h2
  have H0 : Hid (z = lsL (xs.drop 0) (ys.drop 0)) := by show _ = _; rw [HE.out, if_pos h1]; rfl
  have q1 := list_eq h1
  clear HE h1
  go_wp2
  try rw [hV]
  clear q1 a0 a1 b0 b1 hV
  go_loopw [5] (fun i wr => ∃ k : Nat, k ≤ xs.length ∧ k ≤ ys.length ∧ i = .int .i64 k ∧ Hid (z = lsL (xs.drop k) (ys.drop k)) ∧ Below V.heap.size V wr) (fun i _ => xs.length - (intOf i).toNat)
  case atStart => exact ⟨0, Nat.zero_le _, Nat.zero_le _, rfl, H0, Below.refl _ _⟩
  case round =>
    obtain ⟨k, hk, hk2, rfl, HZ, hb⟩ := hrel
    clear H0
    have UA := TA.lower hb (by have := TA.lt; omega)
    have UB := TB.lower hb (by have := TB.lt; omega)
    have BW := BC.trans (hb.mono BC.size)
    have BW2 := fun nq => bel_dn BW nq
    have a0 := UA.at 0 rfl
    have a1 := UA.at 1 rfl
    have b0 := UB.at 0 rfl
    have b1 := UB.at 1 rfl
    have hend : ∀ (bb : Bool), decide (xs.length < ys.length) = bb → decide ((xs.length : Int) < (ys.length : Int)) = bb := fun bb h => by rw [← h]; exact decide_eq_decide.2 (by omega)
    have HEND : Hid (∀ (bb : Bool), decide (xs.length < ys.length) = bb → decide ((xs.length : Int) < (ys.length : Int)) = bb) := hend
    clear hend
    by_cases hlt : k < xs.length
    · have p1 : (k : Int) < (xs.length : Int) := by omega
      by_cases hlt2 : k < ys.length
      · have p2 : (k : Int) < (ys.length : Int) := by omega
        obtain ⟨b1_, o1, rfl, l1, c1⟩ := rx k hlt
        obtain ⟨b2_, o2, rfl, l2, c2⟩ := ry k hlt2
        rw [← BW.cell (p := ⟨b1_, o1 + k, none⟩) l1] at c1
        rw [← BW.cell (p := ⟨b2_, o2 + k, none⟩) l2] at c2
        have HEQ : Hid (xs[k] = ys[k] → z = lsL (xs.drop (k + 1)) (ys.drop (k + 1))) := fun h => by rw [HZ.out]; exact lsL_eq hlt hlt2 h
        have HNE : Hid (¬ xs[k] = ys[k] → z = blS xs[k] ys[k]) := fun h => by rw [HZ.out]; exact lsL_ne hlt hlt2 h
        generalize xs[k] = p at *
        generalize ys[k] = q at *
        clear HD HZ rx ry
        by_cases h2 : p = q
        · have HZ2 : Hid (z = lsL (xs.drop (k + 1)) (ys.drop (k + 1))) := HEQ.out h2
          have q4 := list_eq h2
          clear HEQ HNE h2
          go_wp2
          go_quiet (fail)
          go_wp2
          go_roundw
          case rel => exact ⟨k + 1, by omega, by omega, by go_num, HZ2, bel_dn hb _⟩
          case measure => simp [intOf]; omega
        · have HV : Hid (z = blS p q) := HNE.out h2
          have q4 := list_ne h2
          obtain ⟨bl, hbl⟩ : ∃ bl, Op.bytesLess p.toList q.toList = bl := ⟨_, rfl⟩
          have HW : Hid (z = bl) := by show _ = _; rw [HV.out, ← hbl]
          clear HEQ HNE h2 HV
          go_wp2
          go_quiet (fail)
          go_wp2
          go_quiet (fail)
          go_wp2
          go_ret
          exact ⟨by rw [HW.out]; rfl, by first | exact BW2 _ | exact bel_dn (BW2 _) _⟩
      · have p2 : ¬ (k : Int) < (ys.length : Int) := by omega
        have HW : Hid (z = decide (xs.length < ys.length)) := by show _ = _; rw [HZ.out, HD.out k hk hk2 (Or.inr (by omega))]
        clear HZ HD HEND rx ry
        go_wp2
        go_ret
        exact ⟨by rw [HW.out]; rfl, BW⟩
    · have p1 : ¬ (k : Int) < (xs.length : Int) := by omega
      have HW : Hid (z = decide (xs.length < ys.length)) := by show _ = _; rw [HZ.out, HD.out k hk hk2 (Or.inl (by omega))]
      clear HZ HD HEND rx ry
      go_wp2
      go_ret
      exact ⟨by rw [HW.out]; rfl, BW⟩
end Go.Proofs.Ytbpodcfbijhboaa.Nd
