/- The program: what fits, what is less. -/
import Derived.Test.YtbpodcfbijhboaaNf0
import Derived.WalkLawsBesides
set_option linter.unusedVariables false
set_option maxRecDepth 100000
namespace Go.Proofs.Ytbpodcfbijhboaa.Nd
open Go Go.RowKit Go.Joins Own Draw

set_option maxHeartbeats 3200000 in
theorem piecefits_is (p q : ByteArray) (w : World) : Calls Try.prog 41 #[.string p, .string q] w fun e w' => e = .returned (.bool (fitB p q)) ∧ w = w' := by
  have HE : Hid (fitB p q = (decide (p = star) || decide (p = q))) := (rfl : fitB p q = _)
  generalize fitB p q = z at HE ⊢
  go_enter Try.func41, Try.ntmps41
  by_cases h1 : p = star
  · have HV : Hid (z = true) := by show _ = _; rw [HE.out, decide_eq_true h1]; rfl
    subst h1
    clear HE
    go_wp2
    go_ret
    exact ⟨by rw [HV.out]; rfl, rfl⟩
  · have q1 := list_star h1
    by_cases h2 : p = q
    · have HV : Hid (z = true) := by show _ = _; rw [HE.out, decide_eq_true h2, Bool.or_true]
      have q2 := list_eq h2
      clear HE h1 h2
      go_wp2
      go_ret
      exact ⟨by rw [HV.out]; rfl, rfl⟩
    · have HV : Hid (z = false) := by show _ = _; rw [HE.out, decide_eq_false h1, decide_eq_false h2]; rfl
      have q2 := list_ne h2
      clear HE h1 h2
      go_wp2
      go_ret
      exact ⟨by rw [HV.out]; rfl, rfl⟩
set_option maxHeartbeats 3200000 in
theorem equal_is (a b : Option Addr) (ca cb : Nat) (xs ys : List ByteArray) (w : World) (hx : RowAt Value.string w a xs) (hy : RowAt Value.string w b ys) (hl : xs.length ≤ 1048576) (hl2 : ys.length ≤ 1048576) :
    Calls Try.prog 40 #[.slice a xs.length ca, .slice b ys.length cb, .func (.func 41) #[] #[]] w fun e w' => e = .returned (.bool (fitL xs ys)) ∧ w = w' := by
  have HE : Hid (fitL xs ys = (decide (xs.length = ys.length) && (xs.zip ys).all (fun x => fitB x.1 x.2))) := (rfl : fitL xs ys = _)
  generalize fitL xs ys = z at HE ⊢
  go_enter Try.func40, Try.ntmps40
  by_cases he : xs.length = ys.length
  rotate_left
  · have HV : Hid (z = false) := by show _ = _; rw [HE.out, decide_eq_false he]; rfl
    have hne : ((xs.length : Int) != (ys.length : Int)) = true := by rw [bne_iff_ne]; omega
    clear HE he
    go_wp2
    go_ret
    exact ⟨by rw [HV.out]; rfl, rfl⟩
  have HV : Hid (z = (xs.zip ys).all (fun x => fitB x.1 x.2)) := by show _ = _; rw [HE.out, decide_eq_true he]; rfl
  have hne : ((xs.length : Int) != (ys.length : Int)) = false := by rw [he]; simp
  have HL : Hid (xs.length = ys.length) := he
  clear HE he
  go_wp2
  go_loopw [17] (fun i wr => ∃ k : Nat, k ≤ xs.length ∧ i = .int .i64 k ∧ Hid (∀ j (h1 : j < xs.length) (h2 : j < ys.length), j < k → fitB xs[j] ys[j] = true) ∧ w = wr) (fun i _ => xs.length - (intOf i).toNat)
  case atStart => exact ⟨0, Nat.zero_le _, rfl, fun j _ _ h => absurd h (by omega), rfl⟩
  case round =>
    obtain ⟨k, hk, rfl, HY, rfl⟩ := hrel
    by_cases hlt : k < xs.length
    · have hlt2 : k < ys.length := by rw [← HL.out]; exact hlt
      have q1 : (k : Int) < (xs.length : Int) := by omega
      have q2 : (k : Int) < (ys.length : Int) := by omega
      obtain ⟨b1, o1, rfl, _, c1⟩ := hx k hlt
      obtain ⟨b2, o2, rfl, _, c2⟩ := hy k hlt2
      have HY2 : Hid (fitB xs[k] ys[k] = true → ∀ j (h1 : j < xs.length) (h2 : j < ys.length), j < k + 1 → fitB xs[j] ys[j] = true) := fun he j h1 h2 hj => by
        by_cases e : j = k
        · subst e; exact he
        · exact HY.out j h1 h2 (by omega)
      have HN : Hid (fitB xs[k] ys[k] = false → (xs.zip ys).all (fun x => fitB x.1 x.2) = false) := fun he => zip_not hlt hlt2 he
      generalize xs[k] = p at *
      generalize ys[k] = q at *
      clear HY
      have K := fun w' => piecefits_is p q w'
      generalize fitB p q = f at *
      go_wp2_with fail
      refine (K _).mono ?_
      clear K
      rintro en v1 ⟨rfl, rfl⟩
      cases f with
      | true =>
        have HZ := HY2.out rfl
        have HZ2 : Hid (∀ j (h1 : j < xs.length) (h2 : j < ys.length), j < k + 1 → fitB xs[j] ys[j] = true) := HZ
        clear HZ HY2 HN
        go_wp2
        go_roundw
        case rel => first | exact ⟨k + 1, by omega, by go_num, HZ2, rfl⟩ | exact ⟨k + 1, by omega, by go_num, HZ2, trivial⟩ | exact ⟨k + 1, by omega, by go_num, HZ2⟩
        case measure => simp [intOf]; omega
      | false =>
        have HZ : Hid (z = false) := by show _ = _; rw [HV.out]; exact HN.out rfl
        clear HY2 HN
        go_wp2
        go_ret
        exact ⟨by rw [HZ.out]; rfl, rfl⟩
    · have HZ : Hid (z = true) := by show _ = _; rw [HV.out]; exact zip_of (fun j h1 h2 => HY.out j h1 h2 (by omega))
      have q1 : ¬ (k : Int) < (xs.length : Int) := by omega
      clear HY HV
      go_wp2
      go_ret
      exact ⟨by rw [HZ.out]; rfl, rfl⟩
set_option maxHeartbeats 3200000 in
theorem implFits_is (x y : TT) (w : World) (hx : DpT w x) (hy : DpT w y) (sx : SmT x) (sy : SmT y) : Calls Try.prog 18 #[vT x, vT y] w fun e w' => e = .returned (.bool (fitsN (stT x) (stT y))) ∧ Below w.heap.size w w' := by
  have HE : Hid (fitsN (stT x) (stT y) = (okN (stT x) && (okN (stT y) && (fitL x.1.2.2 y.1.2.2 && (decide (x.2 = ByteArray.empty) || fitB x.2 y.2))))) := (rfl : fitsN (stT x) (stT y) = _)
  have KA := fun (w' : World) (hb : Below w.heap.size w w') => implNameOk_is x w' (hx.later hb) sx.1 sx.2.1 sx.2.2
  have KB := fun (w' : World) (hb : Below w.heap.size w w') => implNameOk_is y w' (hy.later hb) sy.1 sy.2.1 sy.2.2
  generalize fitsN (stT x) (stT y) = z at HE ⊢
  generalize okN (stT x) = ox at HE KA
  generalize okN (stT y) = oy at HE KB
  obtain ⟨⟨a, ca, xs⟩, m⟩ := x
  obtain ⟨⟨b, cb, ys⟩, n⟩ := y
  have rx : RowAt Value.string w a xs := hx
  have ry : RowAt Value.string w b ys := hy
  have KE := fun (w' : World) (hb : Below w.heap.size w w') => equal_is a b ca cb xs ys w' (rx.later hb) (ry.later hb) sx.1 sy.1
  have KP := fun w' => piecefits_is m n w'
  dsimp only at HE KA KB
  generalize fitL xs ys = fl at HE KE
  generalize fitB m n = fp at HE KP
  clear hx hy rx ry
  obtain ⟨V, hV⟩ : ∃ V, (w.alloc (.cells #[.slice a xs.length ca, .string m] 26)).alloc (.cells #[.slice b ys.length cb, .string n] 26) = V := ⟨_, rfl⟩
  have TA : Blk w.heap.size [.slice a xs.length ca, .string m] V := by rw [← hV]; have h_ := (Blk.new w #[.slice a xs.length ca, .string m] 26).alloc (by simp <;> omega) (.cells #[.slice b ys.length cb, .string n] 26); simpa using h_
  have TB : Blk (w.heap.size + 1) [.slice b ys.length cb, .string n] V := by rw [← hV]; have h_ := Blk.new (w.alloc (.cells #[.slice a xs.length ca, .string m] 26)) #[.slice b ys.length cb, .string n] 26; simpa using h_
  have BC : Below w.heap.size w V := by rw [← hV]; exact ((Below.refl _ _).alloc (by simp <;> omega) _).alloc (by simp <;> omega) _
  have sV : w.heap.size + 1 < V.heap.size := by rw [← hV]; simp
  have a0 := TA.at 0 rfl
  have a1 := TA.at 1 rfl
  have b0 := TB.at 0 rfl
  have b1 := TB.at 1 rfl
  go_enter Try.func18, Try.ntmps18
  go_wp2_with fail
  try rw [hV]
  refine (KA V BC).mono ?_
  clear KA a0 a1 b0 b1
  rintro en v1 ⟨rfl, hb⟩
  replace TA := TA.lower hb (by omega)
  replace TB := TB.lower hb (by omega)
  replace BC := BC.trans (hb.mono BC.size)
  have sV1 : w.heap.size + 1 < v1.heap.size := Nat.lt_of_lt_of_le sV hb.size
  clear hb sV hV
  cases ox with
  | false =>
    have HZ : Hid (z = false) := by show _ = _; rw [HE.out]; rfl
    clear HE KB KE KP
    go_wp2
    go_ret
    exact ⟨by rw [HZ.out]; rfl, BC⟩
  | true =>
    have a0 := TA.at 0 rfl
    have a1 := TA.at 1 rfl
    have b0 := TB.at 0 rfl
    have b1 := TB.at 1 rfl
    go_wp2_with fail
    refine (KB v1 BC).mono ?_
    clear KB a0 a1 b0 b1
    rintro en v2 ⟨rfl, hb⟩
    replace TA := TA.lower hb (by omega)
    replace TB := TB.lower hb (by omega)
    replace BC := BC.trans (hb.mono BC.size)
    clear hb sV1
    cases oy with
    | false =>
      have HZ : Hid (z = false) := by show _ = _; rw [HE.out]; rfl
      clear HE KE KP
      go_wp2
      go_ret
      exact ⟨by rw [HZ.out]; rfl, BC⟩
    | true =>
      have a0 := TA.at 0 rfl
      have a1 := TA.at 1 rfl
      have b0 := TB.at 0 rfl
      have b1 := TB.at 1 rfl
      go_wp2_with fail
      refine (KE v2 BC).mono ?_
      clear KE
      rintro en v3 ⟨rfl, rfl⟩
      cases fl with
      | false =>
        have HZ : Hid (z = false) := by show _ = _; rw [HE.out]; rfl
        clear HE KP
        go_wp2
        go_ret
        exact ⟨by rw [HZ.out]; rfl, BC⟩
      | true =>
        by_cases hm : m = ByteArray.empty
        · have HZ : Hid (z = true) := by show _ = _; rw [HE.out, decide_eq_true hm]; rfl
          subst hm
          clear HE KP
          go_wp2
          go_ret
          exact ⟨by rw [HZ.out]; rfl, BC⟩
        · have hm2 : m.toList.isEmpty = false := toL_some (fun h => hm (toL_nil h))
          have HZ : Hid (z = fp) := by show _ = _; rw [HE.out, decide_eq_false hm]; rfl
          clear HE hm
          go_wp2_with fail
          refine (KP _).mono ?_
          rintro en v4 ⟨rfl, rfl⟩
          clear KP
          go_wp2
          go_ret
          exact ⟨by rw [HZ.out]; rfl, BC⟩
set_option maxHeartbeats 3200000 in
theorem nan_is (x : ByteArray) (w : World) : Calls Try.prog 61 #[.string x] w fun e w' => e = .returned (.bool false) ∧ w = w' := by
  go_enter Try.func61, Try.ntmps61
  go_wp2
  go_ret
  exact ⟨by simp, rfl⟩
/-- Which of two texts is ahead, as a number. -/
def cmpB (x y : ByteArray) : Int := if x = y then 0 else if blS x y then -1 else 1
theorem cmp_is (x y : ByteArray) (w : World) : Calls Try.prog 56 #[.string x, .string y] w fun e w' => e = .returned (.int .i64 (cmpB x y)) ∧ w = w' := by
  have HE : Hid (cmpB x y = if x = y then 0 else if blS x y then -1 else 1) := (rfl : cmpB x y = _)
  generalize cmpB x y = z at HE ⊢
  have KN := fun (v : ByteArray) (w' : World) => nan_is v w'
  by_cases h1 : x = y
  · have HV : Hid (z = 0) := by show _ = _; rw [HE.out, if_pos h1]
    have q1 : Op.bytesLess x.toList y.toList = false := by rw [h1]; exact bl_irr y
    have q2 : (x.toList == y.toList) = true := list_eq h1
    clear HE h1
    go_enter Try.func56, Try.ntmps56
    go_wp2_with (refine (KN x _).mono ?_; rintro e w' ⟨rfl, rfl⟩)
    try (refine (KN y _).mono ?_; rintro e w' ⟨rfl, rfl⟩)
    go_wp2
    go_ret
    exact ⟨by rw [HV.out]; rfl, rfl⟩
  · have q2 : (x.toList == y.toList) = false := list_ne h1
    by_cases h2 : blS x y = true
    · have HV : Hid (z = -1) := by show _ = _; rw [HE.out, if_neg h1, if_pos h2]
      have q1 : Op.bytesLess x.toList y.toList = true := h2
      clear HE h1 h2
      go_enter Try.func56, Try.ntmps56
      go_wp2_with (refine (KN x _).mono ?_; rintro e w' ⟨rfl, rfl⟩)
      try (refine (KN y _).mono ?_; rintro e w' ⟨rfl, rfl⟩)
      go_wp2
      go_ret
      exact ⟨by rw [HV.out]; rfl, rfl⟩
    · have HV : Hid (z = 1) := by show _ = _; rw [HE.out, if_neg h1, if_neg h2]
      have q1 : Op.bytesLess x.toList y.toList = false := by rw [Bool.not_eq_true] at h2; exact h2
      clear HE h1 h2
      go_enter Try.func56, Try.ntmps56
      go_wp2_with (refine (KN x _).mono ?_; rintro e w' ⟨rfl, rfl⟩)
      try (refine (KN y _).mono ?_; rintro e w' ⟨rfl, rfl⟩)
      go_wp2
      go_ret
      exact ⟨by rw [HV.out]; rfl, rfl⟩
/-- A number that says the same as a Bool. -/
def NegP (b : Bool) (e : Ending) : Prop := ∃ r : Int, e = .returned (.int .i64 r) ∧ decide (r < 0) = b
set_option maxHeartbeats 3200000 in
theorem compare_is (a b : Option Addr) (ca cb : Nat) (xs ys : List ByteArray) (w : World) (hx : RowAt Value.string w a xs) (hy : RowAt Value.string w b ys) (hl : xs.length ≤ 1048576) (hl2 : ys.length ≤ 1048576) :
    Calls Try.prog 42 #[.slice a xs.length ca, .slice b ys.length cb] w fun e w' => NegP (lsL xs ys) e ∧ w = w' := by
  have HE : Hid (∀ j, j ≤ xs.length → j ≤ ys.length → (xs.length ≤ j ∨ ys.length ≤ j) → lsL (xs.drop j) (ys.drop j) = decide (xs.length < ys.length)) := fun j h1 h2 h => lsL_done h h1 h2
  have H0 : Hid (lsL xs ys = lsL (xs.drop 0) (ys.drop 0)) := (rfl : lsL xs ys = _)
  generalize lsL xs ys = z at H0 ⊢
  go_enter Try.func42, Try.ntmps42
  go_wp2
  go_loopw [11] (fun i wr => ∃ k : Nat, k ≤ xs.length ∧ k ≤ ys.length ∧ i = .int .i64 k ∧ Hid (z = lsL (xs.drop k) (ys.drop k)) ∧ w = wr) (fun i _ => xs.length - (intOf i).toNat)
  case atStart => exact ⟨0, Nat.zero_le _, Nat.zero_le _, rfl, H0, rfl⟩
  case round =>
    obtain ⟨k, hk, hk2, rfl, HZ, rfl⟩ := hrel
    clear H0
    by_cases hlt : k < xs.length
    · have q1 : (k : Int) < (xs.length : Int) := by omega
      obtain ⟨b1, o1, rfl, _, c1⟩ := hx k hlt
      by_cases hlt2 : k < ys.length
      rotate_left
      · have HD := HE.out k hk hk2 (Or.inr (by omega))
        rw [decide_eq_false (by omega)] at HD
        have HV : Hid (z = false) := by show _ = _; rw [HZ.out]; exact HD
        have q2 : (k : Int) ≥ (ys.length : Int) := by omega
        clear HE HZ HD
        go_wp2
        go_ret
        refine ⟨?_, rfl⟩
        rw [HV.out]
        exact ⟨1, rfl, by decide⟩
      have q2 : ¬ (k : Int) ≥ (ys.length : Int) := by omega
      obtain ⟨b2, o2, rfl, _, c2⟩ := hy k hlt2
      have HEQ : Hid (xs[k] = ys[k] → z = lsL (xs.drop (k + 1)) (ys.drop (k + 1))) := fun h => by rw [HZ.out]; exact lsL_eq hlt hlt2 h
      have HNE : Hid (¬ xs[k] = ys[k] → z = blS xs[k] ys[k]) := fun h => by rw [HZ.out]; exact lsL_ne hlt hlt2 h
      generalize xs[k] = p at *
      generalize ys[k] = q at *
      clear HE HZ
      have K := fun w' => cmp_is p q w'
      by_cases h1 : p = q
      · have HZ2 : Hid (z = lsL (xs.drop (k + 1)) (ys.drop (k + 1))) := HEQ.out h1
        rw [show cmpB p q = 0 from if_pos h1] at K
        clear HEQ HNE h1
        go_wp2_with fail
        refine (K _).mono ?_
        clear K
        rintro en v1 ⟨rfl, rfl⟩
        go_wp2
        go_roundw
        case rel => first | exact ⟨k + 1, by omega, by omega, by go_num, HZ2, rfl⟩ | exact ⟨k + 1, by omega, by omega, by go_num, HZ2, trivial⟩ | exact ⟨k + 1, by omega, by omega, by go_num, HZ2⟩
        case measure => simp [intOf]; omega
      · by_cases h2 : blS p q = true
        · have HZ2 : Hid (z = true) := by show _ = _; rw [HNE.out h1]; exact h2
          rw [show cmpB p q = -1 from by unfold cmpB; rw [if_neg h1, if_pos h2]] at K
          clear HEQ HNE h1 h2
          go_wp2_with fail
          refine (K _).mono ?_
          clear K
          rintro en v1 ⟨rfl, rfl⟩
          go_wp2
          go_ret
          refine ⟨?_, rfl⟩
          rw [HZ2.out]
          exact ⟨-1, rfl, by decide⟩
        · have HZ2 : Hid (z = false) := by show _ = _; rw [HNE.out h1]; rw [Bool.not_eq_true] at h2; exact h2
          rw [show cmpB p q = 1 from by unfold cmpB; rw [if_neg h1, if_neg h2]] at K
          clear HEQ HNE h1 h2
          go_wp2_with fail
          refine (K _).mono ?_
          clear K
          rintro en v1 ⟨rfl, rfl⟩
          go_wp2
          go_ret
          refine ⟨?_, rfl⟩
          rw [HZ2.out]
          exact ⟨1, rfl, by decide⟩
    · have HD := HE.out k hk hk2 (Or.inl (by omega))
      have q1 : ¬ (k : Int) < (xs.length : Int) := by omega
      clear HE
      by_cases h2 : xs.length < ys.length
      · rw [decide_eq_true h2] at HD
        have HV : Hid (z = true) := by show _ = _; rw [HZ.out]; exact HD
        have q2 : (xs.length : Int) < (ys.length : Int) := by omega
        clear HZ HD
        go_wp2
        go_ret
        refine ⟨?_, rfl⟩
        rw [HV.out]
        exact ⟨-1, rfl, by decide⟩
      · rw [decide_eq_false h2] at HD
        have HV : Hid (z = false) := by show _ = _; rw [HZ.out]; exact HD
        have q2 : ¬ (xs.length : Int) < (ys.length : Int) := by omega
        clear HZ HD
        go_wp2
        go_ret
        refine ⟨?_, rfl⟩
        rw [HV.out]
        exact ⟨0, rfl, by decide⟩
set_option maxHeartbeats 3200000 in
theorem implLess_is (x y : TT) (w : World) (hx : DpT w x) (hy : DpT w y) (sx : SmT x) (sy : SmT y) : Calls Try.prog 21 #[vT x, vT y] w fun e w' => e = .returned (.bool (lessN (stT x) (stT y))) ∧ Below w.heap.size w w' := by
  have HE : Hid (lessN (stT x) (stT y) = if x.2 = y.2 then lsL x.1.2.2 y.1.2.2 else blS x.2 y.2) := (rfl : lessN (stT x) (stT y) = _)
  generalize lessN (stT x) (stT y) = z at HE ⊢
  obtain ⟨⟨a, ca, xs⟩, m⟩ := x
  obtain ⟨⟨b, cb, ys⟩, n⟩ := y
  have rx : RowAt Value.string w a xs := hx
  have ry : RowAt Value.string w b ys := hy
  have KE := fun (w' : World) (hb : Below w.heap.size w w') => compare_is a b ca cb xs ys w' (rx.later hb) (ry.later hb) sx.1 sy.1
  dsimp only at HE
  generalize lsL xs ys = fl at HE KE
  clear hx hy rx ry
  obtain ⟨V, hV⟩ : ∃ V, (w.alloc (.cells #[.slice a xs.length ca, .string m] 26)).alloc (.cells #[.slice b ys.length cb, .string n] 26) = V := ⟨_, rfl⟩
  have TA : Blk w.heap.size [.slice a xs.length ca, .string m] V := by rw [← hV]; have h_ := (Blk.new w #[.slice a xs.length ca, .string m] 26).alloc (by simp <;> omega) (.cells #[.slice b ys.length cb, .string n] 26); simpa using h_
  have TB : Blk (w.heap.size + 1) [.slice b ys.length cb, .string n] V := by rw [← hV]; have h_ := Blk.new (w.alloc (.cells #[.slice a xs.length ca, .string m] 26)) #[.slice b ys.length cb, .string n] 26; simpa using h_
  have BC : Below w.heap.size w V := by rw [← hV]; exact ((Below.refl _ _).alloc (by simp <;> omega) _).alloc (by simp <;> omega) _
  have a0 := TA.at 0 rfl
  have a1 := TA.at 1 rfl
  have b0 := TB.at 0 rfl
  have b1 := TB.at 1 rfl
  go_enter Try.func21, Try.ntmps21
  by_cases h1 : m = n
  · have HV : Hid (z = fl) := by show _ = _; rw [HE.out, if_pos h1]
    have q1 := list_eq h1
    clear HE h1
    go_wp2_with fail
    try rw [hV]
    refine (KE V BC).mono ?_
    clear KE
    rintro en v1 ⟨⟨r, rfl, hr⟩, rfl⟩
    have HW : Hid (z = decide (r < 0)) := by show _ = _; rw [HV.out, ← hr]
    clear HV hr
    go_wp2
    go_ret
    exact ⟨by rw [HW.out]; rfl, BC⟩
  · have q1 := list_ne h1
    have HV : Hid (z = blS m n) := by show _ = _; rw [HE.out, if_neg h1]
    clear HE h1 KE
    obtain ⟨bl, hbl⟩ : ∃ bl, Op.bytesLess m.toList n.toList = bl := ⟨_, rfl⟩
    have HW : Hid (z = bl) := by show _ = _; rw [HV.out, ← hbl]
    clear HV
    go_wp2
    go_ret
    exact ⟨by rw [HW.out]; rfl, by first | exact BC | (rw [hV]; exact BC)⟩
end Go.Proofs.Ytbpodcfbijhboaa.Nd
