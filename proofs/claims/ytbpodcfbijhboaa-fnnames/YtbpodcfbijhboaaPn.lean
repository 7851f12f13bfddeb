/- What the law on names asks, as plain data. -/
import Derived.Test.YtbpodcfbijhboaaNh0
import Derived.Test.YtbpodcfbijhboaaMn
set_option linter.unusedVariables false
set_option maxRecDepth 100000
namespace Go.Proofs.Ytbpodcfbijhboaa.Nd
open Go Go.RowKit Go.Joins Own Draw

theorem gd_made (p : PT) : gdN (showN p) = okN p ∧ (okN p = true → rdN (showN p) = p) := by
  by_cases h : okN p = true
  · have e := (read_show h).2
    have hg : gdN (showN p) = true := by unfold gdN; rw [e, h]; simp
    exact ⟨by rw [hg, h], fun _ => by unfold rdN; rw [if_pos hg, e]⟩
  · rw [Bool.not_eq_true] at h
    have e : showN p = ByteArray.empty := by unfold showN; rw [h]; rfl
    refine ⟨?_, fun c => by rw [h] at c; cases c⟩
    rw [e, h, gd_spec, decide_eq_true rfl]
    rfl
theorem gd_shown {s : ByteArray} (h : gdN s = true) : showN (rdN s) = s := by
  unfold rdN
  rw [if_pos h]
  unfold gdN at h
  simp only [Bool.and_eq_true, decide_eq_true_eq] at h
  exact h.2
theorem fit_self (x : ByteArray) : fitB x x = true := by unfold fitB; rw [decide_eq_true (rfl : x = x), Bool.or_true]
theorem fits_self {p : PT} (h : okN p = true) : fitsN p p = true := by
  unfold fitsN
  rw [h, fit_self]
  unfold fitL
  rw [decide_eq_true rfl, zip_of (fun j h1 h2 => fit_self _)]
  simp
theorem ls_asym : ∀ {xs ys : List ByteArray}, lsL xs ys = true → lsL ys xs = false
  | [], [], h => by cases h
  | [], _ :: _, _ => rfl
  | _ :: _, [], h => by cases h
  | x :: xs, y :: ys, h => by
    unfold lsL at h ⊢
    by_cases e : x = y
    · rw [if_pos e] at h
      rw [if_pos e.symm]
      exact ls_asym h
    · rw [if_neg e] at h
      rw [if_neg (fun c => e c.symm)]
      exact bl_asym h
theorem ls_tri : ∀ {xs ys : List ByteArray}, lsL xs ys = false → lsL ys xs = false → xs = ys
  | [], [], _, _ => rfl
  | [], _ :: _, h, _ => by cases h
  | _ :: _, [], _, h => by cases h
  | x :: xs, y :: ys, h, k => by
    unfold lsL at h k
    by_cases e : x = y
    · rw [if_pos e] at h
      rw [if_pos e.symm] at k
      rw [e, ls_tri h k]
    · rw [if_neg e] at h
      rw [if_neg (fun c => e c.symm)] at k
      exact absurd (bl_tri h k) e
theorem ls_irr : ∀ xs : List ByteArray, lsL xs xs = false
  | [] => rfl
  | x :: xs => by unfold lsL; rw [if_pos rfl]; exact ls_irr xs
theorem less_asym {p q : PT} (h : lessN p q = true) : lessN q p = false := by
  unfold lessN at h ⊢
  by_cases e : p.2 = q.2
  · rw [if_pos e] at h; rw [if_pos e.symm]; exact ls_asym h
  · rw [if_neg e] at h; rw [if_neg (fun c => e c.symm)]; exact bl_asym h
/-- Which names are the same. -/
def smN (p q : PT) : Bool := decide (p.2 = q.2) && decide (p.1 = q.1)
theorem less_not {p q : PT} (h : lessN p q = true) : smN p q = false := by
  unfold smN
  by_cases e : p.2 = q.2
  · by_cases e2 : p.1 = q.1
    · exfalso
      unfold lessN at h
      rw [if_pos e, e2, ls_irr] at h
      cases h
    · rw [decide_eq_false e2, Bool.and_false]
  · rw [decide_eq_false e]; rfl
theorem less_total {p q : PT} (h : lessN p q = false) : lessN q p = !(smN p q) := by
  unfold smN
  unfold lessN at h ⊢
  by_cases e : p.2 = q.2
  · rw [if_pos e] at h
    rw [if_pos e.symm, decide_eq_true e]
    by_cases e2 : p.1 = q.1
    · rw [decide_eq_true e2, ← e2, ls_irr]; rfl
    · rw [decide_eq_false e2]
      cases k : lsL q.1 p.1 with
      | true => rfl
      | false => exact absurd (ls_tri h k) e2
  · rw [if_neg e] at h
    rw [if_neg (fun c => e c.symm), decide_eq_false e]
    cases k : blS q.2 p.2 with
    | true => rfl
    | false => exact absurd (bl_tri h k) e
set_option maxHeartbeats 3200000 in
theorem sameT_is (a b : Option Addr) (ca cb : Nat) (xs ys : List ByteArray) (w : World) (hx : RowAt Value.string w a xs) (hy : RowAt Value.string w b ys) (hl : xs.length ≤ 1048576) (hl2 : ys.length ≤ 1048576) :
    Calls Try.prog 14 #[.slice a xs.length ca, .slice b ys.length cb] w fun e w' => e = .returned (.bool (decide (xs = ys))) ∧ Below w.heap.size w w' := by
  have HE : Hid (decide (xs = ys) = decide (xs = ys)) := (rfl : decide (xs = ys) = _)
  obtain ⟨z, hz⟩ : ∃ z, decide (xs = ys) = z := ⟨_, rfl⟩
  have HZ : Hid (decide (xs = ys) = z) := hz
  rw [hz]
  clear hz HE
  go_enter Try.func14, Try.ntmps14
  by_cases he : xs.length = ys.length
  rotate_left
  · have HV : Hid (z = false) := by show _ = _; rw [← HZ.out]; exact decide_eq_false (fun c => he (by rw [c]))
    have hne : ((xs.length : Int) != (ys.length : Int)) = true := by rw [bne_iff_ne]; omega
    clear HZ he
    go_wp2
    go_ret
    exact ⟨by rw [HV.out]; rfl, Below.refl _ _⟩
  have hne : ((xs.length : Int) != (ys.length : Int)) = false := by rw [he]; simp
  have HL : Hid (xs.length = ys.length) := he
  clear he
  go_wp2
  go_loopw [5] (fun i wr => ∃ k : Nat, k ≤ xs.length ∧ i = .int .i64 k ∧ Hid (∀ j (h1 : j < xs.length) (h2 : j < ys.length), j < k → xs[j] = ys[j]) ∧ Below w.heap.size w wr) (fun i _ => xs.length - (intOf i).toNat)
  case atStart => exact ⟨0, Nat.zero_le _, rfl, fun j _ _ h => absurd h (by omega), Below.refl _ _⟩
  case round =>
    obtain ⟨k, hk, rfl, HY, hb⟩ := hrel
    by_cases hlt : k < xs.length
    · have hlt2 : k < ys.length := by rw [← HL.out]; exact hlt
      have q1 : (k : Int) < (xs.length : Int) := by omega
      have q2 : (k : Int) < (ys.length : Int) := by omega
      obtain ⟨b1, o1, rfl, l1, c1⟩ := hx k hlt
      obtain ⟨b2, o2, rfl, l2, c2⟩ := hy k hlt2
      rw [← hb.cell (p := ⟨b1, o1 + k, none⟩) l1] at c1
      rw [← hb.cell (p := ⟨b2, o2 + k, none⟩) l2] at c2
      have HY2 : Hid (xs[k] = ys[k] → ∀ j (h1 : j < xs.length) (h2 : j < ys.length), j < k + 1 → xs[j] = ys[j]) := fun he j h1 h2 hj => by
        by_cases e : j = k
        · subst e; exact he
        · exact HY.out j h1 h2 (by omega)
      have HN : Hid (¬ xs[k] = ys[k] → z = false) := fun he => by
        rw [← HZ.out]
        exact decide_eq_false (fun c => he (by subst c; rfl))
      generalize xs[k] = p at *
      generalize ys[k] = q at *
      clear HY hx hy
      have BD := fun nq => bel_dn hb nq
      by_cases h2 : p = q
      · have HZ2 : Hid (∀ j (h1 : j < xs.length) (h2 : j < ys.length), j < k + 1 → xs[j] = ys[j]) := HY2.out h2
        have q4 := list_eq h2
        clear HY2 HN h2
        go_wp2
        go_quiet (fail)
        go_wp2
        go_roundw
        case rel => exact ⟨k + 1, by omega, by go_num, HZ2, BD _⟩
        case measure => simp [intOf]; omega
      · have HV : Hid (z = false) := HN.out h2
        have q4 := list_ne h2
        clear HY2 HN h2
        go_wp2
        go_quiet (fail)
        go_wp2
        go_ret
        exact ⟨by rw [HV.out]; rfl, BD _⟩
    · have HV : Hid (z = true) := by
        show _ = _
        rw [← HZ.out]
        refine decide_eq_true (List.ext_getElem HL.out (fun j h1 h2 => HY.out j h1 h2 (by omega)))
      have q1 : ¬ (k : Int) < (xs.length : Int) := by omega
      clear HY HZ hx hy
      go_wp2
      go_ret
      exact ⟨by rw [HV.out]; rfl, hb⟩
end Go.Proofs.Ytbpodcfbijhboaa.Nd
