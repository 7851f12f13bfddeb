/- What is right to know: terms that are unlike, keys that rise: the program and the model. -/
import Derived.Test.YtkekfogepdhjhaaSeek
set_option linter.unusedVariables false
namespace Go.Proofs.Ytkekfogepdhjhaa
open Go.RowKit Own Var Term

def goodT (xs : List ByteArray) (j : Nat) : Bool := isT (xs.getD j ⟨#[]⟩) && !(inB (xs.take j) (xs.getD j ⟨#[]⟩))
def kTerms (xs : List ByteArray) : Bool := (List.range xs.length).all (goodT xs)
theorem kTerms_no {xs : List ByteArray} {j : Nat} (hj : j < xs.length) (h : goodT xs j = false) : kTerms xs = false := by
  rw [Bool.eq_false_iff]; unfold kTerms; intro hh
  rw [List.all_eq_true] at hh
  rw [hh j (List.mem_range.2 hj)] at h; cases h
theorem kTerms_yes {xs : List ByteArray} (h : ∀ j, j < xs.length → goodT xs j = true) : kTerms xs = true := by
  unfold kTerms; rw [List.all_eq_true]; intro j hj; exact h j (List.mem_range.1 hj)
theorem goodT_at {xs : List ByteArray} {j : Nat} (h : j < xs.length) : goodT xs j = (isT xs[j] && !(inB (xs.take j) xs[j])) := by
  unfold goodT; rw [List.getD_eq_getElem?_getD, List.getElem?_eq_getElem h]; rfl

set_option maxRecDepth 100000 in
set_option maxHeartbeats 800000 in
theorem unlike_is (a : Option Addr) (cap : Nat) (xs : List ByteArray) (w : World) (hr : RowAt Value.string w a xs) (hl : xs.length ≤ 1048576) (hcap : xs.length ≤ cap) (hs : ∀ x ∈ xs, x.size ≤ 1048576) :
    Calls Try.prog 60 #[.slice a xs.length cap] w fun e w' => e = .returned (.bool (kTerms xs)) ∧ Below w.heap.size w w' := by
  go_enter Try.func60, Try.ntmps60
  go_wp2
  go_loopw [7] (fun i wr => ∃ k : Nat, k ≤ xs.length ∧ i = .int .i64 k ∧ Hid (∀ j, j < k → goodT xs j = true) ∧ Below w.heap.size w wr) (fun i _ => xs.length - (intOf i).toNat)
  case atStart => exact ⟨0, by omega, rfl, fun j hj => absurd hj (by omega), Below.refl _ _⟩
  case round =>
    obtain ⟨k, hk, rfl, hx, hbel⟩ := hrel
    by_cases hlt : k < xs.length
    · obtain ⟨b1, o1, rfl, l1, hc1⟩ := hr k hlt
      rw [← hbel.cell (p := ⟨b1, o1 + k, none⟩) l1] at hc1
      have hG := goodT_at hlt
      have hz := hs _ (List.getElem_mem hlt)
      have htk : (xs.take k).length = k := by rw [List.length_take]; omega
      have hC := fun w' (hb : Below w.heap.size w w') => contains_is (some ⟨b1, o1, none⟩) cap (xs.take k) xs[k] w' ((hr.later hb).take k) (by omega)
      rw [htk] at hC
      generalize xs[k] = y at hc1 hG hz hC
      have hO := fun w' => impl_ok y w' (by omega)
      cases hT : isT y with
      | false =>
        rw [hT] at hG hO
        have hF : kTerms xs = false := kTerms_no hlt (by rw [hG]; rfl)
        clear hG hT hC
        go_wp2_with fail
        refine (hO _).mono ?_
        rintro e w1 ⟨rfl, hb1⟩
        have hb2 := hbel.trans (hb1.mono hbel.size)
        go_wp2
        all_goals
          go_ret
          exact ⟨by first | rfl | (rw [hF]; rfl), hb2⟩
      | true =>
        rw [hT] at hG hO
        clear hT
        cases hI : inB (xs.take k) y with
        | true =>
          rw [hI] at hG
          simp only [hI] at hC
          have hF : kTerms xs = false := kTerms_no hlt (by rw [hG]; rfl)
          clear hG hI
          go_wp2_with fail
          refine (hO _).mono ?_
          rintro e w1 ⟨rfl, hb1⟩
          have hb2 := hbel.trans (hb1.mono hbel.size)
          go_wp2_with fail
          refine (hC _ hb2).mono ?_
          rintro e w2 ⟨rfl, rfl⟩
          go_wp2
          all_goals
            go_ret
            exact ⟨by first | rfl | (rw [hF]; rfl), hb2⟩
        | false =>
          rw [hI] at hG
          simp only [hI] at hC
          have HN : Hid (∀ j, j < k + 1 → goodT xs j = true) := by
            intro j hj
            by_cases e : j = k
            · subst e; rw [hG]; rfl
            · exact hx.out j (by omega)
          clear hG hI
          go_wp2_with fail
          refine (hO _).mono ?_
          rintro e w1 ⟨rfl, hb1⟩
          have hb2 := hbel.trans (hb1.mono hbel.size)
          go_wp2_with fail
          refine (hC _ hb2).mono ?_
          rintro e w2 ⟨rfl, rfl⟩
          clear hbel hb1
          go_wp2
          go_roundw
          case rel => exact ⟨k + 1, by omega, by go_num, HN, hb2⟩
          case measure => simp [intOf]; omega
    · have hF : kTerms xs = true := kTerms_yes (fun j hj => hx.out j (by omega))
      go_wp2
      go_ret
      exact ⟨by first | rfl | (rw [hF]; rfl), hbel⟩

def goodK (ks : List Int) (j : Nat) : Bool := (decide (1 ≤ ks.getD j 0) && decide (ks.getD j 0 ≤ 1000000)) && (j == 0 || decide (ks.getD (j - 1) 0 < ks.getD j 0))
def kKeys (ks : List Int) : Bool := (List.range ks.length).all (goodK ks)
theorem kKeys_no {xs : List Int} {j : Nat} (hj : j < xs.length) (h : goodK xs j = false) : kKeys xs = false := by
  rw [Bool.eq_false_iff]; unfold kKeys; intro hh
  rw [List.all_eq_true] at hh
  rw [hh j (List.mem_range.2 hj)] at h; cases h
theorem kKeys_yes {xs : List Int} (h : ∀ j, j < xs.length → goodK xs j = true) : kKeys xs = true := by
  unfold kKeys; rw [List.all_eq_true]; intro j hj; exact h j (List.mem_range.1 hj)
theorem getD_at {xs : List Int} {j : Nat} (h : j < xs.length) : xs.getD j 0 = xs[j] := by
  rw [List.getD_eq_getElem?_getD, List.getElem?_eq_getElem h]; rfl

/-- The key ahead of place k; 0 ahead of the first. -/
def lastK (ks : List Int) (k : Nat) : Int := if k = 0 then 0 else ks.getD (k - 1) 0
theorem goodK_at {ks : List Int} {k : Nat} (h : k < ks.length) : goodK ks k = ((decide (1 ≤ ks[k]) && decide (ks[k] ≤ 1000000)) && decide (lastK ks k < ks[k])) := by
  unfold goodK lastK
  rw [getD_at h]
  by_cases e : k = 0
  · subst e
    simp
    omega
  · have e' : (k == 0) = false := by simpa using e
    simp [e, e']

set_option maxRecDepth 100000 in
set_option maxHeartbeats 800000 in
theorem rising_is (a : Option Addr) (cap : Nat) (ks : List Int) (w : World) (hr : RowAt (Value.int .i64) w a ks) (hl : ks.length ≤ 1048576) :
    Calls Try.prog 61 #[.slice a ks.length cap] w fun e w' => e = .returned (.bool (kKeys ks)) ∧ w = w' := by
  go_enter Try.func61, Try.ntmps61
  go_wp2
  go_loop [3, 8] (fun l i => ∃ k : Nat, k ≤ ks.length ∧ i = .int .i64 k ∧ l = .int .i64 (lastK ks k) ∧ Hid (∀ j, j < k → goodK ks j = true)) (fun _ i => ks.length - (intOf i).toNat)
  case atStart => exact ⟨0, by omega, rfl, rfl, fun j hj => absurd hj (by omega)⟩
  case round =>
    obtain ⟨k, hk, rfl, rfl, hx⟩ := hrel
    by_cases hlt : k < ks.length
    · obtain ⟨b1, o1, rfl, l1, hc1⟩ := hr k hlt
      have hG := goodK_at hlt
      have hL : lastK ks (k + 1) = ks[k] := by unfold lastK; rw [if_neg (by omega), Nat.add_sub_cancel, getD_at hlt]
      have hO := fun w' => keyOk_is ks[k] w'
      generalize ks[k] = y at hc1 hG hL hO
      generalize hLk : lastK ks k = L at hG
      cases hT : (decide (1 ≤ y) && decide (y ≤ 1000000)) with
      | false =>
        rw [hT] at hG hO
        have hF : kKeys ks = false := kKeys_no hlt (by rw [hG]; rfl)
        clear hG hT
        go_wp2_with fail
        refine (hO _).mono ?_
        rintro e w1 ⟨rfl, rfl⟩
        go_wp2
        all_goals
          go_ret
          exact ⟨by first | rfl | (rw [hF]; rfl), rfl⟩
      | true =>
        rw [hT] at hG hO
        clear hT
        by_cases hI : L < y
        · have hI' : decide (y ≤ L) = false := by simp; omega
          rw [decide_eq_true hI] at hG
          have HN : Hid (∀ j, j < k + 1 → goodK ks j = true) := by
            intro j hj
            by_cases e : j = k
            · subst e; rw [hG]; rfl
            · exact hx.out j (by omega)
          clear hG
          go_wp2_with fail
          refine (hO _).mono ?_
          rintro e w1 ⟨rfl, rfl⟩
          go_wp2
          go_round
          case rel => exact ⟨k + 1, by omega, by go_num, by rw [hL], HN⟩
          case measure => simp [intOf]; omega
        · have hI' : decide (y ≤ L) = true := by simp; omega
          rw [decide_eq_false hI] at hG
          have hF : kKeys ks = false := kKeys_no hlt (by rw [hG]; rfl)
          clear hG
          go_wp2_with fail
          refine (hO _).mono ?_
          rintro e w1 ⟨rfl, rfl⟩
          go_wp2
          all_goals
            go_ret
            exact ⟨by first | rfl | (rw [hF]; rfl), rfl⟩
    · have hF : kKeys ks = true := kKeys_yes (fun j hj => hx.out j (by omega))
      go_wp2
      go_ret
      exact ⟨by first | rfl | (rw [hF]; rfl), rfl⟩
end Go.Proofs.Ytkekfogepdhjhaa
