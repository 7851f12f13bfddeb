/- The chain of a key. -/
import Derived.Test.YthmompnlkclfaaaBw
set_option linter.unusedVariables false
set_option maxRecDepth 100000
namespace Go.Proofs.Ythmompnlkclfaaa
open Go Go.RowKit Go.Joins Own Draw

/-- The chain, from its end to its beginning, in so many steps at most; ah says what comes ahead of an event. -/
def bwL (xs : List TE) (ah : TE → Int × Bool) : Nat → Int → Bool → List Int
  | 0, _, _ => []
  | f + 1, q, m => if h : m = true ∧ 0 ≤ findN xs q ∧ (findN xs q).toNat < xs.length then
      findN xs q :: bwL xs ah f (ah xs[(findN xs q).toNat]).1 (ah xs[(findN xs q).toNat]).2 else []
theorem bwL_false (xs : List TE) (ah : TE → Int × Bool) (f : Nat) (q : Int) : bwL xs ah f q false = [] := by
  cases f with
  | zero => rfl
  | succ f => unfold bwL; rw [dif_neg (by simp)]
theorem bwL_no {xs : List TE} {ah : TE → Int × Bool} {f : Nat} {q : Int} {m : Bool} (h : findN xs q = -1) : bwL xs ah f q m = [] := by
  cases f with
  | zero => rfl
  | succ f => unfold bwL; rw [dif_neg (by omega)]
theorem bwL_yes {xs : List TE} {ah : TE → Int × Bool} {f : Nat} {q : Int} {i : Nat} (h : findN xs q = (i : Int)) (hi : i < xs.length) : bwL xs ah (f + 1) q true = (i : Int) :: bwL xs ah f (ah xs[i]).1 (ah xs[i]).2 := by
  conv => lhs; unfold bwL
  rw [dif_pos ⟨rfl, by omega, by rw [h]; simpa using hi⟩]
  simp only [h, Int.toNat_natCast]
theorem bwL_len (xs : List TE) (ah : TE → Int × Bool) : ∀ (f : Nat) (q : Int) (m : Bool), (bwL xs ah f q m).length ≤ f
  | 0, q, m => by simp [bwL]
  | f + 1, q, m => by
    unfold bwL
    split
    · have := bwL_len xs ah f (ah xs[(findN xs q).toNat]).1 (ah xs[(findN xs q).toNat]).2
      simp; omega
    · simp
/-- Every number of it is that of an event. -/
theorem bwL_in (xs : List TE) (ah : TE → Int × Bool) : ∀ (f : Nat) (q : Int) (m : Bool), ∀ z ∈ bwL xs ah f q m, ∃ i : Nat, z = (i : Int) ∧ i < xs.length
  | 0, q, m => by simp [bwL]
  | f + 1, q, m => by
    unfold bwL
    split
    · rename_i h
      intro z hz
      rcases List.mem_cons.1 hz with rfl | hz
      · exact ⟨(findN xs q).toNat, by omega, h.2.2⟩
      · exact bwL_in xs ah f _ _ z hz
    · simp
/-- Does an event's number say a login? -/
def isLog (xs : List TE) (z : Int) : Bool := match xs[z.toNat]? with | some p => decide (kdE p = 1) | none => false
/-- A chain from its beginning on, where that is a login. -/
def frL (xs : List TE) (l : List Int) : List Int := match l.getLast? with | none => [] | some z => if isLog xs z then l.reverse else []
theorem isLog_at {xs : List TE} {i : Nat} (hi : i < xs.length) : isLog xs (i : Int) = decide (kdE xs[i] = 1) := by
  unfold isLog
  simp only [Int.toNat_natCast, List.getElem?_eq_getElem hi]
theorem frL_one {xs : List TE} {i : Nat} (hi : i < xs.length) : frL xs [(i : Int)] = if kdE xs[i] = 1 then [(i : Int)] else [] := by
  unfold frL
  simp only [List.getLast?_singleton, isLog_at hi, List.reverse_singleton]
  by_cases h : kdE xs[i] = 1 <;> simp [h]
theorem frL_cons {xs : List TE} {z : Int} {l : List Int} (h : l ≠ []) : frL xs (z :: l) = if frL xs l = [] then [] else frL xs l ++ [z] := by
  unfold frL
  cases e : l.getLast? with
  | none => exact absurd (List.getLast?_eq_none_iff.1 e) h
  | some y =>
    rw [List.getLast?_cons, e]
    simp only [Option.getD_some]
    by_cases hy : isLog xs y
    · simp [hy, h]
    · simp [hy]
theorem ch_bw (xs : List TE) : ∀ (f : Nat) (out : List Int) (key : Int), chG xs f out key = if frL xs (bwL xs hoV f key true) = [] then [] else frL xs (bwL xs hoV f key true) ++ out
  | 0, out, key => by simp [chG, bwL, frL]
  | f + 1, out, key => by
    rcases findN_cases xs key with h | ⟨i, h, hi⟩
    · rw [chG_no h, bwL_no h]; simp [frL]
    · rw [chG_yes h hi, bwL_yes h hi]
      have hon : ∀ q, hoV xs[i] = (q, true) → ¬ kdE xs[i] = 1 → chG xs f ((i : Int) :: out) q = if frL xs ((i : Int) :: bwL xs hoV f q true) = [] then [] else frL xs ((i : Int) :: bwL xs hoV f q true) ++ out := by
        intro q hq hk
        rw [ch_bw xs f ((i : Int) :: out) q]
        by_cases hb : bwL xs hoV f q true = []
        · rw [hb, frL_one hi, if_neg hk]; simp [frL]
        · rw [frL_cons hb]
          by_cases hf : frL xs (bwL xs hoV f q true) = []
          · simp [hf]
          · simp [hf]
      have hoff : hoV xs[i] = (0, false) → chG xs (f + 1) out key = (if kdE xs[i] = 1 then (i : Int) :: out else []) → (if kdE xs[i] = 1 then (i : Int) :: out else []) = if frL xs ((i : Int) :: bwL xs hoV f (hoV xs[i]).1 (hoV xs[i]).2) = [] then [] else frL xs ((i : Int) :: bwL xs hoV f (hoV xs[i]).1 (hoV xs[i]).2) ++ out := by
        intro ho _
        rw [ho, bwL_false, frL_one hi]
        by_cases hk : kdE xs[i] = 1 <;> simp [hk]
      by_cases e1 : kdE xs[i] = 1
      · rw [if_pos e1]
        have ho : hoV xs[i] = (0, false) := by unfold hoV awV; rw [if_neg (by omega), if_neg (by omega)]
        rw [ho]
        show _ = if frL xs ((i : Int) :: bwL xs hoV f 0 false) = [] then [] else frL xs ((i : Int) :: bwL xs hoV f 0 false) ++ out
        rw [bwL_false, frL_one hi, if_pos e1]
        simp
      · rw [if_neg e1]
        by_cases e2 : kdE xs[i] = 2 ∨ kdE xs[i] = 3
        · rw [if_pos e2]
          have ho : hoV xs[i] = (paE xs[i], true) := by unfold hoV awV; rw [if_neg (by omega), if_pos (by omega)]
          rw [ho]
          exact hon _ ho e1
        · rw [if_neg e2]
          by_cases e4 : kdE xs[i] = 4
          · rw [if_pos e4]
            have ho : hoV xs[i] = (evE xs[i], true) := by unfold hoV; rw [if_pos e4]
            rw [ho]
            exact hon _ ho e1
          · rw [if_neg e4]
            have ho : hoV xs[i] = (0, false) := by unfold hoV awV; rw [if_neg e4, if_neg (by omega)]
            rw [ho]
            show _ = if frL xs ((i : Int) :: bwL xs hoV f 0 false) = [] then [] else frL xs ((i : Int) :: bwL xs hoV f 0 false) ++ out
            rw [bwL_false, frL_one hi, if_neg e1]
            simp
/-- Of more numbers than there are places two are alike. -/
theorem pigeon : ∀ (L : Nat) (s : Nat → Nat), (∀ j, j ≤ L → s j < L) → ∃ a b, a < b ∧ b ≤ L ∧ s a = s b
  | 0, s, h => absurd (h 0 (Nat.le_refl _)) (by omega)
  | L + 1, s, h => by
    by_cases hx : ∃ a, a ≤ L ∧ s a = s (L + 1)
    · obtain ⟨a, ha, e⟩ := hx
      exact ⟨a, L + 1, by omega, Nat.le_refl _, e⟩
    · have hn : ∀ a, a ≤ L → ¬ s a = s (L + 1) := fun a ha e => hx ⟨a, ha, e⟩
      obtain ⟨a, b, hab, hb, e⟩ := pigeon L (fun j => if s j = L then s (L + 1) else s j) (by
        intro j hj
        have h1 := h j (by omega)
        have h2 := h (L + 1) (Nat.le_refl _)
        have h3 := hn j hj
        show (if s j = L then s (L + 1) else s j) < L
        split <;> omega)
      refine ⟨a, b, hab, by omega, ?_⟩
      have h1 := hn a (by omega)
      have h2 := hn b hb
      split at e <;> split at e <;> omega
/-- What comes next of a key. -/
def nk (xs : List TE) (q : Int) : Int := if h : (findN xs q).toNat < xs.length then (hoV xs[(findN xs q).toNat]).1 else 0
def kAt (xs : List TE) (q : Int) : Nat → Int
  | 0 => q
  | j + 1 => kAt xs (nk xs q) j
theorem kAt_succ (xs : List TE) : ∀ (j : Nat) (q : Int), kAt xs q (j + 1) = nk xs (kAt xs q j)
  | 0, q => rfl
  | j + 1, q => kAt_succ xs j (nk xs q)
def On (xs : List TE) (q : Int) : Prop := ∃ i, ∃ h : i < xs.length, findN xs q = (i : Int) ∧ ¬ kdE xs[i] = 1
def Log (xs : List TE) (q : Int) : Prop := ∃ i, ∃ h : i < xs.length, findN xs q = (i : Int) ∧ kdE xs[i] = 1
theorem nk_at {xs : List TE} {q : Int} {i : Nat} (h : findN xs q = (i : Int)) (hi : i < xs.length) : nk xs q = (hoV xs[i]).1 := by
  unfold nk
  rw [dif_pos (by rw [h]; simpa using hi)]
  simp only [h, Int.toNat_natCast]
theorem ch_step (xs : List TE) : ∀ (n : Nat) (out : List Int) (q : Int), chG xs (n + 1) out q = chG xs n out q ∨ ((∀ j, j < n → On xs (kAt xs q j)) ∧ Log xs (kAt xs q n))
  | 0, out, q => by
    rcases findN_cases xs q with h | ⟨i, h, hi⟩
    · left; rw [chG_no h]; rfl
    · by_cases e1 : kdE xs[i] = 1
      · right; exact ⟨fun j hj => absurd hj (by omega), i, hi, h, e1⟩
      · left
        rw [chG_yes h hi, if_neg e1]
        simp [chG]
  | n + 1, out, q => by
    rcases findN_cases xs q with h | ⟨i, h, hi⟩
    · left; rw [chG_no h, chG_no h]
    · rw [chG_yes h hi, chG_yes h hi]
      by_cases e1 : kdE xs[i] = 1
      · left; simp [e1]
      · simp only [if_neg e1]
        have on : On xs (kAt xs q 0) := ⟨i, hi, h, e1⟩
        have go : ∀ k, hoV xs[i] = (k, true) → chG xs (n + 1) ((i : Int) :: out) k = chG xs n ((i : Int) :: out) k ∨ ((∀ j, j < n + 1 → On xs (kAt xs q j)) ∧ Log xs (kAt xs q (n + 1))) := by
          intro k hk
          have hnk : nk xs q = k := by rw [nk_at h hi, hk]
          rcases ch_step xs n ((i : Int) :: out) k with e | ⟨e, l⟩
          · left; exact e
          · right
            refine ⟨fun j hj => ?_, ?_⟩
            · cases j with
              | zero => exact on
              | succ j => show On xs (kAt xs (nk xs q) j); rw [hnk]; exact e j (by omega)
            · show Log xs (kAt xs (nk xs q) n); rw [hnk]; exact l
        by_cases e2 : kdE xs[i] = 2 ∨ kdE xs[i] = 3
        · simp only [if_pos e2]
          exact go _ (by unfold hoV awV; rw [if_neg (by omega), if_pos (by omega)])
        · simp only [if_neg e2]
          by_cases e4 : kdE xs[i] = 4
          · simp only [if_pos e4]
            exact go _ (by unfold hoV; rw [if_pos e4])
          · left; simp [e4]
/-- A chain that comes to a login at all comes to it in as many steps as there are events. -/
theorem ch_len (xs : List TE) (q : Int) : chG xs (xs.length + 1) [] q = chG xs xs.length [] q := by
  rcases ch_step xs xs.length [] q with e | ⟨on, lg⟩
  · exact e
  · exfalso
    have hlt : ∀ j, j ≤ xs.length → (findN xs (kAt xs q j)).toNat < xs.length := by
      intro j hj
      by_cases e : j < xs.length
      · obtain ⟨i, hi, h, _⟩ := on j e
        rw [h]; simpa using hi
      · obtain rfl : j = xs.length := by omega
        obtain ⟨i, hi, h, _⟩ := lg
        rw [h]; simpa using hi
    obtain ⟨a, b, hab, hb, e⟩ := pigeon xs.length (fun j => (findN xs (kAt xs q j)).toNat) hlt
    obtain ⟨i, hi, ha, hk⟩ := on a (by omega)
    have hfb : findN xs (kAt xs q b) = (i : Int) := by
      have h1 : (findN xs (kAt xs q a)).toNat = (findN xs (kAt xs q b)).toNat := e
      rw [ha] at h1
      rcases findN_cases xs (kAt xs q b) with h | ⟨i', h, hi'⟩
      · exfalso
        by_cases e' : b < xs.length
        · obtain ⟨i2, _, h2, _⟩ := on b e'
          omega
        · obtain rfl : b = xs.length := by omega
          obtain ⟨i2, _, h2, _⟩ := lg
          omega
      · rw [h] at h1 ⊢
        simp at h1
        omega
    by_cases e' : b < xs.length
    · have hs : ∀ t, kAt xs q (a + 1 + t) = kAt xs q (b + 1 + t) := by
        intro t
        induction t with
        | zero => rw [Nat.add_zero, Nat.add_zero, kAt_succ, kAt_succ, nk_at ha hi, nk_at hfb hi]
        | succ t ih => rw [← Nat.add_assoc, ← Nat.add_assoc, kAt_succ, kAt_succ, ih]
      have h1 := hs (xs.length - b - 1)
      rw [show b + 1 + (xs.length - b - 1) = xs.length by omega] at h1
      obtain ⟨i2, hi2, h2, hk2⟩ := lg
      obtain ⟨i3, hi3, h3, hk3⟩ := on (a + 1 + (xs.length - b - 1)) (by omega)
      rw [h1, h2] at h3
      have : i2 = i3 := by omega
      subst this
      exact hk3 hk2
    · obtain rfl : b = xs.length := by omega
      obtain ⟨i2, hi2, h2, hk2⟩ := lg
      rw [h2] at hfb
      have : i2 = i := by omega
      subst this
      exact hk hk2
theorem chain_bw (xs : List TE) (q : Int) : chainN xs q = frL xs (bwL xs hoV xs.length q true) := by
  unfold chainN
  rw [ch_len, ch_bw]
  by_cases h : frL xs (bwL xs hoV xs.length q true) = []
  · simp [h]
  · simp [h]
end Go.Proofs.Ythmompnlkclfaaa
