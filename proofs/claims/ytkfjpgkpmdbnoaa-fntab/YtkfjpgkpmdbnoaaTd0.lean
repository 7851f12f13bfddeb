/- A key put into a table: plain. -/
import Derived.Test.YtkfjpgkpmdbnoaaTf0
import Derived.Test.YtkfjpgkpmdbnoaaTk0
set_option linter.unusedVariables false
set_option maxRecDepth 100000
namespace Go.Proofs.Ytkfjpgkpmdbnoaa
open Go Go.RowKit Go.Joins Own Draw

theorem tab_slot {xs : List TS} (h : tabB xs = true) (k : Nat) (hk : k < xs.length) : slA xs[k] = true := by
  unfold tabB at h
  rw [Bool.and_eq_true, List.all_eq_true] at h
  have h2 := h.2 k (List.mem_range.2 hk)
  unfold slC slD at h2
  rw [Bool.and_eq_true, Bool.and_eq_true, el_at hk] at h2
  exact h2.1.1
theorem tab_ver {xs : List TS} (h : tabB xs = true) (k : Nat) (hk : k < xs.length) : 1 ≤ xs[k].2.1 ∧ xs[k].2.1 ≤ 1000 := by
  have := tab_slot h k hk
  unfold slA at this
  rw [Bool.and_eq_true, Bool.and_eq_true] at this
  exact (btw_iff _ _ _).1 this.2.1
theorem laG_bound {xs : List TS} (h : tabB xs = true) (who : Int) : 0 ≤ laG xs who ∧ laG xs who ≤ 1000 := by
  have : ∀ k, k ≤ xs.length → 0 ≤ laG (xs.take k) who ∧ laG (xs.take k) who ≤ 1000 := by
    intro k
    induction k with
    | zero => intro _; exact ⟨Int.le_refl _, by show (0 : Int) ≤ 1000; omega⟩
    | succ k ih =>
      intro hk
      rw [laG_at (by omega)]
      unfold laS
      split
      · have := tab_ver h k (by omega); omega
      · exact ih (by omega)
  have h2 := this xs.length (Nat.le_refl _)
  rwa [List.take_length] at h2
theorem tab_len {xs : List TS} (h : tabB xs = true) : xs.length ≤ 20 := by
  unfold tabB at h
  rw [Bool.and_eq_true] at h
  exact of_decide_eq_true h.1
/-- A key put in, behind all of its holder. -/
def inS (x : TS) (s : List TS × Bool) (p : TS) : List TS × Bool := if s.2 = false ∧ x.1 < p.1 then (s.1 ++ [x] ++ [p], true) else (s.1 ++ [p], s.2)
def inG (xs : List TS) (x : TS) : List TS × Bool := xs.foldl (inS x) ([], false)
def inT (xs : List TS) (x : TS) : List TS := if (inG xs x).2 then (inG xs x).1 else (inG xs x).1 ++ [x]
theorem inG_at {xs : List TS} {x : TS} {k : Nat} (h : k < xs.length) : inG (xs.take (k + 1)) x = inS x (inG (xs.take k) x) xs[k] := by
  unfold inG
  rw [List.take_succ_eq_append_getElem h, List.foldl_append]
  rfl
theorem inG_len (xs : List TS) (x : TS) : ∀ k, k ≤ xs.length → (inG (xs.take k) x).1.length ≤ k + (if (inG (xs.take k) x).2 then 1 else 0)
  | 0, _ => Nat.zero_le _
  | k + 1, h => by
    have := inG_len xs x k (by omega)
    rw [inG_at (by omega)]
    unfold inS
    split
    · rename_i c
      rw [c.1] at this
      simp at this ⊢
      omega
    · simp at this ⊢
      omega
/-- What a table is with a key put in, and whether it was. -/
def adK (xs : List TS) (who key : Int) : Bool := btw who 0 99 && btw key 1 1000000 && decide (xs.length < 20) && decide (laG xs who + 1 ≤ 1000)
def adH (xs : List TS) (key : Int) : Bool := xs.any fun p => p.2.2 == key
def adT (xs : List TS) (who key : Int) : List TS × Bool :=
  if tabB xs then (if adK xs who key && !adH xs key then (inT xs (who, laG xs who + 1, key), true) else (xs, false)) else ([], false)
theorem adT_bad {xs : List TS} {who key : Int} (h : tabB xs = false) : adT xs who key = ([], false) := by unfold adT; rw [h]; rfl
theorem adT_no {xs : List TS} {who key : Int} (h : tabB xs = true) (hk : adK xs who key = false) : adT xs who key = (xs, false) := by unfold adT; rw [h, hk]; rfl
theorem adT_has {xs : List TS} {who key : Int} (h : tabB xs = true) (hk : adH xs key = true) : adT xs who key = (xs, false) := by unfold adT; rw [h, hk, Bool.not_true, Bool.and_false]; rfl
theorem adT_yes {xs : List TS} {who key : Int} (h : tabB xs = true) (hk : adK xs who key = true) (hh : adH xs key = false) : adT xs who key = (inT xs (who, laG xs who + 1, key), true) := by unfold adT; rw [h, hk, hh]; rfl
theorem adH_at {xs : List TS} {key : Int} {k : Nat} (h : k < xs.length) (e : xs[k].2.2 = key) : adH xs key = true := by
  unfold adH
  exact List.any_eq_true.2 ⟨_, List.getElem_mem h, by simpa using e⟩
theorem adH_no {xs : List TS} {key : Int} (h : ∀ k (hk : k < xs.length), ¬ xs[k].2.2 = key) : adH xs key = false := by
  unfold adH
  rw [List.any_eq_false]
  intro p hp
  obtain ⟨k, hk, rfl⟩ := List.mem_iff_getElem.1 hp
  simpa using h k hk
theorem frow_nil {α : Type} {s : Nat} {f : α → List Value} {w : World} {a : Option Addr} {xs : List α} (h : FRow s f w a xs) (ha : a = none) : xs.length = 0 := by
  subst ha
  apply Nat.eq_zero_of_not_pos
  intro hp
  obtain ⟨b, o, e, _⟩ := h 0 hp
  cases e
theorem frow_news {α : Type} {s : Nat} {f : α → List Value} (hs : ∀ x, (f x).length = s) (hp : 0 < s) {w : World} {a : Option Addr} {xs : List α} (h : FRow s f w a xs) : ∀ ad, a = some ad → ∀ j u, (fl f xs)[j]? = some u → w.cell? (ad.add j) = some u := by
  rintro ad rfl j u e
  have hj : j < xs.length * s := by
    have := (List.getElem?_eq_some_iff.1 e).1
    rwa [fl_len hs] at this
  have hq : j / s < xs.length := Nat.div_lt_of_lt_mul (by rw [Nat.mul_comm]; exact hj)
  have hjs : j / s * s + j % s = j := by rw [Nat.mul_comm]; exact Nat.div_add_mod j s
  obtain ⟨b, o, e2, _, hc⟩ := h (j / s) hq
  injection e2 with e2
  subst e2
  have h3 := fl_get hs xs (j / s) hq (j % s) (Nat.mod_lt _ hp)
  rw [hjs, e] at h3
  have h4 := hc (j % s) u h3.symm
  rw [Addr.add_lit]
  rw [Nat.add_assoc, hjs] at h4
  exact h4
theorem one_S (xs : List TS) : ∀ u ∈ fl cS xs, u.oneCell' = true := by
  intro u hu
  unfold fl at hu
  obtain ⟨p, _, hp⟩ := List.mem_flatMap.1 hu
  simp at hp
  rcases hp with rfl | rfl | rfl <;> rfl
end Go.Proofs.Ytkfjpgkpmdbnoaa
