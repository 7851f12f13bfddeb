/- What the law on tables asks, as plain data. -/
import Derived.Test.YtkfjpgkpmdbnoaaKe0
import Derived.Test.YtkfjpgkpmdbnoaaAd0
import Derived.Test.YtkfjpgkpmdbnoaaNf0
set_option linter.unusedVariables false
set_option maxRecDepth 100000
namespace Go.Proofs.Ytkfjpgkpmdbnoaa
open Go Go.RowKit Go.Joins Own Draw

theorem no_max {xs : List TS} (h : xs.Pairwise ltS) {who : Int} {p : TS} (hp : p ∈ xs) (hw : p.1 = who) (hm : ∀ q ∈ xs, q.1 = who → q.2.1 ≤ p.2.1) : noG xs who = (p, true) := by
  have hd := vs_down h who
  have hv : p ∈ vsL xs who := vs_mem.2 ⟨hp, hw⟩
  have hi : ∀ q ∈ vsL xs who, q ∈ xs ∧ q.1 = who := fun q hq => vs_mem.1 hq
  rw [no_vs]
  generalize vsL xs who = l at hd hv hi
  cases l with
  | nil => cases hv
  | cons a r =>
    rcases List.mem_cons.1 hv with rfl | hr
    · rfl
    · have h1 := (List.pairwise_cons.1 hd).1 p hr
      obtain ⟨h2, h3⟩ := hi a (List.mem_cons_self ..)
      have h4 := hm a h2 h3
      unfold ltS at h1
      omega
theorem no_none {xs : List TS} {who : Int} (h : ∀ p ∈ xs, p.1 ≠ who) : noG xs who = ((0, 0, 0), false) := by
  rw [no_vs]
  have hi : ∀ q ∈ vsL xs who, q ∈ xs ∧ q.1 = who := fun q hq => vs_mem.1 hq
  generalize vsL xs who = l at hi
  cases l with
  | nil => rfl
  | cons a r =>
    obtain ⟨h2, h3⟩ := hi a (List.mem_cons_self ..)
    exact absurd h3 (h a h2)
theorem no_cases {xs : List TS} (h : xs.Pairwise ltS) (who : Int) : (∀ p ∈ xs, p.1 ≠ who) ∨ ∃ p ∈ xs, p.1 = who ∧ ∀ q ∈ xs, q.1 = who → q.2.1 ≤ p.2.1 := by
  have hd := vs_down h who
  have hi : ∀ q, q ∈ vsL xs who ↔ q ∈ xs ∧ q.1 = who := fun q => vs_mem
  generalize vsL xs who = l at hd hi
  cases l with
  | nil => exact Or.inl fun p hp hw => by have := (hi p).2 ⟨hp, hw⟩; cases this
  | cons a r =>
    obtain ⟨h2, h3⟩ := (hi a).1 (List.mem_cons_self ..)
    refine Or.inr ⟨a, h2, h3, fun q hq hw => ?_⟩
    rcases List.mem_cons.1 ((hi q).2 ⟨hq, hw⟩) with rfl | hr
    · exact Int.le_refl _
    · have h1 := (List.pairwise_cons.1 hd).1 q hr
      unfold ltS at h1
      omega
theorem noT_eq {xs : List TS} (h : tabB xs = true) (who : Int) : noT xs who = noG xs who := by unfold noT; rw [h]; rfl
theorem tab_sub {xs ks : List TS} (h : tabB xs = true) (hs : ks.Sublist xs) : tabB ks = true := by
  obtain ⟨h1, h2, h3, h4⟩ := (tab_iff xs).1 h
  exact (tab_iff ks).2 ⟨Nat.le_trans hs.length_le h1, fun p hp => h2 p (hs.subset hp), h3.sublist hs, h4.sublist (hs.map _)⟩
theorem ke_sub {xs : List TS} (h : tabB xs = true) (n : Int) : (keT xs n).Sublist xs := by
  rw [keT_ok h]
  have := keG_sub xs n xs.length (Nat.le_refl _)
  rwa [List.take_length] at this
theorem be_less (xs : List TS) (who : Int) (k : Nat) : beG xs who k xs.length ≤ xs.length - (k + 1) := by
  rw [be_end]
  refine Nat.le_trans List.countP_le_length ?_
  rw [List.length_drop]
  exact Nat.le_refl _
theorem ke_all {xs : List TS} (h : xs.length ≤ 20) : ∀ m, m ≤ xs.length → keG xs 20 m = xs.take m
  | 0, _ => by simp [keG]
  | m + 1, hm => by
    have hk : m < xs.length := hm
    have h1 := be_less xs xs[m].1 m
    rw [keG_yes hk (by omega), ke_all h m (by omega), List.take_succ_eq_append_getElem hk]
theorem ke_full {xs : List TS} (h : tabB xs = true) : (keT xs 20).length = xs.length := by
  rw [keT_ok h, ke_all (tab_len h) xs.length (Nat.le_refl _), List.take_length]
theorem ke_zero (xs : List TS) : ∀ m, m ≤ xs.length → keG xs 0 m = []
  | 0, _ => rfl
  | m + 1, hm => by
    have hk : m < xs.length := hm
    rw [keG_no hk (by omega), ke_zero xs m (by omega)]
theorem ke_empty (xs : List TS) : (keT xs 0).length = 0 := by
  unfold keT
  split
  · rw [ke_zero xs xs.length (Nat.le_refl _)]; rfl
  · rfl
theorem ke_new {xs : List TS} (h : tabB xs = true) (who : Int) : noT (keT xs 1) who = noT xs who := by
  have hs := ke_sub h 1
  have hr := tab_rise h
  rw [noT_eq h, noT_eq (tab_sub h hs)]
  rcases no_cases hr who with hn | ⟨p, hp, hw, hm⟩
  · rw [no_none hn, no_none fun q hq => hn q (hs.subset hq)]
  · rw [no_max hr hp hw hm]
    refine no_max (hr.sublist hs) ?_ hw (fun q hq hqw => hm q (hs.subset hq) hqw)
    rw [keT_ok h, keG_mem xs 1 p xs.length (Nat.le_refl _)]
    obtain ⟨k, hk, rfl⟩ := List.getElem_of_mem hp
    refine ⟨k, hk, hk, rfl, ?_⟩
    have h0 : beG xs xs[k].1 k xs.length = 0 := by
      rw [be_end, List.countP_eq_zero]
      intro q hq c
      obtain ⟨i, hi, rfl⟩ := List.getElem_of_mem hq
      rw [List.length_drop] at hi
      rw [List.getElem_drop] at c hq
      have h1 := List.pairwise_iff_getElem.1 hr k (k + 1 + i) hk (by omega) (by omega)
      have h2 : xs[k + 1 + i].1 = xs[k].1 := by simpa using c
      have h3 := hm _ (List.getElem_mem (by omega : k + 1 + i < xs.length)) (h2.trans hw)
      unfold ltS at h1
      omega
    rw [h0]
    decide
/-- What the law asks. -/
structure LawB (ys xs : List TS) (who key : Int) (is : Bool) : Prop where
  ok : tabB xs = true
  len : ys.length ≤ 20
  lenx : xs.length ≤ 20
  yes : is = true → (noT xs who).2 = true ∧ (noT xs who).1.2.2 = key ∧ ((noT ys who).2 = true → (noT xs who).1.2.1 = (noT ys who).1.2.1 + 1) ∧ ((noT ys who).2 = false → (noT xs who).1.2.1 = 1) ∧ xs.length = ys.length + 1
  no : is = false → noT xs who = noT ys who
  old : 0 ≤ (noT ys who).1.2.1 ∧ (noT ys who).1.2.1 ≤ 1000
  fi : ∀ k (h : k < ys.length), fiT xs ys[k].1 ys[k].2.1 = (ys[k].2.2, true)
  k1 : tabB (keT xs 1) = true
  kn : noT (keT xs 1) who = noT xs who
  k20 : (keT xs 20).length = xs.length
  k0 : (keT xs 0).length = 0
theorem law_of {ys xs : List TS} {who key : Int} {is : Bool} (hy : tabB ys = true) (hx : tabB xs = true) (hs : ∀ p ∈ ys, p ∈ xs)
    (yes : is = true → (noT xs who).2 = true ∧ (noT xs who).1.2.2 = key ∧ ((noT ys who).2 = true → (noT xs who).1.2.1 = (noT ys who).1.2.1 + 1) ∧ ((noT ys who).2 = false → (noT xs who).1.2.1 = 1) ∧ xs.length = ys.length + 1)
    (no : is = false → noT xs who = noT ys who) : LawB ys xs who key is where
  ok := hx
  len := tab_len hy
  lenx := tab_len hx
  yes := yes
  no := no
  old := by rw [la_no hy]; exact laG_bound hy who
  fi := fun k h => by rw [fiT_ok hx]; exact fi_at (tab_rise hx) (vs_mem.2 ⟨hs _ (List.getElem_mem h), rfl⟩) rfl
  k1 := tab_sub hx (ke_sub hx 1)
  kn := ke_new hx who
  k20 := ke_full hx
  k0 := ke_empty xs
theorem lawB {ys : List TS} (h : tabB ys = true) (who key : Int) : LawB ys (adT ys who key).1 who key (adT ys who key).2 := by
  rw [ad_same h]
  cases hp : tabB (puT ys (nwS ys who key)) with
  | false =>
    rw [if_neg (by decide)]
    exact law_of h h (fun p hp => hp) (fun c => by cases c) (fun _ => rfl)
  | true =>
    rw [if_pos rfl]
    have pm := pu_perm ys (nwS ys who key)
    have hn : noG (puT ys (nwS ys who key)) who = (nwS ys who key, true) := by
      refine no_max (tab_rise hp) (pm.mem_iff.2 (List.mem_cons_self ..)) rfl ?_
      intro q hq hw
      rcases List.mem_cons.1 (pm.mem_iff.1 hq) with rfl | hq
      · exact Int.le_refl _
      · have := la_max (tab_rise h) hq hw
        show q.2.1 ≤ laG ys who + 1
        omega
    refine law_of h hp (fun p hp => pm.mem_iff.2 (List.mem_cons_of_mem _ hp)) (fun _ => ?_) (fun c => by cases c)
    rw [noT_eq hp, hn]
    refine ⟨rfl, rfl, fun _ => ?_, fun c => ?_, pu_len ..⟩
    · show laG ys who + 1 = _
      rw [la_no h]
    · have e : noT ys who = ((0, 0, 0), false) := by
        rw [noT_eq h] at c ⊢
        rcases no_cases (tab_rise h) who with hn | ⟨p, hp, hw, hm⟩
        · exact no_none hn
        · rw [no_max (tab_rise h) hp hw hm] at c; cases c
      have e2 := la_no h who
      rw [e] at e2
      show laG ys who + 1 = 1
      rw [← e2]
      rfl
end Go.Proofs.Ytkfjpgkpmdbnoaa
