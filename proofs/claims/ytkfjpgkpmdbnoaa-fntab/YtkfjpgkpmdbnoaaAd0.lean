/- A key put into a table, as plain data: what the program asks is what the model asks. -/
import Derived.Test.YtkfjpgkpmdbnoaaNf0
import Derived.Test.YtkfjpgkpmdbnoaaTd0
set_option linter.unusedVariables false
set_option maxRecDepth 100000
namespace Go.Proofs.Ytkfjpgkpmdbnoaa
open Go Go.RowKit Go.Joins Own Draw

theorem la_fold (who : Int) : ∀ (xs : List TS) (s : TS × Bool) (n : Int), s.1.2.1 = n → (xs.foldl (noS who) s).1.2.1 = xs.foldl (laS who) n
  | [], s, n, h => h
  | x :: xs, s, n, h => by
    rw [List.foldl_cons, List.foldl_cons]
    refine la_fold who xs _ _ ?_
    unfold noS laS
    by_cases c : x.1 = who
    · rw [if_pos c, if_pos c]
    · rw [if_neg c, if_neg c]; exact h
theorem la_noG (xs : List TS) (who : Int) : (noG xs who).1.2.1 = laG xs who := la_fold who xs _ _ rfl
theorem la_no {xs : List TS} (h : tabB xs = true) (who : Int) : (noT xs who).1.2.1 = laG xs who := by unfold noT; rw [h]; exact la_noG xs who
theorem vs_down {xs : List TS} (h : xs.Pairwise ltS) (who : Int) : (vsL xs who).Pairwise (fun a b => ltS b a) := by
  unfold vsL
  exact ((List.pairwise_reverse.2 h).filter _)
theorem la_max {xs : List TS} (h : xs.Pairwise ltS) {who : Int} {p : TS} (hp : p ∈ xs) (hw : p.1 = who) : p.2.1 ≤ laG xs who := by
  have hm : p ∈ vsL xs who := vs_mem.2 ⟨hp, hw⟩
  have hd := vs_down h who
  have e := no_vs xs who
  rw [← la_noG, e]
  cases hv : vsL xs who with
  | nil => rw [hv] at hm; cases hm
  | cons q r =>
    rw [hv] at hm hd
    have hq : q.1 = who := (vs_mem.1 (show q ∈ vsL xs who by rw [hv]; exact List.mem_cons_self ..)).2
    show p.2.1 ≤ q.2.1
    rcases List.mem_cons.1 hm with rfl | hm
    · exact Int.le_refl _
    · have := (List.pairwise_cons.1 hd).1 p hm
      unfold ltS at this
      omega
theorem in_take (x : TS) : ∀ (l acc : List TS), (∀ p ∈ l, ¬ x.1 < p.1) → l.foldl (inS x) (acc, false) = (acc ++ l, false)
  | [], acc, _ => by simp
  | p :: l, acc, h => by
    have hp := h p (List.mem_cons_self ..)
    have e : inS x (acc, false) p = (acc ++ [p], false) := by unfold inS; rw [if_neg (fun c => hp c.2)]
    rw [List.foldl_cons, e, in_take x l _ (fun q hq => h q (List.mem_cons_of_mem _ hq))]
    simp
theorem in_done (x : TS) : ∀ (l acc : List TS), l.foldl (inS x) (acc, true) = (acc ++ l, true)
  | [], acc => by simp
  | p :: l, acc => by
    have e : inS x (acc, true) p = (acc ++ [p], true) := by unfold inS; rw [if_neg (fun c => by cases c.1)]
    rw [List.foldl_cons, e, in_done x l]
    simp
/-- The slot that is added. -/
def nwS (xs : List TS) (who key : Int) : TS := (who, laG xs who + 1, key)
theorem nw_parts {xs : List TS} (h : tabB xs = true) (who key : Int) : (∀ p ∈ xs.take (cnS xs (nwS xs who key)), ltS p (nwS xs who key)) ∧ (∀ p ∈ xs.drop (cnS xs (nwS xs who key)), who < p.1) := by
  have hs := cn_spec (tab_ws h) (nwS xs who key)
  have hr := tab_rise h
  generalize cnS xs (nwS xs who key) = n at hs
  constructor
  · intro p hp
    obtain ⟨i, hi, rfl⟩ := List.getElem_of_mem hp
    rw [List.length_take] at hi
    rw [List.getElem_take]
    exact hs.1 i (by omega) (by omega)
  · intro p hp
    obtain ⟨i, hi, rfl⟩ := List.getElem_of_mem hp
    rw [List.length_drop] at hi
    rw [List.getElem_drop]
    have h1 := hs.2 (n + i) (by omega) (by omega)
    have h2 : xs[n + i].1 = who → xs[n + i].2.1 ≤ laG xs who := fun c => la_max hr (List.getElem_mem _) c
    unfold ltS nwS at h1
    dsimp only at h1
    by_cases c : xs[n + i].1 = who
    · have := h2 c; omega
    · omega
theorem pu_inT {xs : List TS} (h : tabB xs = true) (who key : Int) : puT xs (nwS xs who key) = inT xs (nwS xs who key) := by
  obtain ⟨h1, h2⟩ := nw_parts h who key
  have e0 : ∀ (x : TS) (n : Nat), inG xs x = (xs.drop n).foldl (inS x) ((xs.take n).foldl (inS x) ([], false)) := fun x n => by unfold inG; rw [← List.foldl_append, List.take_append_drop]
  unfold inT puT
  rw [e0 _ (cnS xs (nwS xs who key))]
  generalize cnS xs (nwS xs who key) = n at h1 h2
  have hx : (nwS xs who key).1 = who := rfl
  generalize nwS xs who key = x at h1 h2 hx
  rw [in_take x _ [] (fun p hp c => by have := h1 p hp; unfold ltS at this; omega), List.nil_append]
  cases hd : xs.drop n with
  | nil => simp
  | cons d ds =>
    have hlt : x.1 < d.1 := by rw [hx]; exact h2 d (by rw [hd]; exact List.mem_cons_self ..)
    have e : inS x (xs.take n, false) d = (xs.take n ++ [x] ++ [d], true) := by unfold inS; rw [if_pos ⟨rfl, hlt⟩]
    rw [List.foldl_cons, e, in_done]
    simp
theorem pu_rise {xs : List TS} (h : tabB xs = true) (who key : Int) : (puT xs (nwS xs who key)).Pairwise ltS := by
  obtain ⟨h1, h2⟩ := nw_parts h who key
  have hr := tab_rise h
  unfold puT
  generalize cnS xs (nwS xs who key) = n at h1 h2
  rw [← List.take_append_drop n xs, List.pairwise_append] at hr
  have hx : (nwS xs who key).1 = who := rfl
  rw [List.pairwise_append]
  refine ⟨hr.1, List.pairwise_cons.2 ⟨fun p hp => Or.inl (by rw [hx]; exact h2 p hp), hr.2.1⟩, fun a ha b hb => ?_⟩
  rcases List.mem_cons.1 hb with rfl | hb
  · exact h1 a ha
  · exact hr.2.2 a ha b hb
theorem tab_pu {xs : List TS} (h : tabB xs = true) (who key : Int) : tabB (puT xs (nwS xs who key)) = (adK xs who key && !adH xs key) := by
  have hp := pu_perm xs (nwS xs who key)
  have ht := (tab_iff xs).1 h
  have hb := laG_bound h who
  rw [Bool.eq_iff_iff, tab_iff, pu_len]
  have hm : ((puT xs (nwS xs who key)).map (·.2.2)).Perm (key :: xs.map (·.2.2)) := hp.map (fun p : TS => p.2.2)
  have hk : adH xs key = true ↔ key ∈ xs.map (·.2.2) := by
    unfold adH
    rw [List.any_eq_true, List.mem_map]
    constructor
    · rintro ⟨p, h1, h2⟩; exact ⟨p, h1, by simpa using h2⟩
    · rintro ⟨p, h1, h2⟩; exact ⟨p, h1, by simpa using h2⟩
  have hsl : slA (nwS xs who key) = (btw who 0 99 && (btw (laG xs who + 1) 1 1000 && btw key 1 1000000)) := rfl
  have hbt : btw (laG xs who + 1) 1 1000 = decide (laG xs who + 1 ≤ 1000) := by unfold btw; rw [decide_eq_true (show (1 : Int) ≤ laG xs who + 1 by omega)]; rfl
  rw [hbt] at hsl
  have hak : adK xs who key = (btw who 0 99 && btw key 1 1000000 && decide (xs.length < 20) && decide (laG xs who + 1 ≤ 1000)) := rfl
  rw [hm.nodup_iff, List.nodup_cons, Bool.and_eq_true, Bool.not_eq_true', ← Bool.not_eq_true, hk, hak]
  simp only [Bool.and_eq_true, decide_eq_true_eq]
  constructor
  · rintro ⟨h1, h2, h3, h4, h5⟩
    have hx := h2 (nwS xs who key) (hp.mem_iff.2 (List.mem_cons_self ..))
    rw [hsl] at hx
    simp only [Bool.and_eq_true, decide_eq_true_eq] at hx
    exact ⟨⟨⟨⟨hx.1, hx.2.2⟩, by omega⟩, hx.2.1⟩, h4⟩
  · rintro ⟨⟨⟨⟨a1, a2⟩, a3⟩, a4⟩, a5⟩
    refine ⟨by omega, fun p hp2 => ?_, pu_rise h who key, a5, ht.2.2.2⟩
    rcases List.mem_cons.1 (hp.mem_iff.1 hp2) with rfl | hq
    · rw [hsl]; simp only [Bool.and_eq_true, decide_eq_true_eq]; exact ⟨a1, a4, a2⟩
    · exact ht.2.1 p hq
/-- What TabAdd answers, as the program goes about it. -/
theorem ad_same {xs : List TS} (h : tabB xs = true) (who key : Int) : adT xs who key = if tabB (puT xs (nwS xs who key)) = true then (puT xs (nwS xs who key), true) else (xs, false) := by
  have e := tab_pu h who key
  cases hk : adK xs who key with
  | false => rw [adT_no h hk, e, hk]; rfl
  | true =>
    cases hh : adH xs key with
    | true => rw [adT_has h hh, e, hk, hh]; rfl
    | false => rw [adT_yes h hk hh, e, hk, hh, pu_inT h]; rfl
end Go.Proofs.Ytkfjpgkpmdbnoaa
