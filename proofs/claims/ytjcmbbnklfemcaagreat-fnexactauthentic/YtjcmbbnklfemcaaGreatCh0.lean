/- Is an Accept honest: the model. -/
import Derived.Test.YtjcmbbnklfemcaaGreatCm1
import Derived.Test.YtjcmbbnklfemcaaGreatWs8
set_option linter.unusedVariables false
set_option maxRecDepth 100000
namespace Go.Proofs.YtjcmbbnklfemcaaGreat.Nd
open Go Go.RowKit Go.Joins Own Draw Term

theorem mem_fold (f : Int → Int) (z : Int) : ∀ (l o : List Int), z ∈ l.foldl (fun o v => putI o (f v)) o ↔ z ∈ o ∨ ∃ v ∈ l, z = f v
  | [], o => by simp
  | v :: l, o => by
    rw [List.foldl_cons, mem_fold f z l, putI_mem]
    simp only [List.mem_cons, exists_eq_or_imp]
    constructor
    · rintro ((h | h) | h)
      · exact Or.inr (Or.inl h)
      · exact Or.inl h
      · exact Or.inr (Or.inr h)
    · rintro (h | h | h)
      · exact Or.inl (Or.inr h)
      · exact Or.inl (Or.inl h)
      · exact Or.inr h
theorem mem_inner (r z : Int) : ∀ (l o : List Int), z ∈ l.foldl (fun o s => if r = s then o else putI o (lkV r s)) o ↔ z ∈ o ∨ ∃ s ∈ l, r ≠ s ∧ z = lkV r s
  | [], o => by simp
  | s :: l, o => by
    rw [List.foldl_cons, mem_inner r z l]
    simp only [List.mem_cons, exists_eq_or_imp]
    by_cases e : r = s
    · rw [if_pos e]
      constructor
      · rintro (h | h)
        · exact Or.inl h
        · exact Or.inr (Or.inr h)
      · rintro (h | ⟨h, _⟩ | h)
        · exact Or.inl h
        · exact absurd e h
        · exact Or.inr h
    · rw [if_neg e, putI_mem]
      constructor
      · rintro ((h | h) | h)
        · exact Or.inr (Or.inl ⟨e, h⟩)
        · exact Or.inl h
        · exact Or.inr (Or.inr h)
      · rintro (h | ⟨_, h⟩ | h)
        · exact Or.inl (Or.inr h)
        · exact Or.inl (Or.inl h)
        · exact Or.inr h
theorem mem_outer (rs : List Int) (z : Int) : ∀ (l o : List Int), z ∈ l.foldl (fun o r => miL rs r (putI o (ckV r)) rs.length) o ↔ z ∈ o ∨ ∃ r ∈ l, z = ckV r ∨ ∃ s ∈ rs, r ≠ s ∧ z = lkV r s
  | [], o => by simp
  | r :: l, o => by
    rw [List.foldl_cons, mem_outer rs z l]
    unfold miL
    rw [List.take_length, mem_inner, putI_mem]
    simp only [List.mem_cons, exists_eq_or_imp]
    constructor
    · rintro (((h | h) | h) | h)
      · exact Or.inr (Or.inl (Or.inl h))
      · exact Or.inl h
      · exact Or.inr (Or.inl (Or.inr h))
      · exact Or.inr (Or.inr h)
    · rintro (h | (h | h) | h)
      · exact Or.inl (Or.inl (Or.inr h))
      · exact Or.inl (Or.inl (Or.inl h))
      · exact Or.inl (Or.inr h)
      · exact Or.inr h
theorem cnM_mem (c : Cf) (p : TQ) (z : Int) : z ∈ cnM c p ↔ (z = pkV (clQ p) ∨ z = pkV (3 + seQ p) ∨ ∃ v ∈ viQ p, z = pkV (3 + v)) ∨ ∃ r ∈ rsM c p, z = ckV r ∨ ∃ s ∈ rsM c p, r ≠ s ∧ z = lkV r s := by
  unfold cnM m2L
  rw [List.take_length, mem_outer]
  unfold m1L
  rw [List.take_length, mem_fold (fun v => pkV (3 + v))]
  unfold m0L
  rw [putI_mem, putI_mem]
  simp only [List.not_mem_nil, or_false]
  constructor
  · rintro (((h | h) | h) | h)
    · exact Or.inl (Or.inr (Or.inl h))
    · exact Or.inl (Or.inl h)
    · exact Or.inl (Or.inr (Or.inr h))
    · exact Or.inr h
  · rintro ((h | h | h) | h)
    · exact Or.inl (Or.inl (Or.inr h))
    · exact Or.inl (Or.inl (Or.inl h))
    · exact Or.inl (Or.inr h)
    · exact Or.inr h
theorem sk_ok {v : Int} (h : btw v 0 2 = true) : skV v = pkV (3 + v) := by unfold skV; rw [if_pos h]
theorem rl_mem {c : Cf} {p : TQ} (h : ∀ x ∈ rsM c p, btw x 0 2 = true) (r : Int) : r ∈ rlP c p ↔ r ∈ rsM c p := by
  unfold rlP
  rw [List.mem_filter, List.contains_iff_mem]
  constructor
  · exact fun h => h.2
  · intro hr
    refine ⟨?_, hr⟩
    have hb := (btw_iff _ _ _).1 (h r hr)
    unfold r3
    rw [List.mem_map]
    exact ⟨r.toNat, by rw [List.mem_range]; omega, by omega⟩
theorem cn_same {c : Cf} {p : TQ} {n : Nat} (hc : confB c = true) (ha : acB n p = true) (z : Int) : z ∈ riL (cnL c p) ↔ z ∈ cnM c p := by
  have hse := (btw_iff _ _ _).1 (ac_se ha)
  have hrs : ∀ x ∈ rsM c p, btw x 0 2 = true := by
    intro x hx
    unfold rsM at hx
    simp only [List.mem_cons] at hx
    rcases hx with rfl | rfl | hx
    · exact ro_ok hc (ac_cl ha)
    · exact ro_ok hc ((btw_iff _ _ _).2 (by omega))
    · exact (all_le (ac_parts ha).2.2.2.1).2 x hx
  have hvi := (all_le (ac_parts ha).2.2.2.2).2
  rw [riL_mem, cnM_mem]
  unfold cnL rkL lkL
  simp only [List.mem_append, List.mem_flatMap, List.mem_cons, List.mem_map, List.mem_filter, List.not_mem_nil, or_false, decide_eq_true_eq, rl_mem hrs, sk_ok (ac_se ha)]
  constructor
  · rintro ((⟨r, hr, h | ⟨s, ⟨hs, hne⟩, e⟩⟩ | h | h) | ⟨v, hv, e⟩)
    · exact Or.inr ⟨r, hr, Or.inl h⟩
    · exact Or.inr ⟨r, hr, Or.inr ⟨s, hs, hne, e.symm⟩⟩
    · exact Or.inl (Or.inl h)
    · exact Or.inl (Or.inr (Or.inl h))
    · exact Or.inl (Or.inr (Or.inr ⟨v, hv, by rw [← e, sk_ok (hvi v hv)]⟩))
  · rintro ((h | h | ⟨v, hv, e⟩) | ⟨r, hr, h | ⟨s, hs, hne, e⟩⟩)
    · exact Or.inl (Or.inr (Or.inl h))
    · exact Or.inl (Or.inr (Or.inr h))
    · exact Or.inr ⟨v, hv, by rw [e, sk_ok (hvi v hv)]⟩
    · exact Or.inl (Or.inl ⟨r, hr, Or.inl h⟩)
    · exact Or.inl (Or.inl ⟨r, hr, Or.inr ⟨s, ⟨hs, hne⟩, e.symm⟩⟩)
def mtB (ks ls : List Int) : Bool := ks.any (fun x => hasB ls x)
def hoM (d : TD) (p : TQ) : Bool := decide (0 < (cnM (cfOf d.1) p).length) && !(mtB (cnM (cfOf d.1) p) (lkQ d p))
theorem hon_same {d : TD} {p : TQ} {n : Nat} (hc : confB (cfOf d.1) = true) (ha : acB n p = true) : hoM d p = honB d p := by
  have h1 : pkV (clQ p) ∈ cnM (cfOf d.1) p := (cnM_mem _ _ _).2 (Or.inl (Or.inl rfl))
  have h2 : 0 < (cnM (cfOf d.1) p).length := List.length_pos_of_mem h1
  unfold hoM honB mtB
  rw [decide_eq_true h2, Bool.true_and, Bool.eq_iff_iff]
  simp only [Bool.not_eq_true', List.any_eq_false, List.all_eq_true]
  constructor
  · intro h x hx
    have := h x ((cn_same hc ha x).1 hx)
    unfold hasB at this
    unfold nin
    simpa using this
  · intro h x hx
    have := h x ((cn_same hc ha x).2 hx)
    unfold nin at this
    unfold hasB
    simpa using this
theorem mt_len (c : Cf) (p : TQ) {n : Nat} (ha : acB n p = true) : (cnM c p).length ≤ 100 := by
  have h8 : (rsM c p).length ≤ 8 := by unfold rsM; have := ac_pl ha; simp only [List.length_cons]; omega
  have h1 := m2_len (rsM c p) (m1L p (viQ p).length) h8 _ (Nat.le_refl _)
  have h2 := m1_len p _ (Nat.le_refl _)
  have h3 := ac_vl ha
  unfold cnM
  omega
set_option maxRecDepth 100000 in
set_option maxHeartbeats 6400000 in
theorem meets_is (a : Option Addr) (cap : Nat) (ks : List Int) (b : Option Addr) (bc : Nat) (ls : List Int) (w : World) (hk : RowAt (Value.int .i64) w a ks) (hl : RowAt (Value.int .i64) w b ls) (hkl : ks.length ≤ 1048576) (hll : ls.length ≤ 1048576) :
    Calls Tryz.prog 93 #[.slice a ks.length cap, .slice b ls.length bc] w fun e w' => e = .returned (.bool (mtB ks ls)) ∧ w = w' := by
  go_enter Tryz.func93, Tryz.ntmps93
  go_wp2
  go_loop [5] (fun i => ∃ k : Nat, k ≤ ks.length ∧ i = .int .i64 k ∧ Hid (∀ j (h : j < ks.length), j < k → hasB ls ks[j] = false)) (fun i => ks.length - (intOf i).toNat)
  case atStart => exact ⟨0, by omega, rfl, fun j h hj => absurd hj (by omega)⟩
  case round =>
    obtain ⟨k, hk2, rfl, hno⟩ := hrel
    by_cases hlt : k < ks.length
    · obtain ⟨b1, o1, rfl, l1, hc⟩ := hk k hlt
      have K1 := l3Has_is b bc ls ks[k] w hl hll
      have HY : hasB ls ks[k] = true → Hid (mtB ks ls = true) := fun h => by
        show _ = _
        unfold mtB
        rw [List.any_eq_true]
        exact ⟨ks[k], List.getElem_mem hlt, h⟩
      have HN : hasB ls ks[k] = false → Hid (∀ j (h : j < ks.length), j < k + 1 → hasB ls ks[j] = false) := fun hh j h hj => by
        by_cases e : j = k
        · subst e; exact hh
        · exact hno.out j h (by omega)
      have hlt2 : (k : Int) < (ks.length : Int) := by omega
      clear hno
      generalize ks[k] = x at hc K1 HY HN
      generalize hasB ls x = v at K1 HY HN
      go_wp2_with fail
      refine K1.mono ?_
      clear K1 hc
      rintro en w1 ⟨rfl, rfl⟩
      cases v with
      | true =>
        have HY2 := HY rfl
        clear HY HN
        go_wp2
        go_ret
        exact ⟨by rw [HY2.out]; rfl, rfl⟩
      | false =>
        have HN2 := HN rfl
        clear HY HN
        go_wp2
        go_round
        case rel => exact ⟨k + 1, by omega, by go_num, HN2⟩
        case measure => simp [intOf]; omega
    · have HV : Hid (mtB ks ls = false) := by
        show _ = _
        unfold mtB
        rw [List.any_eq_false]
        intro x hx
        obtain ⟨j, hj, rfl⟩ := List.getElem_of_mem hx
        rw [hno.out j hj (by omega)]
        simp
      clear hno hk hl
      go_wp2
      go_ret
      exact ⟨by rw [HV.out]; rfl, rfl⟩
end Go.Proofs.YtjcmbbnklfemcaaGreat.Nd

set_option linter.unusedVariables false
set_option maxRecDepth 100000
namespace Go.Proofs.YtjcmbbnklfemcaaGreat.Nd
open Go Go.RowKit Go.Joins Own Draw Term

set_option maxRecDepth 100000 in
set_option maxHeartbeats 6400000 in
theorem specHon_is (B : Nat) (d : TD) (k : Nat) (w : World) (hd : WdOk B w d) (hw : wokB d = true) (hk : k < d.2.2.2.2.2.2.2.2.2.1.2.2.length) :
    Calls Tryz.prog 55 #[vD d, .int .i64 (k : Int)] w fun e w' => e = .returned (.bool (hoM d d.2.2.2.2.2.2.2.2.2.1.2.2[k])) ∧ Below w.heap.size w w' := by
  obtain ⟨ie, hie, his⟩ := info_D
  obtain ⟨ic, hic, hics⟩ := info_F
  obtain ⟨iq, hiq, hiqs⟩ := info_Q
  obtain ⟨V, hV⟩ : ∃ V, w.alloc (.cells #[.slice d.1.1.1 d.1.1.2.2.length d.1.1.2.1, .slice d.1.2.1.1 d.1.2.1.2.2.length d.1.2.1.2.1, .slice d.1.2.2.1.1 d.1.2.2.1.2.2.length d.1.2.2.1.2.1, .slice d.1.2.2.2.1.1 d.1.2.2.2.1.2.2.length d.1.2.2.2.1.2.1, .int .i64 d.1.2.2.2.2, .int .i64 d.2.1, .int .i64 d.2.2.1, .slice d.2.2.2.1.1 d.2.2.2.1.2.2.length d.2.2.2.1.2.1, .slice d.2.2.2.2.1.1.1 d.2.2.2.2.1.1.2.2.length d.2.2.2.2.1.1.2.1, .slice d.2.2.2.2.1.2.1 d.2.2.2.2.1.2.2.2.length d.2.2.2.2.1.2.2.1, .slice d.2.2.2.2.2.1.1 d.2.2.2.2.2.1.2.2.length d.2.2.2.2.2.1.2.1, .slice d.2.2.2.2.2.2.1.1 d.2.2.2.2.2.2.1.2.2.length d.2.2.2.2.2.2.1.2.1, .slice d.2.2.2.2.2.2.2.1.1 d.2.2.2.2.2.2.2.1.2.2.length d.2.2.2.2.2.2.2.1.2.1, .slice d.2.2.2.2.2.2.2.2.1.1 d.2.2.2.2.2.2.2.2.1.2.2.length d.2.2.2.2.2.2.2.2.1.2.1, .slice d.2.2.2.2.2.2.2.2.2.1.1 d.2.2.2.2.2.2.2.2.2.1.2.2.length d.2.2.2.2.2.2.2.2.2.1.2.1, .slice d.2.2.2.2.2.2.2.2.2.2.1 d.2.2.2.2.2.2.2.2.2.2.2.2.length d.2.2.2.2.2.2.2.2.2.2.2.1] 48) = V := ⟨_, rfl⟩
  have TV : Blk w.heap.size [.slice d.1.1.1 d.1.1.2.2.length d.1.1.2.1, .slice d.1.2.1.1 d.1.2.1.2.2.length d.1.2.1.2.1, .slice d.1.2.2.1.1 d.1.2.2.1.2.2.length d.1.2.2.1.2.1, .slice d.1.2.2.2.1.1 d.1.2.2.2.1.2.2.length d.1.2.2.2.1.2.1, .int .i64 d.1.2.2.2.2, .int .i64 d.2.1, .int .i64 d.2.2.1, .slice d.2.2.2.1.1 d.2.2.2.1.2.2.length d.2.2.2.1.2.1, .slice d.2.2.2.2.1.1.1 d.2.2.2.2.1.1.2.2.length d.2.2.2.2.1.1.2.1, .slice d.2.2.2.2.1.2.1 d.2.2.2.2.1.2.2.2.length d.2.2.2.2.1.2.2.1, .slice d.2.2.2.2.2.1.1 d.2.2.2.2.2.1.2.2.length d.2.2.2.2.2.1.2.1, .slice d.2.2.2.2.2.2.1.1 d.2.2.2.2.2.2.1.2.2.length d.2.2.2.2.2.2.1.2.1, .slice d.2.2.2.2.2.2.2.1.1 d.2.2.2.2.2.2.2.1.2.2.length d.2.2.2.2.2.2.2.1.2.1, .slice d.2.2.2.2.2.2.2.2.1.1 d.2.2.2.2.2.2.2.2.1.2.2.length d.2.2.2.2.2.2.2.2.1.2.1, .slice d.2.2.2.2.2.2.2.2.2.1.1 d.2.2.2.2.2.2.2.2.2.1.2.2.length d.2.2.2.2.2.2.2.2.2.1.2.1, .slice d.2.2.2.2.2.2.2.2.2.2.1 d.2.2.2.2.2.2.2.2.2.2.2.2.length d.2.2.2.2.2.2.2.2.2.2.2.1] V := by rw [← hV]; exact Blk.new _ _ _
  have BC : Below w.heap.size w V := by rw [← hV]; exact (Below.refl _ _).alloc (Nat.le_refl _) _
  obtain ⟨hcf, hac, hl40⟩ := wok_parts hw
  have hap := hac _ (List.getElem_mem hk)
  have hQ : DpQ w d.2.2.2.2.2.2.2.2.2.1.2.2[k] := (hd.ow.2.2.2.2.2.2.2.1.2 _ (List.getElem_mem hk)).dp
  obtain ⟨aa, haa⟩ : ∃ aa, d.2.2.2.2.2.2.2.2.2.1.1 = aa := ⟨_, rfl⟩
  have hr : FRow 15 cQ w aa d.2.2.2.2.2.2.2.2.2.1.2.2 := by rw [← haa]; exact hd.ow.2.2.2.2.2.2.2.1.dp.1
  have d14 := TV.at 14 rfl
  rw [haa] at d14
  have d15 := TV.at 15 rfl
  have hmc : d.2.2.2.2.2.2.2.2.2.2.2.2.length ≤ d.2.2.2.2.2.2.2.2.2.2.2.1 := own_cap hd.ow.2.2.2.2.2.2.2.2
  have hlr : RowAt (Value.int .i64) w d.2.2.2.2.2.2.2.2.2.2.1 d.2.2.2.2.2.2.2.2.2.2.2.2 := hd.ow.2.2.2.2.2.2.2.2.dp
  have hF : OwF B w d.1 := hd.ow.1
  have hlt := tot_parts hd.le
  have hCf := cf_ok hF hlt.1.1 hlt.1.2.1 hlt.1.2.2.1 hlt.1.2.2.2
  have hlq : d.2.2.2.2.2.2.2.2.2.1.2.2.length ≤ 40 := wok_acc hw
  clear haa hac hd hw hlt
  obtain ⟨xs, hxs⟩ : ∃ xs, d.2.2.2.2.2.2.2.2.2.1.2.2 = xs := ⟨_, rfl⟩
  have hk2 : k < xs.length := by rw [← hxs]; exact hk
  have hget : d.2.2.2.2.2.2.2.2.2.1.2.2[k] = xs[k] := by simp only [hxs]
  rw [hget] at hap hQ ⊢
  rw [hxs] at hr d14 hlq
  obtain ⟨b1, o1, rfl, l1, hcc⟩ := hr k hk2
  have c0 : V.cell? ⟨b1, o1 + k * 15, none⟩ = some (.int .i64 xs[k].1) := (BC.cell (p := ⟨b1, o1 + k * 15, none⟩) l1).trans (hcc 0 _ rfl)
  have c1 : V.cell? ⟨b1, o1 + k * 15 + 1, none⟩ = some (.int .i64 xs[k].2.1) := (BC.cell (p := ⟨b1, o1 + k * 15 + 1, none⟩) l1).trans (hcc 1 _ rfl)
  have c2 : V.cell? ⟨b1, o1 + k * 15 + 2, none⟩ = some (.int .i64 xs[k].2.2.1) := (BC.cell (p := ⟨b1, o1 + k * 15 + 2, none⟩) l1).trans (hcc 2 _ rfl)
  have c3 : V.cell? ⟨b1, o1 + k * 15 + 3, none⟩ = some (.int .i64 xs[k].2.2.2.1) := (BC.cell (p := ⟨b1, o1 + k * 15 + 3, none⟩) l1).trans (hcc 3 _ rfl)
  have c4 : V.cell? ⟨b1, o1 + k * 15 + 4, none⟩ = some (.int .i64 xs[k].2.2.2.2.1) := (BC.cell (p := ⟨b1, o1 + k * 15 + 4, none⟩) l1).trans (hcc 4 _ rfl)
  have c5 : V.cell? ⟨b1, o1 + k * 15 + 5, none⟩ = some (.int .i64 xs[k].2.2.2.2.2.1.1) := (BC.cell (p := ⟨b1, o1 + k * 15 + 5, none⟩) l1).trans (hcc 5 _ rfl)
  have c6 : V.cell? ⟨b1, o1 + k * 15 + 6, none⟩ = some (.int .i64 xs[k].2.2.2.2.2.1.2.1) := (BC.cell (p := ⟨b1, o1 + k * 15 + 6, none⟩) l1).trans (hcc 6 _ rfl)
  have c7 : V.cell? ⟨b1, o1 + k * 15 + 7, none⟩ = some (.int .i64 xs[k].2.2.2.2.2.1.2.2) := (BC.cell (p := ⟨b1, o1 + k * 15 + 7, none⟩) l1).trans (hcc 7 _ rfl)
  have c8 : V.cell? ⟨b1, o1 + k * 15 + 8, none⟩ = some (.int .i64 xs[k].2.2.2.2.2.2.1.1) := (BC.cell (p := ⟨b1, o1 + k * 15 + 8, none⟩) l1).trans (hcc 8 _ rfl)
  have c9 : V.cell? ⟨b1, o1 + k * 15 + 9, none⟩ = some (.int .i64 xs[k].2.2.2.2.2.2.1.2.1) := (BC.cell (p := ⟨b1, o1 + k * 15 + 9, none⟩) l1).trans (hcc 9 _ rfl)
  have c10 : V.cell? ⟨b1, o1 + k * 15 + 10, none⟩ = some (.int .i64 xs[k].2.2.2.2.2.2.1.2.2) := (BC.cell (p := ⟨b1, o1 + k * 15 + 10, none⟩) l1).trans (hcc 10 _ rfl)
  have c11 : V.cell? ⟨b1, o1 + k * 15 + 11, none⟩ = some (.slice xs[k].2.2.2.2.2.2.2.1.1 xs[k].2.2.2.2.2.2.2.1.2.2.length xs[k].2.2.2.2.2.2.2.1.2.1) := (BC.cell (p := ⟨b1, o1 + k * 15 + 11, none⟩) l1).trans (hcc 11 _ rfl)
  have c12 : V.cell? ⟨b1, o1 + k * 15 + 12, none⟩ = some (.slice xs[k].2.2.2.2.2.2.2.2.1.1 xs[k].2.2.2.2.2.2.2.2.1.2.2.length xs[k].2.2.2.2.2.2.2.2.1.2.1) := (BC.cell (p := ⟨b1, o1 + k * 15 + 12, none⟩) l1).trans (hcc 12 _ rfl)
  have c13 : V.cell? ⟨b1, o1 + k * 15 + 13, none⟩ = some (.int .i64 xs[k].2.2.2.2.2.2.2.2.2.1) := (BC.cell (p := ⟨b1, o1 + k * 15 + 13, none⟩) l1).trans (hcc 13 _ rfl)
  have c14 : V.cell? ⟨b1, o1 + k * 15 + 14, none⟩ = some (.string xs[k].2.2.2.2.2.2.2.2.2.2) := (BC.cell (p := ⟨b1, o1 + k * 15 + 14, none⟩) l1).trans (hcc 14 _ rfl)
  have hlt2 : (k : Int) < (xs.length : Int) := by omega
  generalize hxk : xs[k] = x at hap hQ c0 c1 c2 c3 c4 c5 c6 c7 c8 c9 c10 c11 c12 c13 c14 ⊢
  clear hxk hcc hr hget hk
  have hm0 := ac_le hap
  obtain ⟨m, hm⟩ : ∃ m : Nat, x.2.2.2.2.2.2.2.2.2.1 = (m : Int) := ⟨(leQ x).toNat, by have := hm0.1; show leQ x = _; omega⟩
  have hml : m ≤ d.2.2.2.2.2.2.2.2.2.2.2.2.length := by have := hm0.2; have e : leQ x = (m : Int) := hm; omega
  have hml2 : m ≤ d.2.2.2.2.2.2.2.2.2.2.2.1 := Nat.le_trans hml hmc
  have hlkl : (lkQ d x).length = m := by
    have e : leQ x = (m : Int) := hm
    have e2 : (leQ x).toNat = m := by omega
    unfold lkQ
    rw [List.length_take]
    omega
  have hpos : 0 < (cnM (cfOf d.1) x).length := List.length_pos_of_mem ((cnM_mem _ _ _).2 (Or.inl (Or.inl rfl)))
  have hcl := mt_len (cfOf d.1) x hap
  have HV : Hid (hoM d x = !(mtB (cnM (cfOf d.1) x) (lkQ d x))) := by show _ = _; unfold hoM; rw [decide_eq_true hpos, Bool.true_and]
  obtain ⟨A0, hA0⟩ : ∃ A0, V.alloc (.cells #[.int .i64 0, .int .i64 0, .int .i64 0, .int .i64 0, .int .i64 0, .int .i64 0, .int .i64 0, .int .i64 0, .int .i64 0, .int .i64 0, .int .i64 0, .slice none 0 0, .slice none 0 0, .int .i64 0, .string ⟨#[]⟩] 82) = A0 := ⟨_, rfl⟩
  have T0 : Blk V.heap.size [.int .i64 0, .int .i64 0, .int .i64 0, .int .i64 0, .int .i64 0, .int .i64 0, .int .i64 0, .int .i64 0, .int .i64 0, .int .i64 0, .int .i64 0, .slice none 0 0, .slice none 0 0, .int .i64 0, .string ⟨#[]⟩] A0 := by rw [← hA0]; exact Blk.new _ _ _
  have b0 : Below V.heap.size V A0 := by rw [← hA0]; exact (Below.refl _ _).alloc (Nat.le_refl _) _
  obtain ⟨A1, hA1⟩ : ∃ A1, A0.setCells V.heap.size 0 [.int .i64 x.1, .int .i64 x.2.1, .int .i64 x.2.2.1, .int .i64 x.2.2.2.1, .int .i64 x.2.2.2.2.1, .int .i64 x.2.2.2.2.2.1.1, .int .i64 x.2.2.2.2.2.1.2.1, .int .i64 x.2.2.2.2.2.1.2.2, .int .i64 x.2.2.2.2.2.2.1.1, .int .i64 x.2.2.2.2.2.2.1.2.1, .int .i64 x.2.2.2.2.2.2.1.2.2, .slice x.2.2.2.2.2.2.2.1.1 x.2.2.2.2.2.2.2.1.2.2.length x.2.2.2.2.2.2.2.1.2.1, .slice x.2.2.2.2.2.2.2.2.1.1 x.2.2.2.2.2.2.2.2.1.2.2.length x.2.2.2.2.2.2.2.2.1.2.1, .int .i64 x.2.2.2.2.2.2.2.2.2.1, .string x.2.2.2.2.2.2.2.2.2.2] = A1 := ⟨_, rfl⟩
  have T1 : Blk V.heap.size [.int .i64 x.1, .int .i64 x.2.1, .int .i64 x.2.2.1, .int .i64 x.2.2.2.1, .int .i64 x.2.2.2.2.1, .int .i64 x.2.2.2.2.2.1.1, .int .i64 x.2.2.2.2.2.1.2.1, .int .i64 x.2.2.2.2.2.1.2.2, .int .i64 x.2.2.2.2.2.2.1.1, .int .i64 x.2.2.2.2.2.2.1.2.1, .int .i64 x.2.2.2.2.2.2.1.2.2, .slice x.2.2.2.2.2.2.2.1.1 x.2.2.2.2.2.2.2.1.2.2.length x.2.2.2.2.2.2.2.1.2.1, .slice x.2.2.2.2.2.2.2.2.1.1 x.2.2.2.2.2.2.2.2.1.2.2.length x.2.2.2.2.2.2.2.2.1.2.1, .int .i64 x.2.2.2.2.2.2.2.2.2.1, .string x.2.2.2.2.2.2.2.2.2.2] A1 := by rw [← hA1]; exact T0.sets _ rfl
  have b1' : Below V.heap.size V A1 := by rw [← hA1]; exact below_sets (Nat.le_refl _) _ _ _ b0
  have TV1 := TV.later b1' TV.lt
  have BC1 := BC.trans (b1'.mono BC.size)
  have K1 := specConcerns_is (cfOf d.1) x A1 ((cf_at hF).later BC1) hCf (hQ.later BC1) hcf hap
  have K2 := fun (U : World) (ra : Option Addr) (rc : Nat) (ho : U.ownsRow A1.heap.size 3 1 (.slice ra (cnM (cfOf d.1) x).length rc) (cnM (cfOf d.1) x).length (intV (cnM (cfOf d.1) x))) (h : Below w.heap.size w U) => meets_is ra rc (cnM (cfOf d.1) x) d.2.2.2.2.2.2.2.2.2.2.1 d.2.2.2.2.2.2.2.2.2.2.2.1 (lkQ d x) U (irow_of ho) ((row_take hlr _).later h) (by omega) (by rw [hlkl]; omega)
  rw [hlkl] at K2
  have HM : Hid (x.2.2.2.2.2.2.2.2.2.1 = (m : Int)) := hm
  have hpos2 : (0 : Int) < ((cnM (cfOf d.1) x).length : Int) := by omega
  have HX : Hid (k < xs.length) := hk2
  clear hm hml hmc hlkl hm0 hcf hap hQ hF hCf hlr hl40 b0 b1' BC hxs hlq hpos hcl
  generalize mtB (cnM (cfOf d.1) x) (lkQ d x) = mb at K2 HV
  generalize cnM (cfOf d.1) x = cn at K1 K2 hpos2
  go_enter Tryz.func55, Tryz.ntmps55
  go_wp2_with (first | (refine wpList_stB 82 _ _ V.heap.size 0 _ [.int .i64 x.1, .int .i64 x.2.1, .int .i64 x.2.2.1, .int .i64 x.2.2.2.1, .int .i64 x.2.2.2.2.1, .int .i64 x.2.2.2.2.2.1.1, .int .i64 x.2.2.2.2.2.1.2.1, .int .i64 x.2.2.2.2.2.1.2.2, .int .i64 x.2.2.2.2.2.2.1.1, .int .i64 x.2.2.2.2.2.2.1.2.1, .int .i64 x.2.2.2.2.2.2.1.2.2, .slice x.2.2.2.2.2.2.2.1.1 x.2.2.2.2.2.2.2.1.2.2.length x.2.2.2.2.2.2.2.1.2.1, .slice x.2.2.2.2.2.2.2.2.1.1 x.2.2.2.2.2.2.2.2.1.2.2.length x.2.2.2.2.2.2.2.2.1.2.1, .int .i64 x.2.2.2.2.2.2.2.2.2.1, .string x.2.2.2.2.2.2.2.2.2.2] iq hiq T0 hiqs.symm (by simp) rfl rfl rfl rfl rfl ?_; rw [hA1]) | (refine wpList_ldB 40 _ w.heap.size 0 _ [.slice d.1.1.1 d.1.1.2.2.length d.1.1.2.1, .slice d.1.2.1.1 d.1.2.1.2.2.length d.1.2.1.2.1, .slice d.1.2.2.1.1 d.1.2.2.1.2.2.length d.1.2.2.1.2.1, .slice d.1.2.2.2.1.1 d.1.2.2.2.1.2.2.length d.1.2.2.2.1.2.1, .int .i64 d.1.2.2.2.2] ic hic (Tryz.isAgg40) TV1 hics.symm rfl rfl rfl rfl ?_) | (refine wpList_ldB 82 _ V.heap.size 0 _ [.int .i64 x.1, .int .i64 x.2.1, .int .i64 x.2.2.1, .int .i64 x.2.2.2.1, .int .i64 x.2.2.2.2.1, .int .i64 x.2.2.2.2.2.1.1, .int .i64 x.2.2.2.2.2.1.2.1, .int .i64 x.2.2.2.2.2.1.2.2, .int .i64 x.2.2.2.2.2.2.1.1, .int .i64 x.2.2.2.2.2.2.1.2.1, .int .i64 x.2.2.2.2.2.2.1.2.2, .slice x.2.2.2.2.2.2.2.1.1 x.2.2.2.2.2.2.2.1.2.2.length x.2.2.2.2.2.2.2.1.2.1, .slice x.2.2.2.2.2.2.2.2.1.1 x.2.2.2.2.2.2.2.2.1.2.2.length x.2.2.2.2.2.2.2.2.1.2.1, .int .i64 x.2.2.2.2.2.2.2.2.2.1, .string x.2.2.2.2.2.2.2.2.2.2] iq hiq (Tryz.isAgg82) T1 hiqs.symm rfl rfl rfl rfl ?_))
  refine K1.mono ?_
  clear K1 T0 hA0 hA1 hV c0 c1 c2 c3 c4 c5 c6 c7 c8 c9 c10 c11 c12 c13 c14 d14 d15 TV
  rintro en v1 ⟨ra, rca, rfl, ho1, hb⟩
  replace TV1 := TV1.later hb TV1.lt
  replace T1 := T1.later hb T1.lt
  replace BC1 := BC1.trans (hb.mono BC1.size)
  have K3 := K2 v1 ra rca ho1 BC1
  have f15 := TV1.at 15 rfl
  have f13 := T1.at 13 rfl
  rw [HM.out] at f13
  clear K2 ho1 hb
  go_wp2_with fail
  refine K3.mono ?_
  clear K3
  rintro en v2 ⟨rfl, rfl⟩
  clear f15 f13 TV1 T1
  cases mb with
  | true =>
    go_wp2
    go_ret
    exact ⟨by rw [HV.out]; rfl, BC1⟩
  | false =>
    go_wp2
    go_ret
    exact ⟨by rw [HV.out]; rfl, BC1⟩
end Go.Proofs.YtjcmbbnklfemcaaGreat.Nd
