/- Plain mathematics: round trips of sealed terms, lists, atoms, numbers. -/
import Derived.Test.YtaeecaebjafnpaaTrip
set_option linter.unusedVariables false
namespace Go.Proofs.Ytaeecaebjafnpaa
open Go.RowKit Own Var Term

theorem okOr_full {s : ByteArray} (h : (okOr s).size ≠ 0) : isT s = true ∧ okOr s = s := by
  rcases Bool.eq_false_or_eq_true (isT s) with hT | hT
  · exact ⟨hT, okOr_yes hT⟩
  · rw [okOr_no hT] at h; exact absurd rfl h
theorem isT_nil : isT ⟨#[]⟩ = false := by
  rw [← Bool.not_eq_true, isT_iff]
  intro h
  have := not_empty h
  have e : (⟨#[]⟩ : ByteArray).size = 0 := rfl
  omega
theorem rk_nil (kind : Nat) : rk ⟨#[]⟩ kind = none := rk_no (fun c => by have := (isT_iff _).2 c.1; rw [isT_nil] at this; cases this)
theorem rk_made {c : UInt8} {n kind : Nat} {t : ByteArray} (hn : n ≤ 562949953421311) (h : isT (hdT c n ++ t) = true) (hc : c.toNat = kind) : rk (hdT c n ++ t) kind = some (n, t) := by
  have hI := (isT_iff _).1 h
  rw [rk_yes hI (by rw [at_one]; exact hc)]
  obtain ⟨m, r, hcut⟩ := hI.cut
  have hm := cut_made c n hn t
  rw [hcut] at hm
  by_cases hk : hdOk c.toNat n = true
  · rw [if_pos hk] at hm; rw [hcut, hm]
  · rw [if_neg hk] at hm; cases hm

theorem seal_trip (k : Int) (t : ByteArray) (h : (sealT k t).size ≠ 0) : openR (sealT k t) k = (t, true) ∧ (openR (sealT k t) (k + 1)).2 = false ∧ isT (sealT k t) = true := by
  unfold sealT at h ⊢
  by_cases hk : 1 ≤ k ∧ k ≤ 1000000
  · rw [if_pos hk] at h ⊢
    obtain ⟨hT, e⟩ := okOr_full h
    rw [e]
    obtain ⟨n, rfl⟩ := Int.eq_ofNat_of_zero_le (by omega : 0 ≤ k)
    have hr := rk_made (kind := 115) (by omega) hT rfl
    unfold openR
    rw [hr]
    refine ⟨by simp, ?_, hT⟩
    have : ¬ ((n : Int) = (n : Int) + 1) := by omega
    simp only [this, if_false]
  · rw [if_neg hk] at h; exact absurd rfl h

theorem cat_cons (x : ByteArray) (xs : List ByteArray) : cat (x :: xs) = x ++ cat xs := by
  apply ext_list; rw [data_append, cat_list, cat_list]; simp
theorem ext_app (a b : ByteArray) : (a ++ b).extract 0 a.size = a := by
  apply ext_list; rw [extract_list, data_append, List.drop_zero, Nat.sub_zero, size_list, List.take_left]
theorem psL_cat (xs : List ByteArray) (h : ∀ x ∈ xs, isT x = true) : psL xs.length (cat xs) = xs := by
  induction xs with
  | nil => rfl
  | cons x xs ih =>
    have hx := isT_app (h x (List.mem_cons_self ..)) (cat xs)
    rw [cat_cons, List.length_cons, psL_succ hx, ih (fun y hy => h y (List.mem_cons_of_mem _ hy))]
    have : (x ++ cat xs).size - (cat xs).size = x.size := by rw [ByteArray.size_append]; omega
    rw [this, ext_app]
theorem list_trip (xs : List ByteArray) : partsR (listT xs) = if (listT xs).size = 0 then ([], false) else (xs, true) := by
  by_cases h : (listT xs).size = 0
  · rw [if_pos h, empty_of _ h]
    unfold partsR; rw [rk_nil]
  · rw [if_neg h]
    unfold listT at h ⊢
    by_cases hc : xs.length ≤ 12 ∧ xs.all isT = true
    · rw [if_pos hc] at h ⊢
      obtain ⟨hT, e⟩ := okOr_full h
      rw [e]
      have hr := rk_made (kind := 108) (by omega) hT rfl
      unfold partsR
      rw [hr]
      show (psL xs.length (cat xs), true) = (xs, true)
      rw [psL_cat xs (List.all_eq_true.1 hc.2)]
    · rw [if_neg hc] at h; exact absurd rfl h

theorem suf_all (d : ByteArray) : suf d d.size = ⟨#[]⟩ := by apply empty_of; rw [suf_size]; omega
theorem atom_isT (d : ByteArray) (h : d.size ≤ 40) : isT (hdT 97 d.size ++ d) = true := by
  rw [isT_iff]
  have hc := cut_made 97 d.size (by omega) d
  rw [if_pos (by simp [hdOk]; omega)] at hc
  have hx : at_ (hdT 97 d.size ++ d) 0 = 97 := at_one 97 d.size d
  refine ⟨?_, suf d d.size, ?_, by rw [suf_all]; rfl⟩
  · rw [ByteArray.size_append, hdT_size]; have := varOf_size (d.size : Int); omega
  · rw [bh_some hc, if_pos hx, if_pos (Nat.le_refl _)]
theorem atom_trip (d : ByteArray) (h : d.size ≤ 1048576) : atomR (atomT d) = if d.size ≤ 40 then (d, true) else (⟨#[]⟩, false) := by
  by_cases h4 : d.size ≤ 40
  · rw [if_pos h4]
    have hT := atom_isT d h4
    unfold atomT
    rw [okOr_yes hT]
    unfold atomR
    rw [rk_made (kind := 97) (by omega) hT rfl]
  · rw [if_neg h4, atomT_big d (by omega) h]
    unfold atomR; rw [rk_nil]

theorem num_trip (z : Int) (h : isT (numT z) = true) : numR (numT z) = (z, true) := by
  have hz : (varOf z).size ≠ 0 := by
    intro h0
    unfold numT at h
    rw [if_pos h0, isT_nil] at h
    cases h
  have hr : 0 ≤ z ∧ z ≤ 562949953421311 := by
    by_cases c : 0 ≤ z ∧ z ≤ 562949953421311
    · exact c
    · rw [varOf_no z c] at hz; exact absurd rfl hz
  have hv := varOf_size z
  have e : numT z = atomT (varOf z) := by unfold numT; rw [if_neg hz]
  have ha := atom_trip (varOf z) (by omega)
  rw [if_pos (by omega)] at ha
  obtain ⟨n, rfl⟩ := Int.eq_ofNat_of_zero_le hr.1
  have hm := rv_made n (by omega) ⟨#[]⟩
  rw [app_nil] at hm
  unfold numR
  rw [e, ha]
  have h1 : 1 ≤ (varOf (n : Int)).size := by omega
  simp [hm.1, hm.2, h1]
theorem nums_trip (zs : List Int) : numsR (numsT zs) = if (numsT zs).size = 0 then ([], false) else (zs, true) := by
  have hp := list_trip (zs.map numT)
  unfold numsR numsT
  rw [hp]
  by_cases h : (listT (zs.map numT)).size = 0
  · rw [if_pos h, if_pos h]; rfl
  · rw [if_neg h, if_neg h]
    have hall : ∀ x ∈ zs.map numT, isT x = true := by
      unfold listT at h
      by_cases hc : (zs.map numT).length ≤ 12 ∧ (zs.map numT).all isT = true
      · exact List.all_eq_true.1 hc.2
      · rw [if_neg hc] at h; exact absurd rfl h
    have hz : ∀ z ∈ zs, numR (numT z) = (z, true) := fun z hz => num_trip z (hall _ (List.mem_map.2 ⟨z, hz, rfl⟩))
    unfold numsP
    rw [if_pos]
    · congr 1
      rw [List.map_map]
      have : ∀ z ∈ zs, ((fun x => (numR x).1) ∘ numT) z = z := fun z h => by simp only [Function.comp, hz z h]
      rw [List.map_congr_left this, List.map_id']
    · rw [Bool.true_and, List.all_eq_true]
      intro x hx
      obtain ⟨z, hz', rfl⟩ := List.mem_map.1 hx
      rw [hz z hz']

/-! What a reader takes its maker makes. -/
theorem key_back (s : ByteArray) (h : (keyR s).2 = true) : keyT (keyR s).1 = s := by
  unfold keyR at h ⊢
  cases hr : rk s 107 with
  | none => rw [hr] at h; cases h
  | some q =>
    obtain ⟨n, r⟩ := q
    obtain ⟨hT, _, hk, hc, _, _⟩ := rk_facts hr
    obtain ⟨c, e, hok, hat, hn⟩ := cut_form hc
    obtain ⟨_, r', hb, hr0⟩ := (isT_iff s).1 hT
    rw [bh_some hc, if_neg (by omega), if_neg (by omega), if_neg (by omega), Option.some.injEq] at hb
    subst hb
    have hc107 : c.toNat = 107 := by omega
    have ec : c = 107 := by apply UInt8.toNat_inj.1; rw [hc107]; rfl
    subst ec
    rw [empty_of r hr0, app_nil] at e
    rw [hc107] at hok
    have hn2 : 1 ≤ n ∧ n ≤ 1000000 := by simpa [hdOk] using hok
    show keyT (n : Int) = s
    unfold keyT
    rw [if_pos (by omega), e]
theorem seal_back (s : ByteArray) (i : Int) (h : (openR s i).2 = true) : sealT i (openR s i).1 = s := by
  unfold openR at h ⊢
  cases hr : rk s 115 with
  | none => rw [hr] at h; cases h
  | some q =>
    obtain ⟨n, t⟩ := q
    rw [hr] at h
    simp only at h ⊢
    by_cases hni : (n : Int) = i
    · rw [if_pos hni]
      obtain ⟨hT, _, hk, hc, _, _⟩ := rk_facts hr
      obtain ⟨c, e, hok, hat, hn⟩ := cut_form hc
      have hc115 : c.toNat = 115 := by omega
      have ec : c = 115 := by apply UInt8.toNat_inj.1; rw [hc115]; rfl
      subst ec
      rw [hc115] at hok
      have hn2 : 1 ≤ n ∧ n ≤ 1000000 := by simpa [hdOk] using hok
      subst hni
      unfold sealT
      rw [if_pos (by omega), ← e, okOr_yes hT]
    · rw [if_neg hni] at h; cases h
theorem psL_back (n : Nat) : ∀ r E, rep (bh 7) n r = some E → cat (psL n r) ++ E = r ∧ ∀ x ∈ psL n r, bh 8 x = some ⟨#[]⟩ := by
  induction n with
  | zero =>
    intro r E h
    simp only [rep, Option.some.injEq] at h
    subst h
    exact ⟨by rw [psL, cat_nil, nil_app], fun x hx => by simp [psL] at hx⟩
  | succ n ih =>
    intro r E h
    obtain ⟨r', h1, h2⟩ := rep_succ h
    have h8 := bh_mono 7 r r' h1
    obtain ⟨p, e, q⟩ := bh_pre 8 r r' h8
    obtain ⟨i1, i2⟩ := ih r' E h2
    have hp : r.extract 0 (r.size - r'.size) = p := by
      rw [e, ByteArray.size_append, (by omega : p.size + r'.size - r'.size = p.size), ext_app]
    rw [psL_succ h8, hp]
    refine ⟨by rw [cat_cons, app_assoc, i1, ← e], fun x hx => ?_⟩
    rcases List.mem_cons.1 hx with rfl | hx
    · have := q ⟨#[]⟩
      rwa [app_nil] at this
    · exact i2 x hx
theorem list_back (s : ByteArray) (h : (partsR s).2 = true) : listT (partsR s).1 = s := by
  have hsz := parts_size s
  unfold partsR at h hsz ⊢
  cases hr : rk s 108 with
  | none => rw [hr] at h; cases h
  | some q =>
    obtain ⟨n, r⟩ := q
    rw [hr] at hsz
    simp only at hsz ⊢
    obtain ⟨hT, _, hk, hc, _, _⟩ := rk_facts hr
    obtain ⟨c, e, hok, hat, hn⟩ := cut_form hc
    have hc108 : c.toNat = 108 := by omega
    have ec : c = 108 := by apply UInt8.toNat_inj.1; rw [hc108]; rfl
    subst ec
    rw [hc108] at hok
    have hn2 : n ≤ 12 := by simpa [hdOk] using hok
    obtain ⟨_, E, hb, hE0⟩ := (isT_iff s).1 hT
    rw [bh_some hc, if_neg (by omega), if_pos hk] at hb
    obtain ⟨b1, b2⟩ := psL_back n r E hb
    rw [empty_of E hE0, app_nil] at b1
    have hl := psL_len n r E hb
    have hall : (psL n r).all isT = true := by
      rw [List.all_eq_true]
      intro x hx
      exact (isT_iff x).2 ⟨hsz x hx, _, b2 x hx, rfl⟩
    unfold listT
    rw [hl, if_pos ⟨hn2, hall⟩, b1, ← e, okOr_yes hT]
/-! One kind at most. -/
theorem atom_kind (s : ByteArray) (h : (atomR s).2 = true) : isT s = true ∧ at_ s 0 = 97 := by
  unfold atomR at h
  cases hr : rk s 97 with
  | none => rw [hr] at h; cases h
  | some q => obtain ⟨hT, _, hk, _⟩ := rk_facts (r := q.2) (n := q.1) hr; exact ⟨hT, hk⟩
theorem key_kind (s : ByteArray) (h : (keyR s).2 = true) : isT s = true ∧ at_ s 0 = 107 := by
  unfold keyR at h
  cases hr : rk s 107 with
  | none => rw [hr] at h; cases h
  | some q => obtain ⟨hT, _, hk, _⟩ := rk_facts (r := q.2) (n := q.1) hr; exact ⟨hT, hk⟩
theorem list_kind (s : ByteArray) (h : (partsR s).2 = true) : isT s = true ∧ at_ s 0 = 108 := by
  unfold partsR at h
  cases hr : rk s 108 with
  | none => rw [hr] at h; cases h
  | some q => obtain ⟨hT, _, hk, _⟩ := rk_facts (r := q.2) (n := q.1) hr; exact ⟨hT, hk⟩
theorem seal_kind (s : ByteArray) (i : Int) (h : (openR s i).2 = true) : isT s = true ∧ at_ s 0 = 115 := by
  unfold openR at h
  cases hr : rk s 115 with
  | none => rw [hr] at h; cases h
  | some q => obtain ⟨hT, _, hk, _⟩ := rk_facts (r := q.2) (n := q.1) hr; exact ⟨hT, hk⟩
end Go.Proofs.Ytaeecaebjafnpaa
