/- Plain mathematics: tickets, authenticators and grants are told from a text just where they are shown as it. -/
import Derived.Test.YtbbaddcldoflfaaTickDef
import Derived.Test.YtbbaddcldoflfaaTrip2
import Derived.Test.YtbbaddcldoflfaaShow
import Derived.Test.YtbbaddcldoflfaaRead
set_option linter.unusedVariables false
namespace Go.Proofs.Ytbbaddcldoflfaa
open Go.RowKit Own Var Term

theorem var_back (d : ByteArray) (h1 : 1 ≤ rvK d) (h2 : rvK d = d.size) : varOf (rvN d : Int) = d := by
  have hA := rv_ans d
  have hn := rvN_le d
  rcases hA with ⟨_, hk0, _⟩ | ⟨k1, k7, ks, hc, hv⟩
  · omega
  · have hcv := (canonK_iff d (rvK d - 1) (by omega)).1 hc
    rw [(by omega : rvK d - 1 + 1 = rvK d), ← hv] at hcv
    rw [varOf_nat _ hn]
    apply ext_list
    have e2 : (⟨(varB (rvN d)).toArray⟩ : ByteArray).data.toList = varB (rvN d) := by simp
    rw [e2, hcv, h2, size_list, List.take_length]
theorem atom_back (x : ByteArray) (h : (atomR x).2 = true) : atomT (atomR x).1 = x := by
  unfold atomR at h ⊢
  cases hr : rk x 97 with
  | none => rw [hr] at h; cases h
  | some q =>
    obtain ⟨n, d⟩ := q
    obtain ⟨hT, _, hk, hc, _, _⟩ := rk_facts hr
    obtain ⟨c, e, hok, hat, hn⟩ := cut_form hc
    obtain ⟨_, r', hb, hr0⟩ := (isT_iff x).1 hT
    rw [bh_some hc, if_pos hk] at hb
    have hc97 : c.toNat = 97 := by omega
    have ec : c = 97 := by apply UInt8.toNat_inj.1; rw [hc97]; rfl
    subst ec
    by_cases hnd : n ≤ d.size
    · rw [if_pos hnd, Option.some.injEq] at hb
      subst hb
      rw [suf_size] at hr0
      have hnd' : n = d.size := by omega
      show atomT d = x
      unfold atomT
      rw [← hnd', ← e, okOr_yes hT]
    · rw [if_neg hnd] at hb; cases hb
theorem num_back (x : ByteArray) (h : (numR x).2 = true) : numT (numR x).1 = x := by
  have hh : 1 ≤ rvK (atomR x).1 ∧ rvK (atomR x).1 = (atomR x).1.size := by
    by_cases c : 1 ≤ rvK (atomR x).1 ∧ rvK (atomR x).1 = (atomR x).1.size
    · exact c
    · unfold numR at h; rw [if_neg c] at h; cases h
  have ha : (atomR x).2 = true := by
    cases hq : (atomR x).2 with
    | true => rfl
    | false => rw [atomR_no x hq, rvK_nil] at hh; omega
  have e : (numR x).1 = (rvN (atomR x).1 : Int) := by unfold numR; rw [if_pos hh]
  have v := var_back _ hh.1 hh.2
  rw [e]
  unfold numT
  rw [v, if_neg (by omega)]
  exact atom_back x ha
theorem nums_back (s : ByteArray) (h : (numsR s).2 = true) : numsT (numsR s).1 = s := by
  unfold numsR numsP at h ⊢
  by_cases c : ((partsR s).2 && (partsR s).1.all fun x => (numR x).2) = true
  · rw [if_pos c]
    rw [Bool.and_eq_true, List.all_eq_true] at c
    show listT (((partsR s).1.map fun x => (numR x).1).map numT) = s
    rw [List.map_map]
    have : ∀ x ∈ (partsR s).1, (numT ∘ fun x => (numR x).1) x = x := fun x hx => num_back x (c.2 x hx)
    rw [List.map_congr_left this, List.map_id']
    exact list_back s c.1
  · rw [if_neg c] at h; cases h
theorem key_trip (k : Int) (h : (keyT k).size ≠ 0) : keyR (keyT k) = (k, true) := by
  have hk : 1 ≤ k ∧ k ≤ 1000000 := by
    by_cases c : 1 ≤ k ∧ k ≤ 1000000
    · exact c
    · unfold keyT at h; rw [if_neg c] at h; exact absurd rfl h
  obtain ⟨n, rfl⟩ := Int.eq_ofNat_of_zero_le (by omega : 0 ≤ k)
  have e : keyT (n : Int) = hdT 107 n := by unfold keyT; rw [if_pos hk]
  have hT : isT (hdT 107 n ++ ⟨#[]⟩) = true := by
    rw [app_nil]
    have := okOr_full (s := hdT 107 (n : Int)) (by rw [keyT_ok]; exact h)
    exact this.1
  have hr := rk_made (kind := 107) (by omega) hT rfl
  rw [app_nil] at hr
  unfold keyR
  rw [e, hr]

theorem isT_full {s : ByteArray} (h : isT s = true) : s.size ≠ 0 := by
  intro h0
  rw [empty_of s h0, isT_nil] at h
  cases h
theorem list_all {xs : List ByteArray} (h : (listT xs).size ≠ 0) : ∀ x ∈ xs, isT x = true := by
  unfold listT at h
  by_cases hc : xs.length ≤ 12 ∧ xs.all isT = true
  · exact List.all_eq_true.1 hc.2
  · rw [if_neg hc] at h; exact absurd rfl h
theorem seal_in (k : Int) (t : ByteArray) (h : (sealT k t).size ≠ 0) : isT t = true := by
  cases ht : isT t with
  | true => rfl
  | false => rw [sealT_part k t ht] at h; exact absurd rfl h
theorem open_full (s : ByteArray) (k : Int) (h : (openR s k).2 = true) : s.size ≠ 0 := isT_full (seal_kind s k h).1
theorem nums_ok (s : ByteArray) (h : (numsR s).1 ≠ []) : (numsR s).2 = true := by
  cases hh : (numsR s).2 with
  | true => rfl
  | false => exact absurd (nums_len s hh) h
theorem numsR_nil : numsR ⟨#[]⟩ = ([], false) := by
  unfold numsR partsR
  rw [rk_nil]
  rfl
theorem partsR_nil : partsR ⟨#[]⟩ = ([], false) := by
  unfold partsR
  rw [rk_nil]
theorem openR_no (s : ByteArray) (k : Int) (h : (openR s k).2 = false) : (openR s k).1 = ⟨#[]⟩ := by
  unfold openR at h ⊢
  cases hr : rk s 115 with
  | none => rfl
  | some q =>
    obtain ⟨n, t⟩ := q
    rw [hr] at h
    simp only at h ⊢
    by_cases c : (n : Int) = k
    · rw [if_pos c] at h; cases h
    · rw [if_neg c]

/-! Rests. -/
theorem rdK_len {L : List Int} (h : rdK L = true) : ∃ a b c, L = [a, b, c] ∧ rOk a b c = true := by
  unfold rdK at h
  rw [Bool.and_eq_true, decide_eq_true_eq] at h
  match L, h with
  | [a, b, c], h => exact ⟨a, b, c, rfl, h.2⟩
theorem rest_back (x : ByteArray) (h : rdK (numsR x).1 = true) : shR (rdA (numsR x).1) (rdB (numsR x).1) (rdC (numsR x).1) = x := by
  obtain ⟨a, b, c, e, hr⟩ := rdK_len h
  have ht := nums_ok x (by rw [e]; simp)
  have hb := nums_back x ht
  rw [e] at hb ⊢
  have ea : rdA [a, b, c] = a := by unfold rdA; rw [if_pos ⟨rfl, hr⟩]; rfl
  have eb : rdB [a, b, c] = b := by unfold rdB; rw [if_pos ⟨rfl, hr⟩]; rfl
  have ec : rdC [a, b, c] = c := by unfold rdC; rw [if_pos ⟨rfl, hr⟩]; rfl
  rw [ea, eb, ec]
  unfold shR
  rw [hr]
  exact hb
theorem rest_trip (a b c : Int) (h : (shR a b c).size ≠ 0) : rdK (numsR (shR a b c)).1 = true ∧ rdA (numsR (shR a b c)).1 = a ∧ rdB (numsR (shR a b c)).1 = b ∧ rdC (numsR (shR a b c)).1 = c := by
  have hr : rOk a b c = true := by
    cases hr : rOk a b c with
    | true => rfl
    | false => unfold shR at h; rw [hr] at h; exact absurd rfl h
  have e : shR a b c = numsT [a, b, c] := by unfold shR; rw [hr]; rfl
  rw [e] at h ⊢
  have ht := nums_trip [a, b, c]
  rw [if_neg h] at ht
  rw [ht]
  refine ⟨?_, ?_, ?_, ?_⟩
  · unfold rdK; simp [hr]
  · unfold rdA; rw [if_pos ⟨rfl, hr⟩]; rfl
  · unfold rdB; rw [if_pos ⟨rfl, hr⟩]; rfl
  · unfold rdC; rw [if_pos ⟨rfl, hr⟩]; rfl

/-! What is shown. -/
def inT (c s k a b e : Int) (P V : List Int) : ByteArray := listT [numsT [c, s], keyT k, shR a b e, numsT P, numsT V]
def shT (c s k a b e : Int) (P V : List Int) (key : Int) : ByteArray := if tOk c s k a b e P V then sealT key (inT c s k a b e P V) else ⟨#[]⟩
def shA (c t q key : Int) : ByteArray := if aOk c t q then sealT key (numsT [7, c, t, q]) else ⟨#[]⟩
def inG (k s n a b e : Int) : ByteArray := listT [keyT k, numsT [s, n], shR a b e]
def shG (k s n a b e key : Int) : ByteArray := if gOk k s n a b e then sealT key (inG k s n a b e) else ⟨#[]⟩

theorem if_full {b : Bool} {x : ByteArray} (h : (if b then x else ⟨#[]⟩ : ByteArray).size ≠ 0) : b = true ∧ (if b then x else ⟨#[]⟩ : ByteArray) = x := by
  cases b with
  | true => exact ⟨rfl, rfl⟩
  | false => exact absurd rfl h

theorem tick_iff (s : ByteArray) (key : Int) (x0 x1 x2 x3 x4 : ByteArray) (c sv : Int)
    (hx : [x0, x1, x2, x3, x4] = if (partsR (openR s key).1).1.length = 5 then (partsR (openR s key).1).1 else [⟨#[]⟩, ⟨#[]⟩, ⟨#[]⟩, ⟨#[]⟩, ⟨#[]⟩])
    (hw : [c, sv] = if (numsR x0).1.length = 2 then (numsR x0).1 else [0, 0]) :
    ((shT c sv (keyR x1).1 (rdA (numsR x2).1) (rdB (numsR x2).1) (rdC (numsR x2).1) (numsR x3).1 (numsR x4).1 key).size ≠ 0 ∧ shT c sv (keyR x1).1 (rdA (numsR x2).1) (rdB (numsR x2).1) (rdC (numsR x2).1) (numsR x3).1 (numsR x4).1 key = s) ↔
    ((partsR (openR s key).1).1.length = 5 ∧ (numsR x0).2 = true ∧ (keyR x1).2 = true ∧ rdK (numsR x2).1 = true ∧ (numsR x3).2 = true ∧ (numsR x4).2 = true ∧ (numsR x0).1.length = 2 ∧
      tOk c sv (keyR x1).1 (rdA (numsR x2).1) (rdB (numsR x2).1) (rdC (numsR x2).1) (numsR x3).1 (numsR x4).1 = true) := by
  constructor
  · rintro ⟨h0, hs⟩
    obtain ⟨hok, e⟩ := if_full h0
    have e' : shT c sv (keyR x1).1 (rdA (numsR x2).1) (rdB (numsR x2).1) (rdC (numsR x2).1) (numsR x3).1 (numsR x4).1 key = sealT key (inT c sv (keyR x1).1 (rdA (numsR x2).1) (rdB (numsR x2).1) (rdC (numsR x2).1) (numsR x3).1 (numsR x4).1) := e
    rw [e'] at h0 hs
    have ho := (seal_trip _ _ h0).1
    have hi := isT_full (seal_in _ _ h0)
    unfold inT at hi
    rw [hs] at ho
    have hl := list_trip [numsT [c, sv], keyT (keyR x1).1, shR (rdA (numsR x2).1) (rdB (numsR x2).1) (rdC (numsR x2).1), numsT (numsR x3).1, numsT (numsR x4).1]
    rw [if_neg hi] at hl
    have hp : (partsR (openR s key).1).1 = [numsT [c, sv], keyT (keyR x1).1, shR (rdA (numsR x2).1) (rdB (numsR x2).1) (rdC (numsR x2).1), numsT (numsR x3).1, numsT (numsR x4).1] := by
      rw [ho]; show (partsR (listT _)).1 = _; rw [hl]
    have hall := list_all hi
    rw [hp, if_pos (by rfl)] at hx
    simp only [List.cons.injEq, and_true] at hx
    obtain ⟨q0, q1, q2, q3, q4⟩ := hx
    have t0 := nums_trip [c, sv]
    have t3 := nums_trip (numsR x3).1
    have t4 := nums_trip (numsR x4).1
    have i0 := isT_full (hall _ (by simp : numsT [c, sv] ∈ _))
    have i1 := isT_full (hall _ (by simp : keyT (keyR x1).1 ∈ _))
    have i2 := isT_full (hall _ (by simp : shR (rdA (numsR x2).1) (rdB (numsR x2).1) (rdC (numsR x2).1) ∈ _))
    have i3 := isT_full (hall _ (by simp : numsT (numsR x3).1 ∈ _))
    have i4 := isT_full (hall _ (by simp : numsT (numsR x4).1 ∈ _))
    rw [if_neg i0, ← q0] at t0
    rw [if_neg i3, ← q3] at t3
    rw [if_neg i4, ← q4] at t4
    have t1 := key_trip _ i1
    rw [← q1] at t1
    have t2 := (rest_trip _ _ _ i2).1
    rw [← q2] at t2
    exact ⟨by rw [hp]; rfl, by rw [t0], by rw [t1], t2, by rw [t3], by rw [t4], by rw [t0]; rfl, hok⟩
  · rintro ⟨h5, k0, k1, k2, k3, k4, hl2, hok⟩
    rw [if_pos h5] at hx
    rw [if_pos hl2] at hw
    have hopen : (openR s key).2 = true := by
      cases ho : (openR s key).2 with
      | true => rfl
      | false => rw [openR_no s key ho, partsR_nil] at h5; cases h5
    have hparts : (partsR (openR s key).1).2 = true := by
      cases hp : (partsR (openR s key).1).2 with
      | true => rfl
      | false => rw [parts_no _ hp] at h5; cases h5
    have b0 := nums_back _ k0
    rw [← hw] at b0
    have e : shT c sv (keyR x1).1 (rdA (numsR x2).1) (rdB (numsR x2).1) (rdC (numsR x2).1) (numsR x3).1 (numsR x4).1 key = s := by
      unfold shT inT
      rw [hok, b0, key_back _ k1, rest_back _ k2, nums_back _ k3, nums_back _ k4, hx, list_back _ hparts]
      exact seal_back s key hopen
    exact ⟨by rw [e]; exact open_full s key hopen, e⟩

theorem grant_iff (s : ByteArray) (key : Int) (x0 x1 x2 : ByteArray) (sv n : Int)
    (hx : [x0, x1, x2] = if (partsR (openR s key).1).1.length = 3 then (partsR (openR s key).1).1 else [⟨#[]⟩, ⟨#[]⟩, ⟨#[]⟩])
    (hw : [sv, n] = if (numsR x1).1.length = 2 then (numsR x1).1 else [0, 0]) :
    ((shG (keyR x0).1 sv n (rdA (numsR x2).1) (rdB (numsR x2).1) (rdC (numsR x2).1) key).size ≠ 0 ∧ shG (keyR x0).1 sv n (rdA (numsR x2).1) (rdB (numsR x2).1) (rdC (numsR x2).1) key = s) ↔
    ((partsR (openR s key).1).1.length = 3 ∧ (keyR x0).2 = true ∧ (numsR x1).2 = true ∧ rdK (numsR x2).1 = true ∧ (numsR x1).1.length = 2 ∧
      gOk (keyR x0).1 sv n (rdA (numsR x2).1) (rdB (numsR x2).1) (rdC (numsR x2).1) = true) := by
  constructor
  · rintro ⟨h0, hs⟩
    obtain ⟨hok, e⟩ := if_full h0
    have e' : shG (keyR x0).1 sv n (rdA (numsR x2).1) (rdB (numsR x2).1) (rdC (numsR x2).1) key = sealT key (inG (keyR x0).1 sv n (rdA (numsR x2).1) (rdB (numsR x2).1) (rdC (numsR x2).1)) := e
    rw [e'] at h0 hs
    have ho := (seal_trip _ _ h0).1
    have hi := isT_full (seal_in _ _ h0)
    unfold inG at hi
    rw [hs] at ho
    have hl := list_trip [keyT (keyR x0).1, numsT [sv, n], shR (rdA (numsR x2).1) (rdB (numsR x2).1) (rdC (numsR x2).1)]
    rw [if_neg hi] at hl
    have hp : (partsR (openR s key).1).1 = [keyT (keyR x0).1, numsT [sv, n], shR (rdA (numsR x2).1) (rdB (numsR x2).1) (rdC (numsR x2).1)] := by
      rw [ho]; show (partsR (listT _)).1 = _; rw [hl]
    have hall := list_all hi
    rw [hp, if_pos (by rfl)] at hx
    simp only [List.cons.injEq, and_true] at hx
    obtain ⟨q0, q1, q2⟩ := hx
    have t1 := nums_trip [sv, n]
    have i0 := isT_full (hall _ (by simp : keyT (keyR x0).1 ∈ _))
    have i1 := isT_full (hall _ (by simp : numsT [sv, n] ∈ _))
    have i2 := isT_full (hall _ (by simp : shR (rdA (numsR x2).1) (rdB (numsR x2).1) (rdC (numsR x2).1) ∈ _))
    rw [if_neg i1, ← q1] at t1
    have t0 := key_trip _ i0
    rw [← q0] at t0
    have t2 := (rest_trip _ _ _ i2).1
    rw [← q2] at t2
    exact ⟨by rw [hp]; rfl, by rw [t0], by rw [t1], t2, by rw [t1]; rfl, hok⟩
  · rintro ⟨h3, k0, k1, k2, hl2, hok⟩
    rw [if_pos h3] at hx
    rw [if_pos hl2] at hw
    have hopen : (openR s key).2 = true := by
      cases ho : (openR s key).2 with
      | true => rfl
      | false => rw [openR_no s key ho, partsR_nil] at h3; cases h3
    have hparts : (partsR (openR s key).1).2 = true := by
      cases hp : (partsR (openR s key).1).2 with
      | true => rfl
      | false => rw [parts_no _ hp] at h3; cases h3
    have b1 := nums_back _ k1
    rw [← hw] at b1
    have e : shG (keyR x0).1 sv n (rdA (numsR x2).1) (rdB (numsR x2).1) (rdC (numsR x2).1) key = s := by
      unfold shG inG
      rw [hok, b1, key_back _ k0, rest_back _ k2, hx, list_back _ hparts]
      exact seal_back s key hopen
    exact ⟨by rw [e]; exact open_full s key hopen, e⟩

theorem auth_iff (s : ByteArray) (key : Int) (m c t q : Int)
    (hx : [m, c, t, q] = if (numsR (openR s key).1).1.length = 4 then (numsR (openR s key).1).1 else [0, 0, 0, 0]) :
    ((shA c t q key).size ≠ 0 ∧ shA c t q key = s) ↔ ((numsR (openR s key).1).2 = true ∧ (numsR (openR s key).1).1.length = 4 ∧ m = 7 ∧ aOk c t q = true) := by
  constructor
  · rintro ⟨h0, hs⟩
    obtain ⟨hok, e⟩ := if_full h0
    have e' : shA c t q key = sealT key (numsT [7, c, t, q]) := e
    rw [e'] at h0 hs
    have ho := (seal_trip _ _ h0).1
    have hi := isT_full (seal_in _ _ h0)
    rw [hs] at ho
    have hl := nums_trip [7, c, t, q]
    rw [if_neg hi] at hl
    rw [ho, hl] at hx ⊢
    simp at hx
    exact ⟨rfl, rfl, hx, hok⟩
  · rintro ⟨k, h4, rfl, hok⟩
    rw [if_pos h4] at hx
    have hopen : (openR s key).2 = true := by
      cases ho : (openR s key).2 with
      | true => rfl
      | false => rw [openR_no s key ho, numsR_nil] at h4; cases h4
    have e : shA c t q key = s := by
      unfold shA
      rw [hok, hx, nums_back _ k]
      exact seal_back s key hopen
    exact ⟨by rw [e]; exact open_full s key hopen, e⟩
end Go.Proofs.Ytbbaddcldoflfaa
