/- Plain mathematics: Times that are right are shown, and what is shown of them is read. -/
import Derived.Test.YtaeecaebjafnpaaTmM
set_option linter.unusedVariables false
set_option maxRecDepth 100000
namespace Go.Proofs.Ytaeecaebjafnpaa
open Go.RowKit Own Var Term

theorem bh_atom (d y : ByteArray) (f : Nat) (h : d.size ≤ 40) : bh (f + 1) (hdT 97 d.size ++ d ++ y) = some y := by
  have hc := cut_made 97 d.size (by omega) (d ++ y)
  rw [if_pos (by simp [hdOk]; omega)] at hc
  rw [app_assoc]
  have hx : at_ (hdT 97 d.size ++ (d ++ y)) 0 = 97 := at_one 97 d.size (d ++ y)
  rw [bh_some hc, if_pos hx, if_pos (by rw [ByteArray.size_append]; omega), suf_app]
theorem numT_atom (z : Int) (h : 0 ≤ z ∧ z ≤ 562949953421311) : numT z = hdT 97 (varOf z).size ++ varOf z ∧ (varOf z).size ≤ 7 := by
  have hv := varOf_size z
  have h1 : (varOf z).size ≠ 0 := by
    obtain ⟨n, rfl⟩ := Int.eq_ofNat_of_zero_le h.1
    have hv1 : 1 ≤ (varOf (n : Int)).size := by rw [varOf_nat n (by omega)]; exact varB_pos n
    omega
  refine ⟨?_, hv⟩
  unfold numT
  rw [if_neg h1]
  unfold atomT
  exact okOr_yes (atom_isT _ (by omega))
theorem isT_full {s : ByteArray} (h : isT s = true) : s.size ≠ 0 := by
  intro h0
  rw [empty_of s h0, isT_nil] at h
  cases h
theorem tmT_full (a b c d : Int) (h : tmOk a b c d = true) : (tmT a b c d).size ≠ 0 := by
  have hh := (tmOk_iff a b c d).1 h
  have e : tmT a b c d = listT [numT a, numT b, numT c, numT d] := by unfold tmT; rw [h]; rfl
  obtain ⟨na, sa⟩ := numT_atom a (by omega)
  obtain ⟨nb, sb⟩ := numT_atom b (by omega)
  obtain ⟨nc, sc⟩ := numT_atom c (by omega)
  obtain ⟨nd, sd⟩ := numT_atom d (by omega)
  have ia : isT (numT a) = true := by rw [na]; exact atom_isT _ (by omega)
  have ib : isT (numT b) = true := by rw [nb]; exact atom_isT _ (by omega)
  have ic : isT (numT c) = true := by rw [nc]; exact atom_isT _ (by omega)
  have id_ : isT (numT d) = true := by rw [nd]; exact atom_isT _ (by omega)
  have hT : isT (hdT 108 4 ++ cat [numT a, numT b, numT c, numT d]) = true := by
    rw [isT_iff]
    have hcut := cut_made 108 4 (by omega) (cat [numT a, numT b, numT c, numT d])
    rw [if_pos (by simp [hdOk])] at hcut
    have hx : at_ (hdT 108 ((4 : Nat) : Int) ++ cat [numT a, numT b, numT c, numT d]) 0 = 108 := at_one 108 4 _
    have e3 : cat [numT a, numT b, numT c, numT d] = numT a ++ (numT b ++ (numT c ++ (numT d ++ ⟨#[]⟩))) := by
      rw [cat_cons, cat_cons, cat_cons, cat_cons, cat_nil]
    have q : ∀ z : Int, 0 ≤ z ∧ z ≤ 562949953421311 → ∀ y, bh 7 (numT z ++ y) = some y := by
      intro z hz y
      obtain ⟨nz, sz⟩ := numT_atom z hz
      rw [nz]
      exact bh_atom _ _ 6 (by omega)
    have hrep : rep (bh 7) 4 (cat [numT a, numT b, numT c, numT d]) = some ⟨#[]⟩ := by
      rw [e3]
      simp only [rep, q a (by omega), q b (by omega), q c (by omega), q d (by omega)]
      try rfl
    refine ⟨?_, ⟨#[]⟩, ?_, rfl⟩
    · have l1 := numT_size a
      have l2 := numT_size b
      have l3 := numT_size c
      have l5 := numT_size d
      have l4 := varOf_size 4
      rw [ByteArray.size_append, hdT_size, e3, ByteArray.size_append, ByteArray.size_append, ByteArray.size_append, ByteArray.size_append]
      show _ + (_ + (_ + (_ + (_ + 0)))) ≤ 900
      omega
    · have hb8 := bh_some (f := 7) hcut
      rw [if_neg (by rw [hx]; omega), if_pos hx, hrep] at hb8
      exact hb8
  rw [e]
  unfold listT
  rw [if_pos ⟨by simp, by simp [ia, ib, ic, id_]⟩]
  show (okOr (hdT 108 4 ++ cat _)).size ≠ 0
  rw [okOr_yes hT]
  exact isT_full hT
theorem shown_read (a b c d : Int) : trV (numsR (tmT a b c d)).1 = tmIf (tmOk a b c d) a b c d := by
  cases h : tmOk a b c d with
  | true =>
    have hf := tmT_full a b c d h
    unfold tmT at hf ⊢
    rw [h, if_pos rfl] at hf
    rw [h, if_pos rfl, nums_trip, if_neg hf]
    exact (trV_yes a b c d h).symm
  | false =>
    unfold tmT
    rw [h, if_neg (by decide), numsR_nil]
    rfl
theorem read_form (s : ByteArray) : ∃ x y z q : Int, ∃ kk : Bool, trV (numsR s).1 = .tuple #[tv x y z q, .bool kk] ∧ (kk = true → tmT x y z q = s) := by
  cases h : trK (numsR s).1 with
  | false => exact ⟨0, 0, 0, 0, false, (trV_no _ h).symm, fun h => by cases h⟩
  | true =>
    have h4 : (numsR s).1.length = 4 := by
      by_cases c : (numsR s).1.length = 4
      · exact c
      · rw [trK_len _ c] at h; cases h
    have hb := nums_ok s (by intro e; rw [e] at h4; cases h4)
    have hn := nums_back s hb
    obtain ⟨x, y, z, q, e⟩ : ∃ x y z q, (numsR s).1 = [x, y, z, q] := by
      match (numsR s).1, h4 with
      | [x, y, z, q], _ => exact ⟨x, y, z, q, rfl⟩
    rw [e] at h hn ⊢
    have hk : tmOk x y z q = true := h
    refine ⟨x, y, z, q, true, (trV_yes x y z q hk).symm, fun _ => ?_⟩
    unfold tmT
    rw [hk, if_pos rfl]
    exact hn
theorem shown_form (a b c d : Int) : ∃ p0 p1 p2 p3 : Int, trV (numsR (tmT a b c d)).1 = .tuple #[tv p0 p1 p2 p3, .bool (tmOk a b c d)] ∧ (tmOk a b c d = true → a = p0 ∧ b = p1 ∧ c = p2 ∧ d = p3) := by
  rw [shown_read]
  cases h : tmOk a b c d with
  | true => exact ⟨a, b, c, d, rfl, fun _ => ⟨rfl, rfl, rfl, rfl⟩⟩
  | false => exact ⟨0, 0, 0, 0, rfl, fun h => by cases h⟩
end Go.Proofs.Ytaeecaebjafnpaa
