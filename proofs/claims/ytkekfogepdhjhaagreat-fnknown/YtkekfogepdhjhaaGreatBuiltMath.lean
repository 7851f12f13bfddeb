/- What can be built of a sealed term and of a list: plain facts. -/
import Derived.Test.YtkekfogepdhjhaaGreatBuilds
import Derived.Test.YtkekfogepdhjhaaGreatTrip
set_option linter.unusedVariables false
namespace Go.Proofs.YtkekfogepdhjhaaGreat
open Go.RowKit Go.Proofs.YtkekfogepdhjhaaGreat.Own Var Term

/-- Where the depth suffices it does not matter. -/
theorem bld_deep {S : List ByteArray} {K : List Int} : ∀ (f g : Nat), f ≤ g → f ≤ 8 → ∀ (t r : ByteArray), bh f t = some r → bld S K g t = bld S K f t := by
  intro f
  induction f with
  | zero => intro g _ _ t r h; simp [bh] at h
  | succ f ih =>
    intro g hg hf8 t r h
    obtain ⟨g, rfl⟩ : ∃ g', g = g' + 1 := ⟨g - 1, by omega⟩
    cases hi : inB S t with
    | true => rw [bld_seen hi, bld_seen hi]
    | false =>
      cases hc : cut t with
      | none => rw [bh_none hc] at h; cases h
      | some nr =>
        obtain ⟨n, r'⟩ := nr
        rw [bh_some hc] at h
        rw [bld_not hi hc, bld_not hi hc]
        by_cases h97 : at_ t 0 = 97
        · rw [if_pos h97, if_pos h97]
        · rw [if_neg h97, if_neg h97]
          rw [if_neg h97] at h
          by_cases h107 : at_ t 0 = 107
          · rw [if_pos h107, if_pos h107]
          · rw [if_neg h107, if_neg h107]
            by_cases h108 : at_ t 0 = 108
            · rw [if_pos h108, if_pos h108]
              rw [if_pos h108] at h
              have hd := psL_deep (f := f) (by omega) n r' r h
              rw [Bool.eq_iff_iff, List.all_eq_true, List.all_eq_true]
              constructor
              · intro H x hx; rw [← ih g (by omega) (by omega) x _ (hd x hx)]; exact H x hx
              · intro H x hx; rw [ih g (by omega) (by omega) x _ (hd x hx)]; exact H x hx
            · rw [if_neg h108, if_neg h108]
              rw [if_neg h108] at h
              have h115 : at_ t 0 = 115 := by rcases hd_kind hc with e | e | e | e <;> omega
              rw [if_pos h115] at h
              rw [ih g (by omega) (by omega) r' r h]

/-- What is seen and what is reached can be listed. -/
theorem seen_lists {xs : List ByteArray} {ks : List Int} (h : kOk xs ks = true) : ∃ (S : List ByteArray) (K : List Int), (∀ u, u ∈ S ↔ SeenT xs ks u) ∧ ∀ k, k ∈ K ↔ ReachT xs ks k := by
  obtain ⟨_, _, hks⟩ := kOk_facts h
  refine ⟨((allInf xs).map fun l => ⟨l.toArray⟩).filter (fun u => @decide (SeenT xs ks u) (Classical.propDecidable _)), ((List.range 1000001).map Int.ofNat).filter (fun k => @decide (ReachT xs ks k) (Classical.propDecidable _)), fun u => ?_, fun k => ?_⟩
  · rw [List.mem_filter, @decide_eq_true_iff _ (Classical.propDecidable _)]
    constructor
    · exact fun h => h.2
    · intro hu
      refine ⟨?_, hu⟩
      obtain ⟨x, hx, hsub⟩ := seen_sub hu
      rw [List.mem_map]
      exact ⟨u.data.toList, List.mem_flatMap.2 ⟨x, hx, mem_inf hsub⟩, data_inj (by simp)⟩
  · rw [List.mem_filter, @decide_eq_true_iff _ (Classical.propDecidable _)]
    constructor
    · exact fun h => h.2
    · intro hk
      refine ⟨?_, hk⟩
      obtain ⟨h1, h2⟩ := reach_range hks hk
      rw [List.mem_map]
      exact ⟨k.toNat, by rw [List.mem_range]; omega, by show (k.toNat : Int) = k; omega⟩

theorem canB_iff {xs S : List ByteArray} {ks K : List Int} (hS : ∀ u, u ∈ S ↔ SeenT xs ks u) (hK : ∀ k, k ∈ K ↔ ReachT xs ks k) (t : ByteArray) : CanB xs ks t ↔ bld S K 8 t = true := by
  constructor
  · rintro ⟨S', K', hS', hK', h⟩
    rw [bld_same (fun u => (hS u).trans (hS' u).symm) (fun k => (hK k).trans (hK' k).symm) 8 t]
    exact h
  · exact fun h => ⟨S, K, hS, hK, h⟩

theorem built_seal {xs : List ByteArray} {ks : List Int} {t : ByteArray} {i : Int} (h : kOk xs ks = true) (ht : isT t = true) (hs : (sealT i t).size ≠ 0) :
    (isT (sealT i t) = true ∧ CanB xs ks (sealT i t)) ↔ SeenT xs ks (sealT i t) ∨ (ReachT xs ks i ∧ CanB xs ks t) := by
  obtain ⟨S, K, hS, hK⟩ := seen_lists h
  rw [canB_iff hS hK, canB_iff hS hK, ← hS, ← hK]
  have h3 := (seal_trip i t hs).2.2
  unfold sealT at hs h3 ⊢
  by_cases hi : 1 ≤ i ∧ i ≤ 1000000
  · rw [if_pos hi] at hs h3 ⊢
    obtain ⟨h4, h5⟩ := okOr_full hs
    rw [h5]
    obtain ⟨n, rfl⟩ := Int.eq_ofNat_of_zero_le (by omega : 0 ≤ i)
    have hk := rk_made (c := 115) (n := n) (kind := 115) (t := t) (by omega) h4 rfl
    obtain ⟨hb, hat⟩ : cut (hdT 115 n ++ t) = some (n, t) ∧ at_ (hdT 115 n ++ t) 0 = 115 := by
      unfold rk at hk
      split at hk
      · rename_i hc; exact ⟨hk, hc.2⟩
      · cases hk
    obtain ⟨hz, r0, hb8, hr0⟩ := (isT_iff _).1 h4
    rw [bh_some hb, if_neg (by omega), if_neg (by omega), if_pos hat] at hb8
    cases hin : inB S (hdT 115 n ++ t) with
    | true =>
      rw [bld_seen hin]
      rw [inB_iff] at hin
      simp [h4, hin]
    | false =>
      rw [bld_not hin hb, if_neg (by omega), if_neg (by omega), if_neg (by omega), ← bld_deep 7 8 (by omega) (by omega) t r0 hb8]
      have hnot : ¬ (hdT 115 n ++ t) ∈ S := by rw [← inB_iff, hin]; simp
      simp [h4, hnot, hasB_iff]
  · rw [if_neg hi] at hs; exact absurd rfl hs

theorem built_list {xs : List ByteArray} {ks : List Int} {t a : ByteArray} (h : kOk xs ks = true) (ht : isT t = true) (ha : isT a = true) (h97 : at_ a 0 = 97) (hs : (listT [t, a]).size ≠ 0) :
    (isT (listT [t, a]) = true ∧ CanB xs ks (listT [t, a])) ↔ SeenT xs ks (listT [t, a]) ∨ CanB xs ks t := by
  obtain ⟨S, K, hS, hK⟩ := seen_lists h
  rw [canB_iff hS hK, canB_iff hS hK, ← hS]
  have hp := list_trip [t, a]
  rw [if_neg hs] at hp
  have hT : isT (listT [t, a]) = true := (list_kind _ (by rw [hp])).1
  have hat := (list_kind (listT [t, a]) (by rw [hp])).2
  generalize listT [t, a] = l at *
  obtain ⟨n, r, hc⟩ := ((isT_iff l).1 hT).cut
  have hr : rk l 108 = some (n, r) := by rw [rk_yes ((isT_iff l).1 hT) hat, hc]
  have hps : psL n r = [t, a] := by unfold partsR at hp; rw [hr] at hp; simpa using hp
  obtain ⟨hz, r0, hb8, hr0⟩ := (isT_iff _).1 hT
  rw [bh_some hc, if_neg (by omega), if_pos hat] at hb8
  have hd := psL_deep (f := 7) (by omega) n r r0 hb8
  rw [hps] at hd
  cases hin : inB S l with
  | true =>
    rw [bld_seen hin]
    rw [inB_iff] at hin
    simp [hT, hin]
  | false =>
    have hnot : ¬ l ∈ S := by rw [← inB_iff, hin]; simp
    have hA : bld S K 7 a = true := by
      obtain ⟨m, q, hca⟩ := ((isT_iff a).1 ha).cut
      cases hia : inB S a with
      | true => exact bld_seen hia
      | false => rw [bld_not hia hca, if_pos h97]
    rw [bld_not hin hc, if_neg (by omega), if_neg (by omega), if_pos hat, hps, bld_deep 7 8 (by omega) (by omega) t _ (hd t (by simp))]
    simp [hT, hnot, hA]
end Go.Proofs.YtkekfogepdhjhaaGreat
