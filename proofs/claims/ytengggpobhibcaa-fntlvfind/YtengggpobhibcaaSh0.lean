/- A message shown and read: texts, bytes and numbers, as plain data. -/
import Derived.Test.YtengggpobhibcaaTd3
import Derived.Test.YtengggpobhibcaaTt0
set_option linter.unusedVariables false
set_option maxRecDepth 100000
namespace Go.Proofs.Ytengggpobhibcaa.Nd
open Go Go.RowKit Go.Joins Own Draw Var

theorem ba_ext {x y : ByteArray} (h : x.data.toList = y.data.toList) : x = y := by
  apply ByteArray.ext
  exact Array.toList_inj.1 h
theorem ba_app (x y : ByteArray) : (x ++ y).data.toList = x.data.toList ++ y.data.toList := by rw [ByteArray.data_append, Array.toList_append]
theorem ba_size (x : ByteArray) : x.size = x.data.toList.length := rfl
theorem ba_exl (s : ByteArray) (a b : Nat) : (s.extract a b).data.toList = (s.data.toList.take b).drop a := by
  rw [ByteArray.data_extract, Array.toList_extract, List.extract_eq_take_drop, List.drop_take]
theorem drop_two {α : Type} (L : List α) {a b : Nat} (h : a ≤ b) : L.drop a = (L.take b).drop a ++ L.drop b := by
  have e : L.drop a = (L.take b ++ L.drop b).drop a := by rw [List.take_append_drop]
  rw [e, List.drop_append]
  congr 1
  by_cases hl : b ≤ L.length
  · rw [List.length_take_of_le hl, show a - b = 0 by omega]; rfl
  · rw [List.drop_of_length_le (l := L) (i := b) (by omega)]; simp
theorem ext_split (s : ByteArray) {a b c : Nat} (h1 : a ≤ b) (h2 : b ≤ c) : s.extract a c = s.extract a b ++ s.extract b c := by
  apply ba_ext
  rw [ba_app, ba_exl, ba_exl, ba_exl]
  rw [show s.data.toList.take b = (s.data.toList.take c).take b by rw [List.take_take, Nat.min_eq_left h2]]
  exact drop_two _ h1
theorem ext_sz {s : ByteArray} {a en : Nat} (h : en ≤ s.size) : (s.extract a en).size = en - a := by rw [ByteArray.size_extract, Nat.min_eq_left h]
theorem ext_ex {s : ByteArray} {a en i j : Nat} (h : a + j ≤ en) : (s.extract a en).extract i j = s.extract (a + i) (a + j) := by
  rw [ByteArray.extract_extract, Nat.min_eq_left h]
def byS (n : Nat) : ByteArray := ⟨#[UInt8.ofNat n]⟩
theorem ext_one {s : ByteArray} {a : Nat} (h : a < s.size) : s.extract a (a + 1) = byS (at_ s a) := by
  apply ba_ext
  rw [ba_exl]
  have h' : a < s.data.toList.length := h
  rw [List.take_succ_eq_append_getElem h', List.drop_append_of_le_length (by rw [List.length_take]; omega), List.drop_of_length_le (by rw [List.length_take]; omega)]
  unfold byS at_
  rw [List.getD_eq_getElem?_getD, List.getElem?_eq_getElem h']
  simp
theorem valB_varB (n : Nat) : valB (varB n) = n := by
  induction n using Nat.strongRecOn with
  | ind n ih =>
    by_cases h : n < 128
    · rw [varB_small n h]
      simp only [valB]
      rw [UInt8.toNat_ofNat_of_lt' (by show _ < 256; omega)]
      omega
    · rw [varB_great n h]
      simp only [valB]
      rw [UInt8.toNat_ofNat_of_lt' (by show _ < 256; omega), ih (n / 128) (by omega)]
      omega
def vaS (n : Nat) : ByteArray := ⟨(varB n).toArray⟩
theorem vaS_size (n : Nat) : (vaS n).size = (varB n).length := by unfold vaS; rw [ba_size]
theorem ans_made (n : Nat) (h : n ≤ 562949953421311) (t : ByteArray) : Ans (vaS n ++ t) n (varB n).length := by
  have h7 := varB_seven n h
  have h1 := varB_pos n
  have e : (vaS n ++ t).data.toList = varB n ++ t.data.toList := by rw [ba_app]; rfl
  have hs : (vaS n ++ t).size = (varB n).length + t.size := by rw [ba_size, e, List.length_append]; rfl
  have ht : (vaS n ++ t).data.toList.take (varB n).length = varB n := by rw [e, List.take_left' rfl]
  refine Or.inr ⟨h1, h7, by omega, ?_, ?_⟩
  · rw [canonK_iff _ _ (by omega), show (varB n).length - 1 + 1 = (varB n).length by omega, ht, valB_varB]
  · rw [ht, valB_varB]
theorem rv_ans {T : ByteArray} (h : ¬ (rvP T).2 = 0) : Ans T (rvP T).1 (rvP T).2 := by
  unfold rvP at h ⊢
  by_cases hx : ∃ p : Nat × Nat, Ans T p.1 p.2
  · rw [dif_pos hx] at h ⊢
    exact Classical.choose_spec hx
  · rw [dif_neg hx] at h
    exact absurd rfl h
theorem ans_text {T : ByteArray} {n k : Nat} (h : Ans T n k) (hk : ¬ k = 0) : T.extract 0 k = vaS n ∧ n ≤ 562949953421311 ∧ k = (varB n).length := by
  rcases h with ⟨_, e, _⟩ | ⟨h1, h7, h2, hc, hn⟩
  · exact absurd e hk
  have ht := (canonK_iff T (k - 1) (by omega)).1 hc
  rw [show k - 1 + 1 = k by omega, ← hn] at ht
  have hl : (T.data.toList.take k).length = k := List.length_take_of_le h2
  refine ⟨?_, ?_, ?_⟩
  · apply ba_ext
    rw [ba_exl, List.drop_zero, ← ht]
    rfl
  · rw [hn]
    exact valB_seven _ (by omega)
  · rw [ht, hl]
theorem vr_text {s : ByteArray} {a en : Nat} (he : en ≤ s.size) (h : ¬ vrN s a en = 0) (hv : a + 1 + vrN s a en ≤ en) : s.extract (a + 1) (a + 1 + vrN s a en) = vaS (lnN s a en) ∧ lnN s a en ≤ 562949953421311 := by
  have hA : Ans (s.extract (a + 1) en) (lnN s a en) (vrN s a en) := rv_ans h
  have ht := ans_text hA h
  rw [ext_ex hv] at ht
  exact ⟨ht.1, ht.2.1⟩
theorem vr_made {s : ByteArray} {a en n : Nat} (hn : n ≤ 562949953421311) (hk : a + 1 + (varB n).length ≤ en) (ht : s.extract (a + 1) (a + 1 + (varB n).length) = vaS n) : vrN s a en = (varB n).length ∧ lnN s a en = n := by
  have e : s.extract (a + 1) en = vaS n ++ s.extract (a + 1 + (varB n).length) en := by
    rw [ext_split s (b := a + 1 + (varB n).length) (by omega) hk, ht]
  have hr := rv_of (ans_made n hn (s.extract (a + 1 + (varB n).length) en))
  unfold vrN lnN
  rw [e, hr]
  exact ⟨rfl, rfl⟩
end Go.Proofs.Ytengggpobhibcaa.Nd
