/- Plain mathematics: what is put together is taken apart. -/
import Derived.Test.YtaeecaebjafnpaaTermMath
import Derived.Test.YtaeecaebjafnpaaVarWalks
set_option linter.unusedVariables false
namespace Go.Proofs.Ytaeecaebjafnpaa
open Go.RowKit Own Var Term

theorem data_append (a b : ByteArray) : (a ++ b).data.toList = a.data.toList ++ b.data.toList := by simp [ByteArray.data_append]
theorem size_list (a : ByteArray) : a.size = a.data.toList.length := rfl
theorem valB_varB (n : Nat) : Var.valB (varB n) = n := by
  induction n using Nat.strongRecOn with
  | ind n ih =>
    by_cases h : n < 128
    · rw [varB_small n h]
      simp only [Var.valB]
      rw [UInt8.toNat_ofNat_of_lt' (by show _ < 256; omega)]
      omega
    · rw [varB_great n h]
      simp only [Var.valB]
      rw [UInt8.toNat_ofNat_of_lt' (by show _ < 256; omega), ih (n / 128) (by omega)]
      omega
theorem ans_made (n : Nat) (h : n ≤ 562949953421311) (t : ByteArray) : Ans (⟨(varB n).toArray⟩ ++ t) n (varB n).length := by
  have h7 := varB_seven n h
  have h1 := varB_pos n
  have e : (⟨(varB n).toArray⟩ ++ t : ByteArray).data.toList = varB n ++ t.data.toList := by rw [data_append]
  have hs : (⟨(varB n).toArray⟩ ++ t : ByteArray).size = (varB n).length + t.size := by rw [size_list, e, List.length_append]; rfl
  have et : (⟨(varB n).toArray⟩ ++ t : ByteArray).data.toList.take (varB n).length = varB n := by rw [e]; simp
  refine Or.inr ⟨h1, h7, by omega, ?_, ?_⟩
  · rw [Var.canonK_iff _ _ (by omega)]
    have e1 : (varB n).length - 1 + 1 = (varB n).length := by omega
    rw [e1, et, valB_varB]
  · rw [et, valB_varB]

/-- A letter ahead of a number. -/
def hdT (c : UInt8) (n : Int) : ByteArray := ⟨#[c]⟩ ++ varOf n
theorem varOf_size (n : Int) : (varOf n).size ≤ 7 := by
  unfold varOf
  split
  · rename_i h; exact varB_seven _ (by omega)
  · show 0 ≤ 7; omega
theorem hdT_size (c : UInt8) (n : Int) : (hdT c n).size = 1 + (varOf n).size := by
  unfold hdT
  rw [ByteArray.size_append]
  rfl
theorem varOf_nat (n : Nat) (h : n ≤ 562949953421311) : varOf (n : Int) = ⟨(varB n).toArray⟩ := by
  unfold varOf; rw [if_pos (by omega)]; rfl
theorem varOf_no (n : Int) (h : ¬ (0 ≤ n ∧ n ≤ 562949953421311)) : varOf n = ⟨#[]⟩ := by unfold varOf; rw [if_neg h]
theorem suf_one (c : UInt8) (n : Int) (t : ByteArray) : suf (hdT c n ++ t) 1 = varOf n ++ t := by
  apply ext_list
  rw [suf_list, data_append, data_append, hdT, data_append]
  rfl
theorem at_one (c : UInt8) (n : Int) (t : ByteArray) : at_ (hdT c n ++ t) 0 = c.toNat := by
  unfold at_
  rw [data_append, hdT, data_append]
  rfl
theorem rv_made (n : Nat) (h : n ≤ 562949953421311) (t : ByteArray) : rvN (varOf n ++ t) = n ∧ rvK (varOf n ++ t) = (varOf n).size := by
  have := rv_one (ans_made n h t)
  rw [varOf_nat n h]
  exact ⟨this.1.symm, this.2.symm⟩
theorem suf_rest (c : UInt8) (n : Int) (t : ByteArray) : suf (hdT c n ++ t) (1 + (varOf n).size) = t := by
  apply ext_list
  rw [suf_list, data_append, List.drop_append_of_le_length (by rw [← size_list, hdT_size]; omega), List.drop_of_length_le (by rw [← size_list, hdT_size]; omega)]
  rfl
theorem cut_made (c : UInt8) (n : Nat) (h : n ≤ 562949953421311) (t : ByteArray) : cut (hdT c n ++ t) = if hdOk c.toNat n = true then some (n, t) else none := by
  have hv : 1 ≤ (varOf (n : Int)).size := by rw [varOf_nat n h]; exact varB_pos n
  unfold cut
  rw [suf_one, at_one, (rv_made n h t).1, (rv_made n h t).2, suf_rest]
  have hz : 1 ≤ (hdT c n ++ t).size := by rw [ByteArray.size_append, hdT_size]; omega
  by_cases hk : hdOk c.toNat n = true
  · rw [if_pos ⟨hz, hv, hk⟩, if_pos hk]
  · rw [if_neg (fun x => hk x.2.2), if_neg hk]
theorem rvK_nil : rvK ⟨#[]⟩ = 0 := by have := (rvK_le ⟨#[]⟩).2; exact Nat.le_zero.1 this
theorem app_nil (a : ByteArray) : a ++ ⟨#[]⟩ = a := by apply ext_list; rw [data_append]; simp

theorem not_isT_of_cut {s : ByteArray} (h : cut s = none) : isT s = false := by unfold isT; rw [bh_none h]; simp
/-- A text where it is a term; else empty. -/
def okOr (s : ByteArray) : ByteArray := if isT s = true then s else ⟨#[]⟩
theorem okOr_no {s : ByteArray} (h : isT s = false) : okOr s = ⟨#[]⟩ := by unfold okOr; rw [h]; rfl
theorem okOr_yes {s : ByteArray} (h : isT s = true) : okOr s = s := by unfold okOr; rw [h]; rfl

/-! Atoms -/
def atomT (d : ByteArray) : ByteArray := okOr (hdT 97 d.size ++ d)
theorem atomT_big (d : ByteArray) (h : 40 < d.size) (h2 : d.size ≤ 1048576) : atomT d = ⟨#[]⟩ := by
  apply okOr_no
  apply not_isT_of_cut
  rw [cut_made 97 d.size (by omega), if_neg]
  simp [hdOk]; omega

/-! Keys -/
def keyT (k : Int) : ByteArray := if 1 ≤ k ∧ k ≤ 1000000 then hdT 107 k else ⟨#[]⟩
theorem keyT_ok (k : Int) : okOr (hdT 107 k) = keyT k := by
  unfold keyT
  by_cases h : 1 ≤ k ∧ k ≤ 1000000
  · rw [if_pos h]
    obtain ⟨n, rfl⟩ := Int.eq_ofNat_of_zero_le (by omega : 0 ≤ k)
    have hc := cut_made 107 n (by omega) ⟨#[]⟩
    rw [app_nil, if_pos (by simp [hdOk]; omega)] at hc
    apply okOr_yes
    have hb : bh 8 (hdT 107 n) = some ⟨#[]⟩ := by
      have ha := at_one 107 n ⟨#[]⟩
      rw [app_nil] at ha
      have hx : at_ (hdT 107 n) 0 = 107 := ha
      rw [bh_some hc, if_neg (by omega), if_neg (by omega), if_neg (by omega)]
    unfold isT
    rw [hb]
    have hz := hdT_size 107 n
    have hv := varOf_size n
    simp
    exact ⟨by omega, rfl⟩
  · rw [if_neg h]
    apply okOr_no
    apply not_isT_of_cut
    by_cases h2 : 0 ≤ k ∧ k ≤ 562949953421311
    · obtain ⟨n, rfl⟩ := Int.eq_ofNat_of_zero_le h2.1
      have hc := cut_made 107 n (by omega) ⟨#[]⟩
      rw [app_nil] at hc
      rw [hc, if_neg]
      simp [hdOk]; omega
    · unfold cut
      have e : suf (hdT 107 k) 1 = ⟨#[]⟩ := by
        have := suf_one 107 k ⟨#[]⟩
        rw [app_nil, app_nil, varOf_no k h2] at this
        exact this
      rw [e, rvK_nil, if_neg]
      omega

/-! Sealed terms -/
def sealT (k : Int) (t : ByteArray) : ByteArray := if 1 ≤ k ∧ k ≤ 1000000 then okOr (hdT 115 k ++ t) else ⟨#[]⟩
theorem sealT_part (k : Int) (t : ByteArray) (ht : isT t = false) : sealT k t = ⟨#[]⟩ := by
  unfold sealT
  by_cases h : 1 ≤ k ∧ k ≤ 1000000
  · rw [if_pos h]
    apply okOr_no
    obtain ⟨n, rfl⟩ := Int.eq_ofNat_of_zero_le (by omega : 0 ≤ k)
    rw [← Bool.not_eq_true, isT_iff]
    rintro ⟨hz, r, hb, hr⟩
    have hc := cut_made 115 n (by omega) t
    rw [if_pos (by simp [hdOk]; omega)] at hc
    have hx : at_ (hdT 115 n ++ t) 0 = 115 := at_one 115 n t
    rw [bh_some hc, if_neg (by omega), if_neg (by omega), if_pos hx] at hb
    have : isT t = true := (isT_iff t).2 ⟨by rw [ByteArray.size_append] at hz; omega, r, bh_mono 7 t r hb, hr⟩
    rw [this] at ht
    cases ht
  · rw [if_neg h]

/-! Numbers in atoms -/
def numT (n : Int) : ByteArray := if (varOf n).size = 0 then ⟨#[]⟩ else atomT (varOf n)
/-- The number of which Num makes the text. -/
def rnum (s : ByteArray) : Option Nat := match rk s 97 with
  | none => none
  | some (_, d) => if 1 ≤ rvK d ∧ rvK d = d.size then some (rvN d) else none
end Go.Proofs.Ytaeecaebjafnpaa
