/- Plain mathematics for the law on numbers: what is made is read, and what is read is made. -/
import Derived.Test.YtpidfofjjdjkdabDoorImplFixed
set_option linter.unusedVariables false
namespace Go.Proofs.YtpidfofjjdjkdabDoor
open Go.RowKit

theorem data_append (a b : ByteArray) : (a ++ b).data.toList = a.data.toList ++ b.data.toList := by simp [ByteArray.data_append]
theorem size_list (a : ByteArray) : a.size = a.data.toList.length := rfl

/-! Var -/
theorem valB_varB (n : Nat) : Var.valB (Var.varB n) = n := by
  induction n using Nat.strongRecOn with
  | ind n ih =>
    by_cases h : n < 128
    · rw [Var.varB_small n h]
      simp only [Var.valB]
      rw [UInt8.toNat_ofNat_of_lt' (by show _ < 256; omega)]
      omega
    · rw [Var.varB_great n h]
      simp only [Var.valB]
      rw [UInt8.toNat_ofNat_of_lt' (by show _ < 256; omega), ih (n / 128) (by omega)]
      omega
theorem ans_made (n : Nat) (h : n ≤ 562949953421311) (t : ByteArray) : Var.Ans (⟨(Var.varB n).toArray⟩ ++ t) n (Var.varB n).length := by
  have h7 := Var.varB_seven n h
  have h1 := Var.varB_pos n
  have e : (⟨(Var.varB n).toArray⟩ ++ t : ByteArray).data.toList = Var.varB n ++ t.data.toList := by rw [data_append]
  have hs : (⟨(Var.varB n).toArray⟩ ++ t : ByteArray).size = (Var.varB n).length + t.size := by rw [size_list, e, List.length_append]; rfl
  have et : (⟨(Var.varB n).toArray⟩ ++ t : ByteArray).data.toList.take (Var.varB n).length = Var.varB n := by rw [e]; simp
  refine Or.inr ⟨h1, h7, by omega, ?_, ?_⟩
  · rw [Var.canonK_iff _ _ (by omega)]
    have e1 : (Var.varB n).length - 1 + 1 = (Var.varB n).length := by omega
    rw [e1, et, valB_varB]
  · rw [et, valB_varB]
theorem made_of_ans (q : ByteArray) (z j : Nat) (h : Var.Ans q z j) (hj : j ≠ 0) : (varOf (z : Int)).toList = (q.extract 0 j).toList := by
  rcases h with ⟨_, h, _⟩ | ⟨h1, h7, hs, hc, hz⟩
  · exact absurd h hj
  · have e1 : j - 1 + 1 = j := by omega
    rw [Var.canonK_iff _ _ (by omega), e1, ← hz] at hc
    have hb : z ≤ 562949953421311 := by rw [hz]; exact Var.valB_seven _ (by have := List.length_take_le j q.data.toList; omega)
    have ex : (q.extract 0 j).toList = q.data.toList.take j := by
      rw [ByteArray.toList_eq]
      simp [ByteArray.data_extract]
    rw [ex, ← hc, varOf, if_pos (by omega), ByteArray.toList_mk]
    rfl

/-! Fixed -/
theorem rf_cons (b : UInt8) (l : List UInt8) : Num.rf (b :: l) = (b.toNat : Int) * 256 ^ l.length + Num.rf l := by
  have key : ∀ (l : List UInt8) (x : Int), l.foldl (fun n b => n * 256 + (b.toNat : Int)) x = x * 256 ^ l.length + Num.rf l := by
    intro l
    induction l with
    | nil => intro x; simp [Num.rf]
    | cons c l ih =>
      intro x
      have e : Num.rf (c :: l) = l.foldl (fun n b => n * 256 + (b.toNat : Int)) (0 * 256 + (c.toNat : Int)) := rfl
      rw [List.foldl_cons, ih, e, ih, List.length_cons, Int.pow_succ]
      generalize (256 : Int) ^ l.length = q
      rw [Int.add_mul, Int.add_mul, Int.mul_assoc x, Int.mul_comm 256 q]
      omega
  have h := key l (0 * 256 + (b.toNat : Int))
  have e : Num.rf (b :: l) = l.foldl (fun n b => n * 256 + (b.toNat : Int)) (0 * 256 + (b.toNat : Int)) := rfl
  rw [e, h, Int.zero_mul, Int.zero_add]
theorem rf_fx (n : Int) (h0 : 0 ≤ n) (h1 : n ≤ 9223372036854775807) : ∀ k, Num.rf (fx n k) + up n k * 256 ^ k = n
  | 0 => by simp [fx, up, Num.rf]
  | k + 1 => by
    have ih := rf_fx n h0 h1 k
    have hu := up_bd n h0 h1 k
    have e : ((UInt8.ofNat (up n k % 256).toNat).toNat : Int) = up n k % 256 := by
      rw [UInt8.toNat_ofNat_of_lt' (by show _ < 256; omega)]; omega
    rw [fx, rf_cons, fx_len, e, up, Int.pow_succ]
    generalize (256 : Int) ^ k = q at *
    have h3 : up n k = up n k % 256 + 256 * (up n k / 256) := by omega
    have h4 : up n k * q = up n k % 256 * q + up n k / 256 * (q * 256) := by
      conv => lhs; rw [h3]
      rw [Int.add_mul, Int.mul_assoc 256, Int.mul_comm 256, Int.mul_assoc (up n k / 256)]
    omega
theorem up_seven (n : Int) (h0 : 0 ≤ n) : up n 7 = 0 ↔ n < 72057594037927936 := by
  rw [up_eq n h0]
  have e : (2 : Int) ^ (8 * 7) = 72057594037927936 := by decide
  rw [e]
  omega
theorem read_fixed (n : Int) (h0 : 0 ≤ n) (h1 : n < 72057594037927936) (t : ByteArray) : Num.rf ((⟨(fx n 7).toArray⟩ ++ t : ByteArray).data.toList.take 7) = n := by
  have e : (⟨(fx n 7).toArray⟩ ++ t : ByteArray).data.toList.take 7 = fx n 7 := by
    rw [data_append]
    have : ((⟨(fx n 7).toArray⟩ : ByteArray).data.toList) = fx n 7 := rfl
    rw [this, List.take_append_of_le_length (by rw [fx_len]; omega), List.take_of_length_le (by rw [fx_len]; omega)]
  have := rf_fx n h0 (by omega) 7
  rw [(up_seven n h0).2 h1] at this
  rw [e]
  simpa using this

/-! Dec -/
theorem decP_nine (m : Nat) (h : m ≠ 0) : (Dec.decP m).length ≤ 9 ↔ m < 1000000000 := by
  have e : 10 ^ 9 = 1000000000 := by decide
  constructor
  · intro hl
    have hf := Dec.decP_fine m h
    have h1 := Dec.dval_lt _ hf.1.1
    rw [hf.2] at h1
    have h2 : 10 ^ (Dec.decP m).length ≤ 10 ^ 9 := Nat.pow_le_pow_right (by omega) hl
    omega
  · intro hm
    exact Dec.decP_len 9 m (by omega)
theorem decB_parts (n : Int) (h : n ≠ 0) : Dec.rest (Dec.decB n) = Dec.decP n.natAbs ∧ Dec.neg (Dec.decB n) = decide (n < 0) := by
  unfold Dec.decB
  rw [if_neg h]
  by_cases hn : n < 0
  · rw [if_pos hn]; exact ⟨rfl, by simp [hn, Dec.neg]⟩
  · rw [if_neg hn]
    have hf := (Dec.decP_fine n.natAbs (by omega)).1
    have := Dec.rest_of (Dec.decP n.natAbs) (fun r hr => by
      have hd := hf.1 45 (by rw [hr]; simp)
      exact absurd hd (by decide))
    exact ⟨this.1, by rw [this.2]; simp [hn]⟩
theorem canon_decB (n : Int) : Dec.canon (Dec.decB n) ↔ -1000000000 < n ∧ n < 1000000000 := by
  by_cases h : n = 0
  · subst h
    exact ⟨fun _ => by omega, fun _ => ⟨Or.inr rfl, by decide⟩⟩
  · have hp := decB_parts n h
    have hf := (Dec.decP_fine n.natAbs (by omega)).1
    have h9 := decP_nine n.natAbs (by omega)
    unfold Dec.canon
    rw [hp.1]
    constructor
    · rintro ⟨_, h2⟩; have := h9.1 h2; omega
    · intro h2; exact ⟨Or.inl hf, h9.2 (by omega)⟩
theorem valD_decB (n : Int) : Dec.valD (Dec.decB n) = n := by
  by_cases h : n = 0
  · subst h; decide
  · have hp := decB_parts n h
    have hf := Dec.decP_fine n.natAbs (by omega)
    unfold Dec.valD
    rw [hp.1, hp.2, hf.2]
    by_cases hn : n < 0 <;> simp [hn] <;> omega

/-! Hex -/
theorem dI_hexD : ∀ d, d < 16 → Hex.dI (Hex.hexD d) = (d : Int) := by decide
theorem hexL_at (l : List UInt8) : ∀ j (h : j < l.length), (Hex.hexL l).getD (2 * j) 0 = Hex.hexD (l[j].toNat / 16) ∧ (Hex.hexL l).getD (2 * j + 1) 0 = Hex.hexD (l[j].toNat % 16) := by
  induction l with
  | nil => intro j h; simp at h
  | cons b l ih =>
    intro j h
    have e : Hex.hexL (b :: l) = Hex.hexD (b.toNat / 16) :: Hex.hexD (b.toNat % 16) :: Hex.hexL l := by simp [Hex.hexL, Hex.hexB]
    rw [e]
    cases j with
    | zero => exact ⟨rfl, rfl⟩
    | succ j =>
      have := ih j (by simpa using h)
      have e2 : 2 * (j + 1) = (2 * j) + 2 := by omega
      rw [e2]
      exact this
theorem unhex_hex (t : ByteArray) : Hex.unhexT ⟨(Hex.hexL t.data.toList).toArray⟩ = t ∧ Hex.unhexB ⟨(Hex.hexL t.data.toList).toArray⟩ = true := by
  have hs : (⟨(Hex.hexL t.data.toList).toArray⟩ : ByteArray).size = 2 * t.size := by
    have : (⟨(Hex.hexL t.data.toList).toArray⟩ : ByteArray).size = (Hex.hexL t.data.toList).length := by rw [size_list]
    rw [this, Hex.hexL_len]; rfl
  have hd : (⟨(Hex.hexL t.data.toList).toArray⟩ : ByteArray).data.toList = Hex.hexL t.data.toList := rfl
  have key : ∀ j (h : j < t.data.toList.length), Hex.dAt ⟨(Hex.hexL t.data.toList).toArray⟩ (2 * j) = ((t.data.toList[j].toNat / 16 : Nat) : Int) ∧ Hex.dAt ⟨(Hex.hexL t.data.toList).toArray⟩ (2 * j + 1) = ((t.data.toList[j].toNat % 16 : Nat) : Int) := by
    intro j h
    have h2 := t.data.toList[j].toNat_lt
    have hx := hexL_at t.data.toList j h
    unfold Hex.dAt
    rw [hd, hx.1, hx.2, dI_hexD _ (by omega), dI_hexD _ (by omega)]
    exact ⟨rfl, rfl⟩
  have hg : Hex.allGood ⟨(Hex.hexL t.data.toList).toArray⟩ := by
    refine ⟨by rw [hs]; omega, fun j hj => ?_⟩
    rw [hs] at hj
    have hj2 : j < t.data.toList.length := by rw [← size_list]; omega
    have := key j hj2
    unfold Hex.good
    rw [this.1, this.2]
    omega
  refine ⟨?_, (Hex.unhex_yes _ hg).2⟩
  rw [(Hex.unhex_yes _ hg).1, hs]
  have e2 : 2 * t.size / 2 = t.size := by omega
  rw [e2]
  have e : Hex.outL ⟨(Hex.hexL t.data.toList).toArray⟩ t.size = t.data.toList := by
    apply List.ext_getElem
    · rw [Hex.outL_len]; rfl
    · intro i h1 h2
      simp only [Hex.outL, List.getElem_map, List.getElem_range]
      have := key i h2
      rw [this.1, this.2]
      have h3 := t.data.toList[i].toNat_lt
      have e3 : (16 * ((t.data.toList[i].toNat / 16 : Nat) : Int) + ((t.data.toList[i].toNat % 16 : Nat) : Int)).toNat = t.data.toList[i].toNat := by omega
      rw [e3, UInt8.ofNat_toNat]
  rw [e]
end Go.Proofs.YtpidfofjjdjkdabDoor
