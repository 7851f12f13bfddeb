/- The walk of the law on numbers. -/
import Derived.Test.YtpidfofjjdjkdabDoorDraws
import Derived.Test.YtpidfofjjdjkdabDoorNumbersMath
import Derived.Test.YtpidfofjjdjkdabDoorImplItoa
import Derived.WalkKit
import Derived.WalkSpells
import Derived.WalkLawsBesides
set_option linter.unusedVariables false
namespace Go.Proofs.YtpidfofjjdjkdabDoor
open Go Go.RowKit

theorem big_go (a : Option Addr) (len cap : Nat) (W : World) (h : len ≤ 1048576) :
    Calls Tryd.prog 4 #[.slice a len cap] W fun e w' => e = .returned (.bool false) ∧ W = w' := by
  have hd : decide ((1048576 : Int) < (len : Int)) = false := by simp; omega
  go_enter Tryd.func4, Tryd.ntmps4
  go_wp2
  go_ret
  exact ⟨rfl, rfl⟩
theorem big_yes (a : Option Addr) (len cap : Nat) (W : World) (h : 1048576 < len) (h2 : len ≤ maxLen) :
    Calls Tryd.prog 4 #[.slice a len cap] W fun e w' => e = .returned (.bool true) ∧ W = w' := by
  unfold maxLen at h2
  have hd : decide ((1048576 : Int) < (len : Int)) = true := by simp; omega
  go_enter Tryd.func4, Tryd.ntmps4
  go_wp2
  go_ret
  exact ⟨rfl, rfl⟩

/-- ReadFixed of seven bytes: what it answers, where there are seven. -/
def RfPost (W : World) (n : Int) (is7 : Prop) (e : Ending) (w' : World) : Prop := ∃ y b, e = .returned (.tuple #[.int .i64 y, .bool b]) ∧ (is7 → y = n ∧ b = true) ∧ W = w'
theorem rd_seven (s : ByteArray) (n : Int) (W : World) (hs : s.size ≤ 1048576) (is7 : Prop) (h : is7 → 7 ≤ s.size ∧ Num.rf (s.data.toList.take 7) = n) :
    Calls Tryd.prog 10 #[.string s, .int .i64 7] W fun e w' => RfPost W n is7 e w' := by
  have hm : s.size ≤ maxLen := by unfold maxLen; omega
  by_cases h7 : 7 ≤ s.size
  · refine (impl_rd_yes s 7 W hm (by omega) (by omega) h7).mono ?_
    rintro e w' ⟨rfl, rfl⟩
    exact ⟨_, _, rfl, fun hh => ⟨(h hh).2, rfl⟩, rfl⟩
  · refine (impl_rd_no s 7 W hm (by omega)).mono ?_
    rintro e w' ⟨rfl, rfl⟩
    exact ⟨_, _, rfl, fun hh => absurd (h hh).1 h7, rfl⟩

theorem isEmpty_of (s : ByteArray) : s.toList.isEmpty = decide (s.size = 0) := by
  rw [ByteArray.toList_eq]
  have : s.size = s.data.toList.length := rfl
  rw [this]
  cases s.data.toList <;> simp

/-- What is known of the three texts that are made of n. -/
structure Made (n : Int) (V F : ByteArray) : Prop where
  v : (V.toList.isEmpty = false ↔ 0 ≤ n ∧ n ≤ 562949953421311) ∧ V.size ≤ 7 ∧ ∀ (T : ByteArray) (x k : Nat), Var.Ans (V ++ T) x k → V.toList.isEmpty = false → (x : Int) = n ∧ k = V.size
  f : (F.toList.isEmpty = false ↔ 0 ≤ n ∧ n < 72057594037927936) ∧ F.size ≤ 7 ∧ (F.toList.isEmpty = false → F.size = 7 ∧ ∀ T : ByteArray, Num.rf ((F ++ T).data.toList.take 7) = n)
theorem made (n : Int) (hm : n ≤ 9223372036854775807) : Made n (varOf n) (fixedOf n 7) := by
  refine ⟨⟨?_, ?_, ?_⟩, ⟨?_, ?_, ?_⟩⟩
  · rw [isEmpty_of]
    unfold varOf
    by_cases h : 0 ≤ n ∧ n ≤ 562949953421311
    · rw [if_pos h]
      have h1 := Var.varB_pos n.toNat
      have e : (⟨(Var.varB n.toNat).toArray⟩ : ByteArray).size = (Var.varB n.toNat).length := by simp [ByteArray.size]
      rw [e]
      simp only [decide_eq_false_iff_not, h, and_self, iff_true]
      omega
    · rw [if_neg h]; simp only [h, iff_false]; decide
  · exact Draw.varOf_size n
  · intro T x k hA hE
    rw [isEmpty_of] at hE
    unfold varOf at hE hA
    by_cases h : 0 ≤ n ∧ n ≤ 562949953421311
    · rw [if_pos h] at hA
      have := Var.Ans_one _ _ _ _ _ hA (ans_made n.toNat (by omega) T)
      unfold varOf
      rw [if_pos h]
      have e : (⟨(Var.varB n.toNat).toArray⟩ : ByteArray).size = (Var.varB n.toNat).length := by simp [ByteArray.size]
      rw [e]
      exact ⟨by omega, this.2⟩
    · rw [if_neg h] at hE; exact absurd hE (by decide)
  · rw [isEmpty_of]
    unfold fixedOf
    by_cases h : 1 ≤ (7 : Int) ∧ (7 : Int) ≤ 7 ∧ 0 ≤ n ∧ up n (7 : Int).toNat = 0
    · rw [if_pos h]
      have h2 := (up_seven n h.2.2.1).1 h.2.2.2
      have e : (⟨(fx n (7 : Int).toNat).toArray⟩ : ByteArray).size = 7 := by have := fx_len n 7; simpa [ByteArray.size] using this
      rw [e]
      simp only [show ¬ (7 = 0) by omega, decide_false, true_iff]
      exact ⟨h.2.2.1, h2⟩
    · rw [if_neg h]
      have : ¬ (0 ≤ n ∧ n < 72057594037927936) := fun hh => h ⟨by omega, by omega, hh.1, (up_seven n hh.1).2 hh.2⟩
      simp only [this, iff_false]; decide
  · unfold fixedOf
    split
    · have e : (⟨(fx n (7 : Int).toNat).toArray⟩ : ByteArray).size = 7 := by have := fx_len n 7; simpa [ByteArray.size] using this
      rw [e]; omega
    · show 0 ≤ 7; omega
  · intro hE
    rw [isEmpty_of] at hE
    unfold fixedOf at hE ⊢
    by_cases h : 1 ≤ (7 : Int) ∧ (7 : Int) ≤ 7 ∧ 0 ≤ n ∧ up n (7 : Int).toNat = 0
    · rw [if_pos h]
      have h2 := (up_seven n h.2.2.1).1 h.2.2.2
      exact ⟨by have := fx_len n 7; simpa [ByteArray.size] using this, fun T => read_fixed n h.2.2.1 h2 T⟩
    · rw [if_neg h] at hE; exact absurd hE (by decide)

/-- ReadDec of Dec. -/
theorem rdec_dec (n : Int) (W : World) (h1 : -9223372036854775808 ≤ n) (h2 : n ≤ 9223372036854775807) :
    Calls Tryd.prog 11 #[.string ⟨(Dec.decB n).toArray⟩] W fun e w' => e = .returned (.tuple #[.int .i64 (if -1000000000 < n ∧ n < 1000000000 then n else 0), .bool (decide (-1000000000 < n ∧ n < 1000000000))]) ∧ Below W.heap.size W w' := by
  have hsz : (⟨(Dec.decB n).toArray⟩ : ByteArray).size ≤ 1048576 := by
    have e : (⟨(Dec.decB n).toArray⟩ : ByteArray).size = (Dec.decB n).length := by simp [ByteArray.size]
    have h19 := Dec.decP_19 n.natAbs (by omega)
    rw [e]
    unfold Dec.decB
    repeat' split
    all_goals (try simp only [List.length_cons, List.length_nil])
    all_goals omega
  refine (impl_rdec _ W hsz).mono ?_
  rintro e w' ⟨d, b, rfl, hA, hb⟩
  have hd : (⟨(Dec.decB n).toArray⟩ : ByteArray).data.toList = Dec.decB n := rfl
  rw [hd] at hA
  refine ⟨?_, hb⟩
  have hc := canon_decB n
  rcases hA with ⟨h1, rfl, rfl⟩ | ⟨h1, rfl, rfl⟩
  · rw [if_pos (hc.1 h1), decide_eq_true (hc.1 h1), valD_decB]
  · rw [if_neg (fun hh => h1 (hc.2 hh)), decide_eq_false (fun hh => h1 (hc.2 hh))]

theorem code_later {W w : World} {a : Option Addr} {len : Nat} {zs : List Int} (h : Draw.CodeAt W W.heap.size a len zs) (hb : Below W.heap.size W w) : Draw.CodeAt w w.heap.size a len zs := (h.below hb).lt hb.size

end Go.Proofs.YtpidfofjjdjkdabDoor
