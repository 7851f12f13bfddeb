/- The walk of ReadDec: the document's model. -/
import Derived.Test.YtpidfofjjdjkdaiDecWalks
import Derived.WalkKit
import Derived.WalkSpells
import Derived.WalkLawsBesides
set_option linter.unusedVariables false
namespace Go.Proofs.Ytpidfofjjdjkdai
open Go.RowKit Own Dec

theorem digs_bd (l : List UInt8) (k : Nat) (h : l.length ≤ k) : dval (digs l) < 10 ^ k ∧ (digs l).length ≤ k := by
  have h1 : (digs l).length ≤ l.length := List.length_filter_le _ _
  have h2 := dval_lt (digs l) (fun b hb => (List.mem_filter.1 hb).2)
  have h3 : 10 ^ (digs l).length ≤ 10 ^ k := Nat.pow_le_pow_right (by omega) (by omega)
  exact ⟨by omega, by omega⟩
theorem digs_take_bd (s : ByteArray) (i : Nat) (h : i ≤ 10) : dval (digs (s.data.toList.take i)) ≤ 9999999999 ∧ (digs (s.data.toList.take i)).length ≤ 10 := by
  have := digs_bd (s.data.toList.take i) 10 (by have := List.length_take_le i s.data.toList; omega)
  have e : 10 ^ 10 = 10000000000 := by decide
  omega
theorem digs_step_yes (s : ByteArray) (i : Nat) (h : i < s.size) (hd : 48 ≤ s[i].toNat ∧ s[i].toNat ≤ 57) :
    digs (s.data.toList.take (i + 1)) = digs (s.data.toList.take i) ++ [s[i]] := by
  rw [Num.take_snoc s i h, digs_snoc, (isD_iff _).2 hd]; rfl
theorem digs_step_no (s : ByteArray) (i : Nat) (h : i < s.size) (hd : ¬ (48 ≤ s[i].toNat ∧ s[i].toNat ≤ 57)) :
    digs (s.data.toList.take (i + 1)) = digs (s.data.toList.take i) := by
  rw [Num.take_snoc s i h, digs_snoc, if_neg (fun hh => hd ((isD_iff _).1 hh)), List.append_nil]
theorem neg_yes (s : ByteArray) (h : 0 < s.size) (h0 : s[0].toNat = 45) : neg s.data.toList = true := by
  have hl : 0 < s.data.toList.length := h
  have e : s.data.toList = s[0] :: s.data.toList.drop 1 := List.drop_eq_getElem_cons (l := s.data.toList) (i := 0) hl
  have e2 : s[0] = 45 := UInt8.toNat_inj.1 h0
  rw [e, e2]; rfl
theorem neg_no (s : ByteArray) (h : s.size = 0 ∨ ∃ h : 0 < s.size, s[0].toNat ≠ 45) : neg s.data.toList = false := by
  apply (rest_of _ _).2
  intro r hr
  have hl := congrArg List.length hr
  have hs : s.data.toList.length = s.size := rfl
  rw [hs, List.length_cons] at hl
  rcases h with h | ⟨h, h0⟩
  · omega
  · apply h0
    have hl2 : 0 < s.data.toList.length := h
    have e : s[0] = s.data.toList[0] := rfl
    rw [e]
    simp [hr]

/-- A call of ReadDec has ended well: it answers what it may, and what was there is as it was. -/
def RdPost (s : ByteArray) (w : World) (e : Ending) (w' : World) : Prop := ∃ n b, e = .returned (.tuple #[.int .i64 n, .bool b]) ∧ Ans s.data.toList n b ∧ Below w.heap.size w w'
theorem rdPost {s : ByteArray} {w w' : World} (n : Int) (b : Bool) (h : Ans s.data.toList n b) (hb : Below w.heap.size w w') : RdPost s w (.returned (.tuple #[.int .i64 n, .bool b])) w' := ⟨n, b, rfl, h, hb⟩

set_option maxRecDepth 100000 in
set_option maxHeartbeats 3200000 in
theorem spec_rdec (s : ByteArray) (w : World) (h : s.size ≤ 1048576) :
    Calls Try.prog 16 #[.string s] w fun e w' => RdPost s w e w' := by
  go_enter Try.func16, Try.ntmps16
  go_wp2
  go_loop [4, 5, 6] (fun n k i => ∃ j : Nat, j ≤ 11 ∧ j ≤ s.size ∧ i = .int .i64 j ∧ n = .int .i64 (dval (digs (s.data.toList.take j)) : Nat) ∧ k = .int .i64 ((digs (s.data.toList.take j)).length : Nat)) (fun _ _ i => 11 - (intOf i).toNat)
  case atStart => exact ⟨0, by omega, by omega, rfl, rfl, rfl⟩
  case round =>
    obtain ⟨j, hj, hjs, rfl, rfl, rfl⟩ := hrel
    by_cases hlt : j < s.size ∧ j < 11
    · obtain ⟨hlt, hlt11⟩ := hlt
      have hb := digs_take_bd s j (by omega)
      have hb8 := s[j].toNat_lt
      by_cases hd : 48 ≤ s[j].toNat ∧ s[j].toNat ≤ 57
      · have E : Hid (digs (s.data.toList.take (j + 1)) = digs (s.data.toList.take j) ++ [s[j]]) := digs_step_yes s j hlt hd
        obtain ⟨d1, d2⟩ := hd
        go_wp2
        go_round
        case rel => exact ⟨j + 1, by omega, by omega, by go_num, by rw [E.out, dval_snoc]; go_num, by rw [E.out, List.length_append]; go_num⟩
        case measure => simp [intOf]; omega
      · have E : Hid (digs (s.data.toList.take (j + 1)) = digs (s.data.toList.take j)) := digs_step_no s j hlt hd
        by_cases d1 : 48 ≤ s[j].toNat
        · have d2 : 57 < s[j].toNat := by omega
          clear hd
          go_wp2
          go_round
          case rel => exact ⟨j + 1, by omega, by omega, by go_num, by rw [E.out], by rw [E.out]⟩
          case measure => simp [intOf]; omega
        · have d2 : s[j].toNat < 48 := by omega
          clear hd d1
          go_wp2
          go_round
          case rel => exact ⟨j + 1, by omega, by omega, by go_num, by rw [E.out], by rw [E.out]⟩
          case measure => simp [intOf]; omega
    · have e11 : s.data.toList.take j = s.data.toList.take 11 := by
        by_cases e : j = 11
        · rw [e]
        · have hs : s.data.toList.length = s.size := rfl
          rw [List.take_of_length_le (by omega), List.take_of_length_le (by omega)]
      rw [e11]
      obtain ⟨D, hD⟩ : ∃ D : Nat, dval (digs (s.data.toList.take 11)) = D := ⟨_, rfl⟩
      obtain ⟨K, hK⟩ : ∃ K : Nat, (digs (s.data.toList.take 11)).length = K := ⟨_, rfl⟩
      have hbd := digs_bd (s.data.toList.take 11) 11 (List.length_take_le _ _)
      have e12 : 10 ^ 11 = 100000000000 := by decide
      have hDb : D < 100000000000 := by omega
      have hKb : K ≤ 11 := by omega
      have HK : Hid (specK s.data.toList = K) := hK
      have hN1 : Hid (neg s.data.toList = true → specN s.data.toList = -(D : Int)) := by intro hn; unfold specN; rw [hn, hD]; rfl
      have hN0 : Hid (neg s.data.toList = false → specN s.data.toList = (D : Int)) := by intro hn; unfold specN; rw [hn, hD]; rfl
      rw [hD, hK]
      clear hD hK hbd e12 e11
      have hs10 : Hid (s.data.toList.length = s.size) := rfl
      have fin : ∀ (N : Int), Hid (specN s.data.toList = N) → Hid ((K ≤ 9 ∧ s.size ≤ 10 ∧ (decB N == s.data.toList) = true → Ans s.data.toList N true) ∧ (¬ (K ≤ 9 ∧ s.size ≤ 10 ∧ (decB N == s.data.toList) = true) → Ans s.data.toList 0 false)) := by
        intro N hN
        refine ⟨?_, ?_⟩
        · rintro ⟨a1, a2, a3⟩
          have hc := canon_of s.data.toList (by rw [HK.out]; exact a1) (by rw [hs10.out]; exact a2) (by rw [hN.out]; simpa using a3)
          exact Or.inl ⟨hc, by rw [← hN.out]; exact (of_canon _ hc).2.2.2, rfl⟩
        · intro hno
          refine Or.inr ⟨fun hc => hno ?_, rfl, rfl⟩
          obtain ⟨c1, c2, c3, c4⟩ := of_canon _ hc
          rw [HK.out] at c1
          rw [hs10.out] at c2
          rw [hN.out] at c3
          exact ⟨c1, c2, by simpa using c3⟩
      have hcase : (s.size = 0) ∨ (∃ h : 0 < s.size, s[0].toNat ≠ 45) ∨ (∃ h : 0 < s.size, s[0].toNat = 45) := by
        by_cases h0 : 0 < s.size
        · by_cases h1 : s[0].toNat = 45
          · exact Or.inr (Or.inr ⟨h0, h1⟩)
          · exact Or.inr (Or.inl ⟨h0, h1⟩)
        · exact Or.inl (by omega)
      have jx : j < s.size ∨ ¬ j < s.size := Decidable.em _
      rcases jx with jx | jx
      all_goals
        rcases hcase with c | ⟨c0, c1⟩ | ⟨c0, c1⟩
        · have hN : Hid (specN s.data.toList = (D : Int)) := hN0.out (neg_no s (Or.inl c))
          have F := fin (D : Int) hN
          clear fin hN1 hN0 HK hs10
          by_cases k9 : K ≤ 9
          · by_cases k10 : s.size ≤ 10
            · by_cases q : (decB (D : Int) == s.data.toList) = true
              · have q1 : (decB (D : Int) == s.toList) = true := by rw [ByteArray.toList_eq]; exact q
                have dk : decide (9 < (K : Int)) = false := by simp; omega
                have A : Hid (Ans s.data.toList (D : Int) true) := F.out.1 ⟨k9, k10, q⟩
                clear F q
                go_wp2_with (go_at_call 22; refine (spec_dec _ _ ?_ ?_).mono ?_; omega; omega; rintro e w1 ⟨rfl, hb⟩)
                all_goals go_ret2
                all_goals exact rdPost (D : Int) true A.out hb
              · have q1 : (decB (D : Int) == s.toList) = false := by rw [ByteArray.toList_eq]; simpa using q
                have dk : decide (9 < (K : Int)) = false := by simp; omega
                have A : Hid (Ans s.data.toList 0 false) := F.out.2 (fun hh => q hh.2.2)
                clear F q
                go_wp2_with (go_at_call 22; refine (spec_dec _ _ ?_ ?_).mono ?_; omega; omega; rintro e w1 ⟨rfl, hb⟩)
                all_goals go_ret2
                all_goals exact rdPost 0 false A.out hb
            · have A : Hid (Ans s.data.toList 0 false) := F.out.2 (fun hh => k10 hh.2.1)
              clear F
              go_wp2
              all_goals go_ret2
              all_goals exact rdPost 0 false A.out (Below.refl _ _)
          · have A : Hid (Ans s.data.toList 0 false) := F.out.2 (fun hh => k9 hh.1)
            clear F
            go_wp2
            all_goals go_ret2
            all_goals exact rdPost 0 false A.out (Below.refl _ _)
        · have hN : Hid (specN s.data.toList = (D : Int)) := hN0.out (neg_no s (Or.inr ⟨c0, c1⟩))
          have c2 : ((s[0].toNat : Int) == 45) = false := by simp; omega
          have F := fin (D : Int) hN
          clear fin hN1 hN0 HK hs10
          by_cases k9 : K ≤ 9
          · by_cases k10 : s.size ≤ 10
            · by_cases q : (decB (D : Int) == s.data.toList) = true
              · have q1 : (decB (D : Int) == s.toList) = true := by rw [ByteArray.toList_eq]; exact q
                have dk : decide (9 < (K : Int)) = false := by simp; omega
                have A : Hid (Ans s.data.toList (D : Int) true) := F.out.1 ⟨k9, k10, q⟩
                clear F q
                go_wp2_with (go_at_call 22; refine (spec_dec _ _ ?_ ?_).mono ?_; omega; omega; rintro e w1 ⟨rfl, hb⟩)
                all_goals go_ret2
                all_goals exact rdPost (D : Int) true A.out hb
              · have q1 : (decB (D : Int) == s.toList) = false := by rw [ByteArray.toList_eq]; simpa using q
                have dk : decide (9 < (K : Int)) = false := by simp; omega
                have A : Hid (Ans s.data.toList 0 false) := F.out.2 (fun hh => q hh.2.2)
                clear F q
                go_wp2_with (go_at_call 22; refine (spec_dec _ _ ?_ ?_).mono ?_; omega; omega; rintro e w1 ⟨rfl, hb⟩)
                all_goals go_ret2
                all_goals exact rdPost 0 false A.out hb
            · have A : Hid (Ans s.data.toList 0 false) := F.out.2 (fun hh => k10 hh.2.1)
              clear F
              go_wp2
              all_goals go_ret2
              all_goals exact rdPost 0 false A.out (Below.refl _ _)
          · have A : Hid (Ans s.data.toList 0 false) := F.out.2 (fun hh => k9 hh.1)
            clear F
            go_wp2
            all_goals go_ret2
            all_goals exact rdPost 0 false A.out (Below.refl _ _)
        · have hN : Hid (specN s.data.toList = -(D : Int)) := hN1.out (neg_yes s c0 c1)
          have c2 : ((s[0].toNat : Int) == 45) = true := by simp; omega
          clear c1
          have F := fin (-(D : Int)) hN
          clear fin hN1 hN0 HK hs10
          by_cases k9 : K ≤ 9
          · by_cases k10 : s.size ≤ 10
            · by_cases q : (decB (-(D : Int)) == s.data.toList) = true
              · have q1 : (decB (-(D : Int)) == s.toList) = true := by rw [ByteArray.toList_eq]; exact q
                have dk : decide (9 < (K : Int)) = false := by simp; omega
                have A : Hid (Ans s.data.toList (-(D : Int)) true) := F.out.1 ⟨k9, k10, q⟩
                clear F q
                go_wp2_with (go_at_call 22; refine (spec_dec _ _ ?_ ?_).mono ?_; omega; omega; rintro e w1 ⟨rfl, hb⟩)
                all_goals go_ret2
                all_goals exact rdPost (-(D : Int)) true A.out hb
              · have q1 : (decB (-(D : Int)) == s.toList) = false := by rw [ByteArray.toList_eq]; simpa using q
                have dk : decide (9 < (K : Int)) = false := by simp; omega
                have A : Hid (Ans s.data.toList 0 false) := F.out.2 (fun hh => q hh.2.2)
                clear F q
                go_wp2_with (go_at_call 22; refine (spec_dec _ _ ?_ ?_).mono ?_; omega; omega; rintro e w1 ⟨rfl, hb⟩)
                all_goals go_ret2
                all_goals exact rdPost 0 false A.out hb
            · have A : Hid (Ans s.data.toList 0 false) := F.out.2 (fun hh => k10 hh.2.1)
              clear F
              go_wp2
              all_goals go_ret2
              all_goals exact rdPost 0 false A.out (Below.refl _ _)
          · have A : Hid (Ans s.data.toList 0 false) := F.out.2 (fun hh => k9 hh.1)
            clear F
            go_wp2
            all_goals go_ret2
            all_goals exact rdPost 0 false A.out (Below.refl _ _)

end Go.Proofs.Ytpidfofjjdjkdai
