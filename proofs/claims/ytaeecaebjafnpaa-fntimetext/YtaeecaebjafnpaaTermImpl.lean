/- The program's terms: the head of a term, one contract each. -/
import Derived.Test.YtaeecaebjafnpaaRows
import Derived.Test.YtaeecaebjafnpaaTermMath
import Derived.Test.YtaeecaebjafnpaaReadVarWalks
import Derived.WalkKit
import Derived.WalkSpells
import Derived.WalkLawsBesides
import Derived.WalkMore
set_option linter.unusedVariables false
namespace Go.Proofs.Ytaeecaebjafnpaa
open Go.RowKit Own Var Term

/-- What 'no term' panics with. -/
def noT : List PanicEntry := [{ v := .iface 9 (.string ⟨#[110, 111, 32, 116, 101, 114, 109]⟩), recovered := false }]

theorem must_yes (w : World) : Calls Try.prog 79 #[.bool true] w fun e w' => e = .returned (.tuple #[]) ∧ w = w' := by
  go_enter Try.func79, Try.ntmps79
  go_wp2
  go_end0
  exact ⟨rfl, rfl⟩
theorem must_no (w : World) : Calls Try.prog 79 #[.bool false] w fun e w' => e = .panicked noT ∧ w = w' := by
  go_enter Try.func79, Try.ntmps79
  go_wp2
  exact ⟨rfl, rfl, rfl⟩

theorem impl_rvf (s : ByteArray) (w : World) (h : s.size ≤ 1048576) (n k : Nat) (hn : rvN s = n) (hk : rvK s = k) :
    Calls Try.prog 64 #[.string s] w fun e w' => e = .returned (.tuple #[.int .i64 n, .int .i64 k]) ∧ w = w' := by
  refine (impl_rv s w h).mono ?_
  rintro e w' ⟨n, k, rfl, ha, rfl⟩
  obtain ⟨rfl, rfl⟩ := rv_one ha
  subst hn hk
  exact ⟨rfl, rfl⟩

theorem keyOk_is (n : Int) (w : World) : Calls Try.prog 95 #[.int .i64 n] w fun e w' => e = .returned (.bool (decide (1 ≤ n) && decide (n ≤ 1000000))) ∧ w = w' := by
  by_cases h : 1 ≤ n
  · go_enter Try.func95, Try.ntmps95
    go_wp2
    go_ret
    refine ⟨?_, rfl⟩
    simp [h]
  · go_enter Try.func95, Try.ntmps95
    go_wp2
    go_ret
    refine ⟨?_, rfl⟩
    simp
    omega
theorem key_same (n : Nat) : (decide (1 ≤ (n : Int)) && decide ((n : Int) ≤ 1000000)) = decide (1 ≤ n ∧ n ≤ 1000000) := by
  rw [Bool.eq_iff_iff]; simp; omega
theorem ne_nil (s : ByteArray) (h : 1 ≤ s.size) : (s.toList == []) = false := by
  rw [Bool.eq_false_iff]; intro hh; simp at hh
  rw [ByteArray.toList_eq] at hh
  have h1 := congrArg List.length hh
  have h2 : s.data.toList.length = s.size := rfl
  simp only [List.length_nil] at h1
  omega

theorem headOk_is (c n : Nat) (w : World) : Calls Try.prog 90 #[.int .u8 c, .int .i64 n] w fun e w' => e = .returned (.bool (hdOk c n)) ∧ w = w' := by
  by_cases h1 : c = 97
  · subst h1
    go_enter Try.func90, Try.ntmps90
    go_wp2
    go_ret
    exact ⟨by simp [hdOk]; omega, rfl⟩
  · have e1 : ((c : Int) == 97) = false := by simp; omega
    by_cases h2 : c = 108
    · subst h2
      go_enter Try.func90, Try.ntmps90
      go_wp2
      go_ret
      exact ⟨by simp [hdOk]; omega, rfl⟩
    · have e2 : ((c : Int) == 108) = false := by simp; omega
      by_cases h3 : c = 107
      · subst h3
        go_enter Try.func90, Try.ntmps90
        go_wp2_with (go_at_call 95; refine (keyOk_is _ _).mono ?_; rintro e w' ⟨rfl, rfl⟩)
        go_ret
        refine ⟨?_, rfl⟩
        rw [key_same]; rfl
      · have e3 : ((c : Int) == 107) = false := by simp; omega
        by_cases h4 : c = 115
        · subst h4
          go_enter Try.func90, Try.ntmps90
          go_wp2_with (go_at_call 95; refine (keyOk_is _ _).mono ?_; rintro e w' ⟨rfl, rfl⟩)
          go_ret
          refine ⟨?_, rfl⟩
          rw [key_same]; rfl
        · have e4 : ((c : Int) == 115) = false := by simp; omega
          go_enter Try.func90, Try.ntmps90
          go_wp2
          go_ret
          exact ⟨by simp [hdOk, h1, h2, h3, h4], rfl⟩

theorem cutHead_yes (s r : ByteArray) (n : Nat) (w : World) (hs : s.size ≤ 1048576) (h : Term.cut s = some (n, r)) :
    Calls Try.prog 80 #[.string s] w fun e w' => e = .returned (.tuple #[.int .i64 n, .string r]) ∧ Below w.heap.size w w' := by
  unfold Term.cut at h
  have hK := rvK_le (suf s 1)
  have hz := suf_size s 1
  generalize hn : rvN (suf s 1) = N at h
  generalize hk : rvK (suf s 1) = K at h hK
  split at h
  · rename_i hc
    simp only [Option.some.injEq, Prod.mk.injEq] at h
    obtain ⟨rfl, rfl⟩ := h
    obtain ⟨h1, h2, h3⟩ := hc
    have hb := at_eq s 0 (by omega)
    rw [← hb] at h3
    have hne := ne_nil s h1
    have HN : Hid (rvN (suf s 1) = N) := hn
    have HK : Hid (rvK (suf s 1) = K) := hk
    have hKz : K + 1 ≤ s.size := by omega
    generalize hB : hdOk s[0].toNat N = B at h3
    have HB : Hid (hdOk s[0].toNat N = B) := hB
    subst h3
    clear hn hk hb hz hK hB
    go_enter Try.func80, Try.ntmps80
    go_wp2_with fail
    refine (must_yes _).mono ?_
    rintro e w' ⟨rfl, rfl⟩
    go_wp2_with fail
    refine (impl_rvf (suf s 1) _ (by rw [suf_size]; omega) N K HN.out HK.out).mono ?_
    rintro e w'' ⟨rfl, rfl⟩
    go_wp2_with fail
    refine (headOk_is s[0].toNat N _).mono ?_
    rintro e w' ⟨rfl, rfl⟩
    rw [HB.out]
    go_wp2_with fail
    refine (must_yes _).mono ?_
    rintro e w' ⟨rfl, rfl⟩
    go_wp2
    go_region
    all_goals
      go_wp2
      go_ret2
      exact ⟨rfl, by first | exact Below.refl _ _ | exact (Below.refl _ _).drew⟩
  · simp at h

theorem nil_size (s : ByteArray) (h : s.size = 0) : (s.toList == []) = true := by
  rw [empty_of s h, ByteArray.toList_eq]; rfl
theorem cutHead_no (s : ByteArray) (w : World) (hs : s.size ≤ 1048576) (h : Term.cut s = none) :
    Calls Try.prog 80 #[.string s] w fun e w' => e = .panicked noT ∧ Below w.heap.size w w' := by
  by_cases h1 : 1 ≤ s.size
  · unfold Term.cut at h
    have hK := rvK_le (suf s 1)
    have hz := suf_size s 1
    generalize hn : rvN (suf s 1) = N at h
    generalize hk : rvK (suf s 1) = K at h hK
    split at h
    · simp at h
    · rename_i hc
      clear h
      have hb := at_eq s 0 (by omega)
      rw [← hb] at hc
      have hne := ne_nil s h1
      have HN : Hid (rvN (suf s 1) = N) := hn
      have HK : Hid (rvK (suf s 1) = K) := hk
      have hKz : K + 1 ≤ s.size := by omega
      generalize hB : hdOk s[0].toNat N = B at hc
      have HB : Hid (hdOk s[0].toNat N = B) := hB
      clear hn hk hb hz hK hB
      by_cases h2 : 1 ≤ K
      · have h3 : B = false := by
          rcases Bool.eq_false_or_eq_true B with e | e
          · exact absurd ⟨h1, h2, e⟩ hc
          · exact e
        subst h3
        clear hc
        go_enter Try.func80, Try.ntmps80
        go_wp2_with fail
        refine (must_yes _).mono ?_
        rintro e w' ⟨rfl, rfl⟩
        go_wp2_with fail
        refine (impl_rvf (suf s 1) _ (by rw [suf_size]; omega) N K HN.out HK.out).mono ?_
        rintro e w'' ⟨rfl, rfl⟩
        go_wp2_with fail
        refine (headOk_is s[0].toNat N _).mono ?_
        rintro e w' ⟨rfl, rfl⟩
        rw [HB.out]
        go_wp2_with fail
        refine (must_no _).mono ?_
        rintro e w' ⟨rfl, rfl⟩
        go_wp2
        exact ⟨rfl, rfl, Below.refl _ _⟩
      · obtain rfl : K = 0 := by omega
        clear hc
        go_enter Try.func80, Try.ntmps80
        go_wp2_with fail
        refine (must_yes _).mono ?_
        rintro e w' ⟨rfl, rfl⟩
        go_wp2_with fail
        refine (impl_rvf (suf s 1) _ (by rw [suf_size]; omega) N 0 HN.out HK.out).mono ?_
        rintro e w'' ⟨rfl, rfl⟩
        go_wp2_with fail
        refine (must_no _).mono ?_
        rintro e w' ⟨rfl, rfl⟩
        go_wp2
        exact ⟨rfl, rfl, Below.refl _ _⟩
  · have hne := nil_size s (by omega)
    clear h
    go_enter Try.func80, Try.ntmps80
    go_wp2_with fail
    refine (must_no _).mono ?_
    rintro e w' ⟨rfl, rfl⟩
    go_wp2
    exact ⟨rfl, rfl, Below.refl _ _⟩
end Go.Proofs.Ytaeecaebjafnpaa
