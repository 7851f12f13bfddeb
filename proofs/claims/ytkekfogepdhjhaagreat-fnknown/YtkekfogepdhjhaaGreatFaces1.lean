/- Atoms, keys, sealed terms and numbers in them: the program and the model, one contract each. -/
import Derived.Test.YtkekfogepdhjhaaGreatOk
import Derived.Test.YtkekfogepdhjhaaGreatClone
import Derived.OwnWalk
import Derived.Laws.OwnMore
set_option linter.unusedVariables false
namespace Go.Proofs.YtkekfogepdhjhaaGreat
open Go.RowKit Own Var Term

theorem clone_is (s : ByteArray) (w : World) (h : s.size ≤ 1048576) : Calls Tryz.prog 38 #[.string s] w fun e w' => e = .returned (.string s) ∧ Below w.heap.size w w' := by
  go_enter Tryz.func38, Tryz.ntmps38
  go_wp2_with (go_at_call 73; refine (Tryz.stringslite_Clone s _ (by omega)).mono ?_; rintro e w1 ⟨rfl, hb⟩)
  go_ret
  exact ⟨rfl, hb⟩

theorem enc97 : Utf8.encode 97 = ⟨#[97]⟩ := by decide
theorem enc107 : Utf8.encode 107 = ⟨#[107]⟩ := by decide
theorem enc108 : Utf8.encode 108 = ⟨#[108]⟩ := by decide
theorem enc115 : Utf8.encode 115 = ⟨#[115]⟩ := by decide
theorem small {a b : Nat} (ha : a ≤ 4194304) (hb : b ≤ 4194304) : ¬ 9223372036854775807 < a + b := by omega
set_option maxRecDepth 100000 in
theorem spec_atom (d : ByteArray) (w : World) (h : d.size ≤ 1048576) : Calls Tryz.prog 53 #[.string d] w fun e w' => e = .returned (.string (atomT d)) ∧ Below w.heap.size w w' := by
  by_cases hd : 40 < d.size
  · rw [atomT_big d hd h]
    have hd' : (40 : Int) < (d.size : Int) := by omega
    go_enter Tryz.func53, Tryz.ntmps53
    go_wp2
    go_ret
    exact ⟨rfl, Below.refl _ _⟩
  · have hz := hdT_size 97 d.size
    have hv := varOf_size d.size
    have h1 : ¬ 9223372036854775807 < 1 + (varOf d.size).size := by omega
    have h2 : ¬ 9223372036854775807 < 1 + (varOf d.size).size + d.size := by omega
    have hd' : (d.size : Int) ≤ 40 := by omega
    go_enter Tryz.func53, Tryz.ntmps53
    go_wp2_with fail
    refine (spec_var _ _).mono ?_
    rintro e w1 ⟨rfl, hb⟩
    go_wp2_with fail
    refine (spec_or (hdT 97 d.size ++ d) _ (by rw [ByteArray.size_append]; omega)).mono ?_
    rintro e w2 ⟨rfl, hb2⟩
    go_wp2
    go_ret
    exact ⟨rfl, hb.trans (hb2.mono hb.size)⟩

/-! Keys -/
set_option maxRecDepth 100000 in
theorem spec_key (k : Int) (w : World) : Calls Tryz.prog 55 #[.int .i64 k] w fun e w' => e = .returned (.string (keyT k)) ∧ Below w.heap.size w w' := by
  have hv := varOf_size k
  have h1 : ¬ 9223372036854775807 < 1 + (varOf k).size := by omega
  have hI := fun w => in_is k 1 1000000 w
  unfold keyT
  by_cases h : 1 ≤ k ∧ k ≤ 1000000
  · rw [if_pos h]
    have e : (decide ((1 : Int) ≤ k) && decide (k ≤ 1000000)) = true := by simp; omega
    rw [e] at hI
    go_enter Tryz.func55, Tryz.ntmps55
    go_wp2_with fail
    refine (hI _).mono ?_
    rintro e w1 ⟨rfl, rfl⟩
    go_wp2_with fail
    refine (spec_var _ _).mono ?_
    rintro e w1 ⟨rfl, hb⟩
    go_wp2
    go_ret
    exact ⟨rfl, hb⟩
  · rw [if_neg h]
    have e : (decide ((1 : Int) ≤ k) && decide (k ≤ 1000000)) = false := by rw [Bool.eq_false_iff]; simp; omega
    rw [e] at hI
    go_enter Tryz.func55, Tryz.ntmps55
    go_wp2_with fail
    refine (hI _).mono ?_
    rintro e w1 ⟨rfl, rfl⟩
    go_wp2
    go_ret
    exact ⟨rfl, Below.refl _ _⟩

/-! Sealed terms -/
set_option maxRecDepth 100000 in
theorem spec_seal (k : Int) (t : ByteArray) (w : World) (h : t.size ≤ 1048576) : Calls Tryz.prog 56 #[.int .i64 k, .string t] w fun e w' => e = .returned (.string (sealT k t)) ∧ Below w.heap.size w w' := by
  have hz := hdT_size 115 k
  have hv := varOf_size k
  have h1 : ¬ 9223372036854775807 < 1 + (varOf k).size := by omega
  have h2 : ¬ 9223372036854775807 < 1 + (varOf k).size + t.size := by omega
  have hI := fun w => in_is k 1 1000000 w
  have hO := fun w => spec_ok t w h
  by_cases hk : 1 ≤ k ∧ k ≤ 1000000
  · have e : (decide ((1 : Int) ≤ k) && decide (k ≤ 1000000)) = true := by simp; omega
    rw [e] at hI
    rcases Bool.eq_false_or_eq_true (isT t) with hT | hT
    · rw [hT] at hO
      have h9 := ((isT_iff t).1 hT).1
      unfold sealT
      rw [if_pos hk]
      go_enter Tryz.func56, Tryz.ntmps56
      go_wp2_with fail
      refine (hI _).mono ?_
      rintro e w1 ⟨rfl, rfl⟩
      go_wp2_with fail
      refine (hO _).mono ?_
      rintro e w1 ⟨rfl, hb0⟩
      go_wp2_with fail
      refine (spec_var _ _).mono ?_
      rintro e w2 ⟨rfl, hb1⟩
      go_wp2_with fail
      refine (spec_or (hdT 115 k ++ t) _ (by rw [ByteArray.size_append]; omega)).mono ?_
      rintro e w3 ⟨rfl, hb2⟩
      go_wp2
      go_ret
      have hb := hb0.trans (hb1.mono hb0.size)
      exact ⟨rfl, hb.trans (hb2.mono hb.size)⟩
    · rw [hT] at hO
      rw [sealT_part k t hT]
      go_enter Tryz.func56, Tryz.ntmps56
      go_wp2_with fail
      refine (hI _).mono ?_
      rintro e w1 ⟨rfl, rfl⟩
      go_wp2_with fail
      refine (hO _).mono ?_
      rintro e w1 ⟨rfl, hb0⟩
      go_wp2
      go_ret
      exact ⟨rfl, hb0⟩
  · unfold sealT
    rw [if_neg hk]
    have e : (decide ((1 : Int) ≤ k) && decide (k ≤ 1000000)) = false := by rw [Bool.eq_false_iff]; simp; omega
    rw [e] at hI
    go_enter Tryz.func56, Tryz.ntmps56
    go_wp2_with fail
    refine (hI _).mono ?_
    rintro e w1 ⟨rfl, rfl⟩
    go_wp2
    go_ret
    exact ⟨rfl, Below.refl _ _⟩

/-! Num -/
end Go.Proofs.YtkekfogepdhjhaaGreat

set_option linter.unusedVariables false
namespace Go.Proofs.YtkekfogepdhjhaaGreat
open Go.RowKit Own Var Term

theorem rk_facts {s r : ByteArray} {kind n : Nat} (h : rk s kind = some (n, r)) :
    isT s = true ∧ 2 ≤ s.size ∧ at_ s 0 = kind ∧ cut s = some (n, r) ∧ s.size ≤ 900 ∧ r.size ≤ 900 := by
  by_cases c : IsT s ∧ at_ s 0 = kind
  · rw [rk_yes c.1 c.2] at h
    have := (cut_size h).1
    have h9 := c.1.1
    exact ⟨(isT_iff s).2 c.1, by omega, c.2, h, by omega, by omega⟩
  · rw [rk_no c] at h; simp at h
theorem cut_eq {s r : ByteArray} {n : Nat} (h : cut s = some (n, r)) : rvN (suf s 1) = n ∧ r = suf s (1 + rvK (suf s 1)) ∧ 1 + rvK (suf s 1) ≤ s.size := by
  have hK := (rvK_le (suf s 1)).2
  rw [suf_size] at hK
  unfold cut at h
  split at h
  · rename_i c
    simp only [Option.some.injEq, Prod.mk.injEq] at h
    exact ⟨h.1, h.2.symm, by omega⟩
  · simp at h

/-! ReadAtom -/
def atomR (s : ByteArray) : ByteArray × Bool := match rk s 97 with
  | some (_, d) => (d, true)
  | none => (⟨#[]⟩, false)
theorem byte_ne {s : ByteArray} {kind : Nat} (h : 0 < s.size) (hr : rk s kind = none) (hT : isT s = true) : ((s[0].toNat : Int) == (kind : Int)) = false := by
  rw [Bool.eq_false_iff]; intro hh; simp at hh
  have hat := at_eq s 0 h
  obtain ⟨n, t, hc⟩ := ((isT_iff s).1 hT).cut
  rw [rk_yes ((isT_iff s).1 hT) (by omega), hc] at hr
  simp at hr

def keyR (s : ByteArray) : Int × Bool := match rk s 107 with
  | some (n, _) => ((n : Int), true)
  | none => (0, false)
set_option maxRecDepth 100000 in
set_option maxHeartbeats 800000 in
theorem spec_readKey (s : ByteArray) (w : World) (hs : s.size ≤ 1048576) :
    Calls Tryz.prog 74 #[.string s] w fun e w' => e = .returned (.tuple #[.int .i64 (keyR s).1, .bool (keyR s).2]) ∧ Below w.heap.size w w' := by
  have hO := fun w => spec_ok s w hs
  unfold keyR
  cases hr : rk s 107 with
  | none =>
    rcases Bool.eq_false_or_eq_true (isT s) with hT | hT
    · have h2 := not_empty ((isT_iff s).1 hT)
      have h0 : 0 < s.size := by omega
      have hb97 := byte_ne h0 hr hT
      rw [hT] at hO
      clear hr hT
      go_enter Tryz.func74, Tryz.ntmps74
      go_wp2_with fail
      refine (hO _).mono ?_
      rintro e w1 ⟨rfl, hb⟩
      go_wp2
      go_ret2
      exact ⟨rfl, hb⟩
    · rw [hT] at hO
      clear hr hT
      go_enter Tryz.func74, Tryz.ntmps74
      go_wp2_with fail
      refine (hO _).mono ?_
      rintro e w1 ⟨rfl, hb⟩
      go_wp2
      go_ret2
      exact ⟨rfl, hb⟩
  | some q =>
    obtain ⟨n, r⟩ := q
    obtain ⟨hT, h2, hk, hc, _, _⟩ := rk_facts hr
    rw [hT] at hO
    obtain ⟨hn, hrr, hK⟩ := cut_eq hc
    obtain ⟨K, hKe⟩ : ∃ K, rvK (suf s 1) = K := ⟨_, rfl⟩
    rw [hKe] at hrr hK
    have hat := at_eq s 0 (by omega)
    have h0 : 0 < s.size := by omega
    have hb97 : ((s[0].toNat : Int) == 107) = true := by simp; omega
    have hRV := fun w => spec_rvf (suf s 1) w (by rw [suf_size]; omega) n K hn hKe
    subst hrr
    clear hr hT hc hat hk hn hKe
    go_enter Tryz.func74, Tryz.ntmps74
    go_wp2_with fail
    refine (hO _).mono ?_
    rintro e w1 ⟨rfl, hb⟩
    go_wp2_with fail
    refine (hRV _).mono ?_
    rintro e w2 ⟨rfl, hb2⟩
    have hb3 := hb.trans (hb2.mono hb.size)
    go_wp2
    go_ret2
    exact ⟨rfl, hb3⟩

/-! Open -/
def openR (s : ByteArray) (k : Int) : ByteArray × Bool := match rk s 115 with
  | some (n, t) => if (n : Int) = k then (t, true) else (⟨#[]⟩, false)
  | none => (⟨#[]⟩, false)
set_option maxRecDepth 100000 in
set_option maxHeartbeats 800000 in
theorem spec_open (s : ByteArray) (k : Int) (w : World) (hs : s.size ≤ 1048576) :
    Calls Tryz.prog 76 #[.string s, .int .i64 k] w fun e w' => e = .returned (.tuple #[.string (openR s k).1, .bool (openR s k).2]) ∧ Below w.heap.size w w' := by
  have hO := fun w => spec_ok s w hs
  unfold openR
  cases hr : rk s 115 with
  | none =>
    rcases Bool.eq_false_or_eq_true (isT s) with hT | hT
    · have h2 := not_empty ((isT_iff s).1 hT)
      have h0 : 0 < s.size := by omega
      have hb97 := byte_ne h0 hr hT
      rw [hT] at hO
      clear hr hT
      go_enter Tryz.func76, Tryz.ntmps76
      go_wp2_with fail
      refine (hO _).mono ?_
      rintro e w1 ⟨rfl, hb⟩
      go_wp2
      go_ret2
      exact ⟨rfl, hb⟩
    · rw [hT] at hO
      clear hr hT
      go_enter Tryz.func76, Tryz.ntmps76
      go_wp2_with fail
      refine (hO _).mono ?_
      rintro e w1 ⟨rfl, hb⟩
      go_wp2
      go_ret2
      exact ⟨rfl, hb⟩
  | some q =>
    obtain ⟨n, r⟩ := q
    obtain ⟨hT, h2, hkk, hc, _, _⟩ := rk_facts hr
    rw [hT] at hO
    obtain ⟨hn, hrr, hK⟩ := cut_eq hc
    obtain ⟨K, hKe⟩ : ∃ K, rvK (suf s 1) = K := ⟨_, rfl⟩
    rw [hKe] at hrr hK
    have hat := at_eq s 0 (by omega)
    have h0 : 0 < s.size := by omega
    have hb97 : ((s[0].toNat : Int) == 115) = true := by simp; omega
    have hRV := fun w => spec_rvf (suf s 1) w (by rw [suf_size]; omega) n K hn hKe
    subst hrr
    clear hr hT hc hat hkk hn hKe
    by_cases hk : (n : Int) = k
    · have hk' : ((n : Int) == k) = true := by simpa using hk
      simp only [hk, if_true]
      go_enter Tryz.func76, Tryz.ntmps76
      go_wp2_with fail
      refine (hO _).mono ?_
      rintro e w1 ⟨rfl, hb⟩
      go_wp2_with fail
      refine (hRV _).mono ?_
      rintro e w2 ⟨rfl, hb2⟩
      have hb3 := hb.trans (hb2.mono hb.size)
      go_wp2
      go_ret2
      exact ⟨rfl, hb3⟩
    · have hk' : ((n : Int) == k) = false := by simpa using hk
      simp only [hk, if_false]
      go_enter Tryz.func76, Tryz.ntmps76
      go_wp2_with fail
      refine (hO _).mono ?_
      rintro e w1 ⟨rfl, hb⟩
      go_wp2_with fail
      refine (hRV _).mono ?_
      rintro e w2 ⟨rfl, hb2⟩
      have hb3 := hb.trans (hb2.mono hb.size)
      go_wp2
      go_ret2
      exact ⟨rfl, hb3⟩

/-! ReadNum -/
def numR (s : ByteArray) : Int × Bool := if 1 ≤ rvK (atomR s).1 ∧ rvK (atomR s).1 = (atomR s).1.size then ((rvN (atomR s).1 : Int), true) else (0, false)
theorem atomR_size (s : ByteArray) (h : s.size ≤ 1048576) : (atomR s).1.size ≤ 1048576 := by
  unfold atomR
  cases hr : rk s 97 with
  | none => show 0 ≤ _; omega
  | some q => obtain ⟨n, r⟩ := q; have := rk_facts hr; show r.size ≤ _; omega
theorem atomR_no (s : ByteArray) (h : (atomR s).2 = false) : (atomR s).1 = ⟨#[]⟩ := by
  unfold atomR at h ⊢
  cases hr : rk s 97 with
  | none => rfl
  | some q => rw [hr] at h; cases h
end Go.Proofs.YtkekfogepdhjhaaGreat

set_option linter.unusedVariables false
namespace Go.Proofs.YtkekfogepdhjhaaGreat
open Go.RowKit Own Var Term

/-- The cells from a on hold the row. -/
def RowAt {α : Type} (f : α → Value) (w : World) (a : Option Addr) (xs : List α) : Prop :=
  ∀ j (h : j < xs.length), ∃ b off, a = some ⟨b, off, none⟩ ∧ b < w.heap.size ∧ w.cell? ⟨b, off + j, none⟩ = some (f xs[j])
theorem RowAt.later {α : Type} {f : α → Value} {w w' : World} {a : Option Addr} {xs : List α} (h : RowAt f w a xs) (hb : Below w.heap.size w w') : RowAt f w' a xs := by
  intro j hj
  obtain ⟨b, off, e, hlt, hc⟩ := h j hj
  exact ⟨b, off, e, Nat.lt_of_lt_of_le hlt hb.size, by rw [hb.cell (p := ⟨b, off + j, none⟩) hlt]; exact hc⟩
theorem RowAt.own {α : Type} {f : α → Value} {w : World} {base g cap n : Nat} {e : TypeId} {xs : List α} (h : w.ownsRow base e 1 (.slice (some ⟨g, 0, none⟩) n cap) n (xs.map f)) : RowAt f w (some ⟨g, 0, none⟩) xs := by
  have hl : xs.length = n := by have := h.1; simpa using this
  intro j hj
  refine ⟨g, 0, rfl, (h.lt g rfl).2, ?_⟩
  rw [Nat.zero_add, h.cellAt j (by omega)]
  simp [hj]
theorem RowAt.nil {α : Type} {f : α → Value} (w : World) (a : Option Addr) : RowAt f w a [] := by intro j hj; simp at hj

theorem infoStr : (Tryz.prog.info? 9).map (fun i => (i.zero, i.size, i.bytes)) = some (some (.string ⟨#[]⟩), 1, 16) := by kernel_rfl
theorem infoInt : (Tryz.prog.info? 3).map (fun i => (i.zero, i.size, i.bytes)) = some (some (.int .i64 0), 1, 8) := by kernel_rfl
end Go.Proofs.YtkekfogepdhjhaaGreat
