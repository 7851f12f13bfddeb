/- Atoms, keys, sealed terms and numbers in them: the program and the model, one contract each. -/
import Derived.Test.YtkekfogepdhjhaaOk
import Derived.Test.YtkekfogepdhjhaaClone
import Derived.OwnWalk
import Derived.Laws.OwnMore
set_option linter.unusedVariables false
namespace Go.Proofs.Ytkekfogepdhjhaa
open Go.RowKit Own Var Term

theorem clone_is (s : ByteArray) (w : World) (h : s.size ≤ 1048576) : Calls Try.prog 67 #[.string s] w fun e w' => e = .returned (.string s) ∧ Below w.heap.size w w' := by
  go_enter Try.func67, Try.ntmps67
  go_wp2_with (go_at_call 100; refine (Try.stringslite_Clone s _ (by omega)).mono ?_; rintro e w1 ⟨rfl, hb⟩)
  go_ret
  exact ⟨rfl, hb⟩

theorem enc97 : Utf8.encode 97 = ⟨#[97]⟩ := by decide
theorem enc107 : Utf8.encode 107 = ⟨#[107]⟩ := by decide
theorem enc108 : Utf8.encode 108 = ⟨#[108]⟩ := by decide
theorem enc115 : Utf8.encode 115 = ⟨#[115]⟩ := by decide
theorem small {a b : Nat} (ha : a ≤ 4194304) (hb : b ≤ 4194304) : ¬ 9223372036854775807 < a + b := by omega
set_option maxRecDepth 100000 in
theorem spec_atom (d : ByteArray) (w : World) (h : d.size ≤ 1048576) : Calls Try.prog 21 #[.string d] w fun e w' => e = .returned (.string (atomT d)) ∧ Below w.heap.size w w' := by
  by_cases hd : 40 < d.size
  · rw [atomT_big d hd h]
    have hd' : (40 : Int) < (d.size : Int) := by omega
    go_enter Try.func21, Try.ntmps21
    go_wp2
    go_ret
    exact ⟨rfl, Below.refl _ _⟩
  · have hz := hdT_size 97 d.size
    have hv := varOf_size d.size
    have h1 : ¬ 9223372036854775807 < 1 + (varOf d.size).size := by omega
    have h2 : ¬ 9223372036854775807 < 1 + (varOf d.size).size + d.size := by omega
    have hd' : (d.size : Int) ≤ 40 := by omega
    go_enter Try.func21, Try.ntmps21
    go_wp2_with fail
    refine (spec_var _ _).mono ?_
    rintro e w1 ⟨rfl, hb⟩
    go_wp2_with fail
    refine (spec_or (hdT 97 d.size ++ d) _ (by rw [ByteArray.size_append]; omega)).mono ?_
    rintro e w2 ⟨rfl, hb2⟩
    go_wp2
    go_ret
    exact ⟨rfl, hb.trans (hb2.mono hb.size)⟩

/-! Keys -/
set_option maxRecDepth 100000 in
theorem spec_key (k : Int) (w : World) : Calls Try.prog 84 #[.int .i64 k] w fun e w' => e = .returned (.string (keyT k)) ∧ Below w.heap.size w w' := by
  have hv := varOf_size k
  have h1 : ¬ 9223372036854775807 < 1 + (varOf k).size := by omega
  have hI := fun w => in_is k 1 1000000 w
  unfold keyT
  by_cases h : 1 ≤ k ∧ k ≤ 1000000
  · rw [if_pos h]
    have e : (decide ((1 : Int) ≤ k) && decide (k ≤ 1000000)) = true := by simp; omega
    rw [e] at hI
    go_enter Try.func84, Try.ntmps84
    go_wp2_with fail
    refine (hI _).mono ?_
    rintro e w1 ⟨rfl, rfl⟩
    go_wp2_with fail
    refine (spec_var _ _).mono ?_
    rintro e w1 ⟨rfl, hb⟩
    go_wp2
    go_ret
    exact ⟨rfl, hb⟩
  · rw [if_neg h]
    have e : (decide ((1 : Int) ≤ k) && decide (k ≤ 1000000)) = false := by rw [Bool.eq_false_iff]; simp; omega
    rw [e] at hI
    go_enter Try.func84, Try.ntmps84
    go_wp2_with fail
    refine (hI _).mono ?_
    rintro e w1 ⟨rfl, rfl⟩
    go_wp2
    go_ret
    exact ⟨rfl, Below.refl _ _⟩

/-! Sealed terms -/
set_option maxRecDepth 100000 in
theorem spec_seal (k : Int) (t : ByteArray) (w : World) (h : t.size ≤ 1048576) : Calls Try.prog 16 #[.int .i64 k, .string t] w fun e w' => e = .returned (.string (sealT k t)) ∧ Below w.heap.size w w' := by
  have hz := hdT_size 115 k
  have hv := varOf_size k
  have h1 : ¬ 9223372036854775807 < 1 + (varOf k).size := by omega
  have h2 : ¬ 9223372036854775807 < 1 + (varOf k).size + t.size := by omega
  have hI := fun w => in_is k 1 1000000 w
  have hO := fun w => spec_ok t w h
  by_cases hk : 1 ≤ k ∧ k ≤ 1000000
  · have e : (decide ((1 : Int) ≤ k) && decide (k ≤ 1000000)) = true := by simp; omega
    rw [e] at hI
    rcases Bool.eq_false_or_eq_true (isT t) with hT | hT
    · rw [hT] at hO
      have h9 := ((isT_iff t).1 hT).1
      unfold sealT
      rw [if_pos hk]
      go_enter Try.func16, Try.ntmps16
      go_wp2_with fail
      refine (hI _).mono ?_
      rintro e w1 ⟨rfl, rfl⟩
      go_wp2_with fail
      refine (hO _).mono ?_
      rintro e w1 ⟨rfl, hb0⟩
      go_wp2_with fail
      refine (spec_var _ _).mono ?_
      rintro e w2 ⟨rfl, hb1⟩
      go_wp2_with fail
      refine (spec_or (hdT 115 k ++ t) _ (by rw [ByteArray.size_append]; omega)).mono ?_
      rintro e w3 ⟨rfl, hb2⟩
      go_wp2
      go_ret
      have hb := hb0.trans (hb1.mono hb0.size)
      exact ⟨rfl, hb.trans (hb2.mono hb.size)⟩
    · rw [hT] at hO
      rw [sealT_part k t hT]
      go_enter Try.func16, Try.ntmps16
      go_wp2_with fail
      refine (hI _).mono ?_
      rintro e w1 ⟨rfl, rfl⟩
      go_wp2_with fail
      refine (hO _).mono ?_
      rintro e w1 ⟨rfl, hb0⟩
      go_wp2
      go_ret
      exact ⟨rfl, hb0⟩
  · unfold sealT
    rw [if_neg hk]
    have e : (decide ((1 : Int) ≤ k) && decide (k ≤ 1000000)) = false := by rw [Bool.eq_false_iff]; simp; omega
    rw [e] at hI
    go_enter Try.func16, Try.ntmps16
    go_wp2_with fail
    refine (hI _).mono ?_
    rintro e w1 ⟨rfl, rfl⟩
    go_wp2
    go_ret
    exact ⟨rfl, Below.refl _ _⟩

/-! Num -/
end Go.Proofs.Ytkekfogepdhjhaa

set_option linter.unusedVariables false
namespace Go.Proofs.Ytkekfogepdhjhaa
open Go.RowKit Own Var Term

theorem rk_facts {s r : ByteArray} {kind n : Nat} (h : rk s kind = some (n, r)) :
    isT s = true ∧ 2 ≤ s.size ∧ at_ s 0 = kind ∧ cut s = some (n, r) ∧ s.size ≤ 900 ∧ r.size ≤ 900 := by
  by_cases c : IsT s ∧ at_ s 0 = kind
  · rw [rk_yes c.1 c.2] at h
    have := (cut_size h).1
    have h9 := c.1.1
    exact ⟨(isT_iff s).2 c.1, by omega, c.2, h, by omega, by omega⟩
  · rw [rk_no c] at h; simp at h
theorem cut_eq {s r : ByteArray} {n : Nat} (h : cut s = some (n, r)) : rvN (suf s 1) = n ∧ r = suf s (1 + rvK (suf s 1)) ∧ 1 + rvK (suf s 1) ≤ s.size := by
  have hK := (rvK_le (suf s 1)).2
  rw [suf_size] at hK
  unfold cut at h
  split at h
  · rename_i c
    simp only [Option.some.injEq, Prod.mk.injEq] at h
    exact ⟨h.1, h.2.symm, by omega⟩
  · simp at h

/-! ReadAtom -/
def atomR (s : ByteArray) : ByteArray × Bool := match rk s 97 with
  | some (_, d) => (d, true)
  | none => (⟨#[]⟩, false)
theorem byte_ne {s : ByteArray} {kind : Nat} (h : 0 < s.size) (hr : rk s kind = none) (hT : isT s = true) : ((s[0].toNat : Int) == (kind : Int)) = false := by
  rw [Bool.eq_false_iff]; intro hh; simp at hh
  have hat := at_eq s 0 h
  obtain ⟨n, t, hc⟩ := ((isT_iff s).1 hT).cut
  rw [rk_yes ((isT_iff s).1 hT) (by omega), hc] at hr
  simp at hr

def keyR (s : ByteArray) : Int × Bool := match rk s 107 with
  | some (n, _) => ((n : Int), true)
  | none => (0, false)
set_option maxRecDepth 100000 in
set_option maxHeartbeats 800000 in
theorem spec_readKey (s : ByteArray) (w : World) (hs : s.size ≤ 1048576) :
    Calls Try.prog 95 #[.string s] w fun e w' => e = .returned (.tuple #[.int .i64 (keyR s).1, .bool (keyR s).2]) ∧ Below w.heap.size w w' := by
  have hO := fun w => spec_ok s w hs
  unfold keyR
  cases hr : rk s 107 with
  | none =>
    rcases Bool.eq_false_or_eq_true (isT s) with hT | hT
    · have h2 := not_empty ((isT_iff s).1 hT)
      have h0 : 0 < s.size := by omega
      have hb97 := byte_ne h0 hr hT
      rw [hT] at hO
      clear hr hT
      go_enter Try.func95, Try.ntmps95
      go_wp2_with fail
      refine (hO _).mono ?_
      rintro e w1 ⟨rfl, hb⟩
      go_wp2
      go_ret2
      exact ⟨rfl, hb⟩
    · rw [hT] at hO
      clear hr hT
      go_enter Try.func95, Try.ntmps95
      go_wp2_with fail
      refine (hO _).mono ?_
      rintro e w1 ⟨rfl, hb⟩
      go_wp2
      go_ret2
      exact ⟨rfl, hb⟩
  | some q =>
    obtain ⟨n, r⟩ := q
    obtain ⟨hT, h2, hk, hc, _, _⟩ := rk_facts hr
    rw [hT] at hO
    obtain ⟨hn, hrr, hK⟩ := cut_eq hc
    obtain ⟨K, hKe⟩ : ∃ K, rvK (suf s 1) = K := ⟨_, rfl⟩
    rw [hKe] at hrr hK
    have hat := at_eq s 0 (by omega)
    have h0 : 0 < s.size := by omega
    have hb97 : ((s[0].toNat : Int) == 107) = true := by simp; omega
    have hRV := fun w => spec_rvf (suf s 1) w (by rw [suf_size]; omega) n K hn hKe
    subst hrr
    clear hr hT hc hat hk hn hKe
    go_enter Try.func95, Try.ntmps95
    go_wp2_with fail
    refine (hO _).mono ?_
    rintro e w1 ⟨rfl, hb⟩
    go_wp2_with fail
    refine (hRV _).mono ?_
    rintro e w2 ⟨rfl, hb2⟩
    have hb3 := hb.trans (hb2.mono hb.size)
    go_wp2
    go_ret2
    exact ⟨rfl, hb3⟩

/-! Open -/
def openR (s : ByteArray) (k : Int) : ByteArray × Bool := match rk s 115 with
  | some (n, t) => if (n : Int) = k then (t, true) else (⟨#[]⟩, false)
  | none => (⟨#[]⟩, false)
set_option maxRecDepth 100000 in
set_option maxHeartbeats 800000 in
theorem spec_open (s : ByteArray) (k : Int) (w : World) (hs : s.size ≤ 1048576) :
    Calls Try.prog 97 #[.string s, .int .i64 k] w fun e w' => e = .returned (.tuple #[.string (openR s k).1, .bool (openR s k).2]) ∧ Below w.heap.size w w' := by
  have hO := fun w => spec_ok s w hs
  unfold openR
  cases hr : rk s 115 with
  | none =>
    rcases Bool.eq_false_or_eq_true (isT s) with hT | hT
    · have h2 := not_empty ((isT_iff s).1 hT)
      have h0 : 0 < s.size := by omega
      have hb97 := byte_ne h0 hr hT
      rw [hT] at hO
      clear hr hT
      go_enter Try.func97, Try.ntmps97
      go_wp2_with fail
      refine (hO _).mono ?_
      rintro e w1 ⟨rfl, hb⟩
      go_wp2
      go_ret2
      exact ⟨rfl, hb⟩
    · rw [hT] at hO
      clear hr hT
      go_enter Try.func97, Try.ntmps97
      go_wp2_with fail
      refine (hO _).mono ?_
      rintro e w1 ⟨rfl, hb⟩
      go_wp2
      go_ret2
      exact ⟨rfl, hb⟩
  | some q =>
    obtain ⟨n, r⟩ := q
    obtain ⟨hT, h2, hkk, hc, _, _⟩ := rk_facts hr
    rw [hT] at hO
    obtain ⟨hn, hrr, hK⟩ := cut_eq hc
    obtain ⟨K, hKe⟩ : ∃ K, rvK (suf s 1) = K := ⟨_, rfl⟩
    rw [hKe] at hrr hK
    have hat := at_eq s 0 (by omega)
    have h0 : 0 < s.size := by omega
    have hb97 : ((s[0].toNat : Int) == 115) = true := by simp; omega
    have hRV := fun w => spec_rvf (suf s 1) w (by rw [suf_size]; omega) n K hn hKe
    subst hrr
    clear hr hT hc hat hkk hn hKe
    by_cases hk : (n : Int) = k
    · have hk' : ((n : Int) == k) = true := by simpa using hk
      simp only [hk, if_true]
      go_enter Try.func97, Try.ntmps97
      go_wp2_with fail
      refine (hO _).mono ?_
      rintro e w1 ⟨rfl, hb⟩
      go_wp2_with fail
      refine (hRV _).mono ?_
      rintro e w2 ⟨rfl, hb2⟩
      have hb3 := hb.trans (hb2.mono hb.size)
      go_wp2
      go_ret2
      exact ⟨rfl, hb3⟩
    · have hk' : ((n : Int) == k) = false := by simpa using hk
      simp only [hk, if_false]
      go_enter Try.func97, Try.ntmps97
      go_wp2_with fail
      refine (hO _).mono ?_
      rintro e w1 ⟨rfl, hb⟩
      go_wp2_with fail
      refine (hRV _).mono ?_
      rintro e w2 ⟨rfl, hb2⟩
      have hb3 := hb.trans (hb2.mono hb.size)
      go_wp2
      go_ret2
      exact ⟨rfl, hb3⟩

/-! ReadNum -/
def numR (s : ByteArray) : Int × Bool := if 1 ≤ rvK (atomR s).1 ∧ rvK (atomR s).1 = (atomR s).1.size then ((rvN (atomR s).1 : Int), true) else (0, false)
theorem atomR_size (s : ByteArray) (h : s.size ≤ 1048576) : (atomR s).1.size ≤ 1048576 := by
  unfold atomR
  cases hr : rk s 97 with
  | none => show 0 ≤ _; omega
  | some q => obtain ⟨n, r⟩ := q; have := rk_facts hr; show r.size ≤ _; omega
theorem atomR_no (s : ByteArray) (h : (atomR s).2 = false) : (atomR s).1 = ⟨#[]⟩ := by
  unfold atomR at h ⊢
  cases hr : rk s 97 with
  | none => rfl
  | some q => rw [hr] at h; cases h
end Go.Proofs.Ytkekfogepdhjhaa

set_option linter.unusedVariables false
namespace Go.Proofs.Ytkekfogepdhjhaa
open Go.RowKit Own Var Term

/-- The cells from a on hold the row. -/
def RowAt {α : Type} (f : α → Value) (w : World) (a : Option Addr) (xs : List α) : Prop :=
  ∀ j (h : j < xs.length), ∃ b off, a = some ⟨b, off, none⟩ ∧ b < w.heap.size ∧ w.cell? ⟨b, off + j, none⟩ = some (f xs[j])
theorem RowAt.later {α : Type} {f : α → Value} {w w' : World} {a : Option Addr} {xs : List α} (h : RowAt f w a xs) (hb : Below w.heap.size w w') : RowAt f w' a xs := by
  intro j hj
  obtain ⟨b, off, e, hlt, hc⟩ := h j hj
  exact ⟨b, off, e, Nat.lt_of_lt_of_le hlt hb.size, by rw [hb.cell (p := ⟨b, off + j, none⟩) hlt]; exact hc⟩
theorem RowAt.own {α : Type} {f : α → Value} {w : World} {base g cap n : Nat} {e : TypeId} {xs : List α} (h : w.ownsRow base e 1 (.slice (some ⟨g, 0, none⟩) n cap) n (xs.map f)) : RowAt f w (some ⟨g, 0, none⟩) xs := by
  have hl : xs.length = n := by have := h.1; simpa using this
  intro j hj
  refine ⟨g, 0, rfl, (h.lt g rfl).2, ?_⟩
  rw [Nat.zero_add, h.cellAt j (by omega)]
  simp [hj]
theorem RowAt.nil {α : Type} {f : α → Value} (w : World) (a : Option Addr) : RowAt f w a [] := by intro j hj; simp at hj

theorem infoStr : (Try.prog.info? 9).map (fun i => (i.zero, i.size, i.bytes)) = some (some (.string ⟨#[]⟩), 1, 16) := by kernel_rfl
theorem infoInt : (Try.prog.info? 3).map (fun i => (i.zero, i.size, i.bytes)) = some (some (.int .i64 0), 1, 8) := by kernel_rfl

set_option maxRecDepth 100000 in
set_option maxHeartbeats 800000 in
theorem sz_is (a : Option Addr) (cap : Nat) (xs : List ByteArray) (w : World) (hr : RowAt Value.string w a xs) (hl : xs.length ≤ maxLen) (hs : ∀ x ∈ xs, x.size ≤ maxLen) :
    Calls Try.prog 56 #[.slice a xs.length cap, .int .i64 1048576] w fun e w' => ∃ r : Int, e = .returned (.int .i64 r) ∧ (0 ≤ r → xs.length ≤ 1048576 ∧ ∀ x ∈ xs, x.size ≤ 1048576) ∧ w = w' := by
  unfold maxLen at hl hs
  by_cases h0 : xs.length ≤ 1048576
  · have h0' : ¬ (1048576 : Int) - (xs.length : Int) < 0 := by omega
    go_enter Try.func56, Try.ntmps56
    go_wp2
    go_loop [1, 5] (fun l i => ∃ (k : Nat) (L : Int), k ≤ xs.length ∧ 0 ≤ L ∧ L ≤ 1048576 ∧ l = .int .i64 L ∧ i = .int .i64 k ∧ Hid (∀ j (h : j < xs.length), j < k → xs[j].size ≤ 1048576)) (fun _ i => xs.length - (intOf i).toNat)
    case atStart => exact ⟨0, 1048576 - xs.length, by omega, by omega, by omega, rfl, rfl, fun j h hj => absurd hj (by omega)⟩
    case round =>
      obtain ⟨k, L, hk, hL0, hL1, rfl, rfl, G⟩ := hrel
      by_cases hlt : k < xs.length
      · obtain ⟨b, off, rfl, hbl, hcell⟩ := hr k hlt
        have hx := hs xs[k] (List.getElem_mem hlt)
        have hG : xs[k].size ≤ 1048576 → ∀ j (h : j < xs.length), j < k + 1 → xs[j].size ≤ 1048576 := by
          intro hz j h hj
          by_cases e : j = k
          · subst e; exact hz
          · exact G.out j h (by omega)
        have HG : Hid (xs[k].size ≤ 1048576 → ∀ j (h : j < xs.length), j < k + 1 → xs[j].size ≤ 1048576) := hG
        clear hG
        generalize xs[k] = x at hcell hx HG
        by_cases hd : L - (x.size : Int) < 0
        · have hd' : decide (L - (x.size : Int) < 0) = true := by simpa using hd
          go_wp2
          go_ret
          exact ⟨-1, rfl, fun h => absurd h (by omega), rfl⟩
        · have hd1 : x.size ≤ 1048576 := by omega
          go_wp2
          go_round
          case rel => exact ⟨k + 1, L - x.size, by omega, by omega, by omega, rfl, by go_num, HG.out hd1⟩
          case measure => simp [intOf]; omega
      · go_wp2
        go_ret
        have H : ∀ x ∈ xs, x.size ≤ 1048576 := by
          intro x hx
          obtain ⟨j, hj, rfl⟩ := List.getElem_of_mem hx
          exact G.out j hj (by omega)
        exact ⟨L, rfl, fun _ => by first | exact H | exact ⟨h0, H⟩, rfl⟩
  · have h0' : (1048576 : Int) - (xs.length : Int) < 0 := by omega
    go_enter Try.func56, Try.ntmps56
    go_wp2
    go_ret
    exact ⟨-1, rfl, fun h => absurd h (by omega), rfl⟩

set_option maxRecDepth 100000 in
set_option maxHeartbeats 800000 in
theorem toS_is (a : Option Addr) (cap : Nat) (xs : List ByteArray) (w : World) (hr : RowAt Value.string w a xs) (hl : xs.length ≤ 1048576) :
    Calls Try.prog 58 #[.slice a xs.length cap] w fun e w' => e = .returned (.slice (some ⟨w.heap.size, 0, none⟩) xs.length xs.length) ∧ w'.ownsRow w.heap.size 9 1 (.slice (some ⟨w.heap.size, 0, none⟩) xs.length xs.length) xs.length (xs.map Value.string) ∧ Below w.heap.size w w' := by
  obtain ⟨i0, hi, hz0, hz1, hz2⟩ := info_parts infoStr
  go_enter Try.func58, Try.ntmps58
  go_wp2_with (first | (at_make; refine wpList_make_full _ rfl _ _ 24 rfl w.heap.size 9 i0 (.string ⟨#[]⟩) 1 Try.underlying24 hi hz0 hz1 .i64 .i64 xs.length xs.length xs.length rfl rfl rfl rfl (by rw [hz2]; omega) (by unfold maxLen; omega) (Nat.le_refl _) ?_) | go_in)
  intro w1 hown hgrow
  have hbel := (Below.refl w.heap.size w).grown hgrow (Nat.le_refl _) (by simp)
  have hsz := hgrow.size
  clear hgrow
  have hlm : (madeCells #[Value.string ⟨#[]⟩] xs.length).toList.length = xs.length := by simp [size_madeCells]
  go_wp2
  go_loopw [4] (fun i wr => ∃ k : Nat, k ≤ xs.length ∧ i = .int .i64 k ∧ wr.ownsRow w.heap.size 9 1 (.slice (some ⟨w.heap.size, 0, none⟩) xs.length xs.length) xs.length ((xs.take k).map Value.string ++ (madeCells #[Value.string ⟨#[]⟩] xs.length).toList.drop k) ∧ Below w.heap.size w wr) (fun i _ => xs.length - (intOf i).toNat)
  case atStart => exact ⟨0, by omega, rfl, by simpa using hown, hbel⟩
  case round =>
    clear hown hbel
    obtain ⟨k, hk, rfl, hown, hbel⟩ := hrel
    by_cases hlt : k < xs.length
    · obtain ⟨b, off, rfl, hbl, hcell0⟩ := hr k hlt
      have hcell := (hbel.cell (p := ⟨b, off + k, none⟩) hbl).trans hcell0
      have hto : ∃ v, wr.cell? ⟨w.heap.size, k, none⟩ = some v := by
        rw [hown.cellAt _ (by omega)]
        exact ⟨_, List.getElem?_eq_getElem (by rw [List.length_append, List.length_map, List.length_take, List.length_drop, hlm]; omega)⟩
      obtain ⟨v, hto⟩ := hto
      have hfz := hown.frozenAt k
      have hs := (hown.stored k (.string xs[k])).1
      have hset : ((xs.take k).map Value.string ++ (madeCells #[Value.string ⟨#[]⟩] xs.length).toList.drop k).set k (.string xs[k]) = (xs.take (k + 1)).map Value.string ++ (madeCells #[Value.string ⟨#[]⟩] xs.length).toList.drop (k + 1) := by
        rw [List.set_append_right _ _ (by simp; omega), List.take_succ_eq_append_getElem hlt, List.map_append, List.append_assoc]
        congr 1
        have e : k - ((xs.take k).map Value.string).length = 0 := by simp; omega
        rw [e, List.drop_eq_getElem_cons (by omega)]
        rfl
      rw [hset] at hs
      have HS : Hid (∃ k' : Nat, k' ≤ xs.length ∧ Value.int .i64 ((k : Int) + 1) = .int .i64 k' ∧ (wr.setCell ⟨w.heap.size, k, none⟩ (.string xs[k])).ownsRow w.heap.size 9 1 (.slice (some ⟨w.heap.size, 0, none⟩) xs.length xs.length) xs.length ((xs.take k').map Value.string ++ (madeCells #[Value.string ⟨#[]⟩] xs.length).toList.drop k') ∧ Below w.heap.size w (wr.setCell ⟨w.heap.size, k, none⟩ (.string xs[k]))) :=
        ⟨k + 1, by omega, by go_num, hs, hbel.setCell (Nat.le_refl _) _⟩
      clear hs hset hcell0 hr
      go_wp2
      go_roundw
      case rel => exact HS.out
      case measure => simp [intOf]; omega
    · obtain rfl : k = xs.length := by omega
      rw [List.take_length, List.drop_of_length_le (by omega), List.append_nil] at hown
      go_wp2
      go_ret
      exact ⟨rfl, hown, hbel⟩

set_option maxRecDepth 100000 in
set_option maxHeartbeats 800000 in
theorem eqS_is (a b : Option Addr) (ca cb : Nat) (xs : List ByteArray) (w : World) (ha : RowAt Value.string w a xs) (hb : RowAt Value.string w b xs) (hl : xs.length ≤ 1048576) :
    Calls Try.prog 62 #[.slice a xs.length ca, .slice b xs.length cb] w fun e w' => e = .returned (.bool true) ∧ Below w.heap.size w w' := by
  go_enter Try.func62, Try.ntmps62
  go_wp2
  go_loopw [5] (fun i wr => ∃ k : Nat, k ≤ xs.length ∧ i = .int .i64 k ∧ Below w.heap.size w wr) (fun i _ => xs.length - (intOf i).toNat)
  case atStart => exact ⟨0, by omega, rfl, Below.refl _ _⟩
  case round =>
    obtain ⟨k, hk, rfl, hbel⟩ := hrel
    by_cases hlt : k < xs.length
    · obtain ⟨b1, o1, rfl, l1, hc1⟩ := ha k hlt
      obtain ⟨b2, o2, rfl, l2, hc2⟩ := hb k hlt
      rw [← hbel.cell (p := ⟨b1, o1 + k, none⟩) l1] at hc1
      rw [← hbel.cell (p := ⟨b2, o2 + k, none⟩) l2] at hc2
      generalize xs[k] = x at hc1 hc2
      go_wp2
      go_region
      all_goals
        go_wp2
        go_roundw
        case rel => exact ⟨k + 1, by omega, by go_num, hbel.drew⟩
        case measure => simp [intOf]; omega
    · go_wp2
      go_ret
      exact ⟨rfl, hbel⟩
end Go.Proofs.Ytkekfogepdhjhaa
