/- What reads atoms, keys and sealed terms: the program and the model, one contract each. -/
import Derived.Test.YtaeecaebjafnpaaFaces1
set_option linter.unusedVariables false
namespace Go.Proofs.Ytaeecaebjafnpaa
open Go.RowKit Own Var Term

theorem rk_facts {s r : ByteArray} {kind n : Nat} (h : rk s kind = some (n, r)) :
    isT s = true ∧ 2 ≤ s.size ∧ at_ s 0 = kind ∧ cut s = some (n, r) ∧ s.size ≤ 900 ∧ r.size ≤ 900 := by
  by_cases c : IsT s ∧ at_ s 0 = kind
  · rw [rk_yes c.1 c.2] at h
    have := (cut_size h).1
    have h9 := c.1.1
    exact ⟨(isT_iff s).2 c.1, by omega, c.2, h, by omega, by omega⟩
  · rw [rk_no c] at h; simp at h
theorem cut_eq {s r : ByteArray} {n : Nat} (h : cut s = some (n, r)) : rvN (suf s 1) = n ∧ r = suf s (1 + rvK (suf s 1)) ∧ 1 + rvK (suf s 1) ≤ s.size := by
  have hK := (rvK_le (suf s 1)).2
  rw [suf_size] at hK
  unfold cut at h
  split at h
  · rename_i c
    simp only [Option.some.injEq, Prod.mk.injEq] at h
    exact ⟨h.1, h.2.symm, by omega⟩
  · simp at h

/-! ReadAtom -/
def atomR (s : ByteArray) : ByteArray × Bool := match rk s 97 with
  | some (_, d) => (d, true)
  | none => (⟨#[]⟩, false)
theorem tell84 (n : Nat) (r : ByteArray) (w : World) (h : r.size ≤ 1048576) : Calls Try.prog 84 #[.int .i64 n, .string r] w fun e w' => e = .returned (.string r) ∧ Below w.heap.size w w' := by
  go_enter Try.func84, Try.ntmps84
  go_wp2_with fail
  refine (clone_is r _ h).mono ?_
  rintro e w1 ⟨rfl, hb⟩
  go_wp2
  go_ret
  exact ⟨rfl, hb⟩
theorem enters84 (args : Array Value) (w : World) : (callFunc 84 args).run Try.prog w = .ok (.enter 84 args) w := by
  simp [callFunc, Try.func84, mark, Try.f84]
set_option maxRecDepth 100000 in
theorem impl_readAtom (s : ByteArray) (w : World) (hs : s.size ≤ 1048576) :
    Calls Try.prog 63 #[.string s] w fun e w' => e = .returned (.tuple #[.string (atomR s).1, .bool (atomR s).2]) ∧ Below w.heap.size w w' := by
  have hmf : ∀ (fn : Fn) (first cap : Array Value) (w : World), (Instr.makeFunc fn first cap).run Try.prog w = .ok (.func fn first cap) w := fun _ _ _ _ => rfl
  unfold atomR
  cases hr : rk s 97 with
  | none =>
    have HC := rkS_no s 97 (.func (.func 84) #[] #[]) w (by omega) hr
    clear hr
    go_enter Try.func63, Try.ntmps63
    go_wp2_with fail
    refine HC.mono ?_
    rintro e w1 ⟨rfl, hb⟩
    go_wp2
    go_ret2
    exact ⟨rfl, hb⟩
  | some q =>
    obtain ⟨n, r⟩ := q
    have hf := rk_facts hr
    have HC := rkS_yes s r 97 n 84 #[] w (fun v w' => v = .string r ∧ Below w.heap.size w w') hs hr enters84 (fun w1 hb => (tell84 n r w1 (by omega)).mono (by rintro e w2 ⟨rfl, hb2⟩; exact ⟨_, rfl, rfl, hb.trans (hb2.mono hb.size)⟩))
    clear hr hf
    go_enter Try.func63, Try.ntmps63
    go_wp2_with fail
    refine HC.mono ?_
    rintro e w1 ⟨v, rfl, rfl, hb⟩
    go_wp2
    go_ret2
    exact ⟨rfl, hb⟩

theorem byte_ne {s : ByteArray} {kind : Nat} (h : 0 < s.size) (hr : rk s kind = none) (hT : isT s = true) : ((s[0].toNat : Int) == (kind : Int)) = false := by
  rw [Bool.eq_false_iff]; intro hh; simp at hh
  have hat := at_eq s 0 h
  obtain ⟨n, t, hc⟩ := ((isT_iff s).1 hT).cut
  rw [rk_yes ((isT_iff s).1 hT) (by omega), hc] at hr
  simp at hr

set_option maxRecDepth 100000 in
set_option maxHeartbeats 800000 in
theorem spec_readAtom (s : ByteArray) (w : World) (hs : s.size ≤ 1048576) :
    Calls Try.prog 74 #[.string s] w fun e w' => e = .returned (.tuple #[.string (atomR s).1, .bool (atomR s).2]) ∧ Below w.heap.size w w' := by
  have hO := fun w => spec_ok s w hs
  unfold atomR
  cases hr : rk s 97 with
  | none =>
    rcases Bool.eq_false_or_eq_true (isT s) with hT | hT
    · have h2 := not_empty ((isT_iff s).1 hT)
      have h0 : 0 < s.size := by omega
      have hb97 := byte_ne h0 hr hT
      rw [hT] at hO
      clear hr hT
      go_enter Try.func74, Try.ntmps74
      go_wp2_with fail
      refine (hO _).mono ?_
      rintro e w1 ⟨rfl, hb⟩
      go_wp2
      go_ret2
      exact ⟨rfl, hb⟩
    · rw [hT] at hO
      clear hr hT
      go_enter Try.func74, Try.ntmps74
      go_wp2_with fail
      refine (hO _).mono ?_
      rintro e w1 ⟨rfl, hb⟩
      go_wp2
      go_ret2
      exact ⟨rfl, hb⟩
  | some q =>
    obtain ⟨n, r⟩ := q
    obtain ⟨hT, h2, hk, hc, _, _⟩ := rk_facts hr
    rw [hT] at hO
    obtain ⟨hn, hrr, hK⟩ := cut_eq hc
    obtain ⟨K, hKe⟩ : ∃ K, rvK (suf s 1) = K := ⟨_, rfl⟩
    rw [hKe] at hrr hK
    have hat := at_eq s 0 (by omega)
    have h0 : 0 < s.size := by omega
    have hb97 : ((s[0].toNat : Int) == 97) = true := by simp; omega
    have hRV := fun w => spec_rvf (suf s 1) w (by rw [suf_size]; omega) n K hn hKe
    subst hrr
    clear hr hT hc hat hk hn hKe
    go_enter Try.func74, Try.ntmps74
    go_wp2_with fail
    refine (hO _).mono ?_
    rintro e w1 ⟨rfl, hb⟩
    go_wp2_with fail
    refine (hRV _).mono ?_
    rintro e w2 ⟨rfl, hb2⟩
    have hb3 := hb.trans (hb2.mono hb.size)
    go_wp2
    go_ret2
    exact ⟨rfl, hb3⟩

/-! ReadKey -/
def keyR (s : ByteArray) : Int × Bool := match rk s 107 with
  | some (n, _) => ((n : Int), true)
  | none => (0, false)
def openR (s : ByteArray) (k : Int) : ByteArray × Bool := match rk s 115 with
  | some (n, t) => if (n : Int) = k then (t, true) else (⟨#[]⟩, false)
  | none => (⟨#[]⟩, false)
def numR (s : ByteArray) : Int × Bool := if 1 ≤ rvK (atomR s).1 ∧ rvK (atomR s).1 = (atomR s).1.size then ((rvN (atomR s).1 : Int), true) else (0, false)
theorem atomR_size (s : ByteArray) (h : s.size ≤ 1048576) : (atomR s).1.size ≤ 1048576 := by
  unfold atomR
  cases hr : rk s 97 with
  | none => show 0 ≤ _; omega
  | some q => obtain ⟨n, r⟩ := q; have := rk_facts hr; show r.size ≤ _; omega
theorem atomR_no (s : ByteArray) (h : (atomR s).2 = false) : (atomR s).1 = ⟨#[]⟩ := by
  unfold atomR at h ⊢
  cases hr : rk s 97 with
  | none => rfl
  | some q => rw [hr] at h; cases h
set_option maxRecDepth 100000 in
set_option maxHeartbeats 800000 in
theorem impl_readNum (s : ByteArray) (w : World) (hs : s.size ≤ 1048576) :
    Calls Try.prog 51 #[.string s] w fun e w' => e = .returned (.tuple #[.int .i64 (numR s).1, .bool (numR s).2]) ∧ Below w.heap.size w w' := by
  have hA := impl_readAtom s w hs
  have hz := atomR_size s hs
  unfold numR
  obtain ⟨n, hn⟩ : ∃ n, rvN (atomR s).1 = n := ⟨_, rfl⟩
  obtain ⟨k, hk⟩ : ∃ k, rvK (atomR s).1 = k := ⟨_, rfl⟩
  have hRV := fun w => impl_rvf (atomR s).1 w hz n k hn hk
  rw [hn, hk]
  clear hn hk
  generalize (atomR s).1 = d at *
  generalize (atomR s).2 = b at *
  by_cases h0 : k = 0
  · subst h0
    rw [if_neg (by omega)]
    go_enter Try.func51, Try.ntmps51
    go_wp2_with fail
    refine hA.mono ?_
    rintro e w1 ⟨rfl, hb⟩
    go_wp2_with fail
    refine (hRV _).mono ?_
    rintro e w2 ⟨rfl, rfl⟩
    go_wp2
    go_ret2
    exact ⟨rfl, hb⟩
  · have h0' : ((k : Int) == 0) = false := by simp; omega
    by_cases h1 : k = d.size
    · rw [if_pos ⟨by omega, h1⟩]
      have h1' : ((k : Int) == (d.size : Int)) = true := by simp; omega
      have hde : ¬ d = ByteArray.empty := by intro c; rw [c] at h1; exact h0 h1
      go_enter Try.func51, Try.ntmps51
      go_wp2_with fail
      refine hA.mono ?_
      rintro e w1 ⟨rfl, hb⟩
      go_wp2_with fail
      refine (hRV _).mono ?_
      rintro e w2 ⟨rfl, rfl⟩
      go_wp2
      go_ret2
      exact ⟨rfl, hb⟩
    · rw [if_neg (fun c => h1 c.2)]
      have h1' : ((k : Int) == (d.size : Int)) = false := by simp; omega
      go_enter Try.func51, Try.ntmps51
      go_wp2_with fail
      refine hA.mono ?_
      rintro e w1 ⟨rfl, hb⟩
      go_wp2_with fail
      refine (hRV _).mono ?_
      rintro e w2 ⟨rfl, rfl⟩
      go_wp2
      go_ret2
      exact ⟨rfl, hb⟩
set_option maxRecDepth 100000 in
set_option maxHeartbeats 800000 in
theorem spec_readNum (s : ByteArray) (w : World) (hs : s.size ≤ 1048576) :
    Calls Try.prog 56 #[.string s] w fun e w' => e = .returned (.tuple #[.int .i64 (numR s).1, .bool (numR s).2]) ∧ Below w.heap.size w w' := by
  have hA := spec_readAtom s w hs
  have hz := atomR_size s hs
  have hno := atomR_no s
  unfold numR
  obtain ⟨n, hn⟩ : ∃ n, rvN (atomR s).1 = n := ⟨_, rfl⟩
  obtain ⟨k, hk⟩ : ∃ k, rvK (atomR s).1 = k := ⟨_, rfl⟩
  have hRV := fun w => spec_rvf (atomR s).1 w hz n k hn hk
  have hno2 : (atomR s).2 = false → k = 0 := fun h => by rw [← hk, hno h, rvK_nil]
  rw [hn, hk]
  clear hn hk hno
  generalize (atomR s).1 = d at *
  generalize (atomR s).2 = b at *
  cases b with
  | false =>
    obtain rfl := hno2 rfl
    rw [if_neg (by omega)]
    go_enter Try.func56, Try.ntmps56
    go_wp2_with fail
    refine hA.mono ?_
    rintro e w1 ⟨rfl, hb⟩
    go_wp2_with fail
    refine (hRV _).mono ?_
    rintro e w2 ⟨rfl, hb2⟩
    have hb3 := hb.trans (hb2.mono hb.size)
    go_wp2
    go_ret2
    exact ⟨rfl, hb3⟩
  | true =>
    clear hno2
    by_cases h0 : k = 0
    · subst h0
      rw [if_neg (by omega)]
      go_enter Try.func56, Try.ntmps56
      go_wp2_with fail
      refine hA.mono ?_
      rintro e w1 ⟨rfl, hb⟩
      go_wp2_with fail
      refine (hRV _).mono ?_
      rintro e w2 ⟨rfl, hb2⟩
      have hb3 := hb.trans (hb2.mono hb.size)
      go_wp2
      go_ret2
      exact ⟨rfl, hb3⟩
    · have h0' : ((k : Int) == 0) = false := by simp; omega
      by_cases h1 : k = d.size
      · rw [if_pos ⟨by omega, h1⟩]
        have h1' : ((k : Int) == (d.size : Int)) = true := by simp; omega
        have hde : ¬ d = ByteArray.empty := by intro c; rw [c] at h1; exact h0 h1
        go_enter Try.func56, Try.ntmps56
        go_wp2_with fail
        refine hA.mono ?_
        rintro e w1 ⟨rfl, hb⟩
        go_wp2_with fail
        refine (hRV _).mono ?_
        rintro e w2 ⟨rfl, hb2⟩
        have hb3 := hb.trans (hb2.mono hb.size)
        go_wp2
        go_ret2
        exact ⟨rfl, hb3⟩
      · rw [if_neg (fun c => h1 c.2)]
        have h1' : ((k : Int) == (d.size : Int)) = false := by simp; omega
        go_enter Try.func56, Try.ntmps56
        go_wp2_with fail
        refine hA.mono ?_
        rintro e w1 ⟨rfl, hb⟩
        go_wp2_with fail
        refine (hRV _).mono ?_
        rintro e w2 ⟨rfl, hb2⟩
        have hb3 := hb.trans (hb2.mono hb.size)
        go_wp2
        go_ret2
        exact ⟨rfl, hb3⟩
end Go.Proofs.Ytaeecaebjafnpaa
