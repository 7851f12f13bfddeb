/- What reads atoms, keys and sealed terms: the program and the model, one contract each. -/
import Derived.Test.YtbbaddcldoflfaaFaces1
set_option linter.unusedVariables false
namespace Go.Proofs.Ytbbaddcldoflfaa
open Go.RowKit Own Var Term

theorem rk_facts {s r : ByteArray} {kind n : Nat} (h : rk s kind = some (n, r)) :
    isT s = true ∧ 2 ≤ s.size ∧ at_ s 0 = kind ∧ cut s = some (n, r) ∧ s.size ≤ 900 ∧ r.size ≤ 900 := by
  by_cases c : IsT s ∧ at_ s 0 = kind
  · rw [rk_yes c.1 c.2] at h
    have := (cut_size h).1
    have h9 := c.1.1
    exact ⟨(isT_iff s).2 c.1, by omega, c.2, h, by omega, by omega⟩
  · rw [rk_no c] at h; simp at h
theorem cut_eq {s r : ByteArray} {n : Nat} (h : cut s = some (n, r)) : rvN (suf s 1) = n ∧ r = suf s (1 + rvK (suf s 1)) ∧ 1 + rvK (suf s 1) ≤ s.size := by
  have hK := (rvK_le (suf s 1)).2
  rw [suf_size] at hK
  unfold cut at h
  split at h
  · rename_i c
    simp only [Option.some.injEq, Prod.mk.injEq] at h
    exact ⟨h.1, h.2.symm, by omega⟩
  · simp at h

/-! ReadAtom -/
def atomR (s : ByteArray) : ByteArray × Bool := match rk s 97 with
  | some (_, d) => (d, true)
  | none => (⟨#[]⟩, false)
theorem tell84 (n : Nat) (r : ByteArray) (w : World) (h : r.size ≤ 1048576) : Calls Try.prog 106 #[.int .i64 n, .string r] w fun e w' => e = .returned (.string r) ∧ Below w.heap.size w w' := by
  go_enter Try.func106, Try.ntmps106
  go_wp2_with fail
  refine (clone_is r _ h).mono ?_
  rintro e w1 ⟨rfl, hb⟩
  go_wp2
  go_ret
  exact ⟨rfl, hb⟩
theorem enters84 (args : Array Value) (w : World) : (callFunc 106 args).run Try.prog w = .ok (.enter 106 args) w := by
  simp [callFunc, Try.func106, mark, Try.f106]
set_option maxRecDepth 100000 in
theorem impl_readAtom (s : ByteArray) (w : World) (hs : s.size ≤ 1048576) :
    Calls Try.prog 97 #[.string s] w fun e w' => e = .returned (.tuple #[.string (atomR s).1, .bool (atomR s).2]) ∧ Below w.heap.size w w' := by
  have hmf : ∀ (fn : Fn) (first cap : Array Value) (w : World), (Instr.makeFunc fn first cap).run Try.prog w = .ok (.func fn first cap) w := fun _ _ _ _ => rfl
  unfold atomR
  cases hr : rk s 97 with
  | none =>
    have HC := rkS_no s 97 (.func (.func 106) #[] #[]) w (by omega) hr
    clear hr
    go_enter Try.func97, Try.ntmps97
    go_wp2_with fail
    refine HC.mono ?_
    rintro e w1 ⟨rfl, hb⟩
    go_wp2
    go_ret2
    exact ⟨rfl, hb⟩
  | some q =>
    obtain ⟨n, r⟩ := q
    have hf := rk_facts hr
    have HC := rkS_yes s r 97 n 106 #[] w (fun v w' => v = .string r ∧ Below w.heap.size w w') hs hr enters84 (fun w1 hb => (tell84 n r w1 (by omega)).mono (by rintro e w2 ⟨rfl, hb2⟩; exact ⟨_, rfl, rfl, hb.trans (hb2.mono hb.size)⟩))
    clear hr hf
    go_enter Try.func97, Try.ntmps97
    go_wp2_with fail
    refine HC.mono ?_
    rintro e w1 ⟨v, rfl, rfl, hb⟩
    go_wp2
    go_ret2
    exact ⟨rfl, hb⟩

theorem byte_ne {s : ByteArray} {kind : Nat} (h : 0 < s.size) (hr : rk s kind = none) (hT : isT s = true) : ((s[0].toNat : Int) == (kind : Int)) = false := by
  rw [Bool.eq_false_iff]; intro hh; simp at hh
  have hat := at_eq s 0 h
  obtain ⟨n, t, hc⟩ := ((isT_iff s).1 hT).cut
  rw [rk_yes ((isT_iff s).1 hT) (by omega), hc] at hr
  simp at hr

set_option maxRecDepth 100000 in
set_option maxHeartbeats 800000 in
theorem spec_readAtom (s : ByteArray) (w : World) (hs : s.size ≤ 1048576) :
    Calls Try.prog 70 #[.string s] w fun e w' => e = .returned (.tuple #[.string (atomR s).1, .bool (atomR s).2]) ∧ Below w.heap.size w w' := by
  have hO := fun w => spec_ok s w hs
  unfold atomR
  cases hr : rk s 97 with
  | none =>
    rcases Bool.eq_false_or_eq_true (isT s) with hT | hT
    · have h2 := not_empty ((isT_iff s).1 hT)
      have h0 : 0 < s.size := by omega
      have hb97 := byte_ne h0 hr hT
      rw [hT] at hO
      clear hr hT
      go_enter Try.func70, Try.ntmps70
      go_wp2_with fail
      refine (hO _).mono ?_
      rintro e w1 ⟨rfl, hb⟩
      go_wp2
      go_ret2
      exact ⟨rfl, hb⟩
    · rw [hT] at hO
      clear hr hT
      go_enter Try.func70, Try.ntmps70
      go_wp2_with fail
      refine (hO _).mono ?_
      rintro e w1 ⟨rfl, hb⟩
      go_wp2
      go_ret2
      exact ⟨rfl, hb⟩
  | some q =>
    obtain ⟨n, r⟩ := q
    obtain ⟨hT, h2, hk, hc, _, _⟩ := rk_facts hr
    rw [hT] at hO
    obtain ⟨hn, hrr, hK⟩ := cut_eq hc
    obtain ⟨K, hKe⟩ : ∃ K, rvK (suf s 1) = K := ⟨_, rfl⟩
    rw [hKe] at hrr hK
    have hat := at_eq s 0 (by omega)
    have h0 : 0 < s.size := by omega
    have hb97 : ((s[0].toNat : Int) == 97) = true := by simp; omega
    have hRV := fun w => spec_rvf (suf s 1) w (by rw [suf_size]; omega) n K hn hKe
    subst hrr
    clear hr hT hc hat hk hn hKe
    go_enter Try.func70, Try.ntmps70
    go_wp2_with fail
    refine (hO _).mono ?_
    rintro e w1 ⟨rfl, hb⟩
    go_wp2_with fail
    refine (hRV _).mono ?_
    rintro e w2 ⟨rfl, hb2⟩
    have hb3 := hb.trans (hb2.mono hb.size)
    go_wp2
    go_ret2
    exact ⟨rfl, hb3⟩

/-! ReadKey -/
def keyR (s : ByteArray) : Int × Bool := match rk s 107 with
  | some (n, _) => ((n : Int), true)
  | none => (0, false)
theorem tell86 (n : Nat) (r : ByteArray) (w : World) : Calls Try.prog 100 #[.int .i64 n, .string r] w fun e w' => e = .returned (.int .i64 n) ∧ w = w' := by
  go_enter Try.func100, Try.ntmps100
  go_wp2
  go_ret
  exact ⟨rfl, rfl⟩
theorem enters86 (args : Array Value) (w : World) : (callFunc 100 args).run Try.prog w = .ok (.enter 100 args) w := by
  simp [callFunc, Try.func100, mark, Try.f100]
set_option maxRecDepth 100000 in
theorem impl_readKey (s : ByteArray) (w : World) (hs : s.size ≤ 1048576) :
    Calls Try.prog 77 #[.string s] w fun e w' => e = .returned (.tuple #[.int .i64 (keyR s).1, .bool (keyR s).2]) ∧ Below w.heap.size w w' := by
  have hmf : ∀ (fn : Fn) (first cap : Array Value) (w : World), (Instr.makeFunc fn first cap).run Try.prog w = .ok (.func fn first cap) w := fun _ _ _ _ => rfl
  unfold keyR
  cases hr : rk s 107 with
  | none =>
    have HC := rkI_no s 107 (.func (.func 100) #[] #[]) w (by omega) hr
    clear hr
    go_enter Try.func77, Try.ntmps77
    go_wp2_with fail
    refine HC.mono ?_
    rintro e w1 ⟨rfl, hb⟩
    go_wp2
    go_ret2
    exact ⟨rfl, hb⟩
  | some q =>
    obtain ⟨n, r⟩ := q
    have HC := rkI_yes s r 107 n 100 #[] w (fun v w' => v = .int .i64 n ∧ Below w.heap.size w w') hs hr enters86 (fun w1 hb => (tell86 n r w1).mono (by rintro e w2 ⟨rfl, rfl⟩; exact ⟨_, rfl, rfl, hb⟩))
    clear hr
    go_enter Try.func77, Try.ntmps77
    go_wp2_with fail
    refine HC.mono ?_
    rintro e w1 ⟨v, rfl, rfl, hb⟩
    go_wp2
    go_ret2
    exact ⟨rfl, hb⟩
set_option maxRecDepth 100000 in
set_option maxHeartbeats 800000 in
theorem spec_readKey (s : ByteArray) (w : World) (hs : s.size ≤ 1048576) :
    Calls Try.prog 45 #[.string s] w fun e w' => e = .returned (.tuple #[.int .i64 (keyR s).1, .bool (keyR s).2]) ∧ Below w.heap.size w w' := by
  have hO := fun w => spec_ok s w hs
  unfold keyR
  cases hr : rk s 107 with
  | none =>
    rcases Bool.eq_false_or_eq_true (isT s) with hT | hT
    · have h2 := not_empty ((isT_iff s).1 hT)
      have h0 : 0 < s.size := by omega
      have hb97 := byte_ne h0 hr hT
      rw [hT] at hO
      clear hr hT
      go_enter Try.func45, Try.ntmps45
      go_wp2_with fail
      refine (hO _).mono ?_
      rintro e w1 ⟨rfl, hb⟩
      go_wp2
      go_ret2
      exact ⟨rfl, hb⟩
    · rw [hT] at hO
      clear hr hT
      go_enter Try.func45, Try.ntmps45
      go_wp2_with fail
      refine (hO _).mono ?_
      rintro e w1 ⟨rfl, hb⟩
      go_wp2
      go_ret2
      exact ⟨rfl, hb⟩
  | some q =>
    obtain ⟨n, r⟩ := q
    obtain ⟨hT, h2, hk, hc, _, _⟩ := rk_facts hr
    rw [hT] at hO
    obtain ⟨hn, hrr, hK⟩ := cut_eq hc
    obtain ⟨K, hKe⟩ : ∃ K, rvK (suf s 1) = K := ⟨_, rfl⟩
    rw [hKe] at hrr hK
    have hat := at_eq s 0 (by omega)
    have h0 : 0 < s.size := by omega
    have hb97 : ((s[0].toNat : Int) == 107) = true := by simp; omega
    have hRV := fun w => spec_rvf (suf s 1) w (by rw [suf_size]; omega) n K hn hKe
    subst hrr
    clear hr hT hc hat hk hn hKe
    go_enter Try.func45, Try.ntmps45
    go_wp2_with fail
    refine (hO _).mono ?_
    rintro e w1 ⟨rfl, hb⟩
    go_wp2_with fail
    refine (hRV _).mono ?_
    rintro e w2 ⟨rfl, hb2⟩
    have hb3 := hb.trans (hb2.mono hb.size)
    go_wp2
    go_ret2
    exact ⟨rfl, hb3⟩

/-! Open -/
def openR (s : ByteArray) (k : Int) : ByteArray × Bool := match rk s 115 with
  | some (n, t) => if (n : Int) = k then (t, true) else (⟨#[]⟩, false)
  | none => (⟨#[]⟩, false)
theorem tell71_yes (n : Nat) (r : ByteArray) (p : Addr) (w : World) (h : r.size ≤ 1048576) (hc : w.cell? p = some (.int .i64 (n : Int))) : Calls Try.prog 107 #[.int .i64 n, .string r, .pointer (some p)] w fun e w' => e = .returned (.string r) ∧ Below w.heap.size w w' := by
  go_enter Try.func107, Try.ntmps107
  go_wp2_with fail
  refine (must_yes _).mono ?_
  rintro e w1 ⟨rfl, rfl⟩
  go_wp2_with fail
  refine (clone_is r _ h).mono ?_
  rintro e w1 ⟨rfl, hb⟩
  go_wp2
  go_ret
  exact ⟨rfl, hb⟩
theorem tell71_no (n : Nat) (k : Int) (r : ByteArray) (p : Addr) (w : World) (hk : ¬ (n : Int) = k) (hc : w.cell? p = some (.int .i64 k)) : Calls Try.prog 107 #[.int .i64 n, .string r, .pointer (some p)] w fun e w' => e = .panicked noT ∧ Below w.heap.size w w' := by
  have hk' : ((n : Int) == k) = false := by simpa using hk
  go_enter Try.func107, Try.ntmps107
  go_wp2_with fail
  refine (must_no _).mono ?_
  rintro e w1 ⟨rfl, rfl⟩
  go_wp2
  exact ⟨rfl, rfl, Below.refl _ _⟩
theorem enters71 (args : Array Value) (w : World) : (callFunc 107 args).run Try.prog w = .ok (.enter 107 args) w := by
  simp [callFunc, Try.func107, mark, Try.f107]
set_option maxRecDepth 100000 in
theorem impl_open (s : ByteArray) (k : Int) (w : World) (hs : s.size ≤ 1048576) :
    Calls Try.prog 99 #[.string s, .int .i64 k] w fun e w' => e = .returned (.tuple #[.string (openR s k).1, .bool (openR s k).2]) ∧ Below w.heap.size w w' := by
  have hmf : ∀ (fn : Fn) (first cap : Array Value) (w : World), (Instr.makeFunc fn first cap).run Try.prog w = .ok (.func fn first cap) w := fun _ _ _ _ => rfl
  have hb0 : Below w.heap.size w (w.alloc (.cells #[.int .i64 k] 3)) := (Below.refl _ _).alloc (Nat.le_refl _) _
  have hc0 : (w.alloc (.cells #[.int .i64 k] 3)).cell? ⟨w.heap.size, 0, none⟩ = some (.int .i64 k) := by simp [go_sem]
  have hlt : (⟨w.heap.size, 0, none⟩ : Addr).block < (w.alloc (.cells #[.int .i64 k] 3)).heap.size := by simp
  unfold openR
  cases hr : rk s 115 with
  | none =>
    have HC := rkS_no s 115 (.func (.func 107) #[] #[.pointer (some ⟨w.heap.size, 0, none⟩)]) (w.alloc (.cells #[.int .i64 k] 3)) (by omega) hr
    clear hr
    go_enter Try.func99, Try.ntmps99
    go_wp2_with fail
    refine HC.mono ?_
    rintro e w1 ⟨rfl, hb⟩
    go_wp2
    go_ret2
    exact ⟨rfl, hb0.trans (hb.mono hb0.size)⟩
  | some q =>
    obtain ⟨n, r⟩ := q
    have hf := rk_facts hr
    by_cases hk : (n : Int) = k
    · have HC := rkS_yes s r 115 n 107 #[.pointer (some ⟨w.heap.size, 0, none⟩)] (w.alloc (.cells #[.int .i64 k] 3)) (fun v w' => v = .string r ∧ Below w.heap.size w w') hs hr enters71
        (fun w1 hb => (tell71_yes n r ⟨w.heap.size, 0, none⟩ w1 (by omega) (by rw [hb.cell hlt, hc0, hk])).mono (by rintro e w2 ⟨rfl, hb2⟩; exact ⟨_, rfl, rfl, (hb0.trans (hb.mono hb0.size)).trans (hb2.mono (hb0.trans (hb.mono hb0.size)).size)⟩))
      simp only [hk, if_true]
      clear hr hf
      go_enter Try.func99, Try.ntmps99
      go_wp2_with fail
      refine HC.mono ?_
      rintro e w1 ⟨v, rfl, rfl, hb⟩
      go_wp2
      go_ret2
      exact ⟨rfl, hb⟩
    · have HC := rkS_told s r 115 n 107 #[.pointer (some ⟨w.heap.size, 0, none⟩)] (w.alloc (.cells #[.int .i64 k] 3)) hs hr enters71
        (fun w1 hb => (tell71_no n k r ⟨w.heap.size, 0, none⟩ w1 hk (by rw [hb.cell hlt, hc0])).mono (by rintro e w2 ⟨rfl, hb2⟩; exact ⟨rfl, hb2⟩))
      simp only [hk, if_false]
      clear hr hf
      go_enter Try.func99, Try.ntmps99
      go_wp2_with fail
      refine HC.mono ?_
      rintro e w1 ⟨rfl, hb⟩
      go_wp2
      go_ret2
      exact ⟨rfl, hb0.trans (hb.mono hb0.size)⟩
set_option maxRecDepth 100000 in
set_option maxHeartbeats 800000 in
theorem spec_open (s : ByteArray) (k : Int) (w : World) (hs : s.size ≤ 1048576) :
    Calls Try.prog 44 #[.string s, .int .i64 k] w fun e w' => e = .returned (.tuple #[.string (openR s k).1, .bool (openR s k).2]) ∧ Below w.heap.size w w' := by
  have hO := fun w => spec_ok s w hs
  unfold openR
  cases hr : rk s 115 with
  | none =>
    rcases Bool.eq_false_or_eq_true (isT s) with hT | hT
    · have h2 := not_empty ((isT_iff s).1 hT)
      have h0 : 0 < s.size := by omega
      have hb97 := byte_ne h0 hr hT
      rw [hT] at hO
      clear hr hT
      go_enter Try.func44, Try.ntmps44
      go_wp2_with fail
      refine (hO _).mono ?_
      rintro e w1 ⟨rfl, hb⟩
      go_wp2
      go_ret2
      exact ⟨rfl, hb⟩
    · rw [hT] at hO
      clear hr hT
      go_enter Try.func44, Try.ntmps44
      go_wp2_with fail
      refine (hO _).mono ?_
      rintro e w1 ⟨rfl, hb⟩
      go_wp2
      go_ret2
      exact ⟨rfl, hb⟩
  | some q =>
    obtain ⟨n, r⟩ := q
    obtain ⟨hT, h2, hkk, hc, _, _⟩ := rk_facts hr
    rw [hT] at hO
    obtain ⟨hn, hrr, hK⟩ := cut_eq hc
    obtain ⟨K, hKe⟩ : ∃ K, rvK (suf s 1) = K := ⟨_, rfl⟩
    rw [hKe] at hrr hK
    have hat := at_eq s 0 (by omega)
    have h0 : 0 < s.size := by omega
    have hb97 : ((s[0].toNat : Int) == 115) = true := by simp; omega
    have hRV := fun w => spec_rvf (suf s 1) w (by rw [suf_size]; omega) n K hn hKe
    subst hrr
    clear hr hT hc hat hkk hn hKe
    by_cases hk : (n : Int) = k
    · have hk' : ((n : Int) == k) = true := by simpa using hk
      simp only [hk, if_true]
      go_enter Try.func44, Try.ntmps44
      go_wp2_with fail
      refine (hO _).mono ?_
      rintro e w1 ⟨rfl, hb⟩
      go_wp2_with fail
      refine (hRV _).mono ?_
      rintro e w2 ⟨rfl, hb2⟩
      have hb3 := hb.trans (hb2.mono hb.size)
      go_wp2
      go_ret2
      exact ⟨rfl, hb3⟩
    · have hk' : ((n : Int) == k) = false := by simpa using hk
      simp only [hk, if_false]
      go_enter Try.func44, Try.ntmps44
      go_wp2_with fail
      refine (hO _).mono ?_
      rintro e w1 ⟨rfl, hb⟩
      go_wp2_with fail
      refine (hRV _).mono ?_
      rintro e w2 ⟨rfl, hb2⟩
      have hb3 := hb.trans (hb2.mono hb.size)
      go_wp2
      go_ret2
      exact ⟨rfl, hb3⟩

/-! ReadNum -/
def numR (s : ByteArray) : Int × Bool := if 1 ≤ rvK (atomR s).1 ∧ rvK (atomR s).1 = (atomR s).1.size then ((rvN (atomR s).1 : Int), true) else (0, false)
theorem atomR_size (s : ByteArray) (h : s.size ≤ 1048576) : (atomR s).1.size ≤ 1048576 := by
  unfold atomR
  cases hr : rk s 97 with
  | none => show 0 ≤ _; omega
  | some q => obtain ⟨n, r⟩ := q; have := rk_facts hr; show r.size ≤ _; omega
theorem atomR_no (s : ByteArray) (h : (atomR s).2 = false) : (atomR s).1 = ⟨#[]⟩ := by
  unfold atomR at h ⊢
  cases hr : rk s 97 with
  | none => rfl
  | some q => rw [hr] at h; cases h
set_option maxRecDepth 100000 in
set_option maxHeartbeats 800000 in
theorem impl_readNum (s : ByteArray) (w : World) (hs : s.size ≤ 1048576) :
    Calls Try.prog 75 #[.string s] w fun e w' => e = .returned (.tuple #[.int .i64 (numR s).1, .bool (numR s).2]) ∧ Below w.heap.size w w' := by
  have hA := impl_readAtom s w hs
  have hz := atomR_size s hs
  unfold numR
  obtain ⟨n, hn⟩ : ∃ n, rvN (atomR s).1 = n := ⟨_, rfl⟩
  obtain ⟨k, hk⟩ : ∃ k, rvK (atomR s).1 = k := ⟨_, rfl⟩
  have hRV := fun w => impl_rvf (atomR s).1 w hz n k hn hk
  rw [hn, hk]
  clear hn hk
  generalize (atomR s).1 = d at *
  generalize (atomR s).2 = b at *
  by_cases h0 : k = 0
  · subst h0
    rw [if_neg (by omega)]
    go_enter Try.func75, Try.ntmps75
    go_wp2_with fail
    refine hA.mono ?_
    rintro e w1 ⟨rfl, hb⟩
    go_wp2_with fail
    refine (hRV _).mono ?_
    rintro e w2 ⟨rfl, rfl⟩
    go_wp2
    go_ret2
    exact ⟨rfl, hb⟩
  · have h0' : ((k : Int) == 0) = false := by simp; omega
    by_cases h1 : k = d.size
    · rw [if_pos ⟨by omega, h1⟩]
      have h1' : ((k : Int) == (d.size : Int)) = true := by simp; omega
      have hde : ¬ d = ByteArray.empty := by intro c; rw [c] at h1; exact h0 h1
      go_enter Try.func75, Try.ntmps75
      go_wp2_with fail
      refine hA.mono ?_
      rintro e w1 ⟨rfl, hb⟩
      go_wp2_with fail
      refine (hRV _).mono ?_
      rintro e w2 ⟨rfl, rfl⟩
      go_wp2
      go_ret2
      exact ⟨rfl, hb⟩
    · rw [if_neg (fun c => h1 c.2)]
      have h1' : ((k : Int) == (d.size : Int)) = false := by simp; omega
      go_enter Try.func75, Try.ntmps75
      go_wp2_with fail
      refine hA.mono ?_
      rintro e w1 ⟨rfl, hb⟩
      go_wp2_with fail
      refine (hRV _).mono ?_
      rintro e w2 ⟨rfl, rfl⟩
      go_wp2
      go_ret2
      exact ⟨rfl, hb⟩
set_option maxRecDepth 100000 in
set_option maxHeartbeats 800000 in
theorem spec_readNum (s : ByteArray) (w : World) (hs : s.size ≤ 1048576) :
    Calls Try.prog 43 #[.string s] w fun e w' => e = .returned (.tuple #[.int .i64 (numR s).1, .bool (numR s).2]) ∧ Below w.heap.size w w' := by
  have hA := spec_readAtom s w hs
  have hz := atomR_size s hs
  have hno := atomR_no s
  unfold numR
  obtain ⟨n, hn⟩ : ∃ n, rvN (atomR s).1 = n := ⟨_, rfl⟩
  obtain ⟨k, hk⟩ : ∃ k, rvK (atomR s).1 = k := ⟨_, rfl⟩
  have hRV := fun w => spec_rvf (atomR s).1 w hz n k hn hk
  have hno2 : (atomR s).2 = false → k = 0 := fun h => by rw [← hk, hno h, rvK_nil]
  rw [hn, hk]
  clear hn hk hno
  generalize (atomR s).1 = d at *
  generalize (atomR s).2 = b at *
  cases b with
  | false =>
    obtain rfl := hno2 rfl
    rw [if_neg (by omega)]
    go_enter Try.func43, Try.ntmps43
    go_wp2_with fail
    refine hA.mono ?_
    rintro e w1 ⟨rfl, hb⟩
    go_wp2_with fail
    refine (hRV _).mono ?_
    rintro e w2 ⟨rfl, hb2⟩
    have hb3 := hb.trans (hb2.mono hb.size)
    go_wp2
    go_ret2
    exact ⟨rfl, hb3⟩
  | true =>
    clear hno2
    by_cases h0 : k = 0
    · subst h0
      rw [if_neg (by omega)]
      go_enter Try.func43, Try.ntmps43
      go_wp2_with fail
      refine hA.mono ?_
      rintro e w1 ⟨rfl, hb⟩
      go_wp2_with fail
      refine (hRV _).mono ?_
      rintro e w2 ⟨rfl, hb2⟩
      have hb3 := hb.trans (hb2.mono hb.size)
      go_wp2
      go_ret2
      exact ⟨rfl, hb3⟩
    · have h0' : ((k : Int) == 0) = false := by simp; omega
      by_cases h1 : k = d.size
      · rw [if_pos ⟨by omega, h1⟩]
        have h1' : ((k : Int) == (d.size : Int)) = true := by simp; omega
        have hde : ¬ d = ByteArray.empty := by intro c; rw [c] at h1; exact h0 h1
        go_enter Try.func43, Try.ntmps43
        go_wp2_with fail
        refine hA.mono ?_
        rintro e w1 ⟨rfl, hb⟩
        go_wp2_with fail
        refine (hRV _).mono ?_
        rintro e w2 ⟨rfl, hb2⟩
        have hb3 := hb.trans (hb2.mono hb.size)
        go_wp2
        go_ret2
        exact ⟨rfl, hb3⟩
      · rw [if_neg (fun c => h1 c.2)]
        have h1' : ((k : Int) == (d.size : Int)) = false := by simp; omega
        go_enter Try.func43, Try.ntmps43
        go_wp2_with fail
        refine hA.mono ?_
        rintro e w1 ⟨rfl, hb⟩
        go_wp2_with fail
        refine (hRV _).mono ?_
        rintro e w2 ⟨rfl, hb2⟩
        have hb3 := hb.trans (hb2.mono hb.size)
        go_wp2
        go_ret2
        exact ⟨rfl, hb3⟩
end Go.Proofs.Ytbbaddcldoflfaa
