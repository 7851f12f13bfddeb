/- Is a text just one term: the program and the model; a text where it is one. -/
import Derived.Test.YtaeecaebjafnpaaReadKind
import Derived.Test.YtaeecaebjafnpaaTermSpec
import Derived.Test.YtaeecaebjafnpaaMade
import Derived.Laws.Runes
set_option linter.unusedVariables false
namespace Go.Proofs.Ytaeecaebjafnpaa
open Go.RowKit Own Var Term

theorem isT_no (s : ByteArray) (h : bh 8 s = none) : isT s = false := by
  unfold isT; rw [h]; simp
theorem isT_some (s : ByteArray) (n : Nat) (hn : n ≤ s.size) (h : bh 8 s = some (suf s n)) : isT s = decide (s.size ≤ 900 ∧ n = s.size) := by
  unfold isT; rw [h]
  simp only [suf_size]
  rw [Bool.eq_iff_iff]
  simp
  omega

set_option maxRecDepth 100000 in
set_option maxHeartbeats 800000 in
theorem spec_ok (s : ByteArray) (w : World) (hs : s.size ≤ 1048576) :
    Calls Try.prog 71 #[.string s] w fun e w' => e = .returned (.bool (isT s)) ∧ Below w.heap.size w w' := by
  have HT := term_is s hs 8 0 8 w rfl (by omega) (by omega)
  rw [suf_zero] at HT
  go_enter Try.func71, Try.ntmps71
  go_wp2_with fail
  refine HT.mono ?_
  rintro e w1 ⟨n, d, rfl, hTA, hb⟩
  rcases hTA with ⟨hn, rfl, rfl⟩ | ⟨hm1, hm2, hso, hd⟩
  · go_wp2
    go_ret
    exact ⟨by rw [isT_no s hn]; rfl, hb⟩
  · rw [Nat.zero_add] at hso
    have hI := isT_some s n (by omega) hso
    by_cases h1 : n = s.size
    · have h1' : ((n : Int) == (s.size : Int)) = true := by simp; omega
      go_wp2
      go_ret
      have e : decide ((s.size : Int) ≤ 900) = isT s := by rw [hI, decide_eq_decide]; omega
      rw [← e]
      exact ⟨rfl, hb⟩
    · have h1' : ((n : Int) == (s.size : Int)) = false := by simp; omega
      go_wp2
      go_ret
      refine ⟨?_, hb⟩
      rw [hI]
      simp
      omega

theorem tell75 (n : Nat) (r : ByteArray) (w : World) : Calls Try.prog 86 #[.int .i64 n, .string r] w fun e w' => e = .returned (.int .i64 n) ∧ w = w' := by
  go_enter Try.func86, Try.ntmps86
  go_wp2
  go_ret
  exact ⟨rfl, rfl⟩
theorem enters75 (args : Array Value) (w : World) : (callFunc 86 args).run Try.prog w = .ok (.enter 86 args) w := by
  simp [callFunc, Try.func86, mark, Try.f86]

set_option maxRecDepth 100000 in
set_option maxHeartbeats 800000 in
theorem impl_ok (s : ByteArray) (w : World) (hs : s.size ≤ 2097152) :
    Calls Try.prog 67 #[.string s] w fun e w' => e = .returned (.bool (isT s)) ∧ Below w.heap.size w w' := by
  have hmf : ∀ (fn : Fn) (first cap : Array Value) (w : World), (Instr.makeFunc fn first cap).run Try.prog w = .ok (.func fn first cap) w := fun _ _ _ _ => rfl
  by_cases h0 : 1 ≤ s.size
  · have hne := ne_nil s h0
    have hat := at_eq s 0 (by omega)
    by_cases hT : isT s = true
    · obtain ⟨n, r, hc⟩ := ((isT_iff s).1 hT).cut
      have hr : rk s s[0].toNat = some (n, r) := by rw [rk_yes ((isT_iff s).1 hT) hat.symm, hc]
      have HC := rkI_yes s r s[0].toNat n 86 #[] w (fun v w' => Below w.heap.size w w') (by have := ((isT_iff s).1 hT).1; omega) hr enters75 (fun w1 hb => (tell75 n r w1).mono (by rintro e w2 ⟨rfl, rfl⟩; exact ⟨_, rfl, hb⟩))
      rw [hT]
      clear hr hc hat hT
      go_enter Try.func67, Try.ntmps67
      go_wp2_with fail
      refine HC.mono ?_
      rintro e w1 ⟨v, rfl, hb⟩
      go_wp2
      go_ret
      exact ⟨rfl, hb⟩
    · have hr : rk s s[0].toNat = none := rk_no (fun c => hT ((isT_iff s).2 c.1))
      have HC := rkI_no s s[0].toNat (.func (.func 86) #[] #[]) w hs hr
      rw [Bool.not_eq_true] at hT
      rw [hT]
      clear hr hat hT
      go_enter Try.func67, Try.ntmps67
      go_wp2_with fail
      refine HC.mono ?_
      rintro e w1 ⟨rfl, hb⟩
      go_wp2
      go_ret
      exact ⟨rfl, hb⟩
  · have hne := nil_size s (by omega)
    have hT : isT s = false := by
      rw [← Bool.not_eq_true, isT_iff]
      intro h
      have := not_empty h
      omega
    rw [hT]
    clear hT
    go_enter Try.func67, Try.ntmps67
    go_wp2
    go_ret
    exact ⟨rfl, Below.refl _ _⟩

theorem spec_or (s : ByteArray) (w : World) (hs : s.size ≤ 1048576) :
    Calls Try.prog 77 #[.string s] w fun e w' => e = .returned (.string (okOr s)) ∧ Below w.heap.size w w' := by
  have HC := spec_ok s w hs
  unfold okOr
  rcases Bool.eq_false_or_eq_true (isT s) with h | h
  · rw [h] at HC ⊢
    go_enter Try.func77, Try.ntmps77
    go_wp2_with (go_at_call 71; refine HC.mono ?_; rintro e w1 ⟨rfl, hb⟩)
    go_ret
    exact ⟨rfl, hb⟩
  · rw [h] at HC ⊢
    go_enter Try.func77, Try.ntmps77
    go_wp2_with (go_at_call 71; refine HC.mono ?_; rintro e w1 ⟨rfl, hb⟩)
    go_ret
    exact ⟨rfl, hb⟩
theorem impl_or (s : ByteArray) (w : World) (hs : s.size ≤ 2097152) :
    Calls Try.prog 68 #[.string s] w fun e w' => e = .returned (.string (okOr s)) ∧ Below w.heap.size w w' := by
  have HC := impl_ok s w hs
  unfold okOr
  rcases Bool.eq_false_or_eq_true (isT s) with h | h
  · rw [h] at HC ⊢
    go_enter Try.func68, Try.ntmps68
    go_wp2_with (go_at_call 67; refine HC.mono ?_; rintro e w1 ⟨rfl, hb⟩)
    go_ret
    exact ⟨rfl, hb⟩
  · rw [h] at HC ⊢
    go_enter Try.func68, Try.ntmps68
    go_wp2_with (go_at_call 67; refine HC.mono ?_; rintro e w1 ⟨rfl, hb⟩)
    go_ret
    exact ⟨rfl, hb⟩
end Go.Proofs.Ytaeecaebjafnpaa
