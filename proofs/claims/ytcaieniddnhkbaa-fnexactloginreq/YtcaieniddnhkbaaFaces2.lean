/- What reads atoms, keys and sealed terms: the program and the model, one contract each. -/
import Derived.Test.YtcaieniddnhkbaaFaces1
set_option linter.unusedVariables false
namespace Go.Proofs.Ytcaieniddnhkbaa
open Go.RowKit Own Var Term

theorem rk_facts {s r : ByteArray} {kind n : Nat} (h : rk s kind = some (n, r)) :
    isT s = true ∧ 2 ≤ s.size ∧ at_ s 0 = kind ∧ cut s = some (n, r) ∧ s.size ≤ 900 ∧ r.size ≤ 900 := by
  by_cases c : IsT s ∧ at_ s 0 = kind
  · rw [rk_yes c.1 c.2] at h
    have := (cut_size h).1
    have h9 := c.1.1
    exact ⟨(isT_iff s).2 c.1, by omega, c.2, h, by omega, by omega⟩
  · rw [rk_no c] at h; simp at h
theorem cut_eq {s r : ByteArray} {n : Nat} (h : cut s = some (n, r)) : rvN (suf s 1) = n ∧ r = suf s (1 + rvK (suf s 1)) ∧ 1 + rvK (suf s 1) ≤ s.size := by
  have hK := (rvK_le (suf s 1)).2
  rw [suf_size] at hK
  unfold cut at h
  split at h
  · rename_i c
    simp only [Option.some.injEq, Prod.mk.injEq] at h
    exact ⟨h.1, h.2.symm, by omega⟩
  · simp at h

/-! ReadAtom -/
def atomR (s : ByteArray) : ByteArray × Bool := match rk s 97 with
  | some (_, d) => (d, true)
  | none => (⟨#[]⟩, false)
theorem byte_ne {s : ByteArray} {kind : Nat} (h : 0 < s.size) (hr : rk s kind = none) (hT : isT s = true) : ((s[0].toNat : Int) == (kind : Int)) = false := by
  rw [Bool.eq_false_iff]; intro hh; simp at hh
  have hat := at_eq s 0 h
  obtain ⟨n, t, hc⟩ := ((isT_iff s).1 hT).cut
  rw [rk_yes ((isT_iff s).1 hT) (by omega), hc] at hr
  simp at hr

def keyR (s : ByteArray) : Int × Bool := match rk s 107 with
  | some (n, _) => ((n : Int), true)
  | none => (0, false)
def openR (s : ByteArray) (k : Int) : ByteArray × Bool := match rk s 115 with
  | some (n, t) => if (n : Int) = k then (t, true) else (⟨#[]⟩, false)
  | none => (⟨#[]⟩, false)
def numR (s : ByteArray) : Int × Bool := if 1 ≤ rvK (atomR s).1 ∧ rvK (atomR s).1 = (atomR s).1.size then ((rvN (atomR s).1 : Int), true) else (0, false)
theorem atomR_size (s : ByteArray) (h : s.size ≤ 1048576) : (atomR s).1.size ≤ 1048576 := by
  unfold atomR
  cases hr : rk s 97 with
  | none => show 0 ≤ _; omega
  | some q => obtain ⟨n, r⟩ := q; have := rk_facts hr; show r.size ≤ _; omega
theorem atomR_no (s : ByteArray) (h : (atomR s).2 = false) : (atomR s).1 = ⟨#[]⟩ := by
  unfold atomR at h ⊢
  cases hr : rk s 97 with
  | none => rfl
  | some q => rw [hr] at h; cases h
end Go.Proofs.Ytcaieniddnhkbaa
