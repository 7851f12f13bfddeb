/- Plain mathematics: what is read is what was put together, and what is put together is read. -/
import Derived.Test.YtaeecaebjafnpaaReadNums
set_option linter.unusedVariables false
namespace Go.Proofs.Ytaeecaebjafnpaa
open Go.RowKit Own Var Term

theorem app_assoc (a b c : ByteArray) : a ++ b ++ c = a ++ (b ++ c) := by apply ext_list; simp only [data_append, List.append_assoc]
theorem nil_app (a : ByteArray) : ⟨#[]⟩ ++ a = a := by apply ext_list; rw [data_append]; simp
theorem take_suf (t : ByteArray) (n : Nat) : t = t.extract 0 n ++ suf t n := by
  apply ext_list
  rw [data_append, suf_list, extract_list, List.drop_zero, Nat.sub_zero, List.take_append_drop]
theorem suf_app (a b : ByteArray) : suf (a ++ b) a.size = b := by
  apply ext_list
  rw [suf_list, data_append, size_list, List.drop_left]
theorem ext_size_eq (t : ByteArray) (n : Nat) (h : n ≤ t.size) : (t.extract 0 n).size = n := by simp [ByteArray.size_extract]; omega

/-- The head of a term, and what stands behind it. -/
theorem cut_form {x t : ByteArray} {n : Nat} (h : cut x = some (n, t)) : ∃ c : UInt8, x = hdT c n ++ t ∧ hdOk c.toNat n = true ∧ at_ x 0 = c.toNat ∧ n ≤ 562949953421311 := by
  have hz := cut_size h
  unfold cut at h
  split at h
  · rename_i c
    simp only [Option.some.injEq, Prod.mk.injEq] at h
    obtain ⟨h1, h2⟩ := h
    obtain ⟨c1, c2, c3⟩ := c
    have hl : 0 < x.data.toList.length := by rw [← size_list]; omega
    obtain ⟨b, l, hbl⟩ : ∃ b l, x.data.toList = b :: l := by
      cases hx : x.data.toList with
      | nil => rw [hx] at hl; simp at hl
      | cons b l => exact ⟨b, l, rfl⟩
    have hat : at_ x 0 = b.toNat := by unfold at_; rw [hbl]; rfl
    have hA := rv_ans (suf x 1)
    have hs1 : (suf x 1).data.toList = l := by rw [suf_list, hbl]; rfl
    rw [h1, hat] at c3
    have hn := rvN_le (suf x 1)
    rw [h1] at hn hA
    rcases hA with ⟨_, hk0, _⟩ | ⟨k1, k7, ks, hc, hv⟩
    · omega
    · have hcv := (canonK_iff (suf x 1) (rvK (suf x 1) - 1) (by omega)).1 hc
      rw [(by omega : rvK (suf x 1) - 1 + 1 = rvK (suf x 1)), ← hv, hs1] at hcv
      refine ⟨b, ?_, c3, hat, hn⟩
      apply ext_list
      rw [data_append, hdT, data_append, varOf_nat n hn, ← h2, suf_list, hbl]
      have e1 : (⟨#[b]⟩ : ByteArray).data.toList = [b] := rfl
      have e2 : (⟨(varB n).toArray⟩ : ByteArray).data.toList = varB n := by simp
      rw [e1, e2, hcv, (by omega : 1 + rvK (suf x 1) = rvK (suf x 1) + 1), List.drop_succ_cons]
      simp
  · simp at h

/-- What was read stands ahead, and would be read whatever stands behind. -/
def Pre (g : ByteArray → Option ByteArray) : Prop := ∀ x r, g x = some r → ∃ p, x = p ++ r ∧ ∀ y, g (p ++ y) = some y
theorem rep_pre {g : ByteArray → Option ByteArray} (H : Pre g) (n : Nat) : Pre (rep g n) := by
  induction n with
  | zero =>
    intro x r h
    simp only [rep, Option.some.injEq] at h
    subst h
    exact ⟨⟨#[]⟩, (nil_app x).symm, fun y => by rw [nil_app]; rfl⟩
  | succ n ih =>
    intro x r h
    obtain ⟨x', h1, h2⟩ := rep_succ h
    obtain ⟨p, e1, q1⟩ := H x x' h1
    obtain ⟨p', e2, q2⟩ := ih x' r h2
    refine ⟨p ++ p', by rw [e1, e2, app_assoc], fun y => ?_⟩
    rw [rep, app_assoc, q1 (p' ++ y)]
    exact q2 y
theorem bh_pre (f : Nat) : Pre (bh f) := by
  induction f with
  | zero => intro x r h; simp [bh] at h
  | succ f ih =>
    intro x r h
    cases hc : cut x with
    | none => rw [bh_none hc] at h; cases h
    | some q =>
      obtain ⟨n, t⟩ := q
      obtain ⟨c, rfl, hk, hat, hn⟩ := cut_form hc
      have hcy : ∀ y, cut (hdT c n ++ y) = some (n, y) := fun y => by rw [cut_made c n hn y, if_pos hk]
      have hay : ∀ y, at_ (hdT c n ++ y) 0 = c.toNat := fun y => at_one c n y
      rw [bh_some hc, hat] at h
      have hby : ∀ y, bh (f + 1) (hdT c n ++ y) = _ := fun y => bh_some (hcy y)
      simp only [hay] at hby
      by_cases h97 : c.toNat = 97
      · simp only [h97, if_true] at h hby
        split at h
        · rename_i hle
          simp only [Option.some.injEq] at h
          subst h
          refine ⟨hdT c n ++ t.extract 0 n, by rw [app_assoc, ← take_suf], fun y => ?_⟩
          have hz := ext_size_eq t n hle
          rw [app_assoc, hby, if_pos (by rw [ByteArray.size_append]; omega)]
          have := suf_app (t.extract 0 n) y
          rw [hz] at this
          rw [this]
        · cases h
      · simp only [h97, if_false] at h hby
        by_cases h108 : c.toNat = 108
        · simp only [h108, if_true] at h hby
          obtain ⟨p, e, q⟩ := rep_pre ih n t r h
          exact ⟨hdT c n ++ p, by rw [e, app_assoc], fun y => by rw [app_assoc, hby, q]⟩
        · simp only [h108, if_false] at h hby
          by_cases h115 : c.toNat = 115
          · simp only [h115, if_true] at h hby
            obtain ⟨p, e, q⟩ := ih t r h
            exact ⟨hdT c n ++ p, by rw [e, app_assoc], fun y => by rw [app_assoc, hby, q]⟩
          · simp only [h115, if_false, Option.some.injEq] at h hby
            subst h
            exact ⟨hdT c n, rfl, fun y => hby y⟩
/-- A term is read whatever stands behind it. -/
theorem isT_app {x : ByteArray} (h : isT x = true) (y : ByteArray) : bh 8 (x ++ y) = some y := by
  obtain ⟨_, r, hb, hr⟩ := (isT_iff x).1 h
  obtain ⟨p, e, q⟩ := bh_pre 8 x r hb
  rw [empty_of r hr, app_nil] at e
  rw [e]
  exact q y
end Go.Proofs.Ytaeecaebjafnpaa
