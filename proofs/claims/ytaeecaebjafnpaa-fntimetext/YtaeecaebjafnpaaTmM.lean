/- Plain mathematics: what is shown is read, and the other way round; Times as texts. -/
import Derived.Test.YtaeecaebjafnpaaTrip2
import Derived.Test.YtaeecaebjafnpaaTm1
set_option linter.unusedVariables false
set_option maxRecDepth 100000
namespace Go.Proofs.Ytaeecaebjafnpaa
open Go.RowKit Own Var Term

theorem var_back (d : ByteArray) (h1 : 1 ≤ rvK d) (h2 : rvK d = d.size) : varOf (rvN d : Int) = d := by
  have hA := rv_ans d
  have hn := rvN_le d
  rcases hA with ⟨_, hk0, _⟩ | ⟨k1, k7, ks, hc, hv⟩
  · omega
  · have hcv := (canonK_iff d (rvK d - 1) (by omega)).1 hc
    rw [(by omega : rvK d - 1 + 1 = rvK d), ← hv] at hcv
    rw [varOf_nat _ hn]
    apply ext_list
    have e2 : (⟨(varB (rvN d)).toArray⟩ : ByteArray).data.toList = varB (rvN d) := by simp
    rw [e2, hcv, h2, size_list, List.take_length]
theorem atom_back (x : ByteArray) (h : (atomR x).2 = true) : atomT (atomR x).1 = x := by
  unfold atomR at h ⊢
  cases hr : rk x 97 with
  | none => rw [hr] at h; cases h
  | some q =>
    obtain ⟨n, d⟩ := q
    obtain ⟨hT, _, hk, hc, _, _⟩ := rk_facts hr
    obtain ⟨c, e, hok, hat, hn⟩ := cut_form hc
    obtain ⟨_, r', hb, hr0⟩ := (isT_iff x).1 hT
    rw [bh_some hc, if_pos hk] at hb
    have hc97 : c.toNat = 97 := by omega
    have ec : c = 97 := by apply UInt8.toNat_inj.1; rw [hc97]; rfl
    subst ec
    by_cases hnd : n ≤ d.size
    · rw [if_pos hnd, Option.some.injEq] at hb
      subst hb
      rw [suf_size] at hr0
      have hnd' : n = d.size := by omega
      show atomT d = x
      unfold atomT
      rw [← hnd', ← e, okOr_yes hT]
    · rw [if_neg hnd] at hb; cases hb
theorem num_back (x : ByteArray) (h : (numR x).2 = true) : numT (numR x).1 = x := by
  have hh : 1 ≤ rvK (atomR x).1 ∧ rvK (atomR x).1 = (atomR x).1.size := by
    by_cases c : 1 ≤ rvK (atomR x).1 ∧ rvK (atomR x).1 = (atomR x).1.size
    · exact c
    · unfold numR at h; rw [if_neg c] at h; cases h
  have ha : (atomR x).2 = true := by
    cases hq : (atomR x).2 with
    | true => rfl
    | false => rw [atomR_no x hq, rvK_nil] at hh; omega
  have e : (numR x).1 = (rvN (atomR x).1 : Int) := by unfold numR; rw [if_pos hh]
  have v := var_back _ hh.1 hh.2
  rw [e]
  unfold numT
  rw [v, if_neg (by omega)]
  exact atom_back x ha
theorem nums_back (s : ByteArray) (h : (numsR s).2 = true) : numsT (numsR s).1 = s := by
  unfold numsR numsP at h ⊢
  by_cases c : ((partsR s).2 && (partsR s).1.all fun x => (numR x).2) = true
  · rw [if_pos c]
    rw [Bool.and_eq_true, List.all_eq_true] at c
    show listT (((partsR s).1.map fun x => (numR x).1).map numT) = s
    rw [List.map_map]
    have : ∀ x ∈ (partsR s).1, (numT ∘ fun x => (numR x).1) x = x := fun x hx => num_back x (c.2 x hx)
    rw [List.map_congr_left this, List.map_id']
    exact list_back s c.1
  · rw [if_neg c] at h; cases h
theorem nums_len (s : ByteArray) (h : (numsR s).2 = false) : (numsR s).1 = [] := by
  unfold numsR numsP at h ⊢
  split at h
  · cases h
  · rename_i k; rw [if_neg k]
theorem nums_ok (s : ByteArray) (h : (numsR s).1 ≠ []) : (numsR s).2 = true := by
  cases hh : (numsR s).2 with
  | true => rfl
  | false => exact absurd (nums_len s hh) h
theorem numsR_nil : numsR ⟨#[]⟩ = ([], false) := by
  unfold numsR partsR
  rw [rk_nil]
  rfl
theorem same_list {x y : ByteArray} (h : ¬ x = y) : (x.toList == y.toList) = false := by
  rw [Bool.eq_false_iff]
  intro hh
  have h2 := eq_of_beq hh
  rw [ByteArray.toList_eq, ByteArray.toList_eq] at h2
  refine h ?_
  cases x
  cases y
  congr 1
  exact Array.toList_inj.1 h2
/-- What Times are shown as. -/
def tmT (a b c d : Int) : ByteArray := if tmOk a b c d = true then numsT [a, b, c, d] else ⟨#[]⟩
/-- Is a text read as Times? -/
def trK (L : List Int) : Bool := decide (L.length = 4) && tmOk (L.getD 0 0) (L.getD 1 0) (L.getD 2 0) (L.getD 3 0)
/-- What a text is read as. -/
def trV (L : List Int) : Value := tmIf (trK L) (L.getD 0 0) (L.getD 1 0) (L.getD 2 0) (L.getD 3 0)
theorem trV_no (L : List Int) (h : trK L = false) : .tuple #[tv 0 0 0 0, .bool false] = trV L := by
  unfold trV
  rw [h]
  rfl
theorem trV_yes (x y z q : Int) (h : tmOk x y z q = true) : .tuple #[tv x y z q, .bool true] = trV [x, y, z, q] := by
  unfold trV
  rw [show trK [x, y, z, q] = true from h]
  rfl
theorem trK_no (x y z q : Int) (h : tmOk x y z q = false) : trK [x, y, z, q] = false := h
theorem trK_len (L : List Int) (h : ¬ L.length = 4) : trK L = false := by
  unfold trK
  rw [decide_eq_false h]
  rfl
theorem row4 (w : World) (a b c d : Int) : RowAt (Value.int .i64) (w.alloc (.cells #[.int .i64 a, .int .i64 b, .int .i64 c, .int .i64 d] 3)) (some ⟨w.heap.size, 0, none⟩) [a, b, c, d] := by
  intro j hj
  simp only [List.length_cons, List.length_nil] at hj
  refine ⟨w.heap.size, 0, rfl, by simp, ?_⟩
  have : j = 0 ∨ j = 1 ∨ j = 2 ∨ j = 3 := by omega
  rcases this with rfl | rfl | rfl | rfl <;> simp [go_sem]
end Go.Proofs.Ytaeecaebjafnpaa
