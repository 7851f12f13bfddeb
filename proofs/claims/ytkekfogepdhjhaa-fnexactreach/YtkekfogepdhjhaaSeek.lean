/- Is a text among those of a row: how the program and the model seek it. -/
import Derived.Test.YtkekfogepdhjhaaRows1
set_option linter.unusedVariables false
namespace Go.Proofs.Ytkekfogepdhjhaa
open Go.RowKit Own Var Term

theorem RowAt.take {α : Type} {f : α → Value} {w : World} {a : Option Addr} {xs : List α} (h : RowAt f w a xs) (k : Nat) : RowAt f w a (xs.take k) := by
  intro j hj
  rw [List.length_take] at hj
  obtain ⟨b, off, e, hlt, hc⟩ := h j (by omega)
  exact ⟨b, off, e, hlt, by rw [hc, List.getElem_take]⟩
theorem mem_take_succ {α : Type} {xs : List α} {k : Nat} (h : k < xs.length) (x : α) : x ∈ xs.take (k + 1) ↔ x ∈ xs.take k ∨ x = xs[k] := by
  rw [List.take_succ_eq_append_getElem h, List.mem_append, List.mem_singleton]
theorem same_list {x y : ByteArray} (h : ¬ x = y) : (x.toList == y.toList) = false := by
  rw [Bool.eq_false_iff]
  intro hh
  have h2 := eq_of_beq hh
  rw [ByteArray.toList_eq, ByteArray.toList_eq] at h2
  exact h (ext_list h2)
/-- Is x among them? -/
def inB (xs : List ByteArray) (x : ByteArray) : Bool := xs.any fun y => y.toList == x.toList
theorem inB_iff (xs : List ByteArray) (x : ByteArray) : inB xs x = true ↔ x ∈ xs := by
  unfold inB
  rw [List.any_eq_true]
  constructor
  · rintro ⟨y, hy, he⟩
    have h2 := eq_of_beq he
    rw [ByteArray.toList_eq, ByteArray.toList_eq] at h2
    rwa [← ext_list h2]
  · intro h
    exact ⟨x, h, beq_self_eq_true _⟩
theorem inB_no {xs : List ByteArray} {x : ByteArray} (h : ¬ x ∈ xs) : inB xs x = false := by
  rw [Bool.eq_false_iff]; intro hh; exact h ((inB_iff xs x).1 hh)

set_option maxRecDepth 100000 in
set_option maxHeartbeats 800000 in
theorem index_is (a : Option Addr) (cap : Nat) (xs : List ByteArray) (x : ByteArray) (w : World) (hr : RowAt Value.string w a xs) (hl : xs.length ≤ 1048576) :
    Calls Try.prog 99 #[.slice a xs.length cap, .string x] w fun e w' => ∃ r : Int, e = .returned (.int .i64 r) ∧ (0 ≤ r ↔ x ∈ xs) ∧ w = w' := by
  go_enter Try.func99, Try.ntmps99
  go_wp2
  go_loop [8] (fun i => ∃ k : Nat, k ≤ xs.length ∧ i = .int .i64 k ∧ Hid (¬ x ∈ xs.take k)) (fun i => xs.length - (intOf i).toNat)
  case atStart => exact ⟨0, by omega, rfl, by simp [Hid]⟩
  case round =>
    obtain ⟨k, hk, rfl, hx⟩ := hrel
    by_cases hlt : k < xs.length
    · obtain ⟨b1, o1, rfl, l1, hc1⟩ := hr k hlt
      have HM : Hid (x ∈ xs.take (k + 1) ↔ x ∈ xs.take k ∨ x = xs[k]) := mem_take_succ hlt x
      have HI : Hid (xs[k] ∈ xs) := List.getElem_mem hlt
      generalize xs[k] = y at hc1 HM HI
      by_cases he : x = y
      · subst he
        have hd : (x.toList == x.toList) = true := beq_self_eq_true _
        go_wp2
        all_goals
          go_ret
          exact ⟨k, rfl, ⟨fun _ => HI.out, fun _ => by omega⟩, rfl⟩
      · have hd := same_list he
        have HN : Hid (¬ x ∈ xs.take (k + 1)) := by
          intro h
          rcases HM.out.1 h with h | h
          · exact hx.out h
          · exact he h
        go_wp2
        go_round
        case rel => exact ⟨k + 1, by omega, by go_num, HN⟩
        case measure => simp [intOf]; omega
    · go_wp2
      go_ret
      exact ⟨-1, rfl, ⟨fun h => absurd h (by omega), fun h => absurd h (by have := hx.out; rwa [List.take_of_length_le (by omega)] at this)⟩, rfl⟩

set_option maxRecDepth 100000 in
theorem contains_is (a : Option Addr) (cap : Nat) (xs : List ByteArray) (x : ByteArray) (w : World) (hr : RowAt Value.string w a xs) (hl : xs.length ≤ 1048576) :
    Calls Try.prog 66 #[.slice a xs.length cap, .string x] w fun e w' => e = .returned (.bool (inB xs x)) ∧ w = w' := by
  go_enter Try.func66, Try.ntmps66
  go_wp2_with fail
  refine (index_is a cap xs x w hr hl).mono ?_
  rintro e w1 ⟨r, rfl, hR, rfl⟩
  go_wp2
  go_ret
  refine ⟨?_, rfl⟩
  have h2 : decide (r ≥ 0) = inB xs x := by
    rw [Bool.eq_iff_iff, decide_eq_true_iff, inB_iff]
    exact hR
  rw [← h2]
  rfl

set_option maxRecDepth 100000 in
set_option maxHeartbeats 800000 in
theorem l3In_is (a : Option Addr) (cap : Nat) (xs : List ByteArray) (x : ByteArray) (w : World) (hr : RowAt Value.string w a xs) (hl : xs.length ≤ 1048576) :
    Calls Try.prog 44 #[.slice a xs.length cap, .string x] w fun e w' => e = .returned (.bool (inB xs x)) ∧ w = w' := by
  go_enter Try.func44, Try.ntmps44
  go_wp2
  go_loop [5] (fun i => ∃ k : Nat, k ≤ xs.length ∧ i = .int .i64 k ∧ Hid (¬ x ∈ xs.take k)) (fun i => xs.length - (intOf i).toNat)
  case atStart => exact ⟨0, by omega, rfl, by simp [Hid]⟩
  case round =>
    obtain ⟨k, hk, rfl, hx⟩ := hrel
    by_cases hlt : k < xs.length
    · obtain ⟨b1, o1, rfl, l1, hc1⟩ := hr k hlt
      have HM : Hid (x ∈ xs.take (k + 1) ↔ x ∈ xs.take k ∨ x = xs[k]) := mem_take_succ hlt x
      have HI : Hid (xs[k] ∈ xs) := List.getElem_mem hlt
      generalize xs[k] = y at hc1 HM HI
      by_cases he : y = x
      · subst he
        have hd : (y.toList == y.toList) = true := beq_self_eq_true _
        have hT : inB xs y = true := (inB_iff _ _).2 HI.out
        go_wp2
        all_goals
          go_ret
          exact ⟨by first | rfl | (rw [hT]; rfl), rfl⟩
      · have hd := same_list he
        have HN : Hid (¬ x ∈ xs.take (k + 1)) := by
          intro h
          rcases HM.out.1 h with h | h
          · exact hx.out h
          · exact he h.symm
        go_wp2
        go_round
        case rel => exact ⟨k + 1, by omega, by go_num, HN⟩
        case measure => simp [intOf]; omega
    · have hF : inB xs x = false := by have := hx.out; rw [List.take_of_length_le (by omega)] at this; exact inB_no this
      go_wp2
      go_ret
      exact ⟨by first | rfl | (rw [hF]; rfl), rfl⟩
end Go.Proofs.Ytkekfogepdhjhaa
