/- Rows of texts and of numbers that lie in memory: how the laws count, copy and compare them. -/
import Derived.Test.YtjcmbbnklfemcaaGreatTermImpl
import Derived.OwnWalk
import Derived.Laws.OwnMore
import Derived.Test.YtjcmbbnklfemcaaGreatTick1
set_option linter.unusedVariables false
namespace Go.Proofs.YtjcmbbnklfemcaaGreat
open Go.RowKit Own Var Term

/-- The cells from a on hold the row. -/
def RowAt {α : Type} (f : α → Value) (w : World) (a : Option Addr) (xs : List α) : Prop :=
  ∀ j (h : j < xs.length), ∃ b off, a = some ⟨b, off, none⟩ ∧ b < w.heap.size ∧ w.cell? ⟨b, off + j, none⟩ = some (f xs[j])
theorem RowAt.later {α : Type} {f : α → Value} {w w' : World} {a : Option Addr} {xs : List α} (h : RowAt f w a xs) (hb : Below w.heap.size w w') : RowAt f w' a xs := by
  intro j hj
  obtain ⟨b, off, e, hlt, hc⟩ := h j hj
  exact ⟨b, off, e, Nat.lt_of_lt_of_le hlt hb.size, by rw [hb.cell (p := ⟨b, off + j, none⟩) hlt]; exact hc⟩
theorem RowAt.own {α : Type} {f : α → Value} {w : World} {base g cap n : Nat} {e : TypeId} {xs : List α} (h : w.ownsRow base e 1 (.slice (some ⟨g, 0, none⟩) n cap) n (xs.map f)) : RowAt f w (some ⟨g, 0, none⟩) xs := by
  have hl : xs.length = n := by have := h.1; simpa using this
  intro j hj
  refine ⟨g, 0, rfl, (h.lt g rfl).2, ?_⟩
  rw [Nat.zero_add, h.cellAt j (by omega)]
  simp [hj]
theorem RowAt.nil {α : Type} {f : α → Value} (w : World) (a : Option Addr) : RowAt f w a [] := by intro j hj; simp at hj

theorem infoInt : (Tryz.prog.info? 3).map (fun i => (i.zero, i.size, i.bytes)) = some (some (.int .i64 0), 1, 8) := by kernel_rfl
end Go.Proofs.YtjcmbbnklfemcaaGreat

set_option linter.unusedVariables false
namespace Go.Proofs.YtjcmbbnklfemcaaGreat
open Go Go.RowKit

theorem all_yes {xs : List Int} (h : ∀ j (hj : j < xs.length), btw xs[j] 0 2 = true) : (xs.all fun n => btw n 0 2) = true := by
  rw [List.all_eq_true]
  intro x hx
  obtain ⟨j, hj, rfl⟩ := List.mem_iff_getElem.1 hx
  exact h j hj
theorem all_no {xs : List Int} {j : Nat} (hj : j < xs.length) (h : btw xs[j] 0 2 = false) : (xs.all fun n => btw n 0 2) = false := by
  cases hh : xs.all fun n => btw n 0 2 with
  | false => rfl
  | true => rw [List.all_eq_true] at hh; rw [hh _ (List.getElem_mem hj)] at h; cases h

set_option maxRecDepth 100000 in
set_option maxHeartbeats 800000 in
theorem spec_all (a : Option Addr) (cap : Nat) (xs : List Int) (m : Nat) (w : World) (hr : RowAt (Value.int .i64) w a xs) (hl : xs.length ≤ 1048576) (hm : m ≤ 1048576) :
    Calls Tryz.prog 35 #[.slice a xs.length cap, .int .i64 m, .int .i64 3] w fun e w' => e = .returned (.bool (allB xs m)) ∧ Below w.heap.size w w' := by
  by_cases h : xs.length ≤ m
  · have hd : decide ((m : Int) < (xs.length : Int)) = false := by simp; omega
    have hA : allB xs m = xs.all fun n => btw n 0 2 := by unfold allB; simp [h]
    rw [hA]
    go_enter Tryz.func35, Tryz.ntmps35
    go_wp2
    go_loopw [7] (fun i wr => ∃ k : Nat, k ≤ xs.length ∧ i = .int .i64 k ∧ (∀ j (hj : j < xs.length), j < k → btw xs[j] 0 2 = true) ∧ Below w.heap.size w wr) (fun i _ => xs.length - (intOf i).toNat)
    case atStart => exact ⟨0, by omega, rfl, fun j hj h => absurd h (by omega), Below.refl _ _⟩
    case round =>
      obtain ⟨k, hk, rfl, hall, hbel⟩ := hrel
      by_cases hlt : k < xs.length
      · obtain ⟨b1, o1, rfl, l1, hc1⟩ := hr k hlt
        rw [← hbel.cell (p := ⟨b1, o1 + k, none⟩) l1] at hc1
        have H := fun (h : btw xs[k] 0 2 = true) => fun j (hj : j < xs.length) (hjk : j < k + 1) => (if e : j = k then by subst e; exact h else hall j hj (by omega) : btw xs[j] 0 2 = true)
        have HN := all_no (xs := xs) hlt
        generalize hx : xs[k] = x at hc1 H HN
        by_cases h0 : x < 0
        · go_wp2
          go_ret
          exact ⟨by rw [HN (by unfold btw; simp; omega)]; rfl, hbel⟩
        · by_cases h3 : 3 ≤ x
          · go_wp2
            go_ret
            exact ⟨by rw [HN (by unfold btw; simp; omega)]; rfl, hbel⟩
          · go_wp2
            go_roundw
            case rel => exact ⟨k + 1, by omega, by go_num, H (by unfold btw; simp; omega), hbel⟩
            case measure => simp [intOf]; omega
      · go_wp2
        go_ret
        exact ⟨by rw [all_yes (fun j hj => hall j hj (by omega))]; rfl, hbel⟩
  · have hd : decide ((m : Int) < (xs.length : Int)) = true := by simp; omega
    have hA : allB xs m = false := by unfold allB; simp [h]
    rw [hA]
    go_enter Tryz.func35, Tryz.ntmps35
    go_wp2
    go_ret
    exact ⟨rfl, Below.refl _ _⟩
end Go.Proofs.YtjcmbbnklfemcaaGreat

set_option linter.unusedVariables false
namespace Go.Proofs.YtjcmbbnklfemcaaGreat
open Go Go.RowKit

theorem enters95 (args : Array Value) (w : World) : (callFunc 153 args).run Tryz.prog w = .ok (.enter 153 args) w := by
  simp [callFunc, Tryz.func153, mark, Tryz.f153]
theorem enters96 (args : Array Value) (w : World) : (callFunc 139 args).run Tryz.prog w = .ok (.enter 139 args) w := by
  simp [callFunc, Tryz.func139, mark, Tryz.f139]

set_option maxRecDepth 100000 in
set_option maxHeartbeats 800000 in
theorem listOk_is (f : Nat) (hen : ∀ (args : Array Value) (w : World), (callFunc f args).run Tryz.prog w = .ok (.enter f args) w)
    (hf : ∀ (n : Int) (w : World), Calls Tryz.prog f #[.int .i64 n] w fun e w' => e = .returned (.bool (btw n 0 2)) ∧ w = w')
    (a : Option Addr) (cap : Nat) (xs : List Int) (m : Nat) (w : World) (hr : RowAt (Value.int .i64) w a xs) (hl : xs.length ≤ 1048576) (hm : m ≤ 1048576) :
    Calls Tryz.prog 152 #[.slice a xs.length cap, .int .i64 m, .func (.func f) #[] #[]] w fun e w' => e = .returned (.bool (allB xs m)) ∧ Below w.heap.size w w' := by
  by_cases h : xs.length ≤ m
  · have hd : decide ((m : Int) < (xs.length : Int)) = false := by simp; omega
    have hd2 : decide (m < xs.length) = false := by simp; omega
    have hA : allB xs m = xs.all fun n => btw n 0 2 := by unfold allB; simp [h]
    rw [hA]
    go_enter Tryz.func152, Tryz.ntmps152
    go_wp2
    go_loopw [15] (fun i wr => ∃ k : Nat, k ≤ xs.length ∧ i = .int .i64 k ∧ (∀ j (hj : j < xs.length), j < k → btw xs[j] 0 2 = true) ∧ Below w.heap.size w wr) (fun i _ => xs.length - (intOf i).toNat)
    case atStart => exact ⟨0, by omega, rfl, fun j hj h => absurd h (by omega), Below.refl _ _⟩
    case round =>
      obtain ⟨k, hk, rfl, hall, hbel⟩ := hrel
      by_cases hlt : k < xs.length
      · obtain ⟨b1, o1, rfl, l1, hc1⟩ := hr k hlt
        rw [← hbel.cell (p := ⟨b1, o1 + k, none⟩) l1] at hc1
        have H := fun (h : btw xs[k] 0 2 = true) => fun j (hj : j < xs.length) (hjk : j < k + 1) => (if e : j = k then by subst e; exact h else hall j hj (by omega) : btw xs[j] 0 2 = true)
        have HN := all_no (xs := xs) hlt
        generalize hx : xs[k] = x at hc1 H HN
        have HC := hf x wr
        go_wp2_with fail
        refine HC.mono ?_
        rintro e wx ⟨rfl, rfl⟩
        clear HC
        by_cases h1 : btw x 0 2 = true
        · rw [h1]
          have H1 := H h1
          clear H HN
          go_wp2
          go_roundw
          case rel => exact ⟨k + 1, by omega, by go_num, H1, hbel⟩
          case measure => simp [intOf]; omega
        · rw [Bool.not_eq_true] at h1
          rw [h1]
          have H1 := HN h1
          clear H HN
          go_wp2
          go_ret
          exact ⟨by rw [H1]; rfl, hbel⟩
      · go_wp2
        go_ret
        exact ⟨by rw [all_yes (fun j hj => hall j hj (by omega))]; rfl, hbel⟩
  · have hd : decide ((m : Int) < (xs.length : Int)) = true := by simp; omega
    have hA : allB xs m = false := by unfold allB; simp [h]
    rw [hA]
    go_enter Tryz.func152, Tryz.ntmps152
    go_wp2
    go_ret
    exact ⟨rfl, Below.refl _ _⟩
end Go.Proofs.YtjcmbbnklfemcaaGreat
