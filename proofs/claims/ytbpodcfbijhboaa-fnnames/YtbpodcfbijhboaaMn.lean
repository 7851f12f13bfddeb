/- Marks of a name. -/
import Derived.Test.YtbpodcfbijhboaaMk
import Derived.Test.YtbpodcfbijhboaaNh2
import Derived.Test.YtbpodcfbijhboaaNz1
import Derived.Test.YtbpodcfbijhboaaNc6
set_option linter.unusedVariables false
set_option maxRecDepth 100000
namespace Go.Proofs.Ytbpodcfbijhboaa.Nd
open Go Go.RowKit Go.Joins Own Draw

abbrev sv1 (y : TT) : Value := .slice y.1.1 y.1.2.2.length y.1.2.1
theorem mark_row (B : Nat) (a : Option Addr) (n c : Nat) (vs : List Value) (w : World) (hn : n ≤ 12) (hown : w.ownsRow B 9 1 (.slice a n c) n vs) :
    Calls Try.prog 50 #[.slice a n c, .int .i64 1] w fun e w' => e = .returned (.int .i64 ((n : Int) + 1)) ∧ RowAt Value.string w' a (mtL n) ∧ w.grownBy w' (Value.slice a n c).ownBlock := by
  rcases hown.2 with ⟨h1, h2⟩ | ⟨g, cap, cur, h1, h2, _⟩
  · injection h1 with e1 e2 e3
    subst e1 e3 h2
    refine (markS_nil 0 w).mono ?_
    rintro e w' ⟨rfl, rfl⟩
    exact ⟨rfl, RowAt.nil _ _, World.grownBy.refl _ _⟩
  · injection h1 with e1 e2 e3
    subst e1 e3
    refine (markS_is B g n c vs w hn hown).mono ?_
    rintro e w' ⟨rfl, ho, hg⟩
    exact ⟨rfl, RowAt.own ho, hg⟩
set_option maxHeartbeats 3200000 in
theorem markN_is (y : TT) (w : World) (B : Nat) (ho : OwT B w y) (hn : y.1.2.2.length ≤ 12) :
    Calls Try.prog 28 #[vT y, .int .i64 1] w fun e w' => e = .returned (.int .i64 ((y.1.2.2.length : Int) + 1)) ∧ RowAt Value.string w' y.1.1 (mtL y.1.2.2.length) ∧ w.grownBy w' (sv1 y).ownBlock := by
  obtain ⟨⟨a, c, xs⟩, m⟩ := y
  have h0 : w.ownsRow B 9 1 (.slice a xs.length c) xs.length (xs.map Value.string) := ho
  dsimp only at hn ⊢
  obtain ⟨V, hV⟩ : ∃ V, w.alloc (.cells #[.slice a xs.length c, .string m] 26) = V := ⟨_, rfl⟩
  have TV : Blk w.heap.size [.slice a xs.length c, .string m] V := by rw [← hV]; exact Blk.new _ _ _
  have ov : V.ownsRow B 9 1 (.slice a xs.length c) xs.length (xs.map Value.string) := by rw [← hV]; exact h0.alloc _
  have gv : w.grownBy V (Value.slice a xs.length c).ownBlock := by
    rw [← hV]
    exact ⟨rfl, rfl, rfl, by simp, fun k hk _ => Below.heap_alloc _ _ _ hk⟩
  have d0 := TV.at 0 rfl
  have K := mark_row B a xs.length c _ V hn ov
  go_enter Try.func28, Try.ntmps28
  go_wp2_with fail
  try rw [hV]
  refine K.mono ?_
  clear K d0
  rintro en w1 ⟨rfl, hr, hg⟩
  have gg := grown_to gv hg
  go_wp2
  go_ret
  exact ⟨rfl, hr, gg⟩
set_option maxHeartbeats 3200000 in
theorem heldN_is (y : TT) (w : World) (hr : RowAt Value.string w y.1.1 (mtL y.1.2.2.length)) (hn : y.1.2.2.length ≤ 12) :
    Calls Try.prog 29 #[vT y, .int .i64 1] w fun e w' => e = .returned (.int .i64 ((y.1.2.2.length : Int) + 1)) ∧ Below w.heap.size w w' := by
  obtain ⟨⟨a, c, xs⟩, m⟩ := y
  dsimp only at hr hn ⊢
  obtain ⟨V, hV⟩ : ∃ V, w.alloc (.cells #[.slice a xs.length c, .string m] 26) = V := ⟨_, rfl⟩
  have TV : Blk w.heap.size [.slice a xs.length c, .string m] V := by rw [← hV]; exact Blk.new _ _ _
  have BC : Below w.heap.size w V := by rw [← hV]; exact (Below.refl _ _).alloc (Nat.le_refl _) _
  have d0 := TV.at 0 rfl
  have K := heldS_is a xs.length c V hn (hr.later BC)
  have hz : ¬ ((xs.length : Int) + 1) < 0 := by omega
  clear hr
  go_enter Try.func29, Try.ntmps29
  go_wp2_with fail
  try rw [hV]
  refine K.mono ?_
  clear K d0
  rintro en w1 ⟨rfl, hb⟩
  replace BC := BC.trans (hb.mono BC.size)
  go_wp2
  go_ret
  exact ⟨rfl, BC⟩
theorem small_of {y : TT} (h1 : y.1.2.2.length ≤ 4) (h2 : ∀ x ∈ y.1.2.2, x.size ≤ 20) (h3 : y.2.size ≤ 20) : totT y ≤ 1048576 := by
  have hs : ∀ (l : List ByteArray), (∀ x ∈ l, x.size ≤ 20) → (l.map ByteArray.size).sum ≤ 20 * l.length := by
    intro l
    induction l with
    | nil => intro _; exact Nat.le_refl 0
    | cons x t ih =>
      intro h
      have a := h x (List.mem_cons_self ..)
      have b := ih (fun z hz => h z (List.mem_cons_of_mem _ hz))
      rw [List.map_cons, List.sum_cons, List.length_cons]
      omega
  have := hs y.1.2.2 h2
  have e : totT y = y.1.2.2.length + (y.1.2.2.map ByteArray.size).sum + y.2.size := rfl
  omega
theorem rd_small (s : ByteArray) : (rdN s).1.length ≤ 4 ∧ (∀ x ∈ (rdN s).1, x.size ≤ 20) ∧ (rdN s).2.size ≤ 20 := by
  unfold rdN
  by_cases h : gdN s = true
  · rw [if_pos h]
    unfold gdN at h
    simp only [Bool.and_eq_true] at h
    obtain ⟨⟨_, h2⟩, h3, h4, _⟩ := ok_parts h.1
    exact ⟨h2, fun x hx => (h3 x hx).2.1, h4⟩
  · rw [if_neg h]
    exact ⟨Nat.zero_le _, (fun x hx => by cases hx), Nat.zero_le _⟩
theorem row_kept {w w' : World} {r q : TT} {B : Nat} (h : OwT B w q) (hg : w.grownBy w' (sv1 r).ownBlock) (hn : ∀ k, (sv1 r).ownBlock = some k → ¬ (sv1 q).ownBlock = some k) : OwT B w' q :=
  World.ownsRow.kept (show w.ownsRow B 9 1 (sv1 q) q.1.2.2.length (q.1.2.2.map Value.string) from h) hg (by
    cases e : (sv1 q).ownBlock with
    | none => exact Or.inl rfl
    | some k => exact Or.inr (fun c => hn k c.symm e))
end Go.Proofs.Ytbpodcfbijhboaa.Nd
