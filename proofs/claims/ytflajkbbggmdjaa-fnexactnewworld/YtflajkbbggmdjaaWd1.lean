/- New caches; what stands of owned rows. -/
import Derived.Test.YtflajkbbggmdjaaWd0
import Derived.Test.YtflajkbbggmdjaaBigC
set_option linter.unusedVariables false
set_option maxRecDepth 100000
namespace Go.Proofs.Ytflajkbbggmdjaa.Nd
open Go Go.RowKit Go.Joins Own Draw

set_option maxRecDepth 100000 in
set_option maxHeartbeats 1600000 in
theorem newCi_is (w : World) : Calls Try.prog 51 #[] w fun en w' => en = .returned (.agg #[.int .i64 (-1), .slice none 0 0]) ∧ Below w.heap.size w w' := by
  obtain ⟨ie, hie, his⟩ := info_Cx
  obtain ⟨W1, hW1⟩ : ∃ W1, w.alloc (.cells #[.int .i64 0, .slice none 0 0] 82) = W1 := ⟨_, rfl⟩
  have B1 : Below w.heap.size w W1 := by rw [← hW1]; exact (Below.refl _ _).alloc (Nat.le_refl _) _
  have T1 : Blk w.heap.size [.int .i64 0, .slice none 0 0] W1 := by rw [← hW1]; exact Blk.new _ _ _
  obtain ⟨VF, hVF⟩ : ∃ V, W1.setCells w.heap.size 0 [.int .i64 (-1), .slice none 0 0] = V := ⟨_, rfl⟩
  have TF : Blk w.heap.size [.int .i64 (-1), .slice none 0 0] VF := by rw [← hVF]; exact T1.sets _ rfl
  have BF : Below w.heap.size w VF := by rw [← hVF]; exact below_sets (Nat.le_refl _) _ _ _ B1
  go_enter Try.func51, Try.ntmps51
  go_wp2_with (first | (refine wpList_stB 82 _ _ w.heap.size 0 _ [.int .i64 (-1), .slice none 0 0] ie hie T1 his.symm (by simp) rfl rfl rfl rfl rfl ?_; rw [hVF]) | go_in)
  exact bodyPost_ret (res_B1 rfl _ _ w.heap.size [.int .i64 (-1), .slice none 0 0] ie hie (Try.isAgg82) TF his.symm rfl) rfl ⟨rfl, BF⟩
set_option maxRecDepth 100000 in
set_option maxHeartbeats 1600000 in
theorem newCs_is (w : World) : Calls Try.prog 49 #[] w fun en w' => en = .returned (.agg #[.int .i64 (-1), .slice none 0 0]) ∧ Below w.heap.size w w' := by
  obtain ⟨ie, hie, his⟩ := info_Cx
  obtain ⟨W1, hW1⟩ : ∃ W1, w.alloc (.cells #[.int .i64 0, .slice none 0 0] 82) = W1 := ⟨_, rfl⟩
  have B1 : Below w.heap.size w W1 := by rw [← hW1]; exact (Below.refl _ _).alloc (Nat.le_refl _) _
  have T1 : Blk w.heap.size [.int .i64 0, .slice none 0 0] W1 := by rw [← hW1]; exact Blk.new _ _ _
  obtain ⟨VF, hVF⟩ : ∃ V, W1.setCells w.heap.size 0 [.int .i64 (-1), .slice none 0 0] = V := ⟨_, rfl⟩
  have TF : Blk w.heap.size [.int .i64 (-1), .slice none 0 0] VF := by rw [← hVF]; exact T1.sets _ rfl
  have BF : Below w.heap.size w VF := by rw [← hVF]; exact below_sets (Nat.le_refl _) _ _ _ B1
  go_enter Try.func49, Try.ntmps49
  go_wp2_with (first | (refine wpList_stB 82 _ _ w.heap.size 0 _ [.int .i64 (-1), .slice none 0 0] ie hie T1 his.symm (by simp) rfl rfl rfl rfl rfl ?_; rw [hVF]) | go_in)
  exact bodyPost_ret (res_B1 rfl _ _ w.heap.size [.int .i64 (-1), .slice none 0 0] ie hie (Try.isAgg82) TF his.symm rfl) rfl ⟨rfl, BF⟩
theorem nil_row {w : World} {B e s n c : Nat} {a : Option Addr} {xs : List Value} (h : w.ownsRow B e s (.slice a n c) n xs) (ha : a = none) : c = 0 := by
  rcases h.2 with ⟨e, _⟩ | ⟨g, cap, cur, e, _⟩
  · injection e
  · injection e with e1; rw [ha] at e1; cases e1
theorem nil_own {B : Nat} {w : World} {c : TF} (h : OwF B w c) : NilF c := ⟨nil_row h.1, nil_row h.2.1, nil_row h.2.2.1, nil_row h.2.2.2⟩
theorem grow_over {a u v : World} {p : Nat} {r : Option Nat} (h : a.grownBy u (some p)) (k : u.grownBy v r) (hr : ∀ q, r = some q → a.heap.size ≤ q) : a.grownBy v (some p) :=
  ⟨k.os.trans h.os, k.tape.trans h.tape, k.output.trans h.output, Nat.le_trans h.size k.size, fun q hq hp => (k.block q (Nat.lt_of_lt_of_le hq h.size) (fun e => by have := hr q e.symm; omega)).trans (h.block q hq hp)⟩
theorem below_grown {u v : World} {r : Option Nat} (h : Below u.heap.size u v) : u.grownBy v r := ⟨h.os, h.tape, h.output, h.size, fun k hk _ => h.block k hk⟩
theorem ow_low {B : Nat} {w : World} {y : TF} (h : OwF B w y) : ∀ v ∈ cF y, ∀ k, v.ownBlock = some k → B ≤ k := by
  intro v hv k hk
  obtain ⟨⟨ua, uc, us⟩, ⟨sa, sc, ss⟩, ⟨la, lc, ls⟩, ⟨xa, xc, xs⟩, kk⟩ := y
  obtain ⟨hu, hs, hL, hx⟩ := h
  simp only [cF, List.mem_cons, List.not_mem_nil, or_false] at hv
  rcases hv with rfl | rfl | rfl | rfl | rfl
  · exact (hu.lt k hk).1
  · exact (hs.lt k hk).1
  · exact (World.ownsRow.lt hL k hk).1
  · exact (World.ownsRow.lt hx k hk).1
  · simp [Value.ownBlock] at hk
theorem ow_kept {B : Nat} {w w' : World} {y : TF} {r : Option Nat} (h : OwF B w y) (hg : w.grownBy w' r) (hn : ∀ v ∈ cF y, ∀ k, v.ownBlock = some k → ¬ r = some k) : OwF B w' y :=
  ⟨own_kept h.1 hg (hn _ (by simp [cF])), own_kept h.2.1 hg (hn _ (by simp [cF])), own_kept h.2.2.1 hg (hn _ (by simp [cF])), own_kept h.2.2.2 hg (hn _ (by simp [cF]))⟩
end Go.Proofs.Ytflajkbbggmdjaa.Nd
