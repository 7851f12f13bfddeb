/- Acts put behind. -/
import Derived.Test.YtflajkbbggmdjaaFw1
import Derived.Test.YtflajkbbggmdjaaNd0
set_option linter.unusedVariables false
set_option maxRecDepth 100000
namespace Go.Proofs.Ytflajkbbggmdjaa
open Go Go.RowKit Go.Joins Own Draw

set_option maxRecDepth 100000 in
set_option maxHeartbeats 3200000 in
theorem put_is (g : Nat) (xs ys : List TA) (a m : Option Addr) (cap mc : Nat) (w : World) (T : Blk g [.slice a xs.length cap] w) (ho : FOwn 71 9 cA (g + 1) a cap xs w) (hr : FRow 9 cA w m ys) (hl : xs.length + ys.length ≤ 1000) :
    Calls Try.prog 43 #[.slice m ys.length mc, .pointer (some ⟨g, 0, none⟩)] w fun en w' => (∃ v, en = .returned v) ∧ ∃ (a' : Option Addr) (cap' : Nat), Blk g [.slice a' (xs ++ ys).length cap'] w' ∧ FOwn 71 9 cA (g + 1) a' cap' (xs ++ ys) w' ∧ Below g w w' := by
  obtain ⟨i0, hi, hz0, hz1, hz2⟩ := info_parts info71
  have hsz := T.lt
  have d0 := T.at 0 rfl
  have f0 := T.fz 0 rfl
  have hnw := news_fl lA (by omega) hr
  have hnn := frow_nil hr
  go_enter Try.func43, Try.ntmps43
  go_wp2_with (first | (at_builtin; refine wpList_append_row _ rfl _ _ 36 rfl (g + 1) 71 i0 _ 9 80 Try.underlying36 hi hz0 hz1 hz2 rfl (by decide) _ _ _ rfl ho m ys.length mc (fl cA ys) rfl ?c1 hnw (one_acts ys) ?c3 ?c4 ?c5 hnn ?_) | go_in)
  case c1 => rw [fl_len lA]
  case c3 => unfold maxLen; omega
  case c4 => omega
  case c5 => omega
  intro vA wA ownA hgA
  obtain ⟨na, nc, rfl, _⟩ := own_shape ownA
  have hob : ∀ k, (Value.slice a xs.length cap).ownBlock = some k → g + 1 ≤ k := fun k hk => (World.ownsRow.lt ho k hk).1
  have TA : Blk g [.slice a xs.length cap] wA := T.only3 hgA (fun h => by have := hob _ h; omega) hsz
  have hbA : Below g w wA := (Below.refl g w).grown hgA (by omega) (by intro k hk; have := hob _ hk; omega)
  have hlen : xs.length + ys.length = (xs ++ ys).length := by rw [List.length_append]
  rw [hlen] at ownA ⊢
  replace ownA : FOwn 71 9 cA (g + 1) na nc (xs ++ ys) wA := by unfold FOwn; rw [← fl_app]; exact ownA
  obtain ⟨zs, hz⟩ : ∃ zs, zs = xs ++ ys := ⟨_, rfl⟩
  rw [← hz] at ownA ⊢
  have HZ : Hid (zs = xs ++ ys) := hz
  clear hz
  clear T d0 f0 hnw hnn hgA hob hlen ho hr
  have d0 := TA.at 0 rfl
  have f0 := TA.fz 0 rfl
  have TB : Blk g [.slice na zs.length nc] (wA.setCell ⟨g, 0, none⟩ (.slice na zs.length nc)) := TA.set 0 _
  have hbB : Below g w (wA.setCell ⟨g, 0, none⟩ (.slice na zs.length nc)) := hbA.setCell (Nat.le_refl _) _
  have ownB : FOwn 71 9 cA (g + 1) na nc zs (wA.setCell ⟨g, 0, none⟩ (.slice na zs.length nc)) := Nd.own_far ownA (Nd.set_grown _ _ _ _) (by omega)
  clear TA hbA ownA
  go_wp2
  go_end0
  rw [← HZ.out]
  exact ⟨⟨_, rfl⟩, na, nc, TB, ownB, hbB⟩
end Go.Proofs.Ytflajkbbggmdjaa
