/- What the iterator hands out, collected. -/
import Derived.Test.YthmompnlkclfaaaBkA
import Derived.RangeFuncNested
import Derived.RangeFuncBound
import Derived.RangeFuncCalls
import Derived.RangeFuncLeaves
import Derived.WalkKit
import Derived.OwnWalkIn
import Derived.TacticsInMore
import Derived.LoopNIn
import Derived.LoopIn
import Derived.Shelf.Abstract
import Derived.Maps.AppendAt
set_option linter.unusedVariables false
set_option maxRecDepth 100000
namespace Go.Proofs.Ythmompnlkclfaaa
open Go Go.RowKit Go.Joins Go.Shelf Own Draw

attribute [local go_sem] Oper.semAt_some
/-- The iterator hands out the chain, from its end on. -/
theorem back_stops (m : Nat) (hm : 4 ≤ m) (Bl Bk Bf : Nat) (key : Int) (hkey : i64 key) (a : Option Addr) (cap : Nat) (xs : List TE) (hl : xs.length ≤ 1048576) (hx : ∀ p ∈ xs, i64 (kyE p)) (hxa : ∀ p ∈ xs, i64 (awV p).1) (w : World) (hr : FRow 11 cE w a xs) (hBl : Bl < w.heap.size) (hBk : Bk < w.heap.size) (hBf : Bf < w.heap.size) (hcl : w.cell? ⟨Bl, 0, none⟩ = some (.slice a xs.length cap)) (hck : w.cell? ⟨Bk, 0, none⟩ = some (.int .i64 key)) (hcf : w.cell? ⟨Bf, 0, none⟩ = some (.func (.func 41) #[] #[])) :
    SeqStopsK Fence.wide m Try.prog 52 #[.pointer (some ⟨Bl, 0, none⟩), .pointer (some ⟨Bk, 0, none⟩), .pointer (some ⟨Bf, 0, none⟩)] (fun x : Int => #[.int .i64 x]) (BW w.heap.size) (fun ys => ys = bwL xs awV xs.length key true) (fun _ => True) xs.length w :=
  fun l J Jx W hW hJ _ hY h0 => back_in m hm l Bl Bk Bf key hkey a cap xs hl hx hxa w hr hBl hBk hBf hcl hck hcf J Jx W hW hJ hY h0
set_option maxRecDepth 100000 in
set_option maxHeartbeats 3200000 in
theorem backApp_in (m : Nat) (hm : 6 ≤ m) (Bl Bk Bf : Nat) (key : Int) (hkey : i64 key) (a : Option Addr) (cap : Nat) (xs : List TE) (hl : xs.length ≤ 1048576) (hx : ∀ p ∈ xs, i64 (kyE p)) (hxa : ∀ p ∈ xs, i64 (awV p).1) (w : World) (hr : FRow 11 cE w a xs) (hBl : Bl < w.heap.size) (hBk : Bk < w.heap.size) (hBf : Bf < w.heap.size) (hcl : w.cell? ⟨Bl, 0, none⟩ = some (.slice a xs.length cap)) (hck : w.cell? ⟨Bk, 0, none⟩ = some (.int .i64 key)) (hcf : w.cell? ⟨Bf, 0, none⟩ = some (.func (.func 41) #[] #[])) :
    CallsIn Fence.wide m Try.prog 74 #[.slice none 0 0, .func (.func 52) #[] #[.pointer (some ⟨Bl, 0, none⟩), .pointer (some ⟨Bk, 0, none⟩), .pointer (some ⟨Bf, 0, none⟩)]] w fun e w' => ∃ g c, e = .returned (.slice g (bwL xs awV xs.length key true).length c) ∧ w'.ownsRow w.heap.size 3 1 (.slice g (bwL xs awV xs.length key true).length c) (bwL xs awV xs.length key true).length ((bwL xs awV xs.length key true).map (Value.int .i64)) ∧ Below w.heap.size w w' := by
  obtain ⟨i0, hi, hz0, hz1, hz2⟩ := info_parts infoInt
  have h1 : 1 ≤ m := by omega
  refine callsIn_of_wp_marks Try.func74 rfl trivial ?_ rfl
  simp only [Try.ntmps74, List.size_toArray, List.length_cons, List.length_nil, Nat.reduceAdd, Nat.reduceSub, Array.replicate_succ, Array.replicate_zero, List.push_toArray, List.append_toArray, List.nil_append, List.cons_append]
  gi_wp2
  have hB0 := Boxed.new w 29 (.slice none 0 0)
  have hb0 : Below w.heap.size w (w.alloc (.cells #[.slice none 0 0] 29)) := (Below.refl _ _).alloc (Nat.le_refl _) _
  refine wpIn_rangeFunc_ownH (α := Int) rfl h1 (gf := 52) (lb := #[.pointer (some ⟨Bl, 0, none⟩), .pointer (some ⟨Bk, 0, none⟩), .pointer (some ⟨Bf, 0, none⟩)]) rfl trivial (enters_of Try.func52 (by kernel_rfl) rfl)
    (back_stops (m - 1) (by omega) Bl Bk Bf key hkey a cap xs hl hx hxa w hr hBl hBk hBf hcl hck hcf) bw_t (bw_b (by simp)) hb0 (fun _ => rfl)
    (fun pre W => (∃ v, Boxed W w.heap.size 29 v ∧ W.ownsRow w.heap.size 3 1 v pre.length (pre.map (Value.int .i64)) ∧ True) ∧ Below w.heap.size w W) (fun _ _ _ => False)
    (OwnFrom.and (Own.from (holdsRow_own w.heap.size w.heap.size 29 3 1 (fun pre : List Int => pre.length) (fun pre => pre.map (Value.int .i64)) (fun _ _ => True)) _) (ownFrom_below (Nat.le_refl _) (by simp)))
    (fun _ _ _ _ _ hs _ _ => hs) ⟨⟨_, hB0, ⟨rfl, Or.inl ⟨rfl, rfl⟩⟩, trivial⟩, hb0⟩
    (fun x a' W => a' = { tmps := #[.slice none 0 0, .func (.func 52) #[] #[.pointer (some ⟨Bl, 0, none⟩), .pointer (some ⟨Bk, 0, none⟩), .pointer (some ⟨Bf, 0, none⟩)], .pointer (some ⟨w.heap.size, 0, none⟩), undef, .slice none 0 0, .int .i64 x, .func (.func 52) #[] #[.pointer (some ⟨Bl, 0, none⟩), .pointer (some ⟨Bk, 0, none⟩), .pointer (some ⟨Bf, 0, none⟩)], .int .i64 x, undef, undef, undef, undef, undef], defers := [] })
    ?ax ?assign ?body ?done ?stop
  case ax =>
    intro x a' s X Y row hs hg hrow
    exact hs
  case assign =>
    rintro l pre x W K ⟨⟨v, hv, hrow, _⟩, hB⟩ hK
    gi_wp2
    exact hK _ _ (KeepsFrom.refl _ _) ⟨Below.refl _ _, KeepsWalks.refl _⟩ ⟨⟨v, hv, hrow, trivial⟩, hB⟩ rfl
  case body =>
    rintro l pre x a' W hlw ⟨r, hr'⟩ ⟨⟨v, hv, hrow, _⟩, hB⟩ rfl hlt
    have c0 := hv.cell
    gi_wp2_with (first | (gi_at_builtin; refine wpListIn_append_own _ rfl _ _ 29 rfl w.heap.size 3 i0 (.int .i64 0) 1 8 Try.underlying29 hi hz0 hz1 hz2 rfl (by decide) _ _ _ rfl (World.ownsRow.alloc hrow _) ⟨W.heap.size, 0, none⟩ 1 1 [.int .i64 x] rfl rfl (cell_one_new _ _ _) ?c2 ?c3 ?c4 ?c5 ?_) | gi_in)
    case c2 => simp [Value.oneCell']
    case c3 => unfold maxLen; omega
    case c4 => omega
    case c5 => have := hB.size; simp; omega
    intro v' w1 hown' hgrow _
    obtain ⟨g', cap', rfl⟩ := ownsRow_succ hown'
    obtain ⟨hv1, hv2, hr2, hk2, hb2⟩ := hv.appended (by decide) hrow hB.size (Nat.le_refl _) hown' hgrow
    have hc1 := hv1.cell
    have hf1 := hv1.frozen
    have hl2 : (pre ++ [x]).length = pre.length + 1 := by simp
    have hm2 : (pre ++ [x]).map (Value.int .i64) = pre.map (Value.int .i64) ++ [.int .i64 x] := by simp
    gi_wp2
    refine ⟨hk2.from _, ⟨hb2, hk2.walks⟩, ⟨_, hv2, ?_, trivial⟩, hB.trans hb2⟩
    rw [hl2, hm2]
    exact hr2
  case done =>
    rintro D ys W hD rfl ⟨⟨v, hv, hrow, _⟩, hB⟩ hK
    have c0 := hv.cell
    obtain ⟨g, c, rfl, _⟩ := own_shape hrow
    gi_wp2
    refine ⟨by simp, .inl ⟨_, _, rfl, run_takeDeferred hK, ?_⟩⟩
    exact ⟨_, results_tmp rfl _ _ _, g, c, rfl, ownsRow_putObj hrow _ hK rfl, hB.trans (belowK_b (w := w) (Nat.le_refl _) W D _ _ (by simp at hD; omega) hK rfl rfl)⟩
  case stop =>
    rintro D c pre W _ _ h _
    exact h.elim
set_option maxRecDepth 100000 in
set_option maxHeartbeats 1600000 in
theorem backCol_is (Bl Bk Bf : Nat) (key : Int) (hkey : i64 key) (a : Option Addr) (cap : Nat) (xs : List TE) (hl : xs.length ≤ 1048576) (hx : ∀ p ∈ xs, i64 (kyE p)) (hxa : ∀ p ∈ xs, i64 (awV p).1) (w : World) (hr : FRow 11 cE w a xs) (hBl : Bl < w.heap.size) (hBk : Bk < w.heap.size) (hBf : Bf < w.heap.size) (hcl : w.cell? ⟨Bl, 0, none⟩ = some (.slice a xs.length cap)) (hck : w.cell? ⟨Bk, 0, none⟩ = some (.int .i64 key)) (hcf : w.cell? ⟨Bf, 0, none⟩ = some (.func (.func 41) #[] #[])) :
    Calls Try.prog 50 #[.func (.func 52) #[] #[.pointer (some ⟨Bl, 0, none⟩), .pointer (some ⟨Bk, 0, none⟩), .pointer (some ⟨Bf, 0, none⟩)]] w fun e w' => ∃ g c, e = .returned (.slice g (bwL xs awV xs.length key true).length c) ∧ w'.ownsRow w.heap.size 3 1 (.slice g (bwL xs awV xs.length key true).length c) (bwL xs awV xs.length key true).length ((bwL xs awV xs.length key true).map (Value.int .i64)) ∧ Below w.heap.size w w' := by
  have K1 := (callsIn_wide (n := 6)).1 (backApp_in 6 (Nat.le_refl _) Bl Bk Bf key hkey a cap xs hl hx hxa w hr hBl hBk hBf hcl hck hcf)
  generalize bwL xs awV xs.length key true = L at K1 ⊢
  go_enter Try.func50, Try.ntmps50
  go_wp2_with fail
  refine K1.mono ?_
  clear K1
  rintro en w2 ⟨g, c, rfl, ho, hb2⟩
  go_wp2
  go_ret
  exact ⟨g, c, rfl, ho, hb2⟩
end Go.Proofs.Ythmompnlkclfaaa
