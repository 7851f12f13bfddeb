/- slices.Grow of nil, slices.Concat of three rows. -/
import Derived.Test.YtkfjpgkpmdbnoaaTd0
import Derived.Test.YtkfjpgkpmdbnoaaAppRow
import Derived.Test.YtkfjpgkpmdbnoaaRg1
import Derived.Lib.AppendZerosOnto
set_option linter.unusedVariables false
set_option maxRecDepth 100000
namespace Go.Proofs.Ytkfjpgkpmdbnoaa
open Go Go.RowKit Go.Joins Own Draw Go.Lib Go.Proofs.Ytkfjpgkpmdbnoaa

theorem zc_size (cs : Array Value) (n : Nat) : (Builtin.zeroCells cs n).size = n * cs.size := by
  first
  | simp [Builtin.zeroCells]
  | (unfold Builtin.zeroCells; induction n with
     | zero => simp
     | succ n ih => simp_all [Nat.add_mul])
set_option maxHeartbeats 3200000 in
theorem grow_none (n : Nat) (hn : n ≤ 2097152) (w : World) :
    Calls Try.prog 75 #[.slice none 0 0, .int .i64 (n : Int)] w fun e w' => ∃ v, e = .returned v ∧ w'.ownsRow w.heap.size 31 3 v 0 [] ∧ Below w.heap.size w w' := by
  have hp : ¬ ((n : Int) < 0) := by omega
  by_cases h0 : n = 0
  · subst h0
    go_enter Try.func75, Try.ntmps75
    go_wp2
    go_ret
    exact ⟨_, rfl, World.ownsRow_nil _ _ _ _, Below.refl _ _⟩
  · have h4 : (n : Int) > 0 := by omega
    obtain ⟨i0, hi0, hz0, hs0, hb0⟩ := info_parts infoS
    have hold : (Builtin.firstCells i0.size 0 (.slice none 0 0)).run Try.prog w.drew = .ok ([] : List Value).toArray w.drew := run_firstCells_none w.drew i0.size 0 0 0
    have hrz : ∀ ty, (Builtin.append_ #[24, 3] ty #[.slice none 0 0, .int .i64 (n : Int)]).run Try.prog w = .ok (.slice (some ⟨w.heap.size, 0, none⟩) (0 + n) (grownCap w (0 + n) 0 31))
        (w.drew.alloc (.cells (([] : List Value).toArray ++ Builtin.zeroCells (Value.agg #[.int .i64 0, .int .i64 0, .int .i64 0]).cells n ++ Builtin.zeroCells (Value.agg #[.int .i64 0, .int .i64 0, .int .i64 0]).cells (grownCap w (0 + n) 0 31 - (0 + n))) 31)) := fun ty =>
      run_append_grow_zeros w 24 3 ty 31 i0 _ .i64 .i64 Try.underlying24 Try.underlying3 hi0 hz0 none 0 0 [] hold n (by omega) (by omega) (by omega) (by omega) (by rw [hb0]; omega) (growslice_fits (by omega) (by rw [hb0]; omega))
    have hge := grownCap_ge w (0 + n) 0 31
    have hle := grownCap_le_maxLen w (0 + n) 0 31 (by unfold maxLen; omega)
    rw [Nat.zero_add] at hrz hge hle
    generalize grownCap w n 0 31 = G at hrz hge hle
    have hown : ∀ X : Array Value, X.size = G * 3 → (w.drew.alloc (.cells X 31)).ownsRow w.heap.size 31 3 (.slice (some ⟨w.heap.size, 0, none⟩) 0 G) 0 [] := fun X hX =>
      ⟨rfl, Or.inr ⟨w.heap.size, G, X, rfl, Nat.le_refl _, (by show (w.heap.push (Obj.cells X 31))[w.heap.size]? = _; exact Array.getElem?_push_size), Nat.zero_le _, hle, hX, by simp⟩⟩
    have hsz : (([] : List Value).toArray ++ Builtin.zeroCells (Value.agg #[.int .i64 0, .int .i64 0, .int .i64 0]).cells n ++ Builtin.zeroCells (Value.agg #[.int .i64 0, .int .i64 0, .int .i64 0]).cells (G - n)).size = G * 3 := by
      have hc : (Value.agg #[.int .i64 0, .int .i64 0, .int .i64 0]).cells.size = 3 := rfl
      rw [Array.size_append, Array.size_append, zc_size, zc_size, hc]
      simp
      omega
    have ho := hown _ hsz
    generalize (([] : List Value).toArray ++ Builtin.zeroCells (Value.agg #[.int .i64 0, .int .i64 0, .int .i64 0]).cells n ++ Builtin.zeroCells (Value.agg #[.int .i64 0, .int .i64 0, .int .i64 0]).cells (G - n)) = X at hrz ho
    have hb : Below w.heap.size w (w.drew.alloc (.cells X 31)) := (Below.refl _ _).drew.alloc (by simp) _
    have hGm : G ≤ 9223372036854775807 := by unfold maxLen at hle; omega
    clear hown hsz hold hi0 hz0
    go_enter Try.func75, Try.ntmps75
    go_wp2_with (at_builtin; refine wpList_append_run _ rfl _ _ _ _ rfl _ _ rfl rfl _ _ (hrz _) ?_)
    go_ret
    exact ⟨_, rfl, ho, hb⟩
set_option maxHeartbeats 6400000 in
theorem concat_is (g : Nat) (pa qa ra : Option Addr) (pc qc rc : Nat) (ps qs rs : List TS) (w : World) (hp : FRow 3 cS w pa ps) (hq : FRow 3 cS w qa qs) (hr : FRow 3 cS w ra rs) (lp : ps.length ≤ 1048576) (lq : qs.length ≤ 1048576) (lr : rs.length ≤ 1048576) (hs : ps.length + qs.length + rs.length ≤ 2097152) (hb : Blk g [.slice pa ps.length pc, .slice qa qs.length qc, .slice ra rs.length rc] w) :
    Calls Try.prog 60 #[.slice (some ⟨g, 0, none⟩) 3 3] w fun e w' => ∃ (a : Option Addr) (c : Nat), e = .returned (.slice a (ps ++ qs ++ rs).length c) ∧ FOwn 31 3 cS w.heap.size a c (ps ++ qs ++ rs) w' ∧ Below w.heap.size w w' := by
  obtain ⟨i0, hi0, hz0, hs0, hb0⟩ := info_parts infoS
  have K0 := grow_none (ps.length + qs.length + rs.length) (by omega) w
  have b0 := hb.at 0 rfl
  have b1 := hb.at 1 rfl
  have b2 := hb.at 2 rfl
  have c0 := b0
  have c1 := b1
  have c2 := b2
  have hp0 := hp
  have hq0 := hq
  have hr0 := hr
  have hgl := hb.lt
  rw [Int.natCast_add, Int.natCast_add] at K0
  go_enter Try.func60, Try.ntmps60
  go_wp2
  go_loopw [3, 11] (fun sz iv wr => wr = w ∧ ((iv = .int .i64 0 ∧ sz = .int .i64 0) ∨ (iv = .int .i64 1 ∧ sz = .int .i64 (ps.length : Int)) ∨ (iv = .int .i64 2 ∧ sz = .int .i64 ((ps.length : Int) + (qs.length : Int))) ∨ (iv = .int .i64 3 ∧ sz = .int .i64 ((ps.length : Int) + (qs.length : Int) + (rs.length : Int))))) (fun _ iv _ => 4 - (intOf iv).toNat)
  case atStart => exact ⟨rfl, Or.inl ⟨rfl, rfl⟩⟩
  case round =>
    obtain ⟨rfl, hrel⟩ := hrel
    rcases hrel with ⟨rfl, rfl⟩ | ⟨rfl, rfl⟩ | ⟨rfl, rfl⟩ | ⟨rfl, rfl⟩
    · clear K0
      have hpos : ¬ ((ps.length : Int) < 0) := by omega
      go_wp2
      go_roundw
      case rel => exact ⟨trivial, Or.inr (Or.inl ⟨rfl, rfl⟩)⟩
      case measure => simp [intOf]
    · clear K0
      have hpos : ¬ ((ps.length : Int) + (qs.length : Int) < 0) := by omega
      go_wp2
      go_roundw
      case rel => exact ⟨trivial, Or.inr (Or.inr (Or.inl ⟨rfl, rfl⟩))⟩
      case measure => simp [intOf]
    · clear K0
      have hpos : ¬ ((ps.length : Int) + (qs.length : Int) + (rs.length : Int) < 0) := by omega
      go_wp2
      go_roundw
      case rel => exact ⟨trivial, Or.inr (Or.inr (Or.inr ⟨rfl, rfl⟩))⟩
      case measure => simp [intOf]
    · obtain ⟨wo, hwo⟩ : ∃ wo, wo = wr := ⟨_, rfl⟩
      subst hwo
      go_wp2_with fail
      refine K0.mono ?_
      clear K0
      rintro en w1 ⟨v, rfl, ho, hB⟩
      obtain ⟨ga, gc, rfl, _⟩ := own_shape ho
      replace b0 := (hB.cell (p := ⟨g, 0, none⟩) hgl).trans b0
      replace b1 := (hB.cell (p := ⟨g, 1, none⟩) hgl).trans b1
      replace b2 := (hB.cell (p := ⟨g, 2, none⟩) hgl).trans b2
      go_wp2
      go_loopw [6, 27] (fun sv iv ww => Below wo.heap.size wo ww ∧ ∃ (a : Option Addr) (c : Nat), (iv = .int .i64 0 ∧ sv = .slice a 0 c ∧ ww.ownsRow wo.heap.size 31 3 sv 0 []) ∨ (iv = .int .i64 1 ∧ sv = .slice a ps.length c ∧ ww.ownsRow wo.heap.size 31 3 sv ps.length (fl cS ps)) ∨ (iv = .int .i64 2 ∧ sv = .slice a (ps.length + qs.length) c ∧ ww.ownsRow wo.heap.size 31 3 sv (ps.length + qs.length) (fl cS ps ++ fl cS qs)) ∨ (iv = .int .i64 3 ∧ sv = .slice a (ps.length + qs.length + rs.length) c ∧ ww.ownsRow wo.heap.size 31 3 sv (ps.length + qs.length + rs.length) (fl cS ps ++ fl cS qs ++ fl cS rs))) (fun _ iv _ => 4 - (intOf iv).toNat)
      case atStart => exact ⟨hB, ga, gc, Or.inl ⟨rfl, rfl, ho⟩⟩
      case round =>
        obtain ⟨hBB, a, c, hcase⟩ := hrel
        have d0 := (hBB.cell (p := ⟨g, 0, none⟩) hgl).trans c0
        have d1 := (hBB.cell (p := ⟨g, 1, none⟩) hgl).trans c1
        have d2 := (hBB.cell (p := ⟨g, 2, none⟩) hgl).trans c2
        clear b0 b1 b2 c0 c1 c2 ho hp hq hr
        rcases hcase with ⟨rfl, rfl, ho2⟩ | ⟨rfl, rfl, ho2⟩ | ⟨rfl, rfl, ho2⟩ | ⟨rfl, rfl, ho2⟩
        · have hx := hp0.later hBB
          clear d1 d2 hp0 hq0 hr0
          go_wp2_with (first | (at_builtin; refine wpList_append_row _ rfl _ _ 24 rfl wo.heap.size 31 i0 _ 3 24 Try.underlying24 hi0 hz0 hs0 hb0 rfl (by decide) _ _ _ rfl ho2 pa ps.length pc (fl cS ps) rfl (fl_len lS _) (frow_news lS (by decide) hx) (one_S _) (by unfold maxLen; omega) (by omega) hBB.size (frow_nil hx) ?_) | fail)
          intro v3 w3 ho3 hg3
          obtain ⟨na, nc, rfl, _⟩ := own_shape ho3
          have hB3 : Below wo.heap.size wo w3 := hBB.grown hg3 hBB.size (fun k e => (World.ownsRow.lt ho2 k e).1)
          try rw [Nat.zero_add] at ho3
          try rw [List.nil_append] at ho3
          try rw [Nat.zero_add]
          go_wp2
          go_roundw
          case rel => exact ⟨hB3, na, nc, Or.inr (Or.inl ⟨rfl, rfl, ho3⟩)⟩
          case measure => simp [intOf]
        · have hx := hq0.later hBB
          clear d0 d2 hp0 hq0 hr0
          go_wp2_with (first | (at_builtin; refine wpList_append_row _ rfl _ _ 24 rfl wo.heap.size 31 i0 _ 3 24 Try.underlying24 hi0 hz0 hs0 hb0 rfl (by decide) _ _ _ rfl ho2 qa qs.length qc (fl cS qs) rfl (fl_len lS _) (frow_news lS (by decide) hx) (one_S _) (by unfold maxLen; omega) (by omega) hBB.size (frow_nil hx) ?_) | fail)
          intro v3 w3 ho3 hg3
          obtain ⟨na, nc, rfl, _⟩ := own_shape ho3
          have hB3 : Below wo.heap.size wo w3 := hBB.grown hg3 hBB.size (fun k e => (World.ownsRow.lt ho2 k e).1)
          go_wp2
          go_roundw
          case rel => exact ⟨hB3, na, nc, Or.inr (Or.inr (Or.inl ⟨rfl, rfl, ho3⟩))⟩
          case measure => simp [intOf]
        · have hx := hr0.later hBB
          clear d0 d1 hp0 hq0 hr0
          go_wp2_with (first | (at_builtin; refine wpList_append_row _ rfl _ _ 24 rfl wo.heap.size 31 i0 _ 3 24 Try.underlying24 hi0 hz0 hs0 hb0 rfl (by decide) _ _ _ rfl ho2 ra rs.length rc (fl cS rs) rfl (fl_len lS _) (frow_news lS (by decide) hx) (one_S _) (by unfold maxLen; omega) (by omega) hBB.size (frow_nil hx) ?_) | fail)
          intro v3 w3 ho3 hg3
          obtain ⟨na, nc, rfl, _⟩ := own_shape ho3
          have hB3 : Below wo.heap.size wo w3 := hBB.grown hg3 hBB.size (fun k e => (World.ownsRow.lt ho2 k e).1)
          go_wp2
          go_roundw
          case rel => exact ⟨hB3, na, nc, Or.inr (Or.inr (Or.inr ⟨rfl, rfl, by first | exact ho3 | (rw [List.append_assoc]; exact ho3)⟩))⟩
          case measure => simp [intOf]
        · clear d0 d1 d2 hp0 hq0 hr0
          go_wp2
          go_ret
          refine ⟨a, c, by rw [List.length_append, List.length_append]; rfl, ?_, hBB⟩
          unfold FOwn
          rw [← fl_app, ← fl_app, List.length_append, List.length_append]
          exact ho2
end Go.Proofs.Ytkfjpgkpmdbnoaa
