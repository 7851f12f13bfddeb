/- Caches as the laws copy, compare and mark them; a new one, and one that is begun anew. -/
import Derived.Test.YtmiceknaipimiaaMark3
set_option linter.unusedVariables false
namespace Go.Proofs.Ytmiceknaipimiaa
open Go Go.RowKit Go.Joins Own Draw

/-- A Cache: its Quiet, and its row behind a slice. -/
abbrev cv (q : Int) (a : Option Addr) (n cap : Nat) : Value := .agg #[.int .i64 q, .slice a n cap]
theorem res_c {fn : Func} {p : Tmp} (hres : fn.results = #[.cell p 26]) (tmps : Array Value) (w : World) (g : Nat) (v0 v1 : Value) (hp : tmps.getD p undef = .pointer (some ⟨g, 0, none⟩)) (h0 : w.cell? ⟨g, 0, none⟩ = some v0) (h1 : w.cell? ⟨g, 1, none⟩ = some v1) :
    (results fn tmps).run Try.prog w = .ok (.agg #[v0, v1]) w := by
  have hp' : tmps[p]?.getD undef = .pointer (some ⟨g, 0, none⟩) := by simpa using hp
  unfold results
  rw [hres]
  go_simp
/-- What is left of n when so many more are counted. -/
def szV (l n : Nat) : Int := if l ≤ n then ((n - l : Nat) : Int) else -1
set_option maxRecDepth 100000 in
theorem szC_is (q : Int) (a : Option Addr) (l cap : Nat) (w : World) (hl : l ≤ maxLen) :
    Calls Try.prog 15 #[cv q a l cap, .int .i64 1048576] w fun en w' => en = .returned (.int .i64 (szV l 1048576)) ∧ Below w.heap.size w w' := by
  have hb0 : Below w.heap.size w (w.alloc (.cells #[.int .i64 q, .slice a l cap] 38)) := (Below.refl _ _).alloc (Nat.le_refl _) _
  have HX := fun W => szAS_is a l cap 1048576 W (by omega) hl
  unfold szV
  by_cases h : l ≤ 1048576
  · rw [if_pos h]
    simp only [if_pos h] at HX
    have hd : ¬ (((1048576 - l : Nat) : Int) < 0) := by omega
    generalize ((1048576 - l : Nat) : Int) = d at hd HX ⊢
    go_enter Try.func15, Try.ntmps15
    go_wp2_with fail
    refine (HX _).mono ?_
    clear HX
    rintro e w1 ⟨rfl, rfl⟩
    go_wp2
    go_ret
    exact ⟨rfl, hb0⟩
  · rw [if_neg h]
    simp only [if_neg h] at HX
    go_enter Try.func15, Try.ntmps15
    go_wp2_with fail
    refine (HX _).mono ?_
    clear HX
    rintro e w1 ⟨rfl, rfl⟩
    go_wp2
    go_ret
    exact ⟨rfl, hb0⟩

set_option maxRecDepth 100000 in
set_option maxHeartbeats 1600000 in
theorem toC_is (q : Int) (a : Option Addr) (cap : Nat) (xs : List A3) (w : World) (hr : ARow w a xs) (hl : xs.length ≤ 1048576) :
    Calls Try.prog 16 #[cv q a xs.length cap] w fun e w' => ∃ g, e = .returned (cv q (some ⟨g, 0, none⟩) xs.length xs.length) ∧ Own3 w.heap.size (some ⟨g, 0, none⟩) xs.length xs w' ∧ Below w.heap.size w w' := by
  obtain ⟨W, hW⟩ : ∃ W, ((w.alloc (.cells #[.int .i64 q, .slice a xs.length cap] 38)).alloc (.cells #[.int .i64 0, .slice none 0 0] 26)).alloc (.cells #[.int .i64 q, .slice none 0 0] 26) = W := ⟨_, rfl⟩
  have BW : Below w.heap.size w W := by rw [← hW]; exact (((Below.refl _ _).alloc (Nat.le_refl _) _).alloc (by simp) _).alloc (by simp; omega) _
  have sW : Hid (W.heap.size = w.heap.size + 3) := by show _ = _; rw [← hW]; simp
  have T1 : Blk w.heap.size [.int .i64 q, .slice a xs.length cap] W := by rw [← hW]; exact ((Blk.new _ _ _).alloc (by simp) _).alloc (by simp; omega) _
  have T2 : Blk (w.heap.size + 1) [.int .i64 0, .slice none 0 0] W := by
    rw [← hW]; have h := Blk.new (w.alloc (.cells #[.int .i64 q, .slice a xs.length cap] 38)) #[.int .i64 0, .slice none 0 0] 26; rw [World.size_alloc] at h; exact h.alloc (by simp) _
  have T3 : Blk (w.heap.size + 1 + 1) [.int .i64 q, .slice none 0 0] W := by
    rw [← hW]; have h := Blk.new ((w.alloc (.cells #[.int .i64 q, .slice a xs.length cap] 38)).alloc (.cells #[.int .i64 0, .slice none 0 0] 26)) #[.int .i64 q, .slice none 0 0] 26; rw [World.size_alloc, World.size_alloc] at h; exact h
  have c1 := T1.at 1 rfl
  have HX := toAS_is a cap xs W (hr.later BW) hl
  go_enter Try.func16, Try.ntmps16
  go_wp2_with fail
  try rw [hW]
  refine HX.mono ?_
  clear HX
  rintro e w1 ⟨rfl, hown, hb1⟩
  have s1 : Hid (w.heap.size + 3 ≤ w1.heap.size) := by show _ ≤ _; have := sW.out; have := hb1.size; omega
  have k1 := T2.later hb1 (by have := sW.out; omega)
  have k2 := T3.later hb1 (by have := sW.out; omega)
  have b1 := BW.trans (hb1.mono BW.size)
  have e0 := k1.at 0 rfl
  have e1 := k1.at 1 rfl
  have e2 := k2.at 0 rfl
  have e3 := k2.at 1 rfl
  have f0 := k1.fz 0 rfl
  have f1 := k1.fz 1 rfl
  have f3 := k2.fz 1 rfl
  clear hW T1 T2 T3 c1
  have O1 : Own3 W.heap.size (some ⟨W.heap.size, 0, none⟩) xs.length xs (((w1.setCell ⟨w.heap.size + 1 + 1, 1, none⟩ (.slice (some ⟨W.heap.size, 0, none⟩) xs.length xs.length)).setCell ⟨w.heap.size + 1, 0, none⟩ (.int .i64 q)).setCell ⟨w.heap.size + 1, 1, none⟩ (.slice (some ⟨W.heap.size, 0, none⟩) xs.length xs.length)) :=
    ownsRow_setCell_below (ownsRow_setCell_below (ownsRow_setCell_below hown (by show _ < _; have := sW.out; dsimp only; omega) _) (by show _ < _; have := sW.out; dsimp only; omega) _) (by show _ < _; have := sW.out; dsimp only; omega) _
  have B1 : Below w.heap.size w (((w1.setCell ⟨w.heap.size + 1 + 1, 1, none⟩ (.slice (some ⟨W.heap.size, 0, none⟩) xs.length xs.length)).setCell ⟨w.heap.size + 1, 0, none⟩ (.int .i64 q)).setCell ⟨w.heap.size + 1, 1, none⟩ (.slice (some ⟨W.heap.size, 0, none⟩) xs.length xs.length)) :=
    ((b1.setCell (by dsimp only; omega) _).setCell (by dsimp only; omega) _).setCell (by dsimp only; omega) _
  have R : Blk (w.heap.size + 1) [.int .i64 q, .slice (some ⟨W.heap.size, 0, none⟩) xs.length xs.length] (((w1.setCell ⟨w.heap.size + 1 + 1, 1, none⟩ (.slice (some ⟨W.heap.size, 0, none⟩) xs.length xs.length)).setCell ⟨w.heap.size + 1, 0, none⟩ (.int .i64 q)).setCell ⟨w.heap.size + 1, 1, none⟩ (.slice (some ⟨W.heap.size, 0, none⟩) xs.length xs.length)) :=
    ((k1.far (by omega) 1 _).set 0 (.int .i64 q)).set 1 _
  clear hown hb1 b1 k1 k2
  go_wp2
  exact bodyPost_ret (res_c rfl _ _ (w.heap.size + 1) _ _ rfl (R.at 0 rfl) (R.at 1 rfl)) rfl ⟨_, rfl, O1.le BW.size, B1⟩
end Go.Proofs.Ytmiceknaipimiaa
