/- Pairs: what is right of one, how the laws copy and compare them. -/
import Derived.Test.YtflajkbbggmdjaaLinks
import Derived.Test.YtflajkbbggmdjaaDraw
import Derived.OwnWalk
import Derived.Laws.OwnMore
set_option linter.unusedVariables false
namespace Go.Proofs.Ytflajkbbggmdjaa
open Go Go.RowKit Draw

def ulB (a b : Int) : Bool := btw a 0 2 && (btw b 0 2 && !(a == b))
def svB (a b : Int) : Bool := btw a 0 2 && btw b 0 2

/-- The cells from a on hold the row of pairs. -/
def PRow (w : World) (a : Option Addr) (xs : List (Int × Int)) : Prop :=
  ∀ j (h : j < xs.length), ∃ b off, a = some ⟨b, off, none⟩ ∧ b < w.heap.size ∧ w.cell? ⟨b, off + j * 2, none⟩ = some (.int .i64 xs[j].1) ∧ w.cell? ⟨b, off + j * 2 + 1, none⟩ = some (.int .i64 xs[j].2)
theorem PRow.later {w w' : World} {a : Option Addr} {xs : List (Int × Int)} (h : PRow w a xs) (hb : Below w.heap.size w w') : PRow w' a xs := by
  intro j hj
  obtain ⟨b, off, e, hlt, h0, h1⟩ := h j hj
  exact ⟨b, off, e, Nat.lt_of_lt_of_le hlt hb.size, by rw [hb.cell (p := ⟨b, off + j * 2, none⟩) hlt]; exact h0, by rw [hb.cell (p := ⟨b, off + j * 2 + 1, none⟩) hlt]; exact h1⟩
theorem PRow.nil (w : World) (a : Option Addr) : PRow w a [] := by intro j hj; simp at hj
theorem PRow.drew {w : World} {a : Option Addr} {xs : List (Int × Int)} (h : PRow w a xs) : PRow w.drew a xs := h
theorem PRow.take {w : World} {a : Option Addr} {xs : List (Int × Int)} (h : PRow w a xs) (k : Nat) : PRow w a (xs.take k) := by
  intro j hj
  have hj' : j < xs.length := by rw [List.length_take] at hj; omega
  rw [List.getElem_take]
  exact h j hj'

set_option maxRecDepth 100000 in
theorem unlike_is (a b : Int) (w : World) : Calls Try.prog 79 #[pv a b] w fun e w' => e = .returned (.bool (ulB a b)) ∧ Below w.heap.size w w' := by
  have hb0 : Below w.heap.size w (w.alloc (.cells #[.int .i64 a, .int .i64 b] 100)) := (Below.refl _ _).alloc (Nat.le_refl _) _
  go_enter Try.func79, Try.ntmps79
  go_wp2_with fail
  refine (realm_is a _).mono ?_
  rintro e w1 ⟨rfl, rfl⟩
  by_cases h0 : btw a 0 2 = true
  · rw [h0]
    go_wp2_with fail
    refine (realm_is b _).mono ?_
    rintro e w1 ⟨rfl, rfl⟩
    by_cases h1 : btw b 0 2 = true
    · rw [h1]
      go_wp2
      go_ret
      exact ⟨by unfold ulB; rw [h0, h1]; rfl, hb0⟩
    · rw [Bool.not_eq_true] at h1
      rw [h1]
      go_wp2
      go_ret
      exact ⟨by unfold ulB; rw [h0, h1]; rfl, hb0⟩
  · rw [Bool.not_eq_true] at h0
    rw [h0]
    go_wp2
    go_ret
    exact ⟨by unfold ulB; rw [h0]; rfl, hb0⟩
set_option maxRecDepth 100000 in
theorem services_is (a b : Int) (w : World) : Calls Try.prog 80 #[pv a b] w fun e w' => e = .returned (.bool (svB a b)) ∧ Below w.heap.size w w' := by
  have hb0 : Below w.heap.size w (w.alloc (.cells #[.int .i64 a, .int .i64 b] 100)) := (Below.refl _ _).alloc (Nat.le_refl _) _
  go_enter Try.func80, Try.ntmps80
  go_wp2_with fail
  refine (serv_is a _).mono ?_
  rintro e w1 ⟨rfl, rfl⟩
  by_cases h0 : btw a 0 2 = true
  · rw [h0]
    go_wp2_with fail
    refine (serv_is b _).mono ?_
    rintro e w1 ⟨rfl, rfl⟩
    go_wp2
    go_ret
    exact ⟨by unfold svB; rw [h0]; rfl, hb0⟩
  · rw [Bool.not_eq_true] at h0
    rw [h0]
    go_wp2
    go_ret
    exact ⟨by unfold svB; rw [h0]; rfl, hb0⟩
set_option maxRecDepth 100000 in
theorem eqPair_is (a b : Int) (w : World) : Calls Try.prog 81 #[pv a b, pv a b] w fun e w' => e = .returned (.bool true) ∧ Below w.heap.size w w' := by
  have hb0 : Below w.heap.size w ((w.alloc (.cells #[.int .i64 a, .int .i64 b] 100)).alloc (.cells #[.int .i64 a, .int .i64 b] 100)) := ((Below.refl _ _).alloc (Nat.le_refl _) _).alloc (by simp) _
  go_enter Try.func81, Try.ntmps81
  go_wp2
  go_ret
  exact ⟨rfl, hb0⟩
theorem res_p {fn : Func} {p : Tmp} (hres : fn.results = #[.cell p 100]) (tmps : Array Value) (w : World) (g : Nat) (v0 v1 : Value) (hp : tmps.getD p undef = .pointer (some ⟨g, 0, none⟩)) (h0 : w.cell? ⟨g, 0, none⟩ = some v0) (h1 : w.cell? ⟨g, 1, none⟩ = some v1) :
    (results fn tmps).run Try.prog w = .ok (.agg #[v0, v1]) w := by
  have hp' : tmps[p]?.getD undef = .pointer (some ⟨g, 0, none⟩) := by simpa using hp
  unfold results
  rw [hres]
  go_simp
set_option maxRecDepth 100000 in
theorem toPair_is (a b : Int) (w : World) : Calls Try.prog 76 #[pv a b] w fun e w' => e = .returned (pv a b) ∧ Below w.heap.size w w' := by
  have hb0 : Below w.heap.size w (((w.alloc (.cells #[.int .i64 a, .int .i64 b] 103)).alloc (.cells #[.int .i64 a, .int .i64 b] 100)).alloc (.cells #[.int .i64 a, .int .i64 b] 100)) :=
    (((Below.refl _ _).alloc (Nat.le_refl _) _).alloc (by simp) _).alloc (by simp; omega) _
  go_enter Try.func76, Try.ntmps76
  go_wp2
  exact bodyPost_ret (res_p rfl _ _ (w.heap.size + 1) _ _ rfl (by simp [go_sem]) (by simp [go_sem])) rfl ⟨rfl, hb0⟩

/-- The first k pairs of xs stand in the new block g. -/
structure Half (g n k : Nat) (xs : List (Int × Int)) (w : World) : Prop where
  lt : g < w.heap.size
  any : ∀ j, j < n * 2 → ∃ v, w.cell? ⟨g, j, none⟩ = some v
  fz : ∀ j, w.frozen? ⟨g, j, none⟩ = false
  yet : ∀ j (h : j < xs.length), j < k → w.cell? ⟨g, j * 2, none⟩ = some (.int .i64 xs[j].1) ∧ w.cell? ⟨g, j * 2 + 1, none⟩ = some (.int .i64 xs[j].2)
theorem Half.later {g n k : Nat} {xs : List (Int × Int)} {w w' : World} (h : Half g n k xs w) (hb : Below w.heap.size w w') : Half g n k xs w' :=
  ⟨Nat.lt_of_lt_of_le h.lt hb.size, fun j hj => by rw [hb.cell (p := ⟨g, j, none⟩) h.lt]; exact h.any j hj, fun j => by rw [hb.frozen (p := ⟨g, j, none⟩) h.lt]; exact h.fz j,
   fun j hj hk => by rw [hb.cell (p := ⟨g, j * 2, none⟩) h.lt, hb.cell (p := ⟨g, j * 2 + 1, none⟩) h.lt]; exact h.yet j hj hk⟩
theorem Half.set {g n k : Nat} {xs : List (Int × Int)} {w : World} (h : Half g n k xs w) (hk : k < xs.length) (hn : xs.length ≤ n) :
    Half g n (k + 1) xs ((w.setCell ⟨g, k * 2, none⟩ (.int .i64 xs[k].1)).setCell ⟨g, k * 2 + 1, none⟩ (.int .i64 xs[k].2)) := by
  obtain ⟨u0, hu0⟩ := h.any (k * 2) (by omega)
  obtain ⟨u1, hu1⟩ := h.any (k * 2 + 1) (by omega)
  have c1 : (w.setCell ⟨g, k * 2, none⟩ (.int .i64 xs[k].1)).cell? ⟨g, k * 2 + 1, none⟩ = some u1 := by rw [set_other _ _ _ _ _ (by omega)]; exact hu1
  have far : ∀ j, j ≠ k * 2 → j ≠ k * 2 + 1 → ((w.setCell ⟨g, k * 2, none⟩ (.int .i64 xs[k].1)).setCell ⟨g, k * 2 + 1, none⟩ (.int .i64 xs[k].2)).cell? ⟨g, j, none⟩ = w.cell? ⟨g, j, none⟩ := fun j h0 h1 => by
    rw [set_other _ _ _ _ _ (Ne.symm h1), set_other _ _ _ _ _ (Ne.symm h0)]
  have at0 : ((w.setCell ⟨g, k * 2, none⟩ (.int .i64 xs[k].1)).setCell ⟨g, k * 2 + 1, none⟩ (.int .i64 xs[k].2)).cell? ⟨g, k * 2, none⟩ = some (.int .i64 xs[k].1) := by
    rw [set_other _ _ _ _ _ (by omega)]; exact set_same _ _ _ _ _ hu0
  have at1 : ((w.setCell ⟨g, k * 2, none⟩ (.int .i64 xs[k].1)).setCell ⟨g, k * 2 + 1, none⟩ (.int .i64 xs[k].2)).cell? ⟨g, k * 2 + 1, none⟩ = some (.int .i64 xs[k].2) := set_same _ _ _ _ _ c1
  refine ⟨by simpa using h.lt, fun j hj => ?_, fun j => by rw [World.frozen?_setCell, World.frozen?_setCell]; exact h.fz j, fun j hj hk1 => ?_⟩
  · by_cases e0 : j = k * 2
    · subst e0; exact ⟨_, at0⟩
    · by_cases e1 : j = k * 2 + 1
      · subst e1; exact ⟨_, at1⟩
      · rw [far j e0 e1]; exact h.any j hj
  · by_cases e : j = k
    · subst e; exact ⟨at0, at1⟩
    · rw [far _ (by omega) (by omega), far _ (by omega) (by omega)]
      exact h.yet j hj (by omega)
theorem Half.row {g n : Nat} {xs : List (Int × Int)} {w : World} (h : Half g n xs.length xs w) : PRow w (some ⟨g, 0, none⟩) xs := by
  intro j hj
  refine ⟨g, 0, rfl, h.lt, ?_, ?_⟩
  · rw [Nat.zero_add]; exact (h.yet j hj hj).1
  · rw [Nat.zero_add]; exact (h.yet j hj hj).2
theorem infoPair : (Try.prog.info? 100).map (fun i => (i.zero, i.size, i.bytes)) = some (some (.agg #[.int .i64 0, .int .i64 0]), 2, 16) := by kernel_rfl

set_option maxRecDepth 100000 in
set_option maxHeartbeats 1600000 in
theorem toP_is (a : Option Addr) (cap : Nat) (xs : List (Int × Int)) (w : World) (hr : PRow w a xs) (hl : xs.length ≤ 1048576) :
    Calls Try.prog 29 #[.slice a xs.length cap] w fun e w' => e = .returned (.slice (some ⟨w.heap.size, 0, none⟩) xs.length xs.length) ∧ PRow w' (some ⟨w.heap.size, 0, none⟩) xs ∧ w.heap.size < w'.heap.size ∧ Below w.heap.size w w' := by
  obtain ⟨i0, hi, hz0, hz1, hz2⟩ := info_parts infoPair
  go_enter Try.func29, Try.ntmps29
  go_wp2_with (first | (at_make; refine wpList_make_full _ rfl _ _ 28 rfl w.heap.size 100 i0 (.agg #[.int .i64 0, .int .i64 0]) 2 Try.underlying28 hi hz0 hz1 .i64 .i64 xs.length xs.length xs.length rfl rfl rfl rfl (by rw [hz2]; omega) (by unfold maxLen; omega) (Nat.le_refl _) ?_) | go_in)
  intro w1 hown hgrow
  have hbel := (Below.refl w.heap.size w).grown hgrow (Nat.le_refl _) (by simp)
  have hsz := hgrow.size
  have hln := hown.1
  have hF : Half w.heap.size xs.length 0 xs w1 := ⟨(hown.lt _ rfl).2, fun j hj => by
      rw [hown.cellAt j hj]
      exact ⟨_, List.getElem?_eq_getElem (by omega)⟩, fun j => hown.frozenAt j, fun j _ h => absurd h (by omega)⟩
  clear hgrow hown hln
  go_wp2
  go_loopw [4] (fun i wr => ∃ k : Nat, k ≤ xs.length ∧ i = .int .i64 k ∧ Half w.heap.size xs.length k xs wr ∧ Below w.heap.size w wr) (fun i _ => xs.length - (intOf i).toNat)
  case atStart => exact ⟨0, by omega, rfl, hF, hbel⟩
  case round =>
    clear hF hbel hsz
    obtain ⟨k, hk, rfl, hF, hbel⟩ := hrel
    by_cases hlt : k < xs.length
    · obtain ⟨b, off, rfl, hbl, h0, h1⟩ := hr k hlt
      rw [← hbel.cell (p := ⟨b, off + k * 2, none⟩) hbl] at h0
      rw [← hbel.cell (p := ⟨b, off + k * 2 + 1, none⟩) hbl] at h1
      clear hr
      go_wp2_with fail
      refine (toPair_is xs[k].1 xs[k].2 _).mono ?_
      rintro e w2 ⟨rfl, hb2⟩
      have hF2 := hF.later hb2
      have hbel2 := hbel.trans (hb2.mono hbel.size)
      clear h0 h1 hF hbel hb2
      have HS : Hid (∃ k' : Nat, k' ≤ xs.length ∧ Value.int .i64 ((k : Int) + 1) = .int .i64 k' ∧ Half w.heap.size xs.length k' xs ((w2.setCell ⟨w.heap.size, k * 2, none⟩ (.int .i64 xs[k].1)).setCell ⟨w.heap.size, k * 2 + 1, none⟩ (.int .i64 xs[k].2)) ∧ Below w.heap.size w ((w2.setCell ⟨w.heap.size, k * 2, none⟩ (.int .i64 xs[k].1)).setCell ⟨w.heap.size, k * 2 + 1, none⟩ (.int .i64 xs[k].2))) :=
        ⟨k + 1, by omega, by go_num, hF2.set hlt (Nat.le_refl _), (hbel2.setCell (Nat.le_refl _) _).setCell (Nat.le_refl _) _⟩
      obtain ⟨u0, hu0⟩ := hF2.any (k * 2) (by omega)
      obtain ⟨u1, hu1⟩ := hF2.any (k * 2 + 1) (by omega)
      have f0 := hF2.fz (k * 2)
      have f1 := hF2.fz (k * 2 + 1)
      have hlt2 : (k : Int) < (xs.length : Int) := by omega
      clear hF2 hbel2
      generalize xs[k].1 = x at HS
      generalize xs[k].2 = y at HS
      go_wp2
      go_roundw
      case rel => exact HS.out
      case measure => simp [intOf]; omega
    · obtain rfl : k = xs.length := by omega
      go_wp2
      go_ret
      exact ⟨rfl, hF.row, hF.lt, hbel⟩

theorem mem_take_succ {xs : List (Int × Int)} {k : Nat} (hk : k < xs.length) (p : Int × Int) : p ∈ xs.take (k + 1) ↔ p ∈ xs.take k ∨ p = xs[k] := by
  rw [List.take_succ_eq_append_getElem hk, List.mem_append, List.mem_singleton]
set_option maxRecDepth 100000 in
set_option maxHeartbeats 1600000 in
theorem has_is (a : Option Addr) (cap : Nat) (xs : List (Int × Int)) (x y : Int) (w : World) (hr : PRow w a xs) (hl : xs.length ≤ 1048576) :
    Calls Try.prog 75 #[.slice a xs.length cap, pv x y] w fun e w' => e = .returned (.bool (decide ((x, y) ∈ xs))) ∧ Below w.heap.size w w' := by
  go_enter Try.func75, Try.ntmps75
  go_wp2
  go_loopw [5] (fun i wr => ∃ k : Nat, k ≤ xs.length ∧ i = .int .i64 k ∧ (x, y) ∉ xs.take k ∧ Below w.heap.size w wr ∧ Blk w.heap.size [.int .i64 x, .int .i64 y] wr) (fun i _ => xs.length - (intOf i).toNat)
  case atStart => exact ⟨0, by omega, rfl, by simp, (Below.refl _ _).alloc (Nat.le_refl _) _, Blk.new _ _ _⟩
  case round =>
    obtain ⟨k, hk, rfl, hno, hbel, T⟩ := hrel
    have NO : Hid ((x, y) ∉ xs.take k) := hno
    clear hno
    by_cases hlt : k < xs.length
    · obtain ⟨b1, o1, rfl, l1, h0, h1⟩ := hr k hlt
      rw [← hbel.cell (p := ⟨b1, o1 + k * 2, none⟩) l1] at h0
      rw [← hbel.cell (p := ⟨b1, o1 + k * 2 + 1, none⟩) l1] at h1
      have d0 := T.at 0 rfl
      have d1 := T.at 1 rfl
      have hlt2 : (k : Int) < (xs.length : Int) := by omega
      by_cases he : xs[k] = (x, y)
      · have HM : Hid (decide ((x, y) ∈ xs) = true) := decide_eq_true (he ▸ List.getElem_mem hlt)
        rw [he] at h0 h1
        clear he hr NO T
        go_wp2
        go_region
        all_goals
          go_wp2
          go_ret
          exact ⟨by rw [HM.out]; rfl, hbel.drew⟩
      · have NO2 : Hid ((x, y) ∉ xs.take (k + 1)) := fun hm => by
          rcases (mem_take_succ hlt _).1 hm with hm | hm
          · exact NO.out hm
          · exact he hm.symm
        have TD := T.drew
        clear hr NO T
        by_cases e1 : xs[k].1 = x
        · have e2 : ¬ xs[k].2 = y := fun e2 => he (Prod.ext e1 e2)
          rw [e1] at h0
          generalize xs[k].2 = v at h1 e2
          clear he e1
          go_wp2
          go_region
          all_goals
            go_wp2
            go_roundw
            case rel => exact ⟨k + 1, by omega, by go_num, NO2.out, hbel.drew, TD⟩
            case measure => simp [intOf]; omega
        · generalize xs[k].1 = u at h0 e1
          generalize xs[k].2 = v at h1
          clear he
          go_wp2
          go_region
          all_goals
            go_wp2
            go_roundw
            case rel => exact ⟨k + 1, by omega, by go_num, NO2.out, hbel.drew, TD⟩
            case measure => simp [intOf]; omega
    · obtain rfl : k = xs.length := by omega
      have HM : Hid (decide ((x, y) ∈ xs) = false) := decide_eq_false (by have := NO.out; rwa [List.take_length] at this)
      go_wp2
      go_ret
      exact ⟨by rw [HM.out]; rfl, hbel⟩

set_option maxRecDepth 100000 in
set_option maxHeartbeats 1600000 in
theorem eqP_is (a b : Option Addr) (ca cb : Nat) (xs : List (Int × Int)) (w : World) (ha : PRow w a xs) (hb : PRow w b xs) (hl : xs.length ≤ 1048576) :
    Calls Try.prog 32 #[.slice a xs.length ca, .slice b xs.length cb] w fun e w' => e = .returned (.bool true) ∧ Below w.heap.size w w' := by
  go_enter Try.func32, Try.ntmps32
  go_wp2
  go_loopw [5] (fun i wr => ∃ k : Nat, k ≤ xs.length ∧ i = .int .i64 k ∧ Below w.heap.size w wr) (fun i _ => xs.length - (intOf i).toNat)
  case atStart => exact ⟨0, by omega, rfl, Below.refl _ _⟩
  case round =>
    obtain ⟨k, hk, rfl, hbel⟩ := hrel
    by_cases hlt : k < xs.length
    · obtain ⟨b1, o1, rfl, l1, h0, h1⟩ := ha k hlt
      obtain ⟨b2, o2, rfl, l2, g0, g1⟩ := hb k hlt
      have hlt2 : (k : Int) < (xs.length : Int) := by omega
      have m1 : b1 < wr.drew.heap.size := Nat.lt_of_lt_of_le l1 hbel.size
      have m2 : b2 < wr.drew.heap.size := Nat.lt_of_lt_of_le l2 hbel.size
      replace h0 : wr.drew.cell? ⟨b1, o1 + k * 2, none⟩ = _ := (hbel.cell (p := ⟨b1, o1 + k * 2, none⟩) l1).trans h0
      replace h1 : wr.drew.cell? ⟨b1, o1 + k * 2 + 1, none⟩ = _ := (hbel.cell (p := ⟨b1, o1 + k * 2 + 1, none⟩) l1).trans h1
      replace g0 : wr.drew.cell? ⟨b2, o2 + k * 2, none⟩ = _ := (hbel.cell (p := ⟨b2, o2 + k * 2, none⟩) l2).trans g0
      replace g1 : wr.drew.cell? ⟨b2, o2 + k * 2 + 1, none⟩ = _ := (hbel.cell (p := ⟨b2, o2 + k * 2 + 1, none⟩) l2).trans g1
      have BD := hbel.drew
      generalize xs[k].1 = u at h0 g0
      generalize xs[k].2 = v at h1 g1
      clear ha hb
      go_wp2_with fail
      refine wp_region_held_drew (S := (fun V : World => V.cell? ⟨b1, o1 + k * 2, none⟩ = some (.int .i64 u) ∧ V.cell? ⟨b1, o1 + k * 2 + 1, none⟩ = some (.int .i64 v) ∧ V.cell? ⟨b2, o2 + k * 2, none⟩ = some (.int .i64 u) ∧ V.cell? ⟨b2, o2 + k * 2 + 1, none⟩ = some (.int .i64 v))) (by kernel_rfl) ⟨h0, h1, g0, g1⟩ (fun hHeld => ?_)
      refine take_one 0 17 (v := ?_) rfl rfl (by kernel_rfl) (by kernel_rfl) (by kernel_rfl) (fun _ _ _ h => h) (Or.inl ⟨by rfl, ?_⟩) hHeld ?_
      rotate_left
      · intro w' hSw; (try dsimp only at hSw); obtain ⟨c0, c1, c2, c3⟩ := hSw; go_simp; try with_reducible rfl
      try simp only [Act.put, List.setIfInBounds_toArray, List.set_cons_zero, List.set_cons_succ]
      refine take_one 1 18 (v := ?_) rfl rfl (by kernel_rfl) (by kernel_rfl) (by kernel_rfl) (fun _ _ _ h => h) (Or.inl ⟨by rfl, ?_⟩) hHeld ?_
      rotate_left
      · intro w' hSw; (try dsimp only at hSw); obtain ⟨c0, c1, c2, c3⟩ := hSw; go_simp; try with_reducible rfl
      try simp only [Act.put, List.setIfInBounds_toArray, List.set_cons_zero, List.set_cons_succ]
      refine take_one 2 19 (v := ?_) rfl rfl (by kernel_rfl) (by kernel_rfl) (by kernel_rfl) (fun _ _ _ h => h) (Or.inl ⟨by rfl, ?_⟩) hHeld ?_
      rotate_left
      · intro w' hSw; (try dsimp only at hSw); obtain ⟨c0, c1, c2, c3⟩ := hSw; go_simp; try with_reducible rfl
      try simp only [Act.put, List.setIfInBounds_toArray, List.set_cons_zero, List.set_cons_succ]
      refine take_one 3 20 (v := ?_) rfl rfl (by kernel_rfl) (by kernel_rfl) (by kernel_rfl) (fun _ _ _ h => h) (Or.inl ⟨by rfl, ?_⟩) hHeld ?_
      rotate_left
      · intro w' hSw; (try dsimp only at hSw); obtain ⟨c0, c1, c2, c3⟩ := hSw; go_simp; try with_reducible rfl
      try simp only [Act.put, List.setIfInBounds_toArray, List.set_cons_zero, List.set_cons_succ]
      refine take_one 4 21 (v := ?_) rfl rfl (by kernel_rfl) (by kernel_rfl) (by kernel_rfl) (fun _ _ _ h => h) (Or.inl ⟨by rfl, ?_⟩) hHeld ?_
      rotate_left
      · intro w' hSw; (try dsimp only at hSw); obtain ⟨c0, c1, c2, c3⟩ := hSw; go_simp; try with_reducible rfl
      try simp only [Act.put, List.setIfInBounds_toArray, List.set_cons_zero, List.set_cons_succ]
      refine take_one 5 22 (v := ?_) rfl rfl (by kernel_rfl) (by kernel_rfl) (by kernel_rfl) (fun _ _ _ h => h) (Or.inl ⟨by rfl, ?_⟩) hHeld ?_
      rotate_left
      · intro w' hSw; (try dsimp only at hSw); obtain ⟨c0, c1, c2, c3⟩ := hSw; go_simp; try with_reducible rfl
      try simp only [Act.put, List.setIfInBounds_toArray, List.set_cons_zero, List.set_cons_succ]
      refine take_one 6 23 (v := ?_) rfl rfl (by kernel_rfl) (by kernel_rfl) (by kernel_rfl) (fun _ _ _ h => h) (Or.inl ⟨by rfl, ?_⟩) hHeld ?_
      rotate_left
      · intro w' hSw; (try dsimp only at hSw); obtain ⟨c0, c1, c2, c3⟩ := hSw; go_simp; try with_reducible rfl
      try simp only [Act.put, List.setIfInBounds_toArray, List.set_cons_zero, List.set_cons_succ]
      refine take_one 7 24 (v := ?_) rfl rfl (by kernel_rfl) (by kernel_rfl) (by kernel_rfl) (fun _ _ _ h => h) (Or.inl ⟨by rfl, ?_⟩) hHeld ?_
      rotate_left
      · intro w' hSw; (try dsimp only at hSw); obtain ⟨c0, c1, c2, c3⟩ := hSw; go_simp; try with_reducible rfl
      try simp only [Act.put, List.setIfInBounds_toArray, List.set_cons_zero, List.set_cons_succ]
      refine wpAnyH_ready (rs := [8]) (by kernel_rfl) (by simp) ?_
      refine AllReadyH.cons (i := 8) rfl (fun K hK => ?_) AllReadyH.nil
      go_simp
      refine (eqPair_is u v _).mono ?_
      rintro e w2 ⟨rfl, hb2⟩
      go_wp2_with fail
      refine hK.out _ _ ⟨(hb2.cell (p := ⟨b1, o1 + k * 2, none⟩) m1).trans h0, (hb2.cell (p := ⟨b1, o1 + k * 2 + 1, none⟩) m1).trans h1, (hb2.cell (p := ⟨b2, o2 + k * 2, none⟩) m2).trans g0, (hb2.cell (p := ⟨b2, o2 + k * 2 + 1, none⟩) m2).trans g1⟩ (fun hHeld2 => ?_)
      clear hK K hHeld
      have hHeld := hHeld2
      clear hHeld2
      try simp only [Act.put, List.setIfInBounds_toArray, List.set_cons_zero, List.set_cons_succ]
      refine take_one 9 26 (v := ?_) rfl rfl (by kernel_rfl) (by kernel_rfl) (by kernel_rfl) (fun _ _ _ h => h) (Or.inl ⟨by rfl, ?_⟩) hHeld ?_
      rotate_left
      · intro w' hSw; (try dsimp only at hSw); obtain ⟨c0, c1, c2, c3⟩ := hSw; go_simp; try with_reducible rfl
      try simp only [Act.put, List.setIfInBounds_toArray, List.set_cons_zero, List.set_cons_succ]
      refine wpAnyH_done (by kernel_rfl) ?_ _
      have B2 := BD.trans (hb2.mono BD.size)
      clear hHeld h0 h1 g0 g1
      go_wp2
      go_roundw
      case rel => exact ⟨k + 1, by omega, by go_num, B2⟩
      case measure => simp [intOf]; omega
    · go_wp2
      go_ret
      exact ⟨rfl, hbel⟩

set_option maxRecDepth 100000 in
theorem szP_is (a : Option Addr) (l cap : Nat) (n : Nat) (w : World) (hn : n ≤ 1048576) (hl : l ≤ maxLen) :
    Calls Try.prog 24 #[.slice a l cap, .int .i64 n] w fun en w' => en = .returned (.int .i64 (if l ≤ n then ((n - l : Nat) : Int) else -1)) ∧ w = w' := by
  unfold maxLen at hl
  by_cases h : l ≤ n
  · have hd : ¬ ((n : Int) - (l : Int) < 0) := by omega
    have hw : ((n : Int) - (l : Int)) = ((n - l : Nat) : Int) := by omega
    rw [if_pos h]
    go_enter Try.func24, Try.ntmps24
    go_wp2
    go_ret
    exact ⟨by rw [← hw]; rfl, rfl⟩
  · have hd : ((n : Int) - (l : Int) < 0) := by omega
    rw [if_neg h]
    go_enter Try.func24, Try.ntmps24
    go_wp2
    go_ret
    exact ⟨rfl, rfl⟩
end Go.Proofs.Ytflajkbbggmdjaa
