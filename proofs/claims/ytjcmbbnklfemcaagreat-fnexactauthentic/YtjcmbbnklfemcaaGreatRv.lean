/- A row turned round. -/
import Derived.Test.YtjcmbbnklfemcaaGreatPl
import Derived.Test.YtjcmbbnklfemcaaGreatBk
set_option linter.unusedVariables false
set_option maxRecDepth 100000
namespace Go.Proofs.YtjcmbbnklfemcaaGreat.Nd
open Go Go.RowKit Go.Joins Own Draw

/-- A row after k exchanges from both ends. -/
def Hlf (ys zs : List Int) (k : Nat) : Prop := ∃ e : zs.length = ys.length, ∀ t (h : t < ys.length), zs[t] = if t < k ∨ ys.length - k ≤ t then ys[ys.length - 1 - t] else ys[t]
theorem Hlf.zero (ys : List Int) : Hlf ys ys 0 := ⟨rfl, fun t h => by rw [if_neg (by omega)]⟩
theorem Hlf.step {ys zs : List Int} {k : Nat} (h : Hlf ys zs k) (hk : k < ys.length - 1 - k) (h1 : k < zs.length) (h2 : ys.length - 1 - k < zs.length) : Hlf ys ((zs.set k zs[ys.length - 1 - k]).set (ys.length - 1 - k) zs[k]) (k + 1) := by
  obtain ⟨e, h⟩ := h
  refine ⟨by simp [e], fun t ht => ?_⟩
  rw [List.getElem_set]
  by_cases e1 : ys.length - 1 - k = t
  · subst e1
    rw [if_pos rfl, if_pos (by omega), h k (by omega), if_neg (by omega)]
    congr 1; omega
  · rw [if_neg e1, List.getElem_set]
    by_cases e2 : k = t
    · subst e2
      rw [if_pos rfl, if_pos (by omega), h _ (by omega), if_neg (by omega)]
    · rw [if_neg e2, h t ht]
      by_cases e3 : t < k ∨ ys.length - k ≤ t
      · rw [if_pos e3, if_pos (by omega)]
      · rw [if_neg e3, if_neg (by omega)]
theorem Hlf.done {ys zs : List Int} {k : Nat} (h : Hlf ys zs k) (hk : ¬ (k : Int) < (ys.length : Int) - 1 - k) : zs = ys.reverse := by
  obtain ⟨e, h⟩ := h
  refine List.ext_getElem (by simp [e]) fun t h1 h2 => ?_
  rw [List.getElem_reverse, h t (by omega)]
  split
  · rfl
  · congr 1; omega
set_option maxRecDepth 100000 in
set_option maxHeartbeats 3200000 in
theorem rev_is (B : Nat) (a : Option Addr) (cap : Nat) (ys : List Int) (w : World) (h : w.ownsRow B 3 1 (.slice a ys.length cap) ys.length (ys.map (Value.int .i64))) (hl : ys.length ≤ 2000000) :
    Calls Tryz.prog 181 #[.slice a ys.length cap] w fun e w' => e = .returned (.tuple #[]) ∧ w'.ownsRow B 3 1 (.slice a ys.length cap) ys.length (ys.reverse.map (Value.int .i64)) ∧ Below B w w' := by
  rcases h.2 with ⟨e, h0⟩ | ⟨g, cap', cur, e, _⟩
  · injection e with e1 e2 e3
    subst e1 e3
    have hy : ys = [] := List.length_eq_zero_iff.1 h0
    subst hy
    go_enter Tryz.func181, Tryz.ntmps181
    go_wp2
    go_loopw [2, 3] (fun i j wr => i = .int .i64 0 ∧ j = .int .i64 (-1) ∧ w = wr) (fun _ _ _ => 0)
    case atStart => exact ⟨rfl, rfl, rfl⟩
    case round =>
      obtain ⟨rfl, rfl, rfl⟩ := hrel
      go_wp2
      go_end0
      exact ⟨rfl, h, Below.refl _ _⟩
  · injection e with e1 e2 e3
    subst e1 e3
    have hG0 : w.grownBy w (some g) := World.grownBy.refl _ _
    have hgB : B ≤ g := (h.lt g rfl).1
    have hBw : B ≤ w.heap.size := by have := (h.lt g rfl).2; omega
    go_enter Tryz.func181, Tryz.ntmps181
    go_wp2
    go_loopw [2, 3] (fun i j wr => ∃ (k : Nat) (zs : List Int), i = .int .i64 k ∧ j = .int .i64 ((ys.length : Int) - 1 - k) ∧ Hlf ys zs k ∧ wr.ownsRow B 3 1 (.slice (some ⟨g, 0, none⟩) ys.length cap) ys.length (zs.map (Value.int .i64)) ∧ w.grownBy wr (some g)) (fun i _ _ => ys.length - (intOf i).toNat)
    case atStart => exact ⟨0, ys, rfl, by simp, Hlf.zero ys, h, hG0⟩
    case round =>
      clear h hG0
      obtain ⟨k, zs, rfl, rfl, hH, hown, hG⟩ := hrel
      by_cases hlt : (k : Int) < (ys.length : Int) - 1 - k
      · have he := hH.1
        obtain ⟨j, hj⟩ : ∃ j : Nat, ys.length - 1 - k = j := ⟨_, rfl⟩
        have hjz : (ys.length : Int) - 1 - k = (j : Int) := by omega
        have hk1 : k < zs.length := by omega
        have hj1 : j < zs.length := by omega
        have H2 := hH.step (by omega) hk1 (by omega)
        have hs0 := hown.stored k (.int .i64 zs[j])
        have hs1 := hs0.1.stored j (.int .i64 zs[k])
        have hs := hs1.1
        have hE : ((zs.map (Value.int .i64)).set k (.int .i64 zs[j])).set j (.int .i64 zs[k]) = ((zs.set k zs[j]).set j zs[k]).map (Value.int .i64) := by rw [List.map_set, List.map_set]
        rw [hE] at hs
        have hG2 := grown_to (grown_to hG hs0.2) hs1.2
        simp only [hj] at H2
        have ck : wr.cell? ⟨g, k, none⟩ = some (.int .i64 zs[k]) := by rw [hown.cellAt _ (by simp; omega)]; simp [hk1]
        have cj : wr.cell? ⟨g, j, none⟩ = some (.int .i64 zs[j]) := by rw [hown.cellAt _ (by simp; omega)]; simp [hj1]
        have fk := hown.frozenAt k
        have fj := hown.frozenAt j
        have hne : ¬ k = j := by omega
        have HR : Hid (∃ (k' : Nat) (zs' : List Int), Value.int .i64 ((k : Int) + 1) = .int .i64 k' ∧ Value.int .i64 ((j : Int) - 1) = .int .i64 ((ys.length : Int) - 1 - k') ∧ Hlf ys zs' k' ∧ ((wr.setCell ⟨g, k, none⟩ (.int .i64 zs[j])).setCell ⟨g, j, none⟩ (.int .i64 zs[k])).ownsRow B 3 1 (.slice (some ⟨g, 0, none⟩) ys.length cap) ys.length (zs'.map (Value.int .i64)) ∧ w.grownBy ((wr.setCell ⟨g, k, none⟩ (.int .i64 zs[j])).setCell ⟨g, j, none⟩ (.int .i64 zs[k])) (some g)) :=
          ⟨k + 1, _, by go_num, by congr 1; omega, H2, hs, hG2⟩
        rw [hjz] at hlt ⊢
        have hk2 : (k : Int) < (ys.length : Int) := by omega
        have hj2 : (j : Int) < (ys.length : Int) := by omega
        have hk3 : (k : Int) ≤ 2000000 := by omega
        have hj3 : (j : Int) ≤ 2000000 := by omega
        generalize zs[k] = x at ck HR
        generalize zs[j] = y at cj HR
        clear hs hs0 hs1 hE hG2 H2 hown hG hH he hk1 hj1 hj hjz hne
        go_wp2_with fail
        go_region
        go_wp2
        go_roundw
        case rel =>
          obtain ⟨k', zs', a1, a2, a3, a4, a5⟩ := HR.out
          exact ⟨k', zs', a1, a2, a3, a4.drew, ⟨a5.os, a5.tape, a5.output, a5.size, a5.block⟩⟩
        case measure => simp [intOf]; omega
      · have hz := hH.done (by omega)
        rw [hz] at hown
        go_wp2
        go_end0
        exact ⟨rfl, by rw [← List.map_reverse]; exact hown, (Below.refl B w).grown hG hBw (fun k e => by cases e; exact hgB)⟩
end Go.Proofs.YtjcmbbnklfemcaaGreat.Nd

set_option linter.unusedVariables false
set_option maxRecDepth 100000
namespace Go.Proofs.YtjcmbbnklfemcaaGreat.Nd
open Go Go.RowKit Go.Joins Own Draw

/-- The iterator made: three boxes and a function value. -/
def Bx3 (w : World) (a : Option Addr) (n cap : Nat) (key : Int) (G : Nat) : World := ((w.alloc (.cells #[.slice a n cap] 45)).alloc (.cells #[.int .i64 key] 3)).alloc (.cells #[.func (.func G) #[] #[]] 189)
theorem bx3_below (w : World) (a : Option Addr) (n cap : Nat) (key : Int) (G : Nat) : Below w.heap.size w (Bx3 w a n cap key G) := (((Below.refl _ w).alloc (Nat.le_refl _) _).alloc (by simp) _).alloc (by simp; omega) _
theorem bx3_size (w : World) (a : Option Addr) (n cap : Nat) (key : Int) (G : Nat) : (Bx3 w a n cap key G).heap.size = w.heap.size + 3 := by unfold Bx3; simp
theorem bx3_cells (w : World) (a : Option Addr) (n cap : Nat) (key : Int) (G : Nat) : (Bx3 w a n cap key G).cell? ⟨w.heap.size, 0, none⟩ = some (.slice a n cap) ∧ (Bx3 w a n cap key G).cell? ⟨w.heap.size + 1, 0, none⟩ = some (.int .i64 key) ∧ (Bx3 w a n cap key G).cell? ⟨w.heap.size + 2, 0, none⟩ = some (.func (.func G) #[] #[]) := by
  have B1 := Blk.new w #[.slice a n cap] 45
  have B2 := Blk.new (w.alloc (.cells #[.slice a n cap] 45)) #[.int .i64 key] 3
  have B3 := Blk.new ((w.alloc (.cells #[.slice a n cap] 45)).alloc (.cells #[.int .i64 key] 3)) #[.func (.func G) #[] #[]] 189
  simp only [World.size_alloc] at B2 B3
  refine ⟨((B1.alloc (by simp) _).alloc (by simp; omega) _).at 0 rfl, (B2.alloc (by simp) _).at 0 rfl, ?_⟩
  exact B3.at 0 rfl
set_option maxRecDepth 100000 in
set_option maxHeartbeats 1600000 in
theorem backwards_is (a : Option Addr) (n cap : Nat) (key : Int) (G : Nat) (w : World) :
    Calls Tryz.prog 149 #[.slice a n cap, .int .i64 key, .func (.func G) #[] #[]] w fun e w' => e = .returned (.func (.func 182) #[] #[.pointer (some ⟨w.heap.size, 0, none⟩), .pointer (some ⟨w.heap.size + 1, 0, none⟩), .pointer (some ⟨w.heap.size + 2, 0, none⟩)]) ∧ Bx3 w a n cap key G = w' := by
  go_enter Tryz.func149, Tryz.ntmps149
  go_wp2
  go_ret
  exact ⟨rfl, rfl⟩
set_option maxRecDepth 100000 in
set_option maxHeartbeats 3200000 in
theorem backFrom_is (Bl Bk Bf : Nat) (key : Int) (hkey : i64 key) (a : Option Addr) (cap : Nat) (xs : List TE) (hl : xs.length ≤ 1048576) (hx : ∀ p ∈ xs, i64 (kyE p)) (hxa : ∀ p ∈ xs, i64 (hoV p).1) (w : World) (hr : FRow 11 cE w a xs) (hBl : Bl < w.heap.size) (hBk : Bk < w.heap.size) (hBf : Bf < w.heap.size) (hcl : w.cell? ⟨Bl, 0, none⟩ = some (.slice a xs.length cap)) (hck : w.cell? ⟨Bk, 0, none⟩ = some (.int .i64 key)) (hcf : w.cell? ⟨Bf, 0, none⟩ = some (.func (.func 150) #[] #[])) :
    Calls Tryz.prog 148 #[.slice a xs.length cap, .func (.func 182) #[] #[.pointer (some ⟨Bl, 0, none⟩), .pointer (some ⟨Bk, 0, none⟩), .pointer (some ⟨Bf, 0, none⟩)]] w fun e w' => ∃ ra rc, e = .returned (.slice ra (frL xs (bwL xs hoV xs.length key true)).length rc) ∧ w'.ownsRow w.heap.size 3 1 (.slice ra (frL xs (bwL xs hoV xs.length key true)).length rc) (frL xs (bwL xs hoV xs.length key true)).length ((frL xs (bwL xs hoV xs.length key true)).map (Value.int .i64)) ∧ Below w.heap.size w w' := by
  have K1 := backCol_is Bl Bk Bf key hkey a cap xs hl hx hxa w hr hBl hBk hBf hcl hck hcf
  have hlen := bwL_len xs hoV xs.length key true
  have hin := bwL_in xs hoV xs.length key true
  generalize bwL xs hoV xs.length key true = L at K1 hlen hin ⊢
  go_enter Tryz.func148, Tryz.ntmps148
  go_wp2_with fail
  refine K1.mono ?_
  clear K1
  rintro en w2 ⟨g, c, rfl, ho, hb2⟩
  go_wp2_with fail
  refine (rev_is _ g c L w2 ho (by omega)).mono ?_
  rintro en w3 ⟨rfl, ho3, hb3⟩
  replace hb2 := hb2.trans hb3
  clear ho hb3
  by_cases hnil : L = []
  · subst hnil
    have HV : Hid (frL xs [] = []) := rfl
    go_wp2
    go_ret
    exact ⟨none, 0, by rw [HV.out]; rfl, by rw [HV.out]; exact ⟨rfl, Or.inl ⟨rfl, rfl⟩⟩, hb2⟩
  · obtain ⟨z, hz⟩ : ∃ z, L.getLast? = some z := by
      cases e : L.getLast? with
      | none => exact absurd (List.getLast?_eq_none_iff.1 e) hnil
      | some z => exact ⟨z, rfl⟩
    obtain ⟨i, rfl, hi⟩ := hin z (List.mem_of_getLast? hz)
    have hpos : 0 < L.length := List.length_pos_iff.2 hnil
    have hr0 : L.reverse[0]? = some (i : Int) := by rw [← hz, ← List.head?_reverse, List.head?_eq_getElem?]
    obtain ⟨g0, c0, hsl, hgc⟩ : ∃ g0 c0, Value.slice g L.length c = .slice (some ⟨g0, 0, none⟩) L.length c0 ∧ w3.cell? ⟨g0, 0, none⟩ = some (.int .i64 (i : Int)) := by
      rcases ho3.2 with ⟨e, h0⟩ | ⟨g0, c0, cur, e, _⟩
      · omega
      · refine ⟨g0, c0, e, ?_⟩
        have h1 := ho3
        rw [e] at h1
        rw [h1.cellAt 0 (by omega), List.getElem?_map, hr0]
        rfl
    obtain ⟨b1, o1, rfl, l1, hcc⟩ := (hr.later hb2) i hi
    have d0 : w3.cell? ⟨b1, o1 + i * 11, none⟩ = some (.int .i64 (kdE xs[i])) := hcc 0 _ rfl
    have hlt : (i : Int) < (xs.length : Int) := by omega
    have hne : ¬ ((L.length : Int) = 0) := by omega
    have hpos2 : (0 : Int) < (L.length : Int) := by omega
    have hi0 : ¬ ((i : Int) < 0) := by omega
    have hfr : frL xs L = if kdE xs[i] = 1 then L.reverse else [] := by
      unfold frL
      rw [hz]
      simp only [isLog_at hi]
      by_cases hk : kdE xs[i] = 1 <;> simp [hk]
    injection hsl with q1 _ q3
    subst q1 q3
    by_cases hk : kdE xs[i] = 1
    · have HV : Hid (frL xs L = L.reverse) := hfr.trans (if_pos hk)
      have hL : L.reverse.length = L.length := List.length_reverse
      replace ho3 : Hid (w3.ownsRow w.heap.size 3 1 (.slice (some ⟨g0, 0, none⟩) L.length c) L.length (L.reverse.map (Value.int .i64))) := ho3
      replace hL : Hid (L.reverse.length = L.length) := hL
      rw [hk] at d0
      clear hfr hcc hr hz hr0 hin hpos
      go_wp2
      go_ret
      exact ⟨some ⟨g0, 0, none⟩, c, by rw [HV.out, hL.out]; rfl, by rw [HV.out, hL.out]; exact ho3.out, hb2⟩
    · have HV : Hid (frL xs L = []) := hfr.trans (if_neg hk)
      have hd : (kdE xs[i] != 1) = true := by simpa using hk
      have hn2 : ((L.length : Int) == 0) = false := beq_eq_false_iff_ne.2 hne
      generalize kdE xs[i] = kd at d0 hd hk
      clear hfr hcc hr hz hr0 hin hpos ho3
      go_wp2
      go_ret
      exact ⟨none, 0, by rw [HV.out]; rfl, by rw [HV.out]; exact ⟨rfl, Or.inl ⟨rfl, rfl⟩⟩, hb2⟩
end Go.Proofs.YtjcmbbnklfemcaaGreat.Nd

set_option linter.unusedVariables false
set_option maxRecDepth 100000
namespace Go.Proofs.YtjcmbbnklfemcaaGreat.Nd
open Go Go.RowKit Go.Joins Own Draw

theorem hoV_i64 {xs : List TE} (h : ∀ p ∈ xs, i64 (paE p) ∧ i64 (evE p)) : ∀ p ∈ xs, i64 (hoV p).1 := by
  intro p hp
  obtain ⟨h1, h2⟩ := h p hp
  unfold hoV awV
  split
  · exact h2
  · split
    · exact h1
    · show i64 0; unfold i64; omega
set_option maxRecDepth 100000 in
set_option maxHeartbeats 1600000 in
theorem implChain_is (a : Option Addr) (cap : Nat) (xs : List TE) (n : Int) (w : World) (hr : FRow 11 cE w a xs) (hl : xs.length ≤ 1048576) (hn : i64 n) (hx : ∀ p ∈ xs, i64 (kyE p) ∧ i64 (paE p) ∧ i64 (evE p)) :
    Calls Tryz.prog 99 #[.slice a xs.length cap, .int .i64 n] w fun en w' => ∃ (ra : Option Addr) (rc : Nat), en = .returned (.slice ra (chainN xs n).length rc) ∧ w'.ownsRow w.heap.size 3 1 (.slice ra (chainN xs n).length rc) (chainN xs n).length ((chainN xs n).map (Value.int .i64)) ∧ Below w.heap.size w w' := by
  rw [chain_bw]
  have KB := backwards_is a xs.length cap n 150 w
  have bX := bx3_below w a xs.length cap n 150
  have sX := bx3_size w a xs.length cap n 150
  obtain ⟨c1, c2, c3⟩ := bx3_cells w a xs.length cap n 150
  have K2 := backFrom_is w.heap.size (w.heap.size + 1) (w.heap.size + 2) n hn a cap xs hl (fun p h => (hx p h).1) (hoV_i64 (fun p h => (hx p h).2)) (Bx3 w a xs.length cap n 150) (hr.later bX) (by omega) (by omega) (by omega) c1 c2 c3
  clear c1 c2 c3 hx hr
  generalize frL xs (bwL xs hoV xs.length n true) = L at K2 ⊢
  generalize Bx3 w a xs.length cap n 150 = V at *
  go_enter Tryz.func99, Tryz.ntmps99
  go_wp2_with fail
  refine KB.mono ?_
  clear KB
  rintro en w1 ⟨rfl, rfl⟩
  go_wp2_with fail
  refine K2.mono ?_
  clear K2
  rintro en w2 ⟨ra, rc, rfl, ho, hb2⟩
  replace ho := ownsRow_le ho bX.size
  replace bX := bX.trans (hb2.mono bX.size)
  clear hb2 sX
  go_wp2
  go_ret
  exact ⟨ra, rc, rfl, ho, bX⟩
end Go.Proofs.YtjcmbbnklfemcaaGreat.Nd
