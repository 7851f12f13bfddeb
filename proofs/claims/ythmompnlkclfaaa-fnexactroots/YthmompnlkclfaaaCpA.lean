/- The chain of a key: the program. -/
import Derived.Test.YthmompnlkclfaaaCoA
import Derived.Test.YthmompnlkclfaaaRv
set_option linter.unusedVariables false
set_option maxRecDepth 100000
namespace Go.Proofs.Ythmompnlkclfaaa
open Go Go.RowKit Go.Joins Own Draw

/-- The iterator made: three boxes and a function value. -/
def Bx3 (w : World) (a : Option Addr) (n cap : Nat) (key : Int) (G : Nat) : World := ((w.alloc (.cells #[.slice a n cap] 25)).alloc (.cells #[.int .i64 key] 3)).alloc (.cells #[.func (.func G) #[] #[]] 60)
theorem bx3_below (w : World) (a : Option Addr) (n cap : Nat) (key : Int) (G : Nat) : Below w.heap.size w (Bx3 w a n cap key G) := (((Below.refl _ w).alloc (Nat.le_refl _) _).alloc (by simp) _).alloc (by simp; omega) _
theorem bx3_size (w : World) (a : Option Addr) (n cap : Nat) (key : Int) (G : Nat) : (Bx3 w a n cap key G).heap.size = w.heap.size + 3 := by unfold Bx3; simp
theorem bx3_cells (w : World) (a : Option Addr) (n cap : Nat) (key : Int) (G : Nat) : (Bx3 w a n cap key G).cell? ⟨w.heap.size, 0, none⟩ = some (.slice a n cap) ∧ (Bx3 w a n cap key G).cell? ⟨w.heap.size + 1, 0, none⟩ = some (.int .i64 key) ∧ (Bx3 w a n cap key G).cell? ⟨w.heap.size + 2, 0, none⟩ = some (.func (.func G) #[] #[]) := by
  have B1 := Blk.new w #[.slice a n cap] 25
  have B2 := Blk.new (w.alloc (.cells #[.slice a n cap] 25)) #[.int .i64 key] 3
  have B3 := Blk.new ((w.alloc (.cells #[.slice a n cap] 25)).alloc (.cells #[.int .i64 key] 3)) #[.func (.func G) #[] #[]] 60
  simp only [World.size_alloc] at B2 B3
  refine ⟨((B1.alloc (by simp) _).alloc (by simp; omega) _).at 0 rfl, (B2.alloc (by simp) _).at 0 rfl, ?_⟩
  exact B3.at 0 rfl
set_option maxRecDepth 100000 in
set_option maxHeartbeats 1600000 in
theorem backwards_is (a : Option Addr) (n cap : Nat) (key : Int) (G : Nat) (w : World) :
    Calls Try.prog 28 #[.slice a n cap, .int .i64 key, .func (.func G) #[] #[]] w fun e w' => e = .returned (.func (.func 52) #[] #[.pointer (some ⟨w.heap.size, 0, none⟩), .pointer (some ⟨w.heap.size + 1, 0, none⟩), .pointer (some ⟨w.heap.size + 2, 0, none⟩)]) ∧ Bx3 w a n cap key G = w' := by
  go_enter Try.func28, Try.ntmps28
  go_wp2
  go_ret
  exact ⟨rfl, rfl⟩
set_option maxRecDepth 100000 in
set_option maxHeartbeats 3200000 in
theorem backFrom_is (Bl Bk Bf : Nat) (key : Int) (hkey : i64 key) (a : Option Addr) (cap : Nat) (xs : List TE) (hl : xs.length ≤ 1048576) (hx : ∀ p ∈ xs, i64 (kyE p)) (hxa : ∀ p ∈ xs, i64 (awV p).1) (w : World) (hr : FRow 11 cE w a xs) (hBl : Bl < w.heap.size) (hBk : Bk < w.heap.size) (hBf : Bf < w.heap.size) (hcl : w.cell? ⟨Bl, 0, none⟩ = some (.slice a xs.length cap)) (hck : w.cell? ⟨Bk, 0, none⟩ = some (.int .i64 key)) (hcf : w.cell? ⟨Bf, 0, none⟩ = some (.func (.func 41) #[] #[])) :
    Calls Try.prog 27 #[.slice a xs.length cap, .func (.func 52) #[] #[.pointer (some ⟨Bl, 0, none⟩), .pointer (some ⟨Bk, 0, none⟩), .pointer (some ⟨Bf, 0, none⟩)]] w fun e w' => ∃ ra rc, e = .returned (.slice ra (frL xs (bwL xs awV xs.length key true)).length rc) ∧ w'.ownsRow w.heap.size 3 1 (.slice ra (frL xs (bwL xs awV xs.length key true)).length rc) (frL xs (bwL xs awV xs.length key true)).length ((frL xs (bwL xs awV xs.length key true)).map (Value.int .i64)) ∧ Below w.heap.size w w' := by
  have K1 := backCol_is Bl Bk Bf key hkey a cap xs hl hx hxa w hr hBl hBk hBf hcl hck hcf
  have hlen := bwL_len xs awV xs.length key true
  have hin := bwL_in xs awV xs.length key true
  generalize bwL xs awV xs.length key true = L at K1 hlen hin ⊢
  go_enter Try.func27, Try.ntmps27
  go_wp2_with fail
  refine K1.mono ?_
  clear K1
  rintro en w2 ⟨g, c, rfl, ho, hb2⟩
  go_wp2_with fail
  refine (rev_is _ g c L w2 ho (by omega)).mono ?_
  rintro en w3 ⟨rfl, ho3, hb3⟩
  replace hb2 := hb2.trans hb3
  clear ho hb3
  by_cases hnil : L = []
  · subst hnil
    have HV : Hid (frL xs [] = []) := rfl
    go_wp2
    go_ret
    exact ⟨none, 0, by rw [HV.out]; rfl, by rw [HV.out]; exact ⟨rfl, Or.inl ⟨rfl, rfl⟩⟩, hb2⟩
  · obtain ⟨z, hz⟩ : ∃ z, L.getLast? = some z := by
      cases e : L.getLast? with
      | none => exact absurd (List.getLast?_eq_none_iff.1 e) hnil
      | some z => exact ⟨z, rfl⟩
    obtain ⟨i, rfl, hi⟩ := hin z (List.mem_of_getLast? hz)
    have hpos : 0 < L.length := List.length_pos_iff.2 hnil
    have hr0 : L.reverse[0]? = some (i : Int) := by rw [← hz, ← List.head?_reverse, List.head?_eq_getElem?]
    obtain ⟨g0, c0, hsl, hgc⟩ : ∃ g0 c0, Value.slice g L.length c = .slice (some ⟨g0, 0, none⟩) L.length c0 ∧ w3.cell? ⟨g0, 0, none⟩ = some (.int .i64 (i : Int)) := by
      rcases ho3.2 with ⟨e, h0⟩ | ⟨g0, c0, cur, e, _⟩
      · omega
      · refine ⟨g0, c0, e, ?_⟩
        have h1 := ho3
        rw [e] at h1
        rw [h1.cellAt 0 (by omega), List.getElem?_map, hr0]
        rfl
    obtain ⟨b1, o1, rfl, l1, hcc⟩ := (hr.later hb2) i hi
    have d0 : w3.cell? ⟨b1, o1 + i * 11, none⟩ = some (.int .i64 (kdE xs[i])) := hcc 0 _ rfl
    have hlt : (i : Int) < (xs.length : Int) := by omega
    have hne : ¬ ((L.length : Int) = 0) := by omega
    have hpos2 : (0 : Int) < (L.length : Int) := by omega
    have hi0 : ¬ ((i : Int) < 0) := by omega
    have hfr : frL xs L = if kdE xs[i] = 1 then L.reverse else [] := by
      unfold frL
      rw [hz]
      simp only [isLog_at hi]
      by_cases hk : kdE xs[i] = 1 <;> simp [hk]
    injection hsl with q1 _ q3
    subst q1 q3
    by_cases hk : kdE xs[i] = 1
    · have HV : Hid (frL xs L = L.reverse) := hfr.trans (if_pos hk)
      have hL : L.reverse.length = L.length := List.length_reverse
      replace ho3 : Hid (w3.ownsRow w.heap.size 3 1 (.slice (some ⟨g0, 0, none⟩) L.length c) L.length (L.reverse.map (Value.int .i64))) := ho3
      replace hL : Hid (L.reverse.length = L.length) := hL
      rw [hk] at d0
      clear hfr hcc hr hz hr0 hin hpos
      go_wp2
      go_ret
      exact ⟨some ⟨g0, 0, none⟩, c, by rw [HV.out, hL.out]; rfl, by rw [HV.out, hL.out]; exact ho3.out, hb2⟩
    · have HV : Hid (frL xs L = []) := hfr.trans (if_neg hk)
      have hd : (kdE xs[i] != 1) = true := by simpa using hk
      have hn2 : ((L.length : Int) == 0) = false := beq_eq_false_iff_ne.2 hne
      generalize kdE xs[i] = kd at d0 hd hk
      clear hfr hcc hr hz hr0 hin hpos ho3
      go_wp2
      go_ret
      exact ⟨none, 0, by rw [HV.out]; rfl, by rw [HV.out]; exact ⟨rfl, Or.inl ⟨rfl, rfl⟩⟩, hb2⟩
end Go.Proofs.Ythmompnlkclfaaa
