/- Marks on rows of any length, and on both rows of what is known. -/
import Derived.Test.YtkekfogepdhjhaaKnow4
set_option linter.unusedVariables false
namespace Go.Proofs.Ytkekfogepdhjhaa
open Go.RowKit Own Var Term

set_option maxRecDepth 100000 in
set_option maxHeartbeats 800000 in
theorem markTextB (n : Nat) (w : World) (h0 : n ≠ 0) (h : n ≤ 2097152) :
    Calls Try.prog 101 #[.int .i64 n] w fun e w' => e = .returned (.string (mt n)) ∧ Below w.heap.size w w' := by
  have hz : ¬ (n : Int) ≤ 0 := by omega
  have hcv := conv_one (P := Try.prog) 22 9 5 Try.underlying22 Try.underlying5 Try.underlying9
  go_enter Try.func101, Try.ntmps101
  go_wp2
  go_loopw [0, 3] (fun a t wr => ∃ (q : Nat) (l : List UInt8), a = .int .i64 q ∧ q ≤ n ∧ t = .string ⟨l.toArray⟩ ∧ l.length + q ≤ n ∧ Hid (decP q ++ l = decP n) ∧ Below w.heap.size w wr) (fun a _ _ => (intOf a).toNat)
  case atStart => exact ⟨n, [], rfl, by omega, rfl, by simp, by show _ = _; simp, Below.refl _ _⟩
  case round =>
    obtain ⟨q, l, rfl, hq, rfl, hl, E, hbel⟩ := hrel
    by_cases h1 : q = 0
    · have hz1 : ¬ (0 : Int) < (q : Int) := by omega
      have E' : Hid ((⟨#[109]⟩ : ByteArray) ++ ⟨l.toArray⟩ = mt n) := by
        have := E.out; rw [h1, decP_zero, List.nil_append] at this
        show _ = _
        rw [text_add, this]; rfl
      clear h1
      go_wp2
      go_ret
      rw [← E'.out]; exact ⟨rfl, hbel⟩
    · have hz1 : (0 : Int) < (q : Int) := by omega
      have E' : Hid (decP (q / 10) ++ (UInt8.ofNat (48 + q % 10) :: l) = decP n) := by have := E.out; rw [text_snoc q l h1] at this; exact this
      have e8 : Hid ((48 : UInt8) + UInt8.ofNat (q % 10) = UInt8.ofNat (48 + q % 10)) := (UInt8.ofNat_add 48 (q % 10)).symm
      clear E
      go_wp2
      go_roundw
      case rel => exact ⟨q / 10, _, by go_num, by omega, by rw [text_add, e8.out], by simp; omega, E', hbel.alloc hbel.size _⟩
      case measure => simp [intOf]; omega

set_option maxRecDepth 100000 in
set_option maxHeartbeats 800000 in
theorem markSB (B g n cap : Nat) (vs : List Value) (w : World) (hn : n ≤ 1048576) (hown : w.ownsRow B 9 1 (.slice (some ⟨g, 0, none⟩) n cap) n vs) :
    Calls Try.prog 68 #[.slice (some ⟨g, 0, none⟩) n cap, .int .i64 1] w fun e w' => e = .returned (.int .i64 ((n : Int) + 1)) ∧ w'.ownsRow B 9 1 (.slice (some ⟨g, 0, none⟩) n cap) n (strV (mtL n)) ∧ w.grownBy w' (some g) := by
  have hvl : vs.length = n := by have := hown.1; simpa using this
  have hg := (hown.lt g rfl).2
  go_enter Try.func68, Try.ntmps68
  go_wp2
  go_loopw [1, 5] (fun a i wr => ∃ k : Nat, k ≤ n ∧ i = .int .i64 k ∧ a = .int .i64 ((k : Int) + 1) ∧ wr.ownsRow B 9 1 (.slice (some ⟨g, 0, none⟩) n cap) n (rowM vs k) ∧ w.grownBy wr (some g)) (fun _ i _ => n - (intOf i).toNat)
  case atStart => exact ⟨0, by omega, rfl, rfl, by rw [rowM_zero]; exact hown, World.grownBy.refl w _⟩
  case round =>
    clear hown
    obtain ⟨k, hk, rfl, rfl, hown, hgr⟩ := hrel
    by_cases hlt : k < n
    · have hM := fun w => markTextB (k + 1) w (by omega) (by omega)
      have e1 : (((k + 1 : Nat) : Nat) : Int) = (k : Int) + 1 := by omega
      rw [e1] at hM
      have HS : Hid ((rowM vs k).set k (.string (mt (k + 1))) = rowM vs (k + 1)) := rowM_set vs k (by omega)
      have hrl := rowM_len vs k (by omega)
      generalize mt (k + 1) = X at hM HS
      go_wp2_with fail
      refine (hM _).mono ?_
      rintro e w1 ⟨rfl, hb1⟩
      have hown1 := own_later hown hb1
      have hgr1 : w.grownBy w1 (some g) := ⟨hb1.os.trans hgr.os, hb1.tape.trans hgr.tape, hb1.output.trans hgr.output, Nat.le_trans hgr.size hb1.size, fun j hj hn => (hb1.block j (Nat.lt_of_lt_of_le hj hgr.size)).trans (hgr.block j hj hn)⟩
      clear hown hgr hb1
      have hto : ∃ v, w1.cell? ⟨g, k, none⟩ = some v := by
        rw [hown1.cellAt _ (by omega)]
        exact ⟨_, List.getElem?_eq_getElem (by omega)⟩
      obtain ⟨v, hto⟩ := hto
      have hfz := hown1.frozenAt k
      have hs := hown1.stored k (.string X)
      rw [HS.out] at hs
      have hgr2 : w.grownBy (w1.setCell ⟨g, k, none⟩ (.string X)) (some g) := ⟨hs.2.os.trans hgr1.os, hs.2.tape.trans hgr1.tape, hs.2.output.trans hgr1.output, Nat.le_trans hgr1.size hs.2.size, fun j hj hn => (hs.2.block j (Nat.lt_of_lt_of_le hj hgr1.size) hn).trans (hgr1.block j hj hn)⟩
      have R : Hid (∃ k' : Nat, k' ≤ n ∧ Value.int .i64 ((k : Int) + 1) = .int .i64 k' ∧ Value.int .i64 ((k : Int) + 1 + 1) = .int .i64 ((k' : Int) + 1) ∧ (w1.setCell ⟨g, k, none⟩ (.string X)).ownsRow B 9 1 (.slice (some ⟨g, 0, none⟩) n cap) n (rowM vs k') ∧ w.grownBy (w1.setCell ⟨g, k, none⟩ (.string X)) (some g)) :=
        ⟨k + 1, by omega, by go_num, by go_num, hs.1, hgr2⟩
      clear hs hgr2 hgr1 hown1 hM
      go_wp2
      go_roundw
      case rel => first | exact R.out | (have R := R.out; (repeat apply Exists.intro); exact ⟨R, rfl⟩)
      case measure => simp [intOf]; omega
    · obtain rfl : k = n := by omega
      have hf := rowM_full vs
      rw [hvl] at hf
      rw [hf] at hown
      go_wp2
      go_ret
      exact ⟨rfl, hown, hgr⟩

set_option maxRecDepth 100000 in
set_option maxHeartbeats 800000 in
theorem heldSB (a : Option Addr) (n cap : Nat) (w : World) (hn : n ≤ 1048576) (hr : RowAt Value.string w a (mtL n)) :
    Calls Try.prog 69 #[.slice a n cap, .int .i64 1] w fun e w' => e = .returned (.int .i64 ((n : Int) + 1)) ∧ Below w.heap.size w w' := by
  go_enter Try.func69, Try.ntmps69
  go_wp2
  go_loopw [1, 5] (fun x i wr => ∃ k : Nat, k ≤ n ∧ i = .int .i64 k ∧ x = .int .i64 ((k : Int) + 1) ∧ Below w.heap.size w wr) (fun _ i _ => n - (intOf i).toNat)
  case atStart => exact ⟨0, by omega, rfl, rfl, Below.refl _ _⟩
  case round =>
    obtain ⟨k, hk, rfl, rfl, hbel⟩ := hrel
    by_cases hlt : k < n
    · obtain ⟨b, off, rfl, hbl, hcell⟩ := hr k (by rw [mtL_len]; exact hlt)
      have hx : (mtL n)[k]'(by rw [mtL_len]; exact hlt) = mt (k + 1) := by simp [mtL]
      rw [hx, ← hbel.cell (p := ⟨b, off + k, none⟩) hbl] at hcell
      have hM := fun w => markTextB (k + 1) w (by omega) (by omega)
      have e1 : (((k + 1 : Nat) : Nat) : Int) = (k : Int) + 1 := by omega
      rw [e1] at hM
      generalize mt (k + 1) = X at hM hcell
      have hbl2 := Nat.lt_of_lt_of_le hbl hbel.size
      go_wp2
      go_region_with (go_at_call 101; refine (hM _).mono ?_; rintro e w3 ⟨rfl, hb3⟩; have hc3 := (hb3.cell (p := ⟨b, off + k, none⟩) hbl2).trans hcell)
      all_goals
        go_wp2
        go_roundw
        case rel => exact ⟨k + 1, by omega, by go_num, by go_num, hbel.trans ((Below.drew (Below.refl _ _)).trans hb3 |>.mono hbel.size)⟩
        case measure => simp [intOf]; omega
    · obtain rfl : k = n := by omega
      go_wp2
      go_ret
      exact ⟨rfl, hbel⟩

/-- The marks of a row of numbers, from K on. -/
def miK (K n : Nat) : List Int := (List.range n).map fun (i : Nat) => ((K : Int) + (i : Int) + 1)
def rowK (K : Nat) (vs : List Value) (k : Nat) : List Value := intV (miK K k) ++ vs.drop k
theorem miK_len (K n : Nat) : (miK K n).length = n := by simp [miK]
theorem rowK_zero (K : Nat) (vs : List Value) : rowK K vs 0 = vs := by simp [rowK, miK, intV]
theorem rowK_full (K : Nat) (vs : List Value) : rowK K vs vs.length = intV (miK K vs.length) := by simp [rowK]
theorem rowK_len (K : Nat) (vs : List Value) (k : Nat) (h : k ≤ vs.length) : (rowK K vs k).length = vs.length := by
  unfold rowK intV; rw [List.length_append, List.length_map, miK_len, List.length_drop]; omega
theorem rowK_set (K : Nat) (vs : List Value) (k : Nat) (h : k < vs.length) : (rowK K vs k).set k (.int .i64 ((K : Int) + (k : Int) + 1)) = rowK K vs (k + 1) := by
  unfold rowK intV
  rw [List.set_append_right _ _ (by rw [List.length_map, miK_len]; exact Nat.le_refl _), List.length_map, miK_len, Nat.sub_self, List.drop_eq_getElem_cons h]
  unfold miK
  rw [List.range_succ, List.map_append, List.map_append, List.append_assoc]
  rfl

set_option maxRecDepth 100000 in
set_option maxHeartbeats 800000 in
theorem markIB (B g n cap : Nat) (vs : List Value) (w : World) (K : Nat) (hK : K ≤ 1048576) (hn : n ≤ 1048576) (hown : w.ownsRow B 3 1 (.slice (some ⟨g, 0, none⟩) n cap) n vs) :
    Calls Try.prog 34 #[.slice (some ⟨g, 0, none⟩) n cap, .int .i64 ((K : Int) + 1)] w fun e w' => e = .returned (.int .i64 ((K : Int) + (n : Int) + 1)) ∧ w'.ownsRow B 3 1 (.slice (some ⟨g, 0, none⟩) n cap) n (intV (miK K n)) ∧ w.grownBy w' (some g) := by
  have hvl : vs.length = n := by have := hown.1; simpa using this
  have hg := (hown.lt g rfl).2
  go_enter Try.func34, Try.ntmps34
  go_wp2
  go_loopw [1, 5] (fun a i wr => ∃ k : Nat, k ≤ n ∧ i = .int .i64 k ∧ a = .int .i64 ((K : Int) + (k : Int) + 1) ∧ wr.ownsRow B 3 1 (.slice (some ⟨g, 0, none⟩) n cap) n (rowK K vs k) ∧ w.grownBy wr (some g)) (fun _ i _ => n - (intOf i).toNat)
  case atStart => exact ⟨0, by omega, rfl, by simp, by rw [rowK_zero]; exact hown, World.grownBy.refl w _⟩
  case round =>
    clear hown
    obtain ⟨k, hk, rfl, rfl, hown1, hgr1⟩ := hrel
    by_cases hlt : k < n
    · have HS : Hid ((rowK K vs k).set k (.int .i64 ((K : Int) + (k : Int) + 1)) = rowK K vs (k + 1)) := rowK_set K vs k (by omega)
      have hrl := rowK_len K vs k (by omega)
      have hto : ∃ v, wr.cell? ⟨g, k, none⟩ = some v := by
        rw [hown1.cellAt _ (by omega)]
        exact ⟨_, List.getElem?_eq_getElem (by omega)⟩
      obtain ⟨v, hto⟩ := hto
      have hfz := hown1.frozenAt k
      have hs := hown1.stored k (.int .i64 ((K : Int) + (k : Int) + 1))
      rw [HS.out] at hs
      have hgr2 : w.grownBy (wr.setCell ⟨g, k, none⟩ (.int .i64 ((K : Int) + (k : Int) + 1))) (some g) := ⟨hs.2.os.trans hgr1.os, hs.2.tape.trans hgr1.tape, hs.2.output.trans hgr1.output, Nat.le_trans hgr1.size hs.2.size, fun j hj hn => (hs.2.block j (Nat.lt_of_lt_of_le hj hgr1.size) hn).trans (hgr1.block j hj hn)⟩
      have R : Hid (∃ k' : Nat, k' ≤ n ∧ Value.int .i64 ((k : Int) + 1) = .int .i64 k' ∧ Value.int .i64 ((K : Int) + (k : Int) + 1 + 1) = .int .i64 ((K : Int) + (k' : Int) + 1) ∧ (wr.setCell ⟨g, k, none⟩ (.int .i64 ((K : Int) + (k : Int) + 1))).ownsRow B 3 1 (.slice (some ⟨g, 0, none⟩) n cap) n (rowK K vs k') ∧ w.grownBy (wr.setCell ⟨g, k, none⟩ (.int .i64 ((K : Int) + (k : Int) + 1))) (some g)) :=
        ⟨k + 1, by omega, by go_num, by go_num, hs.1, hgr2⟩
      clear hs hgr2 hgr1 hown1
      go_wp2
      go_roundw
      case rel => first | exact R.out | (have R := R.out; (repeat apply Exists.intro); exact ⟨R, rfl⟩)
      case measure => simp [intOf]; omega
    · obtain rfl : k = n := by omega
      have hf := rowK_full K vs
      rw [hvl] at hf
      rw [hf] at hown1
      go_wp2
      go_ret
      exact ⟨rfl, hown1, hgr1⟩

set_option maxRecDepth 100000 in
set_option maxHeartbeats 800000 in
theorem heldIB (a : Option Addr) (n cap : Nat) (w : World) (K : Nat) (hK : K ≤ 1048576) (hn : n ≤ 1048576) (hr : RowAt (Value.int .i64) w a (miK K n)) :
    Calls Try.prog 35 #[.slice a n cap, .int .i64 ((K : Int) + 1)] w fun e w' => e = .returned (.int .i64 ((K : Int) + (n : Int) + 1)) ∧ Below w.heap.size w w' := by
  go_enter Try.func35, Try.ntmps35
  go_wp2
  go_loopw [1, 5] (fun x i wr => ∃ k : Nat, k ≤ n ∧ i = .int .i64 k ∧ x = .int .i64 ((K : Int) + (k : Int) + 1) ∧ Below w.heap.size w wr) (fun _ i _ => n - (intOf i).toNat)
  case atStart => exact ⟨0, by omega, rfl, by simp, Below.refl _ _⟩
  case round =>
    obtain ⟨k, hk, rfl, rfl, hbel⟩ := hrel
    by_cases hlt : k < n
    · obtain ⟨b, off, rfl, hbl, hcell⟩ := hr k (by rw [miK_len]; exact hlt)
      have hx : (miK K n)[k]'(by rw [miK_len]; exact hlt) = (K : Int) + (k : Int) + 1 := by simp [miK]
      rw [hx, ← hbel.cell (p := ⟨b, off + k, none⟩) hbl] at hcell
      go_wp2
      go_roundw
      case rel => exact ⟨k + 1, by omega, by go_num, by go_num, hbel⟩
      case measure => simp [intOf]; omega
    · obtain rfl : k = n := by omega
      go_wp2
      go_ret
      exact ⟨rfl, hbel⟩
end Go.Proofs.Ytkekfogepdhjhaa

set_option linter.unusedVariables false
namespace Go.Proofs.Ytkekfogepdhjhaa
open Go.RowKit Own Var Term

/-- All blocks but two are as they were. -/
def Turn2 (w w' : World) (o1 o2 : Option Nat) : Prop :=
  w'.os = w.os ∧ w'.tape = w.tape ∧ w'.output = w.output ∧ w.heap.size ≤ w'.heap.size ∧ ∀ k, k < w.heap.size → some k ≠ o1 → some k ≠ o2 → w'.heap[k]? = w.heap[k]?
theorem Turn2.below {w w' : World} {o1 o2 : Option Nat} {B : Nat} (h : Turn2 w w' o1 o2) (h1 : ∀ k, o1 = some k → B ≤ k) (h2 : ∀ k, o2 = some k → B ≤ k) (hB : B ≤ w.heap.size) : Below B w w' :=
  ⟨h.1, h.2.1, h.2.2.1, h.2.2.2.1, fun k hk => h.2.2.2.2 k (Nat.lt_of_lt_of_le hk hB) (fun e => by have := h1 k e.symm; omega) (fun e => by have := h2 k e.symm; omega)⟩
theorem Turn2.own {w w' : World} {o1 o2 : Option Nat} {base : Nat} {e : TypeId} {sz n : Nat} {v : Value} {xs : List Value} (h : Turn2 w w' o1 o2) (ho : w.ownsRow base e sz v n xs) (h1 : ∀ k, v.ownBlock = some k → some k ≠ o1 ∧ some k ≠ o2) : w'.ownsRow base e sz v n xs := by
  refine ⟨ho.1, ?_⟩
  rcases ho.2 with h0 | ⟨g, cap, cur, e1, e2, e3, e4⟩
  · exact Or.inl h0
  · subst e1
    have := h1 g rfl
    exact Or.inr ⟨g, cap, cur, rfl, e2, (h.2.2.2.2 g (ho.lt g rfl).2 this.1 this.2).trans e3, e4⟩
theorem Turn2.row {α : Type} {f : α → Value} {w w' : World} {o1 o2 : Option Nat} {a : Option Addr} {xs : List α} (h : Turn2 w w' o1 o2) (hr : RowAt f w a xs) (h1 : ∀ p : Addr, a = some p → some p.block ≠ o1 ∧ some p.block ≠ o2) : RowAt f w' a xs := by
  intro j hj
  obtain ⟨b, off, e, hlt, hc⟩ := hr j hj
  have := h1 _ e
  exact ⟨b, off, e, Nat.lt_of_lt_of_le hlt h.2.2.2.1, by rw [World.cell?_of_block (w := w) (a := ⟨b, off + j, none⟩) (h.2.2.2.2 b hlt this.1 this.2)]; exact hc⟩

theorem markI_nilK (K : Nat) (c : Nat) (w : World) (hK : K ≤ 1048576) : Calls Try.prog 34 #[.slice none 0 c, .int .i64 ((K : Int) + 1)] w fun e w' => e = .returned (.int .i64 ((K : Int) + 1)) ∧ w = w' := by
  go_enter Try.func34, Try.ntmps34
  go_wp2
  refine wp_loop_rounds 1 ?_
  rw [rounds_succ]
  go_wp2
  go_ret
  exact ⟨rfl, rfl⟩

theorem markS_own (B : Nat) (a : Option Addr) (n c : Nat) (vs : List Value) (w : World) (hn : n ≤ 1048576) (hown : w.ownsRow B 9 1 (.slice a n c) n vs) :
    Calls Try.prog 68 #[.slice a n c, .int .i64 1] w fun e w' => e = .returned (.int .i64 ((n : Int) + 1)) ∧ w'.ownsRow B 9 1 (.slice a n c) n (strV (mtL n)) ∧ w.grownBy w' (Value.slice a n c).ownBlock := by
  rcases hown.2 with ⟨e, h0⟩ | ⟨g, cap, cur, e1, e2⟩
  · simp only [Value.slice.injEq] at e
    obtain ⟨rfl, rfl, rfl⟩ := e
    refine (markS_nil 0 w).mono ?_
    rintro e w' ⟨rfl, rfl⟩
    exact ⟨rfl, World.ownsRow_nil _ _ _ _, World.grownBy.refl w _⟩
  · simp only [Value.slice.injEq] at e1
    obtain ⟨rfl, _, rfl⟩ := e1
    exact markSB B g n c vs w hn hown
theorem markI_own (B : Nat) (a : Option Addr) (n c K : Nat) (vs : List Value) (w : World) (hK : K ≤ 1048576) (hn : n ≤ 1048576) (hown : w.ownsRow B 3 1 (.slice a n c) n vs) :
    Calls Try.prog 34 #[.slice a n c, .int .i64 ((K : Int) + 1)] w fun e w' => e = .returned (.int .i64 ((K : Int) + (n : Int) + 1)) ∧ w'.ownsRow B 3 1 (.slice a n c) n (intV (miK K n)) ∧ w.grownBy w' (Value.slice a n c).ownBlock := by
  rcases hown.2 with ⟨e, h0⟩ | ⟨g, cap, cur, e1, e2⟩
  · simp only [Value.slice.injEq] at e
    obtain ⟨rfl, rfl, rfl⟩ := e
    refine (markI_nilK K 0 w hK).mono ?_
    rintro e w' ⟨rfl, rfl⟩
    exact ⟨by simp, World.ownsRow_nil _ _ _ _, World.grownBy.refl w _⟩
  · simp only [Value.slice.injEq] at e1
    obtain ⟨rfl, _, rfl⟩ := e1
    exact markIB B g n c vs w K hK hn hown

set_option maxRecDepth 100000 in
set_option maxHeartbeats 1600000 in
theorem markKnown_is (B : Nat) (a b : Option Addr) (n m ca cb : Nat) (vs us : List Value) (w : World) (hn : n ≤ 1048576) (hm : m ≤ 1048576) (ho : w.ownsRow B 9 1 (.slice a n ca) n vs) (hp : w.ownsRow B 3 1 (.slice b m cb) m us) :
    Calls Try.prog 28 #[.agg #[.slice a n ca, .slice b m cb], .int .i64 1] w fun e w' => e = .returned (.int .i64 ((n : Int) + (m : Int) + 1)) ∧ w'.ownsRow B 9 1 (.slice a n ca) n (strV (mtL n)) ∧ w'.ownsRow B 3 1 (.slice b m cb) m (intV (miK n m)) ∧ Turn2 w w' (Value.slice a n ca).ownBlock (Value.slice b m cb).ownBlock := by
  obtain ⟨W1, hW1⟩ : ∃ W1, w.alloc (.cells #[.slice a n ca, .slice b m cb] 27) = W1 := ⟨_, rfl⟩
  have hb0 : Below w.heap.size w W1 := by rw [← hW1]; exact (Below.refl _ _).alloc (Nat.le_refl _) _
  have hz : Hid (W1.heap.size = w.heap.size + 1) := by show W1.heap.size = w.heap.size + 1; rw [← hW1]; simp
  have c0 : W1.cell? ⟨w.heap.size, 0, none⟩ = some (.slice a n ca) := by rw [← hW1]; simp [go_sem]
  have c1 : W1.cell? ⟨w.heap.size, 1, none⟩ = some (.slice b m cb) := by rw [← hW1]; simp [go_sem]
  have H1 := markS_own B a n ca vs W1 hn (own_later ho hb0)
  have hlt1 : ∀ k, (Value.slice a n ca).ownBlock = some k → k < w.heap.size := fun k hk => (ho.lt k hk).2
  have hlt2 : ∀ k, (Value.slice b m cb).ownBlock = some k → k < w.heap.size := fun k hk => (hp.lt k hk).2
  go_enter Try.func28, Try.ntmps28
  go_wp2_with fail
  try rw [hW1]
  refine H1.mono ?_
  clear hW1 H1
  rintro e w1 ⟨rfl, ho1, hg1⟩
  have hp1 : w1.ownsRow B 3 1 (.slice b m cb) m us := World.ownsRow.kept (own_later hp hb0) hg1 (by
    rcases hh : (Value.slice b m cb).ownBlock with _ | k
    · exact Or.inl rfl
    · right
      intro e
      rcases own_ne ho hp with h | h
      · rw [h] at e; cases e
      · rw [hh] at h; exact h e.symm)
  have c1' : w1.cell? ⟨w.heap.size, 1, none⟩ = some (.slice b m cb) := by
    rw [World.cell?_of_block (w := W1) (a := ⟨w.heap.size, 1, none⟩) (hg1.block w.heap.size (by have := hz.out; omega) (fun e => by have := hlt1 _ e.symm; omega))]; exact c1
  have H2 := markI_own B b m cb n us w1 hn hm hp1
  go_wp2_with fail
  refine H2.mono ?_
  rintro e w2 ⟨rfl, hp2, hg2⟩
  have ho2 := World.ownsRow.kept ho1 hg2 (own_ne ho hp)
  have T : Turn2 w w2 (Value.slice a n ca).ownBlock (Value.slice b m cb).ownBlock :=
    ⟨hg2.os.trans (hg1.os.trans hb0.os), hg2.tape.trans (hg1.tape.trans hb0.tape), hg2.output.trans (hg1.output.trans hb0.output), Nat.le_trans hb0.size (Nat.le_trans hg1.size hg2.size),
      fun k hk h1 h2 => (hg2.block k (Nat.lt_of_lt_of_le hk (Nat.le_trans hb0.size hg1.size)) h2).trans ((hg1.block k (Nat.lt_of_lt_of_le hk hb0.size) h1).trans (hb0.block k hk))⟩
  clear H2 hg1 hg2 hp1 ho1
  go_wp2
  go_ret
  exact ⟨rfl, ho2, hp2, T⟩

set_option maxRecDepth 100000 in
set_option maxHeartbeats 1600000 in
theorem heldKnown_is (a b : Option Addr) (n m ca cb : Nat) (w : World) (hn : n ≤ 1048576) (hm : m ≤ 1048576) (ho : RowAt Value.string w a (mtL n)) (hp : RowAt (Value.int .i64) w b (miK n m)) :
    Calls Try.prog 29 #[.agg #[.slice a n ca, .slice b m cb], .int .i64 1] w fun e w' => e = .returned (.int .i64 ((n : Int) + (m : Int) + 1)) ∧ Below w.heap.size w w' := by
  obtain ⟨W1, hW1⟩ : ∃ W1, w.alloc (.cells #[.slice a n ca, .slice b m cb] 27) = W1 := ⟨_, rfl⟩
  have hb0 : Below w.heap.size w W1 := by rw [← hW1]; exact (Below.refl _ _).alloc (Nat.le_refl _) _
  have hz : Hid (W1.heap.size = w.heap.size + 1) := by show W1.heap.size = w.heap.size + 1; rw [← hW1]; simp
  have c0 : W1.cell? ⟨w.heap.size, 0, none⟩ = some (.slice a n ca) := by rw [← hW1]; simp [go_sem]
  have c1 : W1.cell? ⟨w.heap.size, 1, none⟩ = some (.slice b m cb) := by rw [← hW1]; simp [go_sem]
  have H1 := heldSB a n ca W1 hn (ho.later hb0)
  go_enter Try.func29, Try.ntmps29
  go_wp2_with fail
  try rw [hW1]
  refine H1.mono ?_
  clear hW1 H1
  rintro e w1 ⟨rfl, hb1⟩
  have hb2 := hb0.trans (hb1.mono hb0.size)
  have c1' := (hb1.cell (p := ⟨w.heap.size, 1, none⟩) (by have := hz.out; show w.heap.size < _; omega)).trans c1
  have H2 := heldIB b m cb w1 n hn hm (hp.later hb2)
  have d1 : ¬ (n : Int) + 1 < 0 := by omega
  have d2 : ¬ (n : Int) + (m : Int) + 1 < 0 := by omega
  go_wp2_with fail
  refine H2.mono ?_
  rintro e w2 ⟨rfl, hb3⟩
  go_wp2
  go_ret
  exact ⟨rfl, hb2.trans (hb3.mono hb2.size)⟩
end Go.Proofs.Ytkekfogepdhjhaa
